/- What is told of a world: the records of its disk, in order, what each was answered; what hands got is what they were told; plain mathematics, no condition. -/
import Derived.Test.YtabafikicbkkdaaGreatDoorSU13
import Derived.Test.YtabafikicbkkdaaGreatDoorSU12
import Derived.Test.YtabafikicbkkdaaGreatDoorSU1
import Derived.Test.YtabafikicbkkdaaGreatDoorSU3
import Derived.Test.YtabafikicbkkdaaGreatDoorSU2
namespace Go.Proofs.YtabafikicbkkdaaGreatDoor
open Go.RowKit
set_option linter.unusedVariables false
set_option maxHeartbeats 1000000
set_option maxRecDepth 100000
set_option linter.unusedSimpArgs false
def cntR (A:List PR) (j:Int):Nat:=(A.filter fun r=>decide (r.w=j)).length
theorem cntR_app (A B:List PR) (j:Int):cntR (A++B) j=cntR A j + cntR B j:=by simp [cntR]
theorem cntR_one (r:PR) (j:Int):cntR [r] j=if r.w=j then 1 else 0:=by
 unfold cntR
 by_cases c:r.w=j<;>simp [c]
theorem cntR_take (A:List PR) (j:Int) (i:Nat):cntR (A.take i) j≤cntR A j:=by
 conv=>rhs;rw [← List.take_append_drop i A]
 rw [cntR_app]
 omega
theorem take_succ_of {α:Type} {A:List α} {i:Nat} {r:α} (h:A[i]?=some r):A.take (i + 1)=A.take i++[r]:=by
 obtain ⟨h1,h2⟩:=List.getElem?_eq_some_iff.1 h
 rw [List.take_succ_eq_append_getElem h1,h2]
structure Log (A:List PR) (H:PH) (T:List PA):Prop where
 rep:replayF freshH A=(H,0)
 told:T=toldF freshH A
 len:T.length=A.length
 right:∀ r∈A,checkR r=0
 ok:checkH H=0
 cnt:∀ j:Nat,j < 3→(lastH H (j:Int)).s=(cntR A (j:Int):Int)
 num:∀ (i:Nat) (r:PR),A[i]?=some r→r.s=(cntR (A.take i) r.w:Int) + 1
 last:∀ j:Nat,j < 3→0 < (lastH H (j:Int)).s→∃ (i:Nat) (r:PR),A[i]?=some r∧r.w=(j:Int)∧r.s=(lastH H (j:Int)).s∧T[i]?=some (lastH H (j:Int)).a
theorem lastH_fresh (j:Nat) (hj:j < 3):lastH freshH (j:Int)=zeroL:=by
 match j,hj with
 |0,_=>rfl
 |1,_=>rfl
 |2,_=>rfl
theorem Log.nil:Log [] freshH []:=by
 refine ⟨rfl,rfl,rfl,by simp,checkH_fresh,fun j hj=>?_,by simp,fun j hj h=>?_⟩
 ·rw [lastH_fresh j hj];rfl
 ·rw [lastH_fresh j hj] at h;exact absurd h (by decide)
theorem Log.snoc {A:List PR} {H:PH} {T:List PA} {r:PR} (h:Log A H T) (k:(nextH H r).2.2=0) (e:r.s=(lastH H r.w).s + 1):Log (A++[r]) (nextH H r).1 (T++[(nextH H r).2.1]):=by
 obtain ⟨n1,n2,n3⟩:=next_stands k
 obtain ⟨i,hi,hi3⟩:=rec_who n2
 have hget:∀ (i':Nat) (r':PR),(A++[r])[i']?=some r'→(A[i']?=some r'∧i' < A.length)∨(i'=A.length∧r'=r):=fun i' r' q=>by
  by_cases c:i' < A.length
  ·rw [List.getElem?_append_left c] at q
   exact .inl ⟨q,c⟩
  ·rw [List.getElem?_append_right (by omega)] at q
   have:=(List.getElem?_eq_some_iff.1 q).1
   have h0:i' - A.length=0:=by simp at this;omega
   rw [h0] at q
   simp at q
   exact .inr ⟨by omega,q.symm⟩
 refine ⟨?_,?_,by simp [h.len],?_,n1,fun j hj=>?_,fun i' r' q=>?_,fun j hj hp=>?_⟩
 ·rw [replay_app _ _ _ (by rw [h.rep]),h.rep,replay_cons,if_neg (by simp [k])]
  rfl
 ·rw [told_app _ _ _ (by rw [h.rep]),h.rep,h.told]
 ·intro x hx
  rcases List.mem_append.1 hx with hx|hx
  ·exact h.right x hx
  ·simp at hx;rw [hx];exact n2
 ·rw [next_last k hj,cntR_app,cntR_one]
  by_cases c:r.w=(j:Int)
  ·rw [if_pos c,if_pos c]
   have h1:=h.cnt j hj
   rw [c] at e
   simp only
   omega
  ·rw [if_neg c,if_neg c,h.cnt j hj]
   rfl
 ·rcases hget i' r' q with ⟨q1,q2⟩|⟨rfl,rfl⟩
  ·rw [List.take_append_of_le_length (by omega)]
   exact h.num i' r' q1
  ·rw [List.take_append_of_le_length (Nat.le_refl _),List.take_length,e,hi,h.cnt i hi3]
 ·rw [next_last k hj] at hp ⊢
  by_cases c:r.w=(j:Int)
  ·rw [if_pos c] at hp ⊢
   exact ⟨A.length,r,by simp,c,rfl,by rw [← h.len];simp⟩
  ·rw [if_neg c] at hp ⊢
   obtain ⟨i',r',q1,q2,q3,q4⟩:=h.last j hj hp
   have hl:=(List.getElem?_eq_some_iff.1 q1).1
   exact ⟨i',r',by rw [List.getElem?_append_left hl];exact q1,q2,q3,by rw [List.getElem?_append_left (by rw [h.len];exact hl)];exact q4⟩
theorem Log.once {A:List PR} {H:PH} {T:List PA} (h:Log A H T) {i i':Nat} {r r':PR} (e:A[i]?=some r) (e':A[i']?=some r') (hw:r.w=r'.w) (hs:r.s=r'.s):i=i':=by
 have key:∀ (i i':Nat) (r r':PR),A[i]?=some r→A[i']?=some r'→r.w=r'.w→r.s=r'.s→¬ i < i':=by
  intro i i' r r' e e' hw hs hlt
  have h1:=h.num i r e
  have h2:=h.num i' r' e'
  have h3:cntR (A.take (i + 1)) r.w≤cntR (A.take i') r.w:=by
   have:=cntR_take (A.take i') r.w (i + 1)
   rwa [List.take_take,Nat.min_eq_left (by omega)] at this
  rw [take_succ_of e,cntR_app,cntR_one,if_pos rfl] at h3
  rw [hw] at h1 h3
  omega
 have h1:=key i i' r r' e e' hw hs
 have h2:=key i' i r' r e' e hw.symm hs.symm
 omega
theorem Log.most {A:List PR} {H:PH} {T:List PA} (h:Log A H T) {i:Nat} {r:PR} (e:A[i]?=some r):r.s≤(lastH H r.w).s:=by
 obtain ⟨j,hj,hj3⟩:=rec_who (h.right r (List.mem_of_getElem? e))
 have h1:=h.num i r e
 have h3:=cntR_take A r.w (i + 1)
 rw [take_succ_of e,cntR_app,cntR_one,if_pos rfl] at h3
 rw [hj,h.cnt j hj3,← hj]
 omega
structure Saga (x:PW) (A:List PR) (H:PH) (T:List PA):Prop where
 right:checkW x=0
 log:Log A H T
 disk:x.d=⟨textL A,[]⟩
 len:A.length≤80
 hall:x.u=true→x.h=H
 ask:∀ m∈x.m,m.b=false→m.s≤(handW x m.w).s
 back:∀ m∈x.m,m.b=true→∃ (i:Nat) (r:PR),A[i]?=some r∧r.w=m.w∧r.s=m.s∧T[i]?=some m.a
 upto:∀ j:Nat,j < 3→((handW x (j:Int)).g.length:Int)≤(lastH H (j:Int)).s∧(lastH H (j:Int)).s≤(handW x (j:Int)).s
 got:∀ (i:Nat) (r:PR),A[i]?=some r→∀ n:Nat,r.s=(n:Int) + 1→n < (handW x r.w).g.length→(handW x r.w).g[n]?=T[i]?
theorem checkW_fresh:checkW freshW=0:=by decide +kernel
theorem Saga.fresh:Saga freshW [] freshH []:=by
 refine ⟨checkW_fresh,Log.nil,rfl,by simp,fun _=>rfl,by simp [freshW],by simp [freshW],fun j hj=>?_,by simp⟩
 rw [lastH_fresh j hj]
 match j,hj with
 |0,_=>exact ⟨by decide,by decide⟩
 |1,_=>exact ⟨by decide,by decide⟩
 |2,_=>exact ⟨by decide,by decide⟩
theorem Saga.gone {x:PW} {A:List PR} {H:PH} {T:List PA} (h:Saga x A H T) (j:Nat):Saga (goneW x j) A H T:=
 ⟨gone_right h.right j,h.log,h.disk,h.len,h.hall,fun m hm hb=>h.ask m (List.mem_of_mem_eraseIdx hm) hb,fun m hm hb=>h.back m (List.mem_of_mem_eraseIdx hm) hb,h.upto,h.got⟩
theorem Saga.post {x:PW} {A:List PR} {H:PH} {T:List PA} {m:PM} (h:Saga x A H T) (hm:checkM m=0) (ha:m.b=false→m.s≤(handW x m.w).s) (hb:m.b=true→∃ (i:Nat) (r:PR),A[i]?=some r∧r.w=m.w∧r.s=m.s∧T[i]?=some m.a):Saga (postW x m) A H T:=by
 obtain ⟨p1,p2,p3,p4,p5,p6,p7⟩:=post_same x m
 have hh:∀ j,handW (postW x m) j=handW x j:=fun j=>by unfold handW;rw [p4]
 refine ⟨post_right h.right hm,h.log,by rw [p2];exact h.disk,h.len,fun e=>by rw [p1];exact h.hall (by rwa [p3] at e),fun y hy e=>?_,fun y hy e=>?_,fun j hj=>by rw [hh];exact h.upto j hj,fun i r e n en hn=>by rw [hh] at hn ⊢;exact h.got i r e n en hn⟩
 ·rw [hh]
  rcases mem_post hy with q|rfl
  ·exact h.ask y q e
  ·exact ha e
 ·rcases mem_post hy with q|rfl
  ·exact h.back y q e
  ·exact hb e
theorem handW_set {x:PW} (k:x.n.length=3) {j:Int} (hj:0≤j∧j≤2) (h:PN) {i:Int} (hi:0≤i):handW (setW x j h) i=if i=j then h else handW x i:=by
 unfold handW setW
 simp only [List.getD]
 by_cases c:i=j
 ·subst c
  rw [if_pos rfl,List.getElem?_set_self (by omega)]
  rfl
 ·rw [if_neg c,List.getElem?_set_ne (by omega)]
theorem Saga.hear {x:PW} {A:List PR} {H:PH} {T:List PA} {m:PM} (h:Saga x A H T) (hm:checkM m=0) (hb:∃ (i:Nat) (r:PR),A[i]?=some r∧r.w=m.w∧r.s=m.s∧T[i]?=some m.a) (k:(hearN (handW x m.w) m.s m.a).2=0):Saga (setW x m.w (hearN (handW x m.w) m.s m.a).1) A H T:=by
 obtain ⟨r1,r2,r3⟩:=hear_right k
 have hmw:=(checkM_facts hm).1
 have h3:=(checkW_ok h.right).1
 by_cases c:(handW x m.w).w=false∨(handW x m.w).s≠m.s
 ·rw [hear_deaf r1 r2 c]
  have e:setW x m.w (handW x m.w)=x:=by
   unfold setW
   have:=(hand_mem h.right hmw).1
   obtain ⟨g1,g2⟩:=List.getElem?_eq_some_iff.1 this
   rw [← g2,List.set_getElem_self]
  rw [e]
  exact h
 ·simp only [not_or,Bool.not_eq_false,Decidable.not_not] at c
  obtain ⟨c1,c2⟩:=c
  obtain ⟨e1,e2⟩:=hear_ok r1 c1 r2
  obtain ⟨w1,w2,w3⟩:=waits_facts r1 c1
  obtain ⟨i0,r0,b1,b2,b3,b4⟩:=hb
  rw [c2] at e1
  rw [e1]
  have hs:∀ j:Int,0≤j→handW (setW x m.w ⟨m.s,false,zeroC,(handW x m.w).g++[m.a]⟩) j=if j=m.w then ⟨m.s,false,zeroC,(handW x m.w).g++[m.a]⟩ else handW x j:=fun j hj=>handW_set h3 hmw _ hj
  refine ⟨set_right h.right (by rw [← c2];exact e2),h.log,h.disk,h.len,h.hall,fun y hy e=>?_,h.back,fun j hj=>?_,fun i r e n en hn=>?_⟩
  ·have hy0:=(checkM_facts ((checkW_ok h.right).2.2.1 y hy)).1.1
   rw [hs y.w hy0]
   have:=h.ask y hy e
   split
   ·rename_i q;rw [q,c2] at this;exact this
   ·exact this
  ·rw [hs j (by omega)]
   have hu:=h.upto j hj
   split
   ·rename_i q
    have hmost:=h.log.most b1
    rw [b2,← q,b3] at hmost
    rw [q] at hu hmost
    simp only [List.length_append,List.length_singleton]
    rw [q]
    omega
   ·exact hu
  ·have hr0:=(checkR_facts (h.log.right r (List.mem_of_getElem? e))).1.1
   rw [hs r.w hr0] at hn ⊢
   split at hn
   ·rename_i q
    rw [if_pos q]
    simp only [List.length_append,List.length_singleton] at hn ⊢
    by_cases cn:n < (handW x m.w).g.length
    ·rw [List.getElem?_append_left cn,← q]
     exact h.got i r e n en (by rw [q];exact cn)
    ·have hn':n=(handW x m.w).g.length:=by omega
     have:i=i0:=h.log.once e b1 (by rw [q,b2]) (by rw [en,b3,← c2,w2,hn'])
     subst this
     rw [b4,hn']
     simp
   ·rename_i q
    rw [if_neg q]
    exact h.got i r e n en hn
theorem Saga.done {x:PW} {A:List PR} {H:PH} {T:List PA} {r:PR} (h:Saga x A H T) (hu:x.u=true) (hA:A.length < 80) (hn:(nextH x.h r).2.2=0) (hs:r.s=(lastH x.h r.w).s + 1) (ha:r.s≤(handW x r.w).s) :
  Saga {x with h:=(nextH x.h r).1,d:=⟨textL (A++[r]),[]⟩} (A++[r]) (nextH x.h r).1 (T++[(nextH x.h r).2.1]):=by
 have hH:=h.hall hu
 obtain ⟨l1,l2,l3⟩:=logged_right h.right hu hA h.log.right (by rw [hH];exact h.log.rep) hn
 have hl:Log (A++[r]) (nextH x.h r).1 (T++[(nextH x.h r).2.1]):=by
  rw [hH] at hn hs ⊢
  exact h.log.snoc hn hs
 have old:∀ (i:Nat) (r':PR),A[i]?=some r'→(A++[r])[i]?=some r'∧(T++[(nextH x.h r).2.1])[i]?=T[i]?:=fun i r' q=>by
  have:=(List.getElem?_eq_some_iff.1 q).1
  exact ⟨by rw [List.getElem?_append_left this];exact q,by rw [List.getElem?_append_left (by rw [h.log.len];exact this)]⟩
 refine ⟨l1,hl,rfl,by simp;omega,fun _=>rfl,h.ask,fun m hm hb=>?_,fun j hj=>?_,fun i r' q n en hn'=>?_⟩
 ·obtain ⟨i,r',q1,q2,q3,q4⟩:=h.back m hm hb
  obtain ⟨o1,o2⟩:=old i r' q1
  exact ⟨i,r',o1,q2,q3,by rw [o2];exact q4⟩
 ·have hj':=h.upto j hj
  rw [next_last hn hj,← hH] at *
  show ((handW x (j:Int)).g.length:Int)≤_∧_≤(handW x (j:Int)).s
  by_cases c:r.w=(j:Int)
  ·rw [if_pos c]
   simp only
   rw [c] at hs ha
   omega
  ·rw [if_neg c]
   exact hj'
 ·by_cases c:i < A.length
  ·rw [List.getElem?_append_left c] at q
   rw [(old i r' q).2]
   exact h.got i r' q n en hn'
  ·rw [List.getElem?_append_right (by omega)] at q
   have hz:=(List.getElem?_eq_some_iff.1 q).1
   have h0:i - A.length=0:=by simp at hz;omega
   rw [h0] at q
   simp at q
   subst q
   obtain ⟨j,hj,hj3⟩:=rec_who (nextH_ok hn).2.1
   have hup:=(h.upto j hj3).1
   rw [← hj,← hH] at hup
   have hn2:n < (handW x r.w).g.length:=hn'
   omega
end Go.Proofs.YtabafikicbkkdaaGreatDoor
namespace Go.Proofs.YtabafikicbkkdaaGreatDoor
open Go.RowKit
set_option linter.unusedVariables false
set_option maxHeartbeats 1000000
set_option maxRecDepth 100000
set_option linter.unusedSimpArgs false
def Grows (A:List PR) (T:List PA) (A':List PR) (T':List PA):Prop:=(A'=A∧T'=T)∨∃ r a,A'=A++[r]∧T'=T++[a]
theorem textL_inj {A B:List PR} (ha:∀ r∈A,checkR r=0) (hb:∀ r∈B,checkR r=0) (la:A.length≤80) (lb:B.length≤80) (h:textL A=textL B):A=B:=by
 have h1:=recK_again ha la
 have h2:=recK_again hb lb
 rw [h] at h1
 exact (congrArg (fun x=>x.2.1) (h1.symm.trans h2))
theorem Saga.asked {x:PW} {A:List PR} {H:PH} {T:List PA} {m:PM} (h:Saga x A H T) (hu:x.u=true) (hb:m.b=false) (hm:checkM m=0) (ha:m.s≤(handW x m.w).s):∃ A' H' T',Saga (askedW x m) A' H' T'∧Grows A T A' T':=by
 have hmw:=(checkM_facts hm).1
 have hms:=(checkM_facts hm).2.1
 rcases asked_cases h.right hu hb hm with q|⟨q1,q2,q3⟩|⟨q1,q2,B,e1,e2,e3,e4,e5⟩
 ·rw [q]
  exact ⟨A,H,T,h,.inl ⟨rfl,rfl⟩⟩
 ·rw [q3]
  have hn:(nextH x.h ⟨m.w,m.s,m.c⟩).2.2=0:=by rw [q2]
  have haa:=next_answer hn
  rw [q2] at haa
  refine ⟨A,H,T,h.post (checkM_mk hmw hms (fun _=>⟨rfl,haa⟩) (fun e=>by cases e)) (fun e=>by cases e) (fun _=>?_),.inl ⟨rfl,rfl⟩⟩
  obtain ⟨j,hj,hj3⟩:∃ j:Nat,m.w=j∧j < 3:=⟨m.w.toNat,by omega,by omega⟩
  have hH:=h.hall hu
  rw [hH,hj] at q1
  obtain ⟨i,r,g1,g2,g3,g4⟩:=h.log.last j hj3 (by omega)
  exact ⟨i,r,g1,by rw [g2];exact hj.symm,by rw [g3];exact q1.symm,by rw [g4,hH,hj]⟩
 ·have hBA:B=A:=textL_inj e3 h.log.right (by omega) h.len (by have:=e1.symm.trans h.disk;exact congrArg PK.s this)
  subst hBA
  rw [e5]
  have hd:=h.done hu e2 q2 q1 ha
  refine ⟨_,_,_,hd.post (checkM_mk hmw hms (fun _=>⟨rfl,next_answer q2⟩) (fun e=>by cases e)) (fun e=>by cases e) (fun _=>⟨B.length,⟨m.w,m.s,m.c⟩,by simp,rfl,rfl,?_⟩),.inr ⟨_,_,rfl,rfl⟩⟩
  rw [← h.log.len]
  simp
theorem Saga.comes {x:PW} {A:List PR} {H:PH} {T:List PA} {m:PM} (h:Saga x A H T) (hm:checkM m=0) (ha:m.b=false→m.s≤(handW x m.w).s) (hb:m.b=true→∃ (i:Nat) (r:PR),A[i]?=some r∧r.w=m.w∧r.s=m.s∧T[i]?=some m.a) (k:(comesW x m).2=0):∃ A' H' T',Saga (comesW x m).1 A' H' T'∧Grows A T A' T':=by
 unfold comesW at k ⊢
 cases e:m.b with
 |true=>
  rw [e,if_pos rfl] at k
  rw [if_pos rfl]
  split at k
  ·rename_i q;exact absurd k q
  ·rename_i q
   rw [if_neg q]
   exact ⟨A,H,T,h.hear hm (hb e) (by simpa using q),.inl ⟨rfl,rfl⟩⟩
 |false=>
  rw [e,if_neg (by simp)] at k
  rw [if_neg (by simp)]
  split at k
  ·cases k
  ·rename_i q
   rw [if_neg q]
   exact h.asked (by simpa using q) e hm (ha e)
theorem Saga.step {x:PW} {A:List PR} {H:PH} {T:List PA} {e:PX} (h:Saga x A H T) (k:(doW x e).2=0):∃ A' H' T',Saga (doW x e).1 A' H' T'∧Grows A T A' T':=by
 have hy:=(world_keeps k).2.1
 obtain ⟨hx,he⟩:=doW_right k
 obtain ⟨h1,h2,h3,h4,h5,h6,h7⟩:=checkW_ok hx
 rw [he] at k hy ⊢
 rcases happen_cases hx k with ⟨m,⟨n1,n2⟩,hm,⟨c,q⟩|⟨c,q⟩|⟨c,q⟩⟩|⟨c,hu,q⟩|⟨c,hu,hr,q⟩|⟨c,hw,ha,q⟩|⟨c,hw,ha,q⟩
 ·rw [q]
  exact ⟨A,H,T,h.gone _,.inl ⟨rfl,rfl⟩⟩
 ·rw [q] at k ⊢
  have hmm:=List.mem_of_getElem? hm
  exact h.comes (h3 m hmm) (h.ask m hmm) (h.back m hmm) k
 ·rw [q] at k ⊢
  have hmm:=List.mem_of_getElem? hm
  exact (h.gone e.n.toNat).comes (h3 m hmm) (h.ask m hmm) (h.back m hmm) k
 ·rw [q] at hy ⊢
  exact ⟨A,H,T,⟨hy,h.log,h.disk,h.len,(fun e=>by cases e),h.ask,h.back,h.upto,h.got⟩,.inl ⟨rfl,rfl⟩⟩
 ·rw [q] at hy ⊢
  have e1:recK x.d=(x.d,A,0):=by rw [h.disk];exact recK_again h.log.right h.len
  have e2:replayH A=(H,0):=by unfold replayH;rw [if_neg (by have:=h.len;omega)];exact h.log.rep
  simp only [e1,e2] at hy ⊢
  exact ⟨A,H,T,⟨hy,h.log,h.disk,h.len,fun _=>rfl,h.ask,h.back,h.upto,h.got⟩,.inl ⟨rfl,rfl⟩⟩
 ·rw [q]
  obtain ⟨a1,a2,a3,a4,a5⟩:=ask_right ha
  rw [a1]
  have hs:∀ j:Int,0≤j→handW (setW x e.w ⟨(handW x e.w).s + 1,true,e.c,(handW x e.w).g⟩) j=if j=e.w then ⟨(handW x e.w).s + 1,true,e.c,(handW x e.w).g⟩ else handW x j:=fun j hj=>handW_set h1 hw _ hj
  have hg:∀ j:Int,0≤j→(handW (setW x e.w ⟨(handW x e.w).s + 1,true,e.c,(handW x e.w).g⟩) j).g=(handW x j).g∧(handW x j).s≤(handW (setW x e.w ⟨(handW x e.w).s + 1,true,e.c,(handW x e.w).g⟩) j).s:=fun j hj=>by
   rw [hs j hj]
   split
   ·rename_i q;subst q;exact ⟨rfl,by simp only;omega⟩
   ·exact ⟨rfl,Int.le_refl _⟩
  have hset:Saga (setW x e.w ⟨(handW x e.w).s + 1,true,e.c,(handW x e.w).g⟩) A H T:=by
   refine ⟨set_right hx a2,h.log,h.disk,h.len,h.hall,fun m hm hb=>?_,h.back,fun j hj=>?_,fun i r g n en hn=>?_⟩
   ·have:=(hg m.w (checkM_facts (h3 m hm)).1.1).2
    have:=h.ask m hm hb
    omega
   ·obtain ⟨g1,g2⟩:=hg j (by omega)
    have:=h.upto j hj
    rw [g1]
    omega
   ·have g1:=(hg r.w (checkR_facts (h.log.right r (List.mem_of_getElem? g))).1.1).1
    rw [g1] at hn ⊢
    exact h.got i r g n en hn
  refine ⟨A,H,T,hset.post (checkM_mk hw (by simp only;omega) (fun e=>by cases e) (fun _=>⟨rfl,a4⟩)) (fun _=>?_) (fun e=>by cases e),.inl ⟨rfl,rfl⟩⟩
  rw [hs e.w hw.1,if_pos rfl]
  exact Int.le_refl _
 ·rw [q]
  obtain ⟨w1,w2,w3⟩:=waits_facts (hand_mem hx hw).2 ha
  exact ⟨A,H,T,h.post (checkM_mk hw w1 (fun e=>by cases e) (fun _=>⟨rfl,w3⟩)) (fun _=>Int.le_refl _) (fun e=>by cases e),.inl ⟨rfl,rfl⟩⟩
theorem Saga.tells {x:PW} {A:List PR} {H:PH} {T:List PA} (h:Saga x A H T):recK x.d=(x.d,A,0)∧(replayF freshH A).2=0∧T=toldF freshH A∧T.length=A.length:=by
 refine ⟨?_,by rw [h.log.rep],h.log.told,h.log.len⟩
 rw [h.disk]
 exact recK_again h.log.right h.len
theorem Saga.order {x:PW} {A:List PR} {H:PH} {T:List PA} (h:Saga x A H T) {i:Nat} {r:PR} (e:A[i]?=some r):r.s=(cntR (A.take i) r.w:Int) + 1∧(cntR (A.take i) r.w < (handW x r.w).g.length→(handW x r.w).g[cntR (A.take i) r.w]?=T[i]?):=
 ⟨h.log.num i r e,fun hn=>h.got i r e _ (h.log.num i r e) hn⟩
theorem Saga.bounds {x:PW} {A:List PR} {H:PH} {T:List PA} (h:Saga x A H T) {j:Nat} (hj:j < 3):(handW x (j:Int)).g.length≤cntR A (j:Int)∧(cntR A (j:Int):Int)≤(handW x (j:Int)).s:=by
 have h1:=h.upto j hj
 rw [h.log.cnt j hj] at h1
 omega
end Go.Proofs.YtabafikicbkkdaaGreatDoor
namespace Go.Proofs.YtabafikicbkkdaaGreatDoor
open Go.RowKit
set_option linter.unusedVariables false
set_option maxHeartbeats 1000000
set_option maxRecDepth 100000
set_option linter.unusedSimpArgs false
def doneS (x:PW):List PR×Int:=if checkW x≠0 then ([],checkW x) else (recK x.d).2
def toldS (x:PW):List PA×Int:=if (doneS x).2≠0 then ([],(doneS x).2) else if (replayF freshH (doneS x).1).2≠0 then ([],(replayF freshH (doneS x).1).2) else (toldF freshH (doneS x).1,0)
theorem Saga.doneS {x:PW} {A:List PR} {H:PH} {T:List PA} (h:Saga x A H T):doneS x=(A,0):=by
 obtain ⟨e1,_,_,_⟩:=h.tells
 unfold Go.Proofs.YtabafikicbkkdaaGreatDoor.doneS
 rw [if_neg (by simp [h.right]),e1]
theorem Saga.toldS {x:PW} {A:List PR} {H:PH} {T:List PA} (h:Saga x A H T):toldS x=(T,0):=by
 obtain ⟨_,e2,e3,_⟩:=h.tells
 unfold Go.Proofs.YtabafikicbkkdaaGreatDoor.toldS
 rw [h.doneS,if_neg (by simp),if_neg (by simp [e2]),e3]
theorem doneS_few {x:PW} : (doneS x).1.length≤80:=by
 unfold doneS
 split
 ·simp
 ·rename_i q
  obtain ⟨_,_,_,h4,_⟩:=checkW_ok (by simpa using q)
  obtain ⟨L,e,_,hl,_⟩:=recK_facts h4
  rw [e]
  exact hl
end Go.Proofs.YtabafikicbkkdaaGreatDoor
namespace Go.Proofs.YtabafikicbkkdaaGreatDoor
open Go.RowKit
set_option linter.unusedVariables false
set_option maxHeartbeats 1000000
set_option maxRecDepth 100000
set_option linter.unusedSimpArgs false
end Go.Proofs.YtabafikicbkkdaaGreatDoor
namespace Go.Proofs.YtabafikicbkkdaaGreatDoor
open Go.RowKit
set_option linter.unusedVariables false
set_option maxHeartbeats 1000000
set_option maxRecDepth 100000
set_option linter.unusedSimpArgs false
def HandNew (r:PN×Int) (w:World) (e:Ending) (w':World):Prop:=
 (∃ h':NV,e=.returned (.tuple #[h'.v,.int .i64 r.2])∧h'.ok w'∧h'.new w.heap.size∧h'.p=r.1)∧Below w.heap.size w w'
end Go.Proofs.YtabafikicbkkdaaGreatDoor
namespace Go.Proofs.YtabafikicbkkdaaGreatDoor
open Go.RowKit
set_option linter.unusedVariables false
set_option maxHeartbeats 1000000
set_option maxRecDepth 100000
set_option linter.unusedSimpArgs false
def putAll (w:World) (g:Nat):Nat→List Value→World
 |_,[]=>w
 |o,v :: r=>putAll (w.setCell ⟨g,o,none⟩ v) g (o + 1) r
def setAll {β:Type} (L:List β):Nat→List β→List β
 |_,[]=>L
 |o,v :: r=>setAll (L.set o v) (o + 1) r
theorem putAll_but (g:Nat):∀ (vs:List Value) (w:World) (o:Nat),ButI g w (putAll w g o vs)
 |[],w,o=>ButI.refl g w
 |v :: r,w,o=>((ButI.refl g w).step o v).trans (putAll_but g r _ (o + 1))
theorem putAll_lay {g:Nat} : ∀ (vs:List Value) {w:World} {L:List Value} (o:Nat),Lay w g L→Lay (putAll w g o vs) g (setAll L o vs)
 |[],_,_,_,h=>h
 |v :: r,_,_,o,h=>putAll_lay r (o + 1) (h.set o v)
theorem putAll_row {g:Nat} {t:TypeId} {n:Nat} : ∀ (vs:List Value) {w:World} (o:Nat),(∃ cur:Array Value,w.heap[g]?=some (.cells cur t (0,0))∧cur.size=n)→∃ cur:Array Value,(putAll w g o vs).heap[g]?=some (.cells cur t (0,0))∧cur.size=n
 |[],_,_,h=>h
 |v :: r,w,o,⟨cur,e,k⟩=>putAll_row r (o + 1) ⟨_,heap_setCell_same _ _ _ _ _ _ e,by simpa using k⟩
theorem setAll_app {β:Type} : ∀ (vs P A R:List β),A.length=vs.length→setAll (P++(A++R)) P.length vs=P++(vs++R)
 |[],P,A,R,h=>by
  have:A=[]:=List.eq_nil_of_length_eq_zero h
  subst this
  rfl
 |v :: r,P,[],R,h=>by cases h
 |v :: r,P,a :: A,R,h=>by
  have e:(P++(a :: A++R)).set P.length v=(P++[v])++(A++R):=by simp
  have:=setAll_app r (P++[v]) A R (by simpa using h)
  rw [List.length_append] at this
  rw [setAll,e,show P.length + 1=P.length + [v].length from rfl,this]
  simp
theorem setAll_all {β:Type} (A vs:List β) (h:A.length=vs.length):setAll A 0 vs=vs:=by
 have:=setAll_app vs [] A [] h
 simpa using this
theorem Lay.fill {w:World} {g:Nat} {L:List Value} (h:Lay w g L) {vs:List Value} (e:L.length=vs.length):Lay (putAll w g 0 vs) g vs:=by
 have:=putAll_lay vs 0 h
 rwa [setAll_all L vs e] at this
theorem Kin.cells_put {α:Type} {K:Kin α} (X:List α) (i:Nat) (x:α) (h:i < X.length):setAll (K.cells X) (i * K.k) (K.cs x)=K.cells (X.set i x):=by
 have e:K.cells X=K.cells (X.take i)++(K.cs X[i]++K.cells (X.drop (i + 1))):=by
  rw [← Kin.cells_cons,← Kin.cells_app,← List.drop_eq_getElem_cons h,List.take_append_drop]
 have e2:K.cells (X.set i x)=K.cells (X.take i)++(K.cs x++K.cells (X.drop (i + 1))):=by
  rw [← Kin.cells_cons,← Kin.cells_app,List.set_eq_take_append_cons_drop,if_pos h]
 have l:(K.cells (X.take i)).length=i * K.k:=by rw [Kin.cells_len,List.length_take,Nat.min_eq_left (by omega)]
 rw [e,e2,← l]
 exact setAll_app _ _ _ _ (by rw [K.len,K.len])
theorem MineR.put {α:Type} {K:Kin α} {t:TypeId} {w:World} {g:Nat} {X:List α} (h:MineR K t w g X) {i:Nat} (hi:i < X.length) {x:α} (hx:K.ok w x) (hn:∀ y∈X,K.off g y) (ho:K.off g x) :
  MineR K t (putAll w g (i * K.k) (K.cs x)) g (X.set i x):=by
 have hb:=putAll_but g (K.cs x) w (i * K.k)
 refine ⟨by rw [← Kin.cells_put X i x hi];exact putAll_lay _ _ h.lay,fun z hz=>?_,by rw [List.length_set];exact putAll_row _ _ h.row⟩
 rcases List.mem_or_eq_of_mem_set hz with hz|rfl
 ·exact K.but (h.ok z hz) hb.but (hn z hz)
 ·exact K.but hx hb.but ho
theorem take_setK {α β:Type} {p:α→β} {X X':List α} {k:Nat} {z u:α} (hz:X[k]?=some z) (hk:k < X'.length) (h:(X'.take k).map p=(X.take k).map p) (hu:p u=p z):((X'.set k u).take (k + 1)).map p=(X.take (k + 1)).map p:=by
 obtain ⟨g1,g2⟩:=List.getElem?_eq_some_iff.1 hz
 rw [List.take_succ_eq_append_getElem g1,List.take_succ_eq_append_getElem (by simpa using hk),List.map_append,List.map_append,List.take_set_of_le (Nat.le_refl k),h,g2]
 simp [hu]
theorem Kin.made {α:Type} (K:Kin α) (z:α) (zs:Array Value) (hz:zs.toList=K.cs z) (hk:0 < K.k) (n:Nat):madeCells zs (n * K.k)=(K.cells (List.replicate n z)).toArray:=by
 have hs:zs.size=K.k:=by rw [← Array.length_toList,hz,K.len]
 apply Array.ext_getElem?
 intro i
 have e:(K.cells (List.replicate n z)).toArray[i]?=(K.cells (List.replicate n z))[i]?:=by simp
 rw [e]
 by_cases h:i < n * K.k
 ·have h1:i / K.k < n:=Nat.div_lt_of_lt_mul (by rw [Nat.mul_comm];exact h)
  have hm:=Nat.mod_lt i hk
  have h2:(K.cs z)[i % K.k]?=some zs[i % K.k]!:=by
   rw [← hz,Array.getElem?_toList,getElem!_pos zs _ (by rw [hs];exact hm)]
   simp [hs,hm]
  have:=Kin.cells_get (K:=K) (List.replicate n z) (i / K.k) z (by rw [List.getElem?_replicate,if_pos h1]) _ _ h2
  rw [Nat.mul_comm,Nat.div_add_mod] at this
  rw [this]
  simp [madeCells,h,hs]
 ·rw [Array.getElem?_eq_none (by rw [size_madeCells];omega),List.getElem?_eq_none (by rw [Kin.cells_len];simp;omega)]
theorem mkR {α:Type} (K:Kin α) {P:Program} (z:α) {zs:Array Value} {ts t:TypeId} {i:TypeInfo} {v:Value} (hu:P.underlying ts=some (.slice t)) (hi:P.info? t=some i) (hz:i.zero=some v) (hv:v.cells=zs) (hc:zs.toList=K.cs z) (hs:i.size=K.k) (hb:i.bytes≤1000) (hk:0 < K.k) (n:Nat) (hn:n≤1000000) (w:World) :
  (Instr.makeSlice ts (.int .i64 (n:Int)) (.int .i64 (n:Int))).run P w=.ok (.slice (some ⟨w.heap.size,0,none⟩) n n) (w.alloc (.cells (K.cells (List.replicate n z)).toArray t)):=by
 have hr:=run_make (P:=P) w ts t i _ hu hi hz .i64 .i64 (n:Int) (n:Int) (by omega) (Int.le_refl _) (by rw [← Int.natCast_mul];exact Int.le_trans (Int.ofNat_le.2 (Nat.mul_le_mul hb hn)) (by decide)) (by omega)
 simp only [Int.toNat_natCast,hs] at hr
 rw [hr,hv,Kin.made K z zs hc hk]
theorem MineR.made {α:Type} (K:Kin α) (t:TypeId) (z:α) (hz:∀ w,K.ok w z) (n:Nat) (w:World):MineR K t (w.alloc (.cells (K.cells (List.replicate n z)).toArray t (0,0))) w.heap.size (List.replicate n z):=
 ⟨Lay.made w _ _,fun y hy=>by rw [List.eq_of_mem_replicate hy];exact hz _,⟨_,heap_new w _,by simp [Kin.cells_len]⟩⟩
structure NewK {α:Type} (K:Kin α) where
 new:Nat→α→Prop
 off:∀ {B R:Nat} {y:α},new B y→R < B→K.off R y
 mono:∀ {B B':Nat} {y:α},new B y→B'≤B→new B' y
 zero:α
 zero_new:∀ B,new B zero
 zero_ok:∀ w,K.ok w zero
abbrev Copied {α β:Type} (K:Kin α) (t:TypeId) (p:α→β) (N:NewK K) (w:World) (n:Nat) (X:List α) (e:Ending) (w':World):Prop:=
 (∃ (g:Nat) (Y:List α),e=.returned (.slice (some ⟨g,0,none⟩) n n)∧MineR K t w' g Y∧Y.length=n∧Y.map p=X.map p∧w.heap.size≤g∧∀ y∈Y,N.new (g + 1) y)∧Below w.heap.size w w'
abbrev Copy1 {α β:Type} (K:Kin α) (v:α→Value) (p:α→β) (N:NewK K) (x:α) (w:World) (e:Ending) (w':World):Prop:=
 (∃ y,e=.returned (v y)∧K.ok w' y∧N.new w.heap.size y∧p y=p x)∧Below w.heap.size w w'
theorem MineR.at {α:Type} {K:Kin α} {t:TypeId} {w:World} {g:Nat} {X:List α} (h:MineR K t w g X) {i j:Nat} (hi:i < X.length) (hj:j < K.k):∃ u,w.cell? ⟨g,i * K.k + j,none⟩=some u:=by
 have hl:j < (K.cs X[i]).length:=by rw [K.len];exact hj
 exact ⟨_,h.lay.cell _ _ (Kin.cells_get X i X[i] (List.getElem?_eq_getElem hi) j _ (List.getElem?_eq_getElem hl))⟩
theorem putAll_heap (g k:Nat) (h:k≠g):∀ (vs:List Value) (w:World) (o:Nat),(putAll w g o vs).heap[k]?=w.heap[k]?
 |[],_,_=>rfl
 |v :: r,w,o=>by rw [putAll,putAll_heap g k h r,heap_setCell_other _ _ _ _ h]
theorem MineR.away {α:Type} {K:Kin α} {t:TypeId} {w:World} {g k:Nat} {X:List α} (h:MineR K t w g X) (vs:List Value) (o:Nat) (hk:k≠g) (ho:∀ y∈X,K.off k y):MineR K t (putAll w k o vs) g X:=
 ⟨h.lay.butI (putAll_but k vs w o) (fun e=>hk e.symm),fun y hy=>K.but (h.ok y hy) (putAll_but k vs w o).but (ho y hy),by obtain ⟨cur,e,z⟩:=h.row;exact ⟨cur,by rw [putAll_heap k g (fun e=>hk e.symm)];exact e,z⟩⟩
end Go.Proofs.YtabafikicbkkdaaGreatDoor
namespace Go.Proofs.YtabafikicbkkdaaGreatDoor
open Go.RowKit
set_option linter.unusedVariables false
set_option maxHeartbeats 1000000
set_option maxRecDepth 100000
set_option linter.unusedSimpArgs false
theorem Lay.of_row {w:World} {q:Nat} {L:List Value} {t:TypeId} (h:w.heap[q]?=some (.cells L.toArray t (0,0))):Lay w q L:=
 ⟨fun i v hv=>by rw [cell_of_row w q _ _ t _ h];simpa using hv,fun j=>by simp [World.frozen?,h],(Array.getElem?_eq_some_iff.1 h).1⟩
theorem plistL_c (a:Option Addr) (n c:Nat) (l:List Int) (w:World) (h:Ints w a n c l) (hn:n≤100000) :
  Calls Tryz.prog 85 #[.slice a n c] w fun e w'=>(∃ q,e=.returned (.slice (some ⟨q,0,none⟩) n n)∧Ints w' (some ⟨q,0,none⟩) n n l∧w.heap.size≤q∧Lay w' q (cellsOf l))∧Below w.heap.size w w':=by
 have n2:(n:Int)≤100000:=by omega
 have hmk:=run_make_row' (P:=Tryz.prog) 26 3 (.int .i64 0) 8 Tryz.underlying26 infoInt rfl .i64 .i64 n (by omega) (by omega)
 go_enter Tryz.func85,Tryz.ntmps85
 go_wp2_with fail
 obtain ⟨w2,r2,g2,b2⟩:=copy_run (P:=Tryz.prog) (w.alloc (.cells (madeCells #[.int .i64 0] n) 3)) 26 26 3 3 Tryz.underlying26 sizeInt (some ⟨w.heap.size,0,none⟩) a n n n c w.heap.size 0
  (madeCells #[.int .i64 0] n).toList 3 (heap_new _ _) (cellsOf l) (by rw [cellsOf_len,h.len];exact (Nat.min_self n).symm) (fun hp=>⟨rfl,(h.below (B:=w.heap.size) (by (repeat first|exact bel0|assumption|refine bel1 ?_|refine bel2 ?_|refine bel3 ?_|refine belowT ?_ (by assumption)|refine bel5 ?_ (by simp;try omega))) (Nat.le_refl _)).src (by rw [cellsOf_len,h.len] at hp;exact hp)⟩) (by simp [size_madeCells,cellsOf_len,h.len]) (cellsOf_one l)
 rw [r2]
 have G2:=hide g2
 clear g2 r2
 go_wp2
 go_ret
 have g2:=G2.out
 rw [splice_one _ _ (by simp [size_madeCells,cellsOf_len,h.len])] at g2
 exact ⟨⟨_,rfl,Ints.of_row g2 (by rw [h.len];omega) h.wf h.len,Nat.le_refl _,Lay.of_row g2⟩,(belowA (Below.refl _ _) _).trans b2⟩
theorem plist_c (a:Option Addr) (n c:Nat) (l:List Int) (w:World) (h:Ints w a n c l) (hn:n≤100000) :
  Calls Tryz.prog 85 #[.slice a n c] w fun e w'=>(∃ q,e=.returned (.slice (some ⟨q,0,none⟩) n n)∧Ints w' (some ⟨q,0,none⟩) n n l∧w.heap.size≤q∧q < w'.heap.size)∧Below w.heap.size w w':=
 (plistL_c a n c l w h hn).mono fun e w' ⟨⟨q,h1,h2,h3,h4⟩,h5⟩=>⟨⟨q,h1,h2,h3,h4.lt⟩,h5⟩
end Go.Proofs.YtabafikicbkkdaaGreatDoor
