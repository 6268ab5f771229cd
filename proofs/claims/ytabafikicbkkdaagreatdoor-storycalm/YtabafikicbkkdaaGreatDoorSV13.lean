/- A world stays one: what a happening changes, and that mail that comes twice does what it does once; plain mathematics, no condition. -/
import Derived.Test.YtabafikicbkkdaaGreatDoorSV12
import Derived.Test.YtabafikicbkkdaaGreatDoorSV11
namespace Go.Proofs.YtabafikicbkkdaaGreatDoor
open Go.RowKit
set_option linter.unusedVariables false
set_option maxRecDepth 100000
set_option linter.unusedSimpArgs false
theorem checkM_facts {m:PM} (h:checkM m=0):(0≤m.w∧m.w≤2)∧(1≤m.s∧m.s≤40)∧(m.b=true→m.c=zeroC∧checkA m.a=0)∧(m.b=false→m.a=zeroA∧checkC m.c=0):=by
 unfold checkM at h
 split at h
 ·cases h
 ·rename_i q
  simp only [not_or,Bool.not_eq_false] at q
  refine ⟨by have:=q.1;simp [inB] at this;omega,by have:=q.2;simp [inB] at this;omega,fun e=>?_,fun e=>?_⟩
  ·rw [e,if_pos rfl] at h
   split at h
   ·cases h
   ·rename_i c
    exact ⟨(sameC_iff _ _).1 (by simpa using c),h⟩
  ·rw [e,if_neg (by simp)] at h
   split at h
   ·cases h
   ·rename_i c
    exact ⟨(sameA_iff _ _).1 (by simpa using c),h⟩
theorem checkM_mk {m:PM} (h1:0≤m.w∧m.w≤2) (h2:1≤m.s∧m.s≤40) (h3:m.b=true→m.c=zeroC∧checkA m.a=0) (h4:m.b=false→m.a=zeroA∧checkC m.c=0):checkM m=0:=by
 unfold checkM
 rw [if_neg (by simp [inB];omega)]
 cases e:m.b with
 |true=>
  obtain ⟨q1,q2⟩:=h3 e
  rw [if_pos rfl,if_neg (by simp [(sameC_iff _ _).2 q1])]
  exact q2
 |false=>
  obtain ⟨q1,q2⟩:=h4 e
  rw [if_neg (by simp),if_neg (by simp [(sameA_iff _ _).2 q1])]
  exact q2
theorem next_answer {h:PH} {r:PR} (k:(nextH h r).2.2=0):checkA (nextH h r).2.1=0:=by
 obtain ⟨h1,h2,h3⟩:=next_stands k
 obtain ⟨i,hi,hi3⟩:=rec_who h2
 obtain ⟨_,hl,hx⟩:=checkH_ok h1
 have hm:=hx _ (lastH_mem hl hi3)
 rw [← hi,h3] at hm
 exact (checkL_facts hm).2.1
theorem mail_rec {m:PM} (h:checkM m=0) (hb:m.b=false):checkR ⟨m.w,m.s,m.c⟩=0:=by
 obtain ⟨h1,h2,_,h4⟩:=checkM_facts h
 unfold checkR
 rw [if_neg (by simp [inB];omega)]
 exact (h4 hb).2
theorem asked_cases {x:PW} {m:PM} (k:checkW x=0) (hu:x.u=true) (hb:m.b=false) (hm:checkM m=0) :
  askedW x m=x∨
  (m.s=(lastH x.h m.w).s∧nextH x.h ⟨m.w,m.s,m.c⟩=(x.h,(lastH x.h m.w).a,0)∧askedW x m=postW x ⟨true,m.w,m.s,zeroC,(lastH x.h m.w).a⟩)∨
  (m.s=(lastH x.h m.w).s + 1∧(nextH x.h ⟨m.w,m.s,m.c⟩).2.2=0∧∃ A,x.d=⟨textL A,[]⟩∧A.length < 80∧(∀ r∈A,checkR r=0)∧replayF freshH A=(x.h,0)∧
   askedW x m=postW {x with h:=(nextH x.h ⟨m.w,m.s,m.c⟩).1,d:=⟨textL (A++[⟨m.w,m.s,m.c⟩]),[]⟩} ⟨true,m.w,m.s,zeroC,(nextH x.h ⟨m.w,m.s,m.c⟩).2.1⟩):=by
 by_cases hn:(nextH x.h ⟨m.w,m.s,m.c⟩).2.2=0
 ·obtain ⟨h1,h2,h3⟩:=nextH_ok hn
  rcases h3 with ⟨e,q⟩|⟨e,q⟩
  ·right;left
   refine ⟨e,q,?_⟩
   unfold askedW
   rw [if_neg (by simp [hn]),if_pos e,q]
  ·obtain ⟨A,e1,e2,e3,e4,e5⟩:=up_log k hu
   have hne:¬ m.s=(lastH x.h m.w).s:=by simp only at e;omega
   by_cases hA:A.length < 80
   ·right;right
    obtain ⟨s1,s2⟩:=sync_one e2 h2 hA
    refine ⟨e,hn,A,e1,hA,e2,e5,?_⟩
    unfold askedW
    rw [if_neg (by simp [hn]),if_neg hne,e1,s1,if_neg (by simp),s2,if_neg (by simp)]
   ·left
    unfold askedW
    rw [if_neg (by simp [hn]),if_neg hne,e1]
    have l1:=textL_len A e2
    have l3:=textR_len h2
    have p1:putK ⟨textL A,[]⟩ ⟨m.w,m.s,m.c⟩=(⟨textL A,textL [⟨m.w,m.s,m.c⟩]⟩,0):=by
     unfold putK
     rw [checkK_text e2 (by omega) (by simp;omega),if_neg (by simp),h2,if_neg (by simp)]
     simp only [List.length_nil]
     rw [if_neg (by omega)]
     simp [textL]
    have p2:(syncK ⟨textL A,textL [⟨m.w,m.s,m.c⟩]⟩).2≠0:=by
     have hl:(textL [⟨m.w,m.s,m.c⟩]).length≤101:=by simp [textL];omega
     have hh:checkK ⟨textL A++textL [⟨m.w,m.s,m.c⟩],[]⟩=2:=by
      unfold checkK
      rw [if_neg (by simp;omega)]
      simp only
      rw [lines_ahead A 80 _ e2 (by omega)]
      simp only
      have e80:80 - A.length=0:=by omega
      have hc:cutN (textL [⟨m.w,m.s,m.c⟩])=some (textR ⟨m.w,m.s,m.c⟩,textL []):=by
       rw [textL_cons]
       exact cutN_word _ _ (textR_no_lf _)
      rw [e80,linesP_line hc,parse_textR h2,if_neg (by simp)]
     unfold syncK
     rw [checkK_text e2 (by omega) (by omega),if_neg (by simp)]
     simp only
     rw [hh,if_pos (by simp)]
     simp
    rw [p1,if_neg (by simp),if_pos p2]
 ·left
  unfold askedW
  rw [if_pos hn]
theorem post_right {x:PW} {m:PM} (k:checkW x=0) (hm:checkM m=0):checkW (postW x m)=0:=by
 obtain ⟨h1,h2,h3,h4,h5,h6,h7⟩:=checkW_ok k
 unfold postW
 split
 ·refine checkW_mk h1 (by simp;omega) (fun y hy=>?_) h4 h5 h6 h7
  rcases List.mem_append.1 hy with hy|hy
  ·exact h3 y hy
  ·simp at hy;rw [hy];exact hm
 ·exact k
theorem post_same (x:PW) (m:PM):(postW x m).h=x.h∧(postW x m).d=x.d∧(postW x m).u=x.u∧(postW x m).n=x.n∧x.m.length≤(postW x m).m.length∧(postW x m).m.length≤x.m.length + 1∧∀ (i:Nat) (y:PM),x.m[i]?=some y→(postW x m).m[i]?=some y:=by
 unfold postW
 split
 ·refine ⟨rfl,rfl,rfl,rfl,by simp,by simp,fun i y hy=>?_⟩
  have:=(List.getElem?_eq_some_iff.1 hy).1
  simp only
  rw [List.getElem?_append_left this]
  exact hy
 ·exact ⟨rfl,rfl,rfl,rfl,Nat.le_refl _,by omega,fun i y hy=>hy⟩
theorem mem_post {x:PW} {m y:PM} (h:y∈(postW x m).m):y∈x.m∨y=m:=by
 unfold postW at h
 split at h
 ·simpa using h
 ·exact .inl h
theorem gone_right {x:PW} (k:checkW x=0) (j:Nat):checkW (goneW x j)=0:=by
 obtain ⟨h1,h2,h3,h4,h5,h6,h7⟩:=checkW_ok k
 exact checkW_mk h1 (by have:=List.length_eraseIdx_le x.m j;simp only [goneW];omega) (fun y hy=>h3 y (List.mem_of_mem_eraseIdx hy)) h4 h5 h6 h7
theorem hand_mem {x:PW} (k:checkW x=0) {j:Int} (h:0≤j∧j≤2):x.n[j.toNat]?=some (handW x j)∧checkN (handW x j)=0:=by
 obtain ⟨h1,-,-,-,-,-,h7⟩:=checkW_ok k
 have hj:j.toNat < x.n.length:=by omega
 have e:x.n[j.toNat]?=some (handW x j):=by
  unfold handW
  rw [List.getD,List.getElem?_eq_getElem hj]
  rfl
 exact ⟨e,h7 _ (List.mem_of_getElem? e)⟩
theorem set_right {x:PW} (k:checkW x=0) {j:Int} {h:PN} (hn:checkN h=0):checkW (setW x j h)=0:=by
 obtain ⟨h1,h2,h3,h4,h5,h6,h7⟩:=checkW_ok k
 refine checkW_mk (by simp [setW,h1]) h2 h3 h4 h5 h6 (fun n hn'=>?_)
 rcases List.mem_or_eq_of_mem_set hn' with m|rfl
 ·exact h7 n m
 ·exact hn
theorem logged_right {x:PW} {r:PR} {A:List PR} (k:checkW x=0) (hu:x.u=true) (hA:A.length < 80) (e2:∀ r∈A,checkR r=0) (e5:replayF freshH A=(x.h,0)) (hn:(nextH x.h r).2.2=0):checkW {x with h:=(nextH x.h r).1,d:=⟨textL (A++[r]),[]⟩}=0∧replayF freshH (A++[r])=((nextH x.h r).1,0)∧∀ y∈A++[r],checkR y=0:=by
 obtain ⟨h1,h2,h3,h4,h5,h6,h7⟩:=checkW_ok k
 have hr:=(nextH_ok hn).2.1
 have hall:∀ y∈A++[r],checkR y=0:=fun y hy=>(List.mem_append.1 hy).elim (e2 y) (fun q=>by simp at q;rw [q];exact hr)
 have hl:(A++[r]).length≤80:=by simp;omega
 have hrep:replayF freshH (A++[r])=((nextH x.h r).1,0):=by
  rw [replay_app _ _ _ (by rw [e5]),e5,replay_cons,if_neg (by simp [hn])]
  rfl
 refine ⟨checkW_mk h1 h2 h3 (checkK_text hall hl ?_) (fun _=>rfl) ?_ h7,hrep,hall⟩
 ·have:=textL_len _ hall
  simp only [List.length_nil]
  omega
 ·have e:recK (⟨textL (A++[r]),[]⟩:PK)=(⟨textL (A++[r]),[]⟩,A++[r],0):=recK_again hall hl
  simp only [logW,hu,if_true,e]
  unfold replayH
  rw [if_neg (by omega),hrep]
theorem hear_right {h:PN} {q:Int} {a:PA} (k:(hearN h q a).2=0):checkN h=0∧checkA a=0∧checkN (hearN h q a).1=0:=by
 unfold hearN at k
 split at k
 ·rename_i q;exact absurd k q
 ·rename_i q1
  split at k
  ·rename_i q;exact absurd k q
  ·rename_i q2
   have q1':checkN h=0:=by simpa using q1
   have q2':checkA a=0:=by simpa using q2
   refine ⟨q1',q2',?_⟩
   by_cases c:h.w=false∨h.s≠q
   ·rw [hear_deaf q1' q2' c]
    exact q1'
   ·simp only [not_or,Bool.not_eq_false,Decidable.not_not] at c
    obtain ⟨c1,rfl⟩:=c
    obtain ⟨e1,e2⟩:=hear_ok q1' c1 q2'
    rw [e1]
    exact e2
theorem set_others (x:PW) (j:Int) (h:PN):∀ i:Nat,i≠j.toNat→(setW x j h).n[i]?=x.n[i]?:=fun i hi=>by
 unfold setW
 simp only
 rw [List.getElem?_set_ne (fun e=>hi e.symm)]
theorem comes_keeps {x:PW} {m:PM} (k:checkW x=0) (hm:checkM m=0) (e:(comesW x m).2=0):checkW (comesW x m).1=0∧(∃ j:Nat,∀ i,i≠j→(comesW x m).1.n[i]?=x.n[i]?)∧x.m.length≤(comesW x m).1.m.length∧(comesW x m).1.m.length≤x.m.length + 1∧(comesW x m).1.n.length=3:=by
 obtain ⟨h1,h2,-,-,-,-,-⟩:=checkW_ok k
 have fin:∀ y:PW,checkW y=0→(∃ j:Nat,∀ i,i≠j→y.n[i]?=x.n[i]?)→x.m.length≤y.m.length→y.m.length≤x.m.length + 1→checkW y=0∧(∃ j:Nat,∀ i,i≠j→y.n[i]?=x.n[i]?)∧x.m.length≤y.m.length∧y.m.length≤x.m.length + 1∧y.n.length=3:=fun y a b c d=>⟨a,b,c,d,(checkW_ok a).1⟩
 unfold comesW at e ⊢
 cases hb:m.b with
 |true=>
  rw [hb,if_pos rfl] at e
  rw [if_pos rfl]
  split at e
  ·rename_i q;exact absurd e q
  ·rename_i q
   rw [if_neg q]
   exact fin _ (set_right k (hear_right (by simpa using q)).2.2) ⟨m.w.toNat,set_others x _ _⟩ (Nat.le_refl _) (by simp [setW])
 |false=>
  rw [hb,if_neg (by simp)] at e
  rw [if_neg (by simp)]
  split at e
  ·cases e
  ·rename_i q
   rw [if_neg q]
   have hu:x.u=true:=by simpa using q
   have hmw:=(checkM_facts hm).1
   have hms:=(checkM_facts hm).2.1
   simp only
   rcases asked_cases k hu hb hm with q|⟨q1,q2,q3⟩|⟨q1,q2,A,e1,e2,e3,e4,e5⟩
   ·rw [q]
    exact fin _ k ⟨0,fun _ _=>rfl⟩ (Nat.le_refl _) (by omega)
   ·rw [q3]
    have hn:(nextH x.h ⟨m.w,m.s,m.c⟩).2.2=0:=by rw [q2]
    have ha:=next_answer hn
    rw [q2] at ha
    obtain ⟨p1,p2,p3,p4,p5,p6,_⟩:=post_same x ⟨true,m.w,m.s,zeroC,(lastH x.h m.w).a⟩
    exact fin _ (post_right k (checkM_mk hmw hms (fun _=>⟨rfl,ha⟩) (fun e=>by cases e))) ⟨0,fun _ _=>by rw [p4]⟩ p5 p6
   ·rw [e5]
    have hx:=(logged_right k hu e2 e3 e4 q2).1
    obtain ⟨p1,p2,p3,p4,p5,p6,_⟩:=post_same {x with h:=(nextH x.h ⟨m.w,m.s,m.c⟩).1,d:=⟨textL (A++[⟨m.w,m.s,m.c⟩]),[]⟩} ⟨true,m.w,m.s,zeroC,(nextH x.h ⟨m.w,m.s,m.c⟩).2.1⟩
    exact fin _ (post_right hx (checkM_mk hmw hms (fun _=>⟨rfl,next_answer q2⟩) (fun e=>by cases e))) ⟨0,fun _ _=>by rw [p4]⟩ p5 p6
end Go.Proofs.YtabafikicbkkdaaGreatDoor
namespace Go.Proofs.YtabafikicbkkdaaGreatDoor
open Go.RowKit
set_option linter.unusedVariables false
set_option maxRecDepth 100000
set_option linter.unusedSimpArgs false
theorem doW_right {x:PW} {e:PX} (k:(doW x e).2=0):checkW x=0∧doW x e=happenW x e:=by
 unfold doW at k ⊢
 split at k
 ·rename_i q;exact absurd k q
 ·rename_i q
  rw [if_neg q]
  exact ⟨by simpa using q,rfl⟩
theorem happen_cases {x:PW} {e:PX} (k:checkW x=0) (hk:(happenW x e).2=0) :
  (∃ m,(0≤e.n∧e.n.toNat < x.m.length)∧x.m[e.n.toNat]?=some m∧((e.k=5∧happenW x e=(goneW x e.n.toNat,0))∨(e.k=4∧happenW x e=comesW x m)∨(e.k=3∧happenW x e=comesW (goneW x e.n.toNat) m)))∨
  (e.k=6∧x.u=true∧happenW x e=({x with h:=freshH,u:=false},0))∨
  (e.k=7∧x.u=false∧(replayH (recK x.d).2.1).2=0∧happenW x e=({x with h:=(replayH (recK x.d).2.1).1,d:=(recK x.d).1,u:=true},0))∨
  (e.k=1∧(0≤e.w∧e.w≤2)∧(askN (handW x e.w) e.c).2=0∧happenW x e=(postW (setW x e.w (askN (handW x e.w) e.c).1) ⟨false,e.w,(askN (handW x e.w) e.c).1.s,(askN (handW x e.w) e.c).1.c,zeroA⟩,0))∨
  (e.k=2∧(0≤e.w∧e.w≤2)∧(handW x e.w).w=true∧happenW x e=(postW x ⟨false,e.w,(handW x e.w).s,(handW x e.w).c,zeroA⟩,0)):=by
 unfold happenW at hk ⊢
 by_cases c1:e.k=3∨e.k=4∨e.k=5
 ·rw [if_pos c1] at hk ⊢
  by_cases c2:e.n < 0∨(x.m.length:Int)≤e.n
  ·rw [if_pos c2] at hk
   cases hk
  ·rw [if_neg c2] at hk ⊢
   have hl:e.n.toNat < x.m.length:=by omega
   obtain ⟨m,hm⟩:∃ m,x.m[e.n.toNat]?=some m:=⟨_,List.getElem?_eq_getElem hl⟩
   rw [hm] at hk ⊢
   simp only at hk ⊢
   left
   refine ⟨m,⟨by omega,hl⟩,rfl,?_⟩
   rcases c1 with c|c|c
   ·exact .inr (.inr ⟨c,by rw [if_neg (by omega),if_neg (by omega)]⟩)
   ·exact .inr (.inl ⟨c,by rw [if_neg (by omega),if_pos c]⟩)
   ·exact .inl ⟨c,by rw [if_pos c]⟩
 ·rw [if_neg c1] at hk ⊢
  right
  by_cases c6:e.k=6
  ·rw [if_pos c6] at hk ⊢
   left
   split at hk
   ·cases hk
   ·rename_i q
    exact ⟨c6,by simpa using q,by rw [if_neg q]⟩
  ·rw [if_neg c6] at hk ⊢
   right
   by_cases c7:e.k=7
   ·rw [if_pos c7] at hk ⊢
    left
    split at hk
    ·cases hk
    ·rename_i q
     split at hk
     ·rename_i p;exact absurd hk p
     ·rename_i p
      exact ⟨c7,by simpa using q,by simpa using p,by rw [if_neg q,if_neg p]⟩
   ·rw [if_neg c7] at hk ⊢
    right
    by_cases ca:e.k=1
    ·rw [if_pos ca] at hk ⊢
     left
     split at hk
     ·cases hk
     ·rename_i q
      split at hk
      ·rename_i p;exact absurd hk p
      ·rename_i p
       exact ⟨ca,by simp [inB] at q;omega,by simpa using p,by rw [if_neg q,if_neg p]⟩
    ·rw [if_neg ca] at hk ⊢
     right
     by_cases cb:e.k=2
     ·rw [if_pos cb] at hk ⊢
      split at hk
      ·cases hk
      ·rename_i q
       split at hk
       ·cases hk
       ·rename_i p
        exact ⟨cb,by simp [inB] at q;omega,by simpa using p,by rw [if_neg q,if_neg p]⟩
     ·rw [if_neg cb] at hk
      cases hk
theorem boot_right {x:PW} (k:checkW x=0) (hr:(replayH (recK x.d).2.1).2=0):checkW {x with h:=(replayH (recK x.d).2.1).1,d:=(recK x.d).1,u:=true}=0:=by
 obtain ⟨h1,h2,h3,h4,h5,h6,h7⟩:=checkW_ok k
 obtain ⟨L,g1,g2,g3,-⟩:=recK_facts h4
 have l:=textL_len L g2
 rw [g1] at hr ⊢
 refine checkW_mk h1 h2 h3 (checkK_text g2 g3 (by simp;omega)) (fun _=>rfl) ?_ h7
 have e:recK (⟨textL L,[]⟩:PK)=(⟨textL L,[]⟩,L,0):=recK_again g2 g3
 simp only [logW,if_true,e]
 exact Prod.ext rfl hr
theorem ask_right {h:PN} {c:PC} (k:(askN h c).2=0):askN h c=(⟨h.s + 1,true,c,h.g⟩,0)∧checkN ⟨h.s + 1,true,c,h.g⟩=0∧h.w=false∧checkC c=0∧(0≤h.s∧h.s < 40):=by
 obtain ⟨a1,a2,a3,a4⟩:=ask_some k
 obtain ⟨e1,e2⟩:=ask_ok a1 a3 a2 a4
 exact ⟨e1,e2,a3,a2,(checkN_ok a1).1.1,a4⟩
theorem waits_facts {h:PN} (k:checkN h=0) (hw:h.w=true):(1≤h.s∧h.s≤40)∧h.s=h.g.length + 1∧checkC h.c=0:=by
 obtain ⟨h1,h2,h3,h4⟩:=checkN_ok k
 simp only [formN,hw,if_true,decide_eq_true_eq] at h3
 exact ⟨by omega,h3,h4 hw⟩
theorem world_keeps {x:PW} {e:PX} (k:(doW x e).2=0):checkW x=0∧checkW (doW x e).1=0∧(∃ j:Nat,∀ i,i≠j→(doW x e).1.n[i]?=x.n[i]?)∧
  (if e.k=3∨e.k=5 then x.m.length - 1 else x.m.length)≤(doW x e).1.m.length∧(doW x e).1.m.length≤(if e.k=3∨e.k=5 then x.m.length - 1 else x.m.length) + 1∧((doW x e).1.d.s=x.d.s∨e.k=3∨e.k=4∨e.k=7):=by
 obtain ⟨hx,he⟩:=doW_right k
 rw [he] at k ⊢
 refine ⟨hx,?_⟩
 obtain ⟨h1,h2,h3,h4,h5,h6,h7⟩:=checkW_ok hx
 rcases happen_cases hx k with ⟨m,⟨n1,n2⟩,hm,⟨c,q⟩|⟨c,q⟩|⟨c,q⟩⟩|⟨c,hu,q⟩|⟨c,hu,hr,q⟩|⟨c,hw,ha,q⟩|⟨c,hw,ha,q⟩
 ·rw [q]
  have hl:(goneW x e.n.toNat).m.length=x.m.length - 1:=by simp [goneW,List.length_eraseIdx,n2]
  rw [if_pos (.inr c)]
  exact ⟨gone_right hx _,⟨0,fun _ _=>rfl⟩,by rw [hl];exact Nat.le_refl _,by rw [hl];omega,.inl rfl⟩
 ·rw [q] at k ⊢
  rw [if_neg (by omega)]
  obtain ⟨p1,p2,p3,p4,_⟩:=comes_keeps hx (h3 m (List.mem_of_getElem? hm)) k
  exact ⟨p1,p2,p3,p4,.inr (.inr (.inl c))⟩
 ·rw [q] at k ⊢
  rw [if_pos (.inl c)]
  have hl:(goneW x e.n.toNat).m.length=x.m.length - 1:=by simp [goneW,List.length_eraseIdx,n2]
  obtain ⟨p1,p2,p3,p4,_⟩:=comes_keeps (gone_right hx e.n.toNat) (h3 m (List.mem_of_getElem? hm)) k
  rw [hl] at p3 p4
  exact ⟨p1,p2,p3,p4,.inr (.inl c)⟩
 ·rw [q,if_neg (by omega)]
  exact ⟨checkW_mk h1 h2 h3 h4 (fun e=>by cases e) rfl h7,⟨0,fun _ _=>rfl⟩,Nat.le_refl _,by simp only;omega,.inl rfl⟩
 ·rw [q,if_neg (by omega)]
  exact ⟨boot_right hx hr,⟨0,fun _ _=>rfl⟩,Nat.le_refl _,by simp only;omega,.inr (.inr (.inr c))⟩
 ·rw [q,if_neg (by omega)]
  obtain ⟨a1,a2,a3,a4,a5⟩:=ask_right ha
  have hs:=set_right hx (j:=e.w) a2
  rw [a1]
  obtain ⟨p1,p2,p3,p4,p5,p6,_⟩:=post_same (setW x e.w ⟨(handW x e.w).s + 1,true,e.c,(handW x e.w).g⟩) ⟨false,e.w,(handW x e.w).s + 1,e.c,zeroA⟩
  refine ⟨post_right hs (checkM_mk hw (by simp only;omega) (fun e=>by cases e) (fun _=>⟨rfl,a4⟩)),⟨e.w.toNat,fun i hi=>?_⟩,p5,p6,.inl (by rw [p2];rfl)⟩
  rw [p4]
  exact set_others x _ _ i hi
 ·rw [q,if_neg (by omega)]
  obtain ⟨w1,w2,w3⟩:=waits_facts (hand_mem hx hw).2 ha
  obtain ⟨p1,p2,p3,p4,p5,p6,_⟩:=post_same x ⟨false,e.w,(handW x e.w).s,(handW x e.w).c,zeroA⟩
  exact ⟨post_right hx (checkM_mk hw w1 (fun e=>by cases e) (fun _=>⟨rfl,w3⟩)),⟨0,fun _ _=>by rw [p4]⟩,p5,p6,.inl (by rw [p2])⟩
end Go.Proofs.YtabafikicbkkdaaGreatDoor
namespace Go.Proofs.YtabafikicbkkdaaGreatDoor
open Go.RowKit
set_option linter.unusedVariables false
set_option maxRecDepth 100000
set_option linter.unusedSimpArgs false
def toldF:PH→List PR→List PA
 |h,[]=>[]
 |h,r :: rs=>(nextH h r).2.1 :: toldF (nextH h r).1 rs
theorem told_app:∀ (a:List PR) (r:PR) (h:PH),(replayF h a).2=0→toldF h (a++[r])=toldF h a++[(nextH (replayF h a).1 r).2.1]
 |[],r,h,_=>rfl
 |x :: a,r,h,k=>by
  rw [replay_cons] at k
  split at k
  ·rename_i q;exact absurd k q
  ·rename_i q
   rw [List.cons_append]
   simp only [toldF]
   rw [told_app a r _ k,replay_cons,if_neg q]
   rfl
theorem told_step {X:List PR} {k:Nat} {r:PR} {hp:PH} (hr:X[k]?=some r) (h:replayF freshH (X.take k)=(hp,0)):toldF freshH (X.take (k + 1))=toldF freshH (X.take k)++[(nextH hp r).2.1]:=by
 obtain ⟨g1,g2⟩:=List.getElem?_eq_some_iff.1 hr
 rw [List.take_succ_eq_append_getElem g1,told_app _ _ _ (by rw [h]),h,g2]
end Go.Proofs.YtabafikicbkkdaaGreatDoor
namespace Go.Proofs.YtabafikicbkkdaaGreatDoor
open Go.RowKit
set_option linter.unusedVariables false
set_option maxRecDepth 100000
set_option linter.unusedSimpArgs false
def cntR (A:List PR) (j:Int):Nat:=(A.filter fun r=>decide (r.w=j)).length
theorem cntR_app (A B:List PR) (j:Int):cntR (A++B) j=cntR A j + cntR B j:=by simp [cntR]
theorem cntR_one (r:PR) (j:Int):cntR [r] j=if r.w=j then 1 else 0:=by
 unfold cntR
 by_cases c:r.w=j<;>simp [c]
theorem cntR_take (A:List PR) (j:Int) (i:Nat):cntR (A.take i) j≤cntR A j:=by
 conv=>rhs;rw [← List.take_append_drop i A]
 rw [cntR_app]
 omega
theorem take_succ_of {α:Type} {A:List α} {i:Nat} {r:α} (h:A[i]?=some r):A.take (i + 1)=A.take i++[r]:=by
 obtain ⟨h1,h2⟩:=List.getElem?_eq_some_iff.1 h
 rw [List.take_succ_eq_append_getElem h1,h2]
structure Log (A:List PR) (H:PH) (T:List PA):Prop where
 rep:replayF freshH A=(H,0)
 told:T=toldF freshH A
 len:T.length=A.length
 right:∀ r∈A,checkR r=0
 ok:checkH H=0
 cnt:∀ j:Nat,j < 3→(lastH H (j:Int)).s=(cntR A (j:Int):Int)
 num:∀ (i:Nat) (r:PR),A[i]?=some r→r.s=(cntR (A.take i) r.w:Int) + 1
 last:∀ j:Nat,j < 3→0 < (lastH H (j:Int)).s→∃ (i:Nat) (r:PR),A[i]?=some r∧r.w=(j:Int)∧r.s=(lastH H (j:Int)).s∧T[i]?=some (lastH H (j:Int)).a
theorem lastH_fresh (j:Nat) (hj:j < 3):lastH freshH (j:Int)=zeroL:=by
 match j,hj with
 |0,_=>rfl
 |1,_=>rfl
 |2,_=>rfl
theorem Log.nil:Log [] freshH []:=by
 refine ⟨rfl,rfl,rfl,by simp,checkH_fresh,fun j hj=>?_,by simp,fun j hj h=>?_⟩
 ·rw [lastH_fresh j hj];rfl
 ·rw [lastH_fresh j hj] at h;exact absurd h (by decide)
theorem Log.snoc {A:List PR} {H:PH} {T:List PA} {r:PR} (h:Log A H T) (k:(nextH H r).2.2=0) (e:r.s=(lastH H r.w).s + 1):Log (A++[r]) (nextH H r).1 (T++[(nextH H r).2.1]):=by
 obtain ⟨n1,n2,n3⟩:=next_stands k
 obtain ⟨i,hi,hi3⟩:=rec_who n2
 have hget:∀ (i':Nat) (r':PR),(A++[r])[i']?=some r'→(A[i']?=some r'∧i' < A.length)∨(i'=A.length∧r'=r):=fun i' r' q=>by
  by_cases c:i' < A.length
  ·rw [List.getElem?_append_left c] at q
   exact .inl ⟨q,c⟩
  ·rw [List.getElem?_append_right (by omega)] at q
   have:=(List.getElem?_eq_some_iff.1 q).1
   have h0:i' - A.length=0:=by simp at this;omega
   rw [h0] at q
   simp at q
   exact .inr ⟨by omega,q.symm⟩
 refine ⟨?_,?_,by simp [h.len],?_,n1,fun j hj=>?_,fun i' r' q=>?_,fun j hj hp=>?_⟩
 ·rw [replay_app _ _ _ (by rw [h.rep]),h.rep,replay_cons,if_neg (by simp [k])]
  rfl
 ·rw [told_app _ _ _ (by rw [h.rep]),h.rep,h.told]
 ·intro x hx
  rcases List.mem_append.1 hx with hx|hx
  ·exact h.right x hx
  ·simp at hx;rw [hx];exact n2
 ·rw [next_last k hj,cntR_app,cntR_one]
  by_cases c:r.w=(j:Int)
  ·rw [if_pos c,if_pos c]
   have h1:=h.cnt j hj
   rw [c] at e
   simp only
   omega
  ·rw [if_neg c,if_neg c,h.cnt j hj]
   rfl
 ·rcases hget i' r' q with ⟨q1,q2⟩|⟨rfl,rfl⟩
  ·rw [List.take_append_of_le_length (by omega)]
   exact h.num i' r' q1
  ·rw [List.take_append_of_le_length (Nat.le_refl _),List.take_length,e,hi,h.cnt i hi3]
 ·rw [next_last k hj] at hp ⊢
  by_cases c:r.w=(j:Int)
  ·rw [if_pos c] at hp ⊢
   exact ⟨A.length,r,by simp,c,rfl,by rw [← h.len];simp⟩
  ·rw [if_neg c] at hp ⊢
   obtain ⟨i',r',q1,q2,q3,q4⟩:=h.last j hj hp
   have hl:=(List.getElem?_eq_some_iff.1 q1).1
   exact ⟨i',r',by rw [List.getElem?_append_left hl];exact q1,q2,q3,by rw [List.getElem?_append_left (by rw [h.len];exact hl)];exact q4⟩
theorem Log.once {A:List PR} {H:PH} {T:List PA} (h:Log A H T) {i i':Nat} {r r':PR} (e:A[i]?=some r) (e':A[i']?=some r') (hw:r.w=r'.w) (hs:r.s=r'.s):i=i':=by
 have key:∀ (i i':Nat) (r r':PR),A[i]?=some r→A[i']?=some r'→r.w=r'.w→r.s=r'.s→¬ i < i':=by
  intro i i' r r' e e' hw hs hlt
  have h1:=h.num i r e
  have h2:=h.num i' r' e'
  have h3:cntR (A.take (i + 1)) r.w≤cntR (A.take i') r.w:=by
   have:=cntR_take (A.take i') r.w (i + 1)
   rwa [List.take_take,Nat.min_eq_left (by omega)] at this
  rw [take_succ_of e,cntR_app,cntR_one,if_pos rfl] at h3
  rw [hw] at h1 h3
  omega
 have h1:=key i i' r r' e e' hw hs
 have h2:=key i' i r' r e' e hw.symm hs.symm
 omega
theorem Log.most {A:List PR} {H:PH} {T:List PA} (h:Log A H T) {i:Nat} {r:PR} (e:A[i]?=some r):r.s≤(lastH H r.w).s:=by
 obtain ⟨j,hj,hj3⟩:=rec_who (h.right r (List.mem_of_getElem? e))
 have h1:=h.num i r e
 have h3:=cntR_take A r.w (i + 1)
 rw [take_succ_of e,cntR_app,cntR_one,if_pos rfl] at h3
 rw [hj,h.cnt j hj3,← hj]
 omega
structure Saga (x:PW) (A:List PR) (H:PH) (T:List PA):Prop where
 right:checkW x=0
 log:Log A H T
 disk:x.d=⟨textL A,[]⟩
 len:A.length≤80
 hall:x.u=true→x.h=H
 ask:∀ m∈x.m,m.b=false→m.s≤(handW x m.w).s
 back:∀ m∈x.m,m.b=true→∃ (i:Nat) (r:PR),A[i]?=some r∧r.w=m.w∧r.s=m.s∧T[i]?=some m.a
 upto:∀ j:Nat,j < 3→((handW x (j:Int)).g.length:Int)≤(lastH H (j:Int)).s∧(lastH H (j:Int)).s≤(handW x (j:Int)).s
 got:∀ (i:Nat) (r:PR),A[i]?=some r→∀ n:Nat,r.s=(n:Int) + 1→n < (handW x r.w).g.length→(handW x r.w).g[n]?=T[i]?
theorem checkW_fresh:checkW freshW=0:=by decide +kernel
theorem Saga.fresh:Saga freshW [] freshH []:=by
 refine ⟨checkW_fresh,Log.nil,rfl,by simp,fun _=>rfl,by simp [freshW],by simp [freshW],fun j hj=>?_,by simp⟩
 rw [lastH_fresh j hj]
 match j,hj with
 |0,_=>exact ⟨by decide,by decide⟩
 |1,_=>exact ⟨by decide,by decide⟩
 |2,_=>exact ⟨by decide,by decide⟩
theorem Saga.gone {x:PW} {A:List PR} {H:PH} {T:List PA} (h:Saga x A H T) (j:Nat):Saga (goneW x j) A H T:=
 ⟨gone_right h.right j,h.log,h.disk,h.len,h.hall,fun m hm hb=>h.ask m (List.mem_of_mem_eraseIdx hm) hb,fun m hm hb=>h.back m (List.mem_of_mem_eraseIdx hm) hb,h.upto,h.got⟩
theorem Saga.post {x:PW} {A:List PR} {H:PH} {T:List PA} {m:PM} (h:Saga x A H T) (hm:checkM m=0) (ha:m.b=false→m.s≤(handW x m.w).s) (hb:m.b=true→∃ (i:Nat) (r:PR),A[i]?=some r∧r.w=m.w∧r.s=m.s∧T[i]?=some m.a):Saga (postW x m) A H T:=by
 obtain ⟨p1,p2,p3,p4,p5,p6,p7⟩:=post_same x m
 have hh:∀ j,handW (postW x m) j=handW x j:=fun j=>by unfold handW;rw [p4]
 refine ⟨post_right h.right hm,h.log,by rw [p2];exact h.disk,h.len,fun e=>by rw [p1];exact h.hall (by rwa [p3] at e),fun y hy e=>?_,fun y hy e=>?_,fun j hj=>by rw [hh];exact h.upto j hj,fun i r e n en hn=>by rw [hh] at hn ⊢;exact h.got i r e n en hn⟩
 ·rw [hh]
  rcases mem_post hy with q|rfl
  ·exact h.ask y q e
  ·exact ha e
 ·rcases mem_post hy with q|rfl
  ·exact h.back y q e
  ·exact hb e
theorem handW_set {x:PW} (k:x.n.length=3) {j:Int} (hj:0≤j∧j≤2) (h:PN) {i:Int} (hi:0≤i):handW (setW x j h) i=if i=j then h else handW x i:=by
 unfold handW setW
 simp only [List.getD]
 by_cases c:i=j
 ·subst c
  rw [if_pos rfl,List.getElem?_set_self (by omega)]
  rfl
 ·rw [if_neg c,List.getElem?_set_ne (by omega)]
theorem Saga.hear {x:PW} {A:List PR} {H:PH} {T:List PA} {m:PM} (h:Saga x A H T) (hm:checkM m=0) (hb:∃ (i:Nat) (r:PR),A[i]?=some r∧r.w=m.w∧r.s=m.s∧T[i]?=some m.a) (k:(hearN (handW x m.w) m.s m.a).2=0):Saga (setW x m.w (hearN (handW x m.w) m.s m.a).1) A H T:=by
 obtain ⟨r1,r2,r3⟩:=hear_right k
 have hmw:=(checkM_facts hm).1
 have h3:=(checkW_ok h.right).1
 by_cases c:(handW x m.w).w=false∨(handW x m.w).s≠m.s
 ·rw [hear_deaf r1 r2 c]
  have e:setW x m.w (handW x m.w)=x:=by
   unfold setW
   have:=(hand_mem h.right hmw).1
   obtain ⟨g1,g2⟩:=List.getElem?_eq_some_iff.1 this
   rw [← g2,List.set_getElem_self]
  rw [e]
  exact h
 ·simp only [not_or,Bool.not_eq_false,Decidable.not_not] at c
  obtain ⟨c1,c2⟩:=c
  obtain ⟨e1,e2⟩:=hear_ok r1 c1 r2
  obtain ⟨w1,w2,w3⟩:=waits_facts r1 c1
  obtain ⟨i0,r0,b1,b2,b3,b4⟩:=hb
  rw [c2] at e1
  rw [e1]
  have hs:∀ j:Int,0≤j→handW (setW x m.w ⟨m.s,false,zeroC,(handW x m.w).g++[m.a]⟩) j=if j=m.w then ⟨m.s,false,zeroC,(handW x m.w).g++[m.a]⟩ else handW x j:=fun j hj=>handW_set h3 hmw _ hj
  refine ⟨set_right h.right (by rw [← c2];exact e2),h.log,h.disk,h.len,h.hall,fun y hy e=>?_,h.back,fun j hj=>?_,fun i r e n en hn=>?_⟩
  ·have hy0:=(checkM_facts ((checkW_ok h.right).2.2.1 y hy)).1.1
   rw [hs y.w hy0]
   have:=h.ask y hy e
   split
   ·rename_i q;rw [q,c2] at this;exact this
   ·exact this
  ·rw [hs j (by omega)]
   have hu:=h.upto j hj
   split
   ·rename_i q
    have hmost:=h.log.most b1
    rw [b2,← q,b3] at hmost
    rw [q] at hu hmost
    simp only [List.length_append,List.length_singleton]
    rw [q]
    omega
   ·exact hu
  ·have hr0:=(checkR_facts (h.log.right r (List.mem_of_getElem? e))).1.1
   rw [hs r.w hr0] at hn ⊢
   split at hn
   ·rename_i q
    rw [if_pos q]
    simp only [List.length_append,List.length_singleton] at hn ⊢
    by_cases cn:n < (handW x m.w).g.length
    ·rw [List.getElem?_append_left cn,← q]
     exact h.got i r e n en (by rw [q];exact cn)
    ·have hn':n=(handW x m.w).g.length:=by omega
     have:i=i0:=h.log.once e b1 (by rw [q,b2]) (by rw [en,b3,← c2,w2,hn'])
     subst this
     rw [b4,hn']
     simp
   ·rename_i q
    rw [if_neg q]
    exact h.got i r e n en hn
theorem Saga.done {x:PW} {A:List PR} {H:PH} {T:List PA} {r:PR} (h:Saga x A H T) (hu:x.u=true) (hA:A.length < 80) (hn:(nextH x.h r).2.2=0) (hs:r.s=(lastH x.h r.w).s + 1) (ha:r.s≤(handW x r.w).s) :
  Saga {x with h:=(nextH x.h r).1,d:=⟨textL (A++[r]),[]⟩} (A++[r]) (nextH x.h r).1 (T++[(nextH x.h r).2.1]):=by
 have hH:=h.hall hu
 obtain ⟨l1,l2,l3⟩:=logged_right h.right hu hA h.log.right (by rw [hH];exact h.log.rep) hn
 have hl:Log (A++[r]) (nextH x.h r).1 (T++[(nextH x.h r).2.1]):=by
  rw [hH] at hn hs ⊢
  exact h.log.snoc hn hs
 have old:∀ (i:Nat) (r':PR),A[i]?=some r'→(A++[r])[i]?=some r'∧(T++[(nextH x.h r).2.1])[i]?=T[i]?:=fun i r' q=>by
  have:=(List.getElem?_eq_some_iff.1 q).1
  exact ⟨by rw [List.getElem?_append_left this];exact q,by rw [List.getElem?_append_left (by rw [h.log.len];exact this)]⟩
 refine ⟨l1,hl,rfl,by simp;omega,fun _=>rfl,h.ask,fun m hm hb=>?_,fun j hj=>?_,fun i r' q n en hn'=>?_⟩
 ·obtain ⟨i,r',q1,q2,q3,q4⟩:=h.back m hm hb
  obtain ⟨o1,o2⟩:=old i r' q1
  exact ⟨i,r',o1,q2,q3,by rw [o2];exact q4⟩
 ·have hj':=h.upto j hj
  rw [next_last hn hj,← hH] at *
  show ((handW x (j:Int)).g.length:Int)≤_∧_≤(handW x (j:Int)).s
  by_cases c:r.w=(j:Int)
  ·rw [if_pos c]
   simp only
   rw [c] at hs ha
   omega
  ·rw [if_neg c]
   exact hj'
 ·by_cases c:i < A.length
  ·rw [List.getElem?_append_left c] at q
   rw [(old i r' q).2]
   exact h.got i r' q n en hn'
  ·rw [List.getElem?_append_right (by omega)] at q
   have hz:=(List.getElem?_eq_some_iff.1 q).1
   have h0:i - A.length=0:=by simp at hz;omega
   rw [h0] at q
   simp at q
   subst q
   obtain ⟨j,hj,hj3⟩:=rec_who (nextH_ok hn).2.1
   have hup:=(h.upto j hj3).1
   rw [← hj,← hH] at hup
   have hn2:n < (handW x r.w).g.length:=hn'
   omega
end Go.Proofs.YtabafikicbkkdaaGreatDoor
namespace Go.Proofs.YtabafikicbkkdaaGreatDoor
open Go.RowKit
set_option linter.unusedVariables false
set_option maxRecDepth 100000
set_option linter.unusedSimpArgs false
def Grows (A:List PR) (T:List PA) (A':List PR) (T':List PA):Prop:=(A'=A∧T'=T)∨∃ r a,A'=A++[r]∧T'=T++[a]
theorem textL_inj {A B:List PR} (ha:∀ r∈A,checkR r=0) (hb:∀ r∈B,checkR r=0) (la:A.length≤80) (lb:B.length≤80) (h:textL A=textL B):A=B:=by
 have h1:=recK_again ha la
 have h2:=recK_again hb lb
 rw [h] at h1
 exact (congrArg (fun x=>x.2.1) (h1.symm.trans h2))
theorem Saga.asked {x:PW} {A:List PR} {H:PH} {T:List PA} {m:PM} (h:Saga x A H T) (hu:x.u=true) (hb:m.b=false) (hm:checkM m=0) (ha:m.s≤(handW x m.w).s):∃ A' H' T',Saga (askedW x m) A' H' T'∧Grows A T A' T':=by
 have hmw:=(checkM_facts hm).1
 have hms:=(checkM_facts hm).2.1
 rcases asked_cases h.right hu hb hm with q|⟨q1,q2,q3⟩|⟨q1,q2,B,e1,e2,e3,e4,e5⟩
 ·rw [q]
  exact ⟨A,H,T,h,.inl ⟨rfl,rfl⟩⟩
 ·rw [q3]
  have hn:(nextH x.h ⟨m.w,m.s,m.c⟩).2.2=0:=by rw [q2]
  have haa:=next_answer hn
  rw [q2] at haa
  refine ⟨A,H,T,h.post (checkM_mk hmw hms (fun _=>⟨rfl,haa⟩) (fun e=>by cases e)) (fun e=>by cases e) (fun _=>?_),.inl ⟨rfl,rfl⟩⟩
  obtain ⟨j,hj,hj3⟩:∃ j:Nat,m.w=j∧j < 3:=⟨m.w.toNat,by omega,by omega⟩
  have hH:=h.hall hu
  rw [hH,hj] at q1
  obtain ⟨i,r,g1,g2,g3,g4⟩:=h.log.last j hj3 (by omega)
  exact ⟨i,r,g1,by rw [g2];exact hj.symm,by rw [g3];exact q1.symm,by rw [g4,hH,hj]⟩
 ·have hBA:B=A:=textL_inj e3 h.log.right (by omega) h.len (by have:=e1.symm.trans h.disk;exact congrArg PK.s this)
  subst hBA
  rw [e5]
  have hd:=h.done hu e2 q2 q1 ha
  refine ⟨_,_,_,hd.post (checkM_mk hmw hms (fun _=>⟨rfl,next_answer q2⟩) (fun e=>by cases e)) (fun e=>by cases e) (fun _=>⟨B.length,⟨m.w,m.s,m.c⟩,by simp,rfl,rfl,?_⟩),.inr ⟨_,_,rfl,rfl⟩⟩
  rw [← h.log.len]
  simp
theorem Saga.comes {x:PW} {A:List PR} {H:PH} {T:List PA} {m:PM} (h:Saga x A H T) (hm:checkM m=0) (ha:m.b=false→m.s≤(handW x m.w).s) (hb:m.b=true→∃ (i:Nat) (r:PR),A[i]?=some r∧r.w=m.w∧r.s=m.s∧T[i]?=some m.a) (k:(comesW x m).2=0):∃ A' H' T',Saga (comesW x m).1 A' H' T'∧Grows A T A' T':=by
 unfold comesW at k ⊢
 cases e:m.b with
 |true=>
  rw [e,if_pos rfl] at k
  rw [if_pos rfl]
  split at k
  ·rename_i q;exact absurd k q
  ·rename_i q
   rw [if_neg q]
   exact ⟨A,H,T,h.hear hm (hb e) (by simpa using q),.inl ⟨rfl,rfl⟩⟩
 |false=>
  rw [e,if_neg (by simp)] at k
  rw [if_neg (by simp)]
  split at k
  ·cases k
  ·rename_i q
   rw [if_neg q]
   exact h.asked (by simpa using q) e hm (ha e)
theorem Saga.step {x:PW} {A:List PR} {H:PH} {T:List PA} {e:PX} (h:Saga x A H T) (k:(doW x e).2=0):∃ A' H' T',Saga (doW x e).1 A' H' T'∧Grows A T A' T':=by
 have hy:=(world_keeps k).2.1
 obtain ⟨hx,he⟩:=doW_right k
 obtain ⟨h1,h2,h3,h4,h5,h6,h7⟩:=checkW_ok hx
 rw [he] at k hy ⊢
 rcases happen_cases hx k with ⟨m,⟨n1,n2⟩,hm,⟨c,q⟩|⟨c,q⟩|⟨c,q⟩⟩|⟨c,hu,q⟩|⟨c,hu,hr,q⟩|⟨c,hw,ha,q⟩|⟨c,hw,ha,q⟩
 ·rw [q]
  exact ⟨A,H,T,h.gone _,.inl ⟨rfl,rfl⟩⟩
 ·rw [q] at k ⊢
  have hmm:=List.mem_of_getElem? hm
  exact h.comes (h3 m hmm) (h.ask m hmm) (h.back m hmm) k
 ·rw [q] at k ⊢
  have hmm:=List.mem_of_getElem? hm
  exact (h.gone e.n.toNat).comes (h3 m hmm) (h.ask m hmm) (h.back m hmm) k
 ·rw [q] at hy ⊢
  exact ⟨A,H,T,⟨hy,h.log,h.disk,h.len,(fun e=>by cases e),h.ask,h.back,h.upto,h.got⟩,.inl ⟨rfl,rfl⟩⟩
 ·rw [q] at hy ⊢
  have e1:recK x.d=(x.d,A,0):=by rw [h.disk];exact recK_again h.log.right h.len
  have e2:replayH A=(H,0):=by unfold replayH;rw [if_neg (by have:=h.len;omega)];exact h.log.rep
  simp only [e1,e2] at hy ⊢
  exact ⟨A,H,T,⟨hy,h.log,h.disk,h.len,fun _=>rfl,h.ask,h.back,h.upto,h.got⟩,.inl ⟨rfl,rfl⟩⟩
 ·rw [q]
  obtain ⟨a1,a2,a3,a4,a5⟩:=ask_right ha
  rw [a1]
  have hs:∀ j:Int,0≤j→handW (setW x e.w ⟨(handW x e.w).s + 1,true,e.c,(handW x e.w).g⟩) j=if j=e.w then ⟨(handW x e.w).s + 1,true,e.c,(handW x e.w).g⟩ else handW x j:=fun j hj=>handW_set h1 hw _ hj
  have hg:∀ j:Int,0≤j→(handW (setW x e.w ⟨(handW x e.w).s + 1,true,e.c,(handW x e.w).g⟩) j).g=(handW x j).g∧(handW x j).s≤(handW (setW x e.w ⟨(handW x e.w).s + 1,true,e.c,(handW x e.w).g⟩) j).s:=fun j hj=>by
   rw [hs j hj]
   split
   ·rename_i q;subst q;exact ⟨rfl,by simp only;omega⟩
   ·exact ⟨rfl,Int.le_refl _⟩
  have hset:Saga (setW x e.w ⟨(handW x e.w).s + 1,true,e.c,(handW x e.w).g⟩) A H T:=by
   refine ⟨set_right hx a2,h.log,h.disk,h.len,h.hall,fun m hm hb=>?_,h.back,fun j hj=>?_,fun i r g n en hn=>?_⟩
   ·have:=(hg m.w (checkM_facts (h3 m hm)).1.1).2
    have:=h.ask m hm hb
    omega
   ·obtain ⟨g1,g2⟩:=hg j (by omega)
    have:=h.upto j hj
    rw [g1]
    omega
   ·have g1:=(hg r.w (checkR_facts (h.log.right r (List.mem_of_getElem? g))).1.1).1
    rw [g1] at hn ⊢
    exact h.got i r g n en hn
  refine ⟨A,H,T,hset.post (checkM_mk hw (by simp only;omega) (fun e=>by cases e) (fun _=>⟨rfl,a4⟩)) (fun _=>?_) (fun e=>by cases e),.inl ⟨rfl,rfl⟩⟩
  rw [hs e.w hw.1,if_pos rfl]
  exact Int.le_refl _
 ·rw [q]
  obtain ⟨w1,w2,w3⟩:=waits_facts (hand_mem hx hw).2 ha
  exact ⟨A,H,T,h.post (checkM_mk hw w1 (fun e=>by cases e) (fun _=>⟨rfl,w3⟩)) (fun _=>Int.le_refl _) (fun e=>by cases e),.inl ⟨rfl,rfl⟩⟩
theorem Saga.tells {x:PW} {A:List PR} {H:PH} {T:List PA} (h:Saga x A H T):recK x.d=(x.d,A,0)∧(replayF freshH A).2=0∧T=toldF freshH A∧T.length=A.length:=by
 refine ⟨?_,by rw [h.log.rep],h.log.told,h.log.len⟩
 rw [h.disk]
 exact recK_again h.log.right h.len
theorem Saga.order {x:PW} {A:List PR} {H:PH} {T:List PA} (h:Saga x A H T) {i:Nat} {r:PR} (e:A[i]?=some r):r.s=(cntR (A.take i) r.w:Int) + 1∧(cntR (A.take i) r.w < (handW x r.w).g.length→(handW x r.w).g[cntR (A.take i) r.w]?=T[i]?):=
 ⟨h.log.num i r e,fun hn=>h.got i r e _ (h.log.num i r e) hn⟩
end Go.Proofs.YtabafikicbkkdaaGreatDoor
