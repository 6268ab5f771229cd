/- Lines read one by one, and texts parted behind their line feeds; plain mathematics, no condition. -/
import Derived.Test.YtabafikicbkkdaaGreatDoorSV8
import Derived.Test.YtabafikicbkkdaaGreatDoorSV1
import Derived.Test.YtabafikicbkkdaaGreatDoorSV27
import Derived.Test.YtabafikicbkkdaaGreatDoorSV7
import Derived.Deep.DeepCutAuto
import Derived.Lib.OthersKept
import Derived.WideMake
import Derived.ChangeMaps4
import Derived.Lib.SlicesS
namespace Go.Proofs.YtabafikicbkkdaaGreatDoor
open Go.RowKit
set_option linter.unusedVariables false
set_option maxHeartbeats 4000000
set_option maxRecDepth 100000
set_option linter.unusedSimpArgs false
def firstP (l:List UInt8):PR×List UInt8×Int:=match cutN l with
 |none=>(zeroR,[],9)
 |some (a,r)=>((parseR a).1,r,(parseR a).2)
theorem firstP_none {l:List UInt8} (h:cutN l=none):firstP l=(zeroR,[],9):=by unfold firstP;rw [h]
theorem firstP_some {l a r:List UInt8} (h:cutN l=some (a,r)):firstP l=((parseR a).1,r,(parseR a).2):=by unfold firstP;rw [h]
theorem cutN_len {l a r:List UInt8} (h:cutN l=some (a,r)):a.length + 1 + r.length=l.length:=by
 have:=congrArg List.length (cutN_some h).1
 simp only [List.length_append,List.length_cons] at this
 omega
structure Ahd (most:Nat) (l:List UInt8) (D:List PR) (r:List UInt8):Prop where
 le:D.length≤most
 len:r.length≤l.length
 eq:linesP most l=(D++(linesP (most - D.length) r).1,(l.length - r.length) + (linesP (most - D.length) r).2.1,(linesP (most - D.length) r).2.2)
theorem Ahd.start (most:Nat) (l:List UInt8):Ahd most l [] l:=⟨Nat.zero_le _,Nat.le_refl _,by simp⟩
theorem Ahd.step {most:Nat} {l r:List UInt8} {D:List PR} (h:Ahd most l D r) (hf:(firstP r).2.2=0) (hm:D.length < most):Ahd most l (D++[(firstP r).1]) (firstP r).2.1∧(firstP r).2.1.length < r.length:=by
 cases hc:cutN r with
 |none=>rw [firstP_none hc] at hf;cases hf
 |some p=>
  obtain ⟨a,b⟩:=p
  have hlen:=cutN_len hc
  have h2:=h.len
  rw [firstP_some hc] at hf ⊢
  simp only at hf ⊢
  obtain ⟨m,hm'⟩:∃ m,most - D.length=m + 1:=⟨most - D.length - 1,by omega⟩
  refine ⟨⟨by simp;omega,by omega,?_⟩,by omega⟩
  have e:=h.eq
  rw [hm',linesP_line hc,if_neg (by simp [hf])] at e
  simp only at e
  rw [e,show most - (D++[(parseR a).1]).length=m by simp;omega]
  simp
  omega
theorem Ahd.done {most:Nat} {l:List UInt8} {D:List PR} (h:Ahd most l D []):linesP most l=(D,l.length,0):=by
 have e:=h.eq
 rw [linesP_nil] at e
 simpa using e
theorem Ahd.bad {most:Nat} {l r:List UInt8} {D:List PR} (h:Ahd most l D r) (hr:r≠[]) (hf:(firstP r).2.2≠0):linesP most l=(D,l.length - r.length,(firstP r).2.2):=by
 have e:=h.eq
 cases hc:cutN r with
 |none=>
  rw [linesP_torn hr hc] at e
  rw [firstP_none hc]
  simpa using e
 |some p=>
  obtain ⟨a,b⟩:=p
  rw [firstP_some hc] at hf ⊢
  rw [linesP_line hc,if_pos hf] at e
  simpa using e
theorem Ahd.many {most:Nat} {l r:List UInt8} {D:List PR} (h:Ahd most l D r) (hf:(firstP r).2.2=0) (hm:D.length=most):linesP most l=(D,l.length - r.length,2):=by
 have e:=h.eq
 cases hc:cutN r with
 |none=>rw [firstP_none hc] at hf;cases hf
 |some p=>
  obtain ⟨a,b⟩:=p
  rw [firstP_some hc] at hf
  rw [linesP_line hc,if_neg (by simpa using hf),show most - D.length=0 by omega] at e
  simpa using e
theorem Ahd.stop {most:Nat} {l r:List UInt8} {D:List PR} (h:Ahd most l D r) (hs:D.length=most∨(firstP r).2.2≠0):(linesP most l).1=D∧(linesP most l).2.1=l.length - r.length:=by
 by_cases hr:r=[]
 ·subst hr
  rw [h.done]
  simp
 ·by_cases hf:(firstP r).2.2=0
  ·rw [h.many hf (hs.resolve_right (by simp [hf]))]
   exact ⟨rfl,rfl⟩
  ·rw [h.bad hr hf]
   exact ⟨rfl,rfl⟩
theorem index_N:∀ l:List UInt8,(cutN l=none∧Lib.index l [10]=-1)∨∃ h t,cutN l=some (h,t)∧Lib.index l [10]=(h.length:Int)
 |[]=>.inl ⟨rfl,rfl⟩
 |b :: l=>by
  by_cases hb:b=10
  ·subst hb
   exact .inr ⟨[],l,by simp [cutN],by rw [Lib.index];simp [List.isPrefixOf]⟩
  ·have hp:([10]:List UInt8).isPrefixOf (b :: l)=false:=by simp [List.isPrefixOf,Ne.symm hb]
   have hix:Lib.index (b :: l) [10]=if Lib.index l [10]==-1 then -1 else Lib.index l [10] + 1:=by rw [Lib.index,hp];simp
   rw [hix,cutN,if_neg hb]
   rcases index_N l with ⟨h1,h2⟩|⟨h,t,h1,h2⟩
   ·left
    rw [h1,h2]
    exact ⟨rfl,rfl⟩
   ·right
    rw [h1,h2]
    refine ⟨b :: h,t,rfl,?_⟩
    have n1:((h.length:Int)==-1)=false:=by simp
    simp [n1]
end Go.Proofs.YtabafikicbkkdaaGreatDoor
namespace Go.Proofs.YtabafikicbkkdaaGreatDoor
open Go.RowKit
set_option linter.unusedVariables false
set_option maxHeartbeats 4000000
set_option maxRecDepth 100000
set_option linter.unusedSimpArgs false
end Go.Proofs.YtabafikicbkkdaaGreatDoor
namespace Go.Proofs.YtabafikicbkkdaaGreatDoor
open Go.RowKit
set_option linter.unusedVariables false
set_option maxHeartbeats 4000000
set_option maxRecDepth 100000
set_option linter.unusedSimpArgs false
theorem index_cons_ne {b:UInt8} {l:List UInt8} (h:b≠32):Lib.index (b :: l) [32]=if Lib.index l [32]==-1 then -1 else Lib.index l [32] + 1:=by
 have hp:([32]:List UInt8).isPrefixOf (b :: l)=false:=by simp [List.isPrefixOf,Ne.symm h]
 rw [Lib.index,hp]
 simp
theorem index_cons_eq (l:List UInt8):Lib.index (32 :: l) [32]=0:=by rw [Lib.index];simp [List.isPrefixOf]
end Go.Proofs.YtabafikicbkkdaaGreatDoor
namespace Go.Proofs.YtabafikicbkkdaaGreatDoor
open Go.RowKit
set_option linter.unusedVariables false
set_option maxHeartbeats 4000000
set_option maxRecDepth 100000
set_option linter.unusedSimpArgs false
theorem cutC_cons {b:UInt8} {l:List UInt8} (h:([58,32]:List UInt8).isPrefixOf (b :: l)=false):cutC (b :: l)=(cutC l).map fun p=>(b :: p.1,p.2):=by
 rw [cutC.eq_def]
 split
 ·rename_i q;cases q
 ·rename_i r q
  rw [q] at h
  simp [List.isPrefixOf] at h
 ·rename_i y r hne q
  simp at q
  rw [q.1,q.2]
theorem cutC_pre {b:UInt8} {l:List UInt8} (h:([58,32]:List UInt8).isPrefixOf (b :: l)=true):∃ r,b=58∧l=32 :: r:=by
 cases l with
 |nil=>simp [List.isPrefixOf] at h
 |cons c r=>
  simp [List.isPrefixOf] at h
  exact ⟨r,h.1.symm,by rw [← h.2]⟩
theorem index_C:∀ l:List UInt8,(cutC l=none∧Lib.index l [58,32]=-1)∨∃ h t,cutC l=some (h,t)∧Lib.index l [58,32]=(h.length:Int)
 |[]=>.inl ⟨rfl,rfl⟩
 |b :: l=>by
  cases hp:([58,32]:List UInt8).isPrefixOf (b :: l) with
  |true=>
   obtain ⟨r,rfl,rfl⟩:=cutC_pre hp
   refine .inr ⟨[],r,rfl,?_⟩
   rw [Lib.index,hp]
   rfl
  |false=>
   rw [Lib.index,hp,cutC_cons hp]
   rcases index_C l with ⟨h1,h2⟩|⟨h,t,h1,h2⟩
   ·left
    rw [h1,h2]
    exact ⟨rfl,rfl⟩
   ·right
    rw [h1,h2]
    refine ⟨b :: h,t,rfl,?_⟩
    have n1:((h.length:Int)==-1)=false:=by simp
    simp [n1]
theorem index_B:∀ l:List UInt8,(cutB l=none∧Lib.index l [32]=-1)∨∃ h t,cutB l=some (h,t)∧Lib.index l [32]=(h.length:Int)
 |[]=>.inl ⟨rfl,rfl⟩
 |b :: l=>by
  by_cases hb:b=32
  ·subst hb
   exact .inr ⟨[],l,by simp [cutB],index_cons_eq l⟩
  ·rw [index_cons_ne hb,cutB,if_neg hb]
   rcases index_B l with ⟨h1,h2⟩|⟨h,t,h1,h2⟩
   ·left
    rw [h1,h2]
    exact ⟨rfl,rfl⟩
   ·right
    rw [h1,h2]
    refine ⟨b :: h,t,rfl,?_⟩
    have n1:((h.length:Int)==-1)=false:=by simp
    simp [n1]
theorem cut_C (l:List UInt8):Lib.cut l [58,32]=match cutC l with
 |some (h,t)=>(h,t,true)
 |none=>(l,[],false):=by
 rcases index_C l with ⟨h1,h2⟩|⟨h,t,h1,h2⟩
 ·rw [h1,Lib.cut,h2]
  rfl
 ·rw [h1,Lib.cut,h2,cutC_some h1,if_pos (by omega)]
  simp
theorem cut_B (l:List UInt8):Lib.cut l [32]=match cutB l with
 |some (h,t)=>(h,t,true)
 |none=>(l,[],false):=by
 rcases index_B l with ⟨h1,h2⟩|⟨h,t,h1,h2⟩
 ·rw [h1,Lib.cut,h2]
  rfl
 ·rw [h1,Lib.cut,h2,cutB_some h1,if_pos (by omega)]
  simp
def headS (l:List UInt8):Option (Int×Int×List UInt8):=match cutC l with
 |none=>none
 |some (h,t)=>match headR h with
  |none=>none
  |some (v,u)=>some (v,u,t)
theorem parseR_none {s:List UInt8} (hs:s.length≤60000) (h:headS s=none):parseR s=(zeroR,1):=by
 unfold parseR
 unfold headS at h
 rw [if_neg (by omega)]
 cases hc:cutC s with
 |none=>rfl
 |some p=>
  obtain ⟨a,t⟩:=p
  rw [hc] at h
  simp only at h ⊢
  cases hh:headR a with
  |none=>rfl
  |some q=>rw [hh] at h;cases h
theorem parseR_some {s t:List UInt8} {v u:Int} (hs:s.length≤60000) (h:headS s=some (v,u,t)):parseR s=if (parseC ⟨t.toArray⟩).2≠0 then (zeroR,(parseC ⟨t.toArray⟩).2)
  else if checkR ⟨v,u,(parseC ⟨t.toArray⟩).1⟩≠0 then (zeroR,checkR ⟨v,u,(parseC ⟨t.toArray⟩).1⟩) else (⟨v,u,(parseC ⟨t.toArray⟩).1⟩,0):=by
 unfold parseR
 unfold headS at h
 rw [if_neg (by omega)]
 cases hc:cutC s with
 |none=>rw [hc] at h;cases h
 |some p=>
  obtain ⟨a,t'⟩:=p
  rw [hc] at h
  simp only at h ⊢
  cases hh:headR a with
  |none=>rw [hh] at h;cases h
  |some q=>
   obtain ⟨v',u'⟩:=q
   rw [hh] at h
   simp at h
   obtain ⟨rfl,rfl,rfl⟩:=h
   rfl
theorem cat_ok (S1 S2 T:ByteArray) (h1:S1.size≤1000) (h2:S2.size≤1000) (h3:T.size≤1000) :
  ¬ (S1.size + (⟨#[32]⟩:ByteArray).size > 9223372036854775807)∧¬ ((S1++⟨#[32]⟩).size + S2.size > 9223372036854775807)∧¬ ((S1++⟨#[32]⟩++S2).size + (⟨#[58,32]⟩:ByteArray).size > 9223372036854775807)∧¬ ((S1++⟨#[32]⟩++S2++⟨#[58,32]⟩).size + T.size > 9223372036854775807):=by
 have e1:(⟨#[32]⟩:ByteArray).size=1:=rfl
 have e2:(⟨#[58,32]⟩:ByteArray).size=2:=rfl
 simp only [ByteArray.size_append,e1,e2]
 omega
theorem cat_ok2 (S1 S2 T:ByteArray) (h1:S1.size≤1000) (h2:S2.size≤1000) (h3:T.size≤1000) :
  ¬ (9223372036854775807 < S1.size + 1)∧¬ (9223372036854775807 < S1.size + 1 + S2.size)∧¬ (9223372036854775807 < S1.size + 1 + S2.size + 2)∧¬ (9223372036854775807 < S1.size + 1 + S2.size + 2 + T.size):=by omega
theorem cat_eq (r:PR):itoaB r.w++⟨#[32]⟩++itoaB r.s++⟨#[58,32]⟩++⟨(textC r.c).toArray⟩=⟨(textR r).toArray⟩:=by
 rw [show (⟨#[32]⟩:ByteArray)=⟨([32]:List UInt8).toArray⟩ from rfl,show (⟨#[58,32]⟩:ByteArray)=⟨([58,32]:List UInt8).toArray⟩ from rfl]
 unfold itoaB textR
 rw [mk_append,mk_append,mk_append,mk_append]
 simp
theorem itoaB_size {v:Int} (h0:0≤v) (h1:v≤999):(itoaB v).size≤1000:=by
 have:=itoa_len h0 h1
 rw [Lib.size_eq]
 simp [itoaB]
 omega
theorem textB_size {b:PC} (h:checkC b=0):(⟨(textC b).toArray⟩:ByteArray).size≤1000:=by
 have:=textC_len h
 rw [Lib.size_eq]
 simp
 omega
end Go.Proofs.YtabafikicbkkdaaGreatDoor
namespace Go.Proofs.YtabafikicbkkdaaGreatDoor
open Go.RowKit
set_option linter.unusedVariables false
set_option maxHeartbeats 4000000
set_option maxRecDepth 100000
set_option linter.unusedSimpArgs false
theorem NPrint_c (x:RV) (w:World) (hE:Env w) (h:x.ok w):Calls Tryz.prog 211 #[x.v] w fun e w'=>e=.returned (.tuple #[textV (printR x.p).1,.int .i64 (printR x.p).2])∧Below w.heap.size w w':=by
 have HK:=hide (fun w' hS h'=>NCheck_c x w' hS h')
 obtain ⟨⟨q,s,⟨k,z,m,t,d⟩⟩,a,n,c⟩:=x
 dsimp only [RV.v,RV.ok] at *
 by_cases hck:checkR ⟨q,s,⟨k,z,m,t,d⟩⟩=0
 ·have HP:Hid (printR ⟨q,s,⟨k,z,m,t,d⟩⟩=(textR ⟨q,s,⟨k,z,m,t,d⟩⟩,0)):=hide (by unfold printR;rw [if_pos hck])
  obtain ⟨hq,hs,hc⟩:=checkR_facts hck
  dsimp only at hq hs hc
  have HR:=hide (fun w' hE h'=>Print_c a n c ⟨k,z,m,t,d⟩ w' hE h')
  have hpr:printC ⟨k,z,m,t,d⟩=(textC ⟨k,z,m,t,d⟩,0):=by unfold printC;rw [if_pos hc]
  rw [hpr] at HR
  unfold cmdV textV at HR
  dsimp only at HR
  rw [hck] at HK
  have hcat:=cat_eq ⟨q,s,⟨k,z,m,t,d⟩⟩
  dsimp only at hcat
  have HT:=hide hcat
  clear hcat hpr hck
  have hT:=textB_size hc
  clear hc
  generalize (⟨(textC ⟨k,z,m,t,d⟩).toArray⟩:ByteArray)=T at *
  have hA:=itoaB_size (v:=q) (by omega) (by omega)
  have hB:=itoaB_size (v:=s) (by omega) (by omega)
  have HI:Hid (∀ v,v=q∨v=s→∀ w',Env w'→Calls Tryz.prog 145 #[.int .i64 v] w' fun e w''=>e=.returned (.string (itoaB v))∧Below w'.heap.size w' w''):=hide (fun v hv w' h'=>Itoa_c v (by omega) w' h')
  clear hq hs
  go_enter Tryz.func211,Tryz.ntmps211
  go_wp2_with fail
  refine (HK.out _ (hE.shp.below (by (repeat first|exact bel0|assumption|refine bel1 ?_|refine bel2 ?_|refine bel3 ?_|refine belowT ?_ (by assumption)|refine bel5 ?_ (by simp;try omega)))) (h.below (B:=w.heap.size) (by (repeat first|exact bel0|assumption|refine bel1 ?_|refine bel2 ?_|refine bel3 ?_|refine belowT ?_ (by assumption)|refine bel5 ?_ (by simp;try omega))) (Nat.le_refl _))).mono ?_
  rintro e w1 ⟨rfl,hb1⟩
  have bw1:Below w.heap.size w w1:=by (repeat first|exact bel0|assumption|refine bel1 ?_|refine bel2 ?_|refine bel3 ?_|refine belowT ?_ (by assumption)|refine bel5 ?_ (by simp;try omega))
  have u0:=keepc hb1 (p:=⟨w.heap.size,0,none⟩) (u:=.int .i64 q) (by (first|(go_simp;done)|(simp [*,World.cell?_alloc_at,World.cell?_alloc_past,World.cell?_alloc_some,World.cell?_setCell_far];done)))
  have u1:=keepc hb1 (p:=⟨w.heap.size,1,none⟩) (u:=.int .i64 s) (by (first|(go_simp;done)|(simp [*,World.cell?_alloc_at,World.cell?_alloc_past,World.cell?_alloc_some,World.cell?_setCell_far];done)))
  have u2:=keepc hb1 (p:=⟨w.heap.size,2,none⟩) (u:=.int .i64 k) (by (first|(go_simp;done)|(simp [*,World.cell?_alloc_at,World.cell?_alloc_past,World.cell?_alloc_some,World.cell?_setCell_far];done)))
  have u3:=keepc hb1 (p:=⟨w.heap.size,3,none⟩) (u:=.int .i64 z) (by (first|(go_simp;done)|(simp [*,World.cell?_alloc_at,World.cell?_alloc_past,World.cell?_alloc_some,World.cell?_setCell_far];done)))
  have u4:=keepc hb1 (p:=⟨w.heap.size,4,none⟩) (u:=.int .i64 m) (by (first|(go_simp;done)|(simp [*,World.cell?_alloc_at,World.cell?_alloc_past,World.cell?_alloc_some,World.cell?_setCell_far];done)))
  have u5:=keepc hb1 (p:=⟨w.heap.size,5,none⟩) (u:=.int .i64 t) (by (first|(go_simp;done)|(simp [*,World.cell?_alloc_at,World.cell?_alloc_past,World.cell?_alloc_some,World.cell?_setCell_far];done)))
  have u6:=keepc hb1 (p:=⟨w.heap.size,6,none⟩) (u:=.slice a n c) (by (first|(go_simp;done)|(simp [*,World.cell?_alloc_at,World.cell?_alloc_past,World.cell?_alloc_some,World.cell?_setCell_far];done)))
  clear hb1 HK
  go_wp2_with fail
  refine (HR.out _ (hE.below bw1) (h.below bw1 (Nat.le_refl _))).mono ?_
  rintro e w2 ⟨rfl,hb2⟩
  have bw2:Below w.heap.size w w2:=by (repeat first|exact bel0|assumption|refine bel1 ?_|refine bel2 ?_|refine bel3 ?_|refine belowT ?_ (by assumption)|refine bel5 ?_ (by simp;try omega))
  have v0:=keepc hb2 (p:=⟨w.heap.size,0,none⟩) (u:=.int .i64 q) (by (first|(go_simp;done)|(simp [*,World.cell?_alloc_at,World.cell?_alloc_past,World.cell?_alloc_some,World.cell?_setCell_far];done)))
  have v1:=keepc hb2 (p:=⟨w.heap.size,1,none⟩) (u:=.int .i64 s) (by (first|(go_simp;done)|(simp [*,World.cell?_alloc_at,World.cell?_alloc_past,World.cell?_alloc_some,World.cell?_setCell_far];done)))
  clear hb2 bw1 u0 u1 u2 u3 u4 u5 u6 HR
  go_wp2
  obtain ⟨g1,g2,g3,g4⟩:=cat_ok (itoaB q) (itoaB s) T hA hB hT
  obtain ⟨i1,i2,i3,i4⟩:=cat_ok2 (itoaB q) (itoaB s) T hA hB hT
  go_region_held3 (fun w'=>w'.cell? ⟨w.heap.size,0,none⟩=some (.int .i64 q)∧w'.cell? ⟨w.heap.size,1,none⟩=some (.int .i64 s)) ((first|(go_simp;done)|(simp [*,World.cell?_alloc_at,World.cell?_alloc_past,World.cell?_alloc_some,World.cell?_setCell_far];done))) (first|(go_at_call 145;refine (HI.out _ (by simp) _ (hE.below (by (repeat first|exact bel0|assumption|refine bel1 ?_|refine bel2 ?_|refine bel3 ?_|refine belowT ?_ (by assumption)|refine bel5 ?_ (by simp;try omega))))).mono ?_;rintro e w9 ⟨rfl,hb9⟩;(have f0:=keepc hb9 (p:=⟨w.heap.size,0,none⟩) (u:=.int .i64 q) (by (first|(go_simp;done)|(simp [*,World.cell?_alloc_at,World.cell?_alloc_past,World.cell?_alloc_some,World.cell?_setCell_far];done))));(have f1:=keepc hb9 (p:=⟨w.heap.size,1,none⟩) (u:=.int .i64 s) (by (first|(go_simp;done)|(simp [*,World.cell?_alloc_at,World.cell?_alloc_past,World.cell?_alloc_some,World.cell?_setCell_far];done))))))
  go_wp2
  refine bodyPost_ret (v:=.tuple #[.string (itoaB q++⟨#[32]⟩++itoaB s++⟨#[58,32]⟩++T),.int .i64 0]) (by simp [results,Tryz.results211,go_sem]) rfl ⟨?_,by (repeat first|exact bel0|assumption|refine bel1 ?_|refine bel2 ?_|refine bel3 ?_|refine belowT ?_ (by assumption)|refine bel5 ?_ (by simp;try omega))⟩
  rw [HP.out,HT.out]
  rfl
 ·have HP:Hid (printR ⟨q,s,⟨k,z,m,t,d⟩⟩=([],checkR ⟨q,s,⟨k,z,m,t,d⟩⟩)):=hide (by unfold printR;rw [if_neg hck])
  have hcb:(checkR ⟨q,s,⟨k,z,m,t,d⟩⟩ !=0)=true:=by simpa using hck
  clear hck
  generalize checkR ⟨q,s,⟨k,z,m,t,d⟩⟩=cb at *
  go_enter Tryz.func211,Tryz.ntmps211
  go_wp2_with fail
  refine (HK.out _ (hE.shp.below (by (repeat first|exact bel0|assumption|refine bel1 ?_|refine bel2 ?_|refine bel3 ?_|refine belowT ?_ (by assumption)|refine bel5 ?_ (by simp;try omega)))) (h.below (B:=w.heap.size) (by (repeat first|exact bel0|assumption|refine bel1 ?_|refine bel2 ?_|refine bel3 ?_|refine belowT ?_ (by assumption)|refine bel5 ?_ (by simp;try omega))) (Nat.le_refl _))).mono ?_
  rintro e w1 ⟨rfl,hb1⟩
  go_wp2
  refine bodyPost_ret (v:=.tuple #[.string ⟨#[]⟩,.int .i64 cb]) (by simp [results,Tryz.results211,go_sem]) rfl ⟨?_,by (repeat first|exact bel0|assumption|refine bel1 ?_|refine bel2 ?_|refine bel3 ?_|refine belowT ?_ (by assumption)|refine bel5 ?_ (by simp;try omega))⟩
  rw [HP.out]
  rfl
def CutRes (r:Option (List UInt8×List UInt8)) (e:Ending):Prop:=
 ∃ (x y:ByteArray) (f:Bool),e=.returned (.tuple #[.string x,.string y,.bool f])∧x.size≤60000∧y.size≤60000∧(f=true→r=some (x.data.toList,y.data.toList))∧(f=false→r=none)
theorem CutC_c (s:ByteArray) (hs:s.size≤60000) (w:World) (hE:Env w):Calls Tryz.prog 126 #[.string s,.string ⟨#[58,32]⟩] w fun e w'=>CutRes (cutC s.data.toList) e∧Below w.heap.size w w':=by
 obtain ⟨m,hm⟩:=hE.max
 refine (Tryz.strings_Cut s ⟨#[58,32]⟩ m w (by omega) hm).mono ?_
 rintro e w' ⟨rfl,n,rfl⟩
 refine ⟨?_,by (repeat first|exact bel0|assumption|refine bel1 ?_|refine bel2 ?_|refine bel3 ?_|refine belowT ?_ (by assumption)|refine bel5 ?_ (by simp;try omega))⟩
 have h:=cut_C s.data.toList
 rw [Lib.size_eq] at hs
 cases hc:cutC s.data.toList with
 |none=>
  rw [hc] at h
  simp only at h
  refine ⟨s,⟨#[]⟩,false,by simp [h],by rw [Lib.size_eq];exact hs,by decide,(fun q=>by cases q),fun _=>rfl⟩
 |some p=>
  obtain ⟨a,b⟩:=p
  rw [hc] at h
  simp only at h
  have hl:s.data.toList.length=_:=congrArg List.length (cutC_some hc)
  simp only [List.length_append,List.length_cons] at hl
  refine ⟨⟨a.toArray⟩,⟨b.toArray⟩,true,by simp [h],by rw [Lib.size_eq];simp;omega,by rw [Lib.size_eq];simp;omega,fun _=>rfl,(fun q=>by cases q)⟩
theorem CutB_c (s:ByteArray) (hs:s.size≤60000) (w:World) (hE:Env w):Calls Tryz.prog 126 #[.string s,.string ⟨#[32]⟩] w fun e w'=>CutRes (cutB s.data.toList) e∧Below w.heap.size w w':=by
 obtain ⟨m,hm⟩:=hE.max
 refine (Tryz.strings_Cut s ⟨#[32]⟩ m w (by omega) hm).mono ?_
 rintro e w' ⟨rfl,n,rfl⟩
 refine ⟨?_,by (repeat first|exact bel0|assumption|refine bel1 ?_|refine bel2 ?_|refine bel3 ?_|refine belowT ?_ (by assumption)|refine bel5 ?_ (by simp;try omega))⟩
 have h:=cut_B s.data.toList
 rw [Lib.size_eq] at hs
 cases hc:cutB s.data.toList with
 |none=>
  rw [hc] at h
  simp only at h
  refine ⟨s,⟨#[]⟩,false,by simp [h],by rw [Lib.size_eq];exact hs,by decide,(fun q=>by cases q),fun _=>rfl⟩
 |some p=>
  obtain ⟨a,b⟩:=p
  rw [hc] at h
  simp only at h
  have hl:s.data.toList.length=_:=congrArg List.length (cutB_some hc)
  simp only [List.length_append,List.length_cons] at hl
  refine ⟨⟨a.toArray⟩,⟨b.toArray⟩,true,by simp [h],by rw [Lib.size_eq];simp;omega,by rw [Lib.size_eq];simp;omega,fun _=>rfl,(fun q=>by cases q)⟩
def headV (v u:Int):Value:=.agg #[.int .i64 v,.int .i64 u,.int .i64 0,.int .i64 0,.int .i64 0,.int .i64 0,.slice none 0 0]
def HeadRes (r:Option (Int×Int×List UInt8)) (e:Ending):Prop:=
 (∃ v u,∃ t:ByteArray,r=some (v,u,t.data.toList)∧t.size≤60000∧e=.returned (.tuple #[headV v u,.string t,.bool true]))∨(r=none∧e=.returned (.tuple #[headV 0 0,.string ⟨#[]⟩,.bool false]))
theorem HeadRes.none' {r:Option (Int×Int×List UInt8)} {e:Ending} (h:r=none) (k:e=.returned (.tuple #[headV 0 0,.string ⟨#[]⟩,.bool false])):HeadRes r e:=.inr ⟨h,k⟩
theorem head_c (s:ByteArray) (hs:s.size≤60000) (w:World) (hE:Env w):Calls Tryz.prog 103 #[.string s] w fun e w'=>HeadRes (headS s.data.toList) e∧Below w.heap.size w w':=by
 have xR:=Lay.made w [.int .i64 0,.int .i64 0,.int .i64 0,.int .i64 0,.int .i64 0,.int .i64 0,.slice none 0 0] 52
 have bw:Below w.heap.size w (w.alloc (.cells [.int .i64 0,.int .i64 0,.int .i64 0,.int .i64 0,.int .i64 0,.int .i64 0,.slice none 0 0].toArray 52)):=by (repeat first|exact bel0|assumption|refine bel1 ?_|refine bel2 ?_|refine bel3 ?_|refine belowT ?_ (by assumption)|refine bel5 ?_ (by simp;try omega))
 go_enter Tryz.func103,Tryz.ntmps103
 go_wp2_with fail
 refine (CutC_c s hs _ (hE.below bw)).mono ?_
 rintro e w1 ⟨⟨x,y,f,rfl,hx,hy,hf1,hf0⟩,hb1⟩
 replace xR:=xR.below hb1
 replace bw:=belowT bw hb1
 have HF1:=hide hf1
 have HF0:=hide hf0
 clear hf1 hf0 hb1
 go_wp2_with fail
 refine (CutB_c x hx _ (hE.below bw)).mono ?_
 rintro e w2 ⟨⟨a,b,g,rfl,ha,hb,hg1,hg0⟩,hb2⟩
 replace xR:=xR.below hb2
 replace bw:=belowT bw hb2
 have HG1:=hide hg1
 have HG0:=hide hg0
 clear hg1 hg0 hb2
 go_wp2_with fail
 refine (number_c a (by omega) _ (hE.below bw)).mono ?_
 rintro e w3 ⟨⟨v,i,rfl,hi1,hi0⟩,hb3⟩
 replace xR:=xR.below hb3
 replace bw:=belowT bw hb3
 have HI1:=hide hi1
 have HI0:=hide hi0
 clear hi1 hi0 hb3
 go_wp2_with fail
 refine (number_c b (by omega) _ (hE.below bw)).mono ?_
 rintro e w4 ⟨⟨u,j,rfl,hj1,hj0⟩,hb4⟩
 replace xR:=xR.below hb4
 replace bw:=belowT bw hb4
 have HJ1:=hide hj1
 have HJ0:=hide hj0
 clear hj1 hj0 hb4
 have e0:=xR.cell 0 _ rfl
 have e1:=xR.cell 1 _ rfl
 have e2:=xR.cell 2 _ rfl
 have e3:=xR.cell 3 _ rfl
 have e4:=xR.cell 4 _ rfl
 have e5:=xR.cell 5 _ rfl
 have e6:=xR.cell 6 _ rfl
 have f0:=xR.ice 0
 have f1:=xR.ice 1
 have f2:=xR.ice 2
 have f3:=xR.ice 3
 have f4:=xR.ice 4
 have f5:=xR.ice 5
 have f6:=xR.ice 6
 cases f
 ·have HH:Hid (headS s.data.toList=none):=hide (by simp [headS,HF0.out rfl])
  go_wp2
  have zB:=((((((xR.set 0 (.int .i64 (0))).set 1 (.int .i64 (0))).set 2 (.int .i64 (0))).set 3 (.int .i64 (0))).set 4 (.int .i64 (0))).set 5 (.int .i64 (0))).set 6 (.slice none 0 0)
  have hbut:=(((((((ButI.refl (w.heap.size) (w4)).step 0 (.int .i64 (0))).step 1 (.int .i64 (0))).step 2 (.int .i64 (0))).step 3 (.int .i64 (0))).step 4 (.int .i64 (0))).step 5 (.int .i64 (0))).step 6 (.slice none 0 0)
  generalize (((((((w4).setCell ⟨w.heap.size,0,none⟩ (.int .i64 (0))).setCell ⟨w.heap.size,1,none⟩ (.int .i64 (0))).setCell ⟨w.heap.size,2,none⟩ (.int .i64 (0))).setCell ⟨w.heap.size,3,none⟩ (.int .i64 (0))).setCell ⟨w.heap.size,4,none⟩ (.int .i64 (0))).setCell ⟨w.heap.size,5,none⟩ (.int .i64 (0))).setCell ⟨w.heap.size,6,none⟩ (.slice none 0 0)=w99 at *
  have y0:=zB.cell 0 _ rfl
  have y1:=zB.cell 1 _ rfl
  have y2:=zB.cell 2 _ rfl
  have y3:=zB.cell 3 _ rfl
  have y4:=zB.cell 4 _ rfl
  have y5:=zB.cell 5 _ rfl
  have y6:=zB.cell 6 _ rfl
  refine bodyPost_ret (v:=.tuple #[headV 0 0,.string ⟨#[]⟩,.bool false]) (by simp [results,Tryz.results103,go_sem,headV,y0,y1,y2,y3,y4,y5,y6]) rfl ⟨.none' HH.out rfl,bw.trans hbut.but.low⟩
 ·cases g
  ·have HH:Hid (headS s.data.toList=none):=hide (by simp [headS,HF1.out rfl,headR,HG0.out rfl])
   go_wp2
   have zB:=((((((xR.set 0 (.int .i64 (0))).set 1 (.int .i64 (0))).set 2 (.int .i64 (0))).set 3 (.int .i64 (0))).set 4 (.int .i64 (0))).set 5 (.int .i64 (0))).set 6 (.slice none 0 0)
   have hbut:=(((((((ButI.refl (w.heap.size) (w4)).step 0 (.int .i64 (0))).step 1 (.int .i64 (0))).step 2 (.int .i64 (0))).step 3 (.int .i64 (0))).step 4 (.int .i64 (0))).step 5 (.int .i64 (0))).step 6 (.slice none 0 0)
   generalize (((((((w4).setCell ⟨w.heap.size,0,none⟩ (.int .i64 (0))).setCell ⟨w.heap.size,1,none⟩ (.int .i64 (0))).setCell ⟨w.heap.size,2,none⟩ (.int .i64 (0))).setCell ⟨w.heap.size,3,none⟩ (.int .i64 (0))).setCell ⟨w.heap.size,4,none⟩ (.int .i64 (0))).setCell ⟨w.heap.size,5,none⟩ (.int .i64 (0))).setCell ⟨w.heap.size,6,none⟩ (.slice none 0 0)=w99 at *
   have y0:=zB.cell 0 _ rfl
   have y1:=zB.cell 1 _ rfl
   have y2:=zB.cell 2 _ rfl
   have y3:=zB.cell 3 _ rfl
   have y4:=zB.cell 4 _ rfl
   have y5:=zB.cell 5 _ rfl
   have y6:=zB.cell 6 _ rfl
   refine bodyPost_ret (v:=.tuple #[headV 0 0,.string ⟨#[]⟩,.bool false]) (by simp [results,Tryz.results103,go_sem,headV,y0,y1,y2,y3,y4,y5,y6]) rfl ⟨.none' HH.out rfl,bw.trans hbut.but.low⟩
  ·cases i
   ·have HH:Hid (headS s.data.toList=none):=hide (by simp [headS,HF1.out rfl,headR,HG1.out rfl,HI0.out rfl])
    go_wp2
    have zB:=((((((xR.set 0 (.int .i64 (0))).set 1 (.int .i64 (0))).set 2 (.int .i64 (0))).set 3 (.int .i64 (0))).set 4 (.int .i64 (0))).set 5 (.int .i64 (0))).set 6 (.slice none 0 0)
    have hbut:=(((((((ButI.refl (w.heap.size) (w4)).step 0 (.int .i64 (0))).step 1 (.int .i64 (0))).step 2 (.int .i64 (0))).step 3 (.int .i64 (0))).step 4 (.int .i64 (0))).step 5 (.int .i64 (0))).step 6 (.slice none 0 0)
    generalize (((((((w4).setCell ⟨w.heap.size,0,none⟩ (.int .i64 (0))).setCell ⟨w.heap.size,1,none⟩ (.int .i64 (0))).setCell ⟨w.heap.size,2,none⟩ (.int .i64 (0))).setCell ⟨w.heap.size,3,none⟩ (.int .i64 (0))).setCell ⟨w.heap.size,4,none⟩ (.int .i64 (0))).setCell ⟨w.heap.size,5,none⟩ (.int .i64 (0))).setCell ⟨w.heap.size,6,none⟩ (.slice none 0 0)=w99 at *
    have y0:=zB.cell 0 _ rfl
    have y1:=zB.cell 1 _ rfl
    have y2:=zB.cell 2 _ rfl
    have y3:=zB.cell 3 _ rfl
    have y4:=zB.cell 4 _ rfl
    have y5:=zB.cell 5 _ rfl
    have y6:=zB.cell 6 _ rfl
    refine bodyPost_ret (v:=.tuple #[headV 0 0,.string ⟨#[]⟩,.bool false]) (by simp [results,Tryz.results103,go_sem,headV,y0,y1,y2,y3,y4,y5,y6]) rfl ⟨.none' HH.out rfl,bw.trans hbut.but.low⟩
   ·cases j
    ·have HH:Hid (headS s.data.toList=none):=hide (by simp [headS,HF1.out rfl,headR,HG1.out rfl,HI1.out rfl,HJ0.out rfl])
     go_wp2
     have zB:=((((((xR.set 0 (.int .i64 (0))).set 1 (.int .i64 (0))).set 2 (.int .i64 (0))).set 3 (.int .i64 (0))).set 4 (.int .i64 (0))).set 5 (.int .i64 (0))).set 6 (.slice none 0 0)
     have hbut:=(((((((ButI.refl (w.heap.size) (w4)).step 0 (.int .i64 (0))).step 1 (.int .i64 (0))).step 2 (.int .i64 (0))).step 3 (.int .i64 (0))).step 4 (.int .i64 (0))).step 5 (.int .i64 (0))).step 6 (.slice none 0 0)
     generalize (((((((w4).setCell ⟨w.heap.size,0,none⟩ (.int .i64 (0))).setCell ⟨w.heap.size,1,none⟩ (.int .i64 (0))).setCell ⟨w.heap.size,2,none⟩ (.int .i64 (0))).setCell ⟨w.heap.size,3,none⟩ (.int .i64 (0))).setCell ⟨w.heap.size,4,none⟩ (.int .i64 (0))).setCell ⟨w.heap.size,5,none⟩ (.int .i64 (0))).setCell ⟨w.heap.size,6,none⟩ (.slice none 0 0)=w99 at *
     have y0:=zB.cell 0 _ rfl
     have y1:=zB.cell 1 _ rfl
     have y2:=zB.cell 2 _ rfl
     have y3:=zB.cell 3 _ rfl
     have y4:=zB.cell 4 _ rfl
     have y5:=zB.cell 5 _ rfl
     have y6:=zB.cell 6 _ rfl
     refine bodyPost_ret (v:=.tuple #[headV 0 0,.string ⟨#[]⟩,.bool false]) (by simp [results,Tryz.results103,go_sem,headV,y0,y1,y2,y3,y4,y5,y6]) rfl ⟨.none' HH.out rfl,bw.trans hbut.but.low⟩
    ·have HH:Hid (headS s.data.toList=some (v,u,y.data.toList)):=hide (by simp [headS,HF1.out rfl,headR,HG1.out rfl,HI1.out rfl,HJ1.out rfl])
     go_wp2
     have zB:=((((((xR.set 0 (.int .i64 (v))).set 1 (.int .i64 (u))).set 2 (.int .i64 (0))).set 3 (.int .i64 (0))).set 4 (.int .i64 (0))).set 5 (.int .i64 (0))).set 6 (.slice none 0 0)
     have hbut:=(((((((ButI.refl (w.heap.size) (w4)).step 0 (.int .i64 (v))).step 1 (.int .i64 (u))).step 2 (.int .i64 (0))).step 3 (.int .i64 (0))).step 4 (.int .i64 (0))).step 5 (.int .i64 (0))).step 6 (.slice none 0 0)
     generalize (((((((w4).setCell ⟨w.heap.size,0,none⟩ (.int .i64 (v))).setCell ⟨w.heap.size,1,none⟩ (.int .i64 (u))).setCell ⟨w.heap.size,2,none⟩ (.int .i64 (0))).setCell ⟨w.heap.size,3,none⟩ (.int .i64 (0))).setCell ⟨w.heap.size,4,none⟩ (.int .i64 (0))).setCell ⟨w.heap.size,5,none⟩ (.int .i64 (0))).setCell ⟨w.heap.size,6,none⟩ (.slice none 0 0)=w99 at *
     have y0:=zB.cell 0 _ rfl
     have y1:=zB.cell 1 _ rfl
     have y2:=zB.cell 2 _ rfl
     have y3:=zB.cell 3 _ rfl
     have y4:=zB.cell 4 _ rfl
     have y5:=zB.cell 5 _ rfl
     have y6:=zB.cell 6 _ rfl
     refine bodyPost_ret (v:=.tuple #[headV v u,.string y,.bool true]) (by simp [results,Tryz.results103,go_sem,headV,y0,y1,y2,y3,y4,y5,y6]) rfl ⟨.inl ⟨v,u,y,HH.out,hy,rfl⟩,bw.trans hbut.but.low⟩
end Go.Proofs.YtabafikicbkkdaaGreatDoor
