/- What a slice of ints is in a world, and small facts on it; plain mathematics, no condition. -/
import Derived.WalkKit
import Derived.Deep.Draws
import Derived.Laws.CopyOwn
import Derived.Deep.OwnRows
import Derived.Test.YtabafikicbkkdaaGreatDoorRows
import Derived.ProofKit
import Derived.OpenShut
import Derived.ShutString
import Derived.ChangeOld
import Derived.Below
import Derived.Lib.SmallJoins
import Derived.Test.YtabafikicbkkdaaGreatDoorProg
import Derived.BigQuiet
import Derived.Deep.QuietTactic
import Derived.WalkSpells
import Derived.Lib.ItoaMem
import Derived.Lib.ParseIntB
import Derived.Lib.IndexMore
import Derived.ChangeMaps5
import Derived.Lib.SplitLaws
import Derived.Lib.ParseIntBTie
namespace Go.Proofs.YtabafikicbkkdaaGreatDoor
open Go.RowKit
set_option linter.unusedVariables false
set_option maxHeartbeats 400000
set_option maxRecDepth 100000
structure Ints (w:World) (a:Option Addr) (n c:Nat) (l:List Int):Prop where
 len:l.length=n
 le:n≤c
 max:c≤9223372036854775807
 nil:a=none→c=0
 row:n=0∨∃ b off,a=some ⟨b,off,none⟩∧b < w.heap.size∧∀ i,i < n→w.cell? ⟨b,off + i,none⟩=some (.int .i64 (l.getD i 0))
 wf:∀ x∈l,-9223372036854775808≤x∧x≤9223372036854775807
theorem Ints.below {w w':World} {a:Option Addr} {n c:Nat} {l:List Int} (h:Ints w a n c l) {B:Nat} (hb:Below B w w') (hB:w.heap.size≤B):Ints w' a n c l:=by
 refine ⟨h.len,h.le,h.max,h.nil,?_,h.wf⟩
 rcases h.row with h0|⟨b,off,ha,hlt,hc⟩
 ·exact .inl h0
 ·refine .inr ⟨b,off,ha,Nat.lt_of_lt_of_le hlt hb.size,fun i hi=>?_⟩
  rw [hb.cell (p:=⟨b,off + i,none⟩) (Nat.lt_of_lt_of_le hlt hB)];exact hc i hi
theorem Ints.drewN {w:World} {a:Option Addr} {n c:Nat} {l:List Int} (h:Ints w a n c l) (k:Nat):Ints (w.drewN k) a n c l:=
 ⟨h.len,h.le,h.max,h.nil,h.row,h.wf⟩
theorem Ints.nilSlice (w:World):Ints w none 0 0 []:=⟨rfl,Nat.le_refl _,by omega,fun _=>rfl,.inl rfl,by simp⟩
theorem bcell {W w1:World} {B:Nat} (hb:Below B W w1):(∀ b o,b < B→w1.cell? ⟨b,o,none⟩=W.cell? ⟨b,o,none⟩)∧(∀ b o,b < B→w1.frozen? ⟨b,o,none⟩=W.frozen? ⟨b,o,none⟩):=
 ⟨fun b o h=>hb.cell (p:=⟨b,o,none⟩) h,fun b o h=>hb.frozen (p:=⟨b,o,none⟩) h⟩
theorem below_drewN {B:Nat} {a w:World} (h:Below B a w) (n:Nat):Below B a (w.drewN n):=⟨h.os,h.tape,h.output,h.size,h.block⟩
theorem belowA {a w:World} (h:Below a.heap.size a w) (o:Obj):Below a.heap.size a (w.alloc o):=h.alloc h.size o
theorem belowT {a b c:World} (h:Below a.heap.size a b) (k:Below b.heap.size b c):Below a.heap.size a c:=h.trans (k.mono h.size)
theorem bel0 {B:Nat} {w:World} : Below B w w:=Below.refl B w
theorem bel1 {B:Nat} {a w:World} (h:Below B a w):Below B a w.drew:=h.drew
theorem bel2 {B n:Nat} {a w:World} (h:Below B a w):Below B a (w.drewN n):=below_drewN h n
theorem bel3 {a w:World} {o:Obj} (h:Below a.heap.size a w):Below a.heap.size a (w.alloc o):=belowA h o
theorem bel5 {B:Nat} {a w:World} {p:Addr} {u:Value} (h:Below B a w) (hp:B≤p.block):Below B a (w.setCell p u):=h.setCell hp u
theorem keepc {W w':World} (hb:Below W.heap.size W w') {p:Addr} {u:Value} (h:W.cell? p=some u):w'.cell? p=some u:=by
 rw [hb.cell (World.block_lt_of_cell? W p h)];exact h
theorem keepf {W w':World} (hb:Below W.heap.size W w') {p:Addr} {u:Value} (h:W.cell? p=some u) {b:Bool} (hf:W.frozen? p=b):w'.frozen? p=b:=by
 rw [hb.frozen (World.block_lt_of_cell? W p h)];exact hf
theorem past1 {w:World} {p:Addr} {v:Value} (h:w.cell? p=some v) (o:Obj):(w.alloc o).cell? p=some v:=by
 have hlt:p.block < w.heap.size:=World.block_lt_of_cell? w p h
 rw [World.cell?_alloc_lt w o p hlt,h]
theorem pastf1 {w:World} {p:Addr} {v:Value} (h:w.cell? p=some v) {b:Bool} (hf:w.frozen? p=b) (o:Obj):(w.alloc o).frozen? p=b:=by
 have hlt:p.block < w.heap.size:=World.block_lt_of_cell? w p h
 rw [World.frozen?_alloc_old w o p (Nat.ne_of_lt hlt),hf]
theorem past2 {w:World} {p:Addr} {v:Value} (h:w.cell? p=some v) (o1 o2:Obj):((w.alloc o1).alloc o2).cell? p=some v:=past1 (past1 h o1) o2
theorem past3 {w:World} {p:Addr} {v:Value} (h:w.cell? p=some v) (o1 o2 o3:Obj):(((w.alloc o1).alloc o2).alloc o3).cell? p=some v:=past1 (past2 h o1 o2) o3
theorem past4 {w:World} {p:Addr} {v:Value} (h:w.cell? p=some v) (o1 o2 o3 o4:Obj):((((w.alloc o1).alloc o2).alloc o3).alloc o4).cell? p=some v:=past1 (past3 h o1 o2 o3) o4
theorem hide {p:Prop} (h:p):Hid p:=h
theorem take_succ_getD (l:List Int) (k:Nat) (h:k < l.length):l.take (k + 1)=l.take k++[l.getD k 0]:=by
 rw [List.take_succ_eq_append_getElem h];simp [List.getD,h]
theorem take_eq_step (l m:List Int) (k:Nat) (hl:k < l.length) (hm:k < m.length) (h:l.take k=m.take k) (hx:l.getD k 0=m.getD k 0):l.take (k + 1)=m.take (k + 1):=by
 rw [take_succ_getD l k hl,take_succ_getD m k hm,h,hx]
theorem ne_of_getD (l m:List Int) (k:Nat) (hx:l.getD k 0≠m.getD k 0):l≠m:=fun h=>hx (by rw [h])
theorem ret_bool {a b:Bool} (h:a=b):Ending.returned (.bool a)=.returned (.bool b):=by rw [h]
theorem ret_vi {v:Value} {k:IntKind} {a b:Int} (h:a=b):Ending.returned (.tuple #[v,.int k a])=.returned (.tuple #[v,.int k b]):=by rw [h]
theorem ret_int {k:IntKind} {a b:Int} (h:a=b):Ending.returned (.int k a)=.returned (.int k b):=by rw [h]
theorem any_take_step (p:Int→Bool) (l:List Int) (k:Nat) (hk:k < l.length) (h:(l.take k).any p=false) (hx:p (l.getD k 0)=false):(l.take (k + 1)).any p=false:=by
 rw [take_succ_getD l k hk];generalize l.getD k 0=x at hx;simp [h,hx]
theorem any_of_getD (p:Int→Bool) (l:List Int) (k:Nat) (hk:k < l.length) (hx:p (l.getD k 0)=true):l.any p=true:=by
 rw [List.any_eq_true];exact ⟨l.getD k 0,by simp [List.getD,hk],hx⟩
theorem copy_run {P:Program} (w:World) (dT sT ty elem:TypeId) (hu:P.underlying dT=some (.slice elem)) (hsz:(P.info? elem).map (·.size)=some 1)
  (dp sp:Option Addr) (dLen dCap sLen sCap g off:Nat) (cur:List Value) (t:TypeId) (hg:w.heap[g]?=some (.cells cur.toArray t (0,0))) (cs:List Value) (hn:cs.length=Nat.min sLen dLen)
  (hpos:0 < cs.length→dp=some ⟨g,off,none⟩∧∃ ad,sp=some ad∧∀ j v,cs[j]?=some v→w.cell? (ad.add j)=some v)
  (hfit:off + cs.length≤cur.length) (ho:∀ v∈cs,v.oneCell'=true) :
  ∃ w',(Builtin.copy_ #[dT,sT] ty #[.slice dp dLen dCap,.slice sp sLen sCap]).run P w=.ok (goInt cs.length) w'∧
   w'.heap[g]?=some (.cells (splice cur off cs).toArray t (0,0))∧Below g w w':=by
 by_cases h0:cs.length=0
 ·obtain rfl:cs=[]:=List.eq_nil_of_length_eq_zero h0
  exact ⟨w,run_copy_none (P:=P) w dT sT ty elem dp sp dLen dCap sLen sCap hu hsz (by simpa using hn.symm),by simpa [splice] using hg,Below.refl _ _⟩
 ·obtain ⟨rfl,ad,rfl,hsrc⟩:=hpos (by omega)
  exact ⟨_,run_copy_row (P:=P) w dT sT ty elem g off dLen dCap ad sLen sCap cur.toArray t cs hu hsz hg hn hsrc (by simpa using hfit) ho,
   by simpa [splice] using setRow_heap w g _ _ t _ hg,below_setRow (Below.refl _ _) (Nat.le_refl _) _⟩
theorem heap_new (w:World) (o:Obj):(w.alloc o).heap[w.heap.size]?=some o:=by show (w.heap.push o)[w.heap.size]?=_;simp
theorem heap_new2 (w:World) (o p:Obj):((w.alloc o).alloc p).heap[w.heap.size + 1]?=some p:=by have:=heap_new (w.alloc o) p;simpa using this
theorem splice_one {α:Type} (Z A:List α) (h:Z.length=A.length):splice Z 0 A=A:=by simp [splice];omega
theorem splice_two {α:Type} (Z A B:List α) (h:Z.length=A.length + B.length):splice (splice Z 0 A) A.length B=A++B:=by
 simp [splice];omega
def cellsOf (l:List Int):List Value:=l.map (Value.int .i64)
theorem cellsOf_len (l:List Int):(cellsOf l).length=l.length:=by simp [cellsOf]
theorem cellsOf_app (l k:List Int):cellsOf l++cellsOf k=cellsOf (l++k):=by simp [cellsOf]
theorem cellsOf_one (l:List Int):∀ v∈cellsOf l,v.oneCell'=true:=by
 intro v hv
 simp [cellsOf] at hv
 obtain ⟨x,_,rfl⟩:=hv
 rfl
theorem cellsOf_get (l:List Int) (i:Nat) (hi:i < l.length):(cellsOf l)[i]?=some (.int .i64 (l.getD i 0)):=by
 simp [cellsOf,List.getD,hi]
theorem addr_add (b off i:Nat):(⟨b,off,none⟩:Addr).add i=⟨b,off + i,none⟩:=by unfold Addr.add;split<;>simp_all
theorem Ints.src {w:World} {a:Option Addr} {n c:Nat} {l:List Int} (h:Ints w a n c l) (hp:0 < n):∃ ad,a=some ad∧∀ j v,(cellsOf l)[j]?=some v→w.cell? (ad.add j)=some v:=by
 rcases h.row with h0|⟨b,off,ha,hlt,hc⟩
 ·omega
 ·refine ⟨_,ha,fun j v hv=>?_⟩
  have hj:j < l.length:=by have:=(List.getElem?_eq_some_iff.1 hv).1;rwa [cellsOf_len] at this
  rw [cellsOf_get l j hj] at hv
  rw [addr_add,hc j (by rw [← h.len];exact hj)]
  exact hv
theorem Ints.srcs {w:World} {a:Option Addr} {n c:Nat} {l:List Int} (h:Ints w a n c l):∀ ad,a=some ad→∀ j v,(cellsOf l)[j]?=some v→w.cell? (ad.add j)=some v:=by
 intro ad e j v hv
 have hj:j < l.length:=by have:=(List.getElem?_eq_some_iff.1 hv).1;rwa [cellsOf_len] at this
 obtain ⟨ad',e',hs⟩:=h.src (by rw [← h.len];omega)
 rw [e] at e'
 cases e'
 exact hs j v hv
theorem Ints.nils {w:World} {a:Option Addr} {n c:Nat} {l:List Int} (h:Ints w a n c l) (e:a=none):n=0∧c=0:=by
 have h1:=h.nil e
 have h2:=h.le
 omega
theorem Ints.of_row {w:World} {g:Nat} {l:List Int} {t:TypeId} {fr:Nat×Nat} (hg:w.heap[g]?=some (.cells (cellsOf l).toArray t fr)) (hmax:l.length≤9223372036854775807)
  (hwf:∀ x∈l,-9223372036854775808≤x∧x≤9223372036854775807) {n:Nat} (hn:l.length=n):Ints w (some ⟨g,0,none⟩) n n l:=by
 subst hn
 refine ⟨rfl,Nat.le_refl _,hmax,fun h=>(by cases h),.inr ⟨g,0,rfl,(Array.getElem?_eq_some_iff.1 hg).1,fun i hi=>?_⟩,hwf⟩
 rw [cell_of_row w g _ _ t fr hg,Nat.zero_add]
 simpa using cellsOf_get l i hi
theorem Ints.app_wf {w w':World} {a b:Option Addr} {n c m d:Nat} {l k:List Int} (h:Ints w a n c l) (h':Ints w' b m d k):∀ x∈l++k,-9223372036854775808≤x∧x≤9223372036854775807:=by
 intro x hx
 rcases List.mem_append.1 hx with hx|hx
 ·exact h.wf x hx
 ·exact h'.wf x hx
structure Put (w w':World) (p:Addr) (v:Value):Prop where
 here:w'.cell? p=some v
 other:∀ q,q≠p→w'.cell? q=w.cell? q
 ice:∀ q,w'.frozen? q=w.frozen? q
 size:w'.heap.size=w.heap.size
 below:Below p.block w w'
theorem Put.refl {w:World} {p:Addr} {v:Value} (h:w.cell? p=some v):Put w w p v:=⟨h,fun _ _=>rfl,fun _=>rfl,rfl,Below.refl _ _⟩
theorem Put.set {w w':World} {p:Addr} {u:Value} (h:Put w w' p u) (v:Value):Put w (w'.setCell p v) p v:=
 ⟨World.cell?_setCell_same _ _ _ h.here,fun q hq=>by rw [World.cell?_setCell_other _ _ _ _ (Ne.symm hq),h.other q hq],fun q=>by rw [World.frozen?_setCell,h.ice],by simp [World.setCell,h.size],h.below.setCell (Nat.le_refl _) _⟩
theorem Ints.put {w w':World} {a:Option Addr} {n c:Nat} {l:List Int} (h:Ints w a n c l) {p:Addr} {v:Value} (hp:Put w w' p v) (hne:∀ x,a=some x→x.block≠p.block):Ints w' a n c l:=by
 refine ⟨h.len,h.le,h.max,h.nil,?_,h.wf⟩
 rcases h.row with h0|⟨b,off,ha,hlt,hc⟩
 ·exact .inl h0
 ·refine .inr ⟨b,off,ha,by rw [hp.size];exact hlt,fun i hi=>?_⟩
  rw [hp.other _ (fun e=>hne _ ha (by rw [← e]))];exact hc i hi
theorem Ints.setCell {w:World} {a:Option Addr} {n c:Nat} {l:List Int} (h:Ints w a n c l) (p:Addr) (v:Value) (hne:∀ x,a=some x→x.block≠p.block):Ints (w.setCell p v) a n c l:=by
 refine ⟨h.len,h.le,h.max,h.nil,?_,h.wf⟩
 rcases h.row with h0|⟨b,off,ha,hlt,hc⟩
 ·exact .inl h0
 ·refine .inr ⟨b,off,ha,by simpa [World.setCell] using hlt,fun i hi=>?_⟩
  rw [World.cell?_setCell_other _ _ _ _ (fun e=>hne _ ha (by rw [e]))];exact hc i hi
end Go.Proofs.YtabafikicbkkdaaGreatDoor
namespace Go.Proofs.YtabafikicbkkdaaGreatDoor
open Go.ChangeShapes Go.WideShapes Go.ChangeAt Go.RowKit Go.Joins
set_option linter.unusedVariables false
set_option maxHeartbeats 400000
set_option maxRecDepth 100000
set_option linter.unusedSimpArgs false
theorem own:ownKnob Tryz.prog.godebug=none:=by kernel_rfl
theorem laidOut:laidOutB Tryz.prog=true:=by kernel_rfl
theorem wf_bounds {x:Int} (h:(Lit.int .i64 x).wf=true):-9223372036854775808≤x∧x≤9223372036854775807:=by
 have:=bounds_i64 h
 omega
theorem ints_of {H:Type} {enc:TypeId×Value→H} {W:World} {fuel:Nat} {v:Value} {y:DataW H×List MemPlace}
  (h:DataW.trod enc Tryz.prog W 0 (fun _=>true) true fuel 26 [v]=some y):∃ a n c l,v=.slice a n c∧Ints W a n c l:=by
 rcases open_ints Tryz.underlying26 Tryz.underlying3 (by kernel_rfl) h with ⟨hcs,_⟩|⟨x,len,cap,zs,hcs,_,hl,hm,hz,_,hcell,hwz⟩
 ·simp at hcs
  subst hcs
  exact ⟨none,0,0,[],rfl,Ints.nilSlice W⟩
 ·simp at hcs
  subst hcs
  simp at hz
  refine ⟨some x,len,cap,zs.take len,rfl,?_⟩
  refine ⟨by simp;omega,hl,hm,fun e=>(by cases e),?_,fun n hn=>wf_bounds (hwz n (List.mem_of_mem_take hn))⟩
  by_cases h0:len=0
  ·exact .inl h0
  ·obtain ⟨b,off,spot⟩:=x
   have hc0:=hcell 0 (by omega)
   have hspot:spot=none:=by simpa [Addr.add] using World.cell?_spot hc0
   subst hspot
   refine .inr ⟨b,off,rfl,World.block_lt_of_cell? W ⟨b,off,none⟩ (by simpa [Addr.add] using hc0),fun i hi=>?_⟩
   rw [← addr_add,hcell i (by omega)]
   simp [List.getD,List.getElem?_take,hi]
end Go.Proofs.YtabafikicbkkdaaGreatDoor
namespace Go.Proofs.YtabafikicbkkdaaGreatDoor
open Go.RowKit
set_option linter.unusedVariables false
set_option maxHeartbeats 400000
set_option maxRecDepth 100000
def inB (n a b:Int):Bool:=decide (a≤n)&&decide (n≤b)
def fitsB (s b:Int):Bool:=if s=4 then true else if s=0 then b==0 else if s=3 then decide (0 < b)&&decide (b < 8) else decide (b < 8)
theorem fits_c (s b:Int) (w:World):Calls Tryz.prog 169 #[.int .i64 s,.int .i64 b] w fun e w'=>e=.returned (.bool (fitsB s b))∧w'=w:=by
 go_enter Tryz.func169,Tryz.ntmps169
 go_wp2
 all_goals (go_ret;exact ⟨ret_bool (by unfold fitsB;rw [Bool.eq_iff_iff];simp_all;try omega),rfl⟩)
theorem outside_c (a b:Int) (w:World):Calls Tryz.prog 168 #[.int .i64 a,.int .i64 b] w fun e w'=>e=.returned (.func (Fn.func 200) #[] #[.pointer (some ⟨w.heap.size,0,none⟩),.pointer (some ⟨w.heap.size + 1,0,none⟩)])∧w'=(w.alloc (.cells #[.int .i64 a] 3)).alloc (.cells #[.int .i64 b] 3):=by
 go_enter Tryz.func168,Tryz.ntmps168
 go_wp2
 go_ret
 exact ⟨rfl,rfl⟩
def outB (a b v:Int):Bool:=decide (v < a) || decide (b < v)
theorem outside1_c (v a b:Int) (g h:Nat) (w:World) (hg:w.cell? ⟨g,0,none⟩=some (.int .i64 a)) (hh:w.cell? ⟨h,0,none⟩=some (.int .i64 b)) :
  Calls Tryz.prog 200 #[.int .i64 v,.pointer (some ⟨g,0,none⟩),.pointer (some ⟨h,0,none⟩)] w fun e w'=>e=.returned (.bool (outB a b v))∧w'=w:=by
 go_enter Tryz.func200,Tryz.ntmps200
 go_wp2
 all_goals (go_ret;exact ⟨ret_bool (by unfold outB;first|(simp_all;done)|(rw [Bool.eq_iff_iff];simp_all;omega)),rfl⟩)
theorem Equal_some (b1 o1 b2 o2 n1 c1 c2:Nat) (l1 l2:List Int) (w:World) (hl1:l1.length=n1) (hl2:l2.length=n1) (hm1:n1≤9223372036854775807)
  (hr1:∀ i,i < n1→w.cell? ⟨b1,o1 + i,none⟩=some (.int .i64 (l1.getD i 0))) (hr2:∀ i,i < n1→w.cell? ⟨b2,o2 + i,none⟩=some (.int .i64 (l2.getD i 0))) :
  Calls Tryz.prog 21 #[.slice (some ⟨b1,o1,none⟩) n1 c1,.slice (some ⟨b2,o2,none⟩) n1 c2] w fun e w'=>e=.returned (.bool (decide (l1=l2)))∧∃ n,w'=w.drewN n:=by
 go_enter Tryz.func21,Tryz.ntmps21
 go_wp2
 go_loopw [13] (fun i wr=>∃ k n:Nat,k≤n1∧i=.int .i64 k∧l1.take k=l2.take k∧wr=w.drewN n) (fun i _=>n1 - (intOf i).toNat)
 case atStart=>exact ⟨0,0,by omega,rfl,by simp,rfl⟩
 case round=>
  obtain ⟨k,n,hk,rfl,ht,rfl⟩:=hrel
  by_cases hlt:k < n1
  ·have hi1:=hr1 k hlt
   have hi2:=hr2 k hlt
   have hlt':(k:Int) < (n1:Int):=by omega
   have HT:=hide ht
   clear ht hr1 hr2
   generalize hx:l1.getD k 0=x at hi1
   generalize hy:l2.getD k 0=y at hi2
   have HX:=hide hx
   have HY:=hide hy
   clear hx hy
   go_wp2
   go_quiet (fail)
   go_wp2
   ·rename_i hxy
    go_ret
    exact ⟨ret_bool (decide_eq_false (ne_of_getD l1 l2 k (by rw [HX.out,HY.out];simpa using hxy))).symm,n + nq,by simp⟩
   ·rename_i hxy
    exact ⟨⟨k + 1,_,by omega,by go_num,take_eq_step l1 l2 k (by omega) (by omega) HT.out (by rw [HX.out,HY.out];simpa using hxy),rfl⟩,by simp [intOf];omega⟩
  ·go_wp2
   go_ret
   exact ⟨ret_bool (by rw [List.take_of_length_le (by omega),List.take_of_length_le (by omega)] at ht;simp [ht]),_,rfl⟩
theorem Equal_none (a1 a2:Option Addr) (n1 n2 c1 c2:Nat) (w:World) (hz:n1=0∨n2=0) (hm1:n1≤9223372036854775807) (hm2:n2≤9223372036854775807) :
  Calls Tryz.prog 21 #[.slice a1 n1 c1,.slice a2 n2 c2] w fun e w'=>e=.returned (.bool (decide (n1=n2)))∧∃ n,w'=w.drewN n:=by
 by_cases hn:n1=n2
 ·subst hn
  obtain rfl:n1=0:=by omega
  go_enter Tryz.func21,Tryz.ntmps21
  go_wp2
  refine wp_loop_rounds 1 ?_;rw [rounds_succ]
  go_wp2
  go_ret
  exact ⟨rfl,0,rfl⟩
 ·have hne:((n1:Int) !=(n2:Int))=true:=by simp;omega
  go_enter Tryz.func21,Tryz.ntmps21
  go_wp2
  go_ret
  exact ⟨ret_bool (by simp [hn]),0,rfl⟩
theorem Equal_ne (a1 a2:Option Addr) (n1 n2 c1 c2:Nat) (w:World) (hn:n1≠n2) (hm1:n1≤9223372036854775807) (hm2:n2≤9223372036854775807) :
  Calls Tryz.prog 21 #[.slice a1 n1 c1,.slice a2 n2 c2] w fun e w'=>e=.returned (.bool false)∧∃ n,w'=w.drewN n:=by
 have hne:((n1:Int) !=(n2:Int))=true:=by simp;omega
 go_enter Tryz.func21,Tryz.ntmps21
 go_wp2
 go_ret
 exact ⟨rfl,0,rfl⟩
theorem Equal_c (a1 a2:Option Addr) (n1 n2 c1 c2:Nat) (l1 l2:List Int) (w:World) (h1:Ints w a1 n1 c1 l1) (h2:Ints w a2 n2 c2 l2) :
  Calls Tryz.prog 21 #[.slice a1 n1 c1,.slice a2 n2 c2] w fun e w'=>e=.returned (.bool (decide (l1=l2)))∧∃ n,w'=w.drewN n:=by
 obtain ⟨hl1,hc1,hm1,hn1,hr1,hw1⟩:=h1
 obtain ⟨hl2,hc2,hm2,hn2,hr2,hw2⟩:=h2
 by_cases hn:n1=n2
 ·subst hn
  rcases hr1 with h0|⟨b1,o1,rfl,_,hr1⟩
  ·refine (Equal_none a1 a2 n1 n1 c1 c2 w (.inl h0) (by omega) (by omega)).mono fun e w' h=>⟨?_,h.2⟩
   rw [h.1];subst h0
   exact ret_bool (by rw [List.length_eq_zero_iff] at hl1 hl2;simp [hl1,hl2])
  ·rcases hr2 with h0|⟨b2,o2,rfl,_,hr2⟩
   ·refine (Equal_none _ a2 n1 n1 c1 c2 w (.inl h0) (by omega) (by omega)).mono fun e w' h=>⟨?_,h.2⟩
    rw [h.1];subst h0
    exact ret_bool (by rw [List.length_eq_zero_iff] at hl1 hl2;simp [hl1,hl2])
   ·exact Equal_some b1 o1 b2 o2 n1 c1 c2 l1 l2 w hl1 hl2 (by omega) hr1 hr2
 ·refine (Equal_ne a1 a2 n1 n2 c1 c2 w hn (by omega) (by omega)).mono fun e w' h=>⟨?_,h.2⟩
  rw [h.1]
  exact ret_bool (by simp;intro h;subst h;omega)
end Go.Proofs.YtabafikicbkkdaaGreatDoor
namespace Go.Proofs.YtabafikicbkkdaaGreatDoor
open Go.RowKit
set_option linter.unusedVariables false
set_option maxHeartbeats 400000
set_option maxRecDepth 100000
theorem IndexFunc_some (b1 o1 n1 c1:Nat) (l1:List Int) (a b:Int) (g h:Nat) (w:World) (hl1:l1.length=n1) (hm1:n1≤9223372036854775807)
  (hr1:∀ i,i < n1→w.cell? ⟨b1,o1 + i,none⟩=some (.int .i64 (l1.getD i 0)))
  (hg:w.cell? ⟨g,0,none⟩=some (.int .i64 a)) (hh:w.cell? ⟨h,0,none⟩=some (.int .i64 b)) :
  Calls Tryz.prog 120 #[.slice (some ⟨b1,o1,none⟩) n1 c1,.func (Fn.func 200) #[] #[.pointer (some ⟨g,0,none⟩),.pointer (some ⟨h,0,none⟩)]] w
   fun e w'=>(∃ r,e=.returned (.int .i64 r)∧decide (0≤r)=l1.any (outB a b))∧w'=w:=by
 go_enter Tryz.func120,Tryz.ntmps120
 go_wp2
 go_loop [8] (fun i=>∃ k:Nat,k≤n1∧i=.int .i64 k∧(l1.take k).any (outB a b)=false) (fun i=>n1 - (intOf i).toNat)
 case atStart=>exact ⟨0,by omega,rfl,by simp⟩
 case round=>
  obtain ⟨k,hk,rfl,ht⟩:=hrel
  by_cases hlt:k < n1
  ·have hi1:=hr1 k hlt
   have hlt':(k:Int) < (n1:Int):=by omega
   have HT:=hide ht
   clear ht hr1
   generalize hx:l1.getD k 0=x at hi1
   have HX:=hide hx
   clear hx
   go_wp2_with (go_at_call 200;refine (outside1_c x a b g h _ hg hh).mono ?_;rintro e w' ⟨rfl,rfl⟩)
   ·rename_i hxy
    go_ret
    exact ⟨⟨k,rfl,by rw [any_of_getD _ l1 k (by omega) (by rw [HX.out];exact hxy)];simp⟩,rfl⟩
   ·rename_i hxy
    exact ⟨⟨k + 1,by omega,by go_num,any_take_step _ l1 k (by omega) HT.out (by rw [HX.out];exact hxy)⟩,by simp [intOf];omega⟩
  ·go_wp2
   go_ret
   rw [List.take_of_length_le (by omega)] at ht
   exact ⟨⟨-1,rfl,by rw [ht];rfl⟩,rfl⟩
theorem IndexFunc_none (a1:Option Addr) (c1:Nat) (a b:Int) (g h:Nat) (w:World) :
  Calls Tryz.prog 120 #[.slice a1 0 c1,.func (Fn.func 200) #[] #[.pointer (some ⟨g,0,none⟩),.pointer (some ⟨h,0,none⟩)]] w
   fun e w'=>(∃ r,e=.returned (.int .i64 r)∧decide (0≤r)=false)∧w'=w:=by
 go_enter Tryz.func120,Tryz.ntmps120
 go_wp2
 refine wp_loop_rounds 1 ?_;rw [rounds_succ]
 go_wp2
 go_ret
 exact ⟨⟨-1,rfl,rfl⟩,rfl⟩
theorem IndexFunc_c (a1:Option Addr) (n1 c1:Nat) (l1:List Int) (a b:Int) (g h:Nat) (w:World) (h1:Ints w a1 n1 c1 l1)
  (hg:w.cell? ⟨g,0,none⟩=some (.int .i64 a)) (hh:w.cell? ⟨h,0,none⟩=some (.int .i64 b)) :
  Calls Tryz.prog 120 #[.slice a1 n1 c1,.func (Fn.func 200) #[] #[.pointer (some ⟨g,0,none⟩),.pointer (some ⟨h,0,none⟩)]] w
   fun e w'=>(∃ r,e=.returned (.int .i64 r)∧decide (0≤r)=l1.any (outB a b))∧w'=w:=by
 obtain ⟨hl1,hc1,hm1,hn1,hr1,hw1⟩:=h1
 rcases hr1 with h0|⟨b1,o1,rfl,_,hr1⟩
 ·subst h0
  rw [List.length_eq_zero_iff] at hl1
  subst hl1
  exact IndexFunc_none a1 c1 a b g h w
 ·exact IndexFunc_some b1 o1 n1 c1 l1 a b g h w hl1 (by omega) hr1 hg hh
theorem ContainsFunc_c (a1:Option Addr) (n1 c1:Nat) (l1:List Int) (a b:Int) (g h:Nat) (w:World) (h1:Ints w a1 n1 c1 l1)
  (hg:w.cell? ⟨g,0,none⟩=some (.int .i64 a)) (hh:w.cell? ⟨h,0,none⟩=some (.int .i64 b)) :
  Calls Tryz.prog 100 #[.slice a1 n1 c1,.func (Fn.func 200) #[] #[.pointer (some ⟨g,0,none⟩),.pointer (some ⟨h,0,none⟩)]] w
   fun e w'=>e=.returned (.bool (l1.any (outB a b)))∧w'=w:=by
 go_enter Tryz.func100,Tryz.ntmps100
 go_wp2_with fail
 refine (IndexFunc_c a1 n1 c1 l1 a b g h _ h1 hg hh).mono ?_
 rintro e w' ⟨⟨r,rfl,hr⟩,rfl⟩
 have HR:=hide hr
 clear hr
 go_wp2
 go_ret
 exact ⟨ret_bool HR.out,rfl⟩
end Go.Proofs.YtabafikicbkkdaaGreatDoor
namespace Go.Proofs.YtabafikicbkkdaaGreatDoor
open Go.Lib
set_option linter.unusedVariables false
set_option maxHeartbeats 400000
set_option maxRecDepth 100000
set_option linter.unusedSimpArgs false
theorem parseUintM_snoc (M:Nat) (c:UInt8):∀ (l:List UInt8) (acc:Nat),parseUintM M acc (l++[c])=match parseUintM M acc l with
  |.ok a=>parseUintM M a [c]
  |.syntax=>.syntax
  |.range=>.range
 |[],acc=>rfl
 |d :: r,acc=>by
  simp only [List.cons_append,parseUintM]
  split
  ·split
   ·rfl
   ·split
    ·rfl
    ·exact parseUintM_snoc M c r _
  ·rfl
theorem digit_toNat (d:Nat) (h:d < 10):(UInt8.ofNat (48 + d)).toNat=48 + d:=by
 rw [UInt8.toNat_ofNat']
 omega
theorem parse_digits (M:Nat) (hM:M≤18446744073709551615):∀ u:Nat,u≤M→parseUintM M 0 (decDigits u)=.ok u:=by
 intro u
 induction u using Nat.strongRecOn with
 |ind u ih=>
  intro hu
  rw [decDigits]
  split
  ·rename_i h
   have e:=digit_toNat u h
   simp only [parseUintM,e]
   rw [if_pos (by omega),if_neg (by omega),if_neg (by omega)]
   simp
  ·rename_i h
   rw [parseUintM_snoc,ih (u / 10) (by omega) (by omega)]
   have e:=digit_toNat (u % 10) (by omega)
   simp only [parseUintM,e]
   rw [if_pos (by omega),if_neg (by omega),if_neg (by omega)]
   congr 1
   omega
theorem digits_ne_nil (u:Nat):decDigits u≠[]:=by
 rw [decDigits]
 split<;>simp
theorem digits_range:∀ u:Nat,∀ c∈decDigits u,48≤c.toNat∧c.toNat≤57:=by
 intro u
 induction u using Nat.strongRecOn with
 |ind u ih=>
  intro c hc
  rw [decDigits] at hc
  split at hc
  ·rename_i h
   obtain rfl:=List.mem_singleton.1 hc
   rw [digit_toNat u h]
   omega
  ·rename_i h
   rcases List.mem_append.1 hc with hc|hc
   ·exact ih (u / 10) (by omega) c hc
   ·obtain rfl:=List.mem_singleton.1 hc
    rw [digit_toNat (u % 10) (by omega)]
    omega
theorem parse_itoa (v:Int) (h0:-9223372036854775808≤v) (h1:v≤9223372036854775807):parseIntB 64 (itoa v)=.ok v:=by
 unfold itoa
 split
 ·rename_i hn
  have hp:=parse_digits (2 ^ 64 - 1) (by decide) v.natAbs (by omega)
  simp only [parseIntB,parseUintB]
  rw [show (45:UInt8).toNat=45 from rfl]
  simp only [or_true,if_true]
  rw [if_neg (digits_ne_nil _),hp]
  simp only [not_true_eq_false,false_and,if_false,true_and,if_true]
  rw [if_neg (by omega)]
  congr 1
  omega
 ·rename_i hn
  have hp:=parse_digits (2 ^ 64 - 1) (by decide) v.toNat (by omega)
  have hd:=digits_range v.toNat
  have hne:=digits_ne_nil v.toNat
  cases hl:decDigits v.toNat with
  |nil=>exact absurd hl hne
  |cons c r=>
   have hc:=hd c (by rw [hl];simp)
   have hc1:¬ (c.toNat=43∨c.toNat=45):=by omega
   have hc2:¬ c.toNat=45:=by omega
   simp only [parseIntB,parseUintB]
   rw [if_neg hc1,if_neg (by simp),← hl,hp]
   simp only [hc2,not_false_eq_true,true_and,false_and,if_false]
   rw [if_neg (by omega)]
   congr 1
   omega
theorem itoa_no_blank (v:Int):(32:UInt8)∉itoa v:=by
 unfold itoa
 intro h
 split at h
 ·rcases List.mem_cons.1 h with e|h
  ·cases e
  ·have:=digits_range _ _ h
   have e:(32:UInt8).toNat=32:=rfl
   omega
 ·have:=digits_range _ _ h
  have e:(32:UInt8).toNat=32:=rfl
  omega
def num (t:List UInt8):Option Int:=match parseIntB 64 t with
 |.ok v=>if itoa v=t then some v else none
 |.syntax=>none
 |.range=>none
theorem num_itoa (v:Int) (h0:-9223372036854775808≤v) (h1:v≤9223372036854775807):num (itoa v)=some v:=by
 simp [num,parse_itoa v h0 h1]
theorem num_some {t:List UInt8} {v:Int} (h:num t=some v):itoa v=t:=by
 unfold num at h
 split at h
 ·split at h
  ·cases h
   assumption
  ·cases h
 ·cases h
 ·cases h
def toks:List UInt8→List (List UInt8)
 |[]=>[[]]
 |c :: r=>if c=32 then [] :: toks r else match toks r with
  |[]=>[[c]]
  |t :: ts=>(c :: t) :: ts
theorem toks_ne_nil:∀ l,toks l≠[]
 |[]=>by simp [toks]
 |c :: r=>by
  unfold toks
  split
  ·simp
  ·split<;>simp
theorem toks_word:∀ (l r:List UInt8),(32:UInt8)∉l→toks (l++32 :: r)=l :: toks r
 |[],r,_=>by simp [toks]
 |c :: l,r,h=>by
  have hc:¬ c=32:=fun e=>h (by simp [e])
  have hl:(32:UInt8)∉l:=fun e=>h (by simp [e])
  simp [toks,hc,toks_word l r hl]
theorem toks_end:∀ (l:List UInt8),(32:UInt8)∉l→toks l=[l]
 |[],_=>rfl
 |c :: l,h=>by
  have hc:¬ c=32:=fun e=>h (by simp [e])
  have hl:(32:UInt8)∉l:=fun e=>h (by simp [e])
  simp [toks,hc,toks_end l hl]
def glue:List (List UInt8)→List UInt8
 |[]=>[]
 |[t]=>t
 |t :: u :: r=>t++32 :: glue (u :: r)
theorem glue_cons (c:UInt8) (t:List UInt8) (ts:List (List UInt8)):glue ((c :: t) :: ts)=c :: glue (t :: ts):=by cases ts<;>rfl
theorem glue_toks:∀ l,glue (toks l)=l
 |[]=>rfl
 |c :: r=>by
  have ih:=glue_toks r
  have hn:=toks_ne_nil r
  unfold toks
  split
  ·rename_i hc
   subst hc
   cases ht:toks r with
   |nil=>exact absurd ht hn
   |cons t ts=>rw [ht] at ih;simp [glue,ih]
  ·cases ht:toks r with
   |nil=>exact absurd ht hn
   |cons t ts=>rw [ht] at ih;simp only;rw [glue_cons,ih]
theorem toks_glue:∀ ts:List (List UInt8),ts≠[]→(∀ t∈ts,(32:UInt8)∉t)→toks (glue ts)=ts
 |[],h,_=>absurd rfl h
 |[t],_,h=>toks_end t (h t (by simp))
 |t :: u :: r,_,h=>by
  rw [glue,toks_word t _ (h t (by simp)),toks_glue (u :: r) (by simp) (fun x hx=>h x (by simp at hx ⊢;right;exact hx))]
end Go.Proofs.YtabafikicbkkdaaGreatDoor
namespace Go.Proofs.YtabafikicbkkdaaGreatDoor
open Go.RowKit
set_option linter.unusedVariables false
set_option maxHeartbeats 400000
set_option maxRecDepth 100000
set_option linter.unusedSimpArgs false
structure PC where
 k:Int
 z:Int
 n:Int
 at':Int
 d:List Int
def cmdV (a:Option Addr) (n c:Nat) (b:PC):Value:=.agg #[.int .i64 b.k,.int .i64 b.z,.int .i64 b.n,.int .i64 b.at',.slice a n c]
def zeroC:PC:=⟨0,0,0,0,[]⟩
def hasZ (k:Int):Bool:=decide (1≤k)&&decide (k≤7)
def hasA (k:Int):Bool:=k==6 || k==7
def hasN (k:Int):Bool:=k==7 || k==8 || k==9 || k==11
def hasD (k:Int):Bool:=k==5 || k==6
def checkC (b:PC):Int:=
 if outB 1 12 b.k then 4
 else if (b.z≠0∧hasZ b.k=false)∨(b.at'≠0∧hasA b.k=false)∨(b.n≠0∧hasN b.k=false) then 4
 else if hasD b.k=decide (b.d=[]) then 4
 else if 8 < b.d.length then 2
 else if outB 0 999 b.z∨outB 0 999 b.at'∨outB 0 999 b.n∨b.d.any (outB 0 999) then 3 else 0
def sameC (a b:PC):Bool:=decide (a.k=b.k∧a.z=b.z∧a.at'=b.at'∧a.n=b.n∧a.d=b.d)
end Go.Proofs.YtabafikicbkkdaaGreatDoor
namespace Go.Proofs.YtabafikicbkkdaaGreatDoor
open Go.ChangeShapes Go.WideShapes Go.ChangeAt Go.RowKit Go.Joins Go.ChangeMaps
set_option linter.unusedVariables false
set_option maxHeartbeats 400000
set_option maxRecDepth 100000
set_option linter.unusedSimpArgs false
theorem list5 {α:Type} {xs:List α} (h:xs.length=5):∃ c0 c1 c2 c3 c4,xs=[c0,c1,c2,c3,c4]:=by
 match xs,h with
 |[c0,c1,c2,c3,c4],_=>exact ⟨c0,c1,c2,c3,c4,rfl⟩
theorem cellsCmd:Tryz.prog.cellsOf 50=5:=by kernel_rfl
end Go.Proofs.YtabafikicbkkdaaGreatDoor
namespace Go.Proofs.YtabafikicbkkdaaGreatDoor
open Go.RowKit
set_option linter.unusedVariables false
set_option maxHeartbeats 400000
set_option maxRecDepth 100000
set_option linter.unusedSimpArgs false
theorem sameC_iff (a b:PC):sameC a b=true↔a=b:=by
 obtain ⟨k1,z1,n1,t1,d1⟩:=a
 obtain ⟨k2,z2,n2,t2,d2⟩:=b
 unfold sameC
 rw [decide_eq_true_iff]
 constructor
 ·rintro ⟨rfl,rfl,rfl,rfl,rfl⟩
  rfl
 ·intro h
  cases h
  exact ⟨rfl,rfl,rfl,rfl,rfl⟩
structure PR where
 w:Int
 s:Int
 c:PC
def zeroR:PR:=⟨0,0,zeroC⟩
def checkR (r:PR):Int:=if inB r.w 0 2=false∨inB r.s 1 40=false then 3 else checkC r.c
theorem checkR_facts {r:PR} (h:checkR r=0):(0≤r.w∧r.w≤2)∧(1≤r.s∧r.s≤40)∧checkC r.c=0:=by
 unfold checkR at h
 split at h
 ·omega
 ·rename_i q
  simp only [not_or,Bool.not_eq_false] at q
  refine ⟨?_,?_,h⟩
  ·have:=q.1;simp [inB] at this;omega
  ·have:=q.2;simp [inB] at this;omega
end Go.Proofs.YtabafikicbkkdaaGreatDoor
namespace Go.Proofs.YtabafikicbkkdaaGreatDoor
open Go.RowKit
set_option linter.unusedVariables false
set_option maxHeartbeats 400000
set_option maxRecDepth 100000
set_option linter.unusedSimpArgs false
def word (k:Nat):ByteArray:=match k with
 |1=>⟨#[111,112,101,110]⟩
 |2=>⟨#[99,108,111,115,101]⟩
 |3=>⟨#[102,105,110,105,115,104]⟩
 |4=>⟨#[114,101,115,101,116]⟩
 |5=>⟨#[97,112,112,101,110,100]⟩
 |6=>⟨#[119,114,105,116,101]⟩
 |7=>⟨#[114,101,97,100]⟩
 |8=>⟨#[114,101,103,105,115,116,101,114]⟩
 |9=>⟨#[114,101,115,101,114,118,101]⟩
 |10=>⟨#[114,101,108,101,97,115,101]⟩
 |11=>⟨#[112,114,101,101,109,112,116]⟩
 |12=>⟨#[99,108,101,97,114]⟩
 |_=>⟨#[]⟩
structure Shapes (w:World):Prop where
 wd:∀ k:Nat,k≤12→w.cell? ⟨0,k * 5,none⟩=some (.string (word k))
 hz:∀ k:Nat,k≤12→w.cell? ⟨0,k * 5 + 1,none⟩=some (.bool (hasZ k))
 ha:∀ k:Nat,k≤12→w.cell? ⟨0,k * 5 + 2,none⟩=some (.bool (hasA k))
 hn:∀ k:Nat,k≤12→w.cell? ⟨0,k * 5 + 3,none⟩=some (.bool (hasN k))
 hd:∀ k:Nat,k≤12→w.cell? ⟨0,k * 5 + 4,none⟩=some (.bool (hasD k))
theorem Shapes.below {w w':World} (h:Shapes w) (hb:Below w.heap.size w w'):Shapes w':=
 ⟨fun k hk=>keepc hb (h.wd k hk),fun k hk=>keepc hb (h.hz k hk),fun k hk=>keepc hb (h.ha k hk),fun k hk=>keepc hb (h.hn k hk),fun k hk=>keepc hb (h.hd k hk)⟩
end Go.Proofs.YtabafikicbkkdaaGreatDoor
namespace Go.Proofs.YtabafikicbkkdaaGreatDoor
open Go.Lib
set_option linter.unusedVariables false
set_option maxHeartbeats 400000
set_option maxRecDepth 100000
set_option linter.unusedSimpArgs false
theorem split_toks:∀ s:List UInt8,splitK [32] 0 (count s [32]) s=toks s
 |[]=>by rw [count_one];rfl
 |b :: l=>by
  have ih:=split_toks l
  by_cases hb:b=32
  ·subst hb
   rw [count_cons_eq,Nat.add_comm 1]
   have hix:index (32 :: l) [32]=0:=by rw [index];simp [List.isPrefixOf]
   simp [splitK,hix,toks,ih]
  ·rw [count_cons_ne b 32 l hb]
   have hp:([32]:List UInt8).isPrefixOf (b :: l)=false:=by simp [List.isPrefixOf,Ne.symm hb]
   have hix:index (b :: l) [32]=if index l [32]==-1 then -1 else index l [32] + 1:=by rw [index,hp];simp
   have hge:=index_ge l [32]
   cases hc:count l [32] with
   |zero=>
    rw [hc] at ih
    simp only [splitK] at ih ⊢
    simp [toks,hb,← ih]
   |succ k=>
    rw [hc] at ih
    have hm:index l [32]≠-1:=by
     intro e
     rw [count_miss e] at hc
     cases hc
    obtain ⟨j,hj⟩:∃ j:Nat,index l [32]=j:=⟨(index l [32]).toNat,by omega⟩
    have hix':index (b :: l) [32]=((j + 1:Nat):Int):=by rw [hix,if_neg (fun e=>hm (beq_iff_eq.1 e)),hj];omega
    have n1:¬ ((j:Int)=-1):=by omega
    have n2:¬ (((j + 1:Nat):Int)=-1):=by omega
    simp only [splitK,hj,beq_iff_eq,n1,if_false] at ih
    simp only [splitK,hix',beq_iff_eq,n2,if_false,toks,hb,← ih]
    simp
theorem splitB_toks (s:ByteArray):(splitB ⟨#[32]⟩ 0 (countB s ⟨#[32]⟩) s).map (·.data.toList)=toks s.data.toList:=by
 rw [splitB_data,← split_toks]
theorem splitB_len (s:ByteArray):(splitB ⟨#[32]⟩ 0 (countB s ⟨#[32]⟩) s).length=countB s ⟨#[32]⟩ + 1:=splitB_all _ (by decide) 0 _ s rfl
theorem num_eq (t:List UInt8):num t=match atoiAll t with
 |.ok v=>if itoa v=t then some v else none
 |.syntax=>none
 |.range=>none:=by
 have h:=parseIntB_64 t
 unfold num
 revert h
 generalize parseIntB 64 t=a
 generalize atoiAll t=b
 rintro rfl
 cases a<;>rfl
def nums:List (List UInt8)→Option (List Int)
 |[]=>some []
 |t :: ts=>match num t,nums ts with
  |some v,some l=>some (v :: l)
  |_,_=>none
theorem nums_itoa:∀ {ts:List (List UInt8)} {l:List Int},nums ts=some l→ts=l.map itoa
 |[],l,h=>by simp [nums] at h;subst h;rfl
 |t :: ts,l,h=>by
  unfold nums at h
  split at h
  ·rename_i v m hv hm
   cases h
   simp [← nums_itoa hm,num_some hv]
  ·cases h
theorem nums_of:∀ (l:List Int),(∀ v∈l,-9223372036854775808≤v∧v≤9223372036854775807)→nums (l.map itoa)=some l
 |[],_=>rfl
 |v :: l,h=>by
  have h1:=h v (by simp)
  simp [nums,num_itoa v h1.1 h1.2,nums_of l (fun x hx=>h x (by simp [hx]))]
theorem num_wf {t:List UInt8} {v:Int} (h:num t=some v):-9223372036854775808≤v∧v≤9223372036854775807:=by
 unfold num at h
 split at h
 ·rename_i u hu
  split at h
  ·cases h
   have:=parseIntB_bounds hu
   simp at this
   omega
  ·cases h
 ·cases h
 ·cases h
theorem nums_wf:∀ {ts:List (List UInt8)} {l:List Int},nums ts=some l→∀ x∈l,-9223372036854775808≤x∧x≤9223372036854775807
 |[],l,h=>by simp [nums] at h;subst h;simp
 |t :: ts,l,h=>by
  unfold nums at h
  split at h
  ·rename_i v m hv hm
   cases h
   intro x hx
   rcases List.mem_cons.1 hx with rfl|hx
   ·exact num_wf hv
   ·exact nums_wf hm x hx
  ·cases h
theorem nums_append:∀ (a b:List (List UInt8)),nums (a++b)=match nums a,nums b with
  |some l,some m=>some (l++m)
  |_,_=>none
 |[],b=>by
  simp only [List.nil_append,nums]
  cases nums b<;>rfl
 |t :: a,b=>by
  simp only [List.cons_append,nums,nums_append a b]
  cases num t<;>cases nums a<;>cases nums b<;>rfl
theorem nums_snoc {a:List (List UInt8)} {l:List Int} (h:nums a=some l) (t:List UInt8) {v:Int} (hv:num t=some v):nums (a++[t])=some (l++[v]):=by
 rw [nums_append,h]
 simp [nums,hv]
theorem nums_bad {a b:List (List UInt8)} {t:List UInt8} (hv:num t=none):nums (a++t :: b)=none:=by
 rw [nums_append]
 simp only [nums,hv]
 cases nums a<;>rfl
theorem glue_flat:∀ (t:List UInt8) (ts:List (List UInt8)),glue (t :: ts)=t++ts.flatMap (fun u=>32 :: u)
 |t,[]=>by simp [glue]
 |t,u :: r=>by rw [glue,glue_flat u r];simp
end Go.Proofs.YtabafikicbkkdaaGreatDoor
