/- The contracts of the document's own answers on zones; no condition but that the slice reads as the zones. -/
import Derived.Test.YtabafikicbkkdaaGreatDoorSU8
import Derived.Test.YtabafikicbkkdaaGreatDoorSU6
import Derived.Test.YtabafikicbkkdaaGreatDoorSU3
import Derived.Test.YtabafikicbkkdaaGreatDoorSU1
import Derived.Deep.Strs
namespace Go.Proofs.YtabafikicbkkdaaGreatDoor
open Go.RowKit
set_option linter.unusedVariables false
set_option maxHeartbeats 2000000
set_option maxRecDepth 100000
set_option linter.unusedSimpArgs false
theorem vint {a b:Int} (h:a=b):Value.int .i64 a=Value.int .i64 b:=by rw [h]
theorem EqualFuncR_some (b1 o1 m1 b2 o2 m2 n:Nat) (Z1 Z2:List ZV) (w:World) (h1:Zones w (some ⟨b1,o1,none⟩) n m1 Z1) (h2:Zones w (some ⟨b2,o2,none⟩) n m2 Z2)
  (hr1:∀ i z,Z1[i]?=some z→w.cell? ⟨b1,o1 + i * 2,none⟩=some (.int .i64 z.s)∧w.cell? ⟨b1,o1 + i * 2 + 1,none⟩=some (.slice z.a z.n z.c))
  (hr2:∀ i z,Z2[i]?=some z→w.cell? ⟨b2,o2 + i * 2,none⟩=some (.int .i64 z.s)∧w.cell? ⟨b2,o2 + i * 2 + 1,none⟩=some (.slice z.a z.n z.c)) :
  Calls Tryz.prog 24 #[.slice (some ⟨b1,o1,none⟩) n m1,.slice (some ⟨b2,o2,none⟩) n m2,.func (Fn.func 25) #[] #[]] w fun e w'=>e=.returned (.bool (decide (Z1.map ZV.p=Z2.map ZV.p)))∧Below w.heap.size w w':=by
 have hlen1:=hide h1.len
 have hlen2:=hide h2.len
 have hmax:=h1.max
 have hle:=h1.le
 go_enter Tryz.func24,Tryz.ntmps24
 go_wp2
 go_loopw [17] (fun i wr=>∃ k:Nat,k≤n∧i=.int .i64 k∧(Z1.take k).map ZV.p=(Z2.take k).map ZV.p∧Below w.heap.size w wr) (fun i _=>n - (intOf i).toNat)
 case atStart=>exact ⟨0,by omega,rfl,by simp,Below.refl _ _⟩
 case round=>
  obtain ⟨k,hk,rfl,hp,hbr⟩:=hrel
  have HP:=hide hp
  clear hp
  rename_i wr
  by_cases hlt:k < n
  ·obtain ⟨z,hz⟩:∃ z,Z1[k]?=some z:=⟨Z1[k]'(by rw [hlen1.out];exact hlt),by simp⟩
   obtain ⟨y,hy⟩:∃ z,Z2[k]?=some z:=⟨Z2[k]'(by rw [hlen2.out];exact hlt),by simp⟩
   obtain ⟨c0,c1⟩:=hr1 k z hz
   obtain ⟨d0,d1⟩:=hr2 k y hy
   have iz:=(h1.ok z (List.mem_of_getElem? hz)).below hbr (Nat.le_refl _)
   have iy:=(h2.ok y (List.mem_of_getElem? hy)).below hbr (Nat.le_refl _)
   replace c0:=keepc hbr c0
   replace c1:=keepc hbr c1
   replace d0:=past1 (keepc hbr d0)
   replace d1:=past1 (keepc hbr d1)
   have HZ:=hide hz
   have HY:=hide hy
   have hlt':(k:Int) < (n:Int):=by omega
   clear hz hy
   go_wp2_with (go_at_call 25;refine (SameZone_c z.s y.s z.a y.a z.n z.c y.n y.c z.l y.l _ (by refine Ints.below iz (B:=wr.heap.size) ?_ (Nat.le_refl _);(repeat first|exact bel0|assumption|refine bel1 ?_|refine bel2 ?_|refine bel3 ?_|refine belowT ?_ (by assumption)|refine bel5 ?_ (by simp;try omega))) (by refine Ints.below iy (B:=wr.heap.size) ?_ (Nat.le_refl _);(repeat first|exact bel0|assumption|refine bel1 ?_|refine bel2 ?_|refine bel3 ?_|refine belowT ?_ (by assumption)|refine bel5 ?_ (by simp;try omega)))).mono ?_;rintro e w9 ⟨rfl,hb9⟩)
   ·rename_i hne
    go_ret
    exact ⟨ret_bool (decide_eq_false (map_ne Z1 Z2 k z y HZ.out HY.out (by simp at hne;rintro ⟨e1,e2⟩;rcases hne with h|h;exact h e1;exact h e2))).symm,by (repeat first|exact bel0|assumption|refine bel1 ?_|refine bel2 ?_|refine bel3 ?_|refine belowT ?_ (by assumption)|refine bel5 ?_ (by simp;try omega))⟩
   ·rename_i heq
    exact ⟨⟨k + 1,by omega,by go_num,map_take_step Z1 Z2 k z y HZ.out HY.out HP.out (by simpa using heq),by (repeat first|exact bel0|assumption|refine bel1 ?_|refine bel2 ?_|refine bel3 ?_|refine belowT ?_ (by assumption)|refine bel5 ?_ (by simp;try omega))⟩,by simp [intOf];omega⟩
  ·obtain rfl:k=n:=by omega
   go_wp2
   go_ret
   have hp:=HP.out
   rw [List.take_of_length_le (by rw [hlen1.out];omega),List.take_of_length_le (by rw [hlen2.out];omega)] at hp
   exact ⟨ret_bool (by simp [hp]),hbr⟩
theorem EqualFuncR_ne (a1 a2:Option Addr) (n1 n2 c1 c2:Nat) (fv:Value) (w:World) (hne:n1≠n2) (hm1:n1≤9223372036854775807) (hm2:n2≤9223372036854775807) :
  Calls Tryz.prog 24 #[.slice a1 n1 c1,.slice a2 n2 c2,fv] w fun e w'=>e=.returned (.bool false)∧w'=w:=by
 have hb:((n1:Int) !=(n2:Int))=true:=by simp;omega
 go_enter Tryz.func24,Tryz.ntmps24
 go_wp2
 go_ret
 exact ⟨rfl,rfl⟩
theorem EqualFuncR_zero (a1 a2:Option Addr) (c1 c2:Nat) (fv:Value) (w:World) :
  Calls Tryz.prog 24 #[.slice a1 0 c1,.slice a2 0 c2,fv] w fun e w'=>e=.returned (.bool true)∧w'=w:=by
 go_enter Tryz.func24,Tryz.ntmps24
 go_wp2
 refine wp_loop_rounds 1 ?_
 rw [rounds_succ]
 go_wp2
 go_ret
 exact ⟨rfl,rfl⟩
theorem EqualFuncR_c (a1 a2:Option Addr) (n1 n2 c1 c2:Nat) (Z1 Z2:List ZV) (w:World) (h1:Zones w a1 n1 c1 Z1) (h2:Zones w a2 n2 c2 Z2) :
  Calls Tryz.prog 24 #[.slice a1 n1 c1,.slice a2 n2 c2,.func (Fn.func 25) #[] #[]] w fun e w'=>e=.returned (.bool (decide (Z1.map ZV.p=Z2.map ZV.p)))∧Below w.heap.size w w':=by
 by_cases hn:n1=n2
 ·subst hn
  by_cases h0:n1=0
  ·subst h0
   have e1:=h1.len
   have e2:=h2.len
   rw [List.length_eq_zero_iff] at e1 e2
   subst e1 e2
   refine (EqualFuncR_zero a1 a2 c1 c2 _ w).mono ?_
   rintro e w' ⟨rfl,rfl⟩
   exact ⟨rfl,Below.refl _ _⟩
  ·rcases h1.row with h|⟨b1,o1,rfl,_,hr1⟩
   ·omega
   ·rcases h2.row with h|⟨b2,o2,rfl,_,hr2⟩
    ·omega
    ·exact EqualFuncR_some b1 o1 c1 b2 o2 c2 n1 Z1 Z2 w h1 h2 hr1 hr2
 ·have m1:=h1.max
  have m2:=h2.max
  have q1:=h1.le
  have q2:=h2.le
  refine (EqualFuncR_ne a1 a2 n1 n2 c1 c2 _ w hn (by omega) (by omega)).mono ?_
  rintro e w' ⟨rfl,rfl⟩
  exact ⟨ret_bool (decide_eq_false (map_len Z1 Z2 (by rw [h1.len,h2.len];exact hn))).symm,Below.refl _ _⟩
end Go.Proofs.YtabafikicbkkdaaGreatDoor
namespace Go.Proofs.YtabafikicbkkdaaGreatDoor
open Go.RowKit
set_option linter.unusedVariables false
set_option maxHeartbeats 2000000
set_option maxRecDepth 100000
set_option linter.unusedSimpArgs false
def ZV.off (g:Nat) (z:ZV):Prop:=z.n=0∨∀ x,z.a=some x→x.block≠g
structure Mine (w:World) (base g n c:Nat) (Z:List ZV):Prop where
 zs:Zones w (some ⟨g,0,none⟩) n c Z
 base:base≤g
 lt:g < w.heap.size
 cells:∀ i z,Z[i]?=some z→w.cell? ⟨g,i * 2,none⟩=some (.int .i64 z.s)∧w.cell? ⟨g,i * 2 + 1,none⟩=some (.slice z.a z.n z.c)
 soft:∀ j,j < n * 2→w.frozen? ⟨g,j,none⟩=false
 off:∀ z∈Z,z.off g
theorem Ints.setCell' {w:World} {a:Option Addr} {n c:Nat} {l:List Int} (h:Ints w a n c l) (p:Addr) (v:Value) (hne:n=0∨∀ x,a=some x→x.block≠p.block):Ints (w.setCell p v) a n c l:=by
 rcases hne with h0|hne
 ·exact ⟨h.len,h.le,h.max,h.nil,.inl h0,h.wf⟩
 ·exact h.setCell p v hne
theorem Mine.below {w w':World} {base g n c:Nat} {Z:List ZV} (h:Mine w base g n c Z) (hb:Below w.heap.size w w'):Mine w' base g n c Z:=by
 refine ⟨h.zs.below hb (Nat.le_refl _),h.base,Nat.lt_of_lt_of_le h.lt hb.size,fun i z hz=>?_,fun j hj=>?_,h.off⟩
 ·rw [hb.cell (p:=⟨g,i * 2,none⟩) h.lt,hb.cell (p:=⟨g,i * 2 + 1,none⟩) h.lt]
  exact h.cells i z hz
 ·rw [hb.frozen (p:=⟨g,j,none⟩) h.lt]
  exact h.soft j hj
theorem Mine.set {w:World} {base g n c:Nat} {Z:List ZV} (h:Mine w base g n c Z) (i:Nat) (hi:i < n) (z:ZV) (hz:z.ok w) (ho:z.off g) :
  Mine ((w.setCell ⟨g,i * 2,none⟩ (.int .i64 z.s)).setCell ⟨g,i * 2 + 1,none⟩ (.slice z.a z.n z.c)) base g n c (Z.set i z):=by
 have hlen:=h.zs.len
 obtain ⟨y,hy⟩:∃ y,Z[i]?=some y:=⟨Z[i]'(by omega),by simp⟩
 obtain ⟨y0,y1⟩:=h.cells i y hy
 have hc:∀ j u,(Z.set i z)[j]?=some u→((w.setCell ⟨g,i * 2,none⟩ (.int .i64 z.s)).setCell ⟨g,i * 2 + 1,none⟩ (.slice z.a z.n z.c)).cell? ⟨g,j * 2,none⟩=some (.int .i64 u.s)∧((w.setCell ⟨g,i * 2,none⟩ (.int .i64 z.s)).setCell ⟨g,i * 2 + 1,none⟩ (.slice z.a z.n z.c)).cell? ⟨g,j * 2 + 1,none⟩=some (.slice u.a u.n u.c):=by
  intro j u hu
  by_cases hij:i=j
  ·subst hij
   rw [List.getElem?_set_self (by omega)] at hu
   cases hu
   refine ⟨?_,?_⟩
   ·rw [World.cell?_setCell_other _ _ _ _ (by simp)]
    exact World.cell?_setCell_same _ _ _ y0
   ·exact World.cell?_setCell_same _ _ _ (by rw [World.cell?_setCell_other _ _ _ _ (by simp)];exact y1)
  ·rw [List.getElem?_set_ne hij] at hu
   obtain ⟨u0,u1⟩:=h.cells j u hu
   refine ⟨?_,?_⟩
   ·rw [World.cell?_setCell_other _ _ _ _ (by (first|(simp;done)|(simp;omega))),World.cell?_setCell_other _ _ _ _ (by (first|(simp;done)|(simp;omega)))]
    exact u0
   ·rw [World.cell?_setCell_other _ _ _ _ (by (first|(simp;done)|(simp;omega))),World.cell?_setCell_other _ _ _ _ (by (first|(simp;done)|(simp;omega)))]
    exact u1
 have hoff:∀ u∈Z.set i z,u.off g:=fun u hu=>by
  rcases List.mem_or_eq_of_mem_set hu with hu|rfl
  ·exact h.off u hu
  ·exact ho
 have hok:∀ u∈Z.set i z,u.ok ((w.setCell ⟨g,i * 2,none⟩ (.int .i64 z.s)).setCell ⟨g,i * 2 + 1,none⟩ (.slice z.a z.n z.c)):=fun u hu=>by
  have hw:u.ok w:=by
   rcases List.mem_or_eq_of_mem_set hu with hu|rfl
   ·exact h.zs.ok u hu
   ·exact hz
  exact (Ints.setCell' hw ⟨g,i * 2,none⟩ _ (hoff u hu)).setCell' ⟨g,i * 2 + 1,none⟩ _ (hoff u hu)
 refine ⟨⟨by simp [hlen],h.zs.le,h.zs.max,fun e=>(by cases e),.inr ⟨g,0,rfl,by simpa [World.setCell] using h.lt,fun j u hu=>by simpa using hc j u hu⟩,hok⟩,h.base,by simpa [World.setCell] using h.lt,hc,fun j hj=>?_,hoff⟩
 rw [World.frozen?_setCell,World.frozen?_setCell]
 exact h.soft j hj
theorem Mine.mono {w:World} {base base' g n c:Nat} {Z:List ZV} (h:Mine w base g n c Z) (hb:base'≤base):Mine w base' g n c Z:=⟨h.zs,Nat.le_trans hb h.base,h.lt,h.cells,h.soft,h.off⟩
def zcells:List ZV→List Value
 |[]=>[]
 |z :: r=>.int .i64 z.s :: .slice z.a z.n z.c :: zcells r
theorem zcells_get (Z:List ZV):∀ i z,Z[i]?=some z→(zcells Z)[i * 2]?=some (.int .i64 z.s)∧(zcells Z)[i * 2 + 1]?=some (.slice z.a z.n z.c):=by
 induction Z with
 |nil=>intro i z h;simp at h
 |cons y r ih=>
  intro i z h
  cases i with
  |zero=>simp at h;subst h;simp [zcells]
  |succ i=>
   simp at h
   have:=ih i z h
   simp [zcells,show (i + 1) * 2=i * 2 + 1 + 1 by omega]
   exact this
theorem frozen_row {w:World} {g j:Nat} {cs:Array Value} {t:TypeId} (h:w.heap[g]?=some (.cells cs t (0,0))):w.frozen? ⟨g,j,none⟩=false:=by
 simp [World.frozen?,h]
end Go.Proofs.YtabafikicbkkdaaGreatDoor
namespace Go.Proofs.YtabafikicbkkdaaGreatDoor
open Go.RowKit
set_option linter.unusedVariables false
set_option maxHeartbeats 2000000
set_option maxRecDepth 100000
set_option linter.unusedSimpArgs false
def shutP (z:Int×List Int):Int×List Int:=if z.2=[] then (0,[]) else (3,z.2)
def ZV.shut (z:ZV):ZV:=if z.l=[] then ⟨0,none,0,0,[]⟩ else ⟨3,z.a,z.n,z.c,z.l⟩
theorem ZV.shut_p (z:ZV):z.shut.p=shutP z.p:=by unfold ZV.shut shutP ZV.p;split<;>rfl
end Go.Proofs.YtabafikicbkkdaaGreatDoor
namespace Go.Proofs.YtabafikicbkkdaaGreatDoor
open Go.RowKit
set_option linter.unusedVariables false
set_option maxHeartbeats 2000000
set_option maxRecDepth 100000
set_option linter.unusedSimpArgs false
def fopen (Z:List ZV):Option Nat:=Z.findIdx? fun z=>z.s==1
def roomZ (Z:List ZV) (s:Int):Option (List ZV):=
 if isO s then some Z
 else if s=4∨s=0∧3≤cnt isA Z then none
 else if cnt isO Z < 2 then some Z
 else match fopen Z with
  |none=>none
  |some i=>some (Z.modify i ZV.shut)
theorem modify_set {Z:List ZV} {i:Nat} {z:ZV} (h:Z[i]?=some z):Z.modify i ZV.shut=Z.set i z.shut:=by
 obtain ⟨hi,rfl⟩:=List.getElem?_eq_some_iff.1 h
 apply List.ext_getElem?
 intro j
 by_cases e:i=j
 ·subst e;simp [List.getElem?_modify,hi]
 ·simp [List.getElem?_modify,List.getElem?_set,e]
theorem roomZ_1 {Z:List ZV} {s:Int} (h:s=1∨s=2):roomZ Z s=some Z:=by
 have:isO s=true:=by rcases h with rfl|rfl<;>rfl
 simp [roomZ,this]
theorem roomZ_2 {Z:List ZV} {s:Int} (h:¬ (s=1∨s=2)) (h2:s=4∨s=0∧3≤cnt isA Z):roomZ Z s=none:=by
 have:isO s=false:=by simp [isO];omega
 simp [roomZ,this,h2]
theorem roomZ_3 {Z:List ZV} {s:Int} (h:¬ (s=1∨s=2)) (h2:¬ (s=4∨s=0∧3≤cnt isA Z)) (h3:cnt isO Z < 2):roomZ Z s=some Z:=by
 have:isO s=false:=by simp [isO];omega
 simp [roomZ,this,h2,h3]
theorem roomZ_4 {Z:List ZV} {s:Int} (h:¬ (s=1∨s=2)) (h2:¬ (s=4∨s=0∧3≤cnt isA Z)) (h3:¬ cnt isO Z < 2) (hf:fopen Z=none):roomZ Z s=none:=by
 have:isO s=false:=by simp [isO];omega
 simp [roomZ,this,h2,h3,hf]
theorem roomZ_5 {Z:List ZV} {s:Int} (h:¬ (s=1∨s=2)) (h2:¬ (s=4∨s=0∧3≤cnt isA Z)) (h3:¬ cnt isO Z < 2) {i:Nat} {z:ZV} (hf:fopen Z=some i) (hz:Z[i]?=some z):roomZ Z s=some (Z.set i z.shut):=by
 have:isO s=false:=by simp [isO];omega
 simp [roomZ,this,h2,h3,hf,modify_set hz]
end Go.Proofs.YtabafikicbkkdaaGreatDoor
namespace Go.Proofs.YtabafikicbkkdaaGreatDoor
open Go.RowKit
set_option linter.unusedVariables false
set_option maxHeartbeats 2000000
set_option maxRecDepth 100000
set_option linter.unusedSimpArgs false
theorem zs_four {w:World} {a:Option Addr} {n c:Nat} {Z:List ZV} (h:Zones w a n c Z) (hok:checkZs (Z.map ZV.p)=0) :
  n=4∧∃ b off,a=some ⟨b,off,none⟩∧∀ i z,Z[i]?=some z→w.cell? ⟨b,off + i * 2,none⟩=some (.int .i64 z.s)∧w.cell? ⟨b,off + i * 2 + 1,none⟩=some (.slice z.a z.n z.c):=by
 have h4:n=4:=by
  apply Decidable.byContradiction
  intro hn
  rw [← checkZs_1 (Z:=Z) (by rw [h.len];exact hn)] at hok
  omega
 refine ⟨h4,?_⟩
 rcases h.row with h0|⟨b,off,ha,_,hr⟩
 ·omega
 ·exact ⟨b,off,ha,hr⟩
end Go.Proofs.YtabafikicbkkdaaGreatDoor
namespace Go.Proofs.YtabafikicbkkdaaGreatDoor
open Go.RowKit
set_option linter.unusedVariables false
set_option maxHeartbeats 2000000
set_option maxRecDepth 100000
set_option linter.unusedSimpArgs false
end Go.Proofs.YtabafikicbkkdaaGreatDoor
namespace Go.Proofs.YtabafikicbkkdaaGreatDoor
open Go.RowKit
set_option linter.unusedVariables false
set_option maxHeartbeats 2000000
set_option maxRecDepth 100000
set_option linter.unusedSimpArgs false
end Go.Proofs.YtabafikicbkkdaaGreatDoor
namespace Go.Proofs.YtabafikicbkkdaaGreatDoor
open Go.RowKit
set_option linter.unusedVariables false
set_option maxHeartbeats 2000000
set_option maxRecDepth 100000
set_option linter.unusedSimpArgs false
def wS (s:Int) (l k:List Int):Int:=if writeE s l k=0 then writeS s (l.length + k.length) else 0
def wL (s:Int) (l k:List Int):List Int:=if writeE s l k=0 then l++k else []
theorem Write_u (s:Int) (a:Option Addr) (n c:Nat) (l:List Int) (b:Option Addr) (m d:Nat) (k:List Int) (w:World) (h1:Ints w a n c l) (h2:Ints w b m d k) :
  Calls Tryz.prog 180 #[.agg #[.int .i64 s,.slice a n c],.slice b m d] w fun e w'=>(∃ a' n' c',e=.returned (.tuple #[.agg #[.int .i64 (wS s l k),.slice a' n' c'],.int .i64 (writeE s l k)])∧Ints w' a' n' c' (wL s l k)∧∀ x,a'=some x→w.heap.size≤x.block)∧Below w.heap.size w w':=by
 by_cases h:writeE s l k=0
 ·refine (Write_ok s a n c l b m d k w h1 h2 h).mono ?_
  rintro e w' ⟨⟨q,rfl,i,hq⟩,hb⟩
  rw [show wS s l k=writeS s (n + m) by simp [wS,h,h1.len,h2.len],show wL s l k=l++k by simp [wL,h],h]
  exact ⟨⟨_,_,_,rfl,i,fun x e=>by cases e;exact hq⟩,hb⟩
 ·refine (Write_bad s a n c l b m d k w h1 h2 h).mono ?_
  rintro e w' ⟨rfl,hb⟩
  rw [show wS s l k=0 by simp [wS,h],show wL s l k=[] by simp [wL,h]]
  exact ⟨⟨_,_,_,rfl,Ints.nilSlice _,fun x e=>by cases e⟩,hb⟩
end Go.Proofs.YtabafikicbkkdaaGreatDoor
namespace Go.Proofs.YtabafikicbkkdaaGreatDoor
open Go.RowKit
set_option linter.unusedVariables false
set_option maxHeartbeats 2000000
set_option maxRecDepth 100000
set_option linter.unusedSimpArgs false
end Go.Proofs.YtabafikicbkkdaaGreatDoor
namespace Go.Proofs.YtabafikicbkkdaaGreatDoor
open Go.RowKit
set_option linter.unusedVariables false
set_option maxHeartbeats 2000000
set_option maxRecDepth 100000
set_option linter.unusedSimpArgs false
abbrev PZ:=Int×List Int
def fopenP (P:List PZ):Option Nat:=P.findIdx? fun z=>z.1==1
def roomP (P:List PZ) (s:Int):Option (List PZ):=
 if isO s then some P
 else if s=4∨s=0∧3≤cntP isA P then none
 else if cntP isO P < 2 then some P
 else match fopenP P with
  |none=>none
  |some i=>some (P.modify i shutP)
def pre (P:List PZ) (k:Int):Int:=if checkZs P≠0 then checkZs P else if inB k 0 3 then 0 else 5
def at' (P:List PZ) (k:Int):PZ:=P.getD k.toNat (0,[])
def holdP (P:List PZ) (k:Int):List PZ×Int:=
 if pre P k≠0 then ([],pre P k) else match roomP P (at' P k).1 with
  |none=>([],7)
  |some Q=>(Q.set k.toNat (2,(at' P k).2),0)
def closeP (P:List PZ) (k:Int):List PZ×Int:=
 if pre P k≠0 then ([],pre P k) else if isO (at' P k).1 then (P.set k.toNat (shutP (at' P k)),0) else ([],6)
def finishP (P:List PZ) (k:Int):List PZ×Int:=
 if pre P k≠0 then ([],pre P k) else (P.set k.toNat (4,(at' P k).2),0)
def resetP (P:List PZ) (k:Int):List PZ×Int:=
 if pre P k≠0 then ([],pre P k) else (P.set k.toNat (0,[]),0)
def writeP (P:List PZ) (k:Int) (data:List Int):List PZ×Int×Int:=
 if pre P k≠0 then ([],0,pre P k)
 else if writeE (at' P k).1 (at' P k).2 data≠0 then ([],0,writeE (at' P k).1 (at' P k).2 data)
 else match roomP P (at' P k).1 with
  |none=>([],0,7)
  |some Q=>(Q.set k.toNat (wS (at' P k).1 (at' P k).2 data,wL (at' P k).1 (at' P k).2 data),((at' P k).2.length:Int),0)
theorem fopen_p (Z:List ZV):fopen Z=fopenP (Z.map ZV.p):=by
 unfold fopen fopenP
 rw [List.findIdx?_map]
 rfl
theorem modify_p (Z:List ZV) (i:Nat):(Z.modify i ZV.shut).map ZV.p=(Z.map ZV.p).modify i shutP:=by
 apply List.ext_getElem?
 intro j
 simp only [List.getElem?_map,List.getElem?_modify]
 cases Z[j]? with
 |none=>simp
 |some z=>
  by_cases e:i=j
  ·simp [e,ZV.shut_p]
  ·simp [e]
theorem room_p (Z:List ZV) (s:Int):(roomZ Z s).map (List.map ZV.p)=roomP (Z.map ZV.p) s:=by
 unfold roomZ roomP
 rw [← cnt_map,← cnt_map,← fopen_p]
 split
 ·rfl
 ·split
  ·rfl
  ·split
   ·rfl
   ·cases fopen Z with
    |none=>rfl
    |some i=>simp [modify_p]
theorem room_none {Z:List ZV} {s:Int} (h:roomZ Z s=none):roomP (Z.map ZV.p) s=none:=by rw [← room_p,h];rfl
theorem room_some {Z Z':List ZV} {s:Int} (h:roomZ Z s=some Z'):roomP (Z.map ZV.p) s=some (Z'.map ZV.p):=by rw [← room_p,h];rfl
theorem pre_ok {w:World} {a:Option Addr} {n c:Nat} {Z:List ZV} (h:Zones w a n c Z) {k:Int} (hp:pre (Z.map ZV.p) k=0) :
  checkZs (Z.map ZV.p)=0∧∃ (j b off:Nat) (z:ZV),k=j∧j < 4∧n=4∧a=some ⟨b,off,none⟩∧Z[j]?=some z∧at' (Z.map ZV.p) k=z.p∧
   ∀ i z,Z[i]?=some z→w.cell? ⟨b,off + i * 2,none⟩=some (.int .i64 z.s)∧w.cell? ⟨b,off + i * 2 + 1,none⟩=some (.slice z.a z.n z.c):=by
 unfold pre at hp
 by_cases hc:checkZs (Z.map ZV.p)=0
 ·simp [hc] at hp
  obtain ⟨h4,b,off,ha,hr⟩:=zs_four h hc
  have hk:0≤k∧k≤3:=by simp [inB] at hp;omega
  obtain ⟨j,rfl⟩:=Int.eq_ofNat_of_zero_le hk.1
  have hj:j < Z.length:=by rw [h.len];omega
  refine ⟨hc,j,b,off,Z[j],rfl,by omega,h4,ha,by simp,?_,hr⟩
  simp [at',List.getD,hj]
 ·simp [hc] at hp
theorem set_p (Z:List ZV) (j:Nat) (u:ZV):(Z.set j u).map ZV.p=(Z.map ZV.p).set j u.p:=by rw [List.map_set]
theorem zs_nil (w:World):Zones w none 0 0 []:=⟨rfl,Nat.le_refl _,by omega,fun _=>rfl,.inl rfl,by simp⟩
def Avoid (w:World) (Z:List ZV) (a':Option Addr) (Z':List ZV):Prop:=∀ R,R < w.heap.size→(∀ z∈Z,z.off R)→(∀ x,a'=some x→x.block≠R)∧∀ z∈Z',z.off R
theorem Avoid.none (w:World) (Z:List ZV):Avoid w Z none []:=fun R _ _=>⟨fun x e=>(by cases e),fun z hz=>by cases hz⟩
theorem Avoid.mk {w:World} {Z Z':List ZV} {g:Nat} (hg:w.heap.size≤g) (h:∀ R,R < w.heap.size→(∀ z∈Z,z.off R)→∀ z∈Z',z.off R):Avoid w Z (some ⟨g,0,Option.none⟩) Z':=
 fun R hR ho=>⟨fun x e=>by cases e;simp;omega,h R hR ho⟩
end Go.Proofs.YtabafikicbkkdaaGreatDoor
namespace Go.Proofs.YtabafikicbkkdaaGreatDoor
open Go.RowKit
set_option linter.unusedVariables false
set_option maxHeartbeats 2000000
set_option maxRecDepth 100000
set_option linter.unusedSimpArgs false
def rL (s:Int) (l:List Int) (p k:Int):List Int:=if readE s l p k=0 then (l.drop p.toNat).take k.toNat else []
theorem Read_f (s:Int) (a:Option Addr) (n c:Nat) (l:List Int) (p k:Int) (w:World) (h1:Ints w a n c l) :
  Calls Tryz.prog 155 #[.agg #[.int .i64 s,.slice a n c],.int .i64 p,.int .i64 k] w fun e w'=>(∃ a' n' c',e=.returned (.tuple #[.slice a' n' c',.int .i64 (readE s l p k)])∧Ints w' a' n' c' (rL s l p k)∧∀ x,a'=some x→w.heap.size≤x.block)∧Below w.heap.size w w':=by
 by_cases h:readE s l p k=0
 ·refine (Read_ok s a n c l p k w h1 h).mono ?_
  rintro e w' ⟨⟨q,rfl,i,hq⟩,hb⟩
  rw [show rL s l p k=(l.drop p.toNat).take k.toNat by simp [rL,h],h]
  exact ⟨⟨_,_,_,rfl,i,fun x e=>by cases e;exact hq⟩,hb⟩
 ·refine (Read_bad s a n c l p k w h1 h).mono ?_
  rintro e w' ⟨rfl,hb⟩
  rw [show rL s l p k=[] by simp [rL,h]]
  exact ⟨⟨_,_,_,rfl,Ints.nilSlice _,fun x e=>by cases e⟩,hb⟩
end Go.Proofs.YtabafikicbkkdaaGreatDoor
namespace Go.Proofs.YtabafikicbkkdaaGreatDoor
open Go.RowKit
set_option linter.unusedVariables false
set_option maxHeartbeats 2000000
set_option maxRecDepth 100000
set_option linter.unusedSimpArgs false
structure PD where
 P:List PZ
 b:PB
structure PA where
 e:Int
 t:Int
 d:List Int
def zeroD:PD:=⟨[],zeroB⟩
def freshD:PD:=⟨[(0,[]),(0,[]),(0,[]),(0,[])],freshB⟩
def zeroA:PA:=⟨0,0,[]⟩
def errA (e:Int):PA:=⟨e,0,[]⟩
def checkD (d:PD):Int:=if checkZs d.P≠0 then checkZs d.P else checkB d.b
def sameD (a b:PD):Bool:=decide (a.P=b.P)&&sameB a.b b.b
def checkA (a:PA):Int:=
 if outB 0 9 a.e∨outB 0 7 a.t then 3
 else if 8 < a.d.length then 2
 else if a.d.any (outB 0 999) then 3
 else if a.e≠0∧(a.t≠0∨a.d≠[]) then 4 else 0
def sameA (a b:PA):Bool:=decide (a.e=b.e∧a.t=b.t∧a.d=b.d)
def bookDo (b:PB) (who:Int) (c:PC):PB×Int:=
 if c.k=8 then registerB b who c.n else if c.k=9 then reserveB b who c.n else if c.k=10 then releaseB b who else if c.k=11 then preemptB b who c.n else clearB b who
def zoneDo (P:List PZ) (c:PC):List PZ×Int:=
 if c.k=1 then holdP P c.z else if c.k=2 then closeP P c.z else if c.k=3 then finishP P c.z else resetP P c.z
def readD (P:List PZ) (c:PC):PA:=
 if inB c.z 0 3=false then errA 5 else ⟨readE (at' P c.z).1 (at' P c.z).2 c.at' c.n,0,rL (at' P c.z).1 (at' P c.z).2 c.at' c.n⟩
def writeD (d:PD) (c:PC):PD×PA:=
 if c.k=6∧inB c.z 0 3=true∧c.at'≠(at' d.P c.z).2.length then (d,errA 6)
 else if (writeP d.P c.z c.d).2.2≠0 then (d,errA (writeP d.P c.z c.d).2.2)
 else (⟨(writeP d.P c.z c.d).1,d.b⟩,⟨0,(writeP d.P c.z c.d).2.1,[]⟩)
def doneD (d:PD) (who:Int) (c:PC):PD×PA:=
 if 8≤c.k then (if (bookDo d.b who c).2≠0 then (d,errA (bookDo d.b who c).2) else (⟨d.P,(bookDo d.b who c).1⟩,zeroA))
 else if mightB d.b who (c.k !=7)=false then (d,errA 8)
 else if c.k=7 then (d,readD d.P c)
 else if c.k=5∨c.k=6 then writeD d c
 else if (zoneDo d.P c).2≠0 then (d,errA (zoneDo d.P c).2) else (⟨(zoneDo d.P c).1,d.b⟩,zeroA)
def doE (d:PD) (who:Int) (c:PC):Int:=if checkD d≠0 then checkD d else if inB who 0 2=false then 5 else checkC c
def doD (d:PD) (who:Int) (c:PC):PD×PA×Int:=
 if doE d who c≠0 then (zeroD,zeroA,doE d who c) else ((doneD d who c).1,(doneD d who c).2,0)
structure DV where
 za:Option Addr
 zn:Nat
 zc:Nat
 Z:List ZV
 ka:Option Addr
 kn:Nat
 kc:Nat
 b:PB
def DV.p (d:DV):PD:=⟨d.Z.map ZV.p,d.b⟩
def DV.v (d:DV):Value:=.agg #[.slice d.za d.zn d.zc,.slice d.ka d.kn d.kc,.int .i64 d.b.h,.int .i64 d.b.t]
def DV.zero:DV:=⟨none,0,0,[],none,0,0,zeroB⟩
structure DV.ok (w:World) (d:DV):Prop where
 z:Zones w d.za d.zn d.zc d.Z
 k:Ints w d.ka d.kn d.kc d.b.k
theorem DV.ok.below {w w':World} {d:DV} (h:d.ok w) {B:Nat} (hb:Below B w w') (hB:w.heap.size≤B):d.ok w':=⟨h.z.below hb hB,h.k.below hb hB⟩
theorem DV.zero_ok (w:World):DV.zero.ok w:=⟨zs_nil w,Ints.nilSlice w⟩
theorem DV.zero_p:DV.zero.p=zeroD:=rfl
structure AV where
 e:Int
 t:Int
 a:Option Addr
 n:Nat
 c:Nat
 d:List Int
def AV.p (x:AV):PA:=⟨x.e,x.t,x.d⟩
def AV.v (x:AV):Value:=.agg #[.int .i64 x.e,.int .i64 x.t,.slice x.a x.n x.c]
def AV.ok (w:World) (x:AV):Prop:=Ints w x.a x.n x.c x.d
def AV.err (e:Int):AV:=⟨e,0,none,0,0,[]⟩
theorem AV.ok.below {w w':World} {x:AV} (h:x.ok w) {B:Nat} (hb:Below B w w') (hB:w.heap.size≤B):x.ok w':=Ints.below h hb hB
theorem AV.err_ok (w:World) (e:Int):(AV.err e).ok w:=Ints.nilSlice w
theorem AV.err_p (e:Int):(AV.err e).p=errA e:=rfl
theorem sameB_iff (a b:PB):sameB a b=true↔a=b:=by
 obtain ⟨k,h,t⟩:=a
 obtain ⟨k',h',t'⟩:=b
 simp [sameB]
theorem sameD_iff (a b:PD):sameD a b=true↔a=b:=by
 obtain ⟨P,b1⟩:=a
 obtain ⟨Q,b2⟩:=b
 simp [sameD,sameB_iff]
theorem sameA_iff (a b:PA):sameA a b=true↔a=b:=by
 obtain ⟨e,t,d⟩:=a
 obtain ⟨e',t',d'⟩:=b
 simp [sameA]
theorem sameA_self (a:PA):sameA a a=true:=(sameA_iff a a).2 rfl
end Go.Proofs.YtabafikicbkkdaaGreatDoor
namespace Go.Proofs.YtabafikicbkkdaaGreatDoor
open Go.ChangeShapes Go.WideShapes Go.ChangeAt Go.RowKit Go.Joins Go.ChangeMaps
set_option linter.unusedVariables false
set_option maxHeartbeats 2000000
set_option maxRecDepth 100000
set_option linter.unusedSimpArgs false
end Go.Proofs.YtabafikicbkkdaaGreatDoor
namespace Go.Proofs.YtabafikicbkkdaaGreatDoor
open Go.RowKit
set_option linter.unusedVariables false
set_option maxHeartbeats 2000000
set_option maxRecDepth 100000
set_option linter.unusedSimpArgs false
theorem checkZ_mk {s:Int} {l:List Int} (h0:0≤s) (h4:s≤4) (hl:l.length≤8) (ha:l.any (outB 0 999)=false) (hf:fitsB s l.length=true):checkZ s l=0:=
 (checkZ_0 (by simp [outB];omega) (by omega) ha hf).symm
theorem check_write {s:Int} {l k:List Int} (h:writeE s l k=0):checkZ (writeS s (l.length + k.length)) (l++k)=0:=by
 obtain ⟨h1,h2,h3,h4,h5⟩:=writeE_ok h
 obtain ⟨z1,z2,z3,z4,z5⟩:=checkZ_len h1
 have hs:writeS s (l.length + k.length)=4∧l.length + k.length=8∨(writeS s (l.length + k.length)=2∨writeS s (l.length + k.length)=1)∧l.length + k.length < 8:=by
  unfold writeS
  split
  ·exact .inl ⟨rfl,by assumption⟩
  ·refine .inr ⟨?_,by omega⟩
   split
   ·exact .inl rfl
   ·exact .inr rfl
 refine checkZ_mk ?_ ?_ (by simp;omega) (by simp only [List.any_append,z4,h4];rfl) ?_
 ·omega
 ·omega
 ·rw [List.length_append]
  rcases hs with ⟨e,_⟩|⟨e|e,hlt⟩<;>rw [e]<;>simp [fitsB]<;>omega
theorem any_take_false (l:List Int) (p:Nat) (f:Int→Bool) (h:l.any f=false):(l.take p).any f=false:=by
 rw [List.any_eq_false] at *
 exact fun x hx=>h x (List.mem_of_mem_take hx)
theorem any_drop_false (l:List Int) (p:Nat) (f:Int→Bool) (h:l.any f=false):(l.drop p).any f=false:=by
 rw [List.any_eq_false] at *
 exact fun x hx=>h x (List.mem_of_mem_drop hx)
theorem Ints.head {w:World} {a:Option Addr} {n c:Nat} {l:List Int} (h:Ints w a n c l) (p:Nat) (hp:p≤n):Ints w a p c (l.take p):=by
 have:=h.cut 0 p (by omega) a (fun _=>by cases a<;>simp [Addr.add])
 simpa using this
end Go.Proofs.YtabafikicbkkdaaGreatDoor
