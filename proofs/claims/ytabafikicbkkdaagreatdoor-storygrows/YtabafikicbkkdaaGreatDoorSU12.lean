/- Hands in memory; plain mathematics, no condition. -/
import Derived.Test.YtabafikicbkkdaaGreatDoorSU11
import Derived.Test.YtabafikicbkkdaaGreatDoorSU9
import Derived.Test.YtabafikicbkkdaaGreatDoorSU2
import Derived.Deep.AppendLies
import Derived.Test.YtabafikicbkkdaaGreatDoorSU1
import Derived.Test.YtabafikicbkkdaaGreatDoorSU8
namespace Go.Proofs.YtabafikicbkkdaaGreatDoor
open Go.RowKit
set_option linter.unusedVariables false
set_option maxRecDepth 100000
set_option linter.unusedSimpArgs false
structure NV where
 s:Int
 w:Bool
 c:PC
 ca:Option Addr
 cn:Nat
 cc:Nat
 ga:Option Addr
 gn:Nat
 gc:Nat
 G:List AV
def NV.p (h:NV):PN:=⟨h.s,h.w,h.c,h.G.map AV.p⟩
def NV.cells (h:NV):List Value:=[.int .i64 h.s,.bool h.w,.int .i64 h.c.k,.int .i64 h.c.z,.int .i64 h.c.n,.int .i64 h.c.at',.slice h.ca h.cn h.cc,.slice h.ga h.gn h.gc]
def NV.v (h:NV):Value:=.agg #[.int .i64 h.s,.bool h.w,.int .i64 h.c.k,.int .i64 h.c.z,.int .i64 h.c.n,.int .i64 h.c.at',.slice h.ca h.cn h.cc,.slice h.ga h.gn h.gc]
structure NV.ok (w:World) (h:NV):Prop where
 c:Ints w h.ca h.cn h.cc h.c.d
 g:Answers w h.ga h.gn h.gc h.G
def NV.zero:NV:=⟨0,false,zeroC,none,0,0,none,0,0,[]⟩
theorem NV.zero_ok (w:World):NV.zero.ok w:=⟨Ints.nilSlice w,Answers.nilSlice w⟩
theorem NV.zero_p:NV.zero.p=zeroN:=rfl
theorem NV.ok.below {w w':World} {h:NV} (k:h.ok w) {B:Nat} (hb:Below B w w') (hB:w.heap.size≤B):h.ok w':=⟨k.c.below hb hB,k.g.below hb hB⟩
structure NV.off (R:Nat) (h:NV):Prop where
 c:h.cn=0∨∀ y,h.ca=some y→y.block≠R
 a:h.gn=0∨∀ y,h.ga=some y→y.block≠R
 g:∀ x∈h.G,x.off R
def NV.new (B:Nat) (h:NV):Prop:=∀ R,R < B→h.off R
theorem NV.ok.but {w w':World} {g:Nat} {h:NV} (k:h.ok w) (hb:But g w w') (ho:h.off g):h.ok w':=⟨k.c.but hb ho.c,k.g.but hb ho.a ho.g⟩
theorem Answers.off {w:World} {a:Option Addr} {n c:Nat} {X:List AV} (h:Answers w a n c X) {R:Nat} (hR:w.heap.size≤R):(n=0∨∀ y,a=some y→y.block≠R)∧∀ x∈X,x.off R:=by
 refine ⟨?_,fun x hx=>AV.ok.off (h.ok x hx) hR⟩
 rcases h.row with h0|⟨b,off,rfl,hlt,_⟩
 ·exact .inl h0
 ·exact .inr fun y e=>by cases e;simp;omega
theorem NV.ok.off {w:World} {h:NV} (k:h.ok w) {R:Nat} (hR:w.heap.size≤R):h.off R:=⟨Ints.offs k.c hR,(k.g.off hR).1,(k.g.off hR).2⟩
theorem NV.new.mono {B B':Nat} {h:NV} (k:h.new B) (hb:B'≤B):h.new B':=fun R hR=>k R (by omega)
theorem NV.zero_off (R:Nat):NV.zero.off R:=⟨.inl rfl,.inl rfl,fun x hx=>(by cases hx)⟩
theorem NV.zero_new (B:Nat):NV.zero.new B:=fun R _=>NV.zero_off R
theorem Answers.at {w:World} {a:Option Addr} {n c:Nat} {X:List AV} (h:Answers w a n c X) {i:Nat} (hi:i < n):∃ b off x,a=some ⟨b,off,none⟩∧X[i]?=some x∧x.ok w∧b < w.heap.size∧∀ j v,x.cells[j]?=some v→w.cell? ⟨b,off + i * 3 + j,none⟩=some v:=by
 obtain ⟨b,off,e,hlt,hc⟩:=h.row.resolve_left (by omega)
 obtain ⟨x,hx⟩:∃ x,X[i]?=some x:=⟨_,List.getElem?_eq_getElem (by rw [h.len];exact hi)⟩
 exact ⟨b,off,x,e,hx,h.ok x (List.mem_of_getElem? hx),hlt,hc i x hx⟩
end Go.Proofs.YtabafikicbkkdaaGreatDoor
namespace Go.Proofs.YtabafikicbkkdaaGreatDoor
open Go.ChangeShapes Go.WideShapes Go.ChangeAt Go.RowKit Go.Joins Go.ChangeMaps
set_option linter.unusedVariables false
set_option maxRecDepth 100000
set_option linter.unusedSimpArgs false
end Go.Proofs.YtabafikicbkkdaaGreatDoor
namespace Go.Proofs.YtabafikicbkkdaaGreatDoor
open Go.RowKit
set_option linter.unusedVariables false
set_option maxRecDepth 100000
set_option linter.unusedSimpArgs false
structure Kin (α:Type) where
 k:Nat
 cs:α→List Value
 ok:World→α→Prop
 off:Nat→α→Prop
 len:∀ x,(cs x).length=k
 one:∀ x,∀ v∈cs x,v.oneCell'=true
 below:∀ {w w':World} {x:α},ok w x→∀ {B:Nat},Below B w w'→w.heap.size≤B→ok w' x
 but:∀ {w w':World} {g:Nat} {x:α},ok w x→But g w w'→off g x→ok w' x
 far:∀ {w:World} {R:Nat} {x:α},ok w x→w.heap.size≤R→off R x
def Kin.cells {α:Type} (K:Kin α) (X:List α):List Value:=X.flatMap K.cs
theorem Kin.cells_cons {α:Type} {K:Kin α} (x:α) (X:List α):K.cells (x :: X)=K.cs x++K.cells X:=by simp [Kin.cells]
theorem Kin.cells_app {α:Type} {K:Kin α} (X Y:List α):K.cells (X++Y)=K.cells X++K.cells Y:=by simp [Kin.cells]
theorem Kin.cells_len {α:Type} {K:Kin α} : ∀ X:List α,(K.cells X).length=X.length * K.k
 |[]=>by simp [Kin.cells]
 |x :: X=>by rw [Kin.cells_cons,List.length_append,Kin.cells_len X,K.len,List.length_cons,Nat.add_mul,Nat.one_mul,Nat.add_comm]
theorem Kin.cells_get {α:Type} {K:Kin α} : ∀ (X:List α) (i:Nat) (x:α),X[i]?=some x→∀ j v,(K.cs x)[j]?=some v→(K.cells X)[i * K.k + j]?=some v
 |[],i,x,h,_,_,_=>by simp at h
 |y :: X,0,x,h,j,v,hv=>by
  have hj:=(List.getElem?_eq_some_iff.1 hv).1
  simp at h
  subst h
  rw [Kin.cells_cons,List.getElem?_append_left (by omega)]
  simpa using hv
 |y :: X,i + 1,x,h,j,v,hv=>by
  rw [Kin.cells_cons,List.getElem?_append_right (by rw [K.len,Nat.add_mul];omega),K.len,show (i + 1) * K.k + j - K.k=i * K.k + j by rw [Nat.add_mul];omega]
  exact Kin.cells_get X i x (by simpa using h) j v hv
theorem Kin.cells_set {α:Type} {K:Kin α} : ∀ (X:List α) (i:Nat) (x:α),i < X.length→∀ j,j < K.k→(K.cells (X.set i x))[i * K.k + j]?=(K.cs x)[j]?
 |[],i,x,h,_,_=>by simp at h
 |y :: X,0,x,_,j,hj=>by
  rw [List.set_cons_zero,Kin.cells_cons,List.getElem?_append_left (by rw [K.len];omega)]
  simp
 |y :: X,i + 1,x,h,j,hj=>by
  rw [List.set_cons_succ,Kin.cells_cons,List.getElem?_append_right (by rw [K.len,Nat.add_mul];omega),K.len,show (i + 1) * K.k + j - K.k=i * K.k + j by rw [Nat.add_mul];omega]
  exact Kin.cells_set X i x (by simpa using h) j hj
theorem Kin.cells_one {α:Type} {K:Kin α} (X:List α):∀ v∈K.cells X,v.oneCell'=true:=by
 intro v hv
 simp only [Kin.cells,List.mem_flatMap] at hv
 obtain ⟨x,_,hx⟩:=hv
 exact K.one x v hx
structure Rows' {α:Type} (K:Kin α) (w:World) (a:Option Addr) (n c:Nat) (X:List α):Prop where
 len:X.length=n
 le:n≤c
 max:c≤9223372036854775807
 nil:a=none→c=0
 row:n=0∨∃ b off,a=some ⟨b,off,none⟩∧b < w.heap.size∧∀ i x,X[i]?=some x→∀ j v,(K.cs x)[j]?=some v→w.cell? ⟨b,off + i * K.k + j,none⟩=some v
 ok:∀ x∈X,K.ok w x
structure OffR {α:Type} (K:Kin α) (R:Nat) (a:Option Addr) (n:Nat) (X:List α):Prop where
 a:n=0∨∀ y,a=some y→y.block≠R
 x:∀ x∈X,K.off R x
theorem Rows'.below {α:Type} {K:Kin α} {w:World} {w':World} {a:Option Addr} {n:Nat} {c:Nat} {X:List α} (h:Rows' K w a n c X) {B:Nat} (hb:Below B w w') (hB:w.heap.size≤B):Rows' K w' a n c X:=by
 refine ⟨h.len,h.le,h.max,h.nil,?_,fun x hx=>K.below (h.ok x hx) hb hB⟩
 rcases h.row with h0|⟨b,off,ha,hlt,hc⟩
 ·exact .inl h0
 ·refine .inr ⟨b,off,ha,Nat.lt_of_lt_of_le hlt hb.size,fun i x hx j v hv=>?_⟩
  rw [hb.cell (p:=⟨b,off + i * K.k + j,none⟩) (Nat.lt_of_lt_of_le hlt hB)]
  exact hc i x hx j v hv
theorem Rows'.but {α:Type} {K:Kin α} {w:World} {w':World} {a:Option Addr} {n:Nat} {c:Nat} {X:List α} {g:Nat} (h:Rows' K w a n c X) (hb:But g w w') (ho:OffR K g a n X):Rows' K w' a n c X:=by
 refine ⟨h.len,h.le,h.max,h.nil,?_,fun x hx=>K.but (h.ok x hx) hb (ho.x x hx)⟩
 rcases ho.a with h0|hne
 ·exact .inl h0
 ·rcases h.row with h0|⟨b,off,ha,hlt,hc⟩
  ·exact .inl h0
  ·refine .inr ⟨b,off,ha,Nat.lt_of_lt_of_le hlt hb.size,fun i x hx j v hv=>?_⟩
   rw [hb.cell ⟨b,off + i * K.k + j,none⟩ hlt (by have:=hne _ ha;exact this)]
   exact hc i x hx j v hv
theorem Rows'.off {α:Type} {K:Kin α} {w:World} {a:Option Addr} {n:Nat} {c:Nat} {X:List α} (h:Rows' K w a n c X) {R:Nat} (hR:w.heap.size≤R):OffR K R a n X:=by
 refine ⟨?_,fun x hx=>K.far (h.ok x hx) hR⟩
 rcases h.row with h0|⟨b,off,rfl,hlt,_⟩
 ·exact .inl h0
 ·exact .inr fun y e=>by cases e;simp;omega
theorem Rows'.none {α:Type} {K:Kin α} (w:World):Rows' K w none 0 0 []:=⟨rfl,Nat.le_refl _,by omega,fun _=>rfl,.inl rfl,fun x hx=>by cases hx⟩
theorem Rows'.at {α:Type} {K:Kin α} {w:World} {a:Option Addr} {n:Nat} {c:Nat} {X:List α} (h:Rows' K w a n c X) {i:Nat} (hi:i < n):∃ b off x,a=some ⟨b,off,.none⟩∧X[i]?=some x∧K.ok w x∧b < w.heap.size∧∀ j v,(K.cs x)[j]?=some v→w.cell? ⟨b,off + i * K.k + j,.none⟩=some v:=by
 obtain ⟨b,off,e,hlt,hc⟩:=h.row.resolve_left (by omega)
 obtain ⟨x,hx⟩:∃ x,X[i]?=some x:=⟨_,List.getElem?_eq_getElem (by rw [h.len];exact hi)⟩
 exact ⟨b,off,x,e,hx,h.ok x (List.mem_of_getElem? hx),hlt,hc i x hx⟩
theorem Rows'.lies {α:Type} {K:Kin α} {w:World} {a:Option Addr} {n:Nat} {c:Nat} {X:List α} (h:Rows' K w a n c X) (hn:0 < n):∃ b off,a=some ⟨b,off,.none⟩∧b < w.heap.size∧∀ i x,X[i]?=some x→∀ j v,(K.cs x)[j]?=some v→w.cell? ⟨b,off + i * K.k + j,.none⟩=some v:=h.row.resolve_left (by omega)
theorem Rows'.take {α:Type} {K:Kin α} {w:World} {a:Option Addr} {n:Nat} {c:Nat} {X:List α} (h:Rows' K w a n c X) {m:Nat} (hm:m≤n):Rows' K w a m c (X.take m):=by
 refine ⟨by rw [List.length_take,h.len];omega,Nat.le_trans hm h.le,h.max,h.nil,?_,fun x hx=>h.ok x (List.mem_of_mem_take hx)⟩
 rcases h.row with h0|⟨b,off,ha,hlt,hc⟩
 ·exact .inl (by omega)
 ·exact .inr ⟨b,off,ha,hlt,fun i x hx=>hc i x (by
   have hi:=(List.getElem?_eq_some_iff.1 hx).1
   rw [List.length_take] at hi
   rwa [List.getElem?_take_of_lt (by omega)] at hx)⟩
theorem Rows'.drop {α:Type} {K:Kin α} {w:World} {a:Option Addr} {n:Nat} {c:Nat} {X:List α} (h:Rows' K w a n c X) {j:Nat} (hj:j≤n):Rows' K w (if c=j then a else a.map (fun x=>x.add (j * K.k))) (n - j) (c - j) (X.drop j):=by
 have hlen:=h.len
 have hle:=h.le
 have hmax:=h.max
 refine ⟨by rw [List.length_drop,hlen],by omega,by omega,fun e=>?_,?_,fun x hx=>h.ok x (List.mem_of_mem_drop hx)⟩
 ·by_cases hcj:c=j
  ·omega
  ·rw [if_neg hcj] at e
   cases ha:a with
   |none=>have:=h.nil ha;omega
   |some x=>rw [ha] at e;cases e
 ·rcases h.row with h0|⟨b,off,ha,hlt,hc⟩
  ·exact .inl (by omega)
  ·by_cases hcj:c=j
   ·exact .inl (by omega)
   ·refine .inr ⟨b,off + j * K.k,by rw [if_neg hcj,ha];simp [addr_add],hlt,fun i x hx k v hv=>?_⟩
    rw [List.getElem?_drop] at hx
    have:=hc (j + i) x hx k v hv
    rw [Nat.add_mul] at this
    rwa [Nat.add_assoc off]
structure MineR {α:Type} (K:Kin α) (t:TypeId) (w:World) (g:Nat) (X:List α):Prop where
 lay:Lay w g (K.cells X)
 ok:∀ x∈X,K.ok w x
 row:∃ cur:Array Value,w.heap[g]?=some (.cells cur t (0,0))∧cur.size=X.length * K.k
theorem MineR.below {α:Type} {K:Kin α} {w:World} {w':World} {X:List α} {t:TypeId} {g:Nat} (h:MineR K t w g X) (hb:Below w.heap.size w w'):MineR K t w' g X:=
 ⟨h.lay.below hb,fun x hx=>K.below (h.ok x hx) hb (Nat.le_refl _),by obtain ⟨cur,e,k⟩:=h.row;exact ⟨cur,by rw [hb.block g h.lay.lt];exact e,k⟩⟩
theorem MineR.far {α:Type} {K:Kin α} {w:World} {X:List α} {t:TypeId} {g:Nat} (h:MineR K t w g X) {p:Addr} (v:Value) (hf:But p.block w (w.setCell p v)) (hp:p.block≠g) (ho:∀ x∈X,K.off p.block x):MineR K t (w.setCell p v) g X:=
 ⟨h.lay.far p v hp,fun x hx=>K.but (h.ok x hx) hf (ho x hx),by obtain ⟨cur,e,k⟩:=h.row;exact ⟨cur,by rw [heap_setCell_other _ _ _ _ (fun e=>hp e.symm)];exact e,k⟩⟩
theorem MineR.rows {α:Type} {K:Kin α} {w:World} {n:Nat} {X:List α} {t:TypeId} {g:Nat} (h:MineR K t w g X) (hn:X.length=n) (hm:n≤9223372036854775807):Rows' K w (some ⟨g,0,.none⟩) n n X:=by
 subst hn
 refine ⟨rfl,Nat.le_refl _,hm,fun e=>(by cases e),.inr ⟨g,0,rfl,h.lay.lt,fun i y hy j v hv=>?_⟩,h.ok⟩
 have:=h.lay.cell _ _ (Kin.cells_get X i y hy j v hv)
 simpa using this
structure OwnK {α:Type} (K:Kin α) (t:TypeId) (w:World) (base:Nat) (v:Value) (X:List α):Prop where
 own:w.ownsRow base t K.k v X.length (K.cells X)
 ok:∀ x∈X,K.ok w x
 off:∀ x∈X,∀ g,v.ownBlock=some g→K.off g x
theorem OwnK.nil {α:Type} {K:Kin α} {t:TypeId} (w:World) (base:Nat):OwnK K t w base (.slice none 0 0) []:=⟨World.ownsRow_nil w base _ _,by simp,by simp⟩
theorem MineR.own {α:Type} {K:Kin α} {w:World} {X:List α} {t:TypeId} {g:Nat} (h:MineR K t w g X) (hm:X.length≤maxLen) (ho:∀ x∈X,K.off g x):OwnK K t w g (.slice (some ⟨g,0,.none⟩) X.length X.length) X:=by
 obtain ⟨cur,e,k⟩:=h.row
 have hl:cur.toList=K.cells X:=by
  apply List.ext_getElem?
  intro i
  by_cases hi:i < (K.cells X).length
  ·obtain ⟨v,hv⟩:∃ v,(K.cells X)[i]?=some v:=⟨_,List.getElem?_eq_getElem hi⟩
   have:=h.lay.cell i v hv
   rw [cell_of_row w g _ _ _ _ e] at this
   rw [hv]
   simpa using this
  ·have h1:(K.cells X)[i]?=none:=List.getElem?_eq_none (by omega)
   have h2:cur.toList[i]?=none:=List.getElem?_eq_none (by rw [Array.length_toList,k];rw [Kin.cells_len] at hi;omega)
   rw [h1,h2]
 refine ⟨⟨by rw [Kin.cells_len],.inr ⟨g,X.length,cur,rfl,Nat.le_refl _,e,Nat.le_refl _,hm,k,?_⟩⟩,h.ok,fun x hx b hb=>?_⟩
 ·rw [hl,List.take_of_length_le (by rw [Kin.cells_len];omega)]
 ·obtain rfl:g=b:=by simpa [Value.ownBlock] using hb
  exact ho x hx
theorem OwnK.below {α:Type} {K:Kin α} {w:World} {w':World} {X:List α} {t:TypeId} {base:Nat} {v:Value} (h:OwnK K t w base v X) (hb:Below w.heap.size w w'):OwnK K t w' base v X:=
 ⟨h.own.kept (row:=none) ⟨hb.os,hb.tape,hb.output,hb.size,fun k hk _=>hb.block k hk⟩ (by cases v.ownBlock<;>simp),fun x hx=>K.below (h.ok x hx) hb (Nat.le_refl _),h.off⟩
theorem OwnK.rows {α:Type} {K:Kin α} {w:World} {X:List α} {t:TypeId} {base:Nat} {v:Value} (h:OwnK K t w base v X):∃ a c,v=.slice a X.length c∧Rows' K w a X.length c X∧∀ y,a=some y→base≤y.block:=by
 rcases h.own.2 with ⟨rfl,h0⟩|⟨g,cap,cur,rfl,hb,hg,hn,hm,hs,hc⟩
 ·rw [List.length_eq_zero_iff] at h0
  subst h0
  exact ⟨none,0,rfl,Rows'.none w,fun y e=>by cases e⟩
 ·refine ⟨_,cap,rfl,?_,fun x e=>by cases e;exact hb⟩
  refine ⟨rfl,hn,by simp [maxLen] at hm;omega,fun e=>(by cases e),.inr ⟨g,0,rfl,(Array.getElem?_eq_some_iff.1 hg).1,fun i x hx j v hv=>?_⟩,h.ok⟩
  have hr:=Kin.cells_get X i x hx j v hv
  have hl:=(List.getElem?_eq_some_iff.1 hr).1
  rw [Kin.cells_len] at hl
  rw [← hc,List.getElem?_take,if_pos (by omega)] at hr
  rw [cell_of_row w g _ _ _ _ hg,Nat.zero_add]
  simpa using hr
theorem grown_but' {w:World} {w':World} {row:Option Nat} {g:Nat} (h:w.grownBy w' row) (hr:row=some g) (hg:g≤w.heap.size):But g w w':=by
 subst hr
 exact ⟨⟨h.os,h.tape,h.output,h.size,fun k hk=>h.block k (by omega) (by simp;omega)⟩,h.size,fun q hq hne=>h.cell_far q hq (fun e=>hne (by cases e;rfl))⟩
theorem Kin.grown {α:Type} {K:Kin α} {w:World} {w':World} {row:Option Nat} {x:α} (h:K.ok w x) (hg:w.grownBy w' row) (hr:∀ g,row=some g→g≤w.heap.size∧K.off g x):K.ok w' x:=by
 cases row with
 |none=>exact K.below h ⟨hg.os,hg.tape,hg.output,hg.size,fun k hk=>hg.block k hk (by simp)⟩ (Nat.le_refl _)
 |some g=>exact K.but h (grown_but' hg rfl (hr g rfl).1) (hr g rfl).2
theorem OwnK.snoc {α:Type} {K:Kin α} {w:World} {w':World} {X:List α} {t:TypeId} {base:Nat} {v:Value} {x:α} {g cap:Nat} (h:OwnK K t w base v X) (hx:K.ok w x) (ho:∀ g,v.ownBlock=some g→K.off g x)
  (hown:w'.ownsRow base t K.k (.slice (some ⟨g,0,.none⟩) (X.length + 1) cap) (X.length + 1) (K.cells X++K.cs x)) (hg:w.grownBy w' v.ownBlock) (hat:v.ownBlock=some g∨g=w.heap.size) :
  OwnK K t w' base (.slice (some ⟨g,0,.none⟩) (X.length + 1) cap) (X++[x]):=by
 have all:∀ y∈X++[x],K.ok w y∧(∀ k,v.ownBlock=some k→K.off k y):=by
  intro y hy
  rcases List.mem_append.1 hy with hy|hy
  ·exact ⟨h.ok y hy,h.off y hy⟩
  ·obtain rfl:y=x:=by simpa using hy
   exact ⟨hx,ho⟩
 have hlt:=h.own.lt
 refine ⟨by rw [List.length_append,Kin.cells_app,show K.cells [x]=K.cs x by simp [Kin.cells]];exact hown,fun y hy=>?_,fun y hy k e=>?_⟩
 ·exact Kin.grown (all y hy).1 hg fun k e=>⟨by have:=hlt k e;omega,(all y hy).2 k e⟩
 ·obtain rfl:g=k:=by simpa [Value.ownBlock] using e
  rcases hat with hat|rfl
  ·exact (all y hy).2 _ hat
  ·exact K.far (all y hy).1 (Nat.le_refl _)
theorem Rows'.of_lay {α:Type} {K:Kin α} {w:World} {g n:Nat} {X:List α} (h:Lay w g (K.cells X)) (hok:∀ x∈X,K.ok w x) (hn:X.length=n) (hm:n≤9223372036854775807):Rows' K w (some ⟨g,0,.none⟩) n n X:=by
 subst hn
 refine ⟨rfl,Nat.le_refl _,hm,fun e=>(by cases e),.inr ⟨g,0,rfl,h.lt,fun i y hy j v hv=>?_⟩,hok⟩
 have:=h.cell _ _ (Kin.cells_get X i y hy j v hv)
 simpa using this
end Go.Proofs.YtabafikicbkkdaaGreatDoor
namespace Go.Proofs.YtabafikicbkkdaaGreatDoor
open Go.RowKit
set_option linter.unusedVariables false
set_option maxRecDepth 100000
set_option linter.unusedSimpArgs false
theorem next_right {h:PH} {r:PR} (k:(nextH h r).2.2=0):checkH (nextH h r).1=0:=by
 obtain ⟨h1,h2,h3⟩:=nextH_ok k
 obtain ⟨hd,hl,hx⟩:=checkH_ok h1
 obtain ⟨i,hi,hi3⟩:=rec_who h2
 obtain ⟨_,hs,hc⟩:=checkR_facts h2
 rcases h3 with ⟨e,q⟩|⟨e,q⟩
 ·rw [q]
  exact h1
 ·rw [q]
  have hr:=done_right (c:=r.c) hd hi3 hc
  rw [← hi] at hr
  refine checkH_mk hr.desk (by simp [hl]) (fun x hx'=>?_)
  rcases List.mem_or_eq_of_mem_set hx' with m|rfl
  ·exact hx x m
  ·unfold checkL
   rw [if_neg (by simp [inB];omega),if_neg (by simp [hr.ans]),if_neg (by rintro ⟨q,_⟩;simp at q;omega)]
theorem next_stands {h:PH} {r:PR} (k:(nextH h r).2.2=0):checkH (nextH h r).1=0∧checkR r=0∧lastH (nextH h r).1 r.w=⟨r.s,(nextH h r).2.1⟩:=by
 obtain ⟨h1,h2,h3⟩:=nextH_ok k
 obtain ⟨i,hi,hi3⟩:=rec_who h2
 refine ⟨next_right k,h2,?_⟩
 rw [hi,next_last k hi3,if_pos hi]
theorem replay_nil (h:PH):replayF h []=(h,0):=rfl
theorem replay_cons (h:PH) (r:PR) (rs:List PR):replayF h (r :: rs)=if (nextH h r).2.2≠0 then (zeroH,(nextH h r).2.2) else replayF (nextH h r).1 rs:=rfl
theorem replay_app:∀ (a b:List PR) (h:PH),(replayF h a).2=0→replayF h (a++b)=replayF (replayF h a).1 b
 |[],b,h,_=>rfl
 |r :: a,b,h,k=>by
  rw [replay_cons] at k
  split at k
  ·rename_i q;exact absurd k q
  ·rename_i q
   rw [List.cons_append,replay_cons,replay_cons,if_neg q,if_neg q]
   exact replay_app a b _ k
theorem replay_front:∀ (a b:List PR) (h:PH),(replayF h (a++b)).2=0→(replayF h a).2=0
 |[],b,h,_=>rfl
 |r :: a,b,h,k=>by
  rw [List.cons_append,replay_cons] at k
  split at k
  ·rename_i q;exact absurd k q
  ·rename_i q
   rw [replay_cons,if_neg q]
   exact replay_front a b _ k
theorem replay_right:∀ (a:List PR) (h:PH),checkH h=0→(replayF h a).2=0→checkH (replayF h a).1=0∧∀ r∈a,checkR r=0
 |[],h,hk,_=>⟨hk,by simp⟩
 |r :: a,h,hk,k=>by
  rw [replay_cons] at k
  split at k
  ·rename_i q;exact absurd k q
  ·rename_i q
   have q':(nextH h r).2.2=0:=by simpa using q
   obtain ⟨h1,h2⟩:=replay_right a _ (next_right q') k
   rw [replay_cons,if_neg q]
   refine ⟨h1,fun x hx=>?_⟩
   rcases List.mem_cons.1 hx with rfl|hx
   ·exact (nextH_ok q').2.1
   ·exact h2 x hx
theorem replay_snoc (a:List PR) (r:PR) (h:PH) (k:(replayF h (a++[r])).2=0):(replayF h a).2=0∧(nextH (replayF h a).1 r).2.2=0∧(replayF h (a++[r])).1=(nextH (replayF h a).1 r).1:=by
 have k1:=replay_front a [r] h k
 have e:=replay_app a [r] h k1
 rw [e] at k ⊢
 rw [replay_cons] at k ⊢
 split at k
 ·rename_i q;exact absurd k q
 ·rename_i q
  rw [if_neg q]
  exact ⟨k1,by simpa using q,rfl⟩
end Go.Proofs.YtabafikicbkkdaaGreatDoor
namespace Go.Proofs.YtabafikicbkkdaaGreatDoor
open Go.RowKit
set_option linter.unusedVariables false
set_option maxRecDepth 100000
set_option linter.unusedSimpArgs false
theorem sync_one {a:List PR} {r:PR} (h:∀ x∈a,checkR x=0) (hr:checkR r=0) (hl:a.length < 80):putK ⟨textL a,[]⟩ r=(⟨textL a,textL [r]⟩,0)∧syncK ⟨textL a,textL [r]⟩=(⟨textL (a++[r]),[]⟩,0):=
 ⟨putK_text (b:=[]) h (by simp) (by simpa using hl) hr,syncK_text (b:=[r]) h (by simpa using hr) (by simp;omega)⟩
end Go.Proofs.YtabafikicbkkdaaGreatDoor
namespace Go.Proofs.YtabafikicbkkdaaGreatDoor
open Go.RowKit
set_option linter.unusedVariables false
set_option maxRecDepth 100000
set_option linter.unusedSimpArgs false
structure PM where
 b:Bool
 w:Int
 s:Int
 c:PC
 a:PA
structure PW where
 h:PH
 d:PK
 u:Bool
 n:List PN
 m:List PM
structure PX where
 k:Int
 w:Int
 n:Int
 c:PC
def zeroW:PW:=⟨zeroH,zeroK,false,[],[]⟩
def freshW:PW:=⟨freshH,zeroK,true,[zeroN,zeroN,zeroN],[]⟩
def checkM (m:PM):Int:=
 if inB m.w 0 2=false∨inB m.s 1 40=false then 3
 else if m.b then (if sameC m.c zeroC=false then 4 else checkA m.a) else (if sameA m.a zeroA=false then 4 else checkC m.c)
def firstM:List PM→Int
 |[]=>0
 |x :: l=>if checkM x≠0 then checkM x else firstM l
def firstN:List PN→Int
 |[]=>0
 |x :: l=>if checkN x≠0 then checkN x else firstN l
def logW (x:PW):List PR:=if x.u then (recK x.d).2.1 else []
def checkW (x:PW):Int:=
 if x.n.length≠3 then 4 else if 30 < x.m.length then 2 else if firstM x.m≠0 then firstM x.m
 else if checkK x.d≠0 then checkK x.d else if x.u=true∧x.d.w≠[] then 4
 else if (replayH (logW x)).2≠0 then (replayH (logW x)).2 else if sameH (replayH (logW x)).1 x.h=false then 4 else firstN x.n
def postW (x:PW) (m:PM):PW:=if x.m.length < 30 then {x with m:=x.m++[m]} else x
def handW (x:PW) (j:Int):PN:=x.n.getD j.toNat zeroN
def setW (x:PW) (j:Int) (h:PN):PW:={x with n:=x.n.set j.toNat h}
def askedW (x:PW) (m:PM):PW:=
 if (nextH x.h ⟨m.w,m.s,m.c⟩).2.2≠0 then x
 else if m.s=(lastH x.h m.w).s then postW x ⟨true,m.w,m.s,zeroC,(nextH x.h ⟨m.w,m.s,m.c⟩).2.1⟩
 else if (putK x.d ⟨m.w,m.s,m.c⟩).2≠0 then x
 else if (syncK (putK x.d ⟨m.w,m.s,m.c⟩).1).2≠0 then x
 else postW {x with h:=(nextH x.h ⟨m.w,m.s,m.c⟩).1,d:=(syncK (putK x.d ⟨m.w,m.s,m.c⟩).1).1} ⟨true,m.w,m.s,zeroC,(nextH x.h ⟨m.w,m.s,m.c⟩).2.1⟩
def comesW (x:PW) (m:PM):PW×Int:=
 if m.b then (if (hearN (handW x m.w) m.s m.a).2≠0 then (zeroW,(hearN (handW x m.w) m.s m.a).2) else (setW x m.w (hearN (handW x m.w) m.s m.a).1,0))
 else if x.u=false then (zeroW,6) else (askedW x m,0)
def goneW (x:PW) (j:Nat):PW:={x with m:=x.m.eraseIdx j}
def happenW (x:PW) (e:PX):PW×Int:=
 if e.k=3∨e.k=4∨e.k=5 then
  (if e.n < 0∨(x.m.length:Int)≤e.n then (zeroW,5) else match x.m[e.n.toNat]? with
   |none=>(zeroW,5)
   |some m=>if e.k=5 then (goneW x e.n.toNat,0) else if e.k=4 then comesW x m else comesW (goneW x e.n.toNat) m)
 else if e.k=6 then (if x.u=false then (zeroW,6) else ({x with h:=freshH,u:=false},0))
 else if e.k=7 then (if x.u then (zeroW,6) else if (replayH (recK x.d).2.1).2≠0 then (zeroW,(replayH (recK x.d).2.1).2) else ({x with h:=(replayH (recK x.d).2.1).1,d:=(recK x.d).1,u:=true},0))
 else if e.k=1 then (if inB e.w 0 2=false then (zeroW,5) else if (askN (handW x e.w) e.c).2≠0 then (zeroW,(askN (handW x e.w) e.c).2)
  else (postW (setW x e.w (askN (handW x e.w) e.c).1) ⟨false,e.w,(askN (handW x e.w) e.c).1.s,(askN (handW x e.w) e.c).1.c,zeroA⟩,0))
 else if e.k=2 then (if inB e.w 0 2=false then (zeroW,5) else if (handW x e.w).w=false then (zeroW,6) else (postW x ⟨false,e.w,(handW x e.w).s,(handW x e.w).c,zeroA⟩,0))
 else (zeroW,4)
def doW (x:PW) (e:PX):PW×Int:=if checkW x≠0 then (zeroW,checkW x) else happenW x e
def runF:PW→List PX→PW×List Int
 |x,[]=>(x,[])
 |x,e :: l=>((runF (if (doW x e).2=0 then (doW x e).1 else x) l).1,(doW x e).2 :: (runF (if (doW x e).2=0 then (doW x e).1 else x) l).2)
theorem run_app:∀ (a b:List PX) (x:PW),runF x (a++b)=((runF (runF x a).1 b).1,(runF x a).2++(runF (runF x a).1 b).2)
 |[],b,x=>by simp [runF]
 |e :: a,b,x=>by
  simp only [List.cons_append,runF]
  rw [run_app a b]
theorem firstM_all:∀ {l:List PM},firstM l=0→∀ x∈l,checkM x=0
 |[],_,x,hx=>by cases hx
 |y :: l,h,x,hx=>by
  simp only [firstM] at h
  split at h
  ·rename_i q;exact absurd h q
  ·rename_i q
   rcases List.mem_cons.1 hx with rfl|hx
   ·simpa using q
   ·exact firstM_all h x hx
theorem firstN_all:∀ {l:List PN},firstN l=0→∀ x∈l,checkN x=0
 |[],_,x,hx=>by cases hx
 |y :: l,h,x,hx=>by
  simp only [firstN] at h
  split at h
  ·rename_i q;exact absurd h q
  ·rename_i q
   rcases List.mem_cons.1 hx with rfl|hx
   ·simpa using q
   ·exact firstN_all h x hx
end Go.Proofs.YtabafikicbkkdaaGreatDoor
namespace Go.Proofs.YtabafikicbkkdaaGreatDoor
open Go.RowKit
set_option linter.unusedVariables false
set_option maxRecDepth 100000
set_option linter.unusedSimpArgs false
theorem one_of {k:Nat} {f:List Value} (h:f.all (fun v=>v.oneCell')=true):∀ v∈f,v.oneCell'=true:=fun v hv=>List.all_eq_true.1 h v hv
def handK:Kin NV where
 k:=8
 cs:=NV.cells
 ok w x:=x.ok w
 off R x:=x.off R
 len _:=rfl
 one x:=one_of (k:=0) rfl
 below h _ hb hB:=h.below hb hB
 but h hb ho:=h.but hb ho
 far h hR:=h.off hR
structure MV where
 b:Bool
 w:Int
 s:Int
 c:PC
 ca:Option Addr
 cn:Nat
 cc:Nat
 x:AV
def MV.p (m:MV):PM:=⟨m.b,m.w,m.s,m.c,m.x.p⟩
def MV.cells (m:MV):List Value:=[.bool m.b,.int .i64 m.w,.int .i64 m.s,.int .i64 m.c.k,.int .i64 m.c.z,.int .i64 m.c.n,.int .i64 m.c.at',.slice m.ca m.cn m.cc,.int .i64 m.x.e,.int .i64 m.x.t,.slice m.x.a m.x.n m.x.c]
def MV.v (m:MV):Value:=.agg #[.bool m.b,.int .i64 m.w,.int .i64 m.s,.int .i64 m.c.k,.int .i64 m.c.z,.int .i64 m.c.n,.int .i64 m.c.at',.slice m.ca m.cn m.cc,.int .i64 m.x.e,.int .i64 m.x.t,.slice m.x.a m.x.n m.x.c]
structure MV.ok (w:World) (m:MV):Prop where
 c:Ints w m.ca m.cn m.cc m.c.d
 x:m.x.ok w
structure MV.off (R:Nat) (m:MV):Prop where
 c:m.cn=0∨∀ y,m.ca=some y→y.block≠R
 x:m.x.off R
def mailK:Kin MV where
 k:=11
 cs:=MV.cells
 ok w x:=x.ok w
 off R x:=x.off R
 len _:=rfl
 one x:=one_of (k:=0) rfl
 below h _ hb hB:=⟨h.c.below hb hB,AV.ok.below h.x hb hB⟩
 but h hb ho:=⟨h.c.but hb ho.c,AV.ok.but h.x hb ho.x⟩
 far h hR:=⟨Ints.offs h.c hR,AV.ok.off h.x hR⟩
structure XV where
 k:Int
 w:Int
 n:Int
 c:PC
 ca:Option Addr
 cn:Nat
 cc:Nat
def XV.p (x:XV):PX:=⟨x.k,x.w,x.n,x.c⟩
def XV.cells (x:XV):List Value:=[.int .i64 x.k,.int .i64 x.w,.int .i64 x.n,.int .i64 x.c.k,.int .i64 x.c.z,.int .i64 x.c.n,.int .i64 x.c.at',.slice x.ca x.cn x.cc]
def XV.v (x:XV):Value:=.agg #[.int .i64 x.k,.int .i64 x.w,.int .i64 x.n,.int .i64 x.c.k,.int .i64 x.c.z,.int .i64 x.c.n,.int .i64 x.c.at',.slice x.ca x.cn x.cc]
def XV.ok (w:World) (x:XV):Prop:=Ints w x.ca x.cn x.cc x.c.d
def XV.off (R:Nat) (x:XV):Prop:=x.cn=0∨∀ y,x.ca=some y→y.block≠R
def hapK:Kin XV where
 k:=8
 cs:=XV.cells
 ok w x:=x.ok w
 off R x:=x.off R
 len _:=rfl
 one x:=one_of (k:=0) rfl
 below h _ hb hB:=Ints.below h hb hB
 but h hb ho:=Ints.but h hb ho
 far h hR:=Ints.offs h hR
structure KV.off (R:Nat) (x:KV):Prop where
 s:x.n=0∨∀ y,x.a=some y→y.block≠R
 w:x.m=0∨∀ y,x.b=some y→y.block≠R
theorem KV.ok.off {w:World} {x:KV} (h:x.ok w) {R:Nat} (hR:w.heap.size≤R):x.off R:=⟨Cel.offs h.s hR,Cel.offs h.w hR⟩
theorem KV.ok.butO {w w':World} {g:Nat} {x:KV} (h:x.ok w) (hb:But g w w') (ho:x.off g):x.ok w':=⟨h.s.but hb ho.s,h.w.but hb ho.w⟩
theorem KV.ok.belowB {w w':World} {x:KV} (h:x.ok w) {B:Nat} (hb:Below B w w') (hB:w.heap.size≤B):x.ok w':=⟨h.s.below hb hB,h.w.below hb hB⟩
theorem KV.fresh.off {B R:Nat} {x:KV} (h:x.fresh B) (hR:R < B):x.off R:=⟨.inr fun y e=>by have:=h.s y e;omega,.inr fun y e=>by have:=h.w y e;omega⟩
structure WV where
 h:HV
 d:KV
 u:Bool
 na:Option Addr
 nn:Nat
 nc:Nat
 N:List NV
 ma:Option Addr
 mn:Nat
 mc:Nat
 M:List MV
def WV.p (x:WV):PW:=⟨x.h.p,x.d.p,x.u,x.N.map NV.p,x.M.map MV.p⟩
abbrev WV.cells (x:WV):List Value:=[.slice x.h.d.za x.h.d.zn x.h.d.zc,.slice x.h.d.ka x.h.d.kn x.h.d.kc,.int .i64 x.h.d.b.h,.int .i64 x.h.d.b.t,.slice x.h.a x.h.n x.h.c,.slice x.d.a x.d.n x.d.c,.slice x.d.b x.d.m x.d.d,.bool x.u,.slice x.na x.nn x.nc,.slice x.ma x.mn x.mc]
abbrev WV.v (x:WV):Value:=.agg #[.slice x.h.d.za x.h.d.zn x.h.d.zc,.slice x.h.d.ka x.h.d.kn x.h.d.kc,.int .i64 x.h.d.b.h,.int .i64 x.h.d.b.t,.slice x.h.a x.h.n x.h.c,.slice x.d.a x.d.n x.d.c,.slice x.d.b x.d.m x.d.d,.bool x.u,.slice x.na x.nn x.nc,.slice x.ma x.mn x.mc]
structure WV.ok (w:World) (x:WV):Prop where
 h:x.h.ok w
 d:x.d.ok w
 n:Rows' handK w x.na x.nn x.nc x.N
 m:Rows' mailK w x.ma x.mn x.mc x.M
structure WV.sm (x:WV):Prop where
 s:x.d.n≤140737488355328
 w:x.d.m≤140737488355328
structure WV.off (R:Nat) (x:WV):Prop where
 h:x.h.off R
 d:x.d.off R
 n:OffR handK R x.na x.nn x.N
 m:OffR mailK R x.ma x.mn x.M
def WV.new (B:Nat) (x:WV):Prop:=∀ R,R < B→x.off R
theorem WV.ok.below {w w':World} {x:WV} (k:x.ok w) {B:Nat} (hb:Below B w w') (hB:w.heap.size≤B):x.ok w':=⟨k.h.below hb hB,k.d.belowB hb hB,k.n.below hb hB,k.m.below hb hB⟩
theorem WV.ok.but {w w':World} {g:Nat} {x:WV} (k:x.ok w) (hb:But g w w') (ho:x.off g):x.ok w':=⟨k.h.but hb ho.h,k.d.butO hb ho.d,k.n.but hb ho.n,k.m.but hb ho.m⟩
theorem WV.ok.off {w:World} {x:WV} (k:x.ok w) {R:Nat} (hR:w.heap.size≤R):x.off R:=⟨k.h.off hR,k.d.off hR,k.n.off hR,k.m.off hR⟩
theorem WV.new.mono {B B':Nat} {x:WV} (k:x.new B) (hb:B'≤B):x.new B':=fun R hR=>k R (by omega)
def WV.zero:WV:=⟨HV.zero,KV.zero,false,none,0,0,[],none,0,0,[]⟩
theorem WV.zero_ok (w:World):WV.zero.ok w:=⟨HV.zero_ok w,KV.zero_ok w,Rows'.none w,Rows'.none w⟩
theorem WV.zero_p:WV.zero.p=zeroW:=rfl
theorem WV.zero_off (R:Nat):WV.zero.off R:=⟨HV.zero_off R,⟨.inl rfl,.inl rfl⟩,⟨.inl rfl,fun x hx=>(by cases hx)⟩,⟨.inl rfl,fun x hx=>(by cases hx)⟩⟩
theorem WV.zero_new (B:Nat):WV.zero.new B:=fun R _=>WV.zero_off R
theorem WV.zero_sm:WV.zero.sm:=⟨by decide,by decide⟩
def WorldNew (r:PW×Int) (w:World) (e:Ending) (w':World):Prop:=
 (∃ x:WV,e=.returned (.tuple #[x.v,.int .i64 r.2])∧x.ok w'∧x.sm∧x.new w.heap.size∧x.p=r.1)∧Below w.heap.size w w'
def WorldOf (r:PW) (w:World) (e:Ending) (w':World):Prop:=
 (∃ x:WV,e=.returned x.v∧x.ok w'∧x.sm∧x.new w.heap.size∧x.p=r)∧Below w.heap.size w w'
def RunNew (r:PW×List Int×Int) (w:World) (e:Ending) (w':World):Prop:=
 (∃ (x:WV) (a:Option Addr) (n c:Nat),e=.returned (.tuple #[x.v,.slice a n c,.int .i64 r.2.2])∧x.ok w'∧x.sm∧x.new w.heap.size∧Ints w' a n c r.2.1∧(n=0∨∀ y,a=some y→w.heap.size≤y.block)∧x.p=r.1)∧Below w.heap.size w w'
def runW (x:PW) (l:List PX):PW×List Int×Int:=if checkW x≠0 then (zeroW,[],checkW x) else if 120 < l.length then (zeroW,[],2) else ((runF x l).1,(runF x l).2,0)
theorem Lay.ten {w:World} {B:Nat} {x:WV} (h:Lay w B x.cells):w.cell? ⟨B,0,none⟩=some (.slice x.h.d.za x.h.d.zn x.h.d.zc)∧w.cell? ⟨B,1,none⟩=some (.slice x.h.d.ka x.h.d.kn x.h.d.kc)∧w.cell? ⟨B,2,none⟩=some (.int .i64 x.h.d.b.h)∧w.cell? ⟨B,3,none⟩=some (.int .i64 x.h.d.b.t)∧w.cell? ⟨B,4,none⟩=some (.slice x.h.a x.h.n x.h.c)∧w.cell? ⟨B,5,none⟩=some (.slice x.d.a x.d.n x.d.c)∧w.cell? ⟨B,6,none⟩=some (.slice x.d.b x.d.m x.d.d)∧w.cell? ⟨B,7,none⟩=some (.bool x.u)∧w.cell? ⟨B,8,none⟩=some (.slice x.na x.nn x.nc)∧w.cell? ⟨B,9,none⟩=some (.slice x.ma x.mn x.mc):=
 ⟨h.cell 0 _ rfl,h.cell 1 _ rfl,h.cell 2 _ rfl,h.cell 3 _ rfl,h.cell 4 _ rfl,h.cell 5 _ rfl,h.cell 6 _ rfl,h.cell 7 _ rfl,h.cell 8 _ rfl,h.cell 9 _ rfl⟩
abbrev WV.into (x:WV) (w:World) (B:Nat):World:=(((((((((w.setCell ⟨B,0,none⟩ (.slice x.h.d.za x.h.d.zn x.h.d.zc)).setCell ⟨B,1,none⟩ (.slice x.h.d.ka x.h.d.kn x.h.d.kc)).setCell ⟨B,2,none⟩ (.int .i64 x.h.d.b.h)).setCell ⟨B,3,none⟩ (.int .i64 x.h.d.b.t)).setCell ⟨B,4,none⟩ (.slice x.h.a x.h.n x.h.c)).setCell ⟨B,5,none⟩ (.slice x.d.a x.d.n x.d.c)).setCell ⟨B,6,none⟩ (.slice x.d.b x.d.m x.d.d)).setCell ⟨B,7,none⟩ (.bool x.u)).setCell ⟨B,8,none⟩ (.slice x.na x.nn x.nc)).setCell ⟨B,9,none⟩ (.slice x.ma x.mn x.mc)
theorem WV.put {x:WV} {w:World} {B:Nat} {a b c d e f g i j k:Value} (h:Lay w B [a,b,c,d,e,f,g,i,j,k]):Lay (x.into w B) B x.cells∧ButI B w (x.into w B):=
 ⟨(((((((((h.set 0 (.slice x.h.d.za x.h.d.zn x.h.d.zc)).set 1 (.slice x.h.d.ka x.h.d.kn x.h.d.kc)).set 2 (.int .i64 x.h.d.b.h)).set 3 (.int .i64 x.h.d.b.t)).set 4 (.slice x.h.a x.h.n x.h.c)).set 5 (.slice x.d.a x.d.n x.d.c)).set 6 (.slice x.d.b x.d.m x.d.d)).set 7 (.bool x.u)).set 8 (.slice x.na x.nn x.nc)).set 9 (.slice x.ma x.mn x.mc),((((((((((ButI.refl B w).step 0 (.slice x.h.d.za x.h.d.zn x.h.d.zc)).step 1 (.slice x.h.d.ka x.h.d.kn x.h.d.kc)).step 2 (.int .i64 x.h.d.b.h)).step 3 (.int .i64 x.h.d.b.t)).step 4 (.slice x.h.a x.h.n x.h.c)).step 5 (.slice x.d.a x.d.n x.d.c)).step 6 (.slice x.d.b x.d.m x.d.d)).step 7 (.bool x.u)).step 8 (.slice x.na x.nn x.nc)).step 9 (.slice x.ma x.mn x.mc)⟩
theorem NV.lay {w:World} {b o:Nat} {x:NV} (h:∀ j v,x.cells[j]?=some v→w.cell? ⟨b,o + j,none⟩=some v):w.cell? ⟨b,o,none⟩=some (.int .i64 x.s)∧w.cell? ⟨b,o + 1,none⟩=some (.bool x.w)∧w.cell? ⟨b,o + 2,none⟩=some (.int .i64 x.c.k)∧w.cell? ⟨b,o + 3,none⟩=some (.int .i64 x.c.z)∧w.cell? ⟨b,o + 4,none⟩=some (.int .i64 x.c.n)∧w.cell? ⟨b,o + 5,none⟩=some (.int .i64 x.c.at')∧w.cell? ⟨b,o + 6,none⟩=some (.slice x.ca x.cn x.cc)∧w.cell? ⟨b,o + 7,none⟩=some (.slice x.ga x.gn x.gc):=
 ⟨h 0 _ rfl,h 1 _ rfl,h 2 _ rfl,h 3 _ rfl,h 4 _ rfl,h 5 _ rfl,h 6 _ rfl,h 7 _ rfl⟩
theorem MV.lay {w:World} {b o:Nat} {x:MV} (h:∀ j v,x.cells[j]?=some v→w.cell? ⟨b,o + j,none⟩=some v):w.cell? ⟨b,o,none⟩=some (.bool x.b)∧w.cell? ⟨b,o + 1,none⟩=some (.int .i64 x.w)∧w.cell? ⟨b,o + 2,none⟩=some (.int .i64 x.s)∧w.cell? ⟨b,o + 3,none⟩=some (.int .i64 x.c.k)∧w.cell? ⟨b,o + 4,none⟩=some (.int .i64 x.c.z)∧w.cell? ⟨b,o + 5,none⟩=some (.int .i64 x.c.n)∧w.cell? ⟨b,o + 6,none⟩=some (.int .i64 x.c.at')∧w.cell? ⟨b,o + 7,none⟩=some (.slice x.ca x.cn x.cc)∧w.cell? ⟨b,o + 8,none⟩=some (.int .i64 x.x.e)∧w.cell? ⟨b,o + 9,none⟩=some (.int .i64 x.x.t)∧w.cell? ⟨b,o + 10,none⟩=some (.slice x.x.a x.x.n x.x.c):=
 ⟨h 0 _ rfl,h 1 _ rfl,h 2 _ rfl,h 3 _ rfl,h 4 _ rfl,h 5 _ rfl,h 6 _ rfl,h 7 _ rfl,h 8 _ rfl,h 9 _ rfl,h 10 _ rfl⟩
theorem XV.lay {w:World} {b o:Nat} {x:XV} (h:∀ j v,x.cells[j]?=some v→w.cell? ⟨b,o + j,none⟩=some v):w.cell? ⟨b,o,none⟩=some (.int .i64 x.k)∧w.cell? ⟨b,o + 1,none⟩=some (.int .i64 x.w)∧w.cell? ⟨b,o + 2,none⟩=some (.int .i64 x.n)∧w.cell? ⟨b,o + 3,none⟩=some (.int .i64 x.c.k)∧w.cell? ⟨b,o + 4,none⟩=some (.int .i64 x.c.z)∧w.cell? ⟨b,o + 5,none⟩=some (.int .i64 x.c.n)∧w.cell? ⟨b,o + 6,none⟩=some (.int .i64 x.c.at')∧w.cell? ⟨b,o + 7,none⟩=some (.slice x.ca x.cn x.cc):=
 ⟨h 0 _ rfl,h 1 _ rfl,h 2 _ rfl,h 3 _ rfl,h 4 _ rfl,h 5 _ rfl,h 6 _ rfl,h 7 _ rfl⟩
end Go.Proofs.YtabafikicbkkdaaGreatDoor
