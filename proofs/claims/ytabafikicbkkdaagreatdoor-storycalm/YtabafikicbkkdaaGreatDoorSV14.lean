/- Lists of structs that a call lays anew, one after the other; plain mathematics, no condition. -/
import Derived.Test.YtabafikicbkkdaaGreatDoorSV11
import Derived.Test.YtabafikicbkkdaaGreatDoorSV1
import Derived.Test.YtabafikicbkkdaaGreatDoorSV3
import Derived.Test.YtabafikicbkkdaaGreatDoorSV2
import Derived.Test.YtabafikicbkkdaaGreatDoorSV10
import Derived.Deep.RegionHeld3
import Derived.Test.YtabafikicbkkdaaGreatDoorSV8
namespace Go.Proofs.YtabafikicbkkdaaGreatDoor
open Go.RowKit
set_option linter.unusedVariables false
set_option maxHeartbeats 4000000
set_option maxRecDepth 100000
set_option linter.unusedSimpArgs false
def putAll (w:World) (g:Nat):Nat→List Value→World
 |_,[]=>w
 |o,v :: r=>putAll (w.setCell ⟨g,o,none⟩ v) g (o + 1) r
def setAll {β:Type} (L:List β):Nat→List β→List β
 |_,[]=>L
 |o,v :: r=>setAll (L.set o v) (o + 1) r
theorem putAll_but (g:Nat):∀ (vs:List Value) (w:World) (o:Nat),ButI g w (putAll w g o vs)
 |[],w,o=>ButI.refl g w
 |v :: r,w,o=>((ButI.refl g w).step o v).trans (putAll_but g r _ (o + 1))
theorem putAll_lay {g:Nat} : ∀ (vs:List Value) {w:World} {L:List Value} (o:Nat),Lay w g L→Lay (putAll w g o vs) g (setAll L o vs)
 |[],_,_,_,h=>h
 |v :: r,_,_,o,h=>putAll_lay r (o + 1) (h.set o v)
theorem putAll_row {g:Nat} {t:TypeId} {n:Nat} : ∀ (vs:List Value) {w:World} (o:Nat),(∃ cur:Array Value,w.heap[g]?=some (.cells cur t (0,0))∧cur.size=n)→∃ cur:Array Value,(putAll w g o vs).heap[g]?=some (.cells cur t (0,0))∧cur.size=n
 |[],_,_,h=>h
 |v :: r,w,o,⟨cur,e,k⟩=>putAll_row r (o + 1) ⟨_,heap_setCell_same _ _ _ _ _ _ e,by simpa using k⟩
theorem setAll_app {β:Type} : ∀ (vs P A R:List β),A.length=vs.length→setAll (P++(A++R)) P.length vs=P++(vs++R)
 |[],P,A,R,h=>by
  have:A=[]:=List.eq_nil_of_length_eq_zero h
  subst this
  rfl
 |v :: r,P,[],R,h=>by cases h
 |v :: r,P,a :: A,R,h=>by
  have e:(P++(a :: A++R)).set P.length v=(P++[v])++(A++R):=by simp
  have:=setAll_app r (P++[v]) A R (by simpa using h)
  rw [List.length_append] at this
  rw [setAll,e,show P.length + 1=P.length + [v].length from rfl,this]
  simp
theorem setAll_all {β:Type} (A vs:List β) (h:A.length=vs.length):setAll A 0 vs=vs:=by
 have:=setAll_app vs [] A [] h
 simpa using this
theorem Lay.fill {w:World} {g:Nat} {L:List Value} (h:Lay w g L) {vs:List Value} (e:L.length=vs.length):Lay (putAll w g 0 vs) g vs:=by
 have:=putAll_lay vs 0 h
 rwa [setAll_all L vs e] at this
theorem Kin.cells_put {α:Type} {K:Kin α} (X:List α) (i:Nat) (x:α) (h:i < X.length):setAll (K.cells X) (i * K.k) (K.cs x)=K.cells (X.set i x):=by
 have e:K.cells X=K.cells (X.take i)++(K.cs X[i]++K.cells (X.drop (i + 1))):=by
  rw [← Kin.cells_cons,← Kin.cells_app,← List.drop_eq_getElem_cons h,List.take_append_drop]
 have e2:K.cells (X.set i x)=K.cells (X.take i)++(K.cs x++K.cells (X.drop (i + 1))):=by
  rw [← Kin.cells_cons,← Kin.cells_app,List.set_eq_take_append_cons_drop,if_pos h]
 have l:(K.cells (X.take i)).length=i * K.k:=by rw [Kin.cells_len,List.length_take,Nat.min_eq_left (by omega)]
 rw [e,e2,← l]
 exact setAll_app _ _ _ _ (by rw [K.len,K.len])
theorem MineR.put {α:Type} {K:Kin α} {t:TypeId} {w:World} {g:Nat} {X:List α} (h:MineR K t w g X) {i:Nat} (hi:i < X.length) {x:α} (hx:K.ok w x) (hn:∀ y∈X,K.off g y) (ho:K.off g x) :
  MineR K t (putAll w g (i * K.k) (K.cs x)) g (X.set i x):=by
 have hb:=putAll_but g (K.cs x) w (i * K.k)
 refine ⟨by rw [← Kin.cells_put X i x hi];exact putAll_lay _ _ h.lay,fun z hz=>?_,by rw [List.length_set];exact putAll_row _ _ h.row⟩
 rcases List.mem_or_eq_of_mem_set hz with hz|rfl
 ·exact K.but (h.ok z hz) hb.but (hn z hz)
 ·exact K.but hx hb.but ho
theorem take_setK {α β:Type} {p:α→β} {X X':List α} {k:Nat} {z u:α} (hz:X[k]?=some z) (hk:k < X'.length) (h:(X'.take k).map p=(X.take k).map p) (hu:p u=p z):((X'.set k u).take (k + 1)).map p=(X.take (k + 1)).map p:=by
 obtain ⟨g1,g2⟩:=List.getElem?_eq_some_iff.1 hz
 rw [List.take_succ_eq_append_getElem g1,List.take_succ_eq_append_getElem (by simpa using hk),List.map_append,List.map_append,List.take_set_of_le (Nat.le_refl k),h,g2]
 simp [hu]
theorem Kin.made {α:Type} (K:Kin α) (z:α) (zs:Array Value) (hz:zs.toList=K.cs z) (hk:0 < K.k) (n:Nat):madeCells zs (n * K.k)=(K.cells (List.replicate n z)).toArray:=by
 have hs:zs.size=K.k:=by rw [← Array.length_toList,hz,K.len]
 apply Array.ext_getElem?
 intro i
 have e:(K.cells (List.replicate n z)).toArray[i]?=(K.cells (List.replicate n z))[i]?:=by simp
 rw [e]
 by_cases h:i < n * K.k
 ·have h1:i / K.k < n:=Nat.div_lt_of_lt_mul (by rw [Nat.mul_comm];exact h)
  have hm:=Nat.mod_lt i hk
  have h2:(K.cs z)[i % K.k]?=some zs[i % K.k]!:=by
   rw [← hz,Array.getElem?_toList,getElem!_pos zs _ (by rw [hs];exact hm)]
   simp [hs,hm]
  have:=Kin.cells_get (K:=K) (List.replicate n z) (i / K.k) z (by rw [List.getElem?_replicate,if_pos h1]) _ _ h2
  rw [Nat.mul_comm,Nat.div_add_mod] at this
  rw [this]
  simp [madeCells,h,hs]
 ·rw [Array.getElem?_eq_none (by rw [size_madeCells];omega),List.getElem?_eq_none (by rw [Kin.cells_len];simp;omega)]
theorem mkR {α:Type} (K:Kin α) {P:Program} (z:α) {zs:Array Value} {ts t:TypeId} {i:TypeInfo} {v:Value} (hu:P.underlying ts=some (.slice t)) (hi:P.info? t=some i) (hz:i.zero=some v) (hv:v.cells=zs) (hc:zs.toList=K.cs z) (hs:i.size=K.k) (hb:i.bytes≤1000) (hk:0 < K.k) (n:Nat) (hn:n≤1000000) (w:World) :
  (Instr.makeSlice ts (.int .i64 (n:Int)) (.int .i64 (n:Int))).run P w=.ok (.slice (some ⟨w.heap.size,0,none⟩) n n) (w.alloc (.cells (K.cells (List.replicate n z)).toArray t)):=by
 have hr:=run_make (P:=P) w ts t i _ hu hi hz .i64 .i64 (n:Int) (n:Int) (by omega) (Int.le_refl _) (by rw [← Int.natCast_mul];exact Int.le_trans (Int.ofNat_le.2 (Nat.mul_le_mul hb hn)) (by decide)) (by omega)
 simp only [Int.toNat_natCast,hs] at hr
 rw [hr,hv,Kin.made K z zs hc hk]
theorem MineR.made {α:Type} (K:Kin α) (t:TypeId) (z:α) (hz:∀ w,K.ok w z) (n:Nat) (w:World):MineR K t (w.alloc (.cells (K.cells (List.replicate n z)).toArray t (0,0))) w.heap.size (List.replicate n z):=
 ⟨Lay.made w _ _,fun y hy=>by rw [List.eq_of_mem_replicate hy];exact hz _,⟨_,heap_new w _,by simp [Kin.cells_len]⟩⟩
structure NewK {α:Type} (K:Kin α) where
 new:Nat→α→Prop
 off:∀ {B R:Nat} {y:α},new B y→R < B→K.off R y
 mono:∀ {B B':Nat} {y:α},new B y→B'≤B→new B' y
 zero:α
 zero_new:∀ B,new B zero
 zero_ok:∀ w,K.ok w zero
abbrev Copied {α β:Type} (K:Kin α) (t:TypeId) (p:α→β) (N:NewK K) (w:World) (n:Nat) (X:List α) (e:Ending) (w':World):Prop:=
 (∃ (g:Nat) (Y:List α),e=.returned (.slice (some ⟨g,0,none⟩) n n)∧MineR K t w' g Y∧Y.length=n∧Y.map p=X.map p∧w.heap.size≤g∧∀ y∈Y,N.new (g + 1) y)∧Below w.heap.size w w'
abbrev Copy1 {α β:Type} (K:Kin α) (v:α→Value) (p:α→β) (N:NewK K) (x:α) (w:World) (e:Ending) (w':World):Prop:=
 (∃ y,e=.returned (v y)∧K.ok w' y∧N.new w.heap.size y∧p y=p x)∧Below w.heap.size w w'
theorem MineR.at {α:Type} {K:Kin α} {t:TypeId} {w:World} {g:Nat} {X:List α} (h:MineR K t w g X) {i j:Nat} (hi:i < X.length) (hj:j < K.k):∃ u,w.cell? ⟨g,i * K.k + j,none⟩=some u:=by
 have hl:j < (K.cs X[i]).length:=by rw [K.len];exact hj
 exact ⟨_,h.lay.cell _ _ (Kin.cells_get X i X[i] (List.getElem?_eq_getElem hi) j _ (List.getElem?_eq_getElem hl))⟩
theorem putAll_heap (g k:Nat) (h:k≠g):∀ (vs:List Value) (w:World) (o:Nat),(putAll w g o vs).heap[k]?=w.heap[k]?
 |[],_,_=>rfl
 |v :: r,w,o=>by rw [putAll,putAll_heap g k h r,heap_setCell_other _ _ _ _ h]
theorem MineR.away {α:Type} {K:Kin α} {t:TypeId} {w:World} {g k:Nat} {X:List α} (h:MineR K t w g X) (vs:List Value) (o:Nat) (hk:k≠g) (ho:∀ y∈X,K.off k y):MineR K t (putAll w k o vs) g X:=
 ⟨h.lay.butI (putAll_but k vs w o) (fun e=>hk e.symm),fun y hy=>K.but (h.ok y hy) (putAll_but k vs w o).but (ho y hy),by obtain ⟨cur,e,z⟩:=h.row;exact ⟨cur,by rw [putAll_heap k g (fun e=>hk e.symm)];exact e,z⟩⟩
end Go.Proofs.YtabafikicbkkdaaGreatDoor
namespace Go.Proofs.YtabafikicbkkdaaGreatDoor
open Go.RowKit
set_option linter.unusedVariables false
set_option maxHeartbeats 4000000
set_option maxRecDepth 100000
set_option linter.unusedSimpArgs false
theorem Lay.of_row {w:World} {q:Nat} {L:List Value} {t:TypeId} (h:w.heap[q]?=some (.cells L.toArray t (0,0))):Lay w q L:=
 ⟨fun i v hv=>by rw [cell_of_row w q _ _ t _ h];simpa using hv,fun j=>by simp [World.frozen?,h],(Array.getElem?_eq_some_iff.1 h).1⟩
theorem plistL_c (a:Option Addr) (n c:Nat) (l:List Int) (w:World) (h:Ints w a n c l) (hn:n≤100000) :
  Calls Tryz.prog 85 #[.slice a n c] w fun e w'=>(∃ q,e=.returned (.slice (some ⟨q,0,none⟩) n n)∧Ints w' (some ⟨q,0,none⟩) n n l∧w.heap.size≤q∧Lay w' q (cellsOf l))∧Below w.heap.size w w':=by
 have n2:(n:Int)≤100000:=by omega
 have hmk:=run_make_row' (P:=Tryz.prog) 26 3 (.int .i64 0) 8 Tryz.underlying26 infoInt rfl .i64 .i64 n (by omega) (by omega)
 go_enter Tryz.func85,Tryz.ntmps85
 go_wp2_with fail
 obtain ⟨w2,r2,g2,b2⟩:=copy_run (P:=Tryz.prog) (w.alloc (.cells (madeCells #[.int .i64 0] n) 3)) 26 26 3 3 Tryz.underlying26 sizeInt (some ⟨w.heap.size,0,none⟩) a n n n c w.heap.size 0
  (madeCells #[.int .i64 0] n).toList 3 (heap_new _ _) (cellsOf l) (by rw [cellsOf_len,h.len];exact (Nat.min_self n).symm) (fun hp=>⟨rfl,(h.below (B:=w.heap.size) (by (repeat first|exact bel0|assumption|refine bel1 ?_|refine bel2 ?_|refine bel3 ?_|refine belowT ?_ (by assumption)|refine bel5 ?_ (by simp;try omega))) (Nat.le_refl _)).src (by rw [cellsOf_len,h.len] at hp;exact hp)⟩) (by simp [size_madeCells,cellsOf_len,h.len]) (cellsOf_one l)
 rw [r2]
 have G2:=hide g2
 clear g2 r2
 go_wp2
 go_ret
 have g2:=G2.out
 rw [splice_one _ _ (by simp [size_madeCells,cellsOf_len,h.len])] at g2
 exact ⟨⟨_,rfl,Ints.of_row g2 (by rw [h.len];omega) h.wf h.len,Nat.le_refl _,Lay.of_row g2⟩,(belowA (Below.refl _ _) _).trans b2⟩
theorem plist_c (a:Option Addr) (n c:Nat) (l:List Int) (w:World) (h:Ints w a n c l) (hn:n≤100000) :
  Calls Tryz.prog 85 #[.slice a n c] w fun e w'=>(∃ q,e=.returned (.slice (some ⟨q,0,none⟩) n n)∧Ints w' (some ⟨q,0,none⟩) n n l∧w.heap.size≤q∧q < w'.heap.size)∧Below w.heap.size w w':=
 (plistL_c a n c l w h hn).mono fun e w' ⟨⟨q,h1,h2,h3,h4⟩,h5⟩=>⟨⟨q,h1,h2,h3,h4.lt⟩,h5⟩
end Go.Proofs.YtabafikicbkkdaaGreatDoor
namespace Go.Proofs.YtabafikicbkkdaaGreatDoor
open Go.RowKit
set_option linter.unusedVariables false
set_option maxHeartbeats 4000000
set_option maxRecDepth 100000
set_option linter.unusedSimpArgs false
theorem two_boxes (w:World) (D A:List Value) (s t:TypeId):Lay ((w.alloc (.cells D.toArray s)).alloc (.cells A.toArray t)) w.heap.size D∧Lay ((w.alloc (.cells D.toArray s)).alloc (.cells A.toArray t)) (w.heap.size + 1) A∧Below w.heap.size w ((w.alloc (.cells D.toArray s)).alloc (.cells A.toArray t)):=
 ⟨(Lay.made w D s).below (belowA (Below.refl _ _) _),Lay.made1 w _ A t,by (repeat first|exact bel0|assumption|refine bel1 ?_|refine bel2 ?_|refine bel3 ?_|refine belowT ?_ (by assumption)|refine bel5 ?_ (by simp;try omega))⟩
end Go.Proofs.YtabafikicbkkdaaGreatDoor
namespace Go.Proofs.YtabafikicbkkdaaGreatDoor
open Go.RowKit
set_option linter.unusedVariables false
set_option maxHeartbeats 4000000
set_option maxRecDepth 100000
set_option linter.unusedSimpArgs false
theorem three_boxes (w:World) (H R G:List Value) (s t u:TypeId) :
  Lay (((w.alloc (.cells H.toArray s)).alloc (.cells R.toArray t)).alloc (.cells G.toArray u)) w.heap.size H∧Lay (((w.alloc (.cells H.toArray s)).alloc (.cells R.toArray t)).alloc (.cells G.toArray u)) (w.heap.size + 1) R∧Lay (((w.alloc (.cells H.toArray s)).alloc (.cells R.toArray t)).alloc (.cells G.toArray u)) (w.heap.size + 1 + 1) G∧Below w.heap.size w (((w.alloc (.cells H.toArray s)).alloc (.cells R.toArray t)).alloc (.cells G.toArray u)):=by
 have h0:=(Lay.made w H s).below (belowA (belowA (Below.refl _ _) (.cells R.toArray t)) (.cells G.toArray u))
 have h1:=(Lay.made1 w (.cells H.toArray s) R t).below (belowA (Below.refl _ _) (.cells G.toArray u))
 have h2:=Lay.made1 (w.alloc (.cells H.toArray s)) (.cells R.toArray t) G u
 simp only [World.size_alloc] at h2
 exact ⟨h0,h1,h2,by (repeat first|exact bel0|assumption|refine bel1 ?_|refine bel2 ?_|refine bel3 ?_|refine belowT ?_ (by assumption)|refine bel5 ?_ (by simp;try omega))⟩
end Go.Proofs.YtabafikicbkkdaaGreatDoor
namespace Go.Proofs.YtabafikicbkkdaaGreatDoor
open Go.RowKit
set_option linter.unusedVariables false
set_option maxHeartbeats 4000000
set_option maxRecDepth 100000
set_option linter.unusedSimpArgs false
theorem pwholeA_c (x:AV) (w:World) (h:x.ok w) (hn:x.n≤100000) :
  Calls Tryz.prog 61 #[x.v] w fun e w'=>(∃ q,e=.returned (.agg #[.int .i64 x.e,.int .i64 x.t,.slice (some ⟨q,0,none⟩) x.n x.n])∧Ints w' (some ⟨q,0,none⟩) x.n x.n x.d∧w.heap.size≤q∧q < w'.heap.size)∧Below w.heap.size w w':=by
 obtain ⟨ee,tt,a,n,c,l⟩:=x
 have hI:Ints w a n c l:=h
 dsimp only [AV.v] at *
 obtain ⟨x0,x1,x2,bw⟩:=three_boxes w [.int .i64 ee,.int .i64 tt,.slice a n c] [.int .i64 0,.int .i64 0,.slice none 0 0] [.int .i64 ee,.int .i64 tt,.slice a n c] 56 56 56
 replace hI:=hI.below bw (Nat.le_refl _)
 go_enter Tryz.func61,Tryz.ntmps61
 go_upto_region 2 with fail
 generalize ((w.alloc (.cells [.int .i64 ee,.int .i64 tt,.slice a n c].toArray 56)).alloc (.cells [.int .i64 0,.int .i64 0,.slice none 0 0].toArray 56)).alloc (.cells [.int .i64 ee,.int .i64 tt,.slice a n c].toArray 56)=w1 at *
 have c2:=x0.cell 2 _ rfl
 go_wp2_with fail
 refine (plist_c a n c l _ hI hn).mono ?_
 rintro e w2 ⟨⟨q,rfl,iq,hq,hq2⟩,hb2⟩
 have hqw:w.heap.size + 1 + 1 < q:=by have:=x2.lt;omega
 clear c2 hq x0
 replace x1:=x1.below hb2
 replace x2:=x2.below hb2
 replace bw:=belowT bw hb2
 clear hb2
 have e2:=x2.cell 2 _ rfl
 have f2:=x2.ice 2
 go_upto_region 3 with fail
 have hbu:=(ButI.refl (w.heap.size + 1 + 1) w2).step 2 (.slice (some ⟨q,0,none⟩) n n)
 have y2:Lay _ _ [.int .i64 ee,.int .i64 tt,.slice (some ⟨q,0,none⟩) n n]:=x2.set 2 (.slice (some ⟨q,0,none⟩) n n)
 have xR:=x1.butI hbu (by omega)
 replace iq:=iq.but hbu.but (.inr fun x e=>by cases e;simp;omega)
 replace bw:=bw.trans (hbu.below (B:=w.heap.size) (by omega))
 have hsz:=hbu.but.size
 clear e2 f2 x2 x1 hbu
 generalize w2.setCell ⟨w.heap.size + 1 + 1,2,none⟩ (.slice (some ⟨q,0,none⟩) n n)=w3 at *
 have a0:=y2.cell 0 _ rfl
 have a1:=y2.cell 1 _ rfl
 have a2:=y2.cell 2 _ rfl
 have e0:=xR.cell 0 _ rfl
 have e1:=xR.cell 1 _ rfl
 have e2:=xR.cell 2 _ rfl
 have f0:=xR.ice 0
 have f1:=xR.ice 1
 have f2:=xR.ice 2
 go_wp2
 have zB:=((xR.set 0 (.int .i64 (ee))).set 1 (.int .i64 (tt))).set 2 (.slice (some ⟨q,0,none⟩) n n)
 have hbut:=(((ButI.refl (w.heap.size + 1) (w3)).step 0 (.int .i64 (ee))).step 1 (.int .i64 (tt))).step 2 (.slice (some ⟨q,0,none⟩) n n)
 generalize (((w3).setCell ⟨w.heap.size + 1,0,none⟩ (.int .i64 (ee))).setCell ⟨w.heap.size + 1,1,none⟩ (.int .i64 (tt))).setCell ⟨w.heap.size + 1,2,none⟩ (.slice (some ⟨q,0,none⟩) n n)=w9 at *
 have z0:=zB.cell 0 _ rfl
 have z1:=zB.cell 1 _ rfl
 have z2:=zB.cell 2 _ rfl
 exact bodyPost_ret (v:=.agg #[.int .i64 ee,.int .i64 tt,.slice (some ⟨q,0,none⟩) n n]) (by simp [results,Tryz.results61,go_sem,z0,z1,z2]) rfl
  ⟨⟨q,rfl,iq.but hbut.but (.inr fun x e=>by cases e;simp;omega),by omega,by have:=hbut.but.size;omega⟩,bw.trans (hbut.below (B:=w.heap.size) (by omega))⟩
theorem psameA_c (x y:AV) (w:World) (hx:x.ok w) (hy:y.ok w):Calls Tryz.prog 44 #[x.v,y.v] w fun e w'=>e=.returned (.bool (sameA x.p y.p))∧Below w.heap.size w w':=by
 obtain ⟨e1,t1,a1,n1,c1,l1⟩:=x
 obtain ⟨e2,t2,a2,n2,c2,l2⟩:=y
 dsimp only [AV.v,AV.p]
 have h1:Ints w a1 n1 c1 l1:=hx
 have h2:Ints w a2 n2 c2 l2:=hy
 have HS:Hid (sameA ⟨e1,t1,l1⟩ ⟨e2,t2,l2⟩=(e1==e2&&(t1==t2&&decide (l1=l2)))):=hide (by rw [Bool.eq_iff_iff];simp [sameA])
 cases he:e1==e2
 ·go_enter Tryz.func44,Tryz.ntmps44
  go_wp2
  go_ret
  exact ⟨ret_bool (by rw [HS.out,he];rfl),by (repeat first|exact bel0|assumption|refine bel1 ?_|refine bel2 ?_|refine bel3 ?_|refine belowT ?_ (by assumption)|refine bel5 ?_ (by simp;try omega))⟩
 ·cases ht:t1==t2
  ·go_enter Tryz.func44,Tryz.ntmps44
   go_wp2
   go_ret
   exact ⟨ret_bool (by rw [HS.out,he,ht];rfl),by (repeat first|exact bel0|assumption|refine bel1 ?_|refine bel2 ?_|refine bel3 ?_|refine belowT ?_ (by assumption)|refine bel5 ?_ (by simp;try omega))⟩
  ·go_enter Tryz.func44,Tryz.ntmps44
   go_wp2_with fail
   refine (Equal_c a1 a2 n1 n2 c1 c2 l1 l2 _ (h1.below (B:=w.heap.size) (by (repeat first|exact bel0|assumption|refine bel1 ?_|refine bel2 ?_|refine bel3 ?_|refine belowT ?_ (by assumption)|refine bel5 ?_ (by simp;try omega))) (Nat.le_refl _)) (h2.below (B:=w.heap.size) (by (repeat first|exact bel0|assumption|refine bel1 ?_|refine bel2 ?_|refine bel3 ?_|refine belowT ?_ (by assumption)|refine bel5 ?_ (by simp;try omega))) (Nat.le_refl _))).mono ?_
   rintro e w1 ⟨rfl,q,rfl⟩
   go_wp2
   go_ret
   exact ⟨ret_bool (by rw [HS.out,he,ht];simp),by (repeat first|exact bel0|assumption|refine bel1 ?_|refine bel2 ?_|refine bel3 ?_|refine belowT ?_ (by assumption)|refine bel5 ?_ (by simp;try omega))⟩
end Go.Proofs.YtabafikicbkkdaaGreatDoor
namespace Go.Proofs.YtabafikicbkkdaaGreatDoor
open Go.RowKit
set_option linter.unusedVariables false
set_option maxHeartbeats 4000000
set_option maxRecDepth 100000
set_option linter.unusedSimpArgs false
abbrev ZV.v (z:ZV):Value:=.agg #[.int .i64 z.s,.slice z.a z.n z.c]
def zoneK:Kin ZV where
 k:=2
 cs z:=[.int .i64 z.s,.slice z.a z.n z.c]
 ok w z:=z.ok w
 off R z:=z.off R
 len _:=rfl
 one x:=fun v hv=>List.all_eq_true.1 (show ([.int .i64 x.s,.slice x.a x.n x.c]:List Value).all (fun v=>v.oneCell')=true from rfl) v hv
 below h _ hb hB:=Ints.below h hb hB
 but h hb ho:=Ints.but h hb ho
 far h hR:=Ints.offs h hR
def zoneN:NewK zoneK where
 new B z:=∀ x,z.a=some x→B≤x.block
 off h hR:=.inr fun x e=>by have:=h x e;omega
 mono h hb:=fun x e=>Nat.le_trans hb (h x e)
 zero:=⟨0,none,0,0,[]⟩
 zero_new _:=fun x e=>by cases e
 zero_ok w:=Ints.nilSlice w
theorem ZV.lay {w:World} {b o:Nat} {z:ZV} (h:∀ j v,(zoneK.cs z)[j]?=some v→w.cell? ⟨b,o + j,none⟩=some v):w.cell? ⟨b,o,none⟩=some (.int .i64 z.s)∧w.cell? ⟨b,o + 1,none⟩=some (.slice z.a z.n z.c):=
 ⟨h 0 _ rfl,h 1 _ rfl⟩
theorem Zones.rows' {w:World} {a:Option Addr} {n c:Nat} {Z:List ZV} (h:Zones w a n c Z):Rows' zoneK w a n c Z:=by
 refine ⟨h.len,h.le,h.max,h.nil,?_,h.ok⟩
 rcases h.row with h0|⟨b,off,ha,hlt,hc⟩
 ·exact .inl h0
 ·refine .inr ⟨b,off,ha,hlt,fun i x hx j v hv=>?_⟩
  obtain ⟨h1,h2⟩:=hc i x hx
  match j,hv with
  |0,hv=>cases hv;exact h1
  |1,hv=>cases hv;exact h2
theorem MineR.mine {t:TypeId} {w:World} {g n:Nat} {Z:List ZV} (h:MineR zoneK t w g Z) (hn:Z.length=n) (hm:n≤9223372036854775807) (ho:∀ z∈Z,zoneN.new (g + 1) z):Mine w g g n n Z:=by
 have hc:∀ i z,Z[i]?=some z→w.cell? ⟨g,i * 2,none⟩=some (.int .i64 z.s)∧w.cell? ⟨g,i * 2 + 1,none⟩=some (.slice z.a z.n z.c):=fun i z hz=>
  ⟨h.lay.cell _ _ (Kin.cells_get Z i z hz 0 _ rfl),h.lay.cell _ _ (Kin.cells_get Z i z hz 1 _ rfl)⟩
 exact ⟨⟨hn,Nat.le_refl _,hm,fun e=>(by cases e),.inr ⟨g,0,rfl,h.lay.lt,fun i z hz=>by simpa using hc i z hz⟩,h.ok⟩,Nat.le_refl _,h.lay.lt,hc,fun j _=>h.lay.ice j,fun z hz=>zoneN.off (ho z hz) (by omega)⟩
theorem pzone_c (z:ZV) (w:World) (h:z.ok w) (hn:z.n≤100000):Calls Tryz.prog 132 #[z.v] w (Copy1 zoneK ZV.v ZV.p zoneN z w):=by
 obtain ⟨s,a,n,c,l⟩:=z
 have hI:Ints w a n c l:=h
 dsimp only [ZV.v] at *
 have xR:=Lay.made1 w (.cells #[.int .i64 s,.slice a n c] 68) [.int .i64 0,.slice none 0 0] 68
 go_enter Tryz.func132,Tryz.ntmps132
 go_upto_region 1 with fail
 go_region_held3 (fun w'=>w'.cell? ⟨w.heap.size,0,none⟩=some (.int .i64 s)∧w'.cell? ⟨w.heap.size,1,none⟩=some (.slice a n c)) ((first|(go_simp;done)|(simp [*,World.cell?_alloc_at,World.cell?_alloc_past,World.cell?_alloc_some,World.cell?_setCell_far];done))) (first|(go_at_call 85;refine (plist_c a n c l _ (by refine Ints.below hI (B:=w.heap.size) ?_ (Nat.le_refl _);(repeat first|exact bel0|assumption|refine bel1 ?_|refine bel2 ?_|refine bel3 ?_|refine belowT ?_ (by assumption)|refine bel5 ?_ (by simp;try omega))) hn).mono ?_;rintro e w1 ⟨⟨q,rfl,i1,hq,hq2⟩,hb1⟩;(have g0:=keepc hb1 (p:=⟨w.heap.size,0,none⟩) (u:=.int .i64 s) (by (first|(go_simp;done)|(simp [*,World.cell?_alloc_at,World.cell?_alloc_past,World.cell?_alloc_some,World.cell?_setCell_far];done))));(have g1:=keepc hb1 (p:=⟨w.heap.size,1,none⟩) (u:=.slice a n c) (by (first|(go_simp;done)|(simp [*,World.cell?_alloc_at,World.cell?_alloc_past,World.cell?_alloc_some,World.cell?_setCell_far];done))));(have xR1:=xR.below (w':=w1) (by (repeat first|exact bel0|assumption|refine bel1 ?_|refine bel2 ?_|refine bel3 ?_|refine belowT ?_ (by assumption)|refine bel5 ?_ (by simp;try omega))));(have e0:=xR1.cell 0 _ rfl);(have e1:=xR1.cell 1 _ rfl);(have f0:=xR1.ice 0);(have f1:=xR1.ice 1)))
 have bw:Below w.heap.size w w1:=by (repeat first|exact bel0|assumption|refine bel1 ?_|refine bel2 ?_|refine bel3 ?_|refine belowT ?_ (by assumption)|refine bel5 ?_ (by simp;try omega))
 simp at hq
 clear hb1 g0 g1 xR
 go_wp2
 have zB:=(xR1.set 0 (.int .i64 s)).set 1 (.slice (some ⟨q,0,none⟩) n n)
 have hbut:=((ButI.refl (w.heap.size + 1) w1).step 0 (.int .i64 s)).step 1 (.slice (some ⟨q,0,none⟩) n n)
 generalize (w1.setCell ⟨w.heap.size + 1,0,none⟩ (.int .i64 s)).setCell ⟨w.heap.size + 1,1,none⟩ (.slice (some ⟨q,0,none⟩) n n)=w9 at *
 have z0:=zB.cell 0 _ rfl
 have z1:=zB.cell 1 _ rfl
 exact bodyPost_ret (v:=.agg #[.int .i64 s,.slice (some ⟨q,0,none⟩) n n]) (by simp [results,Tryz.results132,go_sem,z0,z1]) rfl
  ⟨⟨⟨s,some ⟨q,0,none⟩,n,n,l⟩,rfl,i1.but hbut.but (.inr fun x e=>by cases e;simp;omega),fun x e=>by cases e;simp;omega,rfl⟩,bw.trans (hbut.below (B:=w.heap.size) (by omega))⟩
theorem pzones_info:∃ i,Tryz.prog.info? 68=some i∧i.zero=some (.agg #[.int .i64 0,.slice none 0 0])∧i.size=2∧i.bytes≤1000:=by
 have h:(Tryz.prog.info? 68).map (fun i=>(i.zero,i.size,Nat.ble i.bytes 1000))=some (some (.agg #[.int .i64 0,.slice none 0 0]),2,true):=by kernel_rfl
 obtain ⟨i,hi,h⟩:=Option.map_eq_some_iff.1 h
 simp only [Prod.mk.injEq] at h
 exact ⟨i,hi,h.1,h.2.1,Nat.le_of_ble_eq_true h.2.2⟩
theorem pzones_mk (n:Nat) (hn:n≤1000000) (w:World):(Instr.makeSlice 25 (.int .i64 (n:Int)) (.int .i64 (n:Int))).run Tryz.prog w=.ok (.slice (some ⟨w.heap.size,0,none⟩) n n) (w.alloc (.cells (zoneK.cells (List.replicate n zoneN.zero)).toArray 68)):=by
 obtain ⟨i,hi,hz,hs,hb⟩:=pzones_info
 exact mkR zoneK (P:=Tryz.prog) zoneN.zero Tryz.underlying25 hi hz rfl rfl hs hb (by decide) n hn w
theorem pzones_c (a:Option Addr) (n c:Nat) (X:List ZV) (w:World) (h:Rows' zoneK w a n c X) (hn:n≤1000000) (hF:∀ x∈X,∀ w':World,zoneK.ok w' x→Calls Tryz.prog 132 #[x.v] w' (Copy1 zoneK ZV.v ZV.p zoneN x w')) :
  Calls Tryz.prog 131 #[.slice a n c,.func (Fn.func 132) #[] #[]] w (Copied zoneK 68 ZV.p zoneN w n X):=by
 have hmk:=pzones_mk n hn
 have HM:=hide (fun w'=>MineR.made zoneK 68 zoneN.zero zoneN.zero_ok n w')
 generalize (zoneK.cells (List.replicate n zoneN.zero)).toArray=xs at *
 have hlen:=hide h.len
 have hmax:=h.max
 have hle:=h.le
 have HF:=hide hF
 clear hF
 go_enter Tryz.func131,Tryz.ntmps131
 go_wp2
 go_loopw [13] (fun i wr=>∃ wz:World,wz=wr∧∃ (j:Nat) (Y:List ZV),j≤n∧i=.int .i64 (j:Nat)∧MineR zoneK 68 wz w.heap.size Y∧Y.length=n∧(Y.take j).map ZV.p=(X.take j).map ZV.p∧(∀ y∈Y,zoneN.new (w.heap.size + 1) y)∧Below w.heap.size w wz) (fun i _=>n - (intOf i).toNat)
 case atStart=>exact ⟨_,rfl,0,_,by omega,rfl,HM.out w,by simp,by simp,fun y hy=>by rw [List.eq_of_mem_replicate hy];exact zoneN.zero_new _,by (repeat first|exact bel0|assumption|refine bel1 ?_|refine bel2 ?_|refine bel3 ?_|refine belowT ?_ (by assumption)|refine bel5 ?_ (by simp;try omega))⟩
 case round=>
  obtain ⟨wr,rfl,j,Y,hj,rfl,hm,hl,hp,hnw,hbr⟩:=hrel
  have HP:=hide hp
  have HL:=hide hl
  have HN:=hide hnw
  clear hp hl hnw hmk
  by_cases hlt:j < n
  ·obtain ⟨b,off,x,rfl,hx,hxk,hb,kx⟩:=h.at hlt
   have HX:=hide hx
   have HW:=hide (HF.out x (List.mem_of_getElem? hx))
   have hxr:=zoneK.below hxk hbr (Nat.le_refl _)
   have LX:=ZV.lay (b:=b) (o:=off + j * 2) (fun i v h=>keepc hbr (kx i v h))
   have hlt':(j:Int) < (n:Int):=by omega
   have HG:=hide hm.lay.lt
   clear hx kx hxk
   dsimp only [ZV.v] at HW
   obtain ⟨c0,c1⟩:=LX
   go_wp2_with fail
   refine (HW.out _ (zoneK.below hxr (B:=wr.heap.size) (by (repeat first|exact bel0|assumption|refine bel1 ?_|refine bel2 ?_|refine bel3 ?_|refine belowT ?_ (by assumption)|refine bel5 ?_ (by simp;try omega))) (Nat.le_refl _))).mono ?_
   rintro e w2 ⟨⟨y,rfl,hyk,hyn,hyp⟩,hb2⟩
   have b2:Below wr.heap.size wr w2:=by (repeat first|exact bel0|assumption|refine bel1 ?_|refine bel2 ?_|refine bel3 ?_|refine belowT ?_ (by assumption)|refine bel5 ?_ (by simp;try omega))
   replace hm:=hm.below b2
   have hgl:=hm.lay.lt
   have hgs:=HG.out
   have bw2:=belowT hbr b2
   have hjY:j < Y.length:=by rw [HL.out];exact hlt
   simp only [World.size_alloc] at hyn
   clear hb2 b2 HW hxr c0 c1
   obtain ⟨u0,y0⟩:∃ u,w2.cell? ⟨w.heap.size,j * 2,none⟩=some u:=hm.at (j:=0) hjY (by decide)
   have s0:=hm.lay.ice (j * 2)
   obtain ⟨u1,y1⟩:∃ u,w2.cell? ⟨w.heap.size,j * 2 + 1,none⟩=some u:=hm.at (j:=1) hjY (by decide)
   have s1:=hm.lay.ice (j * 2 + 1)
   dsimp only [ZV.v]
   go_wp2
   have hoff:∀ z∈Y,zoneK.off w.heap.size z:=fun z hz=>zoneN.off (HN.out z hz) (by omega)
   have hput:=hm.put hjY hyk hoff (zoneN.off hyn (by omega))
   have bput:=(putAll_but w.heap.size (zoneK.cs y) w2 (j * zoneK.k)).below (B:=w.heap.size) (Nat.le_refl _)
   exact ⟨⟨_,rfl,j + 1,_,by omega,by go_num,hput,by rw [List.length_set];exact HL.out,take_setK HX.out hjY HP.out hyp,fun z hz=>by
    rcases List.mem_or_eq_of_mem_set hz with hz|rfl
    ·exact HN.out z hz
    ·exact zoneN.mono hyn (by omega),bw2.trans bput⟩,by simp [intOf];omega⟩
  ·obtain rfl:j=n:=by omega
   go_wp2
   go_ret
   have hp:=HP.out
   rw [List.take_of_length_le (by rw [HL.out];omega),List.take_of_length_le (by rw [hlen.out];omega)] at hp
   exact ⟨⟨_,_,rfl,hm,HL.out,hp,Nat.le_refl _,HN.out⟩,hbr⟩
theorem pcopyZones_c (a:Option Addr) (n c:Nat) (Z:List ZV) (w:World) (h:Zones w a n c Z) (hn:n≤1000000) (h8:∀ z∈Z,z.n≤100000) :
  Calls Tryz.prog 108 #[.slice a n c] w (Copied zoneK 68 ZV.p zoneN w n Z):=by
 go_enter Tryz.func108,Tryz.ntmps108
 go_wp2_with fail
 refine (pzones_c a n c Z _ h.rows' hn (fun x hx w' h'=>pzone_c x w' h' (h8 x hx))).mono ?_
 rintro e w1 ⟨⟨g,Y,rfl,hm,hl,hp,hg,hn⟩,hb⟩
 go_wp2
 go_ret
 exact ⟨⟨g,Y,rfl,hm,hl,hp,hg,hn⟩,hb⟩
end Go.Proofs.YtabafikicbkkdaaGreatDoor
namespace Go.Proofs.YtabafikicbkkdaaGreatDoor
open Go.RowKit
set_option linter.unusedVariables false
set_option maxHeartbeats 4000000
set_option maxRecDepth 100000
set_option linter.unusedSimpArgs false
theorem pbook_c (a:Option Addr) (n c:Nat) (b:PB) (w:World) (h:Ints w a n c b.k) (hn:n≤100000) :
  Calls Tryz.prog 109 #[bookV a n c b] w fun e w'=>(∃ q,e=.returned (bookV (some ⟨q,0,none⟩) n n b)∧Ints w' (some ⟨q,0,none⟩) n n b.k∧w.heap.size≤q∧Lay w' q (cellsOf b.k))∧Below w.heap.size w w':=by
 obtain ⟨l,hh,tt⟩:=b
 unfold bookV
 dsimp only at *
 obtain ⟨x0,x1,x2,bw⟩:=three_boxes w [.slice a n c,.int .i64 hh,.int .i64 tt] [.slice none 0 0,.int .i64 0,.int .i64 0] [.slice a n c,.int .i64 hh,.int .i64 tt] 28 28 28
 replace h:=h.below bw (Nat.le_refl _)
 go_enter Tryz.func109,Tryz.ntmps109
 go_upto_region 2 with fail
 generalize ((w.alloc (.cells [.slice a n c,.int .i64 hh,.int .i64 tt].toArray 28)).alloc (.cells [.slice none 0 0,.int .i64 0,.int .i64 0].toArray 28)).alloc (.cells [.slice a n c,.int .i64 hh,.int .i64 tt].toArray 28)=w1 at *
 have c0:=x0.cell 0 _ rfl
 go_wp2_with fail
 refine (plistL_c a n c l _ h hn).mono ?_
 rintro e w2 ⟨⟨q,rfl,iq,hq,lq⟩,hb2⟩
 have hqw:w.heap.size + 1 + 1 < q:=by have:=x2.lt;omega
 clear c0 hq x0
 replace x1:=x1.below hb2
 replace x2:=x2.below hb2
 replace bw:=belowT bw hb2
 clear hb2
 have e0:=x2.cell 0 _ rfl
 have f0:=x2.ice 0
 go_upto_region 3 with fail
 have hbu:=(ButI.refl (w.heap.size + 1 + 1) w2).step 0 (.slice (some ⟨q,0,none⟩) n n)
 have y2:Lay _ _ [.slice (some ⟨q,0,none⟩) n n,.int .i64 hh,.int .i64 tt]:=x2.set 0 (.slice (some ⟨q,0,none⟩) n n)
 have xR:=x1.butI hbu (by omega)
 replace lq:=lq.butI hbu (by omega)
 replace iq:=iq.but hbu.but (.inr fun x e=>by cases e;simp;omega)
 replace bw:=bw.trans (hbu.below (B:=w.heap.size) (by omega))
 clear e0 f0 x2 x1 hbu
 generalize w2.setCell ⟨w.heap.size + 1 + 1,0,none⟩ (.slice (some ⟨q,0,none⟩) n n)=w3 at *
 have a0:=y2.cell 0 _ rfl
 have a1:=y2.cell 1 _ rfl
 have a2:=y2.cell 2 _ rfl
 have e0:=xR.cell 0 _ rfl
 have e1:=xR.cell 1 _ rfl
 have e2:=xR.cell 2 _ rfl
 have f0:=xR.ice 0
 have f1:=xR.ice 1
 have f2:=xR.ice 2
 go_wp2
 have zB:=((xR.set 0 (.slice (some ⟨q,0,none⟩) n n)).set 1 (.int .i64 hh)).set 2 (.int .i64 tt)
 have hbut:=(((ButI.refl (w.heap.size + 1) w3).step 0 (.slice (some ⟨q,0,none⟩) n n)).step 1 (.int .i64 hh)).step 2 (.int .i64 tt)
 generalize ((w3.setCell ⟨w.heap.size + 1,0,none⟩ (.slice (some ⟨q,0,none⟩) n n)).setCell ⟨w.heap.size + 1,1,none⟩ (.int .i64 hh)).setCell ⟨w.heap.size + 1,2,none⟩ (.int .i64 tt)=w9 at *
 have z0:=zB.cell 0 _ rfl
 have z1:=zB.cell 1 _ rfl
 have z2:=zB.cell 2 _ rfl
 exact bodyPost_ret (v:=.agg #[.slice (some ⟨q,0,none⟩) n n,.int .i64 hh,.int .i64 tt]) (by simp [results,Tryz.results109,go_sem,z0,z1,z2]) rfl
  ⟨⟨q,rfl,iq.but hbut.but (.inr fun x e=>by cases e;simp;omega),by omega,lq.butI hbut (by omega)⟩,bw.trans (hbut.below (B:=w.heap.size) (by omega))⟩
end Go.Proofs.YtabafikicbkkdaaGreatDoor
