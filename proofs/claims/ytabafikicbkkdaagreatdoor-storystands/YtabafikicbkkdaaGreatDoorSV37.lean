/- The contract of slices.Delete over mail, for one piece; no condition but that the call owns the list. -/
import Derived.Test.YtabafikicbkkdaaGreatDoorSV26
import Derived.Deep.RegionLaw
import Derived.Deep.AppendLies
import Derived.Test.YtabafikicbkkdaaGreatDoorSV36
import Derived.Test.YtabafikicbkkdaaGreatDoorSV29
import Derived.Test.YtabafikicbkkdaaGreatDoorSV13
import Derived.Deep.RegionHeld3
import Derived.Test.YtabafikicbkkdaaGreatDoorSV12
import Derived.Test.YtabafikicbkkdaaGreatDoorSV23
import Derived.Test.YtabafikicbkkdaaGreatDoorSV32
import Derived.Test.YtabafikicbkkdaaGreatDoorSV14
namespace Go.Proofs.YtabafikicbkkdaaGreatDoor
open Go.RowKit
set_option linter.unusedVariables false
set_option maxHeartbeats 8000000
set_option maxRecDepth 100000
set_option linter.unusedSimpArgs false
theorem setCells_put (g:Nat):∀ (vs:List Value) (w:World) (o:Nat),w.setCells g o vs=putAll w g o vs
 |[],_,_=>rfl
 |v :: r,w,o=>by rw [putAll,← setCells_put g r];rfl
theorem putAll_cur {g:Nat} {t:TypeId} : ∀ (vs:List Value) {w:World} {L:List Value} (o:Nat),w.heap[g]?=some (.cells L.toArray t (0,0))→(putAll w g o vs).heap[g]?=some (.cells (setAll L o vs).toArray t (0,0))
 |[],_,_,_,h=>h
 |v :: r,w,L,o,h=>putAll_cur r (o + 1) (by
  have:=Go.heap_setCell_same w g o _ t v h
  simpa using this)
theorem run_clear1 {P:Program} (w:World) (t e ty:TypeId) (z:Value) (ht:P.underlying t=some (.slice e)) (hv:∀ w,(zeroValue e).run P w=.ok z w) (b o c:Nat) (h1:∀ v∈z.cells.toList,v.oneCell'=true)
  (hc:∀ j,j < z.cells.size→(w.cell? ⟨b,o + j,none⟩).isSome=true) (hf:∀ j,j < z.cells.size→w.frozen? ⟨b,o + j,none⟩=false) :
  (Builtin.clear_ #[t] ty #[.slice (some ⟨b,o,none⟩) 1 c]).run P w=.ok (.tuple #[]) (w.setCells b o z.cells.toList):=by
 have hzc:(Builtin.zeroCells z.cells 1).toList=z.cells.toList:=by
  apply List.ext_getElem
  ·simp [Builtin.zeroCells]
  ·intro i h1 h2
   simp only [Builtin.zeroCells,Array.toList_ofFn,List.getElem_ofFn,Array.getElem_toList]
   simp at h2
   simp [Nat.mod_eq_of_lt h2,h2]
 have hst:=run_storeCells_cells (P:=P) b o z.cells.toList 0 w (by simpa using hc) (by simpa using hf) h1
 simp only [Nat.add_zero] at hst
 simp [Builtin.clear_,run_underlying ht,hv,hzc,hst]
theorem delete_c (b g cap i n:Nat) (M:List MV) (w:World) (hn:M.length=n) (own:OwnK mailK 103 w b (.slice (some ⟨g,0,none⟩) n cap) M) (hi:i < n) :
  Calls Tryz.prog 117 #[.slice (some ⟨g,0,none⟩) n cap,.int .i64 i,.int .i64 (i + 1)] w fun e w'=>e=.returned (.slice (some ⟨g,0,none⟩) (n - 1) cap)∧OwnK mailK 103 w' b (.slice (some ⟨g,0,none⟩) (n - 1) cap) (M.eraseIdx i)∧Chg g w w':=by
 have hcm:n≤cap∧cap≤9223372036854775807:=by
  obtain ⟨a,c,e,hr,_⟩:=own.rows
  simp only [Value.slice.injEq] at e
  obtain ⟨_,e2,rfl⟩:=e
  exact ⟨by rw [e2];exact hr.le,hr.max⟩
 obtain ⟨hcap,hmax⟩:=hcm
 obtain ⟨m,hm⟩:∃ m,M[i]?=some m:=⟨_,List.getElem?_eq_getElem (by rw [hn];exact hi)⟩
 obtain ⟨hi',hm'⟩:=List.getElem?_eq_some_iff.1 hm
 obtain ⟨L,hL,hLs,hLc⟩:∃ L:List Value,w.heap[g]?=some (.cells L.toArray 103 (0,0))∧L.length=cap * 11∧L.take (n * 11)=mailK.cells M:=by
  rcases own.own.2 with ⟨e,_⟩|⟨g',cap',cur,e,_,hg,_,_,hs,hc⟩
  ·cases e
  ·simp only [Value.slice.injEq,Option.some.injEq,Addr.mk.injEq] at e
   obtain ⟨⟨rfl,_⟩,_,rfl⟩:=e
   exact ⟨cur.toList,by simpa using hg,hs,by rw [← hn];exact hc⟩
 have hlen:=mailK.cells_len M
 obtain ⟨A,hA⟩:∃ A,A=mailK.cells (M.take i):=⟨_,rfl⟩
 obtain ⟨C,hC⟩:∃ C,C=mailK.cells (M.drop (i + 1)):=⟨_,rfl⟩
 have hAl:A.length=i * 11:=by rw [hA,Kin.cells_len,List.length_take,Nat.min_eq_left (by omega)];rfl
 have hCl:C.length=(n - (i + 1)) * 11:=by rw [hC,Kin.cells_len,List.length_drop,hn];rfl
 have hE:mailK.cells (M.eraseIdx i)=A++C:=by rw [List.eraseIdx_eq_take_drop_succ,Kin.cells_app,hA,hC]
 obtain ⟨R,hR⟩:∃ R,L=A++(m.cells++(C++R)):=⟨L.drop (n * 11),by
  have e:mailK.cells M=A++(m.cells++C):=by
   rw [hA,hC,show m.cells++mailK.cells (M.drop (i + 1))=mailK.cells (m :: M.drop (i + 1)) from (Kin.cells_cons (K:=mailK) m _).symm,← Kin.cells_app,← hm',← List.drop_eq_getElem_cons hi',List.take_append_drop]
  rw [← List.append_assoc m.cells,← List.append_assoc A,← e,← hLc,List.take_append_drop]⟩
 have hX:m.cells.length=11:=rfl
 have hgl:g < w.heap.size:=(Array.getElem?_eq_some_iff.1 hL).1
 have lay:Lay w g L:=Lay.of_row hL
 have hLl:n * 11≤L.length:=by rw [hLs];omega
 have hi1:(0:Int)≤(i:Int):=by omega
 have hi2:(i:Int)≤(i:Int) + 1:=by omega
 have hi3:(i:Int) + 1≤(n:Int):=by omega
 have hi4:(n:Int)≤(cap:Int):=by omega
 have hi5:((i:Int)==(i:Int) + 1)=false:=by simp;omega
 have hi7:(0:Int)≤(i:Int) + 1:=by omega
 have hi6:¬ ((i:Int)=(i:Int) + 1):=by omega
 have hin:i≤cap:=by omega
 have hin1:i + 1≤cap:=by omega
 obtain ⟨i0,hi0,hz0,hs0,hb0⟩:=pmails_info
 -- where the pieces behind lie
 obtain ⟨P,hP,hsrc⟩:∃ P:Addr,(if cap=i + 1 then some (⟨g,0,none⟩:Addr) else some ⟨g,(i + 1) * 11,none⟩)=some P∧Hid (∀ t u,C[t]?=some u→w.drew.cell? (P.add t)=some u):=by
  by_cases h:cap=i + 1
  ·refine ⟨⟨g,0,none⟩,by simp [h],hide fun t u hu=>?_⟩
   have h0:C.length=0:=by rw [hCl];omega
   rw [List.length_eq_zero_iff.1 h0] at hu
   simp at hu
  ·refine ⟨⟨g,(i + 1) * 11,none⟩,by simp [h],hide fun t u hu=>?_⟩
   rw [addr_add]
   have:=lay.cell ((i + 1) * 11 + t) u (by
    rw [hR,List.getElem?_append_right (by rw [hAl];omega),List.getElem?_append_right (by rw [hAl,hX];omega),hAl,hX,show (i + 1) * 11 + t - i * 11 - 11=t by omega,List.getElem?_append_left (List.getElem?_eq_some_iff.1 hu).1]
    exact hu)
   exact this
 have s1:Hid (C.length=(n - (i + 1)) * 11):=hide hCl
 have s2:Hid (∀ u∈C,u.oneCell'=true):=hide (by rw [hC];exact Kin.cells_one _)
 have s3:Hid (∀ t,t < C.length→(w.drew.cell? ⟨g,0 + i * 11 + t,none⟩).isSome=true∧w.drew.frozen? ⟨g,0 + i * 11 + t,none⟩=false):=hide fun t ht=>by
  have hlt:i * 11 + t < L.length:=by rw [hCl] at ht;omega
  rw [Nat.zero_add]
  exact ⟨by show (w.cell? _).isSome=true;rw [lay.cell _ _ (List.getElem?_eq_getElem hlt)];rfl,lay.ice _⟩
 obtain ⟨W1,hW1⟩:∃ W1,W1=w.drew.setCells g (0 + i * 11) C:=⟨_,rfl⟩
 have hW:Hid (W1=w.drew.setCells g (0 + i * 11) C):=hide hW1
 rw [setCells_put,Nat.zero_add] at hW1
 have row1:W1.heap[g]?=some (.cells (setAll L (i * 11) C).toArray 103 (0,0)):=by rw [hW1];exact putAll_cur C _ hL
 have lay1:Lay W1 g (setAll L (i * 11) C):=Lay.of_row row1
 have c1:Chg g w W1:=by rw [hW1];exact Chg.put C _ (Chg.of_below (by (repeat first|exact bel0|assumption|refine bel1 ?_|refine bel2 ?_|refine bel3 ?_|refine belowT ?_ (by assumption)|refine bel5 ?_ (by simp;try omega))))
 have hl1:∀ (vs L:List Value) (o:Nat),(setAll L o vs).length=L.length:=fun vs=>by
  induction vs with
  |nil=>intros;rfl
  |cons v r ih=>intro L o;rw [setAll,ih];simp
 have hcl:∀ ty o c,o=(n - 1) * 11→(Builtin.clear_ #[38] ty #[.slice (some ⟨g,o,none⟩) 1 c]).run Tryz.prog W1=.ok (.tuple #[]) (W1.setCells g ((n - 1) * 11) [.bool false,.int .i64 0,.int .i64 0,.int .i64 0,.int .i64 0,.int .i64 0,.int .i64 0,.slice none 0 0,.int .i64 0,.int .i64 0,.slice none 0 0]):=fun ty o c ho=>by
  subst ho
  have hv:∀ w,(zeroValue 103).run Tryz.prog w=.ok (.agg #[.bool false,.int .i64 0,.int .i64 0,.int .i64 0,.int .i64 0,.int .i64 0,.int .i64 0,.slice none 0 0,.int .i64 0,.int .i64 0,.slice none 0 0]) w:=fun w=>by
   simp [zeroValue,typeInfo,hi0,hz0]
  exact run_clear1 W1 38 103 ty _ Tryz.underlying38 hv g ((n - 1) * 11) c (mailK.one MV.zero) (fun j hj=>by
   have hj':j < 11:=hj
   rw [lay1.cell _ _ (List.getElem?_eq_getElem (by rw [hl1];omega))];rfl) (fun j _=>lay1.ice _)
 clear hW1
 go_enter Tryz.func117,Tryz.ntmps117
 go_upto_region 5 with fail
 go_region_law (refine step_append_room rfl (.tmp 22) (.tmp 25) 38 rfl 103 i0 11 Tryz.underlying38 hi0 hs0 g 0 i cap (by simp [Act.eval,Act.put]) P (n - (i + 1)) (cap - (i + 1)) C (by simp [Act.eval,Act.put,hP]) s1.out hsrc.out s2.out (by omega) s3.out ?_;rw [← hW.out])
 obtain ⟨q,hq⟩:∃ q,q=i + (n - (i + 1)):=⟨_,rfl⟩
 rw [← hq]
 have hq1:n - q=1:=by omega
 have hq2:(0:Int)≤(q:Int):=by omega
 have hq3:(q:Int)≤(n:Int):=by omega
 have hq4:¬ cap=q:=by omega
 have hq6:n - 1=q:=by omega
 have hcl':=fun ty c=>hcl ty (q * 11) c (by rw [hq6])
 rw [hq6] at hcl'
 have D1:=hide row1
 have D2:=hide c1
 have D3:=hide hE
 have D4:=hide hR
 have D5:=hide own
 have D6:=hide lay1
 have D7:=hide hl1
 clear row1 c1 hE hR own lay1 hl1 hcl hW s1 s2 s3 hsrc hP hL lay hq
 go_wp2
 go_ret
 obtain ⟨Z,hZ⟩:∃ Z:List Value,Z=[.bool false,.int .i64 0,.int .i64 0,.int .i64 0,.int .i64 0,.int .i64 0,.int .i64 0,.slice none 0 0,.int .i64 0,.int .i64 0,.slice none 0 0]:=⟨_,rfl⟩
 have hZl:Z.length=11:=by rw [hZ];rfl
 rw [← hZ]
 rw [setCells_put]
 have row2:=putAll_cur Z (q * 11) D1.out
 have c2:=Chg.put Z (q * 11) D2.out
 have hAC:(A++C).length=q * 11:=by rw [List.length_append,hAl,hCl];omega
 obtain ⟨P1,P2,e1,e2,e3⟩:∃ P1 P2,m.cells++C=P1++P2∧P1.length=C.length∧P2.length=11:=⟨(m.cells++C).take C.length,(m.cells++C).drop C.length,(List.take_append_drop _ _).symm,by simp,by simp [hX]⟩
 have f1:setAll L (i * 11) C=A++(C++(P2++R)):=by
  rw [D4.out,← List.append_assoc m.cells,e1,List.append_assoc P1,← hAl]
  exact setAll_app C A P1 (P2++R) e2
 have f2:setAll (setAll L (i * 11) C) (q * 11) Z=(A++C)++(Z++R):=by
  rw [f1,← hAC,← List.append_assoc A C]
  exact setAll_app Z (A++C) P2 R (by rw [e3,hZl])
 rw [f2] at row2
 have hlE:(M.eraseIdx i).length=q:=by rw [List.length_eraseIdx,if_pos (by omega),hn];exact hq6
 have hsz:(A++C++(Z++R)).length=cap * 11:=by
  have:=congrArg List.length f2
  rw [D7.out,D7.out,hLs] at this
  exact this.symm
 refine ⟨by rw [hq6];rfl,⟨⟨by rw [Kin.cells_len],.inr ⟨g,cap,_,by rw [hlE,hq6],?_,row2,by omega,?_,(by simpa using hsz:_=cap * 11),?_⟩⟩,fun y hy=>?_,fun y hy k e=>?_⟩,c2⟩
 ·have:=D5.out.own.lt g rfl
  exact this.1
 ·rcases D5.out.own.2 with ⟨e,_⟩|⟨g',cap',cur,e,_,_,_,hm2,_,_⟩
  ·cases e
  ·simp only [Value.slice.injEq] at e
   obtain ⟨_,_,rfl⟩:=e
   exact hm2
 ·rw [D3.out,hlE]
  show ((A++C)++(Z++R)).take (q * 11)=A++C
  rw [← hAC,List.take_left]
 ·exact mailK.but (D5.out.ok y (List.mem_of_mem_eraseIdx hy)) (grown_but' c2 rfl (Nat.le_of_lt hgl)) (D5.out.off y (List.mem_of_mem_eraseIdx hy) g rfl)
 ·obtain rfl:g=k:=by simpa [Value.ownBlock] using e
  exact D5.out.off y (List.mem_of_mem_eraseIdx hy) g rfl
end Go.Proofs.YtabafikicbkkdaaGreatDoor
namespace Go.Proofs.YtabafikicbkkdaaGreatDoor
open Go.RowKit
set_option linter.unusedVariables false
set_option maxHeartbeats 8000000
set_option maxRecDepth 100000
set_option linter.unusedSimpArgs false
def carryW (x:PW) (e:PX):PW×Int:=if e.n < 0∨(x.m.length:Int)≤e.n then (zeroW,5) else match x.m[e.n.toNat]? with
   |none=>(zeroW,5)
   |some m=>if e.k=5 then (goneW x e.n.toNat,0) else if e.k=4 then comesW x m else comesW (goneW x e.n.toNat) m
theorem OwnW.mailAt {w:World} {b B g:Nat} {x:WV} (o:OwnW w b B g x) {i:Nat} {m:MV} (hm:x.M[i]?=some m):m.ok w∧(∀ k,x.ours b B g k→m.off k)∧∃ k,x.ma=some ⟨k,0,none⟩∧x.mb=some k∧∀ j v,m.cells[j]?=some v→w.cell? ⟨k,i * 11 + j,none⟩=some v:=by
 have hmem:=List.mem_of_getElem? hm
 have hl:i < x.M.length:=(List.getElem?_eq_some_iff.1 hm).1
 refine ⟨o.m.ok m hmem,fun k q=>(o.far k q).m m hmem,?_⟩
 obtain ⟨a,c,e,hr,-⟩:=o.m.rows
 simp only [Value.slice.injEq] at e
 obtain ⟨b',off,x',e1,hx',-,-,hc⟩:=hr.at (i:=i) hl
 obtain ⟨k,cap,e2,-⟩:=o.m.own.form (by omega)
 simp only [Value.slice.injEq] at e2
 rw [hm] at hx'
 cases hx'
 have e3:=e.1.symm.trans e2.1
 rw [e1] at e3
 simp only [Option.some.injEq,Addr.mk.injEq] at e3
 obtain ⟨rfl,rfl,-⟩:=e3
 refine ⟨b',e2.1,by simp [WV.mb,e2.1,Value.ownBlock],fun j v hv=>?_⟩
 have:=hc j v hv
 rwa [Nat.zero_add] at this
theorem OwnW.gone {w w':World} {b B g:Nat} {x:WV} (o:OwnW w b B g x) {i k:Nat} (hk:x.mb=some k) (ha:x.ma=some ⟨k,0,none⟩) (c:Chg k w w') (own:OwnK mailK 103 w' b (.slice (some ⟨k,0,none⟩) (x.mn - 1) x.mc) (x.M.eraseIdx i)) (hi:i < x.M.length) :
  OwnW (w'.setCell ⟨B,9,none⟩ (.slice (some ⟨k,0,none⟩) (x.mn - 1) x.mc)) b B g {x with ma:=some ⟨k,0,none⟩,mn:=x.mn - 1,mc:=x.mc,M:=x.M.eraseIdx i}:=by
 obtain ⟨h1,h2,h3⟩:=o.mB k hk
 have fk:=o.far k (.inr (.inr (.inr hk)))
 refine o.mail c ⟨Nat.le_of_lt (o.lt (.inr (.inr (.inr hk)))),h1,h2,fk⟩ own (by rw [o.mn,List.length_eraseIdx,if_pos hi]) (fun j e=>?_) (fun j e y hy=>?_)
 ·obtain rfl:k=j:=by simpa [Value.ownBlock] using e
  exact ⟨h1,h2,h3,fk.h,fk.d,fk.n⟩
 ·have hq:x.ours b B g j:=by
   rcases e with e|e|e|e
   ·exact .inl e
   ·exact .inr (.inl e)
   ·exact .inr (.inr (.inl e))
   ·obtain rfl:k=j:=by simpa [Value.ownBlock] using e
    exact .inr (.inr (.inr hk))
  exact (o.far j hq).m y (List.mem_of_mem_eraseIdx hy)
theorem carry_c (b B g:Nat) (x:WV) (y:XV) (w:World) (hE:Env w) (o:OwnW w b B g x) (hr:checkW x.p=0) (hy:y.k=3∨y.k=4∨y.k=5) (HEB:∀ w',Below b w w'→Env w') :
  Calls Tryz.prog 94 #[.pointer (some ⟨B,0,none⟩),y.v] w fun e w'=>WAct b B g (carryW x.p y.p) e w'∧Below b w w':=by
 obtain ⟨r1,r2,r3,r4,r5,r6,r7⟩:=checkW_ok hr
 have hML:x.p.m.length=x.M.length:=by simp [WV.p]
 have hmn:=o.mn
 have hN:x.N.length=3:=by rw [← r1];simp [WV.p]
 have hm30:x.mn≤30:=by rw [hmn,← hML];exact r2
 have HC:Hid (carryW x.p y.p=if y.n < 0∨(x.mn:Int)≤y.n then (zeroW,5) else match x.M[y.n.toNat]? with
   |none=>(zeroW,5)
   |some m=>if y.k=5 then (goneW x.p y.n.toNat,0) else if y.k=4 then comesW x.p m.p else comesW (goneW x.p y.n.toNat) m.p):=hide (by
  unfold carryW
  rw [hML,hmn,show y.p.n=y.n from rfl,show y.p.k=y.k from rfl,show x.p.m=x.M.map MV.p from rfl,List.getElem?_map]
  cases x.M[y.n.toNat]? with
  |none=>simp only [Option.map_none]
  |some m=>simp only [Option.map_some])
 generalize carryW x.p y.p=cw at *
 have HMN:=hide hmn
 clear hmn hML
 have hBl0:=o.lay.lt
 have HLT0:=hide (fun k (q:x.ours b B g k)=>o.lt q)
 have xy:=Lay.made w y.cells 75
 have bw:=belowA (Below.refl _ w) (.cells y.cells.toArray 75)
 replace o:=o.below bw
 replace hE:=hE.below bw
 have hbB:=o.le.1
 have hbs:b≤w.heap.size:=by omega
 obtain ⟨c0,c1,c2,c3,c4,c5,c6,c7,c8,c9⟩:=o.lay.ten
 have hwr:IntKind.i64.wrap ((x.mn:Int) - 1)=(x.mn:Int) - 1:=IntWalk.i64_in _ ⟨by omega,by omega⟩
 dsimp only [XV.v,XV.cells] at *
 go_enter Tryz.func94,Tryz.ntmps94
 go_wp2_with fail
 generalize w.alloc (.cells [.int .i64 y.k,.int .i64 y.w,.int .i64 y.n,.int .i64 y.c.k,.int .i64 y.c.z,.int .i64 y.c.n,.int .i64 y.c.at',.slice y.ca y.cn y.cc].toArray 75)=w1 at *
 refine (wwithin_c 0 ((x.mn:Int) - 1) _).mono ?_
 rintro e w2 ⟨P1,Q1,rfl,p1,q1,hb2⟩
 have hwl:=xy.lt
 replace o:=o.below hb2
 replace xy:=xy.below hb2
 replace hE:=hE.below hb2
 replace bw:=belowT bw hb2
 clear hb2 c0 c1 c2 c3 c4 c5 c6 c7 c8 c9 hwr
 have y0:=xy.cell 0 _ rfl
 have y2:=xy.cell 2 _ rfl
 go_wp2_with fail
 refine (wwithin1_c y.n 0 ((x.mn:Int) - 1) P1 Q1 _ p1 q1).mono ?_
 rintro e w2 ⟨rfl,rfl⟩
 clear p1 q1
 cases h1:inB y.n 0 ((x.mn:Int) - 1)
 ·have h1':y.n < 0∨(x.mn:Int)≤y.n:=by simp [inB] at h1;omega
  rw [if_pos h1'] at HC
  go_wp2
  go_ret
  exact ⟨⟨by rw [HC.out];rfl,fun e=>by rw [HC.out] at e;exact absurd e (by decide)⟩,bw.mono hbs⟩
 ·have h1':¬ (y.n < 0∨(x.mn:Int)≤y.n):=by simp [inB] at h1;omega
  rw [if_neg h1'] at HC
  obtain ⟨i,hi⟩:∃ i:Nat,y.n=i:=⟨y.n.toNat,by omega⟩
  have hin:i < x.M.length:=by have:=HMN.out;omega
  obtain ⟨m,hm⟩:∃ m,x.M[i]?=some m:=⟨_,List.getElem?_eq_getElem hin⟩
  obtain ⟨mk,mf,k,ha,hk,mc⟩:=o.mailAt hm
  rw [hi,Int.toNat_natCast,hm] at HC
  dsimp only at HC
  rw [hi] at y2
  have hcm:=r3 m.p (by rw [show x.p.m=x.M.map MV.p from rfl];exact List.mem_map.2 ⟨m,List.mem_of_getElem? hm,rfl⟩)
  have hmw:=(checkM_facts hcm).1
  have c9:=o.lay.cell 9 _ rfl
  rw [ha] at c9
  obtain ⟨m0,m1,m2,m3,m4,m5,m6,m7,m8,m9,m10⟩:=MV.lay (b:=k) (o:=i * 11) mc
  have hi0:(0:Int)≤(i:Int):=by omega
  have hi1:(i:Int) < (x.mn:Int):=by omega
  have hwr:IntKind.i64.wrap ((i:Int) + 1)=(i:Int) + 1:=IntWalk.i64_in _ ⟨by omega,by omega⟩
  have HMK:=hide mk
  have HMF:=hide mf
  have HM:=hide hm
  have HHI:=hide hi
  have HHA:=hide ha
  have HHK:=hide hk
  have HR:=hide hr
  have hkw:=o.lt (.inr (.inr (.inr hk)))
  have hkB:=(o.mB k hk).1
  have hBl:=o.lay.lt
  have hyl:=xy.lt
  have HCK:Hid (checkK x.d.p=0):=hide r4
  have HB30:Hid (x.mn≤1000):=hide (by omega)
  have HN3:=hide hN
  have HMW:=hide hmw
  have hkb:=(o.mB k hk).2.2
  have hkg:=(o.mB k hk).2.1
  have e1:k≠w2.heap.size:=by omega
  have e2:w2.heap.size≠k:=by omega
  have e3:B≠w2.heap.size:=by omega
  have e4:w2.heap.size≠B:=by omega
  have e5:w.heap.size≠w2.heap.size:=by omega
  have e6:w2.heap.size≠w.heap.size:=by omega
  have e7:k≠B:=hkB
  have e8:B≠k:=fun e=>hkB e.symm
  clear mk mf hm hi mc h1 h1' r1 r2 r3 r5 r6 r7 ha hk hr hcm hmw hN r4
  go_upto_region 4 with fail
  go_cut [6] (fun p wx=>∃ N:Nat,p=.pointer (some ⟨N,0,none⟩)∧Lay wx N m.cells∧w2.heap.size≤N∧Below w2.heap.size w2 wx)
  case first=>
   go_region_held3 (fun w'=>w'.cell? ⟨w.heap.size,2,none⟩=some (.int .i64 i)∧w'.cell? ⟨B,9,none⟩=some (.slice (some ⟨k,0,none⟩) x.mn x.mc)∧w'.cell? ⟨k,i * 11,none⟩=some (.bool m.b)∧w'.cell? ⟨k,i * 11 + 1,none⟩=some (.int .i64 m.w)∧w'.cell? ⟨k,i * 11 + 2,none⟩=some (.int .i64 m.s)∧w'.cell? ⟨k,i * 11 + 3,none⟩=some (.int .i64 m.c.k)∧w'.cell? ⟨k,i * 11 + 4,none⟩=some (.int .i64 m.c.z)∧w'.cell? ⟨k,i * 11 + 5,none⟩=some (.int .i64 m.c.n)∧w'.cell? ⟨k,i * 11 + 6,none⟩=some (.int .i64 m.c.at')∧w'.cell? ⟨k,i * 11 + 7,none⟩=some (.slice m.ca m.cn m.cc)∧w'.cell? ⟨k,i * 11 + 8,none⟩=some (.int .i64 m.x.e)∧w'.cell? ⟨k,i * 11 + 9,none⟩=some (.int .i64 m.x.t)∧w'.cell? ⟨k,i * 11 + 10,none⟩=some (.slice m.x.a m.x.n m.x.c)) ((first|(go_simp;done)|(simp [*,World.cell?_alloc_at,World.cell?_alloc_past,World.cell?_alloc_some,World.cell?_setCell_far];done))) (fail)
   all_goals
    go_wp2_with fail
    go_meet
    case rel=>exact ⟨_,rfl,(Lay.made w2 m.cells 103).drew,Nat.le_refl _,by (repeat first|exact bel0|assumption|refine bel1 ?_|refine bel2 ?_|refine bel3 ?_|refine belowT ?_ (by assumption)|refine bel5 ?_ (by simp;try omega))⟩
  case rest=>
  obtain ⟨N,rfl,xm,hN2,hb⟩:=hcut
  generalize wc=w4 at *
  replace o:=o.below hb
  replace xy:=xy.below hb
  replace hE:=hE.below hb
  replace bw:=belowT bw hb
  have mk4:=(HMK.out).below hb (Nat.le_refl _)
  have s24:=hb.size
  clear hb m0 m1 m2 m3 m4 m5 m6 m7 m8 m9 m10 c9 y0 y2
  have y0:=xy.cell 0 _ rfl
  have HXK:=hide xy
  by_cases h4:y.k=4
  ·rw [h4] at y0 HC
   simp only [show ¬ ((4:Int)=5) by decide,if_false,if_true] at HC
   replace h4:=hide h4
   have n0:=xm.cell 0 _ rfl
   have n1:=xm.cell 1 _ rfl
   have n2:=xm.cell 2 _ rfl
   have n3:=xm.cell 3 _ rfl
   have n4:=xm.cell 4 _ rfl
   have n5:=xm.cell 5 _ rfl
   have n6:=xm.cell 6 _ rfl
   have n7:=xm.cell 7 _ rfl
   have n8:=xm.cell 8 _ rfl
   have n9:=xm.cell 9 _ rfl
   have n10:=xm.cell 10 _ rfl
   have HD:=hide (fun (h:m.b=false) w' hE o hm=>deliver_c b B g (x) m w' hE o hm HCK.out h (by exact HB30.out))
   have HH:=hide (fun (h:m.b=true) w' hE o hm=>hear_c b B g (x) m w' hE o hm HN3.out HMW.out h)
   rw [(show x.p=x.p from rfl)] at HD HH
   dsimp only [MV.v] at HD HH
   cases hb:m.b
   ·have HD2:=hide (HD.out hb)
    rw [hb] at n0 HD2
    replace hb:=hide hb
    go_wp2_with fail
    refine (HD2.out _ hE o mk4).mono ?_
    rintro e w9 ⟨⟨rfl,hx⟩,hb9⟩
    go_wp2
    go_ret
    exact ⟨⟨by rw [HC.out];rfl,by rw [HC.out];exact hx⟩,(bw.mono hbs).trans hb9⟩
   ·have HH2:=hide (HH.out hb)
    rw [hb] at n0 HH2
    replace hb:=hide hb
    go_wp2_with fail
    refine (HH2.out _ hE o mk4).mono ?_
    rintro e w9 ⟨⟨rfl,hx⟩,hb9⟩
    go_wp2
    go_ret
    exact ⟨⟨by rw [HC.out];rfl,by rw [HC.out];exact hx⟩,(bw.mono hbs).trans hb9⟩
  ·have hk4:y.k≠4:=h4
   have hk4':(y.k==4)=false:=by simpa using h4
   have y2:=xy.cell 2 _ rfl
   rw [HHI.out] at y2
   have q9:=o.lay.cell 9 _ rfl
   rw [HHA.out] at q9
   have q9i:=o.lay.ice 9
   have own0:Hid (∀ w':World,Below w4.heap.size w4 w'→OwnK mailK 103 w' b (.slice (some ⟨k,0,none⟩) x.mn x.mc) x.M):=hide (fun w' hb'=>by
    have:=o.m.below hb'
    rwa [HHA.out] at this)
   have s3:i < x.mn:=by omega
   have hw1:w.heap.size≠k:=by have:=HLT0.out k (.inr (.inr (.inr HHK.out)));omega
   have hwB:w.heap.size≠B:=by omega
   have hNk:N≠k:=by omega
   have hNB:N≠B:=by omega
   have hx9:Hid (∀ wp w':World,Below w4.heap.size w4 wp→Chg k wp w'→Lay w' B x.cells):=hide (fun wp w' h1 c=>(o.lay.below h1).chg c e8)
   have hxy:Hid (∀ wp w':World,Below w4.heap.size w4 wp→Chg k wp w'→Lay w' w.heap.size y.cells):=hide (fun wp w' h1 c=>(xy.below h1).chg c hw1)
   have O:=hide o
   have XM:=hide xm
   have HE4:=hide hE
   replace h4:=hide h4
   clear o xm xy hE
   go_upto_region 6 with fail
   go_cut [] (fun wx=>∃ x':WV,OwnW wx b B g x'∧x'.p=goneW x.p i∧x'.d=x.d∧x'.mn≤1000∧x'.N=x.N∧m.ok wx∧Lay wx N m.cells∧Lay wx w.heap.size y.cells∧Below b w4 wx)
   case first=>
    go_region_law (first|(go_simp;go_at_call 117;refine (delete_c b k x.mc i x.mn x.M _ HMN.out.symm (own0.out _ (by clear bw;(repeat first|exact bel0|assumption|refine bel1 ?_|refine bel2 ?_|refine bel3 ?_|refine belowT ?_ (by assumption)|refine bel5 ?_ (by simp;try omega)))) s3).mono ?_;rintro e w5 ⟨rfl,own5,cg⟩;(have bp:=bel_of cg (w:=w4) (by clear bw;(repeat first|exact bel0|assumption|refine bel1 ?_|refine bel2 ?_|refine bel3 ?_|refine belowT ?_ (by assumption)|refine bel5 ?_ (by simp;try omega))));(have l5:=hx9.out _ _ bp cg);(have z9:=l5.cell 9 _ rfl);(have i9:=l5.ice 9);go_wp2_with fail))
    all_goals
     go_wp2_with fail
     go_meet
     case rel=>
      have hiM:i < x.M.length:=by have:=HMN.out;omega
      have og:=(O.out.below bp).gone HHK.out HHA.out cg own5 hiM
      have cB:=(Chg.refl B w5).set 9 (.slice (some ⟨k,0,none⟩) (x.mn - 1) x.mc)
      have ok5:=mailK.but (mailK.below mk4 bp (Nat.le_refl _)) (grown_but' cg rfl (Nat.le_trans (Nat.le_of_lt hkw) (by have:=bp.size;omega))) (HMF.out k (.inr (.inr (.inr HHK.out))))
      exact ⟨_,og,by simp [WV.p,goneW,List.eraseIdx_eq_take_drop_succ],rfl,by simp;omega,rfl,mailK.but ok5 (grown_but' cB rfl (Nat.le_of_lt l5.lt)) (HMF.out B (.inr (.inl rfl))),((XM.out.below bp).chg cg hNk).chg cB hNB,(hxy.out _ _ bp cg).chg cB hwB,((bp.mono (by omega)).trans (cg.below hkb (by have:=bp.size;omega))).trans (cB.below hbB (by have:=bp.size;have:=cg.size;omega))⟩
   case rest=>
   obtain ⟨x',o',hxp,hxd,hxn,hxN,mk5,xm5,xy5,bb5⟩:=hcut
   generalize wc=w5 at *
   have bb:=(bw.mono hbs).trans bb5
   have hE5:Env w5:=HEB w5 bb
   have y0:=xy5.cell 0 _ rfl
   clear q9 q9i y2 own0 hx9 hxy O XM HE4 mk4 bb5 bw
   have HCK:Hid (checkK x'.d.p=0):=hide (by rw [hxd];exact HCK.out)
   have HB30:Hid (x'.mn≤1000):=hide hxn
   have HN3:Hid (x'.N.length=3):=hide (by rw [hxN];exact HN3.out)
   rcases hy with h3|h3|h3
   ·rw [h3] at y0 HC
    simp only [show ¬ ((3:Int)=5) by decide,show ¬ ((3:Int)=4) by decide,if_false] at HC
    replace h3:=hide h3
    have n0:=xm5.cell 0 _ rfl
    have n1:=xm5.cell 1 _ rfl
    have n2:=xm5.cell 2 _ rfl
    have n3:=xm5.cell 3 _ rfl
    have n4:=xm5.cell 4 _ rfl
    have n5:=xm5.cell 5 _ rfl
    have n6:=xm5.cell 6 _ rfl
    have n7:=xm5.cell 7 _ rfl
    have n8:=xm5.cell 8 _ rfl
    have n9:=xm5.cell 9 _ rfl
    have n10:=xm5.cell 10 _ rfl
    have HD:=hide (fun (h:m.b=false) w' hE o hm=>deliver_c b B g (x') m w' hE o hm HCK.out h (by exact HB30.out))
    have HH:=hide (fun (h:m.b=true) w' hE o hm=>hear_c b B g (x') m w' hE o hm HN3.out HMW.out h)
    rw [hxp] at HD HH
    dsimp only [MV.v] at HD HH
    cases hb:m.b
    ·have HD2:=hide (HD.out hb)
     rw [hb] at n0 HD2
     replace hb:=hide hb
     go_wp2_with fail
     refine (HD2.out _ hE5 o' mk5).mono ?_
     rintro e w9 ⟨⟨rfl,hx⟩,hb9⟩
     go_wp2
     go_ret
     exact ⟨⟨by rw [HC.out];rfl,by rw [HC.out];exact hx⟩,(bb).trans hb9⟩
    ·have HH2:=hide (HH.out hb)
     rw [hb] at n0 HH2
     replace hb:=hide hb
     go_wp2_with fail
     refine (HH2.out _ hE5 o' mk5).mono ?_
     rintro e w9 ⟨⟨rfl,hx⟩,hb9⟩
     go_wp2
     go_ret
     exact ⟨⟨by rw [HC.out];rfl,by rw [HC.out];exact hx⟩,(bb).trans hb9⟩
   ·exact absurd h3 hk4
   ·rw [h3] at y0 HC
    rw [if_pos rfl] at HC
    replace h3:=hide h3
    go_wp2
    go_ret
    exact ⟨⟨by rw [HC.out];rfl,fun _=>⟨x',o',by rw [HC.out];exact hxp⟩⟩,bb⟩
end Go.Proofs.YtabafikicbkkdaaGreatDoor
namespace Go.Proofs.YtabafikicbkkdaaGreatDoor
open Go.RowKit
set_option linter.unusedVariables false
set_option maxHeartbeats 8000000
set_option maxRecDepth 100000
set_option linter.unusedSimpArgs false
end Go.Proofs.YtabafikicbkkdaaGreatDoor
namespace Go.Proofs.YtabafikicbkkdaaGreatDoor
open Go.RowKit
set_option linter.unusedVariables false
set_option maxHeartbeats 8000000
set_option maxRecDepth 100000
set_option linter.unusedSimpArgs false
theorem sameL_eq (x y:PL):sameL x y=(x.s==y.s&&sameA x.a y.a):=by
 have e:decide (x.s=y.s)=(x.s==y.s):=by rw [Bool.eq_iff_iff];simp
 unfold sameL
 rw [e]
theorem hsame1_c (x y:LV) (w:World) (hx:x.ok w) (hy:y.ok w):Calls Tryz.prog 43 #[x.v,y.v] w fun e w'=>e=.returned (.bool (sameL x.p y.p))∧Below w.heap.size w w':=by
 have HA:=hide (fun w' (h1:x.x.ok w') (h2:y.x.ok w')=>psameA_c x.x y.x w' h1 h2)
 have HS:Hid (sameL x.p y.p=(x.s==y.s&&sameA x.x.p y.x.p)):=hide (sameL_eq x.p y.p)
 obtain ⟨s1,⟨e1,t1,a1,n1,c1,l1⟩⟩:=x
 obtain ⟨s2,⟨e2,t2,a2,n2,c2,l2⟩⟩:=y
 generalize sameL _ _=r at *
 generalize sameA _ _=sa at *
 dsimp only [LV.v,AV.v] at *
 cases he:s1==s2
 ·go_enter Tryz.func43,Tryz.ntmps43
  go_wp2
  go_ret
  exact ⟨ret_bool (by rw [HS.out,he];rfl),by (repeat first|exact bel0|assumption|refine bel1 ?_|refine bel2 ?_|refine bel3 ?_|refine belowT ?_ (by assumption)|refine bel5 ?_ (by simp;try omega))⟩
 ·go_enter Tryz.func43,Tryz.ntmps43
  go_wp2_with fail
  refine (HA.out _ (AV.ok.below hx (B:=w.heap.size) (by (repeat first|exact bel0|assumption|refine bel1 ?_|refine bel2 ?_|refine bel3 ?_|refine belowT ?_ (by assumption)|refine bel5 ?_ (by simp;try omega))) (Nat.le_refl _)) (AV.ok.below hy (B:=w.heap.size) (by (repeat first|exact bel0|assumption|refine bel1 ?_|refine bel2 ?_|refine bel3 ?_|refine belowT ?_ (by assumption)|refine bel5 ?_ (by simp;try omega))) (Nat.le_refl _))).mono ?_
  rintro e w1 ⟨rfl,hb1⟩
  go_wp2
  go_ret
  exact ⟨ret_bool (by rw [HS.out,he];rfl),by (repeat first|exact bel0|assumption|refine bel1 ?_|refine bel2 ?_|refine bel3 ?_|refine belowT ?_ (by assumption)|refine bel5 ?_ (by simp;try omega))⟩
theorem EqL_some (b1 o1 m1 b2 o2 m2 n:Nat) (X Y:List LV) (w:World) (h1:Lasts w (some ⟨b1,o1,none⟩) n m1 X) (h2:Lasts w (some ⟨b2,o2,none⟩) n m2 Y)
  (hr1:∀ i x,X[i]?=some x→∀ j v,x.cells[j]?=some v→w.cell? ⟨b1,o1 + i * 4 + j,none⟩=some v)
  (hr2:∀ i x,Y[i]?=some x→∀ j v,x.cells[j]?=some v→w.cell? ⟨b2,o2 + i * 4 + j,none⟩=some v) :
  Calls Tryz.prog 42 #[.slice (some ⟨b1,o1,none⟩) n m1,.slice (some ⟨b2,o2,none⟩) n m2,.func (Fn.func 43) #[] #[]] w fun e w'=>e=.returned (.bool (sameLs (X.map LV.p) (Y.map LV.p)))∧Below w.heap.size w w':=by
 have hlen1:=hide h1.len
 have hlen2:=hide h2.len
 have hmax:=h1.max
 have hle:=h1.le
 go_enter Tryz.func42,Tryz.ntmps42
 go_wp2
 go_loopw [17] (fun i wr=>∃ k:Nat,k≤n∧i=.int .i64 k∧(X.take k).map LV.p=(Y.take k).map LV.p∧Below w.heap.size w wr) (fun i _=>n - (intOf i).toNat)
 case atStart=>exact ⟨0,by omega,rfl,by simp,Below.refl _ _⟩
 case round=>
  obtain ⟨k,hk,rfl,hp,hbr⟩:=hrel
  have HP:=hide hp
  clear hp
  rename_i wr
  by_cases hlt:k < n
  ·obtain ⟨x,hx⟩:∃ z,X[k]?=some z:=⟨X[k]'(by rw [hlen1.out];exact hlt),by simp⟩
   obtain ⟨y,hy⟩:∃ z,Y[k]?=some z:=⟨Y[k]'(by rw [hlen2.out];exact hlt),by simp⟩
   have ix:=LV.ok.below (h1.ok x (List.mem_of_getElem? hx)) hbr (Nat.le_refl _)
   have iy:=LV.ok.below (h2.ok y (List.mem_of_getElem? hy)) hbr (Nat.le_refl _)
   have HZ:=hide hx
   have HY:=hide hy
   have HS:=hide (fun w' h k=>hsame1_c x y w' h k)
   have HT:Hid (sameL x.p y.p=true→x.p=y.p):=hide (sameL_iff _ _).1
   have HF:Hid (sameL x.p y.p=false→x.p≠y.p):=hide (fun h e=>by rw [(sameL_iff _ _).2 e] at h;cases h)
   have kx:=hr1 k x hx
   have ky:=hr2 k y hy
   clear hx hy
   generalize hsm:sameL x.p y.p=sm at *
   clear hsm
   obtain ⟨s1,⟨e1,t1,a1,n1,c1,d1⟩⟩:=x
   obtain ⟨s2,⟨e2,t2,a2,n2,c2,d2⟩⟩:=y
   dsimp only [LV.v] at HS
   have x0:=keepc hbr (kx 0 _ rfl)
   have x1:=keepc hbr (kx 1 _ rfl)
   have x2:=keepc hbr (kx 2 _ rfl)
   have x3:=keepc hbr (kx 3 _ rfl)
   have y0:=past1 (keepc hbr (ky 0 _ rfl))
   have y1:=past1 (keepc hbr (ky 1 _ rfl))
   have y2:=past1 (keepc hbr (ky 2 _ rfl))
   have y3:=past1 (keepc hbr (ky 3 _ rfl))
   rw [Nat.add_zero] at x0 y0
   clear kx ky
   have hlt':(k:Int) < (n:Int):=by omega
   go_wp2_with fail
   refine (HS.out _ (LV.ok.below ix (B:=wr.heap.size) (by (repeat first|exact bel0|assumption|refine bel1 ?_|refine bel2 ?_|refine bel3 ?_|refine belowT ?_ (by assumption)|refine bel5 ?_ (by simp;try omega))) (Nat.le_refl _)) (LV.ok.below iy (B:=wr.heap.size) (by (repeat first|exact bel0|assumption|refine bel1 ?_|refine bel2 ?_|refine bel3 ?_|refine belowT ?_ (by assumption)|refine bel5 ?_ (by simp;try omega))) (Nat.le_refl _))).mono ?_
   rintro e w9 ⟨rfl,hb9⟩
   have b9:Below w.heap.size w w9:=by (repeat first|exact bel0|assumption|refine bel1 ?_|refine bel2 ?_|refine bel3 ?_|refine belowT ?_ (by assumption)|refine bel5 ?_ (by simp;try omega))
   clear hb9
   cases sm
   ·have HNE:=hide (HF.out rfl)
    clear HF HT
    go_wp2
    go_ret
    refine ⟨ret_bool (sameLs_f fun e=>?_).symm,b9⟩
    have:=congrArg (fun L=>L[k]?) e
    simp only [List.getElem?_map,HZ.out,HY.out,Option.map_some,Option.some.injEq] at this
    exact HNE.out this
   ·have HEQ:=hide (HT.out rfl)
    clear HF HT
    go_wp2
    have e:=HEQ.out
    refine ⟨⟨k + 1,by omega,by go_num,?_,b9⟩,by simp [intOf];omega⟩
    obtain ⟨g1,g2⟩:=List.getElem?_eq_some_iff.1 HZ.out
    obtain ⟨g3,g4⟩:=List.getElem?_eq_some_iff.1 HY.out
    rw [List.take_succ_eq_append_getElem g1,List.take_succ_eq_append_getElem g3,List.map_append,List.map_append,HP.out,g2,g4]
    simpa using e
  ·obtain rfl:k=n:=by omega
   go_wp2
   go_ret
   have hp:=HP.out
   rw [List.take_of_length_le (by rw [hlen1.out];omega),List.take_of_length_le (by rw [hlen2.out];omega)] at hp
   exact ⟨ret_bool (sameLs_t hp).symm,hbr⟩
theorem EqL_ne (a1 a2:Option Addr) (n1 n2 c1 c2:Nat) (fv:Value) (w:World) (hne:n1≠n2) (hm1:n1≤9223372036854775807) (hm2:n2≤9223372036854775807) :
  Calls Tryz.prog 42 #[.slice a1 n1 c1,.slice a2 n2 c2,fv] w fun e w'=>e=.returned (.bool false)∧w'=w:=by
 have hb:((n1:Int) !=(n2:Int))=true:=by simp;omega
 go_enter Tryz.func42,Tryz.ntmps42
 go_wp2
 go_ret
 exact ⟨rfl,rfl⟩
theorem EqL_zero (a1 a2:Option Addr) (c1 c2:Nat) (fv:Value) (w:World) :
  Calls Tryz.prog 42 #[.slice a1 0 c1,.slice a2 0 c2,fv] w fun e w'=>e=.returned (.bool true)∧w'=w:=by
 go_enter Tryz.func42,Tryz.ntmps42
 go_wp2
 refine wp_loop_rounds 1 ?_
 rw [rounds_succ]
 go_wp2
 go_ret
 exact ⟨rfl,rfl⟩
theorem EqL_c (a1 a2:Option Addr) (n1 n2 c1 c2:Nat) (X Y:List LV) (w:World) (h1:Lasts w a1 n1 c1 X) (h2:Lasts w a2 n2 c2 Y) :
  Calls Tryz.prog 42 #[.slice a1 n1 c1,.slice a2 n2 c2,.func (Fn.func 43) #[] #[]] w fun e w'=>e=.returned (.bool (sameLs (X.map LV.p) (Y.map LV.p)))∧Below w.heap.size w w':=by
 by_cases hn:n1=n2
 ·subst hn
  by_cases h0:n1=0
  ·subst h0
   have e1:=h1.len
   have e2:=h2.len
   rw [List.length_eq_zero_iff] at e1 e2
   subst e1 e2
   refine (EqL_zero a1 a2 c1 c2 _ w).mono ?_
   rintro e w' ⟨rfl,rfl⟩
   exact ⟨rfl,Below.refl _ _⟩
  ·rcases h1.row with h|⟨b1,o1,rfl,_,hr1⟩
   ·omega
   ·rcases h2.row with h|⟨b2,o2,rfl,_,hr2⟩
    ·omega
    ·exact EqL_some b1 o1 c1 b2 o2 c2 n1 X Y w h1 h2 hr1 hr2
 ·have m1:=h1.max
  have m2:=h2.max
  have q1:=h1.le
  have q2:=h2.le
  refine (EqL_ne a1 a2 n1 n2 c1 c2 _ w hn (by omega) (by omega)).mono ?_
  rintro e w' ⟨rfl,rfl⟩
  refine ⟨ret_bool (sameLs_f fun e=>hn ?_).symm,Below.refl _ _⟩
  have:=congrArg List.length e
  rw [List.length_map,List.length_map,h1.len,h2.len] at this
  exact this
theorem HSame_c (h f:HV) (w:World) (hk:h.ok w) (hf:f.ok w):Calls Tryz.prog 20 #[h.v,f.v] w fun e w'=>e=.returned (.bool (sameH h.p f.p))∧Below w.heap.size w w':=by
 have HD:=hide (fun w' (h1:h.d.ok w') (h2:f.d.ok w')=>DSame_c h.d f.d w' h1 h2)
 have HL:=hide (fun w' h1 h2=>EqL_c h.a f.a h.n f.n h.c f.c h.L f.L w' h1 h2)
 have HS:Hid (sameH h.p f.p=(sameD h.d.p f.d.p&&sameLs (h.L.map LV.p) (f.L.map LV.p))):=hide rfl
 obtain ⟨x0,x1,bw⟩:=two_boxes w h.cells f.cells 33 33
 have hok:=hk.below bw (Nat.le_refl _)
 have fok:=hf.below bw (Nat.le_refl _)
 generalize sameH _ _=r at *
 generalize sameD _ _=sd at *
 generalize sameLs _ _=sl at *
 rw [show h.v=.agg h.cells.toArray from rfl,show f.v=.agg f.cells.toArray from rfl] at *
 obtain ⟨⟨za,zn,zc,Z,ka,kn,kc,bk,bh,bt⟩,a,n,c,L⟩:=h
 obtain ⟨⟨ya,yn,yc,Y,la,ln,lc,fk,fh,ft⟩,b,m,d,M⟩:=f
 dsimp only [HV.cells,DV.v] at *
 go_enter Tryz.func20,Tryz.ntmps20
 go_wp2_with fail
 refine (HD.out _ hok.d fok.d).mono ?_
 rintro e w1 ⟨rfl,hb1⟩
 have c1:=keepc hb1 (x0.cell 4 _ rfl)
 have c2:=keepc hb1 (x1.cell 4 _ rfl)
 replace hok:=hok.below hb1 (Nat.le_refl _)
 replace fok:=fok.below hb1 (Nat.le_refl _)
 replace bw:=belowT bw hb1
 clear hb1 x0 x1
 cases sd
 ·go_wp2
  go_ret
  exact ⟨ret_bool (by rw [HS.out];rfl),bw⟩
 ·go_wp2_with fail
  refine (HL.out _ hok.l fok.l).mono ?_
  rintro e w2 ⟨rfl,hb2⟩
  go_wp2
  go_ret
  exact ⟨ret_bool (by rw [HS.out];simp),belowT bw hb2⟩
end Go.Proofs.YtabafikicbkkdaaGreatDoor
