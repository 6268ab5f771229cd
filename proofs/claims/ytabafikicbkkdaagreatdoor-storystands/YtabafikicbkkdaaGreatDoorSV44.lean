/- The law's own closures of StoryCalm; no condition but that the world reads as data, the package-level variables are as their texts lay them, and its disk is no greater than a machine bears. -/
import Derived.Test.YtabafikicbkkdaaGreatDoorSV14
import Derived.Test.YtabafikicbkkdaaGreatDoorSV40
import Derived.Test.YtabafikicbkkdaaGreatDoorSV43
import Derived.Test.YtabafikicbkkdaaGreatDoorSV22
import Derived.Test.YtabafikicbkkdaaGreatDoorSV13
import Derived.Test.YtabafikicbkkdaaGreatDoorSV26
import Derived.Test.YtabafikicbkkdaaGreatDoorSV42
import Derived.Laws.EntriesVeiled
namespace Go.Proofs.YtabafikicbkkdaaGreatDoor
open Go.RowKit
set_option linter.unusedVariables false
set_option maxHeartbeats 2000000
set_option maxRecDepth 100000
set_option linter.unusedSimpArgs false
structure Stage (D E:Nat) (w0 w:World) (x:WV):Prop where
 box:Lay w D x.cells
 ok:x.ok w
 sm:x.sm
 off:x.off D
 fn:Lay w E [.func (Fn.func 27) #[] #[.pointer (some ⟨D,0,none⟩)]]
 ne:E≠D
 low:Below w0.heap.size w0 w
 lo:w0.heap.size≤D
theorem Stage.below {D E:Nat} {w0 w w':World} {x:WV} (h:Stage D E w0 w x) (hb:Below w.heap.size w w'):Stage D E w0 w' x:=
 ⟨h.box.below hb,h.ok.below hb (Nat.le_refl _),h.sm,h.off,h.fn.below hb,h.ne,h.low.trans (hb.mono h.low.size),h.lo⟩
def Staged (D E:Nat) (w0:World) (r:PW×Int) (P:PW) (e:Ending) (w':World):Prop:=
 e=.returned (.bool (r.2==0))∧∃ y:WV,y.p=(if r.2=0 then r.1 else P)∧Stage D E w0 w' y
def Drained (D E:Nat) (w0:World) (P:PW) (e:Ending) (w':World):Prop:=e=.returned (.bool true)∧∃ y:WV,y.p=P∧Stage D E w0 w' y
theorem sdo_c (D E:Nat) (w0 w:World) (x:WV) (k q:Int) (hE:Env w0) (h:Stage D E w0 w x) {r:PW×Int} (hr:doW x.p ⟨k,q,0,zeroC⟩=r):Calls Tryz.prog 27 #[.agg #[.int .i64 k,.int .i64 q,.int .i64 0,.int .i64 0,.int .i64 0,.int .i64 0,.int .i64 0,.slice none 0 0],.pointer (some ⟨D,0,none⟩)] w (Staged D E w0 r x.p):=by
 have HDO:=hide (fun w' h1 h2=>WDo_c x ⟨k,q,0,zeroC,none,0,0⟩ w' h1 h2 h.sm (Ints.nilSlice w'))
 rw [show XV.p ⟨k,q,0,zeroC,none,0,0⟩=⟨k,q,0,zeroC⟩ from rfl,hr] at HDO
 clear hr
 have bn:=belowA (Below.refl _ w) (.cells [.int .i64 k,.int .i64 q,.int .i64 0,.int .i64 0,.int .i64 0,.int .i64 0,.int .i64 0,.slice none 0 0].toArray 75)
 replace h:=h.below bn
 have hE1:=hE.below h.low
 have hD:=h.box.lt
 obtain ⟨q0,q1,q2,q3,q4,q5,q6,q7,q8,q9⟩:=h.box.ten
 clear bn
 go_enter Tryz.func27,Tryz.ntmps27
 go_wp2_with fail
 generalize w.alloc (.cells [.int .i64 k,.int .i64 q,.int .i64 0,.int .i64 0,.int .i64 0,.int .i64 0,.int .i64 0,.slice none 0 0].toArray 75)=w1 at *
 refine (HDO.out _ hE1 h.ok).mono ?_
 rintro e w2 ⟨⟨z,rfl,okz,smz,nz,pz⟩,hb⟩
 replace h:=h.below hb
 have hs:=hb.size
 clear hb q0 q1 q2 q3 q4 q5 q6 q7 q8 q9 HDO hE1
 dsimp only [WV.v]
 go_upto_region 2 with fail
 have Cx:=Lay.made w2 z.cells 40
 have bn:=belowA (Below.refl _ w2) (.cells z.cells.toArray 40)
 replace h:=h.below bn
 replace okz:=okz.below bn (Nat.le_refl _)
 have hC:D < w2.heap.size:=by omega
 clear bn
 generalize w2.alloc (.cells z.cells.toArray 40)=w3 at *
 generalize w2.heap.size=C at *
 cases hq:r.2==0
 ·go_wp2
  exact bodyPost_ret (v:=.bool false) (by simp [results,Tryz.results27,go_sem]) rfl ⟨by rw [hq],x,by rw [if_neg (by simpa using hq)],h⟩
 ·obtain ⟨q0,q1,q2,q3,q4,q5,q6,q7,q8,q9⟩:=h.box.ten
  obtain ⟨t0,t1,t2,t3,t4,t5,t6,t7,t8,t9⟩:=Cx.ten
  have li:=h.box.ice
  have bN:=putAll_but D z.cells w3 0
  have l8:=h.box.fill (vs:=z.cells) rfl
  have o8:=okz.but bN.but (nz D hD)
  have f8:=h.fn.butI bN h.ne
  have b8:=h.low.trans (bN.below (B:=w0.heap.size) h.lo)
  obtain ⟨w8,hw8⟩:∃ o,o=putAll w3 D 0 z.cells:=⟨_,rfl⟩
  rw [← hw8] at l8 o8 f8 b8
  have hne:=h.ne
  have hlo:=h.lo
  have hCD:C≠D:=by omega
  have hDC:D≠C:=by omega
  clear h bN
  go_upto_region 4 with fail
  dsimp only [putAll,Nat.reduceAdd] at hw8
  rw [← hw8]
  clear hw8
  go_wp2
  exact bodyPost_ret (v:=.bool true) (by simp [results,Tryz.results27,go_sem]) rfl ⟨by rw [hq],z,by rw [if_pos (by simpa using hq),pz],⟨l8,o8,smz,nz D hD,f8,hne,b8,hlo⟩⟩
theorem sdrain_c (D E:Nat) (w0 w:World) (x:WV) (hE:Env w0) (h:Stage D E w0 w x) {P1 P2 P3:PW} (hp:x.p=P1) (d1:doW P1 ⟨3,0,0,zeroC⟩=(P2,0)) (m1:P1.m.length=1) (d2:doW P2 ⟨3,0,0,zeroC⟩=(P3,0)) (m2:P2.m.length=1) (m3:P3.m=[]):Calls Tryz.prog 29 #[.pointer (some ⟨D,0,none⟩),.pointer (some ⟨E,0,none⟩)] w (Drained D E w0 P3):=by
 have n1:x.mn=1:=by rw [← h.ok.m.len];rw [← hp] at m1;simpa [WV.p] using m1
 have HC1:=hide (fun w' (h':Stage D E w0 w' x)=>sdo_c D E w0 w' x 3 0 hE h' (r:=(P2,0)) (by rw [hp];exact d1))
 have HC2:=hide (fun w' (y:WV) (e:y.p=P2) (h':Stage D E w0 w' y)=>sdo_c D E w0 w' y 3 0 hE h' (r:=(P3,0)) (by rw [e];exact d2))
 have M2:=hide m2
 have M3:=hide m3
 clear d1 d2 m1 m2 m3 hp
 have c9:=h.box.cell 9 _ rfl
 rw [n1] at c9
 have cE:=h.fn.cell 0 _ rfl
 go_enter Tryz.func29,Tryz.ntmps29
 go_wp2_with fail
 refine wp_loop_rounds 3 ?_
 rw [rounds_succ]
 go_wp2_with fail
 refine (HC1.out _ h).mono ?_
 rintro e w1 ⟨rfl,y,py,h1⟩
 rw [if_pos rfl] at py
 replace py:y.p=P2:=py
 have n2:y.mn=1:=by rw [← h1.ok.m.len];have:=M2.out;rw [← py] at this;simpa [WV.p] using this
 have PY:=hide py
 clear c9 cE h n1 py
 have c9:=h1.box.cell 9 _ rfl
 rw [n2] at c9
 have cE:=h1.fn.cell 0 _ rfl
 go_wp2_with fail
 rw [rounds_succ]
 go_wp2_with fail
 refine (HC2.out _ y PY.out h1).mono ?_
 rintro e w2 ⟨rfl,z,pz,h2⟩
 rw [if_pos rfl] at pz
 replace pz:z.p=P3:=pz
 have n3:z.mn=0:=by rw [← h2.ok.m.len];have:=M3.out;rw [← pz] at this;simpa [WV.p] using this
 have PZ:=hide pz
 clear c9 cE h1 n2 pz
 have c9:=h2.box.cell 9 _ rfl
 rw [n3] at c9
 go_wp2_with fail
 rw [rounds_succ]
 go_wp2
 exact bodyPost_ret (v:=.bool true) (by simp [results,Tryz.results29,go_sem]) rfl ⟨rfl,z,PZ.out,h2⟩
theorem waits_c (y:NV) (w:World):Calls Tryz.prog 31 #[y.v] w fun e w'=>e=.returned (.bool y.w)∧Below w.heap.size w w':=by
 have xb:=Lay.made w y.cells 62
 have q1:=xb.cell 1 _ rfl
 dsimp only [NV.cells,NV.v] at *
 go_enter Tryz.func31,Tryz.ntmps31
 go_wp2
 go_ret
 exact ⟨rfl,by (repeat first|exact bel0|assumption|refine bel1 ?_|refine bel2 ?_|refine bel3 ?_|refine belowT ?_ (by assumption)|refine bel5 ?_ (by simp;try omega))⟩
theorem nobody_c (a:Option Addr) (n c:Nat) (X:List NV) (w:World) (h:Rows' handK w a n c X) (hw:∀ x∈X,x.w=false):Calls Tryz.prog 30 #[.slice a n c,.func (Fn.func 31) #[] #[]] w fun e w'=>e=.returned (.bool false)∧Below w.heap.size w w':=by
 have hL:=h.len
 have hle:=h.le
 have hmax:=h.max
 have HI:Calls Tryz.prog 47 #[.slice a n c,.func (Fn.func 31) #[] #[]] w fun e w'=>e=.returned (.int .i64 (-1))∧Below w.heap.size w w':=by
  go_enter Tryz.func47,Tryz.ntmps47
  go_wp2
  go_loopw [8] (fun i wr=>∃ wz:World,wz=wr∧∃ k:Nat,k≤n∧i=.int .i64 (k:Nat)∧Below w.heap.size w wz) (fun i _=>n - (intOf i).toNat)
  case atStart=>exact ⟨_,rfl,0,by omega,rfl,Below.refl _ _⟩
  case round=>
   obtain ⟨wr,rfl,k,hk,rfl,bw⟩:=hrel
   by_cases hlt:k < n
   ·obtain ⟨b,off,x,rfl,hx,_,hbl,kv⟩:=h.at hlt
    have hxw:=hw x (List.mem_of_getElem? hx)
    obtain ⟨c0,c1,c2,c3,c4,c5,c6,c7⟩:=NV.lay (b:=b) (o:=off + k * 8) (fun i v q=>(by rw [bw.cell (p:=⟨b,_,none⟩) hbl];exact kv i v q:wr.cell? ⟨b,off + k * 8 + i,none⟩=some v))
    have HW:=hide (fun w'=>waits_c x w')
    dsimp only [NV.v] at HW
    rw [hxw] at HW
    have hlt':(k:Int) < (n:Int):=by omega
    clear hx kv
    rw [hxw] at c1
    go_wp2_with (go_at_call 31;refine (HW.out _).mono ?_;rintro e w9 ⟨rfl,hb9⟩)
    exact ⟨⟨_,rfl,k + 1,by omega,by go_num,by (repeat first|exact bel0|assumption|refine bel1 ?_|refine bel2 ?_|refine bel3 ?_|refine belowT ?_ (by assumption)|refine bel5 ?_ (by simp;try omega))⟩,by simp [intOf];omega⟩
   ·go_wp2
    go_ret
    exact ⟨rfl,bw⟩
 have HH:=hide HI
 clear HI
 go_enter Tryz.func30,Tryz.ntmps30
 go_wp2_with fail
 refine HH.out.mono ?_
 rintro e w1 ⟨rfl,hb⟩
 go_wp2
 go_ret
 exact ⟨rfl,hb⟩
end Go.Proofs.YtabafikicbkkdaaGreatDoor
namespace Go.Proofs.YtabafikicbkkdaaGreatDoor
open Go.RowKit
set_option linter.unusedVariables false
set_option maxHeartbeats 2000000
set_option maxRecDepth 100000
set_option linter.unusedSimpArgs false
theorem playedCalm_c  (la:Option Addr) (ln lc:Nat) (L:List XV) (u w:World) (Inv:Nat→World→List PR→List PA→Prop) (hE:Env u) (hL:Rows' hapK u la ln lc L) (hu:Below u.heap.size u w)
  (h0:∀ k w',w.heap.size≤k→Below w.heap.size w w'→Inv k w' [] [])
  (h1:∀ k w' w'' A T,Inv k w' A T→Below w'.heap.size w' w''→Inv k w'' A T)
  (h2:∀ k w' w'' A T,w.heap.size≤k→Inv k w' A T→ButI k w' w''→Inv k w'' A T)
  (hF:∀ (k:Nat) (x:WV) w' A T A' H' T',w.heap.size≤k→k < w'.heap.size→Inv k w' A T→Env w'→x.ok w'→x.sm→Saga x.p A' H' T'→Grows A T A' T'→Calls Tryz.prog 26 #[x.v] w' fun e w''=>e=.returned (.bool true)∧Inv k w'' A' T'∧Hops u.heap.size w.heap.size w' w'') :
  Calls Tryz.prog 8 #[.slice la ln lc,.func (Fn.func 26) #[] #[]] w fun e w'=>(∃ (x:WV) (A:List PR) (H:PH) (T:List PA),e=.returned (.tuple #[x.v,.bool true])∧x.ok w'∧x.sm∧x.new w.heap.size∧Saga x.p A H T)∧Below u.heap.size w w':=by
 have hlm:=hL.max
 have hll:=hL.le
 have hLl:=hL.len
 have huw:=hu.size
 obtain ⟨mm,hmm⟩:∃ mm:Nat,min ln 90=mm:=⟨_,rfl⟩
 have hm1:mm≤ln:=by omega
 have hmi:min (ln:Int) 90=(mm:Int):=by omega
 have hj0:(0:Int)≤(mm:Int):=by omega
 have hj1:(mm:Int)≤(lc:Int):=by omega
 have hj2:mm≤lc:=by omega
 have hj3:¬ ((mm:Int) < 0):=by omega
 have hj4:¬ ((lc:Int) < (mm:Int)):=by omega
 have H0:=hide h0
 have H1:=hide h1
 have H2:=hide h2
 have HF:=hide hF
 clear h0 h1 h2 hF
 have xR:=Lay.made w [.slice none 0 0,.slice none 0 0,.int .i64 0,.int .i64 0,.slice none 0 0,.slice none 0 0,.slice none 0 0,.bool false,.slice none 0 0,.slice none 0 0] 40
 have bw:=belowA (Below.refl _ w) (.cells [.slice none 0 0,.slice none 0 0,.int .i64 0,.int .i64 0,.slice none 0 0,.slice none 0 0,.slice none 0 0,.bool false,.slice none 0 0,.slice none 0 0].toArray 40)
 go_enter Tryz.func8,Tryz.ntmps8
 go_wp2_with fail
 generalize w.alloc (.cells [.slice none 0 0,.slice none 0 0,.int .i64 0,.int .i64 0,.slice none 0 0,.slice none 0 0,.slice none 0 0,.bool false,.slice none 0 0,.slice none 0 0].toArray 40)=w1 at *
 refine (WNew_c _).mono ?_
 rintro e w2 ⟨⟨y,rfl,oky,smy,ny,py⟩,hb⟩
 have hl1:=xR.lt
 replace xR:=xR.below hb
 replace bw:=belowT bw hb
 replace ny:=ny.mono (show w.heap.size + 1≤_ by omega)
 clear hb
 have hs2:=bw.size
 dsimp only [WV.v]
 go_upto_region 2 with fail
 have okW:=oky.off (Nat.le_refl _)
 have hNl:=xR.lt
 have Nx:=Lay.made w2 y.cells 40
 have bn:=belowA (Below.refl _ w2) (.cells y.cells.toArray 40)
 replace xR:=xR.below bn
 replace oky:=oky.below bn (Nat.le_refl _)
 replace bw:=belowT bw bn
 clear bn
 generalize w2.alloc (.cells y.cells.toArray 40)=w3 at *
 generalize w2.heap.size=N at *
 have hNw:w.heap.size < N:=hNl
 have hI:=H0.out N _ (by omega) bw
 have hsg:Saga y.p [] freshH []:=by rw [py];exact Saga.fresh
 clear py hs2 hl1
 replace bw:Below u.heap.size w w3:=bw.mono huw
 go_wp2_with fail
 go_loopw [18] (fun i wr=>∃ wz:World,wz=wr∧∃ (j:Nat) (x:WV) (A:List PR) (H:PH) (T:List PA),j≤mm∧i=.int .i64 (j:Nat)∧Lay wz N x.cells∧x.ok wz∧x.sm∧x.new (w.heap.size + 1)∧x.off N∧Saga x.p A H T∧Inv N wz A T∧Lay wz w.heap.size [.slice none 0 0,.slice none 0 0,.int .i64 0,.int .i64 0,.slice none 0 0,.slice none 0 0,.slice none 0 0,.bool false,.slice none 0 0,.slice none 0 0]∧Below u.heap.size w wz) (fun i _=>mm - (intOf i).toNat)
 case atStart=>exact ⟨_,rfl,0,y,[],freshH,[],by omega,rfl,Nx,oky,smy,ny,okW,hsg,hI,xR,bw⟩
 case round=>
  clear Nx oky smy ny okW hsg hI xR bw
  obtain ⟨wr,rfl,j,x,A,H,T,hj,rfl,lz,okz,smz,nz,oz,hsg,hI,xR,bw⟩:=hrel
  have hs0:=bw.size
  have HSG:=hide hsg
  have HI:=hide hI
  clear hsg hI
  by_cases hlt:j < mm
  ·obtain ⟨b,off,v,rfl,hv,hvk,hbl,kv⟩:=hL.at (show j < ln by omega)
   have buw:=hu.trans bw
   obtain ⟨y0,y1,y2,y3,y4,y5,y6,y7⟩:=XV.lay (b:=b) (o:=off + j * 8) (fun i z h=>(by rw [buw.cell (p:=⟨b,_,none⟩) hbl];exact kv i z h:wr.cell? ⟨b,off + j * 8 + i,none⟩=some z))
   have HDO:=hide (fun w' h1 h2 h3=>WDo_c x v w' h1 h2 smz h3)
   have HST:=hide (fun k=>HSG.out.step (e:=v.p) k)
   have HNX:=hide hvk
   generalize doW x.p v.p=dw at *
   have hlt':(j:Int) < (mm:Int):=by omega
   clear hv kv hvk
   go_upto_region 5 with fail
   have bn:=belowA (Below.refl _ wr) (.cells [.int .i64 v.k,.int .i64 v.w,.int .i64 v.n,.int .i64 v.c.k,.int .i64 v.c.z,.int .i64 v.c.n,.int .i64 v.c.at',.slice v.ca v.cn v.cc].toArray 75)
   have xv:=Lay.made wr [.int .i64 v.k,.int .i64 v.w,.int .i64 v.n,.int .i64 v.c.k,.int .i64 v.c.z,.int .i64 v.c.n,.int .i64 v.c.at',.slice v.ca v.cn v.cc] 75
   replace lz:=lz.below bn
   replace okz:=okz.below bn (Nat.le_refl _)
   replace xR:=xR.below bn
   replace HI:=hide (H1.out _ _ _ _ _ HI.out bn)
   replace bw:=bw.trans (bn.mono (show u.heap.size≤wr.heap.size by omega))
   have s5:=bn.size
   clear bn y0 y1 y2 y3 y4 y5 y6 y7
   generalize wr.alloc (.cells [.int .i64 v.k,.int .i64 v.w,.int .i64 v.n,.int .i64 v.c.k,.int .i64 v.c.z,.int .i64 v.c.n,.int .i64 v.c.at',.slice v.ca v.cn v.cc].toArray 75)=w5 at *
   have hT:=xv.lt
   generalize wr.heap.size=T1 at *
   have buw5:=hu.trans bw
   have hvk5:=Ints.below HNX.out buw5 (Nat.le_refl _)
   have hE5:=hE.below buw5
   obtain ⟨q0,q1,q2,q3,q4,q5,q6,q7,q8,q9⟩:=lz.ten
   have v0:=xv.cell 0 _ rfl
   have v1:=xv.cell 1 _ rfl
   have v2:=xv.cell 2 _ rfl
   have v3:=xv.cell 3 _ rfl
   have v4:=xv.cell 4 _ rfl
   have v5:=xv.cell 5 _ rfl
   have v6:=xv.cell 6 _ rfl
   have v7:=xv.cell 7 _ rfl
   have hN5:=lz.lt
   dsimp only [XV.v] at HDO
   go_wp2_with fail
   refine (HDO.out _ hE5 okz hvk5).mono ?_
   rintro e w6 ⟨⟨z,rfl,okn,smn,nn,pn⟩,hb⟩
   have s56:=hb.size
   replace lz:=lz.below hb
   replace okz:=okz.below hb (Nat.le_refl _)
   replace xR:=xR.below hb
   replace HI:=hide (H1.out _ _ _ _ _ HI.out hb)
   replace bw:=bw.trans (hb.mono (show u.heap.size≤w5.heap.size by omega))
   clear hb q0 q1 q2 q3 q4 q5 q6 q7 q8 q9 v0 v1 v2 v3 v4 v5 v6 v7 xv hE5 hvk5 HDO HNX buw5 buw
   dsimp only [WV.v]
   go_upto_region 6 with fail
   have bn:=belowA (Below.refl _ w6) (.cells z.cells.toArray 40)
   have xz:=Lay.made w6 z.cells 40
   replace lz:=lz.below bn
   replace okz:=okz.below bn (Nat.le_refl _)
   replace okn:=okn.below bn (Nat.le_refl _)
   replace xR:=xR.below bn
   replace HI:=hide (H1.out _ _ _ _ _ HI.out bn)
   replace bw:=bw.trans (bn.mono (show u.heap.size≤w6.heap.size by omega))
   have s67:=bn.size
   clear bn
   generalize w6.alloc (.cells z.cells.toArray 40)=w7 at *
   have hT2:=xz.lt
   generalize w6.heap.size=T2 at *
   cases h0:dw.2==0
   ·go_wp2
    exact ⟨⟨_,rfl,j + 1,x,A,H,T,by omega,by go_num,lz,okz,smz,nz,oz,HSG.out,HI.out,xR,bw⟩,by simp [intOf];omega⟩
   ·obtain ⟨A',H',T',hsg',hgr⟩:=HST.out (by simpa using h0)
    rw [← pn] at hsg'
    have HS':=hide hsg'
    have HG:=hide hgr
    clear hsg' hgr pn HST HSG
    obtain ⟨q0,q1,q2,q3,q4,q5,q6,q7,q8,q9⟩:=lz.ten
    obtain ⟨t0,t1,t2,t3,t4,t5,t6,t7,t8,t9⟩:=xz.ten
    have li:=lz.ice
    have hNT:N≠T2:=by omega
    have hTN:T2≠N:=by omega
    have hnN:=nn N (by omega)
    have nw8:z.new (w.heap.size + 1):=nn.mono (by omega)
    have bN:=putAll_but N z.cells w7 0
    have l8:=lz.fill (vs:=z.cells) rfl
    have o8:=okn.but bN.but hnN
    have r8:=xR.butI bN (show w.heap.size≠N by omega)
    have b8:=bw.trans (bN.below (B:=u.heap.size) (show u.heap.size≤N by omega))
    have s8:=bN.but.size
    have i8:=hide (H2.out _ _ _ _ _ (show w.heap.size≤N by omega) HI.out bN)
    obtain ⟨w8,hw8⟩:∃ o,o=putAll w7 N 0 z.cells:=⟨_,rfl⟩
    rw [← hw8] at l8 o8 r8 b8 s8 i8
    go_upto_region 8 with fail
    dsimp only [putAll,Nat.reduceAdd] at hw8
    rw [← hw8]
    clear hw8 q0 q1 q2 q3 q4 q5 q6 q7 q8 q9 t0 t1 t2 t3 t4 t5 t6 t7 t8 t9 li bN lz xR bw xz okz okn HI hNT hTN
    have hN8:=l8.lt
    have HC:=hide (HF.out N z w8 A T A' H' T' (by omega) hN8 i8.out (hE.below (hu.trans b8)) o8 smn HS'.out HG.out)
    dsimp only [WV.v] at HC
    obtain ⟨q0,q1,q2,q3,q4,q5,q6,q7,q8,q9⟩:=l8.ten
    go_wp2_with fail
    refine HC.out.mono ?_
    rintro e w9 ⟨rfl,i9,hop⟩
    have l9:=hop.lay l8 (by omega)
    have o9:=hop.world o8 (nw8.mono (by omega))
    have r9:=hop.lay r8 (Nat.le_refl _)
    have b9:=b8.trans (hop.keep (by omega))
    have I9:=hide i9
    clear q0 q1 q2 q3 q4 q5 q6 q7 q8 q9 hop l8 o8 r8 b8 i8 i9 HC
    go_wp2
    exact ⟨⟨_,rfl,j + 1,z,A',H',T',by omega,by go_num,l9,o9,smn,nw8,hnN,HS'.out,I9.out,r9,b9⟩,by simp [intOf];omega⟩
  ·obtain rfl:j=mm:=by omega
   obtain ⟨q0,q1,q2,q3,q4,q5,q6,q7,q8,q9⟩:=lz.ten
   obtain ⟨e0,e1,e2,e3,e4,e5,e6,e7,e8,e9⟩:=Lay.ten (x:=WV.zero) xR
   have ice:=xR.ice
   dsimp only [WV.zero,HV.zero,DV.zero,KV.zero,zeroB] at e0 e1 e2 e3 e4 e5 e6 e7 e8 e9
   have bt:=putAll_but w.heap.size x.cells wr 0
   have ok9:=okz.but bt.but (nz _ (by omega))
   have zB:=xR.fill (vs:=x.cells) rfl
   have b9:=bw.trans (bt.below (B:=u.heap.size) huw)
   dsimp only [putAll,Nat.reduceAdd] at ok9 zB b9
   clear okz bt lz xR bw HI
   go_wp2
   obtain ⟨z0,z1,z2,z3,z4,z5,z6,z7,z8,z9⟩:=zB.ten
   exact bodyPost_ret (v:=.tuple #[x.v,.bool true]) (by simp [results,Tryz.results8,go_sem,z0,z1,z2,z3,z4,z5,z6,z7,z8,z9]) rfl
    ⟨⟨x,A,H,T,rfl,ok9,smz,nz.mono (by omega),HSG.out⟩,b9⟩
theorem scalm1_c (x:WV) (w:World):Calls Tryz.prog 26 #[x.v] w fun e w'=>e=.returned (.bool true)∧Below w.heap.size w w':=by
 go_enter Tryz.func26,Tryz.ntmps26
 go_wp2
 go_ret
 exact ⟨rfl,by (repeat first|exact bel0|assumption|refine bel1 ?_|refine bel2 ?_|refine bel3 ?_|refine belowT ?_ (by assumption)|refine bel5 ?_ (by simp;try omega))⟩
theorem Saga.lit {x:PW} {A:List PR} {H:PH} {T:List PA} (h:Saga x A H T):∃ A' H' T',Saga (if (doW x ⟨7,0,0,zeroC⟩).2=0 then (doW x ⟨7,0,0,zeroC⟩).1 else x) A' H' T'∧(if (doW x ⟨7,0,0,zeroC⟩).2=0 then (doW x ⟨7,0,0,zeroC⟩).1 else x).u=true:=by
 cases hu:x.u
 ·obtain ⟨e1,e2⟩:=h.boots hu
  rw [if_pos e1]
  obtain ⟨A',H',T',g,_⟩:=h.step e1
  exact ⟨A',H',T',g,e2⟩
 ·rw [if_neg (boots_not hu)]
  exact ⟨A,H,T,h,hu⟩
def mlen (D:Nat) (w:World):Nat:=match w.cell? ⟨D,9,none⟩ with
 |some (.slice _ n _)=>n
 |_=>0
theorem Stage.mlen {D E:Nat} {w0 w:World} {x:WV} (h:Stage D E w0 w x):mlen D w=x.mn:=by
 unfold Go.Proofs.YtabafikicbkkdaaGreatDoor.mlen
 rw [h.box.cell 9 _ rfl]
theorem Stage.hand {D E:Nat} {w0 w:World} {x:WV} (h:Stage D E w0 w x) (hl:x.p.n.length=3):x.nn=3∧x.N.length=3:=by
 have e:x.N.length=3:=by simpa [WV.p] using hl
 exact ⟨by rw [← h.ok.n.len,e],e⟩
theorem StoryCalm_c (la:Option Addr) (ln lc:Nat) (L:List XV) (w:World) (hE:Env w) (hL:Rows' hapK w la ln lc L):Calls Tryz.prog 7 #[.slice la ln lc] w fun e w'=>e=.returned (.bool true)∧Below w.heap.size w w':=by
 have HP:=hide (playedCalm_c la ln lc L w w (fun _ _ _ _=>True) hE hL (Below.refl _ _) (fun _ _ _ _=>trivial) (fun _ _ _ _ _ _ _=>trivial) (fun _ _ _ _ _ _ _ _=>trivial) (fun k x w' A T A' H' T' _ _ _ hE' hx hs hg _=>(scalm1_c x w').mono fun e w'' ⟨h1,h2⟩=>⟨h1,trivial,.low h2⟩))
 go_enter Tryz.func7,Tryz.ntmps7
 go_wp2_with fail
 refine HP.out.mono ?_
 rintro e w1 ⟨⟨x,A,H,T,rfl,okx,smx,nx,hsg⟩,bw⟩
 have HSG:=hide hsg
 have hsz:=bw.size
 clear hsg HP
 dsimp only [WV.v]
 go_upto_region 2 with fail
 have xD:=Lay.made w1 x.cells 40
 have bn:=belowA (Below.refl _ w1) (.cells x.cells.toArray 40)
 have hoff:=okx.off (Nat.le_refl _)
 replace okx:=okx.below bn (Nat.le_refl _)
 replace bw:=belowT bw bn
 clear bn
 generalize w1.alloc (.cells x.cells.toArray 40)=w2 at *
 generalize w1.heap.size=D at *
 go_wp2_with fail
 refine (told_w _ (hE.below bw)).mono ?_
 rintro e w3 ⟨rfl,hb⟩
 replace xD:=xD.below hb
 replace okx:=okx.below hb (Nat.le_refl _)
 replace bw:=belowT bw hb
 clear hb
 have hDl:=xD.lt
 go_upto_region 5 with fail
 have xE:=Lay.made w3 [.func (Fn.func 27) #[] #[.pointer (some ⟨D,0,none⟩)]] 78
 have bn:=belowA (Below.refl _ w3) (.cells [.func (Fn.func 27) #[] #[.pointer (some ⟨D,0,none⟩)]].toArray 78)
 replace xD:=xD.below bn
 replace okx:=okx.below bn (Nat.le_refl _)
 replace bw:=belowT bw bn
 clear bn
 generalize w3.alloc (.cells [.func (Fn.func 27) #[] #[.pointer (some ⟨D,0,none⟩)]].toArray 78)=w4 at *
 generalize w3.heap.size=E at *
 have hED:E≠D:=by omega
 have st:Stage D E w w4 x:=⟨xD,okx,smx,hoff,xE,hED,bw,hsz⟩
 clear okx smx nx hoff bw
 have HB:=hide (sdo_c D E w w4 x 7 0 hE st (r:=doW x.p ⟨7,0,0,zeroC⟩) rfl)
 have cE:=xE.cell 0 _ rfl
 clear st
 go_wp2_with fail
 refine HB.out.mono ?_
 rintro e w5 ⟨rfl,y,py,st⟩
 obtain ⟨A1,H1,T1,hsg,hu⟩:=HSG.out.lit
 rw [← py] at hsg hu
 have HS1:=hide hsg
 have HU1:=hide hu
 clear HB HSG cE xD xE py hsg hu hDl
 go_wp2_with fail
 go_loopw [] (fun wr=>∃ wz:World,wz=wr∧∃ (y:WV) (A:List PR) (H:PH) (T:List PA),Stage D E w wz y∧Saga y.p A H T∧y.p.u=true) (fun wr=>mlen D wr)
 case atStart=>exact ⟨_,rfl,y,A1,H1,T1,st,HS1.out,HU1.out⟩
 case round=>
  clear st HS1 HU1 y
  obtain ⟨wr,rfl,y,A,H,T,st,hsg,hu⟩:=hrel
  have HML:=hide st.mlen
  have HSG:=hide hsg
  have HU:=hide hu
  clear hsg hu
  by_cases hm:y.mn=0
  ·have c9:=st.box.cell 9 _ rfl
   rw [hm] at c9
   have HYN:=hide (st.hand (checkW_ok HSG.out.right).1)
   have hm0:y.p.m=[]:=by
    have:=st.ok.m.len
    rw [hm] at this
    simp [WV.p,List.eq_nil_of_length_eq_zero this]
   have HM0:=hide hm0
   have HDN:=hide (fun w' h1 h2=>Done_w y w' h1 h2 st.sm)
   rw [HSG.out.doneS] at HDN
   dsimp only [WV.v] at HDN
   rw [hm] at HDN
   have hbl:=hE.below st.low
   obtain ⟨q0,q1,q2,q3,q4,q5,q6,q7,q8,q9⟩:=st.box.ten
   clear hm0 hm q9
   go_wp2_with fail
   refine (HDN.out _ hbl st.ok).mono ?_
   rintro e w5 ⟨⟨da,dn,dc,X,rfl,hX,-,pX⟩,hb⟩
   replace st:=st.below hb
   have hdn:dn=A.length:=by rw [← hX.len,← List.length_map (f:=RV.p),pX]
   have hA80:=HSG.out.len
   clear hb hbl q0 q1 q2 q3 q4 q5 q6 q7 q8 c9 HDN HML hX pX
   have hwr:IntKind.i64.wrap ((dn:Int) + 3)=(dn:Int) + 3:=IntWalk.i64_in _ ⟨by omega,by omega⟩
   by_cases hfull:80 < dn + 3
   ·have hf1:(80:Int) < (dn:Int) + 3:=by omega
    go_wp2
    go_ret
    exact ⟨rfl,st.low⟩
   ·have hf1:¬ (80:Int) < (dn:Int) + 3:=by omega
    have hf2:A.length + 3≤80:=by omega
    have HF:=hide hf2
    obtain ⟨y3,y3'⟩:=HYN.out
    have q8:=st.box.cell 8 _ rfl
    rw [y3] at q8
    clear hf2 hdn hfull hA80 y3 y3'
    go_wp2_with fail
    go_loopw [52] (fun i wq=>∃ wz:World,wz=wq∧∃ (k:Nat) (y:WV) (A:List PR) (H:PH) (T:List PA),k≤3∧i=.int .i64 (k:Nat)∧Stage D E w wz y∧Saga y.p A H T∧y.p.u=true∧y.p.m=[]∧A.length + (3 - k)≤80∧∀ j:Nat,j < k→(handW y.p (j:Int)).w=false) (fun i _=>3 - (intOf i).toNat)
    case atStart=>exact ⟨_,rfl,0,y,A,H,T,by omega,rfl,st,HSG.out,HU.out,HM0.out,by have:=HF.out;omega,fun j hj=>by omega⟩
    case round=>
     clear st HSG HU HM0 HF HYN q8
     obtain ⟨wq,rfl,k,y,A,H,T,hk,rfl,st,hsg,hu,hm,hA,hws⟩:=hrel
     obtain ⟨y3,y3'⟩:=st.hand (checkW_ok hsg.right).1
     obtain ⟨nb,no,hna,hnb,hnc⟩:=st.ok.n.lies (show 0 < y.nn by omega)
     have q8:=st.box.cell 8 _ rfl
     rw [hna,y3] at q8
     have cE:=st.fn.cell 0 _ rfl
     have HSG:=hide hsg
     have HU:=hide hu
     have HM:=hide hm
     have HWS:=hide hws
     have HA:=hide hA
     have HNN:=hide y3
     by_cases hlt:k < 3
     ·obtain ⟨z,hz⟩:∃ z,y.N[k]?=some z:=⟨_,List.getElem?_eq_getElem (by omega)⟩
      have kw:wq.cell? ⟨nb,no + k * 8 + 1,none⟩=some (.bool z.w):=hnc k z hz 1 _ rfl
      have hzw:(handW y.p (k:Int)).w=z.w:=by
       unfold handW
       simp [WV.p,List.getD,hz,NV.p]
      have hlt':(k:Int) < 3:=by omega
      have hk0:(0:Int)≤(k:Int):=by omega
      have HZW:=hide hzw
      clear hz hzw hsg hu hm hws hA hnc y3 hna
      cases hw:z.w
      ·rw [hw] at kw
       go_wp2
       exact ⟨⟨_,rfl,k + 1,y,A,H,T,by omega,by go_num,st,HSG.out,HU.out,HM.out,by have:=HA.out;omega,fun j hj=>by
        by_cases c:j=k
        ·subst c;rw [HZW.out,hw]
        ·exact HWS.out j (by omega)⟩,by simp [intOf];omega⟩
      ·rw [hw] at kw
       obtain ⟨x1,x2,x3,A',H',T',d1,n1,d2,n2,d3,n3,u3,g3,l3,w3',o3⟩:=HSG.out.calm HU.out HM.out (by have:=HA.out;omega) hlt (by rw [HZW.out,hw])
       have HC:=hide (sdo_c D E w wq y 2 k hE st d1)
       have HD:=hide (fun w' (y1:WV) (e:y1.p=x1) (s:Stage D E w w' y1)=>sdrain_c D E w w' y1 hE s e d2 n1 d3 n2 n3)
       have HG3:=hide g3
       have HU3:=hide u3
       have HN3:=hide n3
       have HL3:=hide l3
       have HW3:=hide w3'
       have HO3:=hide o3
       clear d1 n1 d2 n2 d3 n3 u3 g3 l3 w3' o3 st
       go_wp2_with fail
       refine HC.out.mono ?_
       rintro e w6 ⟨rfl,y1,p1,st1⟩
       rw [if_pos rfl] at p1
       replace p1:y1.p=x1:=p1
       have HD1:=hide (HD.out _ y1 p1 st1)
       clear p1 kw q8 cE HC HD
       go_wp2_with fail
       refine HD1.out.mono ?_
       rintro e w7 ⟨rfl,y2,p2,st2⟩
       have HP2:=hide p2
       clear p2 HD1 st1
       go_wp2
       exact ⟨⟨_,rfl,k + 1,y2,A',H',T',by omega,by go_num,st2,by rw [HP2.out];exact HG3.out,by rw [HP2.out];exact HU3.out,by rw [HP2.out];exact HN3.out,by have:=HA.out;have:=HL3.out;omega,fun j hj=>by
        rw [HP2.out]
        by_cases c:j=k
        ·subst c;exact HW3.out
        ·rw [HO3.out j c];exact HWS.out j (by omega)⟩,by simp [intOf];omega⟩
     ·obtain rfl:k=3:=by omega
      have hall:∀ z∈y.N,z.w=false:=fun z hz=>by
       obtain ⟨i,hi⟩:=List.getElem?_of_mem hz
       have hi3:i < 3:=by have:=(List.getElem?_eq_some_iff.1 hi).1;omega
       have:=HWS.out i hi3
       unfold handW at this
       simpa [WV.p,List.getD,hi,NV.p] using this
      have HB:=hide (nobody_c y.na y.nn y.nc y.N wq st.ok.n hall)
      rw [hna,y3] at HB
      clear hsg hu hm hws hA hnc hall y3 hna
      go_wp2_with fail
      refine HB.out.mono ?_
      rintro e w8 ⟨rfl,hb⟩
      go_wp2
      go_ret
      exact ⟨rfl,st.low.trans (hb.mono st.low.size)⟩
  ·have hmp:0 < y.mn:=by omega
   have hmi:(0:Int) < (y.mn:Int):=by omega
   have hne:y.p.m≠[]:=fun e=>by
    have:=st.ok.m.len
    have e2:=congrArg List.length e
    simp [WV.p] at e2
    rw [e2] at this
    simp at this
    omega
   have HC:=hide (sdo_c D E w wr y 5 0 hE st (loses HSG.out.right hne))
   have HG:=hide (HSG.out.gone 0)
   have HMN:=hide st.ok.m.len
   have c9:=st.box.cell 9 _ rfl
   have cE:=st.fn.cell 0 _ rfl
   clear hm hne st
   go_wp2_with fail
   refine HC.out.mono ?_
   rintro e w6 ⟨rfl,z,pz,st⟩
   rw [if_pos rfl] at pz
   replace pz:z.p=goneW y.p 0:=pz
   have hz:z.mn + 1=y.mn:=by
    have e1:=st.ok.m.len
    have e2:=congrArg (fun x=>x.m.length) pz
    simp only [WV.p,goneW,List.length_map,List.length_eraseIdx] at e2
    rw [← e1,e2,← HMN.out]
    rw [if_pos (by rw [HMN.out];exact hmp)]
    have:=HMN.out
    omega
   have hg:=HG.out
   rw [← pz] at hg
   have HG2:=hide hg
   have hu:z.p.u=true:=by rw [pz];exact HU.out
   have HU2:=hide hu
   have HML2:=hide st.mlen
   clear c9 cE hg hu pz HC HG
   go_wp2
   exact ⟨⟨_,rfl,z,A,H,T,st,HG2.out,HU2.out⟩,by rw [HML2.out,HML.out];omega⟩
end Go.Proofs.YtabafikicbkkdaaGreatDoor
