/- WorldKeeps answers true for every world and happening, and leaves all that was there as it was; no condition but that the package-level variables are as their texts lay them, and that the disk is no greater than a machine bears. -/
import Derived.Test.YtnnngphfmclegaaGreatDoorWU45
import Derived.Test.YtnnngphfmclegaaGreatDoorWU20
import Derived.Deep.RegionHeld3
import Derived.Test.YtnnngphfmclegaaGreatDoorWU8
import Derived.Lib.AppendZeros
import Derived.Test.YtnnngphfmclegaaGreatDoorWU13
import Derived.Test.YtnnngphfmclegaaGreatDoorWU38
namespace Go.Proofs.YtnnngphfmclegaaGreatDoor
open Go.RowKit
set_option linter.unusedVariables false
set_option maxHeartbeats 8000000
set_option maxRecDepth 100000
set_option linter.unusedSimpArgs false
theorem WorldKeeps_c (x:WV) (e:XV) (w:World) (hE:Env w) (hk:x.ok w) (hs:x.sm) (he:e.ok w):Calls Tryz.prog 5 #[x.v,e.v] w fun e w'=>e=.returned (.bool true)∧Below w.heap.size w w':=by
 have x0:=Lay.made w x.cells 37
 have b0:=belowA (Below.refl _ w) (.cells x.cells.toArray 37)
 have e0:=Lay.made1 w (.cells x.cells.toArray 37) e.cells 46
 have b1:=belowA (Below.refl _ (w.alloc (.cells x.cells.toArray 37))) (.cells e.cells.toArray 46)
 replace x0:=x0.below b1
 have bw:=belowT b0 b1
 replace hk:=hk.below bw (Nat.le_refl _)
 replace he:e.ok _:=Ints.below he bw (Nat.le_refl _)
 replace hE:=hE.below bw
 have D1:=hide (fun w' h1 h2 h3=>WDo_k x e rfl rfl w' h1 h2 hs h3)
 have HK:=hide (fun k=>world_keeps (x:=x.p) (e:=e.p) k)
 have HM:=hide (fun k h=>some_mail (x:=x.p) (e:=e.p) k h)
 have HML:=hide hk.m.len
 rw [show e.v=.agg e.cells.toArray from rfl] at *
 generalize doW x.p e.p=r at *
 rw [show e.p.k=e.k from rfl] at HK HM
 dsimp only [XV.cells] at *
 go_enter Tryz.func5,Tryz.ntmps5
 go_upto_region 1 with fail
 generalize hB:w.heap.size=B at x0 e0
 generalize (w.alloc (.cells x.cells.toArray 37)).alloc (.cells [.int .i64 e.k,.int .i64 e.w,.int .i64 e.n,.int .i64 e.c.k,.int .i64 e.c.z,.int .i64 e.c.n,.int .i64 e.c.at',.slice e.ca e.cn e.cc].toArray 46)=w1 at *
 clear b0 b1
 obtain ⟨q0,q1,q2,q3,q4,q5,q6,q7,q8,q9⟩:=x0.ten
 obtain ⟨r0,r1,r2,r3,r4,r5,r6,r7⟩:=e0.eight
 go_wp2_with fail
 refine (D1.out _ hE hk he).mono ?_
 rintro e' w4 ⟨⟨y,rfl,oky,smy,_,py⟩,hb⟩
 have PY:=hide py
 replace x0:=x0.below hb
 replace e0:=e0.below hb
 replace hk:=hk.below hb (Nat.le_refl _)
 replace hE:=hE.below hb
 replace bw:=belowT bw hb
 clear hb q0 q1 q2 q3 q4 q5 q6 q7 q8 q9 r0 r1 r2 r3 r4 r5 r6 r7 D1 he py
 go_upto_region 2 with fail
 have Cx:=Lay.made w4 y.cells 37
 have bn:=belowA (Below.refl _ w4) (.cells y.cells.toArray 37)
 generalize w4.heap.size=C at Cx
 generalize w4.alloc (.cells y.cells.toArray 37)=w5 at *
 replace x0:=x0.below bn
 replace e0:=e0.below bn
 replace hk:=hk.below bn (Nat.le_refl _)
 replace oky:=oky.below bn (Nat.le_refl _)
 replace hE:=hE.below bn
 replace bw:=belowT bw bn
 clear bn
 go_wp2_with fail
 refine (asked_c _ hE).mono ?_
 rintro e' w6 ⟨rfl,hb⟩
 replace x0:=x0.below hb
 replace e0:=e0.below hb
 replace Cx:=Cx.below hb
 replace hk:=hk.below hb (Nat.le_refl _)
 replace oky:=oky.below hb (Nat.le_refl _)
 replace hE:=hE.below hb
 replace bw:=belowT bw hb
 clear hb
 have HAE:=hide asked_c
 cases h1:r.2 !=0
 ·have hz:r.2=0:=by simpa using h1
  obtain ⟨k1,k2,⟨j,k3⟩,k4,k5,k6⟩:=HK.out hz
  obtain ⟨g1,_⟩:=checkW_ok k1
  obtain ⟨g2,g3,_⟩:=checkW_ok k2
  rw [← PY.out] at k2 k3 k4 k5 k6 g2 g3
  have HM2:=hide (HM.out hz)
  have HU:Hid (unlike sameN 3 (x.N.map NV.p) (y.N.map NV.p)≤1):=hide (unlike_one (fun a=>(sameN_iff a a).2 rfl) 3 _ _ j k3)
  have hx3:x.nn=3:=by rw [← hk.n.len];simpa [WV.p] using g1
  have hy3:y.nn=3:=by rw [← oky.n.len];simpa [WV.p] using g2
  have hm1:(if e.k=3∨e.k=5 then x.mn - 1 else x.mn)≤y.mn:=by rw [← HML.out,← oky.m.len];simpa [WV.p] using k4
  have hm2:y.mn≤(if e.k=3∨e.k=5 then x.mn - 1 else x.mn) + 1:=by rw [← HML.out,← oky.m.len];simpa [WV.p] using k5
  have hm3:y.mn≤30:=by rw [← oky.m.len];simpa [WV.p] using g3
  have hm4:e.k=3∨e.k=5→0 < x.mn:=fun h=>by have:=HM2.out h;rw [← HML.out];simpa [WV.p] using this
  have HS6:Hid (y.d.p.s=x.d.p.s∨e.k=3∨e.k=4∨e.k=7):=hide k6
  have HY:=hide k2
  clear hz k1 k2 k3 k4 k5 k6 g1 g2 g3 HK HM HM2 PY HML
  obtain ⟨b,off,ha,_,kx⟩:=hk.n.lies (by omega)
  obtain ⟨b2,off2,ha2,_,ky⟩:=oky.n.lies (by omega)
  have q8:=x0.ten.2.2.2.2.2.2.2.2.1
  have r8:=Cx.ten.2.2.2.2.2.2.2.2.1
  have HNX:=hide hk.n.len
  have HNY:=hide oky.n.len
  have HOX:=hide hk.n.ok
  have HOY:=hide oky.n.ok
  rw [ha,hx3] at q8
  rw [ha2,hy3] at r8
  rw [hx3] at HNX
  rw [hy3] at HNY
  clear ha ha2 hx3 hy3
  go_upto_region 6 with fail
  go_loopw [7,27] (fun v i wr=>∃ k:Nat,k≤3∧i=.int .i64 k∧v=.int .i64 (unlike sameN k (x.N.map NV.p) (y.N.map NV.p):Nat)∧unlike sameN k (x.N.map NV.p) (y.N.map NV.p)≤k∧Below w6.heap.size w6 wr) (fun _ i _=>3 - (intOf i).toNat)
  case atStart=>exact ⟨0,by omega,rfl,by simp [unlike],by simp [unlike],Below.refl _ _⟩
  case round=>
   obtain ⟨k,hk3,rfl,rfl,hu,hbr⟩:=hrel
   rename_i wr
   by_cases hlt:k < 3
   ·obtain ⟨X,hX⟩:∃ z,x.N[k]?=some z:=⟨x.N[k]'(by rw [HNX.out];exact hlt),by simp⟩
    obtain ⟨Y,hY⟩:∃ z,y.N[k]?=some z:=⟨y.N[k]'(by rw [HNY.out];exact hlt),by simp⟩
    have iX:X.ok wr:=NV.ok.below (HOX.out X (List.mem_of_getElem? hX)) hbr (Nat.le_refl _)
    have iY:Y.ok wr:=NV.ok.below (HOY.out Y (List.mem_of_getElem? hY)) hbr (Nat.le_refl _)
    have HST:=hide (unlike_step (f:=sameN) (k:=k) (l:=x.N.map NV.p) (m:=y.N.map NV.p) (a:=X.p) (b:=Y.p) (by rw [List.getElem?_map,hX];rfl) (by rw [List.getElem?_map,hY];rfl))
    have HSM:=hide (fun w' h1 h2=>JSame_c X Y w' h1 h2)
    obtain ⟨a0,a1,a2,a3,a4,a5,a6,a7⟩:=NV.lay (fun j v h=>keepc hbr (kx k X hX j v h))
    obtain ⟨c0,c1,c2,c3,c4,c5,c6,c7⟩:=NV.lay (fun j v h=>keepc hbr (ky k Y hY j v h))
    have q8':=keepc hbr q8
    have r8':=keepc hbr r8
    clear hX hY kx ky q8 r8
    dsimp only [handK] at *
    generalize sameN X.p Y.p=sm at *
    generalize unlike sameN k (x.N.map NV.p) (y.N.map NV.p)=u at *
    have hlt':(k:Int) < 3:=by omega
    have hwr:IntKind.i64.wrap ((u:Int) + 1)=(u:Int) + 1:=IntWalk.i64_in _ ⟨by omega,by omega⟩
    go_upto_region 8 with fail
    go_region_held3 (fun w'=>w'.cell? ⟨B,8,none⟩=some (.slice (some ⟨b,off,none⟩) 3 x.nc)∧w'.cell? ⟨C,8,none⟩=some (.slice (some ⟨b2,off2,none⟩) 3 y.nc)∧w'.cell? ⟨b,off + k * 8,none⟩=some (.int .i64 X.s)∧w'.cell? ⟨b,off + k * 8 + 1,none⟩=some (.bool X.w)∧w'.cell? ⟨b,off + k * 8 + 2,none⟩=some (.int .i64 X.c.k)∧w'.cell? ⟨b,off + k * 8 + 3,none⟩=some (.int .i64 X.c.z)∧w'.cell? ⟨b,off + k * 8 + 4,none⟩=some (.int .i64 X.c.n)∧w'.cell? ⟨b,off + k * 8 + 5,none⟩=some (.int .i64 X.c.at')∧w'.cell? ⟨b,off + k * 8 + 6,none⟩=some (.slice X.ca X.cn X.cc)∧w'.cell? ⟨b,off + k * 8 + 7,none⟩=some (.slice X.ga X.gn X.gc)∧w'.cell? ⟨b2,off2 + k * 8,none⟩=some (.int .i64 Y.s)∧w'.cell? ⟨b2,off2 + k * 8 + 1,none⟩=some (.bool Y.w)∧w'.cell? ⟨b2,off2 + k * 8 + 2,none⟩=some (.int .i64 Y.c.k)∧w'.cell? ⟨b2,off2 + k * 8 + 3,none⟩=some (.int .i64 Y.c.z)∧w'.cell? ⟨b2,off2 + k * 8 + 4,none⟩=some (.int .i64 Y.c.n)∧w'.cell? ⟨b2,off2 + k * 8 + 5,none⟩=some (.int .i64 Y.c.at')∧w'.cell? ⟨b2,off2 + k * 8 + 6,none⟩=some (.slice Y.ca Y.cn Y.cc)∧w'.cell? ⟨b2,off2 + k * 8 + 7,none⟩=some (.slice Y.ga Y.gn Y.gc)) ((first|(go_simp;done)|(simp [*,World.cell?_alloc_at,World.cell?_alloc_past,World.cell?_alloc_some,World.cell?_setCell_far];done))) (first|(go_at_call 15;refine (HSM.out _ (by refine NV.ok.below iX (B:=wr.heap.size) ?_ (Nat.le_refl _);(repeat first|exact bel0|assumption|refine bel1 ?_|refine bel2 ?_|refine bel3 ?_|refine belowT ?_ (by assumption)|refine bel5 ?_ (by simp;try omega))) (by refine NV.ok.below iY (B:=wr.heap.size) ?_ (Nat.le_refl _);(repeat first|exact bel0|assumption|refine bel1 ?_|refine bel2 ?_|refine bel3 ?_|refine belowT ?_ (by assumption)|refine bel5 ?_ (by simp;try omega)))).mono ?_;rintro e' w7 ⟨rfl,hb7⟩;(have m0:=keepc hb7 (p:=⟨B,8,none⟩) (u:=.slice (some ⟨b,off,none⟩) 3 x.nc) (by (first|(go_simp;done)|(simp [*,World.cell?_alloc_at,World.cell?_alloc_past,World.cell?_alloc_some,World.cell?_setCell_far];done))));(have m1:=keepc hb7 (p:=⟨C,8,none⟩) (u:=.slice (some ⟨b2,off2,none⟩) 3 y.nc) (by (first|(go_simp;done)|(simp [*,World.cell?_alloc_at,World.cell?_alloc_past,World.cell?_alloc_some,World.cell?_setCell_far];done))));(have m2:=keepc hb7 (p:=⟨b,off + k * 8,none⟩) (u:=.int .i64 X.s) (by (first|(go_simp;done)|(simp [*,World.cell?_alloc_at,World.cell?_alloc_past,World.cell?_alloc_some,World.cell?_setCell_far];done))));(have m3:=keepc hb7 (p:=⟨b,off + k * 8 + 1,none⟩) (u:=.bool X.w) (by (first|(go_simp;done)|(simp [*,World.cell?_alloc_at,World.cell?_alloc_past,World.cell?_alloc_some,World.cell?_setCell_far];done))));(have m4:=keepc hb7 (p:=⟨b,off + k * 8 + 2,none⟩) (u:=.int .i64 X.c.k) (by (first|(go_simp;done)|(simp [*,World.cell?_alloc_at,World.cell?_alloc_past,World.cell?_alloc_some,World.cell?_setCell_far];done))));(have m5:=keepc hb7 (p:=⟨b,off + k * 8 + 3,none⟩) (u:=.int .i64 X.c.z) (by (first|(go_simp;done)|(simp [*,World.cell?_alloc_at,World.cell?_alloc_past,World.cell?_alloc_some,World.cell?_setCell_far];done))));(have m6:=keepc hb7 (p:=⟨b,off + k * 8 + 4,none⟩) (u:=.int .i64 X.c.n) (by (first|(go_simp;done)|(simp [*,World.cell?_alloc_at,World.cell?_alloc_past,World.cell?_alloc_some,World.cell?_setCell_far];done))));(have m7:=keepc hb7 (p:=⟨b,off + k * 8 + 5,none⟩) (u:=.int .i64 X.c.at') (by (first|(go_simp;done)|(simp [*,World.cell?_alloc_at,World.cell?_alloc_past,World.cell?_alloc_some,World.cell?_setCell_far];done))));(have m8:=keepc hb7 (p:=⟨b,off + k * 8 + 6,none⟩) (u:=.slice X.ca X.cn X.cc) (by (first|(go_simp;done)|(simp [*,World.cell?_alloc_at,World.cell?_alloc_past,World.cell?_alloc_some,World.cell?_setCell_far];done))));(have m9:=keepc hb7 (p:=⟨b,off + k * 8 + 7,none⟩) (u:=.slice X.ga X.gn X.gc) (by (first|(go_simp;done)|(simp [*,World.cell?_alloc_at,World.cell?_alloc_past,World.cell?_alloc_some,World.cell?_setCell_far];done))));(have m10:=keepc hb7 (p:=⟨b2,off2 + k * 8,none⟩) (u:=.int .i64 Y.s) (by (first|(go_simp;done)|(simp [*,World.cell?_alloc_at,World.cell?_alloc_past,World.cell?_alloc_some,World.cell?_setCell_far];done))));(have m11:=keepc hb7 (p:=⟨b2,off2 + k * 8 + 1,none⟩) (u:=.bool Y.w) (by (first|(go_simp;done)|(simp [*,World.cell?_alloc_at,World.cell?_alloc_past,World.cell?_alloc_some,World.cell?_setCell_far];done))));(have m12:=keepc hb7 (p:=⟨b2,off2 + k * 8 + 2,none⟩) (u:=.int .i64 Y.c.k) (by (first|(go_simp;done)|(simp [*,World.cell?_alloc_at,World.cell?_alloc_past,World.cell?_alloc_some,World.cell?_setCell_far];done))));(have m13:=keepc hb7 (p:=⟨b2,off2 + k * 8 + 3,none⟩) (u:=.int .i64 Y.c.z) (by (first|(go_simp;done)|(simp [*,World.cell?_alloc_at,World.cell?_alloc_past,World.cell?_alloc_some,World.cell?_setCell_far];done))));(have m14:=keepc hb7 (p:=⟨b2,off2 + k * 8 + 4,none⟩) (u:=.int .i64 Y.c.n) (by (first|(go_simp;done)|(simp [*,World.cell?_alloc_at,World.cell?_alloc_past,World.cell?_alloc_some,World.cell?_setCell_far];done))));(have m15:=keepc hb7 (p:=⟨b2,off2 + k * 8 + 5,none⟩) (u:=.int .i64 Y.c.at') (by (first|(go_simp;done)|(simp [*,World.cell?_alloc_at,World.cell?_alloc_past,World.cell?_alloc_some,World.cell?_setCell_far];done))));(have m16:=keepc hb7 (p:=⟨b2,off2 + k * 8 + 6,none⟩) (u:=.slice Y.ca Y.cn Y.cc) (by (first|(go_simp;done)|(simp [*,World.cell?_alloc_at,World.cell?_alloc_past,World.cell?_alloc_some,World.cell?_setCell_far];done))));(have m17:=keepc hb7 (p:=⟨b2,off2 + k * 8 + 7,none⟩) (u:=.slice Y.ga Y.gn Y.gc) (by (first|(go_simp;done)|(simp [*,World.cell?_alloc_at,World.cell?_alloc_past,World.cell?_alloc_some,World.cell?_setCell_far];done))))))
    have b7:Below w6.heap.size w6 w7:=by (repeat first|exact bel0|assumption|refine bel1 ?_|refine bel2 ?_|refine bel3 ?_|refine belowT ?_ (by assumption)|refine bel5 ?_ (by simp;try omega))
    have hst:=HST.out
    cases sm
    ·go_wp2
     exact ⟨⟨k + 1,by omega,by go_num,by rw [hst];simp,by rw [hst];simp;omega,b7⟩,by simp [intOf];omega⟩
    ·go_wp2
     exact ⟨⟨k + 1,by omega,by go_num,by rw [hst];simp,by rw [hst];simp;omega,b7⟩,by simp [intOf];omega⟩
   ·obtain rfl:k=3:=by omega
    have hu1:=HU.out
    generalize unlike sameN 3 (x.N.map NV.p) (y.N.map NV.p)=u at *
    replace x0:=x0.below hbr
    replace e0:=e0.below hbr
    replace Cx:=Cx.below hbr
    replace hk:=hk.below hbr (Nat.le_refl _)
    replace oky:=oky.below hbr (Nat.le_refl _)
    replace hE:=hE.below hbr
    replace bw:=belowT bw hbr
    clear hbr q8 r8 kx ky HU HNX HNY HOX HOY hu hlt hk3
    have q9:=x0.ten.2.2.2.2.2.2.2.2.2
    have s0:=e0.cell 0 _ rfl
    have hu1':(u:Int)≤1:=by omega
    by_cases h3:e.k=3
    ·have h0:=hm4 (.inl h3)
     rw [if_pos (.inl h3)] at hm1 hm2
     have hw1:IntKind.i64.wrap ((x.mn:Int) - 1)=(x.mn:Int) - 1:=IntWalk.i64_in _ ⟨by omega,by omega⟩
     have hw2:IntKind.i64.wrap ((x.mn:Int) - 1 + 1)=(x.mn:Int) - 1 + 1:=IntWalk.i64_in _ ⟨by omega,by omega⟩
     have hge:(x.mn:Int) - 1≤(y.mn:Int):=by omega
     have hle:(y.mn:Int)≤(x.mn:Int) - 1 + 1:=by omega
     rw [h3] at s0
     have q5:=x0.ten.2.2.2.2.2.1
     have r5:=Cx.ten.2.2.2.2.2.1
     go_wp2_with fail
     refine (EqBy_c x.d.a y.d.a x.d.n y.d.n x.d.c y.d.c x.d.p.s y.d.p.s _ hk.d.s oky.d.s).mono ?_
     rintro e' w8 ⟨rfl,n8,rfl⟩
     have b8:=below_drewN (Below.refl wr.heap.size wr) n8
     generalize World.drewN wr n8=w9 at *
     replace Cx:=Cx.below b8
     replace e0:=e0.below b8
     replace oky:=oky.below b8 (Nat.le_refl _)
     replace hE:=hE.below b8
     replace bw:=belowT bw b8
     clear b8 q5 r5 q9 s0
     have HSM:Hid (decide (x.d.p.s=y.d.p.s)=true∨e.k=3∨e.k=4∨e.k=7):=hide (HS6.out.imp (fun h=>decide_eq_true h.symm) id)
     clear HS6
     generalize decide (x.d.p.s=y.d.p.s)=sm at *
     obtain ⟨r0,r1,r2,r3,r4,r5,r6,r7,r8,r9⟩:=Cx.ten
     have HCK:=hide (fun w' h1 h2=>WCheck_c y w' h1 h2 smy)
     rw [HY.out] at HCK
     go_wp2_with fail
     refine (HCK.out _ hE oky).mono ?_
     rintro e' w10 ⟨rfl,hb⟩
     have r9:=(Cx.below hb).ten.2.2.2.2.2.2.2.2.2
     have s0:=(e0.below hb).cell 0 _ rfl
     have bx:=belowT bw hb
     clear hb r0 r1 r2 r3 r4 r5 r6 r7 r8 HCK Cx e0
     rw [h3] at s0
     cases sm
     ·go_wp2
      go_ret
      exact ⟨rfl,bx⟩
     ·go_wp2
      go_ret
      exact ⟨rfl,bx⟩
    ·have n3:(e.k==3)=false:=by simpa using h3
     by_cases h5:e.k=5
     ·have h0:=hm4 (.inr h5)
      rw [if_pos (.inr h5)] at hm1 hm2
      have hw1:IntKind.i64.wrap ((x.mn:Int) - 1)=(x.mn:Int) - 1:=IntWalk.i64_in _ ⟨by omega,by omega⟩
      have hw2:IntKind.i64.wrap ((x.mn:Int) - 1 + 1)=(x.mn:Int) - 1 + 1:=IntWalk.i64_in _ ⟨by omega,by omega⟩
      have hge:(x.mn:Int) - 1≤(y.mn:Int):=by omega
      have hle:(y.mn:Int)≤(x.mn:Int) - 1 + 1:=by omega
      clear n3
      rw [h5] at s0
      have q5:=x0.ten.2.2.2.2.2.1
      have r5:=Cx.ten.2.2.2.2.2.1
      go_wp2_with fail
      refine (EqBy_c x.d.a y.d.a x.d.n y.d.n x.d.c y.d.c x.d.p.s y.d.p.s _ hk.d.s oky.d.s).mono ?_
      rintro e' w8 ⟨rfl,n8,rfl⟩
      have b8:=below_drewN (Below.refl wr.heap.size wr) n8
      generalize World.drewN wr n8=w9 at *
      replace Cx:=Cx.below b8
      replace e0:=e0.below b8
      replace oky:=oky.below b8 (Nat.le_refl _)
      replace hE:=hE.below b8
      replace bw:=belowT bw b8
      clear b8 q5 r5 q9 s0
      have HSM:Hid (decide (x.d.p.s=y.d.p.s)=true∨e.k=3∨e.k=4∨e.k=7):=hide (HS6.out.imp (fun h=>decide_eq_true h.symm) id)
      clear HS6
      generalize decide (x.d.p.s=y.d.p.s)=sm at *
      obtain ⟨r0,r1,r2,r3,r4,r5,r6,r7,r8,r9⟩:=Cx.ten
      have HCK:=hide (fun w' h1 h2=>WCheck_c y w' h1 h2 smy)
      rw [HY.out] at HCK
      go_wp2_with fail
      refine (HCK.out _ hE oky).mono ?_
      rintro e' w10 ⟨rfl,hb⟩
      have r9:=(Cx.below hb).ten.2.2.2.2.2.2.2.2.2
      have s0:=(e0.below hb).cell 0 _ rfl
      have bx:=belowT bw hb
      clear hb r0 r1 r2 r3 r4 r5 r6 r7 r8 HCK Cx e0
      obtain rfl:sm=true:=HSM.out.resolve_right (by omega)
      go_wp2
      go_ret
      exact ⟨rfl,bx⟩
     ·have n5:(e.k==5)=false:=by simpa using h5
      rw [if_neg (by omega)] at hm1 hm2
      have hw2:IntKind.i64.wrap ((x.mn:Int) + 1)=(x.mn:Int) + 1:=IntWalk.i64_in _ ⟨by omega,by omega⟩
      have hge:(x.mn:Int)≤(y.mn:Int):=by omega
      have hle:(y.mn:Int)≤(x.mn:Int) + 1:=by omega
      have q5:=x0.ten.2.2.2.2.2.1
      have r5:=Cx.ten.2.2.2.2.2.1
      go_wp2_with fail
      refine (EqBy_c x.d.a y.d.a x.d.n y.d.n x.d.c y.d.c x.d.p.s y.d.p.s _ hk.d.s oky.d.s).mono ?_
      rintro e' w8 ⟨rfl,n8,rfl⟩
      have b8:=below_drewN (Below.refl wr.heap.size wr) n8
      generalize World.drewN wr n8=w9 at *
      replace Cx:=Cx.below b8
      replace e0:=e0.below b8
      replace oky:=oky.below b8 (Nat.le_refl _)
      replace hE:=hE.below b8
      replace bw:=belowT bw b8
      clear b8 q5 r5 q9 s0
      have HSM:Hid (decide (x.d.p.s=y.d.p.s)=true∨e.k=3∨e.k=4∨e.k=7):=hide (HS6.out.imp (fun h=>decide_eq_true h.symm) id)
      clear HS6
      generalize decide (x.d.p.s=y.d.p.s)=sm at *
      obtain ⟨r0,r1,r2,r3,r4,r5,r6,r7,r8,r9⟩:=Cx.ten
      have HCK:=hide (fun w' h1 h2=>WCheck_c y w' h1 h2 smy)
      rw [HY.out] at HCK
      go_wp2_with fail
      refine (HCK.out _ hE oky).mono ?_
      rintro e' w10 ⟨rfl,hb⟩
      have r9:=(Cx.below hb).ten.2.2.2.2.2.2.2.2.2
      have s0:=(e0.below hb).cell 0 _ rfl
      have bx:=belowT bw hb
      clear hb r0 r1 r2 r3 r4 r5 r6 r7 r8 HCK Cx e0
      cases sm
      ·rcases HSM.out with h|h|h|h
       ·cases h
       ·exact absurd h h3
       ·rw [h] at s0
        clear n3 n5
        go_wp2
        go_ret
        exact ⟨rfl,bx⟩
       ·rw [h] at s0
        clear n3 n5
        go_wp2
        go_ret
        exact ⟨rfl,bx⟩
      ·go_wp2
       go_ret
       exact ⟨rfl,bx⟩
 ·go_wp2_with fail
  refine (HAE.out _ hE).mono ?_
  rintro e' w7 ⟨rfl,hb⟩
  go_wp2
  go_ret
  exact ⟨rfl,belowT bw hb⟩
end Go.Proofs.YtnnngphfmclegaaGreatDoor
namespace Go.Proofs.YtnnngphfmclegaaGreatDoor
open Go.RowKit
set_option linter.unusedVariables false
set_option maxHeartbeats 8000000
set_option maxRecDepth 100000
set_option linter.unusedSimpArgs false
structure Rowed (w:World) (sz:Nat) (a:Option Addr) (n c:Nat) (vs:List Value):Prop where
 len:vs.length=n * sz
 le:n≤c
 max:c≤9223372036854775807
 nil:a=none→c=0
 src:∀ ad,a=some ad→∀ j v,vs[j]?=some v→w.cell? (ad.add j)=some v
 one:∀ v∈vs,v.oneCell'=true
theorem Rowed.below {w w':World} {sz:Nat} {a:Option Addr} {n c:Nat} {vs:List Value} (h:Rowed w sz a n c vs) (hb:Below w.heap.size w w'):Rowed w' sz a n c vs:=
 ⟨h.len,h.le,h.max,h.nil,fun ad e j v hv=>keepc hb (h.src ad e j v hv),h.one⟩
theorem Rowed.nils {w:World} {sz:Nat} {a:Option Addr} {n c:Nat} {vs:List Value} (h:Rowed w sz a n c vs) (e:a=none):n=0∧c=0:=by
 have h1:=h.nil e
 have h2:=h.le
 omega
theorem Byts.rowed {w:World} {a:Option Addr} {n c:Nat} {l:List UInt8} (h:Byts w a n c l):Rowed w 1 a n c (bytC l):=by
 refine ⟨by rw [bytC_len,h.len,Nat.mul_one],Cel.le h,Cel.max h,Cel.nil h,fun ad e j v hv=>?_,bytC_one l⟩
 have hj:=(List.getElem?_eq_some_iff.1 hv).1
 rw [bytC_len,h.len] at hj
 obtain ⟨ad',e',hs⟩:=Cel.src h (by omega)
 rw [e] at e'
 cases e'
 exact hs j v hv
theorem Recs.rowed {w:World} {a:Option Addr} {n c:Nat} {X:List RV} (h:Recs w a n c X):Rowed w 7 a n c (rcells X):=by
 refine ⟨by rw [rcells_len,h.len],h.le,h.max,h.nil,fun ad e j v hv=>?_,rcells_one X⟩
 have hj:=(List.getElem?_eq_some_iff.1 hv).1
 rw [rcells_len,h.len] at hj
 have hlen:=h.len
 rcases h.row with h0|⟨b,off,ha,hlt,hc⟩
 ·omega
 ·rw [ha] at e
  cases e
  obtain ⟨x,hx⟩:∃ x,X[j / 7]?=some x:=⟨X[j / 7]'(by omega),by simp⟩
  obtain ⟨u,hu⟩:∃ u,x.cells[j % 7]?=some u:=⟨x.cells[j % 7]'(by rw [RV.cells_len];omega),by simp⟩
  have h1:=rcells_get X (j / 7) x hx (j % 7) u hu
  rw [show j / 7 * 7 + j % 7=j by omega,hv] at h1
  cases h1
  rw [addr_add,show off + j=off + j / 7 * 7 + j % 7 by omega]
  exact hc (j / 7) x hx (j % 7) v hu
theorem append_zero {P:Program} (w:World) (t ty e:TypeId) (i:TypeInfo) (ht:P.underlying t=some (.slice e)) (hi:P.info? e=some i) (ao:Option Addr) (c:Nat) :
  (Builtin.append_ #[t,t] ty #[.slice none 0 0,.slice ao 0 c]).run P w=.ok (.slice none 0 0) w:=by
 cases ao<;>simp [Builtin.append_,run_underlying ht,sizeOf,typeInfo,hi,Builtin.lenOf,Builtin.firstCells,loadCells,loadCellsFrom]
theorem Byts.of_own {w:World} {base:Nat} {v:Value} {n:Nat} {l:List UInt8} {t:TypeId} (h:w.ownsRow base t 1 v n (bytC l)):∃ a c,v=.slice a n c∧Byts w a n c l∧∀ y,a=some y→base≤y.block:=by
 obtain ⟨hlen,h⟩:=h
 rw [bytC_len,Nat.mul_one] at hlen
 rcases h with ⟨rfl,h0⟩|⟨g,cap,cur,rfl,hb,hg,hn,hm,hs,hc⟩
 ·subst h0
  rw [List.length_eq_zero_iff] at hlen
  subst hlen
  exact ⟨none,0,rfl,Byts.nilSlice w,fun x h=>by cases h⟩
 ·refine ⟨_,cap,rfl,⟨by rw [bytC_len,hlen],hn,by simp [maxLen] at hm;omega,fun e=>(by cases e),.inr ⟨g,0,rfl,(Array.getElem?_eq_some_iff.1 hg).1,fun i v hv=>?_⟩⟩,fun x h=>by cases h;exact hb⟩
  rw [cell_of_row w g _ _ _ _ hg,Nat.zero_add]
  have hi:=(List.getElem?_eq_some_iff.1 hv).1
  rw [bytC_len] at hi
  rw [← hc,List.getElem?_take,if_pos (by omega)] at hv
  simpa using hv
theorem OwnR.of_own {w w':World} {v:Value} {n:Nat} {X:List RV} (h:w'.ownsRow w.heap.size 128 7 v n (rcells X)) (hb:Below w.heap.size w w') (hok:∀ x∈X,x.ok w):OwnR w' w.heap.size v X∧X.length=n:=by
 have hl:=h.1
 rw [rcells_len] at hl
 have hn:X.length=n:=by omega
 subst hn
 exact ⟨⟨h,fun x hx=>(hok x hx).below hb (Nat.le_refl _),fun x hx g e=>(hok x hx).off (h.lt g e).1⟩,rfl⟩
end Go.Proofs.YtnnngphfmclegaaGreatDoor
namespace Go.Proofs.YtnnngphfmclegaaGreatDoor
open Go.RowKit
set_option linter.unusedVariables false
set_option maxHeartbeats 8000000
set_option maxRecDepth 100000
set_option linter.unusedSimpArgs false
theorem errInf7:∃ i,Tryz.prog.info? 39=some i∧i.zero=some (.int .i64 0)∧i.size=1∧i.bytes=8:=by
 have h:(Tryz.prog.info? 39).map (fun i=>(i.zero,i.size,i.bytes))=some (some (.int .i64 0),1,8):=by kernel_rfl
 obtain ⟨i,hi,h⟩:=Option.map_eq_some_iff.1 h
 simp only [Prod.mk.injEq] at h
 exact ⟨i,hi,h.1,h.2.1,h.2.2⟩
theorem EGrow_c (n:Nat) (w:World) (hn:0 < n) (hn2:n≤1000000) :
  Calls Tryz.prog 40 #[.slice none 0 0,.int .i64 n] w fun e w'=>(∃ q cap,e=.returned (.slice (some ⟨q,0,none⟩) 0 cap)∧n≤cap∧w.heap.size≤q∧w'.ownsRow w.heap.size 39 1 (.slice (some ⟨q,0,none⟩) 0 cap) 0 [])∧Below w.heap.size w w':=by
 obtain ⟨i,hi,hz,hs,hb⟩:=errInf7
 have hn':(0:Int) < (n:Int):=by omega
 go_enter Tryz.func40,Tryz.ntmps40
 go_wp2_with (at_builtin;go_loud (refine Lib.wpList_append_run _ rfl _ _ _ _ rfl _ _ rfl rfl _ _ (Lib.run_append_nil_zeros _ 61 3 _ 39 i (.int .i64 0) .i64 .i64 Tryz.underlying61 Tryz.underlying3 hi hz n hn (by omega) (by omega) (by rw [hb];omega)) ?_))
 go_ret
 have hge:=grownCap_ge w n 0 39
 have hle:=grownCap_le_maxLen w n 0 39 (by simp [maxLen];omega)
 generalize grownCap w n 0 39=cap at *
 refine ⟨⟨_,cap,rfl,hge,Nat.le_refl _,⟨rfl,.inr ⟨w.heap.size,cap,_,rfl,Nat.le_refl _,heap_new w _,Nat.zero_le _,hle,?_,by simp⟩⟩⟩,by (repeat first|exact bel0|assumption|refine bel1 ?_|refine bel2 ?_|refine bel3 ?_|refine belowT ?_ (by assumption)|refine bel5 ?_ (by simp;try omega))⟩
 have hzc:(Value.cells (.int .i64 0)).size=1:=rfl
 simp [size_zeroCells,hzc]
 omega
theorem EGrow_z (w:World):Calls Tryz.prog 40 #[.slice none 0 0,.int .i64 0] w fun e w'=>e=.returned (.slice none 0 0)∧w'=w:=by
 go_enter Tryz.func40,Tryz.ntmps40
 go_wp2
 go_ret
 exact ⟨rfl,rfl⟩
theorem EConcat_z (g:Nat) (a:Option Addr) (c:Nat) (b:Option Addr) (d:Nat) (w:World)
  (hg0:w.cell? ⟨g,0,none⟩=some (.slice a 0 c)) (hg1:w.cell? ⟨g,1,none⟩=some (.slice b 0 d)) :
  Calls Tryz.prog 19 #[.slice (some ⟨g,0,none⟩) 2 2] w fun e w'=>e=.returned (.slice none 0 0)∧w'=w:=by
 obtain ⟨i,hi,hz,hs,hb⟩:=errInf7
 go_enter Tryz.func19,Tryz.ntmps19
 go_wp2
 refine wp_loop_rounds 3 ?_
 rw [rounds_succ]
 go_wp2
 rw [rounds_succ]
 go_wp2
 rw [rounds_succ]
 go_wp2_with fail
 refine (EGrow_z _).mono ?_
 rintro e w1 ⟨rfl,rfl⟩
 go_wp2_with fail
 refine wp_loop_rounds 3 ?_
 rw [rounds_succ]
 go_wp2_with (at_builtin;go_loud (refine Lib.wpList_append_run _ rfl _ _ _ _ rfl _ _ rfl rfl _ _ (append_zero _ 61 _ 39 i Tryz.underlying61 hi a c) ?_))
 rw [rounds_succ]
 go_wp2_with (at_builtin;go_loud (refine Lib.wpList_append_run _ rfl _ _ _ _ rfl _ _ rfl rfl _ _ (append_zero _ 61 _ 39 i Tryz.underlying61 hi b d) ?_))
 rw [rounds_succ]
 go_wp2
 go_ret
 exact ⟨rfl,rfl⟩
theorem EConcat_p (g:Nat) (a:Option Addr) (n c:Nat) (l:List Value) (b:Option Addr) (m d:Nat) (k:List Value) (w:World) (h1:Rowed w 1 a n c l) (h2:Rowed w 1 b m d k) (h0:0 < n + m) (hnm:n + m≤1000000)
  (hg0:w.cell? ⟨g,0,none⟩=some (.slice a n c)) (hg1:w.cell? ⟨g,1,none⟩=some (.slice b m d)) :
  Calls Tryz.prog 19 #[.slice (some ⟨g,0,none⟩) 2 2] w fun e w'=>(∃ v,e=.returned v∧w'.ownsRow w.heap.size 39 1 v (n + m) (l++k))∧Below w.heap.size w w':=by
 obtain ⟨i,hi,hz,hs,hb⟩:=errInf7
 go_enter Tryz.func19,Tryz.ntmps19
 go_wp2
 refine wp_loop_rounds 3 ?_
 rw [rounds_succ]
 go_wp2
 rw [rounds_succ]
 go_wp2
 rw [rounds_succ]
 go_wp2_with fail
 rw [show (n:Int) + (m:Int)=((n + m:Nat):Int) by omega]
 refine (EGrow_c (n + m) _ h0 hnm).mono ?_
 rintro e w1 ⟨⟨q,cap,rfl,hcap,hq,ho⟩,hb1⟩
 have hq':∀ k,some q=some k→w.heap.size≤k:=by intro k e;cases e;exact hq
 have hc0:=keepc hb1 hg0
 have i1:=h1.below hb1
 go_wp2_with fail
 refine wp_loop_rounds 3 ?_
 rw [rounds_succ]
 go_wp2_with (at_builtin;refine wpList_append_fits_any _ rfl _ _ 61 rfl w.heap.size 39 i 1 Tryz.underlying61 hi hs q 0 cap [] rfl ho a n c l rfl ?ha1 ?ha2 ?ha3 h1.one ?ha4 ?ha5)
 case ha1=>exact h1.len
 case ha2=>exact h1.nils
 case ha3=>exact i1.src
 case ha4=>omega
 case ha5=>
  intro w2 ho2 hg2
  have b2:Below w.heap.size w w2:=hb1.grown hg2 hb1.size hq'
  have hd1:=keepc b2 hg1
  have i2:=h2.below b2
  go_wp2
  rw [rounds_succ]
  go_wp2_with (at_builtin;refine wpList_append_fits_any _ rfl _ _ 61 rfl w.heap.size 39 i 1 Tryz.underlying61 hi hs q n cap l rfl ho2 b m d k rfl ?hb1 ?hb2 ?hb3 h2.one ?hb4 ?hb5)
  case hb1=>exact h2.len
  case hb2=>exact h2.nils
  case hb3=>exact i2.src
  case hb4=>omega
  case hb5=>
   intro w3 ho3 hg3
   have b3:Below w.heap.size w w3:=b2.grown hg3 b2.size hq'
   go_wp2
   rw [rounds_succ]
   go_wp2
   go_ret
   exact ⟨⟨_,rfl,ho3⟩,b3⟩
theorem EConcat_c (g:Nat) (a:Option Addr) (n c:Nat) (l:List Value) (b:Option Addr) (m d:Nat) (k:List Value) (w:World) (h1:Rowed w 1 a n c l) (h2:Rowed w 1 b m d k) (hnm:n + m≤1000000)
  (hg0:w.cell? ⟨g,0,none⟩=some (.slice a n c)) (hg1:w.cell? ⟨g,1,none⟩=some (.slice b m d)) :
  Calls Tryz.prog 19 #[.slice (some ⟨g,0,none⟩) 2 2] w fun e w'=>(∃ v,e=.returned v∧w'.ownsRow w.heap.size 39 1 v (n + m) (l++k))∧Below w.heap.size w w':=by
 by_cases h0:0 < n + m
 ·exact EConcat_p g a n c l b m d k w h1 h2 h0 hnm hg0 hg1
 ·obtain ⟨rfl,rfl⟩:n=0∧m=0:=by omega
  obtain rfl:l=[]:=List.eq_nil_of_length_eq_zero (by simpa using h1.len)
  obtain rfl:k=[]:=List.eq_nil_of_length_eq_zero (by simpa using h2.len)
  refine (EConcat_z g a c b d w hg0 hg1).mono ?_
  rintro e w' ⟨rfl,rfl⟩
  exact ⟨⟨_,rfl,World.ownsRow_nil _ _ _ _⟩,Below.refl _ _⟩
theorem Ints.rowed {w:World} {a:Option Addr} {n c:Nat} {l:List Int} (h:Ints w a n c l):Rowed w 1 a n c (cellsOf l):=by
 refine ⟨by rw [cellsOf_len,h.len,Nat.mul_one],h.le,h.max,h.nil,fun ad e j v hv=>?_,cellsOf_one l⟩
 have hj:=(List.getElem?_eq_some_iff.1 hv).1
 rw [cellsOf_len,h.len] at hj
 rcases h.row with h0|⟨b,off,ha,hlt,hc⟩
 ·omega
 ·rw [ha] at e
  cases e
  rw [cellsOf_get l j (by rw [h.len];exact hj)] at hv
  rw [addr_add,← hv]
  exact hc j hj
theorem Ints.of_own {w:World} {base:Nat} {v:Value} {n:Nat} {l:List Int} {t:TypeId} (h:w.ownsRow base t 1 v n (cellsOf l)) (hwf:∀ x∈l,-9223372036854775808≤x∧x≤9223372036854775807):∃ a c,v=.slice a n c∧Ints w a n c l:=by
 obtain ⟨hlen,h⟩:=h
 rw [cellsOf_len,Nat.mul_one] at hlen
 rcases h with ⟨rfl,h0⟩|⟨g,cap,cur,rfl,hb,hg,hn,hm,hs,hc⟩
 ·subst h0
  rw [List.length_eq_zero_iff] at hlen
  subst hlen
  exact ⟨none,0,rfl,Ints.nilSlice w⟩
 ·refine ⟨_,cap,rfl,?_⟩
  refine ⟨hlen,hn,by simp [maxLen] at hm;omega,fun e=>(by cases e),.inr ⟨g,0,rfl,(Array.getElem?_eq_some_iff.1 hg).1,fun i hi=>?_⟩,hwf⟩
  rw [cell_of_row w g _ _ _ _ hg,Nat.zero_add]
  have:=congrArg (fun L=>L[i]?) hc
  simp only [Nat.mul_one,List.getElem?_take,hi,if_true] at this
  rw [cellsOf_get l i (by omega)] at this
  simpa using this
end Go.Proofs.YtnnngphfmclegaaGreatDoor
namespace Go.Proofs.YtnnngphfmclegaaGreatDoor
open Go.RowKit
set_option linter.unusedVariables false
set_option maxHeartbeats 8000000
set_option maxRecDepth 100000
set_option linter.unusedSimpArgs false
theorem run_right:∀ {l:List PX} {x:PW},checkW x=0→checkW (runF x l).1=0
 |[],x,h=>h
 |e :: l,x,h=>by
  simp only [runF]
  apply run_right
  split
  ·rename_i k;exact (world_keeps k).2.1
  ·exact h
theorem runW_some {x:PW} {l:List PX} (k:(runW x l).2.2=0):checkW x=0∧l.length≤120∧runW x l=((runF x l).1,(runF x l).2,0):=by
 unfold runW at k ⊢
 split at k
 ·rename_i q;exact absurd k q
 ·rename_i q1
  split at k
  ·cases k
  ·rename_i q2
   rw [if_neg q1,if_neg q2]
   exact ⟨by simpa using q1,by omega,rfl⟩
theorem runW_mk {x:PW} {l:List PX} (h:checkW x=0) (hl:l.length≤120):runW x l=((runF x l).1,(runF x l).2,0):=by
 unfold runW
 rw [if_neg (by simp [h]),if_neg (by omega)]
theorem runF_len:∀ (l:List PX) (x:PW),(runF x l).2.length=l.length
 |[],x=>rfl
 |e :: l,x=>by simp [runF,runF_len l]
theorem run_parts {x:PW} {l:List PX} (k:(runW x l).2.2=0) (q:Nat) :
  (runW x (l.take q)).2.2=0∧(runW (runW x (l.take q)).1 (l.drop q)).2.2=0∧(runW x l).1=(runW (runW x (l.take q)).1 (l.drop q)).1∧(runW x l).2.1=(runW x (l.take q)).2.1++(runW (runW x (l.take q)).1 (l.drop q)).2.1∧
  (runW x (l.take q)).2.1.length≤120∧(runW (runW x (l.take q)).1 (l.drop q)).2.1.length≤120∧l.length≤120:=by
 obtain ⟨h1,h2,h3⟩:=runW_some k
 have l1:(l.take q).length≤120:=by rw [List.length_take];omega
 have l2:(l.drop q).length≤120:=by rw [List.length_drop];omega
 have e1:=runW_mk h1 l1
 have e2:=runW_mk (run_right (l:=l.take q) h1) l2
 have e3:=run_app (l.take q) (l.drop q) x
 rw [List.take_append_drop] at e3
 rw [e1,h3]
 dsimp only
 rw [e2,e3]
 exact ⟨rfl,rfl,rfl,rfl,by rw [runF_len];exact l1,by rw [runF_len];exact l2,h2⟩
end Go.Proofs.YtnnngphfmclegaaGreatDoor
