/- WorldParts answers true for every world, script and number, and leaves all that was there as it was; no condition but that the package-level variables are as their texts lay them, and that the disk is no greater than a machine bears. -/
import Derived.Test.YtnnngphfmclegaaGreatDoorWU45
import Derived.Test.YtnnngphfmclegaaGreatDoorWU46
import Derived.Test.YtnnngphfmclegaaGreatDoorWU1
import Derived.Deep.RegionHeld3
namespace Go.Proofs.YtnnngphfmclegaaGreatDoor
open Go.RowKit
set_option linter.unusedVariables false
set_option maxHeartbeats 8000000
set_option maxRecDepth 100000
set_option linter.unusedSimpArgs false
theorem WorldParts_c (x:WV) (la:Option Addr) (ln lc:Nat) (L:List XV) (j:Int) (w:World) (hE:Env w) (hk:x.ok w) (hs:x.sm) (hL:Rows' hapK w la ln lc L) (hj:-9223372036854775808≤j∧j≤9223372036854775807):Calls Tryz.prog 6 #[x.v,.slice la ln lc,.int .i64 j] w fun e w'=>e=.returned (.bool true)∧Below w.heap.size w w':=by
 have x0:=Lay.made w x.cells 37
 have bw:=belowA (Below.refl _ w) (.cells x.cells.toArray 37)
 replace hk:=hk.below bw (Nat.le_refl _)
 replace hL:=hL.below bw (Nat.le_refl _)
 replace hE:=hE.below bw
 have R1:=hide (fun w' h1 h2 h3=>WRun_c x la ln lc L w' h1 h2 hs h3)
 have HP:=hide (fun k q=>run_parts (x:=x.p) (l:=L.map XV.p) k q)
 have R2:=hide (fun (q:Nat) w' h1 h2 h3=>WRun_c x la q lc (L.take q) w' h1 h2 hs h3)
 have HLN:Hid ((L.map XV.p).length=ln):=hide (by rw [List.length_map];exact hL.len)
 generalize hr:runW x.p (L.map XV.p)=r at *
 clear hr
 go_enter Tryz.func6,Tryz.ntmps6
 go_upto_region 1 with fail
 generalize hB:w.heap.size=B at x0
 generalize w.alloc (.cells x.cells.toArray 37)=w1 at *
 obtain ⟨q0,q1,q2,q3,q4,q5,q6,q7,q8,q9⟩:=x0.ten
 go_wp2_with fail
 refine (R1.out _ hE hk hL).mono ?_
 rintro e w4 ⟨⟨y,ya,yn,yc,rfl,oky,_,_,iy,_,py⟩,hb⟩
 have PY:=hide py
 replace x0:=x0.below hb
 replace hk:=hk.below hb (Nat.le_refl _)
 replace hL:=hL.below hb (Nat.le_refl _)
 replace hE:=hE.below hb
 replace bw:=belowT bw hb
 clear hb q0 q1 q2 q3 q4 q5 q6 q7 q8 q9 R1 py
 go_upto_region 2 with fail
 have Cx:=Lay.made w4 y.cells 37
 have bn:=belowA (Below.refl _ w4) (.cells y.cells.toArray 37)
 generalize w4.heap.size=C at Cx
 generalize w4.alloc (.cells y.cells.toArray 37)=w5 at *
 replace x0:=x0.below bn
 replace hk:=hk.below bn (Nat.le_refl _)
 replace hL:=hL.below bn (Nat.le_refl _)
 replace oky:=oky.below bn (Nat.le_refl _)
 replace iy:=iy.below bn (Nat.le_refl _)
 replace hE:=hE.below bn
 replace bw:=belowT bw bn
 clear bn
 go_wp2_with fail
 refine (asked_c _ hE).mono ?_
 rintro e w6 ⟨rfl,hb⟩
 replace x0:=x0.below hb
 replace Cx:=Cx.below hb
 replace hk:=hk.below hb (Nat.le_refl _)
 replace hL:=hL.below hb (Nat.le_refl _)
 replace oky:=oky.below hb (Nat.le_refl _)
 replace iy:=iy.below hb (Nat.le_refl _)
 replace hE:=hE.below hb
 replace bw:=belowT bw hb
 clear hb
 have HAE:=hide asked_c
 cases h1:r.2.2 !=0
 ·have hz:r.2.2=0:=by simpa using h1
  have hl120:ln≤120:=by rw [← HLN.out];exact (HP.out hz 0).2.2.2.2.2.2
  have hlc:=hL.le
  have hwr:IntKind.i64.wrap ((ln:Int) + 1)=(ln:Int) + 1:=IntWalk.i64_in _ ⟨by omega,by omega⟩
  obtain ⟨q,hq⟩:∃ q:Nat,j % ((ln:Int) + 1)=(q:Int):=⟨(j % ((ln:Int) + 1)).toNat,by rw [Int.toNat_of_nonneg (Int.emod_nonneg _ (by omega))]⟩
  have hqn:q≤ln:=by have:=Int.emod_lt_of_pos j (show (0:Int) < (ln:Int) + 1 by omega);omega
  have HAT:=hide (fun w'=>at_c j ((ln:Int) + 1) w' (by omega) (by omega) hj)
  rw [hq] at HAT
  clear hq
  go_wp2_with fail
  refine (HAT.out _).mono ?_
  rintro e w6 ⟨rfl,rfl⟩
  obtain ⟨t1,t2,t3,t4,t5,t6,_⟩:=HP.out hz q
  have k0:(0:Int)≤(q:Int):=by omega
  have k1:(q:Int)≤(lc:Int):=by omega
  have k2:q≤lc:=by omega
  have k3:¬ ((q:Int) < 0):=by omega
  have k4:¬ ((lc:Int) < (q:Int)):=by omega
  have T1:=hide t1
  have T2:=hide t2
  have T3:=hide t3
  have T4:=hide t4
  have T5:=hide t5
  have T6:=hide t6
  clear t1 t2 t3 t4 t5 t6 HP HAT hz
  have RT:=R2.out q
  rw [List.map_take] at RT
  have R3:=hide RT
  clear RT R2
  generalize runW x.p ((L.map XV.p).take q)=r1 at *
  obtain ⟨q0,q1,q2,q3,q4,q5,q6,q7,q8,q9⟩:=x0.ten
  have hLt:=hL.take hqn
  have hBl:=x0.lt
  have n0:B≠w6.heap.size:=by omega
  have n1:w6.heap.size≠B:=by omega
  go_upto_region 5 with fail
  go_cut [9,10,11] (fun e p s wx=>e=.int .i64 0∧∃ (N:Nat) (z:WV) (a:Option Addr) (n c:Nat),p=.pointer (some ⟨N,0,none⟩)∧s=.slice a n c∧Lay wx N z.cells∧z.ok wx∧z.sm∧Ints wx a n c r1.2.1∧z.p=r1.1∧w6.heap.size≤N∧Below w6.heap.size w6 wx)
  case first=>
   go_region_held3 (fun w'=>w'.cell? ⟨B,0,none⟩=some (.slice x.h.d.za x.h.d.zn x.h.d.zc)∧w'.cell? ⟨B,1,none⟩=some (.slice x.h.d.ka x.h.d.kn x.h.d.kc)∧w'.cell? ⟨B,2,none⟩=some (.int .i64 x.h.d.b.h)∧w'.cell? ⟨B,3,none⟩=some (.int .i64 x.h.d.b.t)∧w'.cell? ⟨B,4,none⟩=some (.slice x.h.a x.h.n x.h.c)∧w'.cell? ⟨B,5,none⟩=some (.slice x.d.a x.d.n x.d.c)∧w'.cell? ⟨B,6,none⟩=some (.slice x.d.b x.d.m x.d.d)∧w'.cell? ⟨B,7,none⟩=some (.bool x.u)∧w'.cell? ⟨B,8,none⟩=some (.slice x.na x.nn x.nc)∧w'.cell? ⟨B,9,none⟩=some (.slice x.ma x.mn x.mc)) ((first|(go_simp;done)|(simp [*,World.cell?_alloc_at,World.cell?_alloc_past,World.cell?_alloc_some,World.cell?_setCell_far];done))) (first|(go_at_call 17;refine (R3.out _ (by refine hE.below ?_;(repeat first|exact bel0|assumption|refine bel1 ?_|refine bel2 ?_|refine bel3 ?_|refine belowT ?_ (by assumption)|refine bel5 ?_ (by simp;try omega))) (by refine hk.below (B:=w6.heap.size) ?_ (Nat.le_refl _);(repeat first|exact bel0|assumption|refine bel1 ?_|refine bel2 ?_|refine bel3 ?_|refine belowT ?_ (by assumption)|refine bel5 ?_ (by simp;try omega))) (by refine hLt.below (B:=w6.heap.size) ?_ (Nat.le_refl _);(repeat first|exact bel0|assumption|refine bel1 ?_|refine bel2 ?_|refine bel3 ?_|refine belowT ?_ (by assumption)|refine bel5 ?_ (by simp;try omega)))).mono ?_;rintro e w8 ⟨⟨z,za,zn,zc,rfl,okz,smz,nz,iz,fz,pz⟩,hb⟩;(have m0:=keepc hb (p:=⟨B,0,none⟩) (u:=.slice x.h.d.za x.h.d.zn x.h.d.zc) (by (first|(go_simp;done)|(simp [*,World.cell?_alloc_at,World.cell?_alloc_past,World.cell?_alloc_some,World.cell?_setCell_far];done))));(have m1:=keepc hb (p:=⟨B,1,none⟩) (u:=.slice x.h.d.ka x.h.d.kn x.h.d.kc) (by (first|(go_simp;done)|(simp [*,World.cell?_alloc_at,World.cell?_alloc_past,World.cell?_alloc_some,World.cell?_setCell_far];done))));(have m2:=keepc hb (p:=⟨B,2,none⟩) (u:=.int .i64 x.h.d.b.h) (by (first|(go_simp;done)|(simp [*,World.cell?_alloc_at,World.cell?_alloc_past,World.cell?_alloc_some,World.cell?_setCell_far];done))));(have m3:=keepc hb (p:=⟨B,3,none⟩) (u:=.int .i64 x.h.d.b.t) (by (first|(go_simp;done)|(simp [*,World.cell?_alloc_at,World.cell?_alloc_past,World.cell?_alloc_some,World.cell?_setCell_far];done))));(have m4:=keepc hb (p:=⟨B,4,none⟩) (u:=.slice x.h.a x.h.n x.h.c) (by (first|(go_simp;done)|(simp [*,World.cell?_alloc_at,World.cell?_alloc_past,World.cell?_alloc_some,World.cell?_setCell_far];done))));(have m5:=keepc hb (p:=⟨B,5,none⟩) (u:=.slice x.d.a x.d.n x.d.c) (by (first|(go_simp;done)|(simp [*,World.cell?_alloc_at,World.cell?_alloc_past,World.cell?_alloc_some,World.cell?_setCell_far];done))));(have m6:=keepc hb (p:=⟨B,6,none⟩) (u:=.slice x.d.b x.d.m x.d.d) (by (first|(go_simp;done)|(simp [*,World.cell?_alloc_at,World.cell?_alloc_past,World.cell?_alloc_some,World.cell?_setCell_far];done))));(have m7:=keepc hb (p:=⟨B,7,none⟩) (u:=.bool x.u) (by (first|(go_simp;done)|(simp [*,World.cell?_alloc_at,World.cell?_alloc_past,World.cell?_alloc_some,World.cell?_setCell_far];done))));(have m8:=keepc hb (p:=⟨B,8,none⟩) (u:=.slice x.na x.nn x.nc) (by (first|(go_simp;done)|(simp [*,World.cell?_alloc_at,World.cell?_alloc_past,World.cell?_alloc_some,World.cell?_setCell_far];done))));(have m9:=keepc hb (p:=⟨B,9,none⟩) (u:=.slice x.ma x.mn x.mc) (by (first|(go_simp;done)|(simp [*,World.cell?_alloc_at,World.cell?_alloc_past,World.cell?_alloc_some,World.cell?_setCell_far];done))));(have b8:Below w6.heap.size w6 w8:=by (repeat first|exact bel0|assumption|refine bel1 ?_|refine bel2 ?_|refine bel3 ?_|refine belowT ?_ (by assumption)|refine bel5 ?_ (by simp;try omega)));(have s8:=b8.size);(have n2:B≠w8.heap.size:=by omega);(have n3:w8.heap.size≠B:=by omega);(first|(have xB:=Lay.below (Lay.drew (Lay.made w6 WV.zero.cells 37)) hb)|(have xB:=Lay.below (Lay.made w6 WV.zero.cells 37) hb)|skip);(try have u0:=xB.cell 0 _ rfl);(try have v0:=xB.ice 0);(try have u1:=xB.cell 1 _ rfl);(try have v1:=xB.ice 1);(try have u2:=xB.cell 2 _ rfl);(try have v2:=xB.ice 2);(try have u3:=xB.cell 3 _ rfl);(try have v3:=xB.ice 3);(try have u4:=xB.cell 4 _ rfl);(try have v4:=xB.ice 4);(try have u5:=xB.cell 5 _ rfl);(try have v5:=xB.ice 5);(try have u6:=xB.cell 6 _ rfl);(try have v6:=xB.ice 6);(try have u7:=xB.cell 7 _ rfl);(try have v7:=xB.ice 7);(try have u8:=xB.cell 8 _ rfl);(try have v8:=xB.ice 8);(try have u9:=xB.cell 9 _ rfl);(try have v9:=xB.ice 9)))
   ·go_wp2_with fail
    go_meet
    case rel=>
     have bn:=belowA (Below.refl _ w8) (.cells z.cells.toArray 37)
     exact ⟨by rw [T1.out],_,z,za,zn,zc,rfl,rfl,Lay.made w8 z.cells 37,okz.below bn (Nat.le_refl _),smz,iz.below bn (Nat.le_refl _),pz,s8,belowT b8 bn⟩
   ·go_wp2_with fail
    go_meet
    case rel=>
     obtain ⟨g1,g2⟩:=WV.put (x:=z) xB
     exact ⟨by rw [T1.out],w6.heap.size,z,za,zn,zc,rfl,rfl,g1,okz.but g2.but (nz _ (by simp)),smz,iz.but g2.but (fz.imp id fun h y e=>by have:=h y e;simp at this;omega),pz,Nat.le_refl _,b8.trans (g2.below (Nat.le_refl _))⟩
  case rest=>
   obtain ⟨rfl,N,z,za,zn,zc,rfl,rfl,xN,okz,smz,iz,pz,hN,hb⟩:=hcut
   replace Cx:=Cx.below hb
   replace oky:=oky.below hb (Nat.le_refl _)
   replace iy:=iy.below hb (Nat.le_refl _)
   replace hL:=hL.below hb (Nat.le_refl _)
   replace hE:=hE.below hb
   replace bw:=belowT bw hb
   clear hb q0 q1 q2 q3 q4 q5 q6 q7 q8 q9 hLt R3 x0 hk n0 n1 hN hBl
   generalize wc=w9 at *
   have hD:=hL.drop hqn
   have R4:=hide (fun a w' h1 h2 h3=>WRun_c z a (ln - q) (lc - q) (L.drop q) w' h1 h2 smz h3)
   rw [List.map_drop,pz] at R4
   have PZ:=hide pz
   clear pz hL
   generalize runW r1.1 ((L.map XV.p).drop q)=r2 at *
   obtain ⟨q0,q1,q2,q3,q4,q5,q6,q7,q8,q9⟩:=xN.ten
   have hNl:=xN.lt
   have n0:N≠w9.heap.size:=by omega
   have n1:w9.heap.size≠N:=by omega
   have hcc:(lc=q)=True∨(lc=q)=False:=by
    by_cases h:lc=q
    ·exact .inl (eq_true h)
    ·exact .inr (eq_false h)
   go_upto_region 6 with fail
   go_cut [12,13,14] (fun p s e wx=>e=.int .i64 0∧∃ (M:Nat) (v:WV) (a:Option Addr) (n c:Nat),p=.pointer (some ⟨M,0,none⟩)∧s=.slice a n c∧Lay wx M v.cells∧v.ok wx∧Ints wx a n c r2.2.1∧v.p=r2.1∧Below w9.heap.size w9 wx)
   case first=>
    rcases hcc with hcq|hcq
    all_goals
     simp only [hcq,if_true,if_false] at hD
     go_region_held3 (fun w'=>w'.cell? ⟨N,0,none⟩=some (.slice z.h.d.za z.h.d.zn z.h.d.zc)∧w'.cell? ⟨N,1,none⟩=some (.slice z.h.d.ka z.h.d.kn z.h.d.kc)∧w'.cell? ⟨N,2,none⟩=some (.int .i64 z.h.d.b.h)∧w'.cell? ⟨N,3,none⟩=some (.int .i64 z.h.d.b.t)∧w'.cell? ⟨N,4,none⟩=some (.slice z.h.a z.h.n z.h.c)∧w'.cell? ⟨N,5,none⟩=some (.slice z.d.a z.d.n z.d.c)∧w'.cell? ⟨N,6,none⟩=some (.slice z.d.b z.d.m z.d.d)∧w'.cell? ⟨N,7,none⟩=some (.bool z.u)∧w'.cell? ⟨N,8,none⟩=some (.slice z.na z.nn z.nc)∧w'.cell? ⟨N,9,none⟩=some (.slice z.ma z.mn z.mc)) ((first|(go_simp;done)|(simp [*,World.cell?_alloc_at,World.cell?_alloc_past,World.cell?_alloc_some,World.cell?_setCell_far];done))) (first|(go_at_call 17;refine (R4.out _ _ (by refine hE.below ?_;(repeat first|exact bel0|assumption|refine bel1 ?_|refine bel2 ?_|refine bel3 ?_|refine belowT ?_ (by assumption)|refine bel5 ?_ (by simp;try omega))) (by refine okz.below (B:=w9.heap.size) ?_ (Nat.le_refl _);(repeat first|exact bel0|assumption|refine bel1 ?_|refine bel2 ?_|refine bel3 ?_|refine belowT ?_ (by assumption)|refine bel5 ?_ (by simp;try omega))) (by refine hD.below (B:=w9.heap.size) ?_ (Nat.le_refl _);(repeat first|exact bel0|assumption|refine bel1 ?_|refine bel2 ?_|refine bel3 ?_|refine belowT ?_ (by assumption)|refine bel5 ?_ (by simp;try omega)))).mono ?_;rintro e w8 ⟨⟨v,va,vn,vc,rfl,okv,smv,nv,iv,fv,pv⟩,hb⟩;(have m0:=keepc hb (p:=⟨N,0,none⟩) (u:=.slice z.h.d.za z.h.d.zn z.h.d.zc) (by (first|(go_simp;done)|(simp [*,World.cell?_alloc_at,World.cell?_alloc_past,World.cell?_alloc_some,World.cell?_setCell_far];done))));(have m1:=keepc hb (p:=⟨N,1,none⟩) (u:=.slice z.h.d.ka z.h.d.kn z.h.d.kc) (by (first|(go_simp;done)|(simp [*,World.cell?_alloc_at,World.cell?_alloc_past,World.cell?_alloc_some,World.cell?_setCell_far];done))));(have m2:=keepc hb (p:=⟨N,2,none⟩) (u:=.int .i64 z.h.d.b.h) (by (first|(go_simp;done)|(simp [*,World.cell?_alloc_at,World.cell?_alloc_past,World.cell?_alloc_some,World.cell?_setCell_far];done))));(have m3:=keepc hb (p:=⟨N,3,none⟩) (u:=.int .i64 z.h.d.b.t) (by (first|(go_simp;done)|(simp [*,World.cell?_alloc_at,World.cell?_alloc_past,World.cell?_alloc_some,World.cell?_setCell_far];done))));(have m4:=keepc hb (p:=⟨N,4,none⟩) (u:=.slice z.h.a z.h.n z.h.c) (by (first|(go_simp;done)|(simp [*,World.cell?_alloc_at,World.cell?_alloc_past,World.cell?_alloc_some,World.cell?_setCell_far];done))));(have m5:=keepc hb (p:=⟨N,5,none⟩) (u:=.slice z.d.a z.d.n z.d.c) (by (first|(go_simp;done)|(simp [*,World.cell?_alloc_at,World.cell?_alloc_past,World.cell?_alloc_some,World.cell?_setCell_far];done))));(have m6:=keepc hb (p:=⟨N,6,none⟩) (u:=.slice z.d.b z.d.m z.d.d) (by (first|(go_simp;done)|(simp [*,World.cell?_alloc_at,World.cell?_alloc_past,World.cell?_alloc_some,World.cell?_setCell_far];done))));(have m7:=keepc hb (p:=⟨N,7,none⟩) (u:=.bool z.u) (by (first|(go_simp;done)|(simp [*,World.cell?_alloc_at,World.cell?_alloc_past,World.cell?_alloc_some,World.cell?_setCell_far];done))));(have m8:=keepc hb (p:=⟨N,8,none⟩) (u:=.slice z.na z.nn z.nc) (by (first|(go_simp;done)|(simp [*,World.cell?_alloc_at,World.cell?_alloc_past,World.cell?_alloc_some,World.cell?_setCell_far];done))));(have m9:=keepc hb (p:=⟨N,9,none⟩) (u:=.slice z.ma z.mn z.mc) (by (first|(go_simp;done)|(simp [*,World.cell?_alloc_at,World.cell?_alloc_past,World.cell?_alloc_some,World.cell?_setCell_far];done))));(have b8:Below w9.heap.size w9 w8:=by (repeat first|exact bel0|assumption|refine bel1 ?_|refine bel2 ?_|refine bel3 ?_|refine belowT ?_ (by assumption)|refine bel5 ?_ (by simp;try omega)));(have s8:=b8.size);(have n2:N≠w8.heap.size:=by omega);(have n3:w8.heap.size≠N:=by omega);(first|(have xB:=Lay.below (Lay.drew (Lay.made w9 WV.zero.cells 37)) hb)|(have xB:=Lay.below (Lay.made w9 WV.zero.cells 37) hb)|skip);(try have u0:=xB.cell 0 _ rfl);(try have v0:=xB.ice 0);(try have u1:=xB.cell 1 _ rfl);(try have v1:=xB.ice 1);(try have u2:=xB.cell 2 _ rfl);(try have v2:=xB.ice 2);(try have u3:=xB.cell 3 _ rfl);(try have v3:=xB.ice 3);(try have u4:=xB.cell 4 _ rfl);(try have v4:=xB.ice 4);(try have u5:=xB.cell 5 _ rfl);(try have v5:=xB.ice 5);(try have u6:=xB.cell 6 _ rfl);(try have v6:=xB.ice 6);(try have u7:=xB.cell 7 _ rfl);(try have v7:=xB.ice 7);(try have u8:=xB.cell 8 _ rfl);(try have v8:=xB.ice 8);(try have u9:=xB.cell 9 _ rfl);(try have v9:=xB.ice 9)))
     ·go_wp2_with fail
      go_meet
      case rel=>
       have bn:=belowA (Below.refl _ w8) (.cells v.cells.toArray 37)
       exact ⟨by rw [T2.out],_,v,va,vn,vc,rfl,rfl,Lay.made w8 v.cells 37,okv.below bn (Nat.le_refl _),iv.below bn (Nat.le_refl _),pv,belowT b8 bn⟩
     ·go_wp2_with fail
      go_meet
      case rel=>
       obtain ⟨g1,g2⟩:=WV.put (x:=v) xB
       exact ⟨by rw [T2.out],w9.heap.size,v,va,vn,vc,rfl,rfl,g1,okv.but g2.but (nv _ (by simp)),iv.but g2.but (fv.imp id fun h y e=>by have:=h y e;simp at this;omega),pv,b8.trans (g2.below (Nat.le_refl _))⟩
   case rest=>
    obtain ⟨rfl,M,v,va,vn,vc,rfl,rfl,xM,okv,iv,pv,hb⟩:=hcut
    replace Cx:=Cx.below hb
    replace oky:=oky.below hb (Nat.le_refl _)
    replace iy:=iy.below hb (Nat.le_refl _)
    replace iz:=iz.below hb (Nat.le_refl _)
    replace bw:=belowT bw hb
    clear hb q0 q1 q2 q3 q4 q5 q6 q7 q8 q9 R4 xN okz hD hcc n0 n1 hNl hE
    generalize wc=w10 at *
    have S1:=hide (fun w' h1 h2=>WSame_t y v (PY.out.trans (T3.out.trans pv.symm)) w' h1 h2)
    have e1:=iz.len
    have e2:=iv.len
    have HEN:=hide T4.out
    have hzn:zn≤120:=by rw [← e1];exact T5.out
    have hvn:vn≤120:=by rw [← e2];exact T6.out
    clear pv T3 T4 PY e1 e2
    obtain ⟨q0,q1,q2,q3,q4,q5,q6,q7,q8,q9⟩:=Cx.ten
    obtain ⟨r0,r1',r2',r3,r4,r5,r6,r7,r8,r9⟩:=xM.ten
    go_wp2_with fail
    refine (S1.out _ oky okv).mono ?_
    rintro e w11 ⟨rfl,hb⟩
    replace iy:=iy.below hb (Nat.le_refl _)
    replace iz:=iz.below hb (Nat.le_refl _)
    replace iv:=iv.below hb (Nat.le_refl _)
    replace bw:=belowT bw hb
    clear hb q0 q1 q2 q3 q4 q5 q6 q7 q8 q9 r0 r1' r2' r3 r4 r5 r6 r7 r8 r9 Cx xM oky okv
    have xS:=Lay.made w11 [.slice za zn zc,.slice va vn vc] 61
    have bn:=belowA (Below.refl _ w11) (.cells [.slice za zn zc,.slice va vn vc].toArray 61)
    go_wp2_with fail
    refine (EConcat_c w11.heap.size za zn zc (cellsOf r1.2.1) va vn vc (cellsOf r2.2.1) _ (Ints.rowed (iz.below bn (Nat.le_refl _))) (Ints.rowed (iv.below bn (Nat.le_refl _))) (by omega) (xS.cell 0 _ rfl) (xS.cell 1 _ rfl)).mono ?_
    rintro e w12 ⟨⟨cv,rfl,hown⟩,hb⟩
    rw [cellsOf_app] at hown
    obtain ⟨ca,cc,rfl,ic⟩:=Ints.of_own hown (fun y hy=>(List.mem_append.1 hy).elim (iz.wf y) (iv.wf y))
    replace bn:=belowT bn hb
    replace iy:=iy.below bn (Nat.le_refl _)
    replace bw:=belowT bw bn
    clear hb bn xS iz iv hown
    go_wp2_with fail
    refine (EqualE_c ya ca yn _ yc cc r.2.1 (r1.2.1++r2.2.1) _ iy ic).mono ?_
    rintro e w13 ⟨rfl,n13,rfl⟩
    rw [decide_eq_true HEN.out]
    replace bw:=below_drewN bw n13
    go_wp2
    go_ret
    exact ⟨rfl,bw⟩
 ·go_wp2_with fail
  refine (HAE.out _ hE).mono ?_
  rintro e w7 ⟨rfl,hb⟩
  go_wp2
  go_ret
  exact ⟨rfl,belowT bw hb⟩
end Go.Proofs.YtnnngphfmclegaaGreatDoor
