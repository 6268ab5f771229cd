/- The contracts of world.happen, step, Do; no condition but that the arguments read as data, the package-level variables are as their texts lay them, and a disk is no greater than a machine bears. -/
import Derived.Test.YtabafikicbkkdaaGreatDoorSU39
import Derived.Test.YtabafikicbkkdaaGreatDoorSU43
import Derived.Test.YtabafikicbkkdaaGreatDoorSU34
import Derived.Test.YtabafikicbkkdaaGreatDoorSU13
import Derived.Test.YtabafikicbkkdaaGreatDoorSU35
import Derived.Test.YtabafikicbkkdaaGreatDoorSU14
namespace Go.Proofs.YtabafikicbkkdaaGreatDoor
open Go.RowKit
set_option linter.unusedVariables false
set_option maxHeartbeats 4000000
set_option maxRecDepth 100000
set_option linter.unusedSimpArgs false
theorem happen_c (b B g:Nat) (x:WV) (v:XV) (w:World) (hE:Env w) (HEB:∀ w',Below b w w'→Env w') (o:OwnW w b B g x) (hv:v.ok w) (hr:checkW x.p=0) :
  Calls Tryz.prog 68 #[.pointer (some ⟨B,0,none⟩),v.v] w fun e w'=>WAct b B g (happenW x.p v.p) e w'∧Below b w w':=by
 have hBl0:=o.lay.lt
 have hck:=(checkW_ok hr).2.2.2.1
 have hsm:=check_small hck
 have hs1:x.d.n≤140737488355328:=by have:=Byts.len o.d.s;have e:x.p.d.s=x.d.p.s:=rfl;rw [e] at hsm;omega
 have hs2:x.d.m≤140737488355328:=by have:=Byts.len o.d.w;have e:x.p.d.w=x.d.p.w:=rfl;rw [e] at hsm;omega
 have xv:=Lay.made w v.cells 75
 have bw:=belowA (Below.refl _ w) (.cells v.cells.toArray 75)
 have hbB:=o.le.1
 have hbs:b≤w.heap.size:=by omega
 have HA:=hide (fun w' hE h h' hk=>ask_c b B g x v w' hE h h' hr hk)
 have HCR:=hide (fun w' hE h hy hB=>carry_c b B g x v w' hE h hr hy hB)
 have HX:=hide (fun w' h=>crash_c b B g x w' h)
 have HB:=hide (fun w' hE h=>boot_c b B g x w' hE h hck hs1 hs2)
 replace o:=o.below bw
 replace hE:=hE.below bw
 replace hv:=Ints.below hv bw (Nat.le_refl _)
 have HEB1:=hide (fun w' (h:Below b (w.alloc (.cells v.cells.toArray 75)) w')=>HEB w' ((bw.mono hbs).trans h))
 have e0:v.p.k=v.k:=rfl
 have HC:Hid (happenW x.p v.p=if v.k=3∨v.k=4∨v.k=5 then carryW x.p v.p
  else if v.k=6 then (if x.u=false then (zeroW,6) else ({x.p with h:=freshH,u:=false},0))
  else if v.k=7 then (if x.u then (zeroW,6) else if (replayH (recK x.d.p).2.1).2≠0 then (zeroW,(replayH (recK x.d.p).2.1).2) else ({x.p with h:=(replayH (recK x.d.p).2.1).1,d:=(recK x.d.p).1,u:=true},0))
  else if v.k=1∨v.k=2 then askW x.p v.p else (zeroW,4)):=hide (by
  unfold happenW carryW askW
  rw [e0]
  by_cases h1:v.k=3∨v.k=4∨v.k=5
  ·rw [if_pos h1,if_pos h1]
   split
   ·rfl
   ·cases x.p.m[v.p.n.toNat]?<;>rfl
  ·rw [if_neg h1,if_neg h1]
   by_cases h2:v.k=6
   ·rw [if_pos h2,if_pos h2];rfl
   ·rw [if_neg h2,if_neg h2]
    by_cases h3:v.k=7
    ·rw [if_pos h3,if_pos h3];rfl
    ·rw [if_neg h3,if_neg h3]
     by_cases h4:v.k=1
     ·rw [if_pos h4,if_pos (show v.k=1∨v.k=2 from .inl h4)]
      by_cases hi:inB v.p.w 0 2=false
      ·rw [if_pos hi,if_pos hi]
      ·rw [if_neg hi,if_neg hi,if_pos h4]
     ·rw [if_neg h4]
      by_cases h5:v.k=2
      ·rw [if_pos h5,if_pos (show v.k=1∨v.k=2 from .inr h5)]
       by_cases hi:inB v.p.w 0 2=false
       ·rw [if_pos hi,if_pos hi]
       ·rw [if_neg hi,if_neg hi,if_neg h4]
      ·rw [if_neg h5,if_neg (by omega)])
 generalize happenW x.p v.p=cw at *
 generalize carryW x.p v.p=c1 at *
 generalize askW x.p v.p=c2 at *
 generalize (if x.u=false then (zeroW,6) else ({x.p with h:=freshH,u:=false},0):PW×Int)=c3 at *
 generalize (if x.u then (zeroW,6) else if (replayH (recK x.d.p).2.1).2≠0 then (zeroW,(replayH (recK x.d.p).2.1).2) else ({x.p with h:=(replayH (recK x.d.p).2.1).1,d:=(recK x.d.p).1,u:=true},0):PW×Int)=c4 at *
 have y0:=xv.cell 0 _ rfl
 have y1:=xv.cell 1 _ rfl
 have y2:=xv.cell 2 _ rfl
 have y3:=xv.cell 3 _ rfl
 have y4:=xv.cell 4 _ rfl
 have y5:=xv.cell 5 _ rfl
 have y6:=xv.cell 6 _ rfl
 have y7:=xv.cell 7 _ rfl
 dsimp only [XV.v,XV.cells] at *
 clear e0 hs1 hs2 hsm hck HEB xv
 by_cases hk:v.k=1
 ·rw [if_neg (by omega),if_neg (by omega),if_neg (by omega),if_pos (by omega)] at HC
  have k1:(v.k==1)=true:=by rw [hk];rfl
  have k2:(v.k==2)=false:=by rw [hk];rfl
  have k3:(v.k==3)=false:=by rw [hk];rfl
  have k4:(v.k==4)=false:=by rw [hk];rfl
  have k5:(v.k==5)=false:=by rw [hk];rfl
  have k6:(v.k==6)=false:=by rw [hk];rfl
  have k7:(v.k==7)=false:=by rw [hk];rfl
  have HK:=hide hk
  clear hk
  go_enter Tryz.func68,Tryz.ntmps68
  go_wp2_with fail
  refine (HA.out _ hE o hv (by have:=HK.out;omega)).mono ?_
  rintro e w2 ⟨⟨rfl,hx⟩,hb⟩
  go_wp2
  go_ret
  exact ⟨⟨by rw [HC.out];rfl,by rw [HC.out];exact hx⟩,(bw.mono hbs).trans hb⟩
 by_cases hk:v.k=2
 ·rw [if_neg (by omega),if_neg (by omega),if_neg (by omega),if_pos (by omega)] at HC
  have k1:(v.k==1)=false:=by rw [hk];rfl
  have k2:(v.k==2)=true:=by rw [hk];rfl
  have k3:(v.k==3)=false:=by rw [hk];rfl
  have k4:(v.k==4)=false:=by rw [hk];rfl
  have k5:(v.k==5)=false:=by rw [hk];rfl
  have k6:(v.k==6)=false:=by rw [hk];rfl
  have k7:(v.k==7)=false:=by rw [hk];rfl
  have HK:=hide hk
  clear hk
  go_enter Tryz.func68,Tryz.ntmps68
  go_wp2_with fail
  refine (HA.out _ hE o hv (by have:=HK.out;omega)).mono ?_
  rintro e w2 ⟨⟨rfl,hx⟩,hb⟩
  go_wp2
  go_ret
  exact ⟨⟨by rw [HC.out];rfl,by rw [HC.out];exact hx⟩,(bw.mono hbs).trans hb⟩
 by_cases hk:v.k=3
 ·rw [if_pos (by omega)] at HC
  have k1:(v.k==1)=false:=by rw [hk];rfl
  have k2:(v.k==2)=false:=by rw [hk];rfl
  have k3:(v.k==3)=true:=by rw [hk];rfl
  have k4:(v.k==4)=false:=by rw [hk];rfl
  have k5:(v.k==5)=false:=by rw [hk];rfl
  have k6:(v.k==6)=false:=by rw [hk];rfl
  have k7:(v.k==7)=false:=by rw [hk];rfl
  have HK:=hide hk
  clear hk
  go_enter Tryz.func68,Tryz.ntmps68
  go_wp2_with fail
  refine (HCR.out _ hE o (by have:=HK.out;omega) HEB1.out).mono ?_
  rintro e w2 ⟨⟨rfl,hx⟩,hb⟩
  go_wp2
  go_ret
  exact ⟨⟨by rw [HC.out];rfl,by rw [HC.out];exact hx⟩,(bw.mono hbs).trans hb⟩
 by_cases hk:v.k=4
 ·rw [if_pos (by omega)] at HC
  have k1:(v.k==1)=false:=by rw [hk];rfl
  have k2:(v.k==2)=false:=by rw [hk];rfl
  have k3:(v.k==3)=false:=by rw [hk];rfl
  have k4:(v.k==4)=true:=by rw [hk];rfl
  have k5:(v.k==5)=false:=by rw [hk];rfl
  have k6:(v.k==6)=false:=by rw [hk];rfl
  have k7:(v.k==7)=false:=by rw [hk];rfl
  have HK:=hide hk
  clear hk
  go_enter Tryz.func68,Tryz.ntmps68
  go_wp2_with fail
  refine (HCR.out _ hE o (by have:=HK.out;omega) HEB1.out).mono ?_
  rintro e w2 ⟨⟨rfl,hx⟩,hb⟩
  go_wp2
  go_ret
  exact ⟨⟨by rw [HC.out];rfl,by rw [HC.out];exact hx⟩,(bw.mono hbs).trans hb⟩
 by_cases hk:v.k=5
 ·rw [if_pos (by omega)] at HC
  have k1:(v.k==1)=false:=by rw [hk];rfl
  have k2:(v.k==2)=false:=by rw [hk];rfl
  have k3:(v.k==3)=false:=by rw [hk];rfl
  have k4:(v.k==4)=false:=by rw [hk];rfl
  have k5:(v.k==5)=true:=by rw [hk];rfl
  have k6:(v.k==6)=false:=by rw [hk];rfl
  have k7:(v.k==7)=false:=by rw [hk];rfl
  have HK:=hide hk
  clear hk
  go_enter Tryz.func68,Tryz.ntmps68
  go_wp2_with fail
  refine (HCR.out _ hE o (by have:=HK.out;omega) HEB1.out).mono ?_
  rintro e w2 ⟨⟨rfl,hx⟩,hb⟩
  go_wp2
  go_ret
  exact ⟨⟨by rw [HC.out];rfl,by rw [HC.out];exact hx⟩,(bw.mono hbs).trans hb⟩
 by_cases hk:v.k=6
 ·rw [if_neg (by omega),if_pos hk] at HC
  have k1:(v.k==1)=false:=by rw [hk];rfl
  have k2:(v.k==2)=false:=by rw [hk];rfl
  have k3:(v.k==3)=false:=by rw [hk];rfl
  have k4:(v.k==4)=false:=by rw [hk];rfl
  have k5:(v.k==5)=false:=by rw [hk];rfl
  have k6:(v.k==6)=true:=by rw [hk];rfl
  have k7:(v.k==7)=false:=by rw [hk];rfl
  have HK:=hide hk
  clear hk
  go_enter Tryz.func68,Tryz.ntmps68
  go_wp2_with fail
  refine (HX.out _ o).mono ?_
  rintro e w2 ⟨⟨rfl,hx⟩,hb⟩
  go_wp2
  go_ret
  exact ⟨⟨by rw [HC.out];rfl,by rw [HC.out];exact hx⟩,(bw.mono hbs).trans hb⟩
 by_cases hk:v.k=7
 ·rw [if_neg (by omega),if_neg (by omega),if_pos hk] at HC
  have k1:(v.k==1)=false:=by rw [hk];rfl
  have k2:(v.k==2)=false:=by rw [hk];rfl
  have k3:(v.k==3)=false:=by rw [hk];rfl
  have k4:(v.k==4)=false:=by rw [hk];rfl
  have k5:(v.k==5)=false:=by rw [hk];rfl
  have k6:(v.k==6)=false:=by rw [hk];rfl
  have k7:(v.k==7)=true:=by rw [hk];rfl
  have HK:=hide hk
  clear hk
  go_enter Tryz.func68,Tryz.ntmps68
  go_wp2_with fail
  refine (HB.out _ hE o).mono ?_
  rintro e w2 ⟨⟨rfl,hx⟩,hb⟩
  go_wp2
  go_ret
  exact ⟨⟨by rw [HC.out];rfl,by rw [HC.out];exact hx⟩,(bw.mono hbs).trans hb⟩
 rw [if_neg (by omega),if_neg (by omega),if_neg (by omega),if_neg (by omega)] at HC
 have k1:(v.k==1)=false:=by simp;omega
 have k2:(v.k==2)=false:=by simp;omega
 have k3:(v.k==3)=false:=by simp;omega
 have k4:(v.k==4)=false:=by simp;omega
 have k5:(v.k==5)=false:=by simp;omega
 have k6:(v.k==6)=false:=by simp;omega
 have k7:(v.k==7)=false:=by simp;omega
 go_enter Tryz.func68,Tryz.ntmps68
 go_wp2
 go_ret
 exact ⟨⟨by rw [HC.out];rfl,fun e=>by rw [HC.out] at e;exact absurd e (by decide)⟩,bw.mono hbs⟩
theorem small_of {x:WV} {w:World} (hx:x.ok w) (hr:checkW x.p=0):Small x:=by
 obtain ⟨r1,r2,r3,r4,r5,r6,r7⟩:=checkW_ok hr
 have hsm:=check_small r4
 have l1:x.p.d.s.length=x.d.n:=Byts.len hx.d.s
 have l2:x.p.d.w.length=x.d.m:=Byts.len hx.d.w
 have hH:checkH x.h.p=0:=by
  have e:(replayH (logW x.p)).1=x.h.p:=congrArg Prod.fst r6
  have e2:(replayH (logW x.p)).2=0:=congrArg Prod.snd r6
  unfold replayH at e e2
  split at e2
  ·cases e2
  ·rename_i q
   rw [if_neg q] at e
   rw [← e]
   exact (replay_right _ _ checkH_fresh e2).1
 obtain ⟨hcd,h3,hys,-⟩:=hall_right hx.h hH
 obtain ⟨s1,s2,s3⟩:=desk_small hx.h.d hcd
 have hN:x.N.length=3:=by rw [← r1];simp [WV.p]
 have hM:x.M.length≤30:=by rw [show x.p.m.length=x.M.length by simp [WV.p]] at r2;exact r2
 refine ⟨s1,s2,s3,by omega,fun y hy=>by have:=(hys y hy).2;omega,by omega,by omega,by rw [← hx.n.len];omega,fun y hy=>?_,by rw [← hx.m.len];omega,fun m hm=>?_⟩
 ·obtain ⟨q1,q2,q3⟩:=hand_small (hx.n.ok y hy) (r7 y.p (List.mem_map.2 ⟨y,hy,rfl⟩))
  exact ⟨by omega,by omega,fun a ha=>by have:=q3 a ha;omega⟩
 ·have hc:=r3 m.p (List.mem_map.2 ⟨m,hm,rfl⟩)
  obtain ⟨-,-,f3,f4⟩:=checkM_facts hc
  have lc:m.p.c.d.length=m.cn:=(hx.m.ok m hm).c.len
  have la:m.p.a.d.length=m.x.n:=(hx.m.ok m hm).x.len
  cases hb:m.p.b with
  |true=>
   obtain ⟨e1,e2⟩:=f3 hb
   have:=checkA_few e2
   rw [e1] at lc
   simp [zeroC] at lc
   omega
  |false=>
   obtain ⟨e1,e2⟩:=f4 hb
   have:=(cmd_facts e2).2.2.2.2.1
   rw [e1] at la
   simp [zeroA] at la
   omega
theorem sm_of {x:WV} {w:World} (hx:x.ok w) (hr:checkW x.p=0):x.sm:=by
 have s:=small_of hx hr
 exact ⟨by have:=s.d1;omega,by have:=s.d2;omega⟩
end Go.Proofs.YtabafikicbkkdaaGreatDoor
namespace Go.Proofs.YtabafikicbkkdaaGreatDoor
open Go.RowKit
set_option linter.unusedVariables false
set_option maxHeartbeats 4000000
set_option maxRecDepth 100000
set_option linter.unusedSimpArgs false
theorem comes_zero {x:PW} {m:PM} (h:(comesW x m).2≠0):comesW x m=(zeroW,(comesW x m).2):=by
 unfold comesW at h ⊢
 repeat' split
 all_goals first|rfl|(exfalso;simp_all;done)|simp_all
theorem happen_zero {x:PW} {e:PX} (h:(happenW x e).2≠0):happenW x e=(zeroW,(happenW x e).2):=by
 unfold happenW at h ⊢
 split
 ·rename_i h1
  rw [if_pos h1] at h
  split
  ·rfl
  ·rename_i h2
   rw [if_neg h2] at h
   split
   ·rfl
   ·rename_i m hm
    rw [hm] at h
    dsimp only at h
    split
    ·rename_i h3;rw [if_pos h3] at h;exact absurd rfl h
    ·rename_i h3
     rw [if_neg h3] at h
     split
     ·rename_i h4;rw [if_pos h4] at h;exact comes_zero h
     ·rename_i h4;rw [if_neg h4] at h;exact comes_zero h
 ·rename_i h1
  rw [if_neg h1] at h
  repeat' split
  all_goals first|rfl|(exfalso;simp_all;done)|simp_all
theorem OwnW.newR {w:World} {b B g:Nat} {x:WV} (o:OwnW w b B g x) {R:Nat} (hR:R < b):x.off R:=by
 have f:=o.far R (.inl hR)
 refine ⟨f.h,f.d,⟨.inr fun y e=>?_,f.n⟩,⟨?_,f.m⟩⟩
 ·rw [o.na.1] at e
  cases e
  have:=o.le.2.1
  show g≠R
  omega
 ·rcases Nat.eq_zero_or_pos x.mn with h0|h0
  ·exact .inl h0
  ·right
   obtain ⟨k,cap,e2,hk,-⟩:=o.m.own.form (by rw [← o.mn];exact h0)
   simp only [Value.slice.injEq] at e2
   intro y e
   rw [e2.1] at e
   cases e
   show k≠R
   omega
theorem step_c (x:WV) (v:XV) (w:World) (hE:Env w) (hx:x.ok w) (hr:checkW x.p=0) (hv:v.ok w):Calls Tryz.prog 46 #[x.v,v.v] w fun e w'=>WorldNew (happenW x.p v.p) w e w':=by
 have hS:=small_of hx hr
 have HCP:=hide (fun w' h=>pworld_c x w' h hS)
 have HZ:=hide (fun k=>happen_zero (x:=x.p) (e:=v.p) k)
 have HR:Hid ((happenW x.p v.p).2=0→checkW (happenW x.p v.p).1=0):=hide (fun k=>by
  have e:doW x.p v.p=happenW x.p v.p:=by unfold doW;rw [if_neg (by simp [hr])]
  have:=(world_keeps (x:=x.p) (e:=v.p) (by rw [e];exact k)).2.1
  rwa [e] at this)
 generalize hcw:happenW x.p v.p=cw at *
 have HCW:=hide hcw
 clear hcw hS
 have hM:x.p.m.length≤30:=(checkW_ok hr).2.1
 obtain ⟨x0,x1,x2,bw⟩:=three_boxes w x.cells v.cells [.slice none 0 0,.slice none 0 0,.int .i64 0,.int .i64 0,.slice none 0 0,.slice none 0 0,.slice none 0 0,.bool false,.slice none 0 0,.slice none 0 0] 40 75 40
 replace hx:=hx.below bw (Nat.le_refl _)
 replace hv:=Ints.below hv bw (Nat.le_refl _)
 replace hE:=hE.below bw
 dsimp only [XV.v,XV.cells] at *
 go_enter Tryz.func46,Tryz.ntmps46
 go_wp2_with fail
 generalize ((w.alloc (.cells x.cells.toArray 40)).alloc (.cells [.int .i64 v.k,.int .i64 v.w,.int .i64 v.n,.int .i64 v.c.k,.int .i64 v.c.z,.int .i64 v.c.n,.int .i64 v.c.at',.slice v.ca v.cn v.cc].toArray 75)).alloc (.cells [.slice none 0 0,.slice none 0 0,.int .i64 0,.int .i64 0,.slice none 0 0,.slice none 0 0,.slice none 0 0,.bool false,.slice none 0 0,.slice none 0 0].toArray 40)=w1 at *
 have HL2:=hide x2.lt
 refine (HCP.out _ hx).mono ?_
 rintro e w2 ⟨⟨y,g,q,rfl,cy⟩,hb⟩
 have hyp:=cy.p
 have hyM:y.M.length≤1000:=by
  have:y.p.m.length≤30:=by rw [hyp];exact hM
  rw [show y.p.m.length=y.M.length by simp [WV.p]] at this
  omega
 have s12:=hb.size
 replace x1:=x1.below hb
 replace x2:=x2.below hb
 replace hv:=hv.below hb (Nat.le_refl _)
 have HE1:=hide hE
 have b12:=hb
 clear hb HCP x0
 go_upto_region 2 with fail
 have o:=OwnW.of_copy cy hyM
 have bn:=belowA (Below.refl _ w2) (.cells y.cells.toArray 40)
 replace x1:=x1.below bn
 replace x2:=x2.below bn
 replace hv:=hv.below bn (Nat.le_refl _)
 have b13:=belowT b12 bn
 have s23:=bn.size
 clear bn b12 cy
 generalize w2.alloc (.cells y.cells.toArray 40)=w3 at *
 generalize w2.heap.size=B at *
 have y0:=x1.cell 0 _ rfl
 have y1:=x1.cell 1 _ rfl
 have y2:=x1.cell 2 _ rfl
 have y3:=x1.cell 3 _ rfl
 have y4:=x1.cell 4 _ rfl
 have y5:=x1.cell 5 _ rfl
 have y6:=x1.cell 6 _ rfl
 have y7:=x1.cell 7 _ rfl
 have HH:=hide (fun w' hE hB o hv=>happen_c w1.heap.size B g y v w' hE hB o hv (by rw [hyp];exact hr))
 rw [hyp,HCW.out] at HH
 dsimp only [XV.v] at HH
 go_wp2_with fail
 refine (HH.out _ (HE1.out.below b13) (fun w' h=>HE1.out.below (b13.trans h)) o hv).mono ?_
 rintro e w4 ⟨⟨rfl,hres⟩,hb⟩
 have hl2:w.heap.size + 1 + 1 < w1.heap.size:=by
  have:=HL2.out
  omega
 clear y0 y1 y2 y3 y4 y5 y6 y7 HH o x1 hv
 have xR:Lay w4 (w.heap.size + 1 + 1) [.slice none 0 0,.slice none 0 0,.int .i64 0,.int .i64 0,.slice none 0 0,.slice none 0 0,.slice none 0 0,.bool false,.slice none 0 0,.slice none 0 0]:=x2.hp (hb.block _ hl2) (by have:=hb.size;omega)
 have bw4:Below w.heap.size w w4:=belowT bw (b13.trans hb)
 clear hb b13 x2
 obtain ⟨e0,e1,e2,e3,e4,e5,e6,e7,e8,e9⟩:=Lay.ten (x:=WV.zero) xR
 have ice:=xR.ice
 dsimp only [WV.zero,HV.zero,DV.zero,KV.zero,zeroB] at e0 e1 e2 e3 e4 e5 e6 e7 e8 e9
 cases h0:cw.2 !=0
 ·have h00:cw.2=0:=by simpa using h0
  obtain ⟨z,oz,hzp⟩:=hres h00
  obtain ⟨f0,f1,f2,f3,f4,f5,f6,f7,f8,f9⟩:=oz.lay.ten
  have hzr:checkW z.p=0:=by rw [hzp];exact HR.out h00
  have hzN:z.N.length≤1000000:=by
   have:=(checkW_ok hzr).1
   rw [show z.p.n.length=z.N.length by simp [WV.p]] at this
   omega
  have okz:=oz.ok hzN
  have smz:=sm_of okz hzr
  have bt:=putAll_but (w.heap.size + 1 + 1) z.cells w4 0
  have okz9:=okz.but bt.but (oz.newR hl2)
  have zB:=xR.fill (vs:=z.cells) rfl
  have b9:=bw4.trans (bt.below (B:=w.heap.size) (by omega))
  have HOZ:=hide (fun R (h:R < w1.heap.size)=>oz.newR h)
  have hzz:=hzp.trans (show cw.1=cw.1 from rfl)
  dsimp only [putAll,Nat.reduceAdd] at okz9 zB b9
  have H00:=hide h00
  clear h00 oz okz bt xR bw4
  go_wp2
  obtain ⟨z0,z1,z2,z3,z4,z5,z6,z7,z8,z9⟩:=zB.ten
  exact bodyPost_ret (v:=.tuple #[z.v,.int .i64 0]) (by simp [results,Tryz.results46,go_sem,z0,z1,z2,z3,z4,z5,z6,z7,z8,z9]) rfl
   ⟨⟨z,by rw [H00.out],okz9,smz,fun R hR=>HOZ.out R (by omega),hzz⟩,b9⟩
 ·have hz:=hide (HZ.out (by simpa using h0))
  have bt:=putAll_but (w.heap.size + 1 + 1) WV.zero.cells w4 0
  have zB:=xR.fill (vs:=WV.zero.cells) rfl
  have b9:=bw4.trans (bt.below (B:=w.heap.size) (by omega))
  dsimp only [putAll,Nat.reduceAdd,WV.zero,HV.zero,DV.zero,KV.zero,zeroB] at zB b9
  clear xR bw4 bt
  go_wp2
  obtain ⟨z0,z1,z2,z3,z4,z5,z6,z7,z8,z9⟩:=Lay.ten (x:=WV.zero) zB
  dsimp only [WV.zero,HV.zero,DV.zero,KV.zero,zeroB] at z0 z1 z2 z3 z4 z5 z6 z7 z8 z9
  exact bodyPost_ret (v:=.tuple #[.agg #[.slice none 0 0,.slice none 0 0,.int .i64 0,.int .i64 0,.slice none 0 0,.slice none 0 0,.slice none 0 0,.bool false,.slice none 0 0,.slice none 0 0],.int .i64 cw.2]) (by simp [results,Tryz.results46,go_sem,z0,z1,z2,z3,z4,z5,z6,z7,z8,z9]) rfl
   ⟨⟨WV.zero,rfl,WV.zero_ok _,WV.zero_sm,WV.zero_new _,by rw [hz.out];rfl⟩,b9⟩
end Go.Proofs.YtabafikicbkkdaaGreatDoor
namespace Go.Proofs.YtabafikicbkkdaaGreatDoor
open Go.RowKit
set_option linter.unusedVariables false
set_option maxHeartbeats 4000000
set_option maxRecDepth 100000
set_option linter.unusedSimpArgs false
abbrev sml (e:Int):Prop:=0≤e∧e≤9
theorem checkC_e (c:PC):sml (checkC c):=by
 unfold checkC
 repeat' split
 all_goals exact ⟨by simp,by simp⟩
theorem checkR_e (r:PR):sml (checkR r):=by
 unfold checkR
 split
 ·exact ⟨by simp,by simp⟩
 ·exact checkC_e _
theorem next_e {h:PH} (k:checkH h=0) (r:PR):sml (nextH h r).2.2:=by
 unfold nextH
 rw [if_neg (by simp [k])]
 split
 ·exact checkR_e r
 ·split
  ·exact ⟨by simp,by simp⟩
  ·split<;>exact ⟨by simp,by simp⟩
theorem replayF_e:∀ (l:List PR) {h:PH},checkH h=0→sml (replayF h l).2
 |[],_,_=>⟨by simp [replayF],by simp [replayF]⟩
 |r :: l,h,k=>by
  rw [replay_cons]
  split
  ·exact next_e k r
  ·rename_i q
   exact replayF_e l (next_right (by simpa using q))
theorem replayH_e (l:List PR):sml (replayH l).2:=by
 unfold replayH
 split
 ·exact ⟨by simp,by simp⟩
 ·exact replayF_e l checkH_fresh
theorem hear_e {h:PN} (k:checkN h=0) {a:PA} (ka:checkA a=0) (q:Int):sml (hearN h q a).2:=by
 unfold hearN
 rw [if_neg (by simp [k]),if_neg (by simp [ka])]
 split<;>exact ⟨by simp,by simp⟩
theorem ask_e {h:PN} (k:checkN h=0) (c:PC):sml (askN h c).2:=by
 unfold askN
 rw [if_neg (by simp [k])]
 split
 ·exact checkC_e c
 ·repeat' split
  all_goals exact ⟨by simp,by simp⟩
theorem comes_e {x:PW} (k:checkW x=0) {m:PM} (hm:checkM m=0):sml (comesW x m).2:=by
 unfold comesW
 split
 ·rename_i hb
  have e:=hear_e (hand_mem k (checkM_facts hm).1).2 ((checkM_facts hm).2.2.1 hb).2 m.s
  split
  ·exact e
  ·exact ⟨by simp,by simp⟩
 ·split<;>exact ⟨by simp,by simp⟩
theorem happen_e {x:PW} (k:checkW x=0) (e:PX):sml (happenW x e).2:=by
 have h3:=(checkW_ok k).2.2.1
 unfold happenW
 split
 ·split
  ·exact ⟨by simp,by simp⟩
  ·split
   ·exact ⟨by simp,by simp⟩
   ·rename_i m hm
    have hc:=h3 m (List.mem_of_getElem? hm)
    split
    ·exact ⟨by simp,by simp⟩
    ·split
     ·exact comes_e k hc
     ·exact comes_e (gone_right k _) hc
 ·split
  ·split<;>exact ⟨by simp,by simp⟩
  ·split
   ·split
    ·exact ⟨by simp,by simp⟩
    ·split
     ·exact replayH_e _
     ·exact ⟨by simp,by simp⟩
   ·split
    ·split
     ·exact ⟨by simp,by simp⟩
     ·rename_i hi
      have hw:0≤e.w∧e.w≤2:=by simp [inB] at hi;omega
      have q:=ask_e (hand_mem k hw).2 e.c
      split
      ·exact q
      ·exact ⟨by simp,by simp⟩
    ·split
     ·repeat' split
      all_goals exact ⟨by simp,by simp⟩
     ·exact ⟨by simp,by simp⟩
def errK:Kin Int where
 k:=1
 cs e:=[.int .i64 e]
 ok _ _:=True
 off _ _:=True
 len _:=rfl
 one x:=fun v hv=>by
  obtain rfl:v=.int .i64 x:=by simpa using hv
  rfl
 below _ _ _ _:=trivial
 but _ _ _:=trivial
 far _ _:=trivial
theorem MineR.ints {t:TypeId} {w:World} {g n:Nat} {E:List Int} (h:MineR errK t w g E) (hn:E.length=n) (hm:n≤9223372036854775807) (hs:∀ e∈E,sml e):Ints w (some ⟨g,0,none⟩) n n E:=by
 subst hn
 refine ⟨rfl,Nat.le_refl _,hm,fun e=>(by cases e),.inr ⟨g,0,rfl,h.lay.lt,fun i hi=>?_⟩,fun x hx=>by have:=hs x hx;exact ⟨by have:=this.1;omega,by have:=this.2;omega⟩⟩
 have:=h.lay.cell _ _ (Kin.cells_get E i E[i] (List.getElem?_eq_getElem hi) 0 _ rfl)
 rw [show E.getD i 0=E[i] by simp [List.getD,hi]]
 simpa [errK] using this
theorem runF_step (x:PW) (e:PX) (l:List PX) (h:checkW x=0):runF x (e :: l)=((runF (if (happenW x e).2=0 then (happenW x e).1 else x) l).1,(happenW x e).2 :: (runF (if (happenW x e).2=0 then (happenW x e).1 else x) l).2):=by
 have e0:doW x e=happenW x e:=by unfold doW;rw [if_neg (by simp [h])]
 rw [runF,e0]
theorem runF_right:∀ (l:List PX) (x:PW),checkW x=0→checkW (runF x l).1=0∧∀ e∈(runF x l).2,sml e
 |[],x,h=>⟨h,fun e he=>(by cases he)⟩
 |e :: l,x,h=>by
  rw [runF_step x e l h]
  have hr:checkW (if (happenW x e).2=0 then (happenW x e).1 else x)=0:=by
   split
   ·rename_i q
    have e0:doW x e=happenW x e:=by unfold doW;rw [if_neg (by simp [h])]
    have:=(world_keeps (x:=x) (e:=e) (by rw [e0];exact q)).2.1
    rwa [e0] at this
   ·exact h
  obtain ⟨h1,h2⟩:=runF_right l _ hr
  refine ⟨h1,fun y hy=>?_⟩
  rcases List.mem_cons.1 hy with rfl|hy
  ·exact happen_e h e
  ·exact h2 y hy
end Go.Proofs.YtabafikicbkkdaaGreatDoor
