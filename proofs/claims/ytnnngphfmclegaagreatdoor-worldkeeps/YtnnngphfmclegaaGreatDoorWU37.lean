/- The contracts of hand's checkHear and Hear; no condition but that the arguments read as data and the package's table is as its text lays it. -/
import Derived.Test.YtnnngphfmclegaaGreatDoorWU36
import Derived.Deep.AppendLies
import Derived.Deep.RegionLaw
import Derived.Test.YtnnngphfmclegaaGreatDoorWU33
namespace Go.Proofs.YtnnngphfmclegaaGreatDoor
open Go.RowKit
set_option linter.unusedVariables false
set_option maxHeartbeats 8000000
set_option maxRecDepth 100000
set_option linter.unusedSimpArgs false
theorem jcheckHear_c (h:NV) (y:AV) (w:World) (hS:Shapes w) (hk:h.ok w) (hy:y.ok w):Calls Tryz.prog 123 #[h.v,y.v] w fun e w'=>e=.returned (.int .i64 (if checkN h.p≠0 then checkN h.p else checkA y.p))∧Below w.heap.size w w':=by
 have HK:=hide (fun w' hS' h'=>JCheck_c h w' hS' h')
 have HC:=hide (fun w' h'=>DCheckAnswer_c y w' h')
 obtain ⟨x0,x1,bw⟩:=two_boxes w h.cells y.cells 55 75
 replace hk:=hk.below bw (Nat.le_refl _)
 replace hy:=AV.ok.below hy bw (Nat.le_refl _)
 replace hS:=hS.below bw
 generalize checkN h.p=ch at *
 generalize checkA y.p=cy at *
 rw [show h.v=.agg h.cells.toArray from rfl,show y.v=.agg y.cells.toArray from rfl] at *
 obtain ⟨s,v,⟨k,z,u,t,d⟩,ca,cn,cc,ga,gn,gc,G⟩:=h
 obtain ⟨ye,yt,ya,yn,yc,yd⟩:=y
 dsimp only [NV.cells,AV.cells] at *
 obtain ⟨c0,c1,c2,c3,c4,c5,c6,c7⟩:=x0.eight
 go_enter Tryz.func123,Tryz.ntmps123
 go_wp2_with fail
 refine (HK.out _ hS hk).mono ?_
 rintro e w1 ⟨rfl,hb1⟩
 replace x1:=x1.below hb1
 replace hy:=AV.ok.below hy hb1 (Nat.le_refl _)
 replace bw:=belowT bw hb1
 clear hb1 c0 c1 c2 c3 c4 c5 c6 c7 HK hk x0
 cases h0:ch !=0
 ·have HZ:Hid (ch=0):=hide (by simpa using h0)
  have r0:=x1.cell 0 _ rfl
  have r1:=x1.cell 1 _ rfl
  have r2:=x1.cell 2 _ rfl
  go_wp2_with fail
  refine (HC.out _ hy).mono ?_
  rintro e w2 ⟨rfl,hb2⟩
  go_wp2
  go_ret
  exact ⟨rfl,belowT bw hb2⟩
 ·have HZ:Hid (ch≠0):=hide (by simpa using h0)
  go_wp2
  go_ret
  exact ⟨rfl,bw⟩
theorem JHear_c (h:NV) (sq:Int) (y:AV) (w:World) (hS:Shapes w) (hk:h.ok w) (hy:y.ok w):Calls Tryz.prog 106 #[h.v,.int .i64 sq,y.v] w fun e w'=>HandNew (hearN h.p sq y.p) w e w':=by
 have HK:=hide (fun w' hS' h' k'=>jcheckHear_c h y w' hS' h' k')
 have HW:=hide (fun w' h' hc'=>jwhole_c h w' h' hc')
 have HA:Hid (hearN h.p sq y.p=if checkN h.p≠0 then (zeroN,checkN h.p) else if checkA y.p≠0 then (zeroN,checkA y.p) else if h.w=false∨h.s≠sq then (h.p,0) else (⟨sq,false,zeroC,h.G.map AV.p++[y.p]⟩,0)):=hide rfl
 have HP:Hid (h.p=⟨h.s,h.w,h.c,h.G.map AV.p⟩):=hide rfl
 have HGX:Hid (h.gn≤9223372036854775807):=hide (Nat.le_trans hk.g.le hk.g.max)
 have HS40:Hid (checkN h.p=0→h.gn≤40):=hide (fun e=>(hand_small hk e).2.1)
 have HY8:Hid (checkA y.p=0→y.n≤8):=hide (fun e=>by rw [← (show Ints w y.a y.n y.c y.d from hy).len];exact checkA_few e)
 obtain ⟨x0,x1,x2,bw⟩:=three_boxes w h.cells y.cells NV.zero.cells 55 75 55
 have hok:=hk.below bw (Nat.le_refl _)
 have hyk:=AV.ok.below hy bw (Nat.le_refl _)
 have hSk:=hS.below bw
 have HWA:=hide (fun (w':World) (h':y.ok w') (hn:y.n≤100000)=>pwholeA_c y w' h' hn)
 generalize hearN h.p sq y.p=na at *
 generalize hhp:h.p=hp at *
 generalize hyp:y.p=yp at *
 rw [show h.v=.agg h.cells.toArray from rfl,show y.v=.agg y.cells.toArray from rfl] at *
 obtain ⟨s,v,⟨k,z,u,t,d⟩,ca,cn,cc,ga,gn,gc,G⟩:=h
 obtain ⟨ye,yt,ya,yn,yc,yd⟩:=y
 dsimp only [NV.cells,AV.cells,NV.zero,zeroC] at *
 have HYP:=hide hyp
 clear hhp hyp
 obtain ⟨c0,c1,c2,c3,c4,c5,c6,c7⟩:=x0.eight
 have r0:=x1.cell 0 _ rfl
 have r1:=x1.cell 1 _ rfl
 have r2:=x1.cell 2 _ rfl
 go_enter Tryz.func106,Tryz.ntmps106
 go_wp2_with fail
 refine (HK.out _ hSk hok hyk).mono ?_
 rintro e w1 ⟨rfl,hb1⟩
 replace x0:=x0.below hb1
 replace x1:=x1.below hb1
 replace x2:=x2.below hb1
 replace hok:=hok.below hb1 (Nat.le_refl _)
 replace hyk:=AV.ok.below hyk hb1 (Nat.le_refl _)
 replace bw:=belowT bw hb1
 clear hb1 c0 c1 c2 c3 c4 c5 c6 c7 r0 r1 r2 HK hSk
 generalize hgc:checkN hp=ch at *
 generalize checkA yp=cy at *
 obtain ⟨er,her⟩:∃ m:Int,(if ch≠0 then ch else cy)=m:=⟨_,rfl⟩
 rw [her]
 cases h0:er !=0
 ·have hz:ch=0∧cy=0:=by
   have h0':er=0:=by simpa using h0
   by_cases e:ch=0
   ·exact ⟨e,by rw [if_neg (by simp [e])] at her;rw [her];exact h0'⟩
   ·rw [if_pos e] at her;exact absurd (her.trans h0') e
  obtain ⟨hz1,hz2⟩:=hz
  have G1:Hid (ch=0):=hide hz1
  have H40:=hide (HS40.out hz1)
  have H8:=hide (HY8.out hz2)
  have HE:Hid (na=if v=false∨s≠sq then (hp,0) else (⟨sq,false,zeroC,G.map AV.p++[yp]⟩,0)):=hide (by rw [HA.out,if_neg (by simp [hz1]),if_neg (by simp [hz2])];rfl)
  clear hz1 hz2 hgc her HA HS40 HY8
  obtain ⟨c0,c1,c2,c3,c4,c5,c6,c7⟩:=x0.eight
  go_wp2_with fail
  refine (HW.out _ hok G1.out).mono ?_
  rintro e w2 ⟨⟨q,g,X',rfl,iq,hq,hqg,hM,hXl,hXp⟩,hb2⟩
  dsimp only [NV.v] at *
  have hx1:=x2.lt
  have HXL:=hide hXl
  have HXP:=hide hXp
  clear hXl hXp c0 c1 c2 c3 c4 c5 c6 c7 x0
  replace x1:=x1.below hb2
  replace x2:=x2.below hb2
  replace hyk:=AV.ok.below hyk hb2 (Nat.le_refl _)
  replace bw:=belowT bw hb2
  have hx2:=x2.lt
  have hs12:=hb2.size
  have hgm:=hM.lay.lt
  have HM0:=hide hM
  have hy0:=hyk
  have hq2:q < w2.heap.size:=by omega
  have hwq:w.heap.size + 1 + 1 < q:=by omega
  clear hb2 HW
  go_upto_region 5 with fail
  have xn:=Lay.made w2 [.int .i64 s,.bool v,.int .i64 k,.int .i64 z,.int .i64 u,.int .i64 t,.slice (some ⟨q,0,none⟩) cn cn,.slice (some ⟨g,0,none⟩) gn gn] 55
  have bn:=belowA (Below.refl _ w2) (.cells [.int .i64 s,.bool v,.int .i64 k,.int .i64 z,.int .i64 u,.int .i64 t,.slice (some ⟨q,0,none⟩) cn cn,.slice (some ⟨g,0,none⟩) gn gn].toArray 55)
  replace x1:=x1.below bn
  replace x2:=x2.below bn
  replace hyk:=AV.ok.below hyk bn (Nat.le_refl _)
  replace hM:=hM.below bn
  replace bw:=belowT bw bn
  replace iq:=iq.below bn (Nat.le_refl _)
  have HXO:Hid (∀ x∈X',x.off w2.heap.size):=hide (fun x hx=>AV.ok.off (HM0.out.ok x hx) (Nat.le_refl _))
  have HYO:Hid (AV.off w2.heap.size ⟨ye,yt,ya,yn,yc,yd⟩):=hide (AV.ok.off hy0 (Nat.le_refl _))
  clear bn HM0 hy0
  generalize hN:w2.heap.size=N at *
  clear hN
  generalize w2.alloc (.cells [.int .i64 s,.bool v,.int .i64 k,.int .i64 z,.int .i64 u,.int .i64 t,.slice (some ⟨q,0,none⟩) cn cn,.slice (some ⟨g,0,none⟩) gn gn].toArray 55)=w3 at *
  obtain ⟨a0,a1,a2,a3,a4,a5,a6,a7⟩:=xn.eight
  cases v
  ·have HE':Hid (na=(hp,0)):=hide (by rw [HE.out,if_pos (.inl rfl)])
   have okh:NV.ok w3 ⟨s,false,⟨k,z,u,t,d⟩,some ⟨q,0,none⟩,cn,cn,some ⟨g,0,none⟩,gn,gn,X'⟩:=⟨iq,hM.answers HXL.out HGX.out⟩
   have offh:∀ R,R≤w.heap.size + 1 + 1→NV.off R ⟨s,false,⟨k,z,u,t,d⟩,some ⟨q,0,none⟩,cn,cn,some ⟨g,0,none⟩,gn,gn,X'⟩:=fun R hR=>⟨.inr fun x e=>by cases e;simp;omega,.inr fun x e=>by cases e;simp;omega,fun x hx=>hM.new x hx R (by omega)⟩
   have e0:=x2.cell 0 _ rfl
   have e1:=x2.cell 1 _ rfl
   have e2:=x2.cell 2 _ rfl
   have e3:=x2.cell 3 _ rfl
   have e4:=x2.cell 4 _ rfl
   have e5:=x2.cell 5 _ rfl
   have e6:=x2.cell 6 _ rfl
   have e7:=x2.cell 7 _ rfl
   have f0:=x2.ice 0
   have f1:=x2.ice 1
   have f2:=x2.ice 2
   have f3:=x2.ice 3
   have f4:=x2.ice 4
   have f5:=x2.ice 5
   have f6:=x2.ice 6
   have f7:=x2.ice 7
   go_wp2
   have zB:=((((((((x2.set 0 (.int .i64 s)).set 1 (.bool false)).set 2 (.int .i64 k)).set 3 (.int .i64 z)).set 4 (.int .i64 u)).set 5 (.int .i64 t)).set 6 (.slice (some ⟨q,0,none⟩) cn cn)).set 7 (.slice (some ⟨g,0,none⟩) gn gn))
   have hbut:=(((((((((ButI.refl (w.heap.size + 1 + 1) w3).step 0 (.int .i64 s)).step 1 (.bool false)).step 2 (.int .i64 k)).step 3 (.int .i64 z)).step 4 (.int .i64 u)).step 5 (.int .i64 t)).step 6 (.slice (some ⟨q,0,none⟩) cn cn)).step 7 (.slice (some ⟨g,0,none⟩) gn gn))
   generalize ((((((((w3.setCell ⟨w.heap.size + 1 + 1,0,none⟩ (.int .i64 s)).setCell ⟨w.heap.size + 1 + 1,1,none⟩ (.bool false)).setCell ⟨w.heap.size + 1 + 1,2,none⟩ (.int .i64 k)).setCell ⟨w.heap.size + 1 + 1,3,none⟩ (.int .i64 z)).setCell ⟨w.heap.size + 1 + 1,4,none⟩ (.int .i64 u)).setCell ⟨w.heap.size + 1 + 1,5,none⟩ (.int .i64 t)).setCell ⟨w.heap.size + 1 + 1,6,none⟩ (.slice (some ⟨q,0,none⟩) cn cn)).setCell ⟨w.heap.size + 1 + 1,7,none⟩ (.slice (some ⟨g,0,none⟩) gn gn))=w99 at *
   have z0:=zB.cell 0 _ rfl
   have z1:=zB.cell 1 _ rfl
   have z2:=zB.cell 2 _ rfl
   have z3:=zB.cell 3 _ rfl
   have z4:=zB.cell 4 _ rfl
   have z5:=zB.cell 5 _ rfl
   have z6:=zB.cell 6 _ rfl
   have z7:=zB.cell 7 _ rfl
   have o9:=okh.but hbut.but (offh _ (Nat.le_refl _))
   refine bodyPost_ret (v:=.tuple #[.agg #[.int .i64 s,.bool false,.int .i64 k,.int .i64 z,.int .i64 u,.int .i64 t,.slice (some ⟨q,0,none⟩) cn cn,.slice (some ⟨g,0,none⟩) gn gn],.int .i64 0]) (by simp [results,Tryz.results106,go_sem,z0,z1,z2,z3,z4,z5,z6,z7]) rfl ⟨⟨⟨s,false,⟨k,z,u,t,d⟩,some ⟨q,0,none⟩,cn,cn,some ⟨g,0,none⟩,gn,gn,X'⟩,?_,o9,fun R hR=>offh R (by omega),?_⟩,bw.trans (hbut.below (B:=w.heap.size) (by omega))⟩
   ·rw [HE'.out];rfl
   ·rw [HE'.out,HP.out]
    simp only [NV.p]
    rw [HXP.out]
  ·cases hs:s==sq
   ·have HE':Hid (na=(hp,0)):=hide (by rw [HE.out,if_pos (.inr (by simpa using hs))])
    have okh:NV.ok w3 ⟨s,true,⟨k,z,u,t,d⟩,some ⟨q,0,none⟩,cn,cn,some ⟨g,0,none⟩,gn,gn,X'⟩:=⟨iq,hM.answers HXL.out HGX.out⟩
    have offh:∀ R,R≤w.heap.size + 1 + 1→NV.off R ⟨s,true,⟨k,z,u,t,d⟩,some ⟨q,0,none⟩,cn,cn,some ⟨g,0,none⟩,gn,gn,X'⟩:=fun R hR=>⟨.inr fun x e=>by cases e;simp;omega,.inr fun x e=>by cases e;simp;omega,fun x hx=>hM.new x hx R (by omega)⟩
    have e0:=x2.cell 0 _ rfl
    have e1:=x2.cell 1 _ rfl
    have e2:=x2.cell 2 _ rfl
    have e3:=x2.cell 3 _ rfl
    have e4:=x2.cell 4 _ rfl
    have e5:=x2.cell 5 _ rfl
    have e6:=x2.cell 6 _ rfl
    have e7:=x2.cell 7 _ rfl
    have f0:=x2.ice 0
    have f1:=x2.ice 1
    have f2:=x2.ice 2
    have f3:=x2.ice 3
    have f4:=x2.ice 4
    have f5:=x2.ice 5
    have f6:=x2.ice 6
    have f7:=x2.ice 7
    go_wp2
    have zB:=((((((((x2.set 0 (.int .i64 s)).set 1 (.bool true)).set 2 (.int .i64 k)).set 3 (.int .i64 z)).set 4 (.int .i64 u)).set 5 (.int .i64 t)).set 6 (.slice (some ⟨q,0,none⟩) cn cn)).set 7 (.slice (some ⟨g,0,none⟩) gn gn))
    have hbut:=(((((((((ButI.refl (w.heap.size + 1 + 1) w3).step 0 (.int .i64 s)).step 1 (.bool true)).step 2 (.int .i64 k)).step 3 (.int .i64 z)).step 4 (.int .i64 u)).step 5 (.int .i64 t)).step 6 (.slice (some ⟨q,0,none⟩) cn cn)).step 7 (.slice (some ⟨g,0,none⟩) gn gn))
    generalize ((((((((w3.setCell ⟨w.heap.size + 1 + 1,0,none⟩ (.int .i64 s)).setCell ⟨w.heap.size + 1 + 1,1,none⟩ (.bool true)).setCell ⟨w.heap.size + 1 + 1,2,none⟩ (.int .i64 k)).setCell ⟨w.heap.size + 1 + 1,3,none⟩ (.int .i64 z)).setCell ⟨w.heap.size + 1 + 1,4,none⟩ (.int .i64 u)).setCell ⟨w.heap.size + 1 + 1,5,none⟩ (.int .i64 t)).setCell ⟨w.heap.size + 1 + 1,6,none⟩ (.slice (some ⟨q,0,none⟩) cn cn)).setCell ⟨w.heap.size + 1 + 1,7,none⟩ (.slice (some ⟨g,0,none⟩) gn gn))=w99 at *
    have z0:=zB.cell 0 _ rfl
    have z1:=zB.cell 1 _ rfl
    have z2:=zB.cell 2 _ rfl
    have z3:=zB.cell 3 _ rfl
    have z4:=zB.cell 4 _ rfl
    have z5:=zB.cell 5 _ rfl
    have z6:=zB.cell 6 _ rfl
    have z7:=zB.cell 7 _ rfl
    have o9:=okh.but hbut.but (offh _ (Nat.le_refl _))
    refine bodyPost_ret (v:=.tuple #[.agg #[.int .i64 s,.bool true,.int .i64 k,.int .i64 z,.int .i64 u,.int .i64 t,.slice (some ⟨q,0,none⟩) cn cn,.slice (some ⟨g,0,none⟩) gn gn],.int .i64 0]) (by simp [results,Tryz.results106,go_sem,z0,z1,z2,z3,z4,z5,z6,z7]) rfl ⟨⟨⟨s,true,⟨k,z,u,t,d⟩,some ⟨q,0,none⟩,cn,cn,some ⟨g,0,none⟩,gn,gn,X'⟩,?_,o9,fun R hR=>offh R (by omega),?_⟩,bw.trans (hbut.below (B:=w.heap.size) (by omega))⟩
    ·rw [HE'.out];rfl
    ·rw [HE'.out,HP.out]
     simp only [NV.p]
     rw [HXP.out]
   ·have hsq:s=sq:=by simpa using hs
    subst hsq
    have HE':Hid (na=(⟨s,false,zeroC,G.map AV.p++[yp]⟩,0)):=hide (by rw [HE.out,if_neg (by simp)])
    clear HE iq hwq
    have i1:=xn.ice 1
    have i2:=xn.ice 2
    have i3:=xn.ice 3
    have i4:=xn.ice 4
    have i5:=xn.ice 5
    have i6:=xn.ice 6
    go_upto_region 7 with fail
    have hbu:=((((((ButI.refl N w3).step 1 (.bool false)).step 2 (.int .i64 0)).step 3 (.int .i64 0)).step 4 (.int .i64 0)).step 5 (.int .i64 0)).step 6 (.slice none 0 0)
    have yn1:Lay _ _ [.int .i64 s,.bool false,.int .i64 0,.int .i64 0,.int .i64 0,.int .i64 0,.slice none 0 0,.slice (some ⟨g,0,none⟩) gn gn]:=(((((xn.set 1 (.bool false)).set 2 (.int .i64 0)).set 3 (.int .i64 0)).set 4 (.int .i64 0)).set 5 (.int .i64 0)).set 6 (.slice none 0 0)
    replace x1:=x1.butI hbu (by omega)
    replace x2:=x2.butI hbu (by omega)
    replace hyk:=AV.ok.but hyk hbu.but HYO.out
    replace bw:=bw.trans (hbu.below (B:=w.heap.size) (by omega))
    replace hM:=(((((hM.farB ⟨N,1,none⟩ (.bool false) (by simp;omega) HXO.out).farB ⟨N,2,none⟩ (.int .i64 0) (by simp;omega) HXO.out).farB ⟨N,3,none⟩ (.int .i64 0) (by simp;omega) HXO.out).farB ⟨N,4,none⟩ (.int .i64 0) (by simp;omega) HXO.out).farB ⟨N,5,none⟩ (.int .i64 0) (by simp;omega) HXO.out).farB ⟨N,6,none⟩ (.slice none 0 0) (by simp;omega) HXO.out
    clear a0 a1 a2 a3 a4 a5 a6 a7 i1 i2 i3 i4 i5 i6 xn hbu HYO
    generalize (((((w3.setCell ⟨N,1,none⟩ (.bool false)).setCell ⟨N,2,none⟩ (.int .i64 0)).setCell ⟨N,3,none⟩ (.int .i64 0)).setCell ⟨N,4,none⟩ (.int .i64 0)).setCell ⟨N,5,none⟩ (.int .i64 0)).setCell ⟨N,6,none⟩ (.slice none 0 0)=w4 at *
    have hN4:=yn1.lt
    have hl40:X'.length≤40:=by rw [HXL.out];exact H40.out
    have HNEW:=hide hM.new
    have own:OwnA w4 g (.slice (some ⟨g,0,none⟩) gn gn) X':=by
     have o:=hM.own (by simp only [maxLen];omega)
     rw [HXL.out] at o
     exact o
    clear hM
    obtain ⟨ai,hi,hzz,hsz,hby⟩:=ansInfo
    have h63:X'.length + 1≤maxLen:=by simp only [maxLen];omega
    have h72:(X'.length + 1) * 40≤140737488355328:=by omega
    have hnN:some N≠Value.ownBlock (.slice (some ⟨g,0,none⟩) gn gn):=fun e=>by simp [Value.ownBlock] at e;omega
    have hn1:some (w.heap.size + 1)≠Value.ownBlock (.slice (some ⟨g,0,none⟩) gn gn):=fun e=>by simp [Value.ownBlock] at e;omega
    have hn2:some (w.heap.size + 1 + 1)≠Value.ownBlock (.slice (some ⟨g,0,none⟩) gn gn):=fun e=>by simp [Value.ownBlock] at e;omega
    have r0:=x1.cell 0 _ rfl
    have r1:=x1.cell 1 _ rfl
    have r2:=x1.cell 2 _ rfl
    have r7:=yn1.cell 7 _ rfl
    have H8':=hide (Nat.le_trans H8.out (by decide:8≤100000))
    go_region_law (first
     |(go_simp;go_at_call 77;refine (HWA.out _ (by refine AV.ok.below hyk (B:=w4.heap.size) ?_ (Nat.le_refl _);clear bw;(repeat first|exact bel0|assumption|refine bel1 ?_|refine bel2 ?_|refine bel3 ?_|refine belowT ?_ (by assumption)|refine bel5 ?_ (by simp;try omega))) H8'.out).mono ?_;rintro e w5 ⟨⟨q5,rfl,i5,hq5,hq6⟩,hb5⟩;(have b5:Below w4.heap.size w4 w5:=by clear bw;(repeat first|exact bel0|assumption|refine bel1 ?_|refine bel2 ?_|refine bel3 ?_|refine belowT ?_ (by assumption)|refine bel5 ?_ (by simp;try omega)));(have own5:=OwnA.below own b5);(have x15:=x1.below b5);(have xn5:=yn1.below b5);(have x25:=x2.below b5);(have s5:=b5.size);(have r0:=x15.cell 0 _ rfl);(have r1:=x15.cell 1 _ rfl);(have r2:=x15.cell 2 _ rfl);(have r7:=xn5.cell 7 _ rfl);(have r7p:=past1 r7);(have f7:=xn5.ice 7);(have f7p:=pastf1 r7 f7);go_wp2_with fail)
     |(refine step_append_lies _ rfl _ _ 53 rfl g 75 ai (.agg #[.int .i64 0,.int .i64 0,.slice none 0 0]) 3 40 Tryz.underlying53 hi hzz hsz hby rfl (by decide) _ _ _ rfl (OwnA.below own5 (by clear bw b5;(repeat first|exact bel0|assumption|refine bel1 ?_|refine bel2 ?_|refine bel3 ?_|refine belowT ?_ (by assumption)|refine bel5 ?_ (by simp;try omega)))).own ⟨w5.heap.size,0,none⟩ 1 1 (AV.cells ⟨ye,yt,some ⟨q5,0,none⟩,yn,yn,yd⟩) rfl rfl (fun j u hu=>by rw [addr_add,Nat.zero_add];exact (Lay.made w5.drew [.int .i64 ye,.int .i64 yt,.slice (some ⟨q5,0,none⟩) yn yn] 75).cell j u hu) (AV.cells_one _) (by decide) h63 h72 (Nat.le_trans (Nat.le_trans (show g≤w4.heap.size by omega) s5) (by first|exact Nat.le_refl _|(simp;done)|(simp;omega))) _ rfl ?_;intro g6 cap6 w7 hown6 hg6 hat6 hlt6;(have hbY:Below w5.heap.size w5 (w5.drew.alloc (.cells [.int .i64 ye,.int .i64 yt,.slice (some ⟨q5,0,none⟩) yn yn].toArray 75)):=by clear bw b5;(repeat first|exact bel0|assumption|refine bel1 ?_|refine bel2 ?_|refine bel3 ?_|refine belowT ?_ (by assumption)|refine bel5 ?_ (by simp;try omega)));(have xn7:=Lay.grownA (xn5.below hbY) hg6 hnN);(have x27:=Lay.grownA (x25.below hbY) hg6 hn2);(have x17:=Lay.grownA (x15.below hbY) hg6 hn1);(have r0:=x17.cell 0 _ rfl);(have r1:=x17.cell 1 _ rfl);(have r2:=x17.cell 2 _ rfl);(have e7:=xn7.cell 7 _ rfl);(have f7:=xn7.ice 7))
     |(refine step_append_lies _ rfl _ _ 53 rfl g 75 ai (.agg #[.int .i64 0,.int .i64 0,.slice none 0 0]) 3 40 Tryz.underlying53 hi hzz hsz hby rfl (by decide) _ _ _ rfl (OwnA.below own5 (by clear bw b5;(repeat first|exact bel0|assumption|refine bel1 ?_|refine bel2 ?_|refine bel3 ?_|refine belowT ?_ (by assumption)|refine bel5 ?_ (by simp;try omega)))).own ⟨w5.heap.size,0,none⟩ 1 1 (AV.cells ⟨ye,yt,some ⟨q5,0,none⟩,yn,yn,yd⟩) rfl rfl (fun j u hu=>by rw [addr_add,Nat.zero_add];exact (Lay.made w5 [.int .i64 ye,.int .i64 yt,.slice (some ⟨q5,0,none⟩) yn yn] 75).cell j u hu) (AV.cells_one _) (by decide) h63 h72 (Nat.le_trans (Nat.le_trans (show g≤w4.heap.size by omega) s5) (by first|exact Nat.le_refl _|(simp;done)|(simp;omega))) _ rfl ?_;intro g6 cap6 w7 hown6 hg6 hat6 hlt6;(have hbY:Below w5.heap.size w5 (w5.alloc (.cells [.int .i64 ye,.int .i64 yt,.slice (some ⟨q5,0,none⟩) yn yn].toArray 75)):=by clear bw b5;(repeat first|exact bel0|assumption|refine bel1 ?_|refine bel2 ?_|refine bel3 ?_|refine belowT ?_ (by assumption)|refine bel5 ?_ (by simp;try omega)));(have xn7:=Lay.grownA (xn5.below hbY) hg6 hnN);(have x27:=Lay.grownA (x25.below hbY) hg6 hn2);(have x17:=Lay.grownA (x15.below hbY) hg6 hn1);(have r0:=x17.cell 0 _ rfl);(have r1:=x17.cell 1 _ rfl);(have r2:=x17.cell 2 _ rfl);(have e7:=xn7.cell 7 _ rfl);(have f7:=xn7.ice 7)))
    all_goals
     have sY:=hbY.size
     have hq5':w4.heap.size≤q5:=hq5
     have oN:=(OwnA.below own5 hbY).snoc (x:=⟨ye,yt,some ⟨q5,0,none⟩,yn,yn,yd⟩) (Ints.below i5 hbY (Nat.le_refl _)) (fun k e=>.inr fun x e'=>by cases e';simp [Value.ownBlock] at e;simp at hq5 ⊢;omega) hown6 hg6 hat6
     have hg6b:g6≠N∧w.heap.size + 1 + 1 < g6:=by
      rcases hat6 with e|e
      ·have e':some g=some g6:=e
       simp only [Option.some.injEq] at e'
       omega
      ·have e':g6=w5.heap.size + 1:=by simpa using e
       omega
     have b7:Below w.heap.size w w7:=Below.grown (belowT bw (belowT b5 hbY)) hg6 (by omega) (fun k e=>by have e':some g=some k:=e;simp only [Option.some.injEq] at e';omega)
     obtain ⟨a7,c7,e7',Ra7,_⟩:=oN.recs
     simp only [Value.slice.injEq,List.length_append,List.length_singleton] at e7'
     obtain ⟨e71,e72,e73⟩:=e7'
     rw [← e71,← e73] at Ra7
     have hbu:=(ButI.refl N w7).step 7 (.slice (some ⟨g6,0,none⟩) (X'.length + 1) cap6)
     have yn7:Lay _ _ [.int .i64 s,.bool false,.int .i64 0,.int .i64 0,.int .i64 0,.int .i64 0,.slice none 0 0,.slice (some ⟨g6,0,none⟩) (X'.length + 1) cap6]:=xn7.set 7 (.slice (some ⟨g6,0,none⟩) (X'.length + 1) cap6)
     have x28:=x27.butI hbu (by omega)
     have Rb:Answers (w7.setCell ⟨N,7,none⟩ (.slice (some ⟨g6,0,none⟩) (X'.length + 1) cap6)) (some ⟨g6,0,none⟩) (X'.length + 1) cap6 (X'++[⟨ye,yt,some ⟨q5,0,none⟩,yn,yn,yd⟩]):=by
      have R:=Ra7.but hbu.but (.inr fun x e=>by cases e;exact hg6b.1) (fun x hx=>by
       rcases List.mem_append.1 hx with hx|hx
       ·exact HXO.out x hx
       ·obtain rfl:x=_:=by simpa using hx
        exact .inr fun x e=>by cases e;simp at hq5 ⊢;omega)
      simpa using R
     have b8:=b7.trans (hbu.below (B:=w.heap.size) (by omega))
     have offh:∀ R,R≤w.heap.size + 1 + 1→NV.off R ⟨s,false,zeroC,none,0,0,some ⟨g6,0,none⟩,X'.length + 1,cap6,X'++[⟨ye,yt,some ⟨q5,0,none⟩,yn,yn,yd⟩]⟩:=fun R hR=>⟨.inl rfl,.inr fun x e=>by cases e;simp;omega,fun x hx=>by
      rcases List.mem_append.1 hx with hx|hx
      ·exact HNEW.out x hx R (by omega)
      ·obtain rfl:x=_:=by simpa using hx
       exact .inr fun x e=>by cases e;simp at hq5 ⊢;omega⟩
     clear e7 f7 xn7 x27 oN Ra7 e71 e72 e73 hown6 hg6 hat6 hlt6 hbY b5 own own5 hb5 bw x15 xn5 x25 x1 x2 x17 hn1 yn1 r0 r1 r2 r7 b7 hbu hnN hn2
     generalize w7.setCell ⟨N,7,none⟩ (.slice (some ⟨g6,0,none⟩) (X'.length + 1) cap6)=w8 at *
     have okh:NV.ok w8 ⟨s,false,zeroC,none,0,0,some ⟨g6,0,none⟩,X'.length + 1,cap6,X'++[⟨ye,yt,some ⟨q5,0,none⟩,yn,yn,yd⟩]⟩:=⟨Ints.nilSlice w8,Rb⟩
     have bw:=b8
     have x2:=x28
     obtain ⟨a0,a1,a2,a3,a4,a5,a6,a7'⟩:=yn7.eight
     have e0:=x2.cell 0 _ rfl
     have e1:=x2.cell 1 _ rfl
     have e2:=x2.cell 2 _ rfl
     have e3:=x2.cell 3 _ rfl
     have e4:=x2.cell 4 _ rfl
     have e5:=x2.cell 5 _ rfl
     have e6:=x2.cell 6 _ rfl
     have e7:=x2.cell 7 _ rfl
     have f0:=x2.ice 0
     have f1:=x2.ice 1
     have f2:=x2.ice 2
     have f3:=x2.ice 3
     have f4:=x2.ice 4
     have f5:=x2.ice 5
     have f6:=x2.ice 6
     have f7:=x2.ice 7
     go_wp2
     have zB:=((((((((x2.set 0 (.int .i64 s)).set 1 (.bool false)).set 2 (.int .i64 0)).set 3 (.int .i64 0)).set 4 (.int .i64 0)).set 5 (.int .i64 0)).set 6 (.slice none 0 0)).set 7 (.slice (some ⟨g6,0,none⟩) (X'.length + 1) cap6))
     have hbut:=(((((((((ButI.refl (w.heap.size + 1 + 1) w8).step 0 (.int .i64 s)).step 1 (.bool false)).step 2 (.int .i64 0)).step 3 (.int .i64 0)).step 4 (.int .i64 0)).step 5 (.int .i64 0)).step 6 (.slice none 0 0)).step 7 (.slice (some ⟨g6,0,none⟩) (X'.length + 1) cap6))
     generalize ((((((((w8.setCell ⟨w.heap.size + 1 + 1,0,none⟩ (.int .i64 s)).setCell ⟨w.heap.size + 1 + 1,1,none⟩ (.bool false)).setCell ⟨w.heap.size + 1 + 1,2,none⟩ (.int .i64 0)).setCell ⟨w.heap.size + 1 + 1,3,none⟩ (.int .i64 0)).setCell ⟨w.heap.size + 1 + 1,4,none⟩ (.int .i64 0)).setCell ⟨w.heap.size + 1 + 1,5,none⟩ (.int .i64 0)).setCell ⟨w.heap.size + 1 + 1,6,none⟩ (.slice none 0 0)).setCell ⟨w.heap.size + 1 + 1,7,none⟩ (.slice (some ⟨g6,0,none⟩) (X'.length + 1) cap6))=w99 at *
     have z0:=zB.cell 0 _ rfl
     have z1:=zB.cell 1 _ rfl
     have z2:=zB.cell 2 _ rfl
     have z3:=zB.cell 3 _ rfl
     have z4:=zB.cell 4 _ rfl
     have z5:=zB.cell 5 _ rfl
     have z6:=zB.cell 6 _ rfl
     have z7:=zB.cell 7 _ rfl
     have o9:=okh.but hbut.but (offh _ (Nat.le_refl _))
     refine bodyPost_ret (v:=.tuple #[.agg #[.int .i64 s,.bool false,.int .i64 0,.int .i64 0,.int .i64 0,.int .i64 0,.slice none 0 0,.slice (some ⟨g6,0,none⟩) (X'.length + 1) cap6],.int .i64 0]) (by simp [results,Tryz.results106,go_sem,z0,z1,z2,z3,z4,z5,z6,z7]) rfl ⟨⟨⟨s,false,zeroC,none,0,0,some ⟨g6,0,none⟩,X'.length + 1,cap6,X'++[⟨ye,yt,some ⟨q5,0,none⟩,yn,yn,yd⟩]⟩,?_,o9,fun R hR=>offh R (by omega),?_⟩,bw.trans (hbut.below (B:=w.heap.size) (by omega))⟩
     ·rw [HE'.out];rfl
     ·rw [HE'.out,← HYP.out]
      simp only [NV.p,List.map_append]
      rw [HXP.out]
      rfl
 ·have HE:Hid (na=(zeroN,er)):=hide (by
   have h0':er≠0:=by simpa using h0
   rw [HA.out]
   by_cases e:ch=0
   ·rw [if_neg (by simp [e])] at her ⊢
    rw [if_pos (by rw [her];exact h0'),her]
   ·rw [if_pos e] at her ⊢
    rw [her])
  have okh:=NV.zero_ok w1
  have offh:∀ R,R≤w.heap.size + 1 + 1→NV.off R NV.zero:=fun R _=>NV.zero_off R
  have e0:=x2.cell 0 _ rfl
  have e1:=x2.cell 1 _ rfl
  have e2:=x2.cell 2 _ rfl
  have e3:=x2.cell 3 _ rfl
  have e4:=x2.cell 4 _ rfl
  have e5:=x2.cell 5 _ rfl
  have e6:=x2.cell 6 _ rfl
  have e7:=x2.cell 7 _ rfl
  have f0:=x2.ice 0
  have f1:=x2.ice 1
  have f2:=x2.ice 2
  have f3:=x2.ice 3
  have f4:=x2.ice 4
  have f5:=x2.ice 5
  have f6:=x2.ice 6
  have f7:=x2.ice 7
  go_wp2
  have zB:=((((((((x2.set 0 (.int .i64 0)).set 1 (.bool false)).set 2 (.int .i64 0)).set 3 (.int .i64 0)).set 4 (.int .i64 0)).set 5 (.int .i64 0)).set 6 (.slice none 0 0)).set 7 (.slice none 0 0))
  have hbut:=(((((((((ButI.refl (w.heap.size + 1 + 1) w1).step 0 (.int .i64 0)).step 1 (.bool false)).step 2 (.int .i64 0)).step 3 (.int .i64 0)).step 4 (.int .i64 0)).step 5 (.int .i64 0)).step 6 (.slice none 0 0)).step 7 (.slice none 0 0))
  generalize ((((((((w1.setCell ⟨w.heap.size + 1 + 1,0,none⟩ (.int .i64 0)).setCell ⟨w.heap.size + 1 + 1,1,none⟩ (.bool false)).setCell ⟨w.heap.size + 1 + 1,2,none⟩ (.int .i64 0)).setCell ⟨w.heap.size + 1 + 1,3,none⟩ (.int .i64 0)).setCell ⟨w.heap.size + 1 + 1,4,none⟩ (.int .i64 0)).setCell ⟨w.heap.size + 1 + 1,5,none⟩ (.int .i64 0)).setCell ⟨w.heap.size + 1 + 1,6,none⟩ (.slice none 0 0)).setCell ⟨w.heap.size + 1 + 1,7,none⟩ (.slice none 0 0))=w99 at *
  have z0:=zB.cell 0 _ rfl
  have z1:=zB.cell 1 _ rfl
  have z2:=zB.cell 2 _ rfl
  have z3:=zB.cell 3 _ rfl
  have z4:=zB.cell 4 _ rfl
  have z5:=zB.cell 5 _ rfl
  have z6:=zB.cell 6 _ rfl
  have z7:=zB.cell 7 _ rfl
  have o9:=okh.but hbut.but (offh _ (Nat.le_refl _))
  refine bodyPost_ret (v:=.tuple #[.agg #[.int .i64 0,.bool false,.int .i64 0,.int .i64 0,.int .i64 0,.int .i64 0,.slice none 0 0,.slice none 0 0],.int .i64 er]) (by simp [results,Tryz.results106,go_sem,z0,z1,z2,z3,z4,z5,z6,z7]) rfl ⟨⟨NV.zero,?_,o9,fun R hR=>offh R (by omega),?_⟩,bw.trans (hbut.below (B:=w.heap.size) (by omega))⟩
  ·rw [HE.out];rfl
  ·rw [HE.out];rfl
end Go.Proofs.YtnnngphfmclegaaGreatDoor
namespace Go.Proofs.YtnnngphfmclegaaGreatDoor
open Go.RowKit
set_option linter.unusedVariables false
set_option maxHeartbeats 8000000
set_option maxRecDepth 100000
set_option linter.unusedSimpArgs false
theorem checkM_facts {m:PM} (h:checkM m=0):(0≤m.w∧m.w≤2)∧(1≤m.s∧m.s≤40)∧(m.b=true→m.c=zeroC∧checkA m.a=0)∧(m.b=false→m.a=zeroA∧checkC m.c=0):=by
 unfold checkM at h
 split at h
 ·cases h
 ·rename_i q
  simp only [not_or,Bool.not_eq_false] at q
  refine ⟨by have:=q.1;simp [inB] at this;omega,by have:=q.2;simp [inB] at this;omega,fun e=>?_,fun e=>?_⟩
  ·rw [e,if_pos rfl] at h
   split at h
   ·cases h
   ·rename_i c
    exact ⟨(sameC_iff _ _).1 (by simpa using c),h⟩
  ·rw [e,if_neg (by simp)] at h
   split at h
   ·cases h
   ·rename_i c
    exact ⟨(sameA_iff _ _).1 (by simpa using c),h⟩
theorem checkM_mk {m:PM} (h1:0≤m.w∧m.w≤2) (h2:1≤m.s∧m.s≤40) (h3:m.b=true→m.c=zeroC∧checkA m.a=0) (h4:m.b=false→m.a=zeroA∧checkC m.c=0):checkM m=0:=by
 unfold checkM
 rw [if_neg (by simp [inB];omega)]
 cases e:m.b with
 |true=>
  obtain ⟨q1,q2⟩:=h3 e
  rw [if_pos rfl,if_neg (by simp [(sameC_iff _ _).2 q1])]
  exact q2
 |false=>
  obtain ⟨q1,q2⟩:=h4 e
  rw [if_neg (by simp),if_neg (by simp [(sameA_iff _ _).2 q1])]
  exact q2
theorem next_answer {h:PH} {r:PR} (k:(nextH h r).2.2=0):checkA (nextH h r).2.1=0:=by
 obtain ⟨h1,h2,h3⟩:=next_stands k
 obtain ⟨i,hi,hi3⟩:=rec_who h2
 obtain ⟨_,hl,hx⟩:=checkH_ok h1
 have hm:=hx _ (lastH_mem hl hi3)
 rw [← hi,h3] at hm
 exact (checkL_facts hm).2.1
theorem asked_cases {x:PW} {m:PM} (k:checkW x=0) (hu:x.u=true) (hb:m.b=false) (hm:checkM m=0) :
  askedW x m=x∨
  (m.s=(lastH x.h m.w).s∧nextH x.h ⟨m.w,m.s,m.c⟩=(x.h,(lastH x.h m.w).a,0)∧askedW x m=postW x ⟨true,m.w,m.s,zeroC,(lastH x.h m.w).a⟩)∨
  (m.s=(lastH x.h m.w).s + 1∧(nextH x.h ⟨m.w,m.s,m.c⟩).2.2=0∧∃ A,x.d=⟨textL A,[]⟩∧A.length < 80∧(∀ r∈A,checkR r=0)∧replayF freshH A=(x.h,0)∧
   askedW x m=postW {x with h:=(nextH x.h ⟨m.w,m.s,m.c⟩).1,d:=⟨textL (A++[⟨m.w,m.s,m.c⟩]),[]⟩} ⟨true,m.w,m.s,zeroC,(nextH x.h ⟨m.w,m.s,m.c⟩).2.1⟩):=by
 by_cases hn:(nextH x.h ⟨m.w,m.s,m.c⟩).2.2=0
 ·obtain ⟨h1,h2,h3⟩:=nextH_ok hn
  rcases h3 with ⟨e,q⟩|⟨e,q⟩
  ·right;left
   refine ⟨e,q,?_⟩
   unfold askedW
   rw [if_neg (by simp [hn]),if_pos e,q]
  ·obtain ⟨A,e1,e2,e3,e4,e5⟩:=up_log k hu
   have hne:¬ m.s=(lastH x.h m.w).s:=by simp only at e;omega
   by_cases hA:A.length < 80
   ·right;right
    obtain ⟨s1,s2⟩:=sync_one e2 h2 hA
    refine ⟨e,hn,A,e1,hA,e2,e5,?_⟩
    unfold askedW
    rw [if_neg (by simp [hn]),if_neg hne,e1,s1,if_neg (by simp),s2,if_neg (by simp)]
   ·left
    unfold askedW
    rw [if_neg (by simp [hn]),if_neg hne,e1]
    have l1:=textL_len A e2
    have l3:=textR_len h2
    have p1:putK ⟨textL A,[]⟩ ⟨m.w,m.s,m.c⟩=(⟨textL A,textL [⟨m.w,m.s,m.c⟩]⟩,0):=by
     unfold putK
     rw [checkK_text e2 (by omega) (by simp;omega),if_neg (by simp),h2,if_neg (by simp)]
     simp only [List.length_nil]
     rw [if_neg (by omega)]
     simp [textL]
    have p2:(syncK ⟨textL A,textL [⟨m.w,m.s,m.c⟩]⟩).2≠0:=by
     have hl:(textL [⟨m.w,m.s,m.c⟩]).length≤101:=by simp [textL];omega
     have hh:checkK ⟨textL A++textL [⟨m.w,m.s,m.c⟩],[]⟩=2:=by
      unfold checkK
      rw [if_neg (by simp;omega)]
      simp only
      rw [lines_ahead A 80 _ e2 (by omega)]
      simp only
      have e80:80 - A.length=0:=by omega
      have hc:cutN (textL [⟨m.w,m.s,m.c⟩])=some (textR ⟨m.w,m.s,m.c⟩,textL []):=by
       rw [textL_cons]
       exact cutN_word _ _ (textR_no_lf _)
      rw [e80,linesP_line hc,parse_textR h2,if_neg (by simp)]
     unfold syncK
     rw [checkK_text e2 (by omega) (by omega),if_neg (by simp)]
     simp only
     rw [hh,if_pos (by simp)]
     simp
    rw [p1,if_neg (by simp),if_pos p2]
 ·left
  unfold askedW
  rw [if_pos hn]
theorem post_right {x:PW} {m:PM} (k:checkW x=0) (hm:checkM m=0):checkW (postW x m)=0:=by
 obtain ⟨h1,h2,h3,h4,h5,h6,h7⟩:=checkW_ok k
 unfold postW
 split
 ·refine checkW_mk h1 (by simp;omega) (fun y hy=>?_) h4 h5 h6 h7
  rcases List.mem_append.1 hy with hy|hy
  ·exact h3 y hy
  ·simp at hy;rw [hy];exact hm
 ·exact k
theorem post_same (x:PW) (m:PM):(postW x m).h=x.h∧(postW x m).d=x.d∧(postW x m).u=x.u∧(postW x m).n=x.n∧x.m.length≤(postW x m).m.length∧(postW x m).m.length≤x.m.length + 1∧∀ (i:Nat) (y:PM),x.m[i]?=some y→(postW x m).m[i]?=some y:=by
 unfold postW
 split
 ·refine ⟨rfl,rfl,rfl,rfl,by simp,by simp,fun i y hy=>?_⟩
  have:=(List.getElem?_eq_some_iff.1 hy).1
  simp only
  rw [List.getElem?_append_left this]
  exact hy
 ·exact ⟨rfl,rfl,rfl,rfl,Nat.le_refl _,by omega,fun i y hy=>hy⟩
theorem gone_right {x:PW} (k:checkW x=0) (j:Nat):checkW (goneW x j)=0:=by
 obtain ⟨h1,h2,h3,h4,h5,h6,h7⟩:=checkW_ok k
 exact checkW_mk h1 (by have:=List.length_eraseIdx_le x.m j;simp only [goneW];omega) (fun y hy=>h3 y (List.mem_of_mem_eraseIdx hy)) h4 h5 h6 h7
theorem hand_mem {x:PW} (k:checkW x=0) {j:Int} (h:0≤j∧j≤2):x.n[j.toNat]?=some (handW x j)∧checkN (handW x j)=0:=by
 obtain ⟨h1,-,-,-,-,-,h7⟩:=checkW_ok k
 have hj:j.toNat < x.n.length:=by omega
 have e:x.n[j.toNat]?=some (handW x j):=by
  unfold handW
  rw [List.getD,List.getElem?_eq_getElem hj]
  rfl
 exact ⟨e,h7 _ (List.mem_of_getElem? e)⟩
theorem set_right {x:PW} (k:checkW x=0) {j:Int} {h:PN} (hn:checkN h=0):checkW (setW x j h)=0:=by
 obtain ⟨h1,h2,h3,h4,h5,h6,h7⟩:=checkW_ok k
 refine checkW_mk (by simp [setW,h1]) h2 h3 h4 h5 h6 (fun n hn'=>?_)
 rcases List.mem_or_eq_of_mem_set hn' with m|rfl
 ·exact h7 n m
 ·exact hn
theorem logged_right {x:PW} {r:PR} {A:List PR} (k:checkW x=0) (hu:x.u=true) (hA:A.length < 80) (e2:∀ r∈A,checkR r=0) (e5:replayF freshH A=(x.h,0)) (hn:(nextH x.h r).2.2=0):checkW {x with h:=(nextH x.h r).1,d:=⟨textL (A++[r]),[]⟩}=0∧replayF freshH (A++[r])=((nextH x.h r).1,0)∧∀ y∈A++[r],checkR y=0:=by
 obtain ⟨h1,h2,h3,h4,h5,h6,h7⟩:=checkW_ok k
 have hr:=(nextH_ok hn).2.1
 have hall:∀ y∈A++[r],checkR y=0:=fun y hy=>(List.mem_append.1 hy).elim (e2 y) (fun q=>by simp at q;rw [q];exact hr)
 have hl:(A++[r]).length≤80:=by simp;omega
 have hrep:replayF freshH (A++[r])=((nextH x.h r).1,0):=by
  rw [replay_app _ _ _ (by rw [e5]),e5,replay_cons,if_neg (by simp [hn])]
  rfl
 refine ⟨checkW_mk h1 h2 h3 (checkK_text hall hl ?_) (fun _=>rfl) ?_ h7,hrep,hall⟩
 ·have:=textL_len _ hall
  simp only [List.length_nil]
  omega
 ·have e:recK (⟨textL (A++[r]),[]⟩:PK)=(⟨textL (A++[r]),[]⟩,A++[r],0):=recK_again hall hl
  simp only [logW,hu,if_true,e]
  unfold replayH
  rw [if_neg (by omega),hrep]
theorem hear_right {h:PN} {q:Int} {a:PA} (k:(hearN h q a).2=0):checkN h=0∧checkA a=0∧checkN (hearN h q a).1=0:=by
 unfold hearN at k
 split at k
 ·rename_i q;exact absurd k q
 ·rename_i q1
  split at k
  ·rename_i q;exact absurd k q
  ·rename_i q2
   have q1':checkN h=0:=by simpa using q1
   have q2':checkA a=0:=by simpa using q2
   refine ⟨q1',q2',?_⟩
   by_cases c:h.w=false∨h.s≠q
   ·rw [hear_deaf q1' q2' c]
    exact q1'
   ·simp only [not_or,Bool.not_eq_false,Decidable.not_not] at c
    obtain ⟨c1,rfl⟩:=c
    obtain ⟨e1,e2⟩:=hear_ok q1' c1 q2'
    rw [e1]
    exact e2
theorem set_others (x:PW) (j:Int) (h:PN):∀ i:Nat,i≠j.toNat→(setW x j h).n[i]?=x.n[i]?:=fun i hi=>by
 unfold setW
 simp only
 rw [List.getElem?_set_ne (fun e=>hi e.symm)]
theorem comes_keeps {x:PW} {m:PM} (k:checkW x=0) (hm:checkM m=0) (e:(comesW x m).2=0):checkW (comesW x m).1=0∧(∃ j:Nat,∀ i,i≠j→(comesW x m).1.n[i]?=x.n[i]?)∧x.m.length≤(comesW x m).1.m.length∧(comesW x m).1.m.length≤x.m.length + 1∧(comesW x m).1.n.length=3:=by
 obtain ⟨h1,h2,-,-,-,-,-⟩:=checkW_ok k
 have fin:∀ y:PW,checkW y=0→(∃ j:Nat,∀ i,i≠j→y.n[i]?=x.n[i]?)→x.m.length≤y.m.length→y.m.length≤x.m.length + 1→checkW y=0∧(∃ j:Nat,∀ i,i≠j→y.n[i]?=x.n[i]?)∧x.m.length≤y.m.length∧y.m.length≤x.m.length + 1∧y.n.length=3:=fun y a b c d=>⟨a,b,c,d,(checkW_ok a).1⟩
 unfold comesW at e ⊢
 cases hb:m.b with
 |true=>
  rw [hb,if_pos rfl] at e
  rw [if_pos rfl]
  split at e
  ·rename_i q;exact absurd e q
  ·rename_i q
   rw [if_neg q]
   exact fin _ (set_right k (hear_right (by simpa using q)).2.2) ⟨m.w.toNat,set_others x _ _⟩ (Nat.le_refl _) (by simp [setW])
 |false=>
  rw [hb,if_neg (by simp)] at e
  rw [if_neg (by simp)]
  split at e
  ·cases e
  ·rename_i q
   rw [if_neg q]
   have hu:x.u=true:=by simpa using q
   have hmw:=(checkM_facts hm).1
   have hms:=(checkM_facts hm).2.1
   simp only
   rcases asked_cases k hu hb hm with q|⟨q1,q2,q3⟩|⟨q1,q2,A,e1,e2,e3,e4,e5⟩
   ·rw [q]
    exact fin _ k ⟨0,fun _ _=>rfl⟩ (Nat.le_refl _) (by omega)
   ·rw [q3]
    have hn:(nextH x.h ⟨m.w,m.s,m.c⟩).2.2=0:=by rw [q2]
    have ha:=next_answer hn
    rw [q2] at ha
    obtain ⟨p1,p2,p3,p4,p5,p6,_⟩:=post_same x ⟨true,m.w,m.s,zeroC,(lastH x.h m.w).a⟩
    exact fin _ (post_right k (checkM_mk hmw hms (fun _=>⟨rfl,ha⟩) (fun e=>by cases e))) ⟨0,fun _ _=>by rw [p4]⟩ p5 p6
   ·rw [e5]
    have hx:=(logged_right k hu e2 e3 e4 q2).1
    obtain ⟨p1,p2,p3,p4,p5,p6,_⟩:=post_same {x with h:=(nextH x.h ⟨m.w,m.s,m.c⟩).1,d:=⟨textL (A++[⟨m.w,m.s,m.c⟩]),[]⟩} ⟨true,m.w,m.s,zeroC,(nextH x.h ⟨m.w,m.s,m.c⟩).2.1⟩
    exact fin _ (post_right hx (checkM_mk hmw hms (fun _=>⟨rfl,next_answer q2⟩) (fun e=>by cases e))) ⟨0,fun _ _=>by rw [p4]⟩ p5 p6
end Go.Proofs.YtnnngphfmclegaaGreatDoor
