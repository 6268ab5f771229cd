/- The contract of desk.Do: it answers what the plain functions say, in new memory, and leaves what was there as it was; no condition but that the arguments read as data and the package's table is as its text lays it. -/
import Derived.Test.YtabafikicbkkdaaGreatDoorSV22
import Derived.Test.YtabafikicbkkdaaGreatDoorSV14
import Derived.Test.YtabafikicbkkdaaGreatDoorSV8
import Derived.Test.YtabafikicbkkdaaGreatDoorSV3
import Derived.Deep.Light
import Derived.Deep.RegionHeld3
import Derived.Test.YtabafikicbkkdaaGreatDoorSV1
import Derived.Test.YtabafikicbkkdaaGreatDoorSV4
import Derived.Test.YtabafikicbkkdaaGreatDoorSV11
import Derived.Test.YtabafikicbkkdaaGreatDoorSV2
import Derived.BigQuiet
import Derived.Test.YtabafikicbkkdaaGreatDoorSV23
namespace Go.Proofs.YtabafikicbkkdaaGreatDoor
open Go.RowKit
set_option linter.unusedVariables false
set_option maxHeartbeats 8000000
set_option maxRecDepth 100000
set_option linter.unusedSimpArgs false
def Did (r:PD×PA×Int) (w:World) (e:Ending) (w':World):Prop:=
 (∃ (d':DV) (a':AV),e=.returned (.tuple #[d'.v,a'.v,.int .i64 r.2.2])∧d'.ok w'∧a'.ok w'∧d'.new w.heap.size∧a'.new w.heap.size∧d'.p=r.1∧a'.p=r.2.1)∧Below w.heap.size w w'
theorem do_boxes (w:World) (A B:Obj):Lay (((w.alloc A).alloc B).alloc (.cells #[.slice none 0 0,.slice none 0 0,.int .i64 0,.int .i64 0] 30)|>.alloc (.cells #[.int .i64 0,.int .i64 0,.slice none 0 0] 56)) (w.heap.size + 1 + 1) [.slice none 0 0,.slice none 0 0,.int .i64 0,.int .i64 0]∧
  Lay (((w.alloc A).alloc B).alloc (.cells #[.slice none 0 0,.slice none 0 0,.int .i64 0,.int .i64 0] 30)|>.alloc (.cells #[.int .i64 0,.int .i64 0,.slice none 0 0] 56)) (w.heap.size + 1 + 1 + 1) [.int .i64 0,.int .i64 0,.slice none 0 0]:=by
 have h1:=Lay.made1 (w.alloc A) B [.slice none 0 0,.slice none 0 0,.int .i64 0,.int .i64 0] 30
 have h2:=Lay.made (((w.alloc A).alloc B).alloc (.cells #[.slice none 0 0,.slice none 0 0,.int .i64 0,.int .i64 0] 30)) [.int .i64 0,.int .i64 0,.slice none 0 0] 56
 simp only [World.size_alloc] at h1 h2
 exact ⟨h1.below (belowA (Below.refl _ _) _),h2⟩
theorem Do_bad (d:DV) (who:Int) (ca:Option Addr) (cn cc:Nat) (x:PC) (w:World) (hS:Shapes w) (h:d.ok w) (hx:Ints w ca cn cc x.d) (hbad:doE d.p who x≠0) :
  Calls Tryz.prog 84 #[d.v,.int .i64 who,cmdV ca cn cc x] w fun e w'=>Did (doD d.p who x) w e w':=by
 have HR:=hide (show doD d.p who x=(zeroD,zeroA,doE d.p who x) by simp [doD,hbad])
 have HC:=hide (fun w' hS' (h':d.ok w') hx'=>DCheckDo_c d who ca cn cc x w' hS' h' hx')
 have hne:(doE d.p who x !=0)=true:=by simpa using hbad
 obtain ⟨za,zn,zc,Z,ka,kn,kc,bk,bh,bt⟩:=d
 obtain ⟨xk,xz,xn,xt,xd⟩:=x
 clear hbad
 dsimp only [DV.v,cmdV] at *
 obtain ⟨x2,x3⟩:=do_boxes w (.cells #[.slice za zn zc,.slice ka kn kc,.int .i64 bh,.int .i64 bt] 30) (.cells #[.int .i64 xk,.int .i64 xz,.int .i64 xn,.int .i64 xt,.slice ca cn cc] 50)
 generalize doE _ who _=ee at *
 go_enter Tryz.func84,Tryz.ntmps84
 go_wp2_with fail
 refine (HC.out _ (hS.below (by (repeat first|exact bel0|assumption|refine bel1 ?_|refine bel2 ?_|refine bel3 ?_|refine belowT ?_ (by assumption)|refine bel5 ?_ (by simp;try omega)))) (h.below (B:=w.heap.size) (by (repeat first|exact bel0|assumption|refine bel1 ?_|refine bel2 ?_|refine bel3 ?_|refine belowT ?_ (by assumption)|refine bel5 ?_ (by simp;try omega))) (Nat.le_refl _)) (hx.below (B:=w.heap.size) (by (repeat first|exact bel0|assumption|refine bel1 ?_|refine bel2 ?_|refine bel3 ?_|refine belowT ?_ (by assumption)|refine bel5 ?_ (by simp;try omega))) (Nat.le_refl _))).mono ?_
 rintro e w1 ⟨rfl,hb1⟩
 replace x2:=x2.below hb1
 replace x3:=x3.below hb1
 have bw:Below w.heap.size w w1:=by (repeat first|exact bel0|assumption|refine bel1 ?_|refine bel2 ?_|refine bel3 ?_|refine belowT ?_ (by assumption)|refine bel5 ?_ (by simp;try omega))
 clear hb1
 have e0:=x2.cell 0 _ rfl
 have e1:=x2.cell 1 _ rfl
 have e2:=x2.cell 2 _ rfl
 have e3:=x2.cell 3 _ rfl
 have f0:=x2.ice 0
 have f1:=x2.ice 1
 have f2:=x2.ice 2
 have f3:=x2.ice 3
 have g0:=x3.cell 0 _ rfl
 have g1:=x3.cell 1 _ rfl
 have g2:=x3.cell 2 _ rfl
 have k0:=x3.ice 0
 have k1:=x3.ice 1
 have k2:=x3.ice 2
 go_wp2
 have zD:=(((x2.set 0 (.slice none 0 0)).set 1 (.slice none 0 0)).set 2 (.int .i64 0)).set 3 (.int .i64 0)
 have y3:=(((x3.far ⟨w.heap.size + 1 + 1,0,none⟩ (.slice none 0 0) (by simp)).far ⟨w.heap.size + 1 + 1,1,none⟩ (.slice none 0 0) (by simp)).far ⟨w.heap.size + 1 + 1,2,none⟩ (.int .i64 0) (by simp)).far ⟨w.heap.size + 1 + 1,3,none⟩ (.int .i64 0) (by simp)
 have hb2:=((((But.refl (w.heap.size + 1 + 1) w1).step 0 (.slice none 0 0)).step 1 (.slice none 0 0)).step 2 (.int .i64 0)).step 3 (.int .i64 0)
 generalize (((w1.setCell ⟨w.heap.size + 1 + 1,0,none⟩ (.slice none 0 0)).setCell ⟨w.heap.size + 1 + 1,1,none⟩ (.slice none 0 0)).setCell ⟨w.heap.size + 1 + 1,2,none⟩ (.int .i64 0)).setCell ⟨w.heap.size + 1 + 1,3,none⟩ (.int .i64 0)=w2 at *
 have zA:=((y3.set 0 (.int .i64 0)).set 1 (.int .i64 0)).set 2 (.slice none 0 0)
 have zE:=((zD.far ⟨w.heap.size + 1 + 1 + 1,0,none⟩ (.int .i64 0) (by simp)).far ⟨w.heap.size + 1 + 1 + 1,1,none⟩ (.int .i64 0) (by simp)).far ⟨w.heap.size + 1 + 1 + 1,2,none⟩ (.slice none 0 0) (by simp)
 have hb3:=(((But.refl (w.heap.size + 1 + 1 + 1) w2).step 0 (.int .i64 0)).step 1 (.int .i64 0)).step 2 (.slice none 0 0)
 generalize ((w2.setCell ⟨w.heap.size + 1 + 1 + 1,0,none⟩ (.int .i64 0)).setCell ⟨w.heap.size + 1 + 1 + 1,1,none⟩ (.int .i64 0)).setCell ⟨w.heap.size + 1 + 1 + 1,2,none⟩ (.slice none 0 0)=w9 at *
 have z0:=zE.cell 0 _ rfl
 have z1:=zE.cell 1 _ rfl
 have z2:=zE.cell 2 _ rfl
 have z3:=zE.cell 3 _ rfl
 have a0:=zA.cell 0 _ rfl
 have a1:=zA.cell 1 _ rfl
 have a2:=zA.cell 2 _ rfl
 exact bodyPost_ret (v:=.tuple #[.agg #[.slice none 0 0,.slice none 0 0,.int .i64 0,.int .i64 0],.agg #[.int .i64 0,.int .i64 0,.slice none 0 0],.int .i64 ee]) (by simp [results,Tryz.results84,go_sem,z0,z1,z2,z3,a0,a1,a2]) rfl
  ⟨⟨DV.zero,AV.err 0,by rw [HR.out];rfl,DV.zero_ok _,AV.err_ok _ _,DV.zero_new _,AV.err_new _ _,by rw [HR.out];rfl,by rw [HR.out];rfl⟩,(bw.trans (hb2.low.mono (show w.heap.size≤w.heap.size + 1 + 1 by omega))).trans (hb3.low.mono (show w.heap.size≤w.heap.size + 1 + 1 + 1 by omega))⟩
theorem Do_good (d:DV) (j:Nat) (ca:Option Addr) (cn cc:Nat) (x:PC) (w:World) (hS:Shapes w) (h:d.ok w) (hx:Ints w ca cn cc x.d) (hok:doE d.p j x=0) (hd:checkD d.p=0) (hj:j < 3) (hk:1≤x.k∧x.k≤12) :
  Calls Tryz.prog 84 #[d.v,.int .i64 j,cmdV ca cn cc x] w fun e w'=>Did (doD d.p j x) w e w':=by
 have HR:=hide (show doD d.p j x=((doneD d.p j x).1,(doneD d.p j x).2,0) by simp [doD,hok])
 have HC:=hide (fun w' hS' (h':d.ok w') hx'=>DCheckDo_c d j ca cn cc x w' hS' h' hx')
 have HW:=hide (fun w' (h':d.ok w')=>dwhole_c d w' h' hd)
 have HK:=hide (fun B (d2:DV) w' (h':DBox w' B d2) hx' (hp:d2.p=d.p)=>work_c B d2 j ca cn cc x w' h' hx' (by rw [hp];exact hd) hj hk)
 have HOK:=hide hok
 clear hok hd hj hk
 generalize hpd:d.p=pd at *
 obtain ⟨za,zn,zc,Z,ka,kn,kc,bk,bh,bt⟩:=d
 obtain ⟨xk,xz,xn,xt,xd⟩:=x
 dsimp only [DV.v,cmdV] at *
 obtain ⟨x2,x3⟩:=do_boxes w (.cells #[.slice za zn zc,.slice ka kn kc,.int .i64 bh,.int .i64 bt] 30) (.cells #[.int .i64 xk,.int .i64 xz,.int .i64 xn,.int .i64 xt,.slice ca cn cc] 50)
 go_enter Tryz.func84,Tryz.ntmps84
 go_wp2_with fail
 refine (HC.out _ (hS.below (by (repeat first|exact bel0|assumption|refine bel1 ?_|refine bel2 ?_|refine bel3 ?_|refine belowT ?_ (by assumption)|refine bel5 ?_ (by simp;try omega)))) (h.below (B:=w.heap.size) (by (repeat first|exact bel0|assumption|refine bel1 ?_|refine bel2 ?_|refine bel3 ?_|refine belowT ?_ (by assumption)|refine bel5 ?_ (by simp;try omega))) (Nat.le_refl _)) (hx.below (B:=w.heap.size) (by (repeat first|exact bel0|assumption|refine bel1 ?_|refine bel2 ?_|refine bel3 ?_|refine belowT ?_ (by assumption)|refine bel5 ?_ (by simp;try omega))) (Nat.le_refl _))).mono ?_
 rintro e w1 ⟨rfl,hb1⟩
 rw [HOK.out]
 have d0:=keepc hb1 (p:=⟨w.heap.size,0,none⟩) (u:=.slice za zn zc) (by go_simp)
 have d1:=keepc hb1 (p:=⟨w.heap.size,1,none⟩) (u:=.slice ka kn kc) (by go_simp)
 have d2:=keepc hb1 (p:=⟨w.heap.size,2,none⟩) (u:=.int .i64 bh) (by go_simp)
 have d3:=keepc hb1 (p:=⟨w.heap.size,3,none⟩) (u:=.int .i64 bt) (by go_simp)
 have c0:=keepc hb1 (p:=⟨w.heap.size + 1,0,none⟩) (u:=.int .i64 xk) (by go_simp)
 have c1:=keepc hb1 (p:=⟨w.heap.size + 1,1,none⟩) (u:=.int .i64 xz) (by go_simp)
 have c2:=keepc hb1 (p:=⟨w.heap.size + 1,2,none⟩) (u:=.int .i64 xn) (by go_simp)
 have c3:=keepc hb1 (p:=⟨w.heap.size + 1,3,none⟩) (u:=.int .i64 xt) (by go_simp)
 have c4:=keepc hb1 (p:=⟨w.heap.size + 1,4,none⟩) (u:=.slice ca cn cc) (by go_simp)
 replace x2:=x2.below hb1
 replace x3:=x3.below hb1
 have bw:Below w.heap.size w w1:=by (repeat first|exact bel0|assumption|refine bel1 ?_|refine bel2 ?_|refine bel3 ?_|refine belowT ?_ (by assumption)|refine bel5 ?_ (by simp;try omega))
 clear hb1
 go_wp2_with fail
 refine (HW.out _ (h.below bw (Nat.le_refl _))).mono ?_
 rintro e w2 ⟨⟨⟨ya,yn,yc,Y,la,ln,lc,lk,lh,lt⟩,rfl,hok2,hnew2,hp2⟩,hb2⟩
 have HP2:=hide hp2
 have hl3:=x3.lt
 have N2:=hide (DV.new.mono hnew2 hl3)
 replace x2:=x2.below hb2
 replace x3:=x3.below hb2
 replace c0:=keepc hb2 c0
 replace c1:=keepc hb2 c1
 replace c2:=keepc hb2 c2
 replace c3:=keepc hb2 c3
 replace c4:=keepc hb2 c4
 replace bw:=belowT bw hb2
 clear hb2 hp2 hnew2 d0 d1 d2 d3
 dsimp only
 have hbx:=Lay.made w2 [.slice ya yn yc,.slice la ln lc,.int .i64 lh,.int .i64 lt] 30
 have bn:=belowA (Below.refl _ w2) (.cells #[.slice ya yn yc,.slice la ln lc,.int .i64 lh,.int .i64 lt] 30)
 have hDB:DBox (w2.alloc (.cells #[.slice ya yn yc,.slice la ln lc,.int .i64 lh,.int .i64 lt] 30)) w2.heap.size ⟨ya,yn,yc,Y,la,ln,lc,lk,lh,lt⟩:=⟨hbx,hok2.below bn (Nat.le_refl _),hok2.off (Nat.le_refl _)⟩
 have hl2:=x3.lt
 have hsB:=bw.size
 go_upto_region 5 with fail
 replace x2:=x2.below bn
 replace x3:=x3.below bn
 replace c0:=keepc bn c0
 replace c1:=keepc bn c1
 replace c2:=keepc bn c2
 replace c3:=keepc bn c3
 replace c4:=keepc bn c4
 replace bw:=belowT bw bn
 clear bn hbx
 generalize hB:w2.heap.size=B at *
 generalize w2.alloc (.cells #[.slice ya yn yc,.slice la ln lc,.int .i64 lh,.int .i64 lt] 30)=w3 at *
 go_wp2_with fail
 refine (HK.out B ⟨ya,yn,yc,Y,la,ln,lc,lk,lh,lt⟩ _ hDB (hx.below bw (Nat.le_refl _)) HP2.out).mono ?_
 rintro e w4 ⟨⟨⟨pa,pn,pc,P4,qa,qn,qc,qk,qh,qt⟩,⟨ee,et,ea,en,ec,ed⟩,rfl,hD4,hn4,aok,anew,dp,ap⟩,hb4⟩
 have DPH:=hide dp
 have APH:=hide ap
 have hB3:w.heap.size + 1 + 1 + 1 < B:=hl2
 have hBlt:=hDB.lay.lt
 have N4:=hide (show ∀ R,R≤w.heap.size + 1 + 1 + 1→DV.off R ⟨pa,pn,pc,P4,qa,qn,qc,qk,qh,qt⟩ from fun R hR=>hn4 R (by omega) (N2.out R (by omega)))
 have A4:=hide (show ∀ R,R≤w.heap.size + 1 + 1 + 1→AV.off R ⟨ee,et,ea,en,ec,ed⟩ from fun R hR=>anew R (by omega))
 replace x2:=x2.butI hb4 (by omega)
 replace x3:=x3.butI hb4 (by omega)
 replace bw:Below w.heap.size w w4:=bw.trans (hb4.below (by omega))
 clear dp ap hn4 anew hb4 hDB c0 c1 c2 c3 c4 N2
 unfold AV.v
 dsimp only
 go_upto_region 6 with fail
 have hbe:=Lay.made w4 [.int .i64 ee,.int .i64 et,.slice ea en ec] 56
 have bn:=belowA (Below.refl _ w4) (.cells #[.int .i64 ee,.int .i64 et,.slice ea en ec] 56)
 have hlB:=hD4.lay.lt
 have b0:=past1 (hD4.lay.cell 0 _ rfl)
 have b1:=past1 (hD4.lay.cell 1 _ rfl)
 have b2:=past1 (hD4.lay.cell 2 _ rfl)
 have b3:=past1 (hD4.lay.cell 3 _ rfl)
 have q0:=hbe.cell 0 _ rfl
 have q1:=hbe.cell 1 _ rfl
 have q2:=hbe.cell 2 _ rfl
 replace x2:=x2.below bn
 replace x3:=x3.below bn
 replace bw:=belowT bw bn
 have hok4:=hD4.ok.below bn (Nat.le_refl _)
 have aok4:=AV.ok.below aok bn (Nat.le_refl _)
 have hq:w4.heap.size≠w.heap.size + 1 + 1:=by omega
 have hq':w4.heap.size≠w.heap.size + 1 + 1 + 1:=by omega
 generalize hQ:w4.heap.size=Q at *
 replace b0:=b0 (.cells #[.int .i64 ee,.int .i64 et,.slice ea en ec] 56)
 replace b1:=b1 (.cells #[.int .i64 ee,.int .i64 et,.slice ea en ec] 56)
 replace b2:=b2 (.cells #[.int .i64 ee,.int .i64 et,.slice ea en ec] 56)
 replace b3:=b3 (.cells #[.int .i64 ee,.int .i64 et,.slice ea en ec] 56)
 generalize w4.alloc (.cells #[.int .i64 ee,.int .i64 et,.slice ea en ec] 56)=w5 at *
 clear bn hbe hD4 aok
 dsimp only at b0 b1 b2 b3
 have e0:=x2.cell 0 _ rfl
 have e1:=x2.cell 1 _ rfl
 have e2:=x2.cell 2 _ rfl
 have e3:=x2.cell 3 _ rfl
 have f0:=x2.ice 0
 have f1:=x2.ice 1
 have f2:=x2.ice 2
 have f3:=x2.ice 3
 have g0:=x3.cell 0 _ rfl
 have g1:=x3.cell 1 _ rfl
 have g2:=x3.cell 2 _ rfl
 have k0:=x3.ice 0
 have k1:=x3.ice 1
 have k2:=x3.ice 2
 have hB2:B≠w.heap.size + 1 + 1:=by omega
 have hB3':B≠w.heap.size + 1 + 1 + 1:=by omega
 go_cut [8] (fun v wx=>v=.int .i64 0∧Lay wx (w.heap.size + 1 + 1) [.slice pa pn pc,.slice qa qn qc,.int .i64 qh,.int .i64 qt]∧Lay wx (w.heap.size + 1 + 1 + 1) [.int .i64 ee,.int .i64 et,.slice ea en ec]∧DV.ok wx ⟨pa,pn,pc,P4,qa,qn,qc,qk,qh,qt⟩∧AV.ok wx ⟨ee,et,ea,en,ec,ed⟩∧Below w.heap.size w wx)
 case first=>
  go_region
  all_goals
   go_wp2_with fail
   go_meet
  all_goals
   case rel=>
    have zD:=(((x2.set 0 (.slice pa pn pc)).set 1 (.slice qa qn qc)).set 2 (.int .i64 qh)).set 3 (.int .i64 qt)
    have y3:=(((x3.far ⟨w.heap.size + 1 + 1,0,none⟩ (.slice pa pn pc) (by simp)).far ⟨w.heap.size + 1 + 1,1,none⟩ (.slice qa qn qc) (by simp)).far ⟨w.heap.size + 1 + 1,2,none⟩ (.int .i64 qh) (by simp)).far ⟨w.heap.size + 1 + 1,3,none⟩ (.int .i64 qt) (by simp)
    have hb2:=((((But.refl (w.heap.size + 1 + 1) w5).step 0 (.slice pa pn pc)).step 1 (.slice qa qn qc)).step 2 (.int .i64 qh)).step 3 (.int .i64 qt)
    generalize (((w5.setCell ⟨w.heap.size + 1 + 1,0,none⟩ (.slice pa pn pc)).setCell ⟨w.heap.size + 1 + 1,1,none⟩ (.slice qa qn qc)).setCell ⟨w.heap.size + 1 + 1,2,none⟩ (.int .i64 qh)).setCell ⟨w.heap.size + 1 + 1,3,none⟩ (.int .i64 qt)=w6 at *
    have zA:=((y3.set 0 (.int .i64 ee)).set 1 (.int .i64 et)).set 2 (.slice ea en ec)
    have zE:=((zD.far ⟨w.heap.size + 1 + 1 + 1,0,none⟩ (.int .i64 ee) (by simp)).far ⟨w.heap.size + 1 + 1 + 1,1,none⟩ (.int .i64 et) (by simp)).far ⟨w.heap.size + 1 + 1 + 1,2,none⟩ (.slice ea en ec) (by simp)
    have hb3:=(((But.refl (w.heap.size + 1 + 1 + 1) w6).step 0 (.int .i64 ee)).step 1 (.int .i64 et)).step 2 (.slice ea en ec)
    have o9:=(hok4.but hb2 (N4.out _ (by omega))).but hb3 (N4.out _ (by omega))
    have a9:=AV.ok.but (AV.ok.but aok4 hb2 (A4.out _ (by omega))) hb3 (A4.out _ (by omega))
    have b9:=(bw.trans (hb2.low.mono (show w.heap.size≤w.heap.size + 1 + 1 by omega))).trans (hb3.low.mono (show w.heap.size≤w.heap.size + 1 + 1 + 1 by omega))
    exact ⟨rfl,zE.drew,zA.drew,o9.below (Below.refl _ _).drew (Nat.le_refl _),AV.ok.below a9 (Below.refl _ _).drew (Nat.le_refl _),b9.drew⟩
 case rest=>
  obtain ⟨rfl,zD,zA,hok9,aok9,bw9⟩:=hcut
  have z0:=zD.cell 0 _ rfl
  have z1:=zD.cell 1 _ rfl
  have z2:=zD.cell 2 _ rfl
  have z3:=zD.cell 3 _ rfl
  have a0:=zA.cell 0 _ rfl
  have a1:=zA.cell 1 _ rfl
  have a2:=zA.cell 2 _ rfl
  go_wp2
  exact bodyPost_ret (v:=.tuple #[.agg #[.slice pa pn pc,.slice qa qn qc,.int .i64 qh,.int .i64 qt],.agg #[.int .i64 ee,.int .i64 et,.slice ea en ec],.int .i64 0]) (by simp [results,Tryz.results84,go_sem,z0,z1,z2,z3,a0,a1,a2]) rfl
   ⟨⟨⟨pa,pn,pc,P4,qa,qn,qc,qk,qh,qt⟩,⟨ee,et,ea,en,ec,ed⟩,by rw [HR.out];rfl,hok9,aok9,fun R hR=>N4.out R (by omega),fun R hR=>A4.out R (by omega),by rw [HR.out,← HP2.out];exact DPH.out,by rw [HR.out,← HP2.out];exact APH.out⟩,bw9⟩
theorem Do_c (d:DV) (who:Int) (ca:Option Addr) (cn cc:Nat) (x:PC) (w:World) (hS:Shapes w) (h:d.ok w) (hx:Ints w ca cn cc x.d) :
  Calls Tryz.prog 84 #[d.v,.int .i64 who,cmdV ca cn cc x] w fun e w'=>Did (doD d.p who x) w e w':=by
 by_cases hb:doE d.p who x=0
 ·obtain ⟨hd,⟨j,rfl,hj⟩,hc⟩:=doE_ok hb
  exact Do_good d j ca cn cc x w hS h hx hb hd hj (cmd_facts hc).1
 ·exact Do_bad d who ca cn cc x w hS h hx hb
end Go.Proofs.YtabafikicbkkdaaGreatDoor
namespace Go.Proofs.YtabafikicbkkdaaGreatDoor
open Go.RowKit
set_option linter.unusedVariables false
set_option maxHeartbeats 8000000
set_option maxRecDepth 100000
set_option linter.unusedSimpArgs false
end Go.Proofs.YtabafikicbkkdaaGreatDoor
namespace Go.Proofs.YtabafikicbkkdaaGreatDoor
open Go.RowKit
set_option linter.unusedVariables false
set_option maxHeartbeats 8000000
set_option maxRecDepth 100000
set_option linter.unusedSimpArgs false
end Go.Proofs.YtabafikicbkkdaaGreatDoor
namespace Go.Proofs.YtabafikicbkkdaaGreatDoor
open Go.RowKit
set_option linter.unusedVariables false
set_option maxHeartbeats 8000000
set_option maxRecDepth 100000
set_option linter.unusedSimpArgs false
end Go.Proofs.YtabafikicbkkdaaGreatDoor
namespace Go.Proofs.YtabafikicbkkdaaGreatDoor
open Go.RowKit
set_option linter.unusedVariables false
set_option maxHeartbeats 8000000
set_option maxRecDepth 100000
set_option linter.unusedSimpArgs false
end Go.Proofs.YtabafikicbkkdaaGreatDoor
namespace Go.Proofs.YtabafikicbkkdaaGreatDoor
open Go.RowKit
set_option linter.unusedVariables false
set_option maxHeartbeats 8000000
set_option maxRecDepth 100000
set_option linter.unusedSimpArgs false
end Go.Proofs.YtabafikicbkkdaaGreatDoor
namespace Go.Proofs.YtabafikicbkkdaaGreatDoor
open Go.RowKit
set_option linter.unusedVariables false
set_option maxHeartbeats 8000000
set_option maxRecDepth 100000
set_option linter.unusedSimpArgs false
end Go.Proofs.YtabafikicbkkdaaGreatDoor
namespace Go.Proofs.YtabafikicbkkdaaGreatDoor
open Go.RowKit
set_option linter.unusedVariables false
set_option maxHeartbeats 8000000
set_option maxRecDepth 100000
set_option linter.unusedSimpArgs false
end Go.Proofs.YtabafikicbkkdaaGreatDoor
namespace Go.Proofs.YtabafikicbkkdaaGreatDoor
open Go.RowKit
set_option linter.unusedVariables false
set_option maxHeartbeats 8000000
set_option maxRecDepth 100000
set_option linter.unusedSimpArgs false
end Go.Proofs.YtabafikicbkkdaaGreatDoor
namespace Go.Proofs.YtabafikicbkkdaaGreatDoor
open Go.RowKit
set_option linter.unusedVariables false
set_option maxHeartbeats 8000000
set_option maxRecDepth 100000
set_option linter.unusedSimpArgs false
theorem hand_small {h:NV} {w:World} (hk:h.ok w) (hc:checkN h.p=0):h.cn≤8∧h.gn≤40∧∀ x∈h.G,x.n≤8:=by
 obtain ⟨h1,h2,h3,h4⟩:=checkN_ok hc
 have hl:=hk.g.len
 have hcl:=hk.c.len
 have e1:h.p.s=h.s:=rfl
 have e2:h.p.g.length=h.gn:=by simp [NV.p,hl]
 refine ⟨?_,?_,fun x hx=>?_⟩
 ·cases hw:h.w with
  |true=>
   have:=(cmd_facts (h4 hw)).2.2.2.2.1
   rw [← hcl]
   exact this
  |false=>
   have hw':h.p.w=false:=hw
   simp only [formN,hw',Bool.false_eq_true,if_false,Bool.and_eq_true] at h3
   have:h.c=zeroC:=(sameC_iff _ _).1 h3.2
   rw [← hcl,this]
   simp [zeroC]
 ·unfold formN at h3
  rw [e1] at h1
  split at h3
  ·simp only [decide_eq_true_eq] at h3;rw [e1,e2] at h3;omega
  ·simp only [Bool.and_eq_true,decide_eq_true_eq] at h3;rw [e1,e2] at h3;omega
 ·have:=checkA_few (firstA_all h2 x.p (by simp only [NV.p];exact List.mem_map.2 ⟨x,hx,rfl⟩))
  have e:=(hk.g.ok x hx).len
  rw [← e]
  exact this
theorem jwhole_c (h:NV) (w:World) (hk:h.ok w) (hc:checkN h.p=0) :
  Calls Tryz.prog 88 #[h.v] w fun e w'=>(∃ q g X',e=.returned (NV.v ⟨h.s,h.w,h.c,some ⟨q,0,none⟩,h.cn,h.cn,some ⟨g,0,none⟩,h.gn,h.gn,X'⟩)∧Ints w' (some ⟨q,0,none⟩) h.cn h.cn h.c.d∧w.heap.size≤q∧q < g∧MineA w' g X'∧X'.length=h.gn∧X'.map AV.p=h.G.map AV.p)∧Below w.heap.size w w':=by
 obtain ⟨hcn,hgn,hxs⟩:=hand_small hk hc
 exact phand_c h w hk (by omega) (by omega) (fun x hx=>by have:=hxs x hx;omega)
end Go.Proofs.YtabafikicbkkdaaGreatDoor
namespace Go.Proofs.YtabafikicbkkdaaGreatDoor
open Go.RowKit
set_option linter.unusedVariables false
set_option maxHeartbeats 8000000
set_option maxRecDepth 100000
set_option linter.unusedSimpArgs false
theorem jcheckAsk_c (h:NV) (a:Option Addr) (n c:Nat) (b:PC) (w:World) (hS:Shapes w) (hk:h.ok w) (hb:Ints w a n c b.d):Calls Tryz.prog 138 #[h.v,cmdV a n c b] w fun e w'=>e=.returned (.int .i64 (askN h.p b).2)∧Below w.heap.size w w':=by
 have HK:=hide (fun w' hS' h'=>JCheck_c h w' hS' h')
 have HC:=hide (fun w' hS' h'=>cmdCheck_c a n c b w' hS' h')
 have HA:Hid ((askN h.p b).2=if checkN h.p≠0 then checkN h.p else if checkC b≠0 then checkC b else if h.w then 6 else if 40≤h.s then 2 else 0):=hide (by
  unfold askN
  rw [show h.p.w=h.w from rfl,show h.p.s=h.s from rfl]
  (repeat' split)<;>rfl)
 have HB:Hid (checkN h.p=0→0≤h.s∧h.s≤40):=hide (fun e=>(checkN_ok e).1)
 obtain ⟨x0,x1,bw⟩:=two_boxes w h.cells [.int .i64 b.k,.int .i64 b.z,.int .i64 b.n,.int .i64 b.at',.slice a n c] 62 50
 replace hk:=hk.below bw (Nat.le_refl _)
 replace hb:=hb.below bw (Nat.le_refl _)
 replace hS:=hS.below bw
 generalize (askN h.p b).2=r at *
 generalize checkN h.p=ch at *
 generalize checkC b=cb at *
 rw [show h.v=.agg h.cells.toArray from rfl] at *
 obtain ⟨s,v,⟨k,z,u,t,d⟩,ca,cn,cc,ga,gn,gc,G⟩:=h
 obtain ⟨k',z',u',t',d'⟩:=b
 dsimp only [NV.cells,cmdV] at *
 obtain ⟨c0,c1,c2,c3,c4,c5,c6,c7⟩:=x0.eight
 go_enter Tryz.func138,Tryz.ntmps138
 go_wp2_with fail
 refine (HK.out _ hS hk).mono ?_
 rintro e w1 ⟨rfl,hb1⟩
 replace x0:=x0.below hb1
 replace x1:=x1.below hb1
 replace hb:=hb.below hb1 (Nat.le_refl _)
 replace hS:=hS.below hb1
 replace bw:=belowT bw hb1
 clear hb1 c0 c1 c2 c3 c4 c5 c6 c7 HK hk
 cases h0:ch !=0
 ·have hc0:Hid (ch=0):=hide (by simpa using h0)
  have r0:=x1.cell 0 _ rfl
  have r1:=x1.cell 1 _ rfl
  have r2:=x1.cell 2 _ rfl
  have r3:=x1.cell 3 _ rfl
  have r4:=x1.cell 4 _ rfl
  go_wp2_with fail
  refine (HC.out _ hS hb).mono ?_
  rintro e w2 ⟨rfl,hb2⟩
  replace x0:=x0.below hb2
  replace bw:=belowT bw hb2
  clear hb2 r0 r1 r2 r3 r4 HC x1
  have c0:=x0.cell 0 _ rfl
  have c1:=x0.cell 1 _ rfl
  cases h1:cb !=0
  ·have hc1:Hid (cb=0):=hide (by simpa using h1)
   cases v
   ·have hs:=HB.out hc0.out
    cases h2:s==40
    ·have hn:¬ 40≤s:=by simp at h2;omega
     have HR:Hid (r=0):=hide (by rw [HA.out,if_neg (by simp [hc0.out]),if_neg (by simp [hc1.out]),if_neg (by simp),if_neg hn])
     clear hn hs
     go_wp2
     go_ret
     exact ⟨ret_int HR.out.symm,bw⟩
    ·have hn:40≤s:=by simp at h2;omega
     have HR:Hid (r=2):=hide (by rw [HA.out,if_neg (by simp [hc0.out]),if_neg (by simp [hc1.out]),if_neg (by simp),if_pos hn])
     clear hn hs
     go_wp2
     go_ret
     exact ⟨ret_int HR.out.symm,bw⟩
   ·have HR:Hid (r=6):=hide (by rw [HA.out,if_neg (by simp [hc0.out]),if_neg (by simp [hc1.out]),if_pos rfl])
    go_wp2
    go_ret
    exact ⟨ret_int HR.out.symm,bw⟩
  ·have HR:Hid (r=cb):=hide (by rw [HA.out,if_neg (by simp [hc0.out]),if_pos (by simpa using h1)])
   go_wp2
   go_ret
   exact ⟨ret_int HR.out.symm,bw⟩
 ·have HR:Hid (r=ch):=hide (by rw [HA.out,if_pos (by simpa using h0)])
  go_wp2
  go_ret
  exact ⟨ret_int HR.out.symm,bw⟩
theorem ask_first {h:PN} {c:PC} (k:(askN h c).2≠0):askN h c=(zeroN,(askN h c).2):=by
 unfold askN at k ⊢
 (repeat' split)<;>first|rfl|(exfalso;simp_all;done)
theorem JAsk_c (h:NV) (a:Option Addr) (n c:Nat) (b:PC) (w:World) (hS:Shapes w) (hk:h.ok w) (hb:Ints w a n c b.d):Calls Tryz.prog 115 #[h.v,cmdV a n c b] w fun e w'=>HandNew (askN h.p b) w e w':=by
 have HK:=hide (fun w' hS' h' k'=>jcheckAsk_c h a n c b w' hS' h' k')
 have HW:=hide (fun w' h' hc'=>jwhole_c h w' h' hc')
 have HF:=hide (fun k=>ask_first (h:=h.p) (c:=b) k)
 have HO:=hide (fun k=>ask_some (h:=h.p) (c:=b) k)
 have HR:=hide (fun e1 e2 e3 e4=>(ask_ok (h:=h.p) (c:=b) e1 e2 e3 e4).1)
 have hbl:=hb.len
 have hgl:=hk.g.len
 have HGX:Hid (h.gn≤9223372036854775807):=hide (Nat.le_trans hk.g.le hk.g.max)
 obtain ⟨x0,x1,x2,bw⟩:=three_boxes w h.cells [.int .i64 b.k,.int .i64 b.z,.int .i64 b.n,.int .i64 b.at',.slice a n c] NV.zero.cells 62 50 62
 have hok:=hk.below bw (Nat.le_refl _)
 have hbk:=hb.below bw (Nat.le_refl _)
 have hSk:=hS.below bw
 have HP:Hid (h.p=⟨h.s,h.w,h.c,h.G.map AV.p⟩):=hide rfl
 generalize askN h.p b=na at *
 generalize hhp:h.p=hp at *
 clear hhp
 rw [show h.v=.agg h.cells.toArray from rfl] at *
 obtain ⟨s,v,⟨k,z,u,t,d⟩,ca,cn,cc,ga,gn,gc,G⟩:=h
 obtain ⟨k',z',u',t',d'⟩:=b
 dsimp only [NV.cells,cmdV,NV.zero,zeroC] at *
 obtain ⟨c0,c1,c2,c3,c4,c5,c6,c7⟩:=x0.eight
 have r0:=x1.cell 0 _ rfl
 have r1:=x1.cell 1 _ rfl
 have r2:=x1.cell 2 _ rfl
 have r3:=x1.cell 3 _ rfl
 have r4:=x1.cell 4 _ rfl
 go_enter Tryz.func115,Tryz.ntmps115
 go_wp2_with fail
 refine (HK.out _ hSk hok hbk).mono ?_
 rintro e w1 ⟨rfl,hb1⟩
 replace x0:=x0.below hb1
 replace x1:=x1.below hb1
 replace x2:=x2.below hb1
 replace hok:=hok.below hb1 (Nat.le_refl _)
 replace hbk:=hbk.below hb1 (Nat.le_refl _)
 replace bw:=belowT bw hb1
 clear hb1 c0 c1 c2 c3 c4 c5 c6 c7 r0 r1 r2 r3 r4 HK hSk
 cases h0:na.2 !=0
 ·have hz:na.2=0:=by simpa using h0
  obtain ⟨g1,g2,g3,g4⟩:=HO.out hz
  have HE:=hide (HR.out g1 g3 g2 g4)
  have hbd:=(checkN_ok g1).1
  have hn8:=(cmd_facts g2).2.2.2.2.1
  have ep:=HP.out
  subst ep
  dsimp only at g3 g4 hbd HE
  subst g3
  obtain ⟨c0,c1,c2,c3,c4,c5,c6,c7⟩:=x0.eight
  have G1:=hide g1
  clear g1 g2 HR HO HF HP hz hgl
  go_wp2_with fail
  refine (HW.out _ hok G1.out).mono ?_
  rintro e w2 ⟨⟨q,g,X',rfl,iq,hq,hqg,hM,hXl,hXp⟩,hb2⟩
  dsimp only [NV.v] at *
  have hx1:=x2.lt
  have HXL:=hide hXl
  have HXP:=hide hXp
  clear hXl hXp c0 c1 c2 c3 c4 c5 c6 c7 x0
  replace x1:=x1.below hb2
  replace x2:=x2.below hb2
  replace hbk:=hbk.below hb2 (Nat.le_refl _)
  replace bw:=belowT bw hb2
  have hx2:=x2.lt
  have hs12:=hb2.size
  have hgm:=hM.lay.lt
  have HM0:=hide hM
  have hbk0:=hbk
  have hq2:q < w2.heap.size:=by omega
  have hwq:w.heap.size + 1 + 1 < q:=by omega
  clear hb2 HW
  go_upto_region 5 with fail
  have xn:=Lay.made w2 [.int .i64 s,.bool false,.int .i64 k,.int .i64 z,.int .i64 u,.int .i64 t,.slice (some ⟨q,0,none⟩) cn cn,.slice (some ⟨g,0,none⟩) gn gn] 62
  have bn:=belowA (Below.refl _ w2) (.cells [.int .i64 s,.bool false,.int .i64 k,.int .i64 z,.int .i64 u,.int .i64 t,.slice (some ⟨q,0,none⟩) cn cn,.slice (some ⟨g,0,none⟩) gn gn].toArray 62)
  replace x1:=x1.below bn
  replace x2:=x2.below bn
  replace hbk:=hbk.below bn (Nat.le_refl _)
  replace hM:=hM.below bn
  replace bw:=belowT bw bn
  have hgN:=hgm
  have HXO:Hid (∀ x∈X',x.off w2.heap.size):=hide (fun x hx=>AV.ok.off (HM0.out.ok x hx) (Nat.le_refl _))
  have hqN:=hq2
  have hbO:n=0∨∀ x,a=some x→x.block≠w2.heap.size:=Ints.offs hbk0 (Nat.le_refl _)
  have iq3:=iq.below bn (Nat.le_refl _)
  clear bn iq hbk0 HM0
  generalize hN:w2.heap.size=N at *
  clear hN
  generalize w2.alloc (.cells [.int .i64 s,.bool false,.int .i64 k,.int .i64 z,.int .i64 u,.int .i64 t,.slice (some ⟨q,0,none⟩) cn cn,.slice (some ⟨g,0,none⟩) gn gn].toArray 62)=w3 at *
  have n0:=xn.cell 0 _ rfl
  have i0:=xn.ice 0
  have hwr:IntKind.i64.wrap (s + 1)=s + 1:=IntWalk.i64_in _ ⟨by omega,by omega⟩
  go_upto_region 6 with fail
  have hbu:=(ButI.refl N w3).step 0 (.int .i64 (s + 1))
  replace xn:=xn.set 0 (.int .i64 (s + 1))
  dsimp only [List.set] at xn
  replace x1:=x1.butI hbu (by omega)
  replace x2:=x2.butI hbu (by omega)
  replace hbk:=hbk.but hbu.but hbO
  replace bw:=bw.trans (hbu.below (B:=w.heap.size) (by omega))
  replace hM:=hM.farB ⟨N,0,none⟩ (.int .i64 (s + 1)) (by simp;omega) HXO.out
  clear n0 i0 hbu
  generalize w3.setCell ⟨N,0,none⟩ (.int .i64 (s + 1))=w4 at *
  have r0:=x1.cell 0 _ rfl
  have r1:=x1.cell 1 _ rfl
  have r2:=x1.cell 2 _ rfl
  have r3:=x1.cell 3 _ rfl
  have r4:=x1.cell 4 _ rfl
  go_wp2_with fail
  refine (pwholeC_c a n c ⟨k',z',u',t',d'⟩ _ hbk (by omega)).mono ?_
  rintro e w5 ⟨⟨q5,rfl,i5,hq5,hq6⟩,hb5⟩
  dsimp only [cmdV] at *
  have h45:=xn.lt
  clear r0 r1 r2 r3 r4 x1 hbk
  replace xn:=xn.below hb5
  replace x2:=x2.below hb5
  replace hM:=hM.below hb5
  replace bw:=belowT bw hb5
  clear hb5
  have n1:=xn.cell 1 _ rfl
  have n2:=xn.cell 2 _ rfl
  have n3:=xn.cell 3 _ rfl
  have n4:=xn.cell 4 _ rfl
  have n5:=xn.cell 5 _ rfl
  have n6:=xn.cell 6 _ rfl
  have i1:=xn.ice 1
  have i2:=xn.ice 2
  have i3:=xn.ice 3
  have i4:=xn.ice 4
  have i6:=xn.ice 6
  have i5':=xn.ice 5
  go_upto_region 7 with fail
  have hbu:=((((((ButI.refl N w5).step 1 (.bool true)).step 2 (.int .i64 k')).step 3 (.int .i64 z')).step 4 (.int .i64 u')).step 5 (.int .i64 t')).step 6 (.slice (some ⟨q5,0,none⟩) n n)
  have yn:Lay _ _ [.int .i64 (s + 1),.bool true,.int .i64 k',.int .i64 z',.int .i64 u',.int .i64 t',.slice (some ⟨q5,0,none⟩) n n,.slice (some ⟨g,0,none⟩) gn gn]:=(((((xn.set 1 (.bool true)).set 2 (.int .i64 k')).set 3 (.int .i64 z')).set 4 (.int .i64 u')).set 5 (.int .i64 t')).set 6 (.slice (some ⟨q5,0,none⟩) n n)
  replace x2:=x2.butI hbu (by omega)
  replace i5:=i5.but hbu.but (.inr fun x e=>by cases e;simp;omega)
  replace bw:=bw.trans (hbu.below (B:=w.heap.size) (by omega))
  replace hM:=(((((hM.farB ⟨N,1,none⟩ (.bool true) (by simp;omega) HXO.out).farB ⟨N,2,none⟩ (.int .i64 k') (by simp;omega) HXO.out).farB ⟨N,3,none⟩ (.int .i64 z') (by simp;omega) HXO.out).farB ⟨N,4,none⟩ (.int .i64 u') (by simp;omega) HXO.out).farB ⟨N,5,none⟩ (.int .i64 t') (by simp;omega) HXO.out).farB ⟨N,6,none⟩ (.slice (some ⟨q5,0,none⟩) n n) (by simp;omega) HXO.out
  clear n1 n2 n3 n4 n5 n6 i1 i2 i3 i4 i6 i5' xn hbu iq3 HXO
  generalize (((((w5.setCell ⟨N,1,none⟩ (.bool true)).setCell ⟨N,2,none⟩ (.int .i64 k')).setCell ⟨N,3,none⟩ (.int .i64 z')).setCell ⟨N,4,none⟩ (.int .i64 u')).setCell ⟨N,5,none⟩ (.int .i64 t')).setCell ⟨N,6,none⟩ (.slice (some ⟨q5,0,none⟩) n n)=w6 at *
  obtain ⟨a0,a1,a2,a3,a4,a5,a6,a7⟩:=yn.eight
  have okh:NV.ok w6 ⟨s + 1,true,⟨k',z',u',t',d'⟩,some ⟨q5,0,none⟩,n,n,some ⟨g,0,none⟩,gn,gn,X'⟩:=⟨i5,hM.answers HXL.out HGX.out⟩
  have offh:∀ R,R≤w.heap.size + 1 + 1→NV.off R ⟨s + 1,true,⟨k',z',u',t',d'⟩,some ⟨q5,0,none⟩,n,n,some ⟨g,0,none⟩,gn,gn,X'⟩:=fun R hR=>⟨.inr fun x e=>by cases e;simp;omega,.inr fun x e=>by cases e;simp;omega,fun x hx=>hM.new x hx R (by omega)⟩
  clear hM i5
  have e0:=x2.cell 0 _ rfl
  have e1:=x2.cell 1 _ rfl
  have e2:=x2.cell 2 _ rfl
  have e3:=x2.cell 3 _ rfl
  have e4:=x2.cell 4 _ rfl
  have e5:=x2.cell 5 _ rfl
  have e6:=x2.cell 6 _ rfl
  have e7:=x2.cell 7 _ rfl
  have f0:=x2.ice 0
  have f1:=x2.ice 1
  have f2:=x2.ice 2
  have f3:=x2.ice 3
  have f4:=x2.ice 4
  have f5:=x2.ice 5
  have f6:=x2.ice 6
  have f7:=x2.ice 7
  go_wp2
  have zB:=((((((((x2.set 0 (.int .i64 (s + 1))).set 1 (.bool true)).set 2 (.int .i64 k')).set 3 (.int .i64 z')).set 4 (.int .i64 u')).set 5 (.int .i64 t')).set 6 (.slice (some ⟨q5,0,none⟩) n n)).set 7 (.slice (some ⟨g,0,none⟩) gn gn))
  have hbut:=(((((((((ButI.refl (w.heap.size + 1 + 1) w6).step 0 (.int .i64 (s + 1))).step 1 (.bool true)).step 2 (.int .i64 k')).step 3 (.int .i64 z')).step 4 (.int .i64 u')).step 5 (.int .i64 t')).step 6 (.slice (some ⟨q5,0,none⟩) n n)).step 7 (.slice (some ⟨g,0,none⟩) gn gn))
  generalize ((((((((w6.setCell ⟨w.heap.size + 1 + 1,0,none⟩ (.int .i64 (s + 1))).setCell ⟨w.heap.size + 1 + 1,1,none⟩ (.bool true)).setCell ⟨w.heap.size + 1 + 1,2,none⟩ (.int .i64 k')).setCell ⟨w.heap.size + 1 + 1,3,none⟩ (.int .i64 z')).setCell ⟨w.heap.size + 1 + 1,4,none⟩ (.int .i64 u')).setCell ⟨w.heap.size + 1 + 1,5,none⟩ (.int .i64 t')).setCell ⟨w.heap.size + 1 + 1,6,none⟩ (.slice (some ⟨q5,0,none⟩) n n)).setCell ⟨w.heap.size + 1 + 1,7,none⟩ (.slice (some ⟨g,0,none⟩) gn gn))=w99 at *
  have z0:=zB.cell 0 _ rfl
  have z1:=zB.cell 1 _ rfl
  have z2:=zB.cell 2 _ rfl
  have z3:=zB.cell 3 _ rfl
  have z4:=zB.cell 4 _ rfl
  have z5:=zB.cell 5 _ rfl
  have z6:=zB.cell 6 _ rfl
  have z7:=zB.cell 7 _ rfl
  have o9:=okh.but hbut.but (offh _ (Nat.le_refl _))
  refine bodyPost_ret (v:=.tuple #[.agg #[.int .i64 (s + 1),.bool true,.int .i64 k',.int .i64 z',.int .i64 u',.int .i64 t',.slice (some ⟨q5,0,none⟩) n n,.slice (some ⟨g,0,none⟩) gn gn],.int .i64 0]) (by simp [results,Tryz.results115,go_sem,z0,z1,z2,z3,z4,z5,z6,z7]) rfl ⟨⟨⟨s + 1,true,⟨k',z',u',t',d'⟩,some ⟨q5,0,none⟩,n,n,some ⟨g,0,none⟩,gn,gn,X'⟩,?_,o9,fun R hR=>offh R (by omega),?_⟩,bw.trans (hbut.below (B:=w.heap.size) (by omega))⟩
  ·rw [HE.out];rfl
  ·rw [HE.out]
   simp only [NV.p]
   rw [HXP.out]
 ·have HE:=hide (HF.out (by simpa using h0))
  have okh:=NV.zero_ok w1
  have offh:∀ R,R≤w.heap.size + 1 + 1→NV.off R NV.zero:=fun R _=>NV.zero_off R
  generalize hne:na.2=ne at *
  have e0:=x2.cell 0 _ rfl
  have e1:=x2.cell 1 _ rfl
  have e2:=x2.cell 2 _ rfl
  have e3:=x2.cell 3 _ rfl
  have e4:=x2.cell 4 _ rfl
  have e5:=x2.cell 5 _ rfl
  have e6:=x2.cell 6 _ rfl
  have e7:=x2.cell 7 _ rfl
  have f0:=x2.ice 0
  have f1:=x2.ice 1
  have f2:=x2.ice 2
  have f3:=x2.ice 3
  have f4:=x2.ice 4
  have f5:=x2.ice 5
  have f6:=x2.ice 6
  have f7:=x2.ice 7
  go_wp2
  have zB:=((((((((x2.set 0 (.int .i64 0)).set 1 (.bool false)).set 2 (.int .i64 0)).set 3 (.int .i64 0)).set 4 (.int .i64 0)).set 5 (.int .i64 0)).set 6 (.slice none 0 0)).set 7 (.slice none 0 0))
  have hbut:=(((((((((ButI.refl (w.heap.size + 1 + 1) w1).step 0 (.int .i64 0)).step 1 (.bool false)).step 2 (.int .i64 0)).step 3 (.int .i64 0)).step 4 (.int .i64 0)).step 5 (.int .i64 0)).step 6 (.slice none 0 0)).step 7 (.slice none 0 0))
  generalize ((((((((w1.setCell ⟨w.heap.size + 1 + 1,0,none⟩ (.int .i64 0)).setCell ⟨w.heap.size + 1 + 1,1,none⟩ (.bool false)).setCell ⟨w.heap.size + 1 + 1,2,none⟩ (.int .i64 0)).setCell ⟨w.heap.size + 1 + 1,3,none⟩ (.int .i64 0)).setCell ⟨w.heap.size + 1 + 1,4,none⟩ (.int .i64 0)).setCell ⟨w.heap.size + 1 + 1,5,none⟩ (.int .i64 0)).setCell ⟨w.heap.size + 1 + 1,6,none⟩ (.slice none 0 0)).setCell ⟨w.heap.size + 1 + 1,7,none⟩ (.slice none 0 0))=w99 at *
  have z0:=zB.cell 0 _ rfl
  have z1:=zB.cell 1 _ rfl
  have z2:=zB.cell 2 _ rfl
  have z3:=zB.cell 3 _ rfl
  have z4:=zB.cell 4 _ rfl
  have z5:=zB.cell 5 _ rfl
  have z6:=zB.cell 6 _ rfl
  have z7:=zB.cell 7 _ rfl
  have o9:=okh.but hbut.but (offh _ (Nat.le_refl _))
  refine bodyPost_ret (v:=.tuple #[.agg #[.int .i64 0,.bool false,.int .i64 0,.int .i64 0,.int .i64 0,.int .i64 0,.slice none 0 0,.slice none 0 0],.int .i64 ne]) (by simp [results,Tryz.results115,go_sem,z0,z1,z2,z3,z4,z5,z6,z7]) rfl ⟨⟨NV.zero,?_,o9,fun R hR=>offh R (by omega),?_⟩,bw.trans (hbut.below (B:=w.heap.size) (by omega))⟩
  ·rw [hne];rfl
  ·rw [HE.out];rfl
end Go.Proofs.YtabafikicbkkdaaGreatDoor
