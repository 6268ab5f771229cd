/- The contracts of world.Same, Check and New; no condition but that the arguments read as data, the package-level variables are as their texts lay them, and a disk is no greater than a machine bears. -/
import Derived.Test.YtabafikicbkkdaaGreatDoorSV37
import Derived.Test.YtabafikicbkkdaaGreatDoorSV23
import Derived.Test.YtabafikicbkkdaaGreatDoorSV25
import Derived.Test.YtabafikicbkkdaaGreatDoorSV38
import Derived.Test.YtabafikicbkkdaaGreatDoorSV31
import Derived.Test.YtabafikicbkkdaaGreatDoorSV12
import Derived.Test.YtabafikicbkkdaaGreatDoorSV26
import Derived.Deep.RegionHeld3
import Derived.Test.YtabafikicbkkdaaGreatDoorSV29
import Derived.Test.YtabafikicbkkdaaGreatDoorSV13
namespace Go.Proofs.YtabafikicbkkdaaGreatDoor
open Go.RowKit
set_option linter.unusedVariables false
set_option maxHeartbeats 8000000
set_option maxRecDepth 100000
set_option linter.unusedSimpArgs false
def checkHallW (x:PW):Int:=if checkK x.d≠0 then checkK x.d else if x.u=true∧x.d.w≠[] then 4 else if (replayH (logW x)).2≠0 then (replayH (logW x)).2 else if sameH (replayH (logW x)).1 x.h=false then 4 else 0
theorem checkW_eq (x:PW):checkW x=if x.n.length≠3 then 4 else if 30 < x.m.length then 2 else if firstM x.m≠0 then firstM x.m else if checkHallW x≠0 then checkHallW x else firstN x.n:=by
 unfold checkW checkHallW
 repeat' split
 all_goals first|rfl|(exfalso;simp_all;done)|simp_all
theorem recK_err (d:PK):(recK d).2.2=checkK d:=by
 by_cases h:checkK d=0
 ·obtain ⟨L,e,-⟩:=recK_facts h
  rw [e,h]
 ·rw [recK_bad h]
theorem sameH_comm (a b:PH):sameH a b=sameH b a:=by rw [Bool.eq_iff_iff,sameH_iff,sameH_iff];exact ⟨fun e=>e.symm,fun e=>e.symm⟩
theorem checkHall_c (x:WV) (w:World) (hE:Env w) (hx:x.ok w) (hs:x.sm):Calls Tryz.prog 50 #[x.v] w fun e w'=>e=.returned (.int .i64 (checkHallW x.p))∧Below w.heap.size w w':=by
 have HR:=hide (fun w' hE h=>Recover_c x.d w' hE h hs.s hs.w)
 have HP:=hide (fun a n c X w' hS h=>Replay_c a n c X w' hS h)
 have HS:=hide (fun y w' h k=>HSame_c x.h y w' h k)
 have HC:Hid (checkHallW x.p=if checkK x.d.p≠0 then checkK x.d.p else if x.u=true∧x.d.p.w≠[] then 4 else if (replayH (if x.u then (recK x.d.p).2.1 else [])).2≠0 then (replayH (if x.u then (recK x.d.p).2.1 else [])).2 else if sameH (replayH (if x.u then (recK x.d.p).2.1 else [])).1 x.h.p=false then 4 else 0):=hide rfl
 have HE:=hide (recK_err x.d.p)
 have hwl:x.d.m=0↔x.d.p.w=[]:=by rw [← List.length_eq_zero_iff,Byts.len hx.d.w]
 have x0:=Lay.made w x.cells 40
 have bw:=belowA (Below.refl _ w) (.cells x.cells.toArray 40)
 replace hx:=hx.below bw (Nat.le_refl _)
 replace hE:=hE.below bw
 obtain ⟨hh,hd,-,-⟩:=hx
 generalize hr:recK x.d.p=rk at *
 generalize checkHallW x.p=r at *
 generalize checkK x.d.p=ck at *
 dsimp only [HV.v,KV.v] at *
 go_enter Tryz.func50,Tryz.ntmps50
 go_wp2_with fail
 generalize w.alloc (.cells x.cells.toArray 40)=w1 at *
 refine (HR.out _ hE hd).mono ?_
 rintro e w2 ⟨⟨y,la,ln,lc,X,rfl,hyp,hy,hyf,hX,hXf,hXp⟩,hb⟩
 rw [HE.out]
 replace x0:=x0.below hb
 replace hh:=hh.below hb (Nat.le_refl _)
 replace hE:=hE.below hb
 replace bw:=belowT bw hb
 clear hb HR hyp hyf hXf hd hy HE
 dsimp only [KV.v]
 go_upto_region 2 with fail
 have bn:=belowA (Below.refl _ w2) (.cells [.slice y.a y.n y.c,.slice y.b y.m y.d].toArray 36)
 replace x0:=x0.below bn
 replace hh:=hh.below bn (Nat.le_refl _)
 replace hE:=hE.below bn
 replace hX:=hX.below bn (Nat.le_refl _)
 replace bw:=belowT bw bn
 clear bn
 generalize w2.alloc (.cells [.slice y.a y.n y.c,.slice y.b y.m y.d].toArray 36)=w3 at *
 obtain ⟨c0,c1,c2,c3,c4,c5,c6,c7,c8,c9⟩:=x0.ten
 cases h0:ck !=0
 ·rw [if_neg (by simpa using h0)] at HC
  cases hu:x.u
  ·rw [hu] at HC c7
   rw [if_neg (by simp)] at HC
   simp only [Bool.false_eq_true,if_false] at HC
   go_wp2_with fail
   refine (HP.out none 0 0 [] _ hE.shp (Recs.nilSlice _)).mono ?_
   rintro e w4 ⟨⟨y',rfl,hk,-,hp⟩,hb⟩
   replace x0:=x0.below hb
   replace hh:=hh.below hb (Nat.le_refl _)
   replace bw:=belowT bw hb
   rw [List.map_nil] at hp ⊢
   generalize replayH []=rp at *
   generalize rp.2=e5 at *
   dsimp only [HV.v]
   clear hb HP c0 c1 c2 c3 c4 c5 c6 c7 c8 c9
   go_upto_region 9 with fail
   have bn:=belowA (Below.refl _ w4) (.cells [.slice y'.d.za y'.d.zn y'.d.zc,.slice y'.d.ka y'.d.kn y'.d.kc,.int .i64 y'.d.b.h,.int .i64 y'.d.b.t,.slice y'.a y'.n y'.c].toArray 33)
   have xH:=Lay.made w4 [.slice y'.d.za y'.d.zn y'.d.zc,.slice y'.d.ka y'.d.kn y'.d.kc,.int .i64 y'.d.b.h,.int .i64 y'.d.b.t,.slice y'.a y'.n y'.c] 33
   replace x0:=x0.below bn
   replace hh:=hh.below bn (Nat.le_refl _)
   replace hk:=hk.below bn (Nat.le_refl _)
   replace bw:=belowT bw bn
   clear bn
   generalize w4.alloc (.cells [.slice y'.d.za y'.d.zn y'.d.zc,.slice y'.d.ka y'.d.kn y'.d.kc,.int .i64 y'.d.b.h,.int .i64 y'.d.b.t,.slice y'.a y'.n y'.c].toArray 33)=w5 at *
   generalize w4.heap.size=B at *
   cases h5:e5 !=0
   ·rw [if_neg (by simpa using h5)] at HC
    obtain ⟨c0,c1,c2,c3,c4,c5,c6,c7,c8,c9⟩:=x0.ten
    have d0:=xH.cell 0 _ rfl
    have d1:=xH.cell 1 _ rfl
    have d2:=xH.cell 2 _ rfl
    have d3:=xH.cell 3 _ rfl
    have d4:=xH.cell 4 _ rfl
    go_wp2_with fail
    refine (HS.out y' _ hh hk).mono ?_
    rintro e w6 ⟨rfl,hb⟩
    rw [hp,sameH_comm]
    generalize sameH rp.1 x.h.p=sh at *
    cases sh
    ·go_wp2
     go_ret
     exact ⟨ret_int (by rw [HC.out];rfl),belowT bw hb⟩
    ·go_wp2
     go_ret
     exact ⟨ret_int (by rw [HC.out];rfl),belowT bw hb⟩
   ·rw [if_pos (by simpa using h5)] at HC
    go_wp2
    go_ret
    exact ⟨ret_int (by rw [HC.out]),bw⟩
  ·rw [hu] at HC c7
   rw [if_pos rfl] at HC
   by_cases hm:x.d.m=0
   ·rw [if_neg (fun c=>c.2 (hwl.1 hm))] at HC
    rw [hm] at c6
    go_wp2_with fail
    refine (HP.out la ln lc X _ hE.shp hX).mono ?_
    rintro e w4 ⟨⟨y',rfl,hk,-,hp⟩,hb⟩
    replace x0:=x0.below hb
    replace hh:=hh.below hb (Nat.le_refl _)
    replace bw:=belowT bw hb
    rw [hXp] at hp ⊢
    generalize replayH rk.2.1=rp at *
    generalize rp.2=e5 at *
    dsimp only [HV.v]
    clear hb HP c0 c1 c2 c3 c4 c5 c6 c7 c8 c9
    go_upto_region 9 with fail
    have bn:=belowA (Below.refl _ w4) (.cells [.slice y'.d.za y'.d.zn y'.d.zc,.slice y'.d.ka y'.d.kn y'.d.kc,.int .i64 y'.d.b.h,.int .i64 y'.d.b.t,.slice y'.a y'.n y'.c].toArray 33)
    have xH:=Lay.made w4 [.slice y'.d.za y'.d.zn y'.d.zc,.slice y'.d.ka y'.d.kn y'.d.kc,.int .i64 y'.d.b.h,.int .i64 y'.d.b.t,.slice y'.a y'.n y'.c] 33
    replace x0:=x0.below bn
    replace hh:=hh.below bn (Nat.le_refl _)
    replace hk:=hk.below bn (Nat.le_refl _)
    replace bw:=belowT bw bn
    clear bn
    generalize w4.alloc (.cells [.slice y'.d.za y'.d.zn y'.d.zc,.slice y'.d.ka y'.d.kn y'.d.kc,.int .i64 y'.d.b.h,.int .i64 y'.d.b.t,.slice y'.a y'.n y'.c].toArray 33)=w5 at *
    generalize w4.heap.size=B at *
    cases h5:e5 !=0
    ·rw [if_neg (by simpa using h5)] at HC
     obtain ⟨c0,c1,c2,c3,c4,c5,c6,c7,c8,c9⟩:=x0.ten
     have d0:=xH.cell 0 _ rfl
     have d1:=xH.cell 1 _ rfl
     have d2:=xH.cell 2 _ rfl
     have d3:=xH.cell 3 _ rfl
     have d4:=xH.cell 4 _ rfl
     go_wp2_with fail
     refine (HS.out y' _ hh hk).mono ?_
     rintro e w6 ⟨rfl,hb⟩
     rw [hp,sameH_comm]
     generalize sameH rp.1 x.h.p=sh at *
     cases sh
     ·go_wp2
      go_ret
      exact ⟨ret_int (by rw [HC.out];rfl),belowT bw hb⟩
     ·go_wp2
      go_ret
      exact ⟨ret_int (by rw [HC.out];rfl),belowT bw hb⟩
    ·rw [if_pos (by simpa using h5)] at HC
     go_wp2
     go_ret
     exact ⟨ret_int (by rw [HC.out]),bw⟩
   ·rw [if_pos ⟨rfl,fun c=>hm (hwl.2 c)⟩] at HC
    have hm':(0:Int) < (x.d.m:Int):=by omega
    go_wp2
    go_ret
    exact ⟨ret_int (by rw [HC.out]),bw⟩
 ·rw [if_pos (by simpa using h0)] at HC
  go_wp2
  go_ret
  exact ⟨ret_int (by rw [HC.out]),bw⟩
theorem WCheck_c (x:WV) (w:World) (hE:Env w) (hx:x.ok w) (hs:x.sm):Calls Tryz.prog 33 #[x.v] w fun e w'=>e=.returned (.int .i64 (checkW x.p))∧Below w.heap.size w w':=by
 have H1:=hide (fun w' hE h=>firstMs_c x.ma x.mn x.mc x.M w' hE h (fun y hy w'' hE' h'=>checkMail_c y w'' hE' h'))
 have H2:=hide (fun w' hE h=>checkHall_c x w' hE h hs)
 have H3:=hide (fun w' hE h=>firstNs_c x.na x.nn x.nc x.N w' hE h (fun y hy w'' hE' h'=>JCheck_c y w'' hE'.shp h'))
 have HC:Hid (checkW x.p=if x.nn≠3 then 4 else if 30 < x.mn then 2 else if firstM (x.M.map MV.p)≠0 then firstM (x.M.map MV.p) else if checkHallW x.p≠0 then checkHallW x.p else firstN (x.N.map NV.p)):=hide (by
  have e1:x.p.n.length=x.nn:=by rw [show x.p.n=x.N.map NV.p from rfl,List.length_map];exact hx.n.len
  have e2:x.p.m.length=x.mn:=by rw [show x.p.m=x.M.map MV.p from rfl,List.length_map];exact hx.m.len
  rw [checkW_eq,e1,e2]
  rfl)
 generalize checkW x.p=r at *
 generalize checkHallW x.p=ch at *
 generalize firstM _=fm at *
 generalize firstN _=fn at *
 have hn1:=hx.n.max
 have hn2:=hx.n.le
 have hm1:=hx.m.max
 have hm2:=hx.m.le
 have x0:=Lay.made w x.cells 40
 have bw:=belowA (Below.refl _ w) (.cells x.cells.toArray 40)
 replace hx:=hx.below bw (Nat.le_refl _)
 replace hE:=hE.below bw
 by_cases h1:x.nn=3
 ·rw [if_neg (by omega)] at HC
  have h1':((x.nn:Int) !=3)=false:=by simp [h1]
  replace h1:=hide h1
  by_cases h2:30 < x.mn
  ·rw [if_pos h2] at HC
   have h2':(30:Int) < (x.mn:Int):=by omega
   go_enter Tryz.func33,Tryz.ntmps33
   go_wp2
   go_ret
   exact ⟨ret_int (by rw [HC.out]),bw⟩
  ·rw [if_neg h2] at HC
   have h2':¬ (30:Int) < (x.mn:Int):=by omega
   go_enter Tryz.func33,Tryz.ntmps33
   go_wp2_with fail
   generalize w.alloc (.cells x.cells.toArray 40)=w1 at *
   refine (H1.out _ hE hx.m).mono ?_
   rintro e w2 ⟨rfl,hb⟩
   replace x0:=x0.below hb
   replace hx:=hx.below hb (Nat.le_refl _)
   replace hE:=hE.below hb
   replace bw:=belowT bw hb
   clear hb H1
   obtain ⟨c0,c1,c2,c3,c4,c5,c6,c7,c8,c9⟩:=x0.ten
   cases h3:fm !=0
   ·rw [if_neg (by simpa using h3)] at HC
    dsimp only [WV.v] at H2
    go_wp2_with fail
    refine (H2.out _ hE hx).mono ?_
    rintro e w3 ⟨rfl,hb⟩
    replace x0:=x0.below hb
    replace hx:=hx.below hb (Nat.le_refl _)
    replace hE:=hE.below hb
    replace bw:=belowT bw hb
    clear hb H2 c0 c1 c2 c3 c4 c5 c6 c7 c8 c9
    obtain ⟨c0,c1,c2,c3,c4,c5,c6,c7,c8,c9⟩:=x0.ten
    cases h4:ch !=0
    ·rw [if_neg (by simpa using h4)] at HC
     go_wp2_with fail
     refine (H3.out _ hE hx.n).mono ?_
     rintro e w4 ⟨rfl,hb⟩
     go_wp2
     go_ret
     exact ⟨ret_int (by rw [HC.out]),belowT bw hb⟩
    ·rw [if_pos (by simpa using h4)] at HC
     go_wp2
     go_ret
     exact ⟨ret_int (by rw [HC.out]),bw⟩
   ·rw [if_pos (by simpa using h3)] at HC
    go_wp2
    go_ret
    exact ⟨ret_int (by rw [HC.out]),bw⟩
 ·rw [if_pos h1] at HC
  have h1':((x.nn:Int) !=3)=true:=by simp;omega
  go_enter Tryz.func33,Tryz.ntmps33
  go_wp2
  go_ret
  exact ⟨ret_int (by rw [HC.out]),bw⟩
end Go.Proofs.YtabafikicbkkdaaGreatDoor
namespace Go.Proofs.YtabafikicbkkdaaGreatDoor
open Go.RowKit
set_option linter.unusedVariables false
set_option maxHeartbeats 8000000
set_option maxRecDepth 100000
set_option linter.unusedSimpArgs false
theorem crash_c (b B g:Nat) (x:WV) (w:World) (o:OwnW w b B g x) :
  Calls Tryz.prog 95 #[.pointer (some ⟨B,0,none⟩)] w fun e w'=>WAct b B g (if x.u=false then (zeroW,6) else ({x.p with h:=freshH,u:=false},0)) e w'∧Below b w w':=by
 have hbB:=o.le.1
 have hbs:b≤w.heap.size:=by have:=o.lay.lt;omega
 obtain ⟨c0,c1,c2,c3,c4,c5,c6,c7,c8,c9⟩:=o.lay.ten
 cases hu:x.u
 ·rw [hu] at c7
  go_enter Tryz.func95,Tryz.ntmps95
  go_wp2
  go_ret
  exact ⟨⟨rfl,fun e=>absurd e (by decide)⟩,Below.refl _ _⟩
 ·rw [hu] at c7
  go_enter Tryz.func95,Tryz.ntmps95
  go_wp2_with fail
  refine (HNew_c _).mono ?_
  rintro e w2 ⟨⟨h,rfl,hk,hn,hp⟩,hb⟩
  have hlt:=fun k (q:x.ours b B g k)=>o.lt q
  replace o:=o.below hb
  have hs:=hb.size
  have bw:=hb.mono hbs
  clear hb c0 c1 c2 c3 c4 c5 c6 c7 c8 c9
  obtain ⟨c0,c1,c2,c3,c4,c5,c6,c7,c8,c9⟩:=o.lay.ten
  have ice:=o.lay.ice
  dsimp only [HV.v]
  have o1:=o.box (vs:=h.cells) (i:=0) (y:={x with h:=h}) rfl ⟨rfl,rfl,rfl,rfl⟩ ⟨rfl,rfl,rfl,rfl⟩ hk o.d (fun k q=>⟨hn k (hlt k q),(o.far k q).d⟩)
  have o2:=o1.box (vs:=[.bool false]) (i:=7) (y:={x with h:=h,u:=false}) rfl ⟨rfl,rfl,rfl,rfl⟩ ⟨rfl,rfl,rfl,rfl⟩ o1.h o1.d (fun k q=>⟨(o1.far k q).h,(o1.far k q).d⟩)
  have b1:=(putAll_but B h.cells w2 0).below hbB
  have b2:=b1.trans ((putAll_but B [.bool false] _ 7).below hbB)
  dsimp only [putAll,Nat.reduceAdd,HV.cells] at o2 b2
  go_wp2
  go_ret
  exact ⟨⟨rfl,fun _=>⟨_,o2,by simp [WV.p,hp]⟩⟩,bw.trans b2⟩
end Go.Proofs.YtabafikicbkkdaaGreatDoor
namespace Go.Proofs.YtabafikicbkkdaaGreatDoor
open Go.RowKit
set_option linter.unusedVariables false
set_option maxHeartbeats 8000000
set_option maxRecDepth 100000
set_option linter.unusedSimpArgs false
theorem boot_c (b B g:Nat) (x:WV) (w:World) (hE:Env w) (o:OwnW w b B g x) (hc:checkK x.d.p=0) (hs1:x.d.n≤140737488355328) (hs2:x.d.m≤140737488355328) :
  Calls Tryz.prog 96 #[.pointer (some ⟨B,0,none⟩)] w fun e w'=>WAct b B g (if x.u then (zeroW,6) else if (replayH (recK x.d.p).2.1).2≠0 then (zeroW,(replayH (recK x.d.p).2.1).2) else ({x.p with h:=(replayH (recK x.d.p).2.1).1,d:=(recK x.d.p).1,u:=true},0)) e w'∧Below b w w':=by
 have HR:=hide (fun w' hE h=>Recover_c x.d w' hE h hs1 hs2)
 have HP:=hide (fun a n c X w' hS h=>Replay_c a n c X w' hS h)
 obtain ⟨cw,hcw⟩:∃ cw,cw=(if x.u then (zeroW,6) else if (replayH (recK x.d.p).2.1).2≠0 then (zeroW,(replayH (recK x.d.p).2.1).2) else ({x.p with h:=(replayH (recK x.d.p).2.1).1,d:=(recK x.d.p).1,u:=true},0)):=⟨_,rfl⟩
 rw [← hcw]
 have HC:=hide hcw
 clear hcw
 have hbB:=o.le.1
 have hbs:b≤w.heap.size:=by have:=o.lay.lt;omega
 have hd:=o.d
 have hlt:=fun k (q:x.ours b B g k)=>o.lt q
 obtain ⟨c0,c1,c2,c3,c4,c5,c6,c7,c8,c9⟩:=o.lay.ten
 generalize hr:recK x.d.p=rk at *
 clear hc hs1 hs2
 cases hu:x.u
 ·rw [hu] at c7 HC
  rw [if_neg (by simp)] at HC
  dsimp only [KV.v] at HR
  go_enter Tryz.func96,Tryz.ntmps96
  go_wp2_with fail
  refine (HR.out _ hE hd).mono ?_
  rintro e w2 ⟨⟨y,la,ln,lc,X,rfl,hyp,hy,hyf,hX,-,hXp⟩,hb⟩
  have sz1:=hb.size
  replace o:=o.below hb
  replace hE:=hE.below hb
  have bw:=hb.mono hbs
  clear hb c0 c1 c2 c3 c4 c5 c6 c7 c8 c9 HR hd
  dsimp only [KV.v]
  go_upto_region 4 with fail
  have bn:=belowA (Below.refl _ w2) (.cells [.slice y.a y.n y.c,.slice y.b y.m y.d].toArray 36)
  have xd:=Lay.made w2 [.slice y.a y.n y.c,.slice y.b y.m y.d] 36
  replace o:=o.below bn
  replace hE:=hE.below bn
  replace hX:=hX.below bn (Nat.le_refl _)
  replace hy:=hy.belowB bn (Nat.le_refl _)
  replace bw:=bw.trans (bn.mono (by omega))
  have sz2:=bn.size
  clear bn
  generalize w2.alloc (.cells [.slice y.a y.n y.c,.slice y.b y.m y.d].toArray 36)=w3 at *
  generalize w2.heap.size=D at *
  go_wp2_with fail
  refine (HP.out la ln lc X _ hE.shp hX).mono ?_
  rintro e w4 ⟨⟨h,rfl,hk,hn,hp⟩,hb⟩
  rw [hXp] at hp ⊢
  generalize replayH rk.2.1=rp at *
  have sz3:=hb.size
  replace o:=o.below hb
  replace hy:=hy.belowB hb (Nat.le_refl _)
  replace xd:=xd.below hb
  replace bw:=bw.trans (hb.mono (by omega))
  clear hb HP hX hE
  dsimp only [HV.v]
  go_upto_region 5 with fail
  have bn:=belowA (Below.refl _ w4) (.cells [.slice h.d.za h.d.zn h.d.zc,.slice h.d.ka h.d.kn h.d.kc,.int .i64 h.d.b.h,.int .i64 h.d.b.t,.slice h.a h.n h.c].toArray 33)
  have xh:=Lay.made w4 [.slice h.d.za h.d.zn h.d.zc,.slice h.d.ka h.d.kn h.d.kc,.int .i64 h.d.b.h,.int .i64 h.d.b.t,.slice h.a h.n h.c] 33
  replace o:=o.below bn
  replace hy:=hy.belowB bn (Nat.le_refl _)
  replace xd:=xd.below bn
  replace hk:=hk.below bn (Nat.le_refl _)
  replace bw:=bw.trans (bn.mono (by omega))
  clear bn
  generalize w4.alloc (.cells [.slice h.d.za h.d.zn h.d.zc,.slice h.d.ka h.d.kn h.d.kc,.int .i64 h.d.b.h,.int .i64 h.d.b.t,.slice h.a h.n h.c].toArray 33)=w5 at *
  generalize w4.heap.size=H at *
  have hBw:B < w.heap.size:=hlt B (.inr (.inl rfl))
  cases h0:rp.2 !=0
  ·have h0':¬ (rp.2≠0):=by simpa using h0
   have d0:=xh.cell 0 _ rfl
   have d1:=xh.cell 1 _ rfl
   have d2:=xh.cell 2 _ rfl
   have d3:=xh.cell 3 _ rfl
   have d4:=xh.cell 4 _ rfl
   have e0:=xd.cell 0 _ rfl
   have e1:=xd.cell 1 _ rfl
   obtain ⟨c0,c1,c2,c3,c4,c5,c6,c7,c8,c9⟩:=o.lay.ten
   have ice:=o.lay.ice
   have o1:=o.box (vs:=h.cells) (i:=0) (y:={x with h:=h}) rfl ⟨rfl,rfl,rfl,rfl⟩ ⟨rfl,rfl,rfl,rfl⟩ hk o.d (fun k q=>⟨hn k (by have:=hlt k q;omega),(o.far k q).d⟩)
   have b1:=(putAll_but B h.cells w5 0)
   have o2:=o1.box (vs:=y.cells) (i:=5) (y:={x with h:=h,d:=y}) rfl ⟨rfl,rfl,rfl,rfl⟩ ⟨rfl,rfl,rfl,rfl⟩ o1.h (hy.butO b1.but (hyf.off (by omega))) (fun k q=>⟨(o1.far k q).h,hyf.off (hlt k q)⟩)
   have b2:=(putAll_but B y.cells (putAll w5 B 0 h.cells) 5)
   have o3:=o2.box (vs:=[.bool true]) (i:=7) (y:={x with h:=h,d:=y,u:=true}) rfl ⟨rfl,rfl,rfl,rfl⟩ ⟨rfl,rfl,rfl,rfl⟩ o2.h o2.d (fun k q=>⟨(o2.far k q).h,(o2.far k q).d⟩)
   have b3:=(putAll_but B [.bool true] (putAll (putAll w5 B 0 h.cells) B 5 y.cells) 7)
   have b4:=bw.trans ((b1.below hbB).trans ((b2.below hbB).trans (b3.below hbB)))
   replace o3:=o3.below (Below.refl _ _).drew
   replace b4:=b4.drew
   dsimp only [putAll,Nat.reduceAdd,HV.cells,KV.cells] at o3 b4
   have O:=hide o3
   have B4:=hide b4
   have n1:B≠D:=by omega
   have n2:D≠B:=by omega
   have n3:B≠H:=by omega
   have n4:H≠B:=by omega
   clear o o1 o2 o3 b1 b2 b3 b4 xd xh bw
   go_upto_region 7 with fail
   go_region_held3 (fun w'=>w'.cell? ⟨H,0,none⟩=some (.slice h.d.za h.d.zn h.d.zc)∧w'.cell? ⟨H,1,none⟩=some (.slice h.d.ka h.d.kn h.d.kc)∧w'.cell? ⟨H,2,none⟩=some (.int .i64 h.d.b.h)∧w'.cell? ⟨H,3,none⟩=some (.int .i64 h.d.b.t)∧w'.cell? ⟨H,4,none⟩=some (.slice h.a h.n h.c)∧w'.cell? ⟨D,0,none⟩=some (.slice y.a y.n y.c)∧w'.cell? ⟨D,1,none⟩=some (.slice y.b y.m y.d)) ((first|(go_simp;done)|(simp [*,World.cell?_alloc_at,World.cell?_alloc_past,World.cell?_alloc_some,World.cell?_setCell_far];done))) (fail)
   go_wp2
   go_ret
   rw [if_neg h0'] at HC
   exact ⟨⟨by rw [HC.out];rfl,fun _=>⟨_,O.out,by rw [HC.out];simp [WV.p,hp,hyp]⟩⟩,B4.out⟩
  ·go_wp2
   go_ret
   rw [if_pos (by simpa using h0)] at HC
   exact ⟨⟨by rw [HC.out];rfl,fun e=>absurd (by rw [HC.out] at e;exact e) (by simpa using h0)⟩,bw⟩
 ·rw [hu] at c7 HC
  rw [if_pos rfl] at HC
  go_enter Tryz.func96,Tryz.ntmps96
  go_wp2
  go_ret
  exact ⟨⟨by rw [HC.out];rfl,fun e=>by rw [HC.out] at e;exact absurd e (by decide)⟩,Below.refl _ _⟩
end Go.Proofs.YtabafikicbkkdaaGreatDoor
namespace Go.Proofs.YtabafikicbkkdaaGreatDoor
open Go.RowKit
set_option linter.unusedVariables false
set_option maxHeartbeats 8000000
set_option maxRecDepth 100000
set_option linter.unusedSimpArgs false
theorem happen_c (b B g:Nat) (x:WV) (v:XV) (w:World) (hE:Env w) (HEB:∀ w',Below b w w'→Env w') (o:OwnW w b B g x) (hv:v.ok w) (hr:checkW x.p=0) :
  Calls Tryz.prog 68 #[.pointer (some ⟨B,0,none⟩),v.v] w fun e w'=>WAct b B g (happenW x.p v.p) e w'∧Below b w w':=by
 have hBl0:=o.lay.lt
 have hck:=(checkW_ok hr).2.2.2.1
 have hsm:=check_small hck
 have hs1:x.d.n≤140737488355328:=by have:=Byts.len o.d.s;have e:x.p.d.s=x.d.p.s:=rfl;rw [e] at hsm;omega
 have hs2:x.d.m≤140737488355328:=by have:=Byts.len o.d.w;have e:x.p.d.w=x.d.p.w:=rfl;rw [e] at hsm;omega
 have xv:=Lay.made w v.cells 75
 have bw:=belowA (Below.refl _ w) (.cells v.cells.toArray 75)
 have hbB:=o.le.1
 have hbs:b≤w.heap.size:=by omega
 have HA:=hide (fun w' hE h h' hk=>ask_c b B g x v w' hE h h' hr hk)
 have HCR:=hide (fun w' hE h hy hB=>carry_c b B g x v w' hE h hr hy hB)
 have HX:=hide (fun w' h=>crash_c b B g x w' h)
 have HB:=hide (fun w' hE h=>boot_c b B g x w' hE h hck hs1 hs2)
 replace o:=o.below bw
 replace hE:=hE.below bw
 replace hv:=Ints.below hv bw (Nat.le_refl _)
 have HEB1:=hide (fun w' (h:Below b (w.alloc (.cells v.cells.toArray 75)) w')=>HEB w' ((bw.mono hbs).trans h))
 have e0:v.p.k=v.k:=rfl
 have HC:Hid (happenW x.p v.p=if v.k=3∨v.k=4∨v.k=5 then carryW x.p v.p
  else if v.k=6 then (if x.u=false then (zeroW,6) else ({x.p with h:=freshH,u:=false},0))
  else if v.k=7 then (if x.u then (zeroW,6) else if (replayH (recK x.d.p).2.1).2≠0 then (zeroW,(replayH (recK x.d.p).2.1).2) else ({x.p with h:=(replayH (recK x.d.p).2.1).1,d:=(recK x.d.p).1,u:=true},0))
  else if v.k=1∨v.k=2 then askW x.p v.p else (zeroW,4)):=hide (by
  unfold happenW carryW askW
  rw [e0]
  by_cases h1:v.k=3∨v.k=4∨v.k=5
  ·rw [if_pos h1,if_pos h1]
   split
   ·rfl
   ·cases x.p.m[v.p.n.toNat]?<;>rfl
  ·rw [if_neg h1,if_neg h1]
   by_cases h2:v.k=6
   ·rw [if_pos h2,if_pos h2];rfl
   ·rw [if_neg h2,if_neg h2]
    by_cases h3:v.k=7
    ·rw [if_pos h3,if_pos h3];rfl
    ·rw [if_neg h3,if_neg h3]
     by_cases h4:v.k=1
     ·rw [if_pos h4,if_pos (show v.k=1∨v.k=2 from .inl h4)]
      by_cases hi:inB v.p.w 0 2=false
      ·rw [if_pos hi,if_pos hi]
      ·rw [if_neg hi,if_neg hi,if_pos h4]
     ·rw [if_neg h4]
      by_cases h5:v.k=2
      ·rw [if_pos h5,if_pos (show v.k=1∨v.k=2 from .inr h5)]
       by_cases hi:inB v.p.w 0 2=false
       ·rw [if_pos hi,if_pos hi]
       ·rw [if_neg hi,if_neg hi,if_neg h4]
      ·rw [if_neg h5,if_neg (by omega)])
 generalize happenW x.p v.p=cw at *
 generalize carryW x.p v.p=c1 at *
 generalize askW x.p v.p=c2 at *
 generalize (if x.u=false then (zeroW,6) else ({x.p with h:=freshH,u:=false},0):PW×Int)=c3 at *
 generalize (if x.u then (zeroW,6) else if (replayH (recK x.d.p).2.1).2≠0 then (zeroW,(replayH (recK x.d.p).2.1).2) else ({x.p with h:=(replayH (recK x.d.p).2.1).1,d:=(recK x.d.p).1,u:=true},0):PW×Int)=c4 at *
 have y0:=xv.cell 0 _ rfl
 have y1:=xv.cell 1 _ rfl
 have y2:=xv.cell 2 _ rfl
 have y3:=xv.cell 3 _ rfl
 have y4:=xv.cell 4 _ rfl
 have y5:=xv.cell 5 _ rfl
 have y6:=xv.cell 6 _ rfl
 have y7:=xv.cell 7 _ rfl
 dsimp only [XV.v,XV.cells] at *
 clear e0 hs1 hs2 hsm hck HEB xv
 by_cases hk:v.k=1
 ·rw [if_neg (by omega),if_neg (by omega),if_neg (by omega),if_pos (by omega)] at HC
  have k1:(v.k==1)=true:=by rw [hk];rfl
  have k2:(v.k==2)=false:=by rw [hk];rfl
  have k3:(v.k==3)=false:=by rw [hk];rfl
  have k4:(v.k==4)=false:=by rw [hk];rfl
  have k5:(v.k==5)=false:=by rw [hk];rfl
  have k6:(v.k==6)=false:=by rw [hk];rfl
  have k7:(v.k==7)=false:=by rw [hk];rfl
  have HK:=hide hk
  clear hk
  go_enter Tryz.func68,Tryz.ntmps68
  go_wp2_with fail
  refine (HA.out _ hE o hv (by have:=HK.out;omega)).mono ?_
  rintro e w2 ⟨⟨rfl,hx⟩,hb⟩
  go_wp2
  go_ret
  exact ⟨⟨by rw [HC.out];rfl,by rw [HC.out];exact hx⟩,(bw.mono hbs).trans hb⟩
 by_cases hk:v.k=2
 ·rw [if_neg (by omega),if_neg (by omega),if_neg (by omega),if_pos (by omega)] at HC
  have k1:(v.k==1)=false:=by rw [hk];rfl
  have k2:(v.k==2)=true:=by rw [hk];rfl
  have k3:(v.k==3)=false:=by rw [hk];rfl
  have k4:(v.k==4)=false:=by rw [hk];rfl
  have k5:(v.k==5)=false:=by rw [hk];rfl
  have k6:(v.k==6)=false:=by rw [hk];rfl
  have k7:(v.k==7)=false:=by rw [hk];rfl
  have HK:=hide hk
  clear hk
  go_enter Tryz.func68,Tryz.ntmps68
  go_wp2_with fail
  refine (HA.out _ hE o hv (by have:=HK.out;omega)).mono ?_
  rintro e w2 ⟨⟨rfl,hx⟩,hb⟩
  go_wp2
  go_ret
  exact ⟨⟨by rw [HC.out];rfl,by rw [HC.out];exact hx⟩,(bw.mono hbs).trans hb⟩
 by_cases hk:v.k=3
 ·rw [if_pos (by omega)] at HC
  have k1:(v.k==1)=false:=by rw [hk];rfl
  have k2:(v.k==2)=false:=by rw [hk];rfl
  have k3:(v.k==3)=true:=by rw [hk];rfl
  have k4:(v.k==4)=false:=by rw [hk];rfl
  have k5:(v.k==5)=false:=by rw [hk];rfl
  have k6:(v.k==6)=false:=by rw [hk];rfl
  have k7:(v.k==7)=false:=by rw [hk];rfl
  have HK:=hide hk
  clear hk
  go_enter Tryz.func68,Tryz.ntmps68
  go_wp2_with fail
  refine (HCR.out _ hE o (by have:=HK.out;omega) HEB1.out).mono ?_
  rintro e w2 ⟨⟨rfl,hx⟩,hb⟩
  go_wp2
  go_ret
  exact ⟨⟨by rw [HC.out];rfl,by rw [HC.out];exact hx⟩,(bw.mono hbs).trans hb⟩
 by_cases hk:v.k=4
 ·rw [if_pos (by omega)] at HC
  have k1:(v.k==1)=false:=by rw [hk];rfl
  have k2:(v.k==2)=false:=by rw [hk];rfl
  have k3:(v.k==3)=false:=by rw [hk];rfl
  have k4:(v.k==4)=true:=by rw [hk];rfl
  have k5:(v.k==5)=false:=by rw [hk];rfl
  have k6:(v.k==6)=false:=by rw [hk];rfl
  have k7:(v.k==7)=false:=by rw [hk];rfl
  have HK:=hide hk
  clear hk
  go_enter Tryz.func68,Tryz.ntmps68
  go_wp2_with fail
  refine (HCR.out _ hE o (by have:=HK.out;omega) HEB1.out).mono ?_
  rintro e w2 ⟨⟨rfl,hx⟩,hb⟩
  go_wp2
  go_ret
  exact ⟨⟨by rw [HC.out];rfl,by rw [HC.out];exact hx⟩,(bw.mono hbs).trans hb⟩
 by_cases hk:v.k=5
 ·rw [if_pos (by omega)] at HC
  have k1:(v.k==1)=false:=by rw [hk];rfl
  have k2:(v.k==2)=false:=by rw [hk];rfl
  have k3:(v.k==3)=false:=by rw [hk];rfl
  have k4:(v.k==4)=false:=by rw [hk];rfl
  have k5:(v.k==5)=true:=by rw [hk];rfl
  have k6:(v.k==6)=false:=by rw [hk];rfl
  have k7:(v.k==7)=false:=by rw [hk];rfl
  have HK:=hide hk
  clear hk
  go_enter Tryz.func68,Tryz.ntmps68
  go_wp2_with fail
  refine (HCR.out _ hE o (by have:=HK.out;omega) HEB1.out).mono ?_
  rintro e w2 ⟨⟨rfl,hx⟩,hb⟩
  go_wp2
  go_ret
  exact ⟨⟨by rw [HC.out];rfl,by rw [HC.out];exact hx⟩,(bw.mono hbs).trans hb⟩
 by_cases hk:v.k=6
 ·rw [if_neg (by omega),if_pos hk] at HC
  have k1:(v.k==1)=false:=by rw [hk];rfl
  have k2:(v.k==2)=false:=by rw [hk];rfl
  have k3:(v.k==3)=false:=by rw [hk];rfl
  have k4:(v.k==4)=false:=by rw [hk];rfl
  have k5:(v.k==5)=false:=by rw [hk];rfl
  have k6:(v.k==6)=true:=by rw [hk];rfl
  have k7:(v.k==7)=false:=by rw [hk];rfl
  have HK:=hide hk
  clear hk
  go_enter Tryz.func68,Tryz.ntmps68
  go_wp2_with fail
  refine (HX.out _ o).mono ?_
  rintro e w2 ⟨⟨rfl,hx⟩,hb⟩
  go_wp2
  go_ret
  exact ⟨⟨by rw [HC.out];rfl,by rw [HC.out];exact hx⟩,(bw.mono hbs).trans hb⟩
 by_cases hk:v.k=7
 ·rw [if_neg (by omega),if_neg (by omega),if_pos hk] at HC
  have k1:(v.k==1)=false:=by rw [hk];rfl
  have k2:(v.k==2)=false:=by rw [hk];rfl
  have k3:(v.k==3)=false:=by rw [hk];rfl
  have k4:(v.k==4)=false:=by rw [hk];rfl
  have k5:(v.k==5)=false:=by rw [hk];rfl
  have k6:(v.k==6)=false:=by rw [hk];rfl
  have k7:(v.k==7)=true:=by rw [hk];rfl
  have HK:=hide hk
  clear hk
  go_enter Tryz.func68,Tryz.ntmps68
  go_wp2_with fail
  refine (HB.out _ hE o).mono ?_
  rintro e w2 ⟨⟨rfl,hx⟩,hb⟩
  go_wp2
  go_ret
  exact ⟨⟨by rw [HC.out];rfl,by rw [HC.out];exact hx⟩,(bw.mono hbs).trans hb⟩
 rw [if_neg (by omega),if_neg (by omega),if_neg (by omega),if_neg (by omega)] at HC
 have k1:(v.k==1)=false:=by simp;omega
 have k2:(v.k==2)=false:=by simp;omega
 have k3:(v.k==3)=false:=by simp;omega
 have k4:(v.k==4)=false:=by simp;omega
 have k5:(v.k==5)=false:=by simp;omega
 have k6:(v.k==6)=false:=by simp;omega
 have k7:(v.k==7)=false:=by simp;omega
 go_enter Tryz.func68,Tryz.ntmps68
 go_wp2
 go_ret
 exact ⟨⟨by rw [HC.out];rfl,fun e=>by rw [HC.out] at e;exact absurd e (by decide)⟩,bw.mono hbs⟩
theorem small_of {x:WV} {w:World} (hx:x.ok w) (hr:checkW x.p=0):Small x:=by
 obtain ⟨r1,r2,r3,r4,r5,r6,r7⟩:=checkW_ok hr
 have hsm:=check_small r4
 have l1:x.p.d.s.length=x.d.n:=Byts.len hx.d.s
 have l2:x.p.d.w.length=x.d.m:=Byts.len hx.d.w
 have hH:checkH x.h.p=0:=by
  have e:(replayH (logW x.p)).1=x.h.p:=congrArg Prod.fst r6
  have e2:(replayH (logW x.p)).2=0:=congrArg Prod.snd r6
  unfold replayH at e e2
  split at e2
  ·cases e2
  ·rename_i q
   rw [if_neg q] at e
   rw [← e]
   exact (replay_right _ _ checkH_fresh e2).1
 obtain ⟨hcd,h3,hys,-⟩:=hall_right hx.h hH
 obtain ⟨s1,s2,s3⟩:=desk_small hx.h.d hcd
 have hN:x.N.length=3:=by rw [← r1];simp [WV.p]
 have hM:x.M.length≤30:=by rw [show x.p.m.length=x.M.length by simp [WV.p]] at r2;exact r2
 refine ⟨s1,s2,s3,by omega,fun y hy=>by have:=(hys y hy).2;omega,by omega,by omega,by rw [← hx.n.len];omega,fun y hy=>?_,by rw [← hx.m.len];omega,fun m hm=>?_⟩
 ·obtain ⟨q1,q2,q3⟩:=hand_small (hx.n.ok y hy) (r7 y.p (List.mem_map.2 ⟨y,hy,rfl⟩))
  exact ⟨by omega,by omega,fun a ha=>by have:=q3 a ha;omega⟩
 ·have hc:=r3 m.p (List.mem_map.2 ⟨m,hm,rfl⟩)
  obtain ⟨-,-,f3,f4⟩:=checkM_facts hc
  have lc:m.p.c.d.length=m.cn:=(hx.m.ok m hm).c.len
  have la:m.p.a.d.length=m.x.n:=(hx.m.ok m hm).x.len
  cases hb:m.p.b with
  |true=>
   obtain ⟨e1,e2⟩:=f3 hb
   have:=checkA_few e2
   rw [e1] at lc
   simp [zeroC] at lc
   omega
  |false=>
   obtain ⟨e1,e2⟩:=f4 hb
   have:=(cmd_facts e2).2.2.2.2.1
   rw [e1] at la
   simp [zeroA] at la
   omega
theorem sm_of {x:WV} {w:World} (hx:x.ok w) (hr:checkW x.p=0):x.sm:=by
 have s:=small_of hx hr
 exact ⟨by have:=s.d1;omega,by have:=s.d2;omega⟩
end Go.Proofs.YtabafikicbkkdaaGreatDoor
namespace Go.Proofs.YtabafikicbkkdaaGreatDoor
open Go.RowKit
set_option linter.unusedVariables false
set_option maxHeartbeats 8000000
set_option maxRecDepth 100000
set_option linter.unusedSimpArgs false
theorem comes_zero {x:PW} {m:PM} (h:(comesW x m).2≠0):comesW x m=(zeroW,(comesW x m).2):=by
 unfold comesW at h ⊢
 repeat' split
 all_goals first|rfl|(exfalso;simp_all;done)|simp_all
theorem happen_zero {x:PW} {e:PX} (h:(happenW x e).2≠0):happenW x e=(zeroW,(happenW x e).2):=by
 unfold happenW at h ⊢
 split
 ·rename_i h1
  rw [if_pos h1] at h
  split
  ·rfl
  ·rename_i h2
   rw [if_neg h2] at h
   split
   ·rfl
   ·rename_i m hm
    rw [hm] at h
    dsimp only at h
    split
    ·rename_i h3;rw [if_pos h3] at h;exact absurd rfl h
    ·rename_i h3
     rw [if_neg h3] at h
     split
     ·rename_i h4;rw [if_pos h4] at h;exact comes_zero h
     ·rename_i h4;rw [if_neg h4] at h;exact comes_zero h
 ·rename_i h1
  rw [if_neg h1] at h
  repeat' split
  all_goals first|rfl|(exfalso;simp_all;done)|simp_all
theorem OwnW.newR {w:World} {b B g:Nat} {x:WV} (o:OwnW w b B g x) {R:Nat} (hR:R < b):x.off R:=by
 have f:=o.far R (.inl hR)
 refine ⟨f.h,f.d,⟨.inr fun y e=>?_,f.n⟩,⟨?_,f.m⟩⟩
 ·rw [o.na.1] at e
  cases e
  have:=o.le.2.1
  show g≠R
  omega
 ·rcases Nat.eq_zero_or_pos x.mn with h0|h0
  ·exact .inl h0
  ·right
   obtain ⟨k,cap,e2,hk,-⟩:=o.m.own.form (by rw [← o.mn];exact h0)
   simp only [Value.slice.injEq] at e2
   intro y e
   rw [e2.1] at e
   cases e
   show k≠R
   omega
theorem step_c (x:WV) (v:XV) (w:World) (hE:Env w) (hx:x.ok w) (hr:checkW x.p=0) (hv:v.ok w):Calls Tryz.prog 46 #[x.v,v.v] w fun e w'=>WorldNew (happenW x.p v.p) w e w':=by
 have hS:=small_of hx hr
 have HCP:=hide (fun w' h=>pworld_c x w' h hS)
 have HZ:=hide (fun k=>happen_zero (x:=x.p) (e:=v.p) k)
 have HR:Hid ((happenW x.p v.p).2=0→checkW (happenW x.p v.p).1=0):=hide (fun k=>by
  have e:doW x.p v.p=happenW x.p v.p:=by unfold doW;rw [if_neg (by simp [hr])]
  have:=(world_keeps (x:=x.p) (e:=v.p) (by rw [e];exact k)).2.1
  rwa [e] at this)
 generalize hcw:happenW x.p v.p=cw at *
 have HCW:=hide hcw
 clear hcw hS
 have hM:x.p.m.length≤30:=(checkW_ok hr).2.1
 obtain ⟨x0,x1,x2,bw⟩:=three_boxes w x.cells v.cells [.slice none 0 0,.slice none 0 0,.int .i64 0,.int .i64 0,.slice none 0 0,.slice none 0 0,.slice none 0 0,.bool false,.slice none 0 0,.slice none 0 0] 40 75 40
 replace hx:=hx.below bw (Nat.le_refl _)
 replace hv:=Ints.below hv bw (Nat.le_refl _)
 replace hE:=hE.below bw
 dsimp only [XV.v,XV.cells] at *
 go_enter Tryz.func46,Tryz.ntmps46
 go_wp2_with fail
 generalize ((w.alloc (.cells x.cells.toArray 40)).alloc (.cells [.int .i64 v.k,.int .i64 v.w,.int .i64 v.n,.int .i64 v.c.k,.int .i64 v.c.z,.int .i64 v.c.n,.int .i64 v.c.at',.slice v.ca v.cn v.cc].toArray 75)).alloc (.cells [.slice none 0 0,.slice none 0 0,.int .i64 0,.int .i64 0,.slice none 0 0,.slice none 0 0,.slice none 0 0,.bool false,.slice none 0 0,.slice none 0 0].toArray 40)=w1 at *
 have HL2:=hide x2.lt
 refine (HCP.out _ hx).mono ?_
 rintro e w2 ⟨⟨y,g,q,rfl,cy⟩,hb⟩
 have hyp:=cy.p
 have hyM:y.M.length≤1000:=by
  have:y.p.m.length≤30:=by rw [hyp];exact hM
  rw [show y.p.m.length=y.M.length by simp [WV.p]] at this
  omega
 have s12:=hb.size
 replace x1:=x1.below hb
 replace x2:=x2.below hb
 replace hv:=hv.below hb (Nat.le_refl _)
 have HE1:=hide hE
 have b12:=hb
 clear hb HCP x0
 go_upto_region 2 with fail
 have o:=OwnW.of_copy cy hyM
 have bn:=belowA (Below.refl _ w2) (.cells y.cells.toArray 40)
 replace x1:=x1.below bn
 replace x2:=x2.below bn
 replace hv:=hv.below bn (Nat.le_refl _)
 have b13:=belowT b12 bn
 have s23:=bn.size
 clear bn b12 cy
 generalize w2.alloc (.cells y.cells.toArray 40)=w3 at *
 generalize w2.heap.size=B at *
 have y0:=x1.cell 0 _ rfl
 have y1:=x1.cell 1 _ rfl
 have y2:=x1.cell 2 _ rfl
 have y3:=x1.cell 3 _ rfl
 have y4:=x1.cell 4 _ rfl
 have y5:=x1.cell 5 _ rfl
 have y6:=x1.cell 6 _ rfl
 have y7:=x1.cell 7 _ rfl
 have HH:=hide (fun w' hE hB o hv=>happen_c w1.heap.size B g y v w' hE hB o hv (by rw [hyp];exact hr))
 rw [hyp,HCW.out] at HH
 dsimp only [XV.v] at HH
 go_wp2_with fail
 refine (HH.out _ (HE1.out.below b13) (fun w' h=>HE1.out.below (b13.trans h)) o hv).mono ?_
 rintro e w4 ⟨⟨rfl,hres⟩,hb⟩
 have hl2:w.heap.size + 1 + 1 < w1.heap.size:=by
  have:=HL2.out
  omega
 clear y0 y1 y2 y3 y4 y5 y6 y7 HH o x1 hv
 have xR:Lay w4 (w.heap.size + 1 + 1) [.slice none 0 0,.slice none 0 0,.int .i64 0,.int .i64 0,.slice none 0 0,.slice none 0 0,.slice none 0 0,.bool false,.slice none 0 0,.slice none 0 0]:=x2.hp (hb.block _ hl2) (by have:=hb.size;omega)
 have bw4:Below w.heap.size w w4:=belowT bw (b13.trans hb)
 clear hb b13 x2
 obtain ⟨e0,e1,e2,e3,e4,e5,e6,e7,e8,e9⟩:=Lay.ten (x:=WV.zero) xR
 have ice:=xR.ice
 dsimp only [WV.zero,HV.zero,DV.zero,KV.zero,zeroB] at e0 e1 e2 e3 e4 e5 e6 e7 e8 e9
 cases h0:cw.2 !=0
 ·have h00:cw.2=0:=by simpa using h0
  obtain ⟨z,oz,hzp⟩:=hres h00
  obtain ⟨f0,f1,f2,f3,f4,f5,f6,f7,f8,f9⟩:=oz.lay.ten
  have hzr:checkW z.p=0:=by rw [hzp];exact HR.out h00
  have hzN:z.N.length≤1000000:=by
   have:=(checkW_ok hzr).1
   rw [show z.p.n.length=z.N.length by simp [WV.p]] at this
   omega
  have okz:=oz.ok hzN
  have smz:=sm_of okz hzr
  have bt:=putAll_but (w.heap.size + 1 + 1) z.cells w4 0
  have okz9:=okz.but bt.but (oz.newR hl2)
  have zB:=xR.fill (vs:=z.cells) rfl
  have b9:=bw4.trans (bt.below (B:=w.heap.size) (by omega))
  have HOZ:=hide (fun R (h:R < w1.heap.size)=>oz.newR h)
  have hzz:=hzp.trans (show cw.1=cw.1 from rfl)
  dsimp only [putAll,Nat.reduceAdd] at okz9 zB b9
  have H00:=hide h00
  clear h00 oz okz bt xR bw4
  go_wp2
  obtain ⟨z0,z1,z2,z3,z4,z5,z6,z7,z8,z9⟩:=zB.ten
  exact bodyPost_ret (v:=.tuple #[z.v,.int .i64 0]) (by simp [results,Tryz.results46,go_sem,z0,z1,z2,z3,z4,z5,z6,z7,z8,z9]) rfl
   ⟨⟨z,by rw [H00.out],okz9,smz,fun R hR=>HOZ.out R (by omega),hzz⟩,b9⟩
 ·have hz:=hide (HZ.out (by simpa using h0))
  have bt:=putAll_but (w.heap.size + 1 + 1) WV.zero.cells w4 0
  have zB:=xR.fill (vs:=WV.zero.cells) rfl
  have b9:=bw4.trans (bt.below (B:=w.heap.size) (by omega))
  dsimp only [putAll,Nat.reduceAdd,WV.zero,HV.zero,DV.zero,KV.zero,zeroB] at zB b9
  clear xR bw4 bt
  go_wp2
  obtain ⟨z0,z1,z2,z3,z4,z5,z6,z7,z8,z9⟩:=Lay.ten (x:=WV.zero) zB
  dsimp only [WV.zero,HV.zero,DV.zero,KV.zero,zeroB] at z0 z1 z2 z3 z4 z5 z6 z7 z8 z9
  exact bodyPost_ret (v:=.tuple #[.agg #[.slice none 0 0,.slice none 0 0,.int .i64 0,.int .i64 0,.slice none 0 0,.slice none 0 0,.slice none 0 0,.bool false,.slice none 0 0,.slice none 0 0],.int .i64 cw.2]) (by simp [results,Tryz.results46,go_sem,z0,z1,z2,z3,z4,z5,z6,z7,z8,z9]) rfl
   ⟨⟨WV.zero,rfl,WV.zero_ok _,WV.zero_sm,WV.zero_new _,by rw [hz.out];rfl⟩,b9⟩
end Go.Proofs.YtabafikicbkkdaaGreatDoor
