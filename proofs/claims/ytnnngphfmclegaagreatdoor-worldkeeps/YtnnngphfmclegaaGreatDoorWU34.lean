/- The contracts of world.Same, Check and New; no condition but that the arguments read as data, the package-level variables are as their texts lay them, and a disk is no greater than a machine bears. -/
import Derived.Test.YtnnngphfmclegaaGreatDoorWU20
import Derived.Test.YtnnngphfmclegaaGreatDoorWU25
import Derived.Test.YtnnngphfmclegaaGreatDoorWU26
import Derived.Test.YtnnngphfmclegaaGreatDoorWU30
import Derived.Test.YtnnngphfmclegaaGreatDoorWU32
import Derived.Test.YtnnngphfmclegaaGreatDoorWU33
namespace Go.Proofs.YtnnngphfmclegaaGreatDoor
open Go.RowKit
set_option linter.unusedVariables false
set_option maxHeartbeats 8000000
set_option maxRecDepth 100000
set_option linter.unusedSimpArgs false
theorem sameMail_c (x y:MV) (w:World) (hx:x.ok w) (hy:y.ok w):Calls Tryz.prog 31 #[x.v,y.v] w fun e w'=>e=.returned (.bool (sameM x.p y.p))∧Below w.heap.size w w':=by
 have HC:=hide (fun w' h k=>cmdSame_c x.ca y.ca x.cn y.cn x.cc y.cc x.c y.c w' h k)
 have HA:=hide (fun w' h k=>psameA_c x.x y.x w' h k)
 have HS:Hid (sameM x.p y.p=((x.b==y.b)&&(x.w==y.w)&&(x.s==y.s)&&sameC x.c y.c&&sameA x.x.p y.x.p)):=hide (by
  have e:∀ a b:Int,decide (a=b)=(a==b):=fun a b=>by rw [Bool.eq_iff_iff];simp
  show ((x.b==y.b)&&decide (x.w=y.w)&&decide (x.s=y.s)&&sameC x.c y.c&&sameA x.x.p y.x.p)=_
  rw [e,e])
 generalize sameM x.p y.p=r at *
 generalize sameC x.c y.c=sc at *
 generalize sameA x.x.p y.x.p=sa at *
 obtain ⟨x0,y0,bw⟩:=two_boxes w x.cells y.cells 77 77
 replace hx:=hx.below bw (Nat.le_refl _)
 replace hy:=hy.below bw (Nat.le_refl _)
 dsimp only [MV.v,MV.cells,AV.v,cmdV] at *
 cases h1:x.b==y.b
 ·go_enter Tryz.func31,Tryz.ntmps31
  go_wp2
  go_ret
  exact ⟨ret_bool (by rw [HS.out,h1];rfl),bw⟩
 ·cases h2:x.w==y.w
  ·go_enter Tryz.func31,Tryz.ntmps31
   go_wp2
   go_ret
   exact ⟨ret_bool (by rw [HS.out,h1,h2];rfl),bw⟩
  ·cases h3:x.s==y.s
   ·go_enter Tryz.func31,Tryz.ntmps31
    go_wp2
    go_ret
    exact ⟨ret_bool (by rw [HS.out,h1,h2,h3];rfl),bw⟩
   ·go_enter Tryz.func31,Tryz.ntmps31
    go_wp2_with fail
    generalize (w.alloc (.cells [.bool x.b,.int .i64 x.w,.int .i64 x.s,.int .i64 x.c.k,.int .i64 x.c.z,.int .i64 x.c.n,.int .i64 x.c.at',.slice x.ca x.cn x.cc,.int .i64 x.x.e,.int .i64 x.x.t,.slice x.x.a x.x.n x.x.c].toArray 77)).alloc (.cells [.bool y.b,.int .i64 y.w,.int .i64 y.s,.int .i64 y.c.k,.int .i64 y.c.z,.int .i64 y.c.n,.int .i64 y.c.at',.slice y.ca y.cn y.cc,.int .i64 y.x.e,.int .i64 y.x.t,.slice y.x.a y.x.n y.x.c].toArray 77)=w1 at *
    refine (HC.out _ hx.c hy.c).mono ?_
    rintro e w2 ⟨rfl,hb⟩
    replace x0:=x0.below hb
    replace y0:=y0.below hb
    replace hx:=hx.below hb (Nat.le_refl _)
    replace hy:=hy.below hb (Nat.le_refl _)
    replace bw:=belowT bw hb
    clear hb
    have c8:=x0.cell 8 _ rfl
    have c9:=x0.cell 9 _ rfl
    have c10:=x0.cell 10 _ rfl
    have d8:=y0.cell 8 _ rfl
    have d9:=y0.cell 9 _ rfl
    have d10:=y0.cell 10 _ rfl
    cases sc
    ·go_wp2
     go_ret
     exact ⟨ret_bool (by rw [HS.out,h1,h2,h3];rfl),bw⟩
    ·go_wp2_with fail
     refine (HA.out _ hx.x hy.x).mono ?_
     rintro e w3 ⟨rfl,hb⟩
     go_wp2
     go_ret
     exact ⟨ret_bool (by rw [HS.out,h1,h2,h3];cases sa<;>rfl),belowT bw hb⟩
theorem EqMl_some (b1 o1 m1 b2 o2 m2 n:Nat) (X Y:List MV) (w:World) (h1:Rows' mailK w (some ⟨b1,o1,none⟩) n m1 X) (h2:Rows' mailK w (some ⟨b2,o2,none⟩) n m2 Y)
  (hr1:∀ i x,X[i]?=some x→∀ j v,(mailK.cs x)[j]?=some v→w.cell? ⟨b1,o1 + i * 11 + j,none⟩=some v)
  (hr2:∀ i x,Y[i]?=some x→∀ j v,(mailK.cs x)[j]?=some v→w.cell? ⟨b2,o2 + i * 11 + j,none⟩=some v) :
  Calls Tryz.prog 30 #[.slice (some ⟨b1,o1,none⟩) n m1,.slice (some ⟨b2,o2,none⟩) n m2,.func (Fn.func 31) #[] #[]] w fun e w'=>e=.returned (.bool (sameBy sameM (X.map MV.p) (Y.map MV.p)))∧Below w.heap.size w w':=by
 have hlen1:=hide h1.len
 have hlen2:=hide h2.len
 have hmax:=h1.max
 have hle:=h1.le
 go_enter Tryz.func30,Tryz.ntmps30
 go_wp2
 go_loopw [17] (fun i wr=>∃ k:Nat,k≤n∧i=.int .i64 k∧(X.take k).map MV.p=(Y.take k).map MV.p∧Below w.heap.size w wr) (fun i _=>n - (intOf i).toNat)
 case atStart=>exact ⟨0,by omega,rfl,by simp,Below.refl _ _⟩
 case round=>
  obtain ⟨k,hk,rfl,hp,hbr⟩:=hrel
  have HP:=hide hp
  clear hp
  rename_i wr
  by_cases hlt:k < n
  ·obtain ⟨x,hx⟩:∃ z,X[k]?=some z:=⟨X[k]'(by rw [hlen1.out];exact hlt),by simp⟩
   obtain ⟨y,hy⟩:∃ z,Y[k]?=some z:=⟨Y[k]'(by rw [hlen2.out];exact hlt),by simp⟩
   have ix:=mailK.below (h1.ok x (List.mem_of_getElem? hx)) hbr (Nat.le_refl _)
   have iy:=mailK.below (h2.ok y (List.mem_of_getElem? hy)) hbr (Nat.le_refl _)
   have HZ:=hide hx
   have HY:=hide hy
   have HS:=hide (fun w' h k=>sameMail_c x y w' h k)
   have HT:Hid (sameM x.p y.p=true→x.p=y.p):=hide (sameM_iff _ _).1
   have HF:Hid (sameM x.p y.p=false→x.p≠y.p):=hide (fun h e=>by rw [(sameM_iff _ _).2 e] at h;cases h)
   have kx:=hr1 k x hx
   have ky:=hr2 k y hy
   clear hx hy
   generalize hsm:sameM x.p y.p=sm at *
   clear hsm
   dsimp only [MV.v] at HS
   obtain ⟨x0,x1,x2,x3,x4,x5,x6,x7,x8,x9,x10⟩:=MV.lay (fun j v h=>keepc hbr (kx j v h))
   have ly:=fun (o:Obj)=>MV.lay (w:=wr.alloc o) (fun j v h=>past1 (keepc hbr (ky j v h)) o)
   simp only [forall_and] at ly
   obtain ⟨y0,y1,y2,y3,y4,y5,y6,y7,y8,y9,y10⟩:=ly
   clear kx ky
   have hlt':(k:Int) < (n:Int):=by omega
   go_wp2_with fail
   refine (HS.out _ (mailK.below ix (B:=wr.heap.size) (by (repeat first|exact bel0|assumption|refine bel1 ?_|refine bel2 ?_|refine bel3 ?_|refine belowT ?_ (by assumption)|refine bel5 ?_ (by simp;try omega))) (Nat.le_refl _)) (mailK.below iy (B:=wr.heap.size) (by (repeat first|exact bel0|assumption|refine bel1 ?_|refine bel2 ?_|refine bel3 ?_|refine belowT ?_ (by assumption)|refine bel5 ?_ (by simp;try omega))) (Nat.le_refl _))).mono ?_
   rintro e w9 ⟨rfl,hb9⟩
   have b9:Below w.heap.size w w9:=by (repeat first|exact bel0|assumption|refine bel1 ?_|refine bel2 ?_|refine bel3 ?_|refine belowT ?_ (by assumption)|refine bel5 ?_ (by simp;try omega))
   clear hb9
   cases sm
   ·have HNE:=hide (HF.out rfl)
    clear HF HT
    go_wp2
    go_ret
    refine ⟨ret_bool (sameBy_f sameM_iff fun e=>?_).symm,b9⟩
    have:=congrArg (fun L=>L[k]?) e
    simp only [List.getElem?_map,HZ.out,HY.out,Option.map_some,Option.some.injEq] at this
    exact HNE.out this
   ·have HEQ:=hide (HT.out rfl)
    clear HF HT
    go_wp2
    have e:=HEQ.out
    refine ⟨⟨k + 1,by omega,by go_num,?_,b9⟩,by simp [intOf];omega⟩
    obtain ⟨g1,g2⟩:=List.getElem?_eq_some_iff.1 HZ.out
    obtain ⟨g3,g4⟩:=List.getElem?_eq_some_iff.1 HY.out
    rw [List.take_succ_eq_append_getElem g1,List.take_succ_eq_append_getElem g3,List.map_append,List.map_append,HP.out,g2,g4]
    simpa using e
  ·obtain rfl:k=n:=by omega
   go_wp2
   go_ret
   have hp:=HP.out
   rw [List.take_of_length_le (by rw [hlen1.out];omega),List.take_of_length_le (by rw [hlen2.out];omega)] at hp
   exact ⟨ret_bool (sameBy_t sameM_iff hp).symm,hbr⟩
theorem EqMl_ne (a1 a2:Option Addr) (n1 n2 c1 c2:Nat) (fv:Value) (w:World) (hne:n1≠n2) (hm1:n1≤9223372036854775807) (hm2:n2≤9223372036854775807) :
  Calls Tryz.prog 30 #[.slice a1 n1 c1,.slice a2 n2 c2,fv] w fun e w'=>e=.returned (.bool false)∧w'=w:=by
 have hb:((n1:Int) !=(n2:Int))=true:=by simp;omega
 go_enter Tryz.func30,Tryz.ntmps30
 go_wp2
 go_ret
 exact ⟨rfl,rfl⟩
theorem EqMl_zero (a1 a2:Option Addr) (c1 c2:Nat) (fv:Value) (w:World) :
  Calls Tryz.prog 30 #[.slice a1 0 c1,.slice a2 0 c2,fv] w fun e w'=>e=.returned (.bool true)∧w'=w:=by
 go_enter Tryz.func30,Tryz.ntmps30
 go_wp2
 refine wp_loop_rounds 1 ?_
 rw [rounds_succ]
 go_wp2
 go_ret
 exact ⟨rfl,rfl⟩
theorem EqMl_c (a1 a2:Option Addr) (n1 n2 c1 c2:Nat) (X Y:List MV) (w:World) (h1:Rows' mailK w a1 n1 c1 X) (h2:Rows' mailK w a2 n2 c2 Y) :
  Calls Tryz.prog 30 #[.slice a1 n1 c1,.slice a2 n2 c2,.func (Fn.func 31) #[] #[]] w fun e w'=>e=.returned (.bool (sameBy sameM (X.map MV.p) (Y.map MV.p)))∧Below w.heap.size w w':=by
 by_cases hn:n1=n2
 ·subst hn
  by_cases h0:n1=0
  ·subst h0
   have e1:=h1.len
   have e2:=h2.len
   rw [List.length_eq_zero_iff] at e1 e2
   subst e1 e2
   refine (EqMl_zero a1 a2 c1 c2 _ w).mono ?_
   rintro e w' ⟨rfl,rfl⟩
   exact ⟨rfl,Below.refl _ _⟩
  ·rcases h1.row with h|⟨b1,o1,rfl,_,hr1⟩
   ·omega
   ·rcases h2.row with h|⟨b2,o2,rfl,_,hr2⟩
    ·omega
    ·exact EqMl_some b1 o1 c1 b2 o2 c2 n1 X Y w h1 h2 hr1 hr2
 ·have m1:=h1.max
  have m2:=h2.max
  have q1:=h1.le
  have q2:=h2.le
  refine (EqMl_ne a1 a2 n1 n2 c1 c2 _ w hn (by omega) (by omega)).mono ?_
  rintro e w' ⟨rfl,rfl⟩
  refine ⟨ret_bool (sameBy_f sameM_iff fun e=>hn ?_).symm,Below.refl _ _⟩
  have:=congrArg List.length e
  rw [List.length_map,List.length_map,h1.len,h2.len] at this
  exact this
theorem WSame_c (x y:WV) (w:World) (hx:x.ok w) (hy:y.ok w):Calls Tryz.prog 10 #[x.v,y.v] w fun e w'=>e=.returned (.bool (sameW x.p y.p))∧Below w.heap.size w w':=by
 have H1:=hide (fun w' h k=>HSame_c x.h y.h w' h k)
 have H2:=hide (fun w' h k=>KSame_c x.d y.d w' h k)
 have H3:=hide (fun w' h k=>EqHn_c x.na y.na x.nn y.nn x.nc y.nc x.N y.N w' h k)
 have H4:=hide (fun w' h k=>EqMl_c x.ma y.ma x.mn y.mn x.mc y.mc x.M y.M w' h k)
 have HS:Hid (sameW x.p y.p=(sameH x.h.p y.h.p&&(sameK x.d.p y.d.p&&((x.u==y.u)&&(sameBy sameN (x.N.map NV.p) (y.N.map NV.p)&&sameBy sameM (x.M.map MV.p) (y.M.map MV.p)))))):=hide (by simp only [sameW,WV.p];ac_rfl)
 generalize sameW x.p y.p=r at *
 generalize sameH x.h.p y.h.p=sh at *
 generalize sameK x.d.p y.d.p=sk at *
 generalize sameBy sameN _ _=sn at *
 generalize sameBy sameM _ _=sm at *
 obtain ⟨x0,y0,bw⟩:=two_boxes w x.cells y.cells 37 37
 replace hx:=hx.below bw (Nat.le_refl _)
 replace hy:=hy.below bw (Nat.le_refl _)
 dsimp only [HV.v,KV.v] at *
 go_enter Tryz.func10,Tryz.ntmps10
 go_wp2_with fail
 generalize (w.alloc (.cells x.cells.toArray 37)).alloc (.cells y.cells.toArray 37)=w1 at *
 refine (H1.out _ hx.h hy.h).mono ?_
 rintro e w2 ⟨rfl,hb⟩
 replace x0:=x0.below hb
 replace y0:=y0.below hb
 replace hx:=hx.below hb (Nat.le_refl _)
 replace hy:=hy.below hb (Nat.le_refl _)
 replace bw:=belowT bw hb
 clear hb H1
 obtain ⟨c0,c1,c2,c3,c4,c5,c6,c7,c8,c9⟩:=x0.ten
 obtain ⟨d0,d1,d2,d3,d4,d5,d6,d7,d8,d9⟩:=y0.ten
 cases sh
 ·go_wp2
  go_ret
  exact ⟨ret_bool (by rw [HS.out];rfl),bw⟩
 ·go_wp2_with fail
  refine (H2.out _ hx.d hy.d).mono ?_
  rintro e w3 ⟨rfl,hb⟩
  replace x0:=x0.below hb
  replace y0:=y0.below hb
  replace hx:=hx.below hb (Nat.le_refl _)
  replace hy:=hy.below hb (Nat.le_refl _)
  replace bw:=belowT bw hb
  clear hb H2 c0 c1 c2 c3 c4 c5 c6 c7 c8 c9 d0 d1 d2 d3 d4 d5 d6 d7 d8 d9
  obtain ⟨c0,c1,c2,c3,c4,c5,c6,c7,c8,c9⟩:=x0.ten
  obtain ⟨d0,d1,d2,d3,d4,d5,d6,d7,d8,d9⟩:=y0.ten
  cases sk
  ·go_wp2
   go_ret
   exact ⟨ret_bool (by rw [HS.out];rfl),bw⟩
  ·cases h1:x.u==y.u
   ·go_wp2
    go_ret
    exact ⟨ret_bool (by rw [HS.out,h1];rfl),bw⟩
   ·go_wp2_with fail
    refine (H3.out _ hx.n hy.n).mono ?_
    rintro e w4 ⟨rfl,hb⟩
    replace x0:=x0.below hb
    replace y0:=y0.below hb
    replace hx:=hx.below hb (Nat.le_refl _)
    replace hy:=hy.below hb (Nat.le_refl _)
    replace bw:=belowT bw hb
    clear hb H3 c0 c1 c2 c3 c4 c5 c6 c7 c8 c9 d0 d1 d2 d3 d4 d5 d6 d7 d8 d9
    obtain ⟨c0,c1,c2,c3,c4,c5,c6,c7,c8,c9⟩:=x0.ten
    obtain ⟨d0,d1,d2,d3,d4,d5,d6,d7,d8,d9⟩:=y0.ten
    cases sn
    ·go_wp2
     go_ret
     exact ⟨ret_bool (by rw [HS.out,h1];rfl),bw⟩
    ·go_wp2_with fail
     refine (H4.out _ hx.m hy.m).mono ?_
     rintro e w5 ⟨rfl,hb⟩
     go_wp2
     go_ret
     exact ⟨ret_bool (by rw [HS.out,h1];cases sm<;>rfl),belowT bw hb⟩
def checkHallW (x:PW):Int:=if checkK x.d≠0 then checkK x.d else if x.u=true∧x.d.w≠[] then 4 else if (replayH (logW x)).2≠0 then (replayH (logW x)).2 else if sameH (replayH (logW x)).1 x.h=false then 4 else 0
theorem checkW_eq (x:PW):checkW x=if x.n.length≠3 then 4 else if 30 < x.m.length then 2 else if firstM x.m≠0 then firstM x.m else if checkHallW x≠0 then checkHallW x else firstN x.n:=by
 unfold checkW checkHallW
 repeat' split
 all_goals first|rfl|(exfalso;simp_all;done)|simp_all
theorem recK_err (d:PK):(recK d).2.2=checkK d:=by
 by_cases h:checkK d=0
 ·obtain ⟨L,e,-⟩:=recK_facts h
  rw [e,h]
 ·rw [recK_bad h]
theorem sameH_comm (a b:PH):sameH a b=sameH b a:=by rw [Bool.eq_iff_iff,sameH_iff,sameH_iff];exact ⟨fun e=>e.symm,fun e=>e.symm⟩
theorem checkHall_c (x:WV) (w:World) (hE:Env w) (hx:x.ok w) (hs:x.sm):Calls Tryz.prog 26 #[x.v] w fun e w'=>e=.returned (.int .i64 (checkHallW x.p))∧Below w.heap.size w w':=by
 have HR:=hide (fun w' hE h=>Recover_c x.d w' hE h hs.s hs.w)
 have HP:=hide (fun a n c X w' hS h=>Replay_c a n c X w' hS h)
 have HS:=hide (fun y w' h k=>HSame_c x.h y w' h k)
 have HC:Hid (checkHallW x.p=if checkK x.d.p≠0 then checkK x.d.p else if x.u=true∧x.d.p.w≠[] then 4 else if (replayH (if x.u then (recK x.d.p).2.1 else [])).2≠0 then (replayH (if x.u then (recK x.d.p).2.1 else [])).2 else if sameH (replayH (if x.u then (recK x.d.p).2.1 else [])).1 x.h.p=false then 4 else 0):=hide rfl
 have HE:=hide (recK_err x.d.p)
 have hwl:x.d.m=0↔x.d.p.w=[]:=by rw [← List.length_eq_zero_iff,Byts.len hx.d.w]
 have x0:=Lay.made w x.cells 37
 have bw:=belowA (Below.refl _ w) (.cells x.cells.toArray 37)
 replace hx:=hx.below bw (Nat.le_refl _)
 replace hE:=hE.below bw
 obtain ⟨hh,hd,-,-⟩:=hx
 generalize hr:recK x.d.p=rk at *
 generalize checkHallW x.p=r at *
 generalize checkK x.d.p=ck at *
 dsimp only [HV.v,KV.v] at *
 go_enter Tryz.func26,Tryz.ntmps26
 go_wp2_with fail
 generalize w.alloc (.cells x.cells.toArray 37)=w1 at *
 refine (HR.out _ hE hd).mono ?_
 rintro e w2 ⟨⟨y,la,ln,lc,X,rfl,hyp,hy,hyf,hX,hXf,hXp⟩,hb⟩
 rw [HE.out]
 replace x0:=x0.below hb
 replace hh:=hh.below hb (Nat.le_refl _)
 replace hE:=hE.below hb
 replace bw:=belowT bw hb
 clear hb HR hyp hyf hXf hd hy HE
 dsimp only [KV.v]
 go_upto_region 2 with fail
 have bn:=belowA (Below.refl _ w2) (.cells [.slice y.a y.n y.c,.slice y.b y.m y.d].toArray 33)
 replace x0:=x0.below bn
 replace hh:=hh.below bn (Nat.le_refl _)
 replace hE:=hE.below bn
 replace hX:=hX.below bn (Nat.le_refl _)
 replace bw:=belowT bw bn
 clear bn
 generalize w2.alloc (.cells [.slice y.a y.n y.c,.slice y.b y.m y.d].toArray 33)=w3 at *
 obtain ⟨c0,c1,c2,c3,c4,c5,c6,c7,c8,c9⟩:=x0.ten
 cases h0:ck !=0
 ·rw [if_neg (by simpa using h0)] at HC
  cases hu:x.u
  ·rw [hu] at HC c7
   rw [if_neg (by simp)] at HC
   simp only [Bool.false_eq_true,if_false] at HC
   go_wp2_with fail
   refine (HP.out none 0 0 [] _ hE.shp (Recs.nilSlice _)).mono ?_
   rintro e w4 ⟨⟨y',rfl,hk,-,hp⟩,hb⟩
   replace x0:=x0.below hb
   replace hh:=hh.below hb (Nat.le_refl _)
   replace bw:=belowT bw hb
   rw [List.map_nil] at hp ⊢
   generalize replayH []=rp at *
   generalize rp.2=e5 at *
   dsimp only [HV.v]
   clear hb HP c0 c1 c2 c3 c4 c5 c6 c7 c8 c9
   go_upto_region 9 with fail
   have bn:=belowA (Below.refl _ w4) (.cells [.slice y'.d.za y'.d.zn y'.d.zc,.slice y'.d.ka y'.d.kn y'.d.kc,.int .i64 y'.d.b.h,.int .i64 y'.d.b.t,.slice y'.a y'.n y'.c].toArray 30)
   have xH:=Lay.made w4 [.slice y'.d.za y'.d.zn y'.d.zc,.slice y'.d.ka y'.d.kn y'.d.kc,.int .i64 y'.d.b.h,.int .i64 y'.d.b.t,.slice y'.a y'.n y'.c] 30
   replace x0:=x0.below bn
   replace hh:=hh.below bn (Nat.le_refl _)
   replace hk:=hk.below bn (Nat.le_refl _)
   replace bw:=belowT bw bn
   clear bn
   generalize w4.alloc (.cells [.slice y'.d.za y'.d.zn y'.d.zc,.slice y'.d.ka y'.d.kn y'.d.kc,.int .i64 y'.d.b.h,.int .i64 y'.d.b.t,.slice y'.a y'.n y'.c].toArray 30)=w5 at *
   generalize w4.heap.size=B at *
   cases h5:e5 !=0
   ·rw [if_neg (by simpa using h5)] at HC
    obtain ⟨c0,c1,c2,c3,c4,c5,c6,c7,c8,c9⟩:=x0.ten
    have d0:=xH.cell 0 _ rfl
    have d1:=xH.cell 1 _ rfl
    have d2:=xH.cell 2 _ rfl
    have d3:=xH.cell 3 _ rfl
    have d4:=xH.cell 4 _ rfl
    go_wp2_with fail
    refine (HS.out y' _ hh hk).mono ?_
    rintro e w6 ⟨rfl,hb⟩
    rw [hp,sameH_comm]
    generalize sameH rp.1 x.h.p=sh at *
    cases sh
    ·go_wp2
     go_ret
     exact ⟨ret_int (by rw [HC.out];rfl),belowT bw hb⟩
    ·go_wp2
     go_ret
     exact ⟨ret_int (by rw [HC.out];rfl),belowT bw hb⟩
   ·rw [if_pos (by simpa using h5)] at HC
    go_wp2
    go_ret
    exact ⟨ret_int (by rw [HC.out]),bw⟩
  ·rw [hu] at HC c7
   rw [if_pos rfl] at HC
   by_cases hm:x.d.m=0
   ·rw [if_neg (fun c=>c.2 (hwl.1 hm))] at HC
    rw [hm] at c6
    go_wp2_with fail
    refine (HP.out la ln lc X _ hE.shp hX).mono ?_
    rintro e w4 ⟨⟨y',rfl,hk,-,hp⟩,hb⟩
    replace x0:=x0.below hb
    replace hh:=hh.below hb (Nat.le_refl _)
    replace bw:=belowT bw hb
    rw [hXp] at hp ⊢
    generalize replayH rk.2.1=rp at *
    generalize rp.2=e5 at *
    dsimp only [HV.v]
    clear hb HP c0 c1 c2 c3 c4 c5 c6 c7 c8 c9
    go_upto_region 9 with fail
    have bn:=belowA (Below.refl _ w4) (.cells [.slice y'.d.za y'.d.zn y'.d.zc,.slice y'.d.ka y'.d.kn y'.d.kc,.int .i64 y'.d.b.h,.int .i64 y'.d.b.t,.slice y'.a y'.n y'.c].toArray 30)
    have xH:=Lay.made w4 [.slice y'.d.za y'.d.zn y'.d.zc,.slice y'.d.ka y'.d.kn y'.d.kc,.int .i64 y'.d.b.h,.int .i64 y'.d.b.t,.slice y'.a y'.n y'.c] 30
    replace x0:=x0.below bn
    replace hh:=hh.below bn (Nat.le_refl _)
    replace hk:=hk.below bn (Nat.le_refl _)
    replace bw:=belowT bw bn
    clear bn
    generalize w4.alloc (.cells [.slice y'.d.za y'.d.zn y'.d.zc,.slice y'.d.ka y'.d.kn y'.d.kc,.int .i64 y'.d.b.h,.int .i64 y'.d.b.t,.slice y'.a y'.n y'.c].toArray 30)=w5 at *
    generalize w4.heap.size=B at *
    cases h5:e5 !=0
    ·rw [if_neg (by simpa using h5)] at HC
     obtain ⟨c0,c1,c2,c3,c4,c5,c6,c7,c8,c9⟩:=x0.ten
     have d0:=xH.cell 0 _ rfl
     have d1:=xH.cell 1 _ rfl
     have d2:=xH.cell 2 _ rfl
     have d3:=xH.cell 3 _ rfl
     have d4:=xH.cell 4 _ rfl
     go_wp2_with fail
     refine (HS.out y' _ hh hk).mono ?_
     rintro e w6 ⟨rfl,hb⟩
     rw [hp,sameH_comm]
     generalize sameH rp.1 x.h.p=sh at *
     cases sh
     ·go_wp2
      go_ret
      exact ⟨ret_int (by rw [HC.out];rfl),belowT bw hb⟩
     ·go_wp2
      go_ret
      exact ⟨ret_int (by rw [HC.out];rfl),belowT bw hb⟩
    ·rw [if_pos (by simpa using h5)] at HC
     go_wp2
     go_ret
     exact ⟨ret_int (by rw [HC.out]),bw⟩
   ·rw [if_pos ⟨rfl,fun c=>hm (hwl.2 c)⟩] at HC
    have hm':(0:Int) < (x.d.m:Int):=by omega
    go_wp2
    go_ret
    exact ⟨ret_int (by rw [HC.out]),bw⟩
 ·rw [if_pos (by simpa using h0)] at HC
  go_wp2
  go_ret
  exact ⟨ret_int (by rw [HC.out]),bw⟩
theorem WCheck_c (x:WV) (w:World) (hE:Env w) (hx:x.ok w) (hs:x.sm):Calls Tryz.prog 8 #[x.v] w fun e w'=>e=.returned (.int .i64 (checkW x.p))∧Below w.heap.size w w':=by
 have H1:=hide (fun w' hE h=>firstMs_c x.ma x.mn x.mc x.M w' hE h (fun y hy w'' hE' h'=>checkMail_c y w'' hE' h'))
 have H2:=hide (fun w' hE h=>checkHall_c x w' hE h hs)
 have H3:=hide (fun w' hE h=>firstNs_c x.na x.nn x.nc x.N w' hE h (fun y hy w'' hE' h'=>JCheck_c y w'' hE'.shp h'))
 have HC:Hid (checkW x.p=if x.nn≠3 then 4 else if 30 < x.mn then 2 else if firstM (x.M.map MV.p)≠0 then firstM (x.M.map MV.p) else if checkHallW x.p≠0 then checkHallW x.p else firstN (x.N.map NV.p)):=hide (by
  have e1:x.p.n.length=x.nn:=by rw [show x.p.n=x.N.map NV.p from rfl,List.length_map];exact hx.n.len
  have e2:x.p.m.length=x.mn:=by rw [show x.p.m=x.M.map MV.p from rfl,List.length_map];exact hx.m.len
  rw [checkW_eq,e1,e2]
  rfl)
 generalize checkW x.p=r at *
 generalize checkHallW x.p=ch at *
 generalize firstM _=fm at *
 generalize firstN _=fn at *
 have hn1:=hx.n.max
 have hn2:=hx.n.le
 have hm1:=hx.m.max
 have hm2:=hx.m.le
 have x0:=Lay.made w x.cells 37
 have bw:=belowA (Below.refl _ w) (.cells x.cells.toArray 37)
 replace hx:=hx.below bw (Nat.le_refl _)
 replace hE:=hE.below bw
 by_cases h1:x.nn=3
 ·rw [if_neg (by omega)] at HC
  have h1':((x.nn:Int) !=3)=false:=by simp [h1]
  replace h1:=hide h1
  by_cases h2:30 < x.mn
  ·rw [if_pos h2] at HC
   have h2':(30:Int) < (x.mn:Int):=by omega
   go_enter Tryz.func8,Tryz.ntmps8
   go_wp2
   go_ret
   exact ⟨ret_int (by rw [HC.out]),bw⟩
  ·rw [if_neg h2] at HC
   have h2':¬ (30:Int) < (x.mn:Int):=by omega
   go_enter Tryz.func8,Tryz.ntmps8
   go_wp2_with fail
   generalize w.alloc (.cells x.cells.toArray 37)=w1 at *
   refine (H1.out _ hE hx.m).mono ?_
   rintro e w2 ⟨rfl,hb⟩
   replace x0:=x0.below hb
   replace hx:=hx.below hb (Nat.le_refl _)
   replace hE:=hE.below hb
   replace bw:=belowT bw hb
   clear hb H1
   obtain ⟨c0,c1,c2,c3,c4,c5,c6,c7,c8,c9⟩:=x0.ten
   cases h3:fm !=0
   ·rw [if_neg (by simpa using h3)] at HC
    dsimp only [WV.v] at H2
    go_wp2_with fail
    refine (H2.out _ hE hx).mono ?_
    rintro e w3 ⟨rfl,hb⟩
    replace x0:=x0.below hb
    replace hx:=hx.below hb (Nat.le_refl _)
    replace hE:=hE.below hb
    replace bw:=belowT bw hb
    clear hb H2 c0 c1 c2 c3 c4 c5 c6 c7 c8 c9
    obtain ⟨c0,c1,c2,c3,c4,c5,c6,c7,c8,c9⟩:=x0.ten
    cases h4:ch !=0
    ·rw [if_neg (by simpa using h4)] at HC
     go_wp2_with fail
     refine (H3.out _ hE hx.n).mono ?_
     rintro e w4 ⟨rfl,hb⟩
     go_wp2
     go_ret
     exact ⟨ret_int (by rw [HC.out]),belowT bw hb⟩
    ·rw [if_pos (by simpa using h4)] at HC
     go_wp2
     go_ret
     exact ⟨ret_int (by rw [HC.out]),bw⟩
   ·rw [if_pos (by simpa using h3)] at HC
    go_wp2
    go_ret
    exact ⟨ret_int (by rw [HC.out]),bw⟩
 ·rw [if_pos h1] at HC
  have h1':((x.nn:Int) !=3)=true:=by simp;omega
  go_enter Tryz.func8,Tryz.ntmps8
  go_wp2
  go_ret
  exact ⟨ret_int (by rw [HC.out]),bw⟩
end Go.Proofs.YtnnngphfmclegaaGreatDoor
namespace Go.Proofs.YtnnngphfmclegaaGreatDoor
open Go.RowKit
set_option linter.unusedVariables false
set_option maxHeartbeats 8000000
set_option maxRecDepth 100000
set_option linter.unusedSimpArgs false
theorem mkh3 (w:World):(Instr.makeSlice 34 (.int .i64 3) (.int .i64 3)).run Tryz.prog w=.ok (.slice (some ⟨w.heap.size,0,none⟩) 3 3) (w.alloc (.cells (handK.cells (List.replicate 3 NV.zero)).toArray 55)):=phands_mk 3 (by decide) w
theorem WNew_c (w:World):Calls Tryz.prog 21 #[] w fun e w'=>WorldOf freshW w e w':=by
 have hmk:=mkh3
 have HM:=hide (fun w'=>MineR.made handK 55 NV.zero NV.zero_ok 3 w')
 generalize (handK.cells (List.replicate 3 NV.zero)).toArray=xs at *
 have x1:=Lay.made w [.slice none 0 0,.slice none 0 0,.int .i64 0,.int .i64 0,.slice none 0 0,.slice none 0 0,.slice none 0 0,.bool false,.slice none 0 0,.slice none 0 0] 37
 have bw:=belowA (Below.refl _ w) (.cells [.slice none 0 0,.slice none 0 0,.int .i64 0,.int .i64 0,.slice none 0 0,.slice none 0 0,.slice none 0 0,.bool false,.slice none 0 0,.slice none 0 0].toArray 37)
 go_enter Tryz.func21,Tryz.ntmps21
 go_upto_region 1 with fail
 generalize w.alloc (.cells [.slice none 0 0,.slice none 0 0,.int .i64 0,.int .i64 0,.slice none 0 0,.slice none 0 0,.slice none 0 0,.bool false,.slice none 0 0,.slice none 0 0].toArray 37)=w1 at *
 have hB:=x1.lt
 go_region_with (first|(go_at_call 41;refine (HNew_c _).mono ?_;rintro e w2 ⟨⟨h,rfl,hk,hn,hp⟩,hb⟩;(dsimp only [HV.v]);(have xR:=x1.below (w':=w2) (by clear bw;(repeat first|exact bel0|assumption|refine bel1 ?_|refine bel2 ?_|refine bel3 ?_|refine belowT ?_ (by assumption)|refine bel5 ?_ (by simp;try omega))));(obtain ⟨e0,e1,e2,e3,e4,e5,e6,e7,e8,e9⟩:=Lay.ten (x:=WV.zero) xR);(have ice:=xR.ice);(dsimp only [WV.zero,HV.zero,DV.zero,KV.zero,zeroB] at e0 e1 e2 e3 e4 e5 e6 e7 e8 e9);(have hl2:=xR.lt);(have hn1:w.heap.size≠w2.heap.size:=by omega);(have hn2:w2.heap.size≠w.heap.size:=by omega);(have p0:=past1 e0);(have r0:=pastf1 e0 (ice 0));(have p1:=past1 e1);(have r1:=pastf1 e1 (ice 1));(have p2:=past1 e2);(have r2:=pastf1 e2 (ice 2));(have p3:=past1 e3);(have r3:=pastf1 e3 (ice 3));(have p4:=past1 e4);(have r4:=pastf1 e4 (ice 4));(have p5:=past1 e5);(have r5:=pastf1 e5 (ice 5));(have p6:=past1 e6);(have r6:=pastf1 e6 (ice 6));(have p7:=past1 e7);(have r7:=pastf1 e7 (ice 7));(have p8:=past1 e8);(have r8:=pastf1 e8 (ice 8));(have p9:=past1 e9);(have r9:=pastf1 e9 (ice 9))))
 all_goals go_wp2
 ·have bw2:Below w.heap.size w w2:=belowT bw (by clear bw;(repeat first|exact bel0|assumption|refine bel1 ?_|refine bel2 ?_|refine bel3 ?_|refine belowT ?_ (by assumption)|refine bel5 ?_ (by simp;try omega)))
  obtain ⟨y,hy⟩:∃ y:WV,y=⟨h,KV.zero,true,some ⟨w2.heap.size,0,none⟩,3,3,List.replicate 3 NV.zero,none,0,0,[]⟩:=⟨_,rfl⟩
  have hbut:=putAll_but w.heap.size y.cells w2 0
  have zB:=xR.fill (vs:=y.cells) rfl
  have hs:(putAll w2 w.heap.size 0 y.cells).heap.size=w2.heap.size:=by rw [hy];simp [putAll,World.setCell]
  have hh:=hk.but hbut.but (hn w.heap.size (by simp at *;omega))
  obtain ⟨w8,hw8⟩:∃ o,o=putAll w2 w.heap.size 0 y.cells:=⟨_,rfl⟩
  rw [← hw8] at zB hbut hs hh
  rw [hy] at hw8
  dsimp only [putAll,Nat.reduceAdd,KV.zero] at hw8
  rw [← hw8]
  have hm:=HM.out w8
  rw [hs] at hm
  have bn:=belowA (Below.refl _ w8) (.cells xs 55)
  have zC:=zB.below bn
  replace hh:=hh.below bn (Nat.le_refl _)
  clear hw8 p0 p1 p2 p3 p4 p5 p6 p7 p8 p9 r0 r1 r2 r3 r4 r5 r6 r7 r8 r9 e0 e1 e2 e3 e4 e5 e6 e7 e8 e9
  generalize w8.alloc (.cells xs 55)=w9 at *
  obtain ⟨z0,z1,z2,z3,z4,z5,z6,z7,z8,z9⟩:=zC.ten
  have b9:=belowT (bw2.trans (hbut.below (B:=w.heap.size) (Nat.le_refl _))) bn
  have hn':h.new w.heap.size:=hn.mono (by simp at *;omega)
  refine bodyPost_ret (v:=y.v) (by simp [results,Tryz.results21,go_sem,z0,z1,z2,z3,z4,z5,z6,z7,z8,z9]) rfl ⟨⟨y,rfl,?_,?_,?_,?_⟩,b9⟩
  all_goals subst hy
  ·exact ⟨hh,KV.zero_ok _,hm.rows rfl (show (3:Nat)≤9223372036854775807 by omega),Rows'.none _⟩
  ·exact ⟨by simp [KV.zero],by simp [KV.zero]⟩
  ·exact fun R hR=>⟨hn' R hR,⟨.inl rfl,.inl rfl⟩,⟨.inr fun x e=>by cases e;simp;omega,fun x hx=>by rw [List.eq_of_mem_replicate hx];exact NV.zero_off R⟩,⟨.inl rfl,fun x hx=>(by cases hx)⟩⟩
  ·simp [WV.p,hp,freshW,KV.zero,NV.zero_p,List.replicate]
 ·have hm0:=HM.out w1
  have bw2:Below w.heap.size w w2:=belowT bw (by clear bw;(repeat first|exact bel0|assumption|refine bel1 ?_|refine bel2 ?_|refine bel3 ?_|refine belowT ?_ (by assumption)|refine bel5 ?_ (by simp;try omega)))
  have hm:=hm0.below (w':=w2) (by clear bw bw2;(repeat first|exact bel0|assumption|refine bel1 ?_|refine bel2 ?_|refine bel3 ?_|refine belowT ?_ (by assumption)|refine bel5 ?_ (by simp;try omega)))
  obtain ⟨y,hy⟩:∃ y:WV,y=⟨h,KV.zero,true,some ⟨w1.heap.size,0,none⟩,3,3,List.replicate 3 NV.zero,none,0,0,[]⟩:=⟨_,rfl⟩
  have hbut:=putAll_but w.heap.size y.cells w2 0
  have zB:=xR.fill (vs:=y.cells) rfl
  have hs:(putAll w2 w.heap.size 0 y.cells).heap.size=w2.heap.size:=by rw [hy];simp [putAll,World.setCell]
  have hh:=hk.but hbut.but (hn w.heap.size (by simp at *;omega))
  have hm9:=hm.away (k:=w.heap.size) y.cells 0 (by omega) (fun z hz=>by rw [List.eq_of_mem_replicate hz];exact NV.zero_off _)
  obtain ⟨w9,hw9⟩:∃ o,o=putAll w2 w.heap.size 0 y.cells:=⟨_,rfl⟩
  rw [← hw9] at zB hbut hs hh hm9
  rw [hy] at hw9
  dsimp only [putAll,Nat.reduceAdd,KV.zero] at hw9
  rw [← hw9]
  clear hw9
  obtain ⟨z0,z1,z2,z3,z4,z5,z6,z7,z8,z9⟩:=zB.ten
  have b9:=bw2.trans (hbut.below (B:=w.heap.size) (Nat.le_refl _))
  have hn':h.new w.heap.size:=hn.mono (by simp at *;omega)
  refine bodyPost_ret (v:=y.v) (by simp [results,Tryz.results21,go_sem,z0,z1,z2,z3,z4,z5,z6,z7,z8,z9]) rfl ⟨⟨y,rfl,?_,?_,?_,?_⟩,b9⟩
  all_goals subst hy
  ·exact ⟨hh,KV.zero_ok _,hm9.rows rfl (show (3:Nat)≤9223372036854775807 by omega),Rows'.none _⟩
  ·exact ⟨by simp [KV.zero],by simp [KV.zero]⟩
  ·exact fun R hR=>⟨hn' R hR,⟨.inl rfl,.inl rfl⟩,⟨.inr fun x e=>by cases e;simp;omega,fun x hx=>by rw [List.eq_of_mem_replicate hx];exact NV.zero_off R⟩,⟨.inl rfl,fun x hx=>(by cases hx)⟩⟩
  ·simp [WV.p,hp,freshW,KV.zero,NV.zero_p,List.replicate]
end Go.Proofs.YtnnngphfmclegaaGreatDoor
