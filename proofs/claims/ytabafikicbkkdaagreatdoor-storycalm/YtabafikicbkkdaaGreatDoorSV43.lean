/- The law's own closure of StoryStands; no condition but that the world reads as data and was reached from a new one, the package-level variables are as their texts lay them, and its disk is no greater than a machine bears. -/
import Derived.Test.YtabafikicbkkdaaGreatDoorSV40
import Derived.Test.YtabafikicbkkdaaGreatDoorSV37
import Derived.Test.YtabafikicbkkdaaGreatDoorSV38
import Derived.Test.YtabafikicbkkdaaGreatDoorSV6
import Derived.Test.YtabafikicbkkdaaGreatDoorSV42
import Derived.Test.YtabafikicbkkdaaGreatDoorSV14
import Derived.Deep.RegionHeld3
import Derived.RegionTactic
import Derived.Test.YtabafikicbkkdaaGreatDoorSV13
import Derived.Test.YtabafikicbkkdaaGreatDoorSV26
namespace Go.Proofs.YtabafikicbkkdaaGreatDoor
open Go.RowKit
set_option linter.unusedVariables false
set_option maxHeartbeats 2000000
set_option maxRecDepth 100000
set_option linter.unusedSimpArgs false
theorem replayH_is {A:List PR} {H:PH} (e:replayF freshH A=(H,0)) (h:A.length≤80):replayH A=(H,0):=by
 unfold replayH
 rw [if_neg (by omega),e]
def Marks (A:List PR) (T:List PA) (j:Nat) (b:List Bool):Prop:=
 b.length=4∧∀ z:Nat,z < 4→b[z]?=some false→∀ (i:Nat) (r:PR) (a:PA),j≤i→A[i]?=some r→T[i]?=some a→¬ (r.c.k=4∧r.c.z=(z:Int)∧a.e=0)
theorem Marks.nil (A:List PR) (T:List PA):Marks A T A.length [false,false,false,false]:=
 ⟨rfl,fun z _ _ i r a hi e _=>by have:=(List.getElem?_eq_some_iff.1 e).1;omega⟩
theorem Marks.same {A:List PR} {T:List PA} {m:Nat} {b:List Bool} (h:Marks A T (m + 1) b) (hn:∀ (r:PR) (a:PA),A[m]?=some r→T[m]?=some a→∀ z:Nat,z < 4→¬ (r.c.k=4∧r.c.z=(z:Int)∧a.e=0)):Marks A T m b:=
 ⟨h.1,fun z hz hb i r a hi e1 e2=>by
  by_cases c:i=m
  ·subst c;exact hn r a e1 e2 z hz
  ·exact h.2 z hz hb i r a (by omega) e1 e2⟩
theorem Marks.mark {A:List PR} {T:List PA} {m n:Nat} {b:List Bool} {r:PR} (h:Marks A T (m + 1) b) (e:A[m]?=some r) (hz:r.c.z=(n:Int)):Marks A T m (b.set n true):=
 ⟨by rw [List.length_set];exact h.1,fun z hz4 hb i r' a hi e1 e2=>by
  have hne:n≠z:=fun q=>by
   subst q
   rw [List.getElem?_set_self (by have:=h.1;omega)] at hb
   cases hb
  rw [List.getElem?_set_ne hne] at hb
  by_cases c:i=m
  ·subst c
   rw [e] at e1
   cases e1
   rintro ⟨_,q,_⟩
   omega
  ·exact h.2 z hz4 hb i r' a (by omega) e1 e2⟩
abbrev bcells (b:List Bool):List Value:=b.map .bool
theorem sstands_c (x:WV) (w:World) (hE:Env w) (hk:x.ok w) (hs:x.sm) {A:List PR} {H:PH} {T:List PA} (hsg:Saga x.p A H T):Calls Tryz.prog 18 #[x.v] w fun e w'=>e=.returned (.bool true)∧Below w.heap.size w w':=by
 have HDN:=hide (fun w' h1 h2=>Done_w x w' h1 h2 hs)
 have HTL:=hide (fun w' h1 h2=>Told_w x w' h1 h2 hs)
 rw [hsg.doneS] at HDN
 rw [hsg.toldS] at HTL
 have HSG:=hide hsg
 clear hsg
 have x0:=Lay.made w x.cells 40
 have bw:=belowA (Below.refl _ w) (.cells x.cells.toArray 40)
 replace hk:=hk.below bw (Nat.le_refl _)
 replace hE:=hE.below bw
 go_enter Tryz.func18,Tryz.ntmps18
 go_wp2_with fail
 generalize w.alloc (.cells x.cells.toArray 40)=w1 at *
 refine (HDN.out _ hE hk).mono ?_
 rintro e w2 ⟨⟨la,ln,lc,X,rfl,hX,fX,pX⟩,hb⟩
 replace x0:=x0.below hb
 replace hk:=hk.below hb (Nat.le_refl _)
 replace hE:=hE.below hb
 replace bw:=belowT bw hb
 clear hb HDN fX
 obtain ⟨q0,q1,q2,q3,q4,q5,q6,q7,q8,q9⟩:=x0.ten
 go_wp2_with fail
 refine (HTL.out _ hE hk).mono ?_
 rintro e w3 ⟨⟨ta,tn,tc,Y,rfl,hY,_,pY⟩,hb⟩
 replace x0:=x0.below hb
 replace hk:=hk.below hb (Nat.le_refl _)
 replace hX:=hX.below hb (Nat.le_refl _)
 replace hE:=hE.below hb
 replace bw:=belowT bw hb
 clear hb HTL q0 q1 q2 q3 q4 q5 q6 q7 q8 q9
 dsimp only at pX pY
 have hAl:A.length=ln:=by rw [← hX.len,← List.length_map (f:=RV.p),pX]
 have hTl:T.length=tn:=by rw [← hY.len,← List.length_map (f:=AV.p),pY]
 obtain rfl:tn=ln:=by have:=HSG.out.log.len;omega
 have hA80:=HSG.out.len
 have R1:=hide (fun w' h1 h2=>Replay_c la tn lc X w' h1 h2)
 rw [pX,replayH_is HSG.out.log.rep hA80] at R1
 have hleX:=hX.le
 have hmaxX:=hX.max
 have hleY:=hY.le
 have hmaxY:=hY.max
 clear hTl
 go_wp2_with fail
 refine (R1.out _ hE.shp hX).mono ?_
 rintro e w4 ⟨⟨hv,rfl,okh,_,ph⟩,hb⟩
 replace x0:=x0.below hb
 replace hk:=hk.below hb (Nat.le_refl _)
 replace hX:=hX.below hb (Nat.le_refl _)
 replace hY:=hY.below hb (Nat.le_refl _)
 replace bw:=belowT bw hb
 clear hb R1 hE
 dsimp only [HV.v]
 go_upto_region 6 with fail
 have Fx:=Lay.made w4 [.slice hv.d.za hv.d.zn hv.d.zc,.slice hv.d.ka hv.d.kn hv.d.kc,.int .i64 hv.d.b.h,.int .i64 hv.d.b.t,.slice hv.a hv.n hv.c] 33
 have bn:=belowA (Below.refl _ w4) (.cells [.slice hv.d.za hv.d.zn hv.d.zc,.slice hv.d.ka hv.d.kn hv.d.kc,.int .i64 hv.d.b.h,.int .i64 hv.d.b.t,.slice hv.a hv.n hv.c].toArray 33)
 generalize w4.heap.size=F at Fx
 generalize w4.alloc (.cells [.slice hv.d.za hv.d.zn hv.d.zc,.slice hv.d.ka hv.d.kn hv.d.kc,.int .i64 hv.d.b.h,.int .i64 hv.d.b.t,.slice hv.a hv.n hv.c].toArray 33)=w5 at *
 replace x0:=x0.below bn
 replace hk:=hk.below bn (Nat.le_refl _)
 replace hX:=hX.below bn (Nat.le_refl _)
 replace hY:=hY.below bn (Nat.le_refl _)
 replace okh:=okh.below bn (Nat.le_refl _)
 replace bw:=belowT bw bn
 clear bn
 have hup:x.u=true→sameH hv.p x.h.p=true:=fun hu=>(sameH_iff _ _).2 (by rw [show hv.p=H from ph];exact (HSG.out.hall hu).symm)
 have HUP:=hide hup
 have HSM:=hide (fun w' h1 h2=>HSame_c hv x.h w' h1 h2)
 clear hup
 obtain ⟨q0,q1,q2,q3,q4,q5,q6,q7,q8,q9⟩:=x0.ten
 have f0:=Fx.cell 0 _ rfl
 have f1:=Fx.cell 1 _ rfl
 have f2:=Fx.cell 2 _ rfl
 have f3:=Fx.cell 3 _ rfl
 have f4:=Fx.cell 4 _ rfl
 go_cut [53] (fun v wx=>v=.bool false∧Below w5.heap.size w5 wx)
 case first=>
  cases hu:x.u
  ·rw [hu] at q7
   go_wp2
   go_meet
   case rel=>exact ⟨rfl,Below.refl _ _⟩
  ·rw [hu] at q7
   rw [HUP.out hu] at HSM
   dsimp only [HV.v] at HSM
   go_wp2_with fail
   refine (HSM.out _ okh hk.h).mono ?_
   rintro e w6 ⟨rfl,hb⟩
   go_wp2
   go_meet
   case rel=>exact ⟨rfl,hb⟩
 case rest=>
  obtain ⟨rfl,hb⟩:=hcut
  generalize wc=w6 at *
  replace Fx:=Fx.below hb
  replace hX:=hX.below hb (Nat.le_refl _)
  replace hY:=hY.below hb (Nat.le_refl _)
  replace okh:=okh.below hb (Nat.le_refl _)
  replace bw:=belowT bw hb
  clear hb q0 q1 q2 q3 q4 q5 q6 q7 q8 q9 f0 f1 f2 f3 f4 HSM HUP x0 hk
  have oz:=okh.d.z
  have hZ:hv.d.Z.map ZV.p=H.d.P:=congrArg (fun h=>h.d.P) ph
  have hST:=Log.stand A H T HSG.out.log
  clear okh ph
  have BW:=hide bw
  have xR:=Lay.made w6 [.bool false,.bool false,.bool false,.bool false] 66
  have bn:=belowA (Below.refl _ w6) (.cells [.bool false,.bool false,.bool false,.bool false].toArray 66)
  go_upto_region 9 with fail
  generalize w6.alloc (.cells [.bool false,.bool false,.bool false,.bool false].toArray 66)=w7 at *
  generalize hR:w6.heap.size=R at *
  have hwr:IntKind.i64.wrap ((tn:Int) - 1)=(tn:Int) - 1:=IntWalk.i64_in _ ⟨by omega,by omega⟩
  have hM:=Marks.nil A T
  rw [hAl] at hM
  have HM0:=hide hM
  clear hM
  go_wp2_with fail
  go_loopw [9] (fun i wr=>∃ wz:World,wz=wr∧∃ (v:Int) (j:Nat) (b:List Bool),i=.int .i64 v∧v + 1=(j:Int)∧j≤tn∧Lay wz R (bcells b)∧Marks A T j b∧Below R w6 wz) (fun i _=>(intOf i + 1).toNat)
  case atStart=>exact ⟨_,rfl,(tn:Int) - 1,tn,[false,false,false,false],rfl,by omega,by omega,xR,HM0.out,bn⟩
  case round=>
   clear xR bn
   obtain ⟨wr,rfl,v,j,b,rfl,hvj,hj,xR,hM,bq⟩:=hrel
   have hbl:=hM.1
   have HM:=hide hM
   clear hM
   cases j with
   |zero=>
    obtain rfl:v=-1:=by omega
    go_wp2
    go_ret
    exact ⟨rfl,BW.out.trans (bq.mono (by have:=BW.out.size;omega))⟩
   |succ m=>
    obtain rfl:v=(m:Int):=by omega
    obtain ⟨z,hz⟩:∃ z,X[m]?=some z:=⟨_,List.getElem?_eq_getElem (by rw [hX.len];omega)⟩
    obtain ⟨lb,lo,rfl,hlb,hlc⟩:=hX.row.resolve_left (by omega)
    obtain ⟨tb,tf,u,rfl,hu,huk,htb,htc⟩:=hY.at (show m < tn by omega)
    have kz:=hlc m z hz
    have c2:=bq.cell (p:=⟨lb,lo + m * 7 + 2,none⟩) (show lb < R by omega) ▸ kz 2 _ rfl
    have c3:=bq.cell (p:=⟨lb,lo + m * 7 + 3,none⟩) (show lb < R by omega) ▸ kz 3 _ rfl
    have c4:=bq.cell (p:=⟨lb,lo + m * 7 + 4,none⟩) (show lb < R by omega) ▸ kz 4 _ rfl
    have c5:=bq.cell (p:=⟨lb,lo + m * 7 + 5,none⟩) (show lb < R by omega) ▸ kz 5 _ rfl
    have c6:=bq.cell (p:=⟨lb,lo + m * 7 + 6,none⟩) (show lb < R by omega) ▸ kz 6 _ rfl
    have t0:=bq.cell (p:=⟨tb,tf + m * 3,none⟩) (show tb < R by omega) ▸ htc 0 _ rfl
    have t1:=bq.cell (p:=⟨tb,tf + m * 3 + 1,none⟩) (show tb < R by omega) ▸ htc 1 _ rfl
    have t2:=bq.cell (p:=⟨tb,tf + m * 3 + 2,none⟩) (show tb < R by omega) ▸ htc 2 _ rfl
    have hzA:A[m]?=some z.p:=by rw [← pX,List.getElem?_map,hz];rfl
    have huT:T[m]?=some u.p:=by rw [← pY,List.getElem?_map,hu];rfl
    obtain ⟨_,_,hck⟩:=(checkR_facts (HSG.out.log.right z.p (List.mem_of_getElem? hzA)))
    have hm0:(0:Int)≤(m:Int):=by omega
    have hm1:(m:Int) < (tn:Int):=by omega
    have HZA:=hide hzA
    have HZM:=hide (hX.ok z (List.mem_of_getElem? hz))
    have HUT:=hide huT
    clear kz hlc htc hz hu hzA huT
    go_upto_region 12 with fail
    go_cut [10,11] (fun p q wx=>∃ P Q:Nat,p=.pointer (some ⟨P,0,none⟩)∧q=.pointer (some ⟨Q,0,none⟩)∧Lay wx P [.int .i64 z.p.c.k,.int .i64 z.p.c.z,.int .i64 z.p.c.n,.int .i64 z.p.c.at',.slice z.a z.n z.c]∧Lay wx Q [.int .i64 u.e,.int .i64 u.t,.slice u.a u.n u.c]∧R≠P∧R≠Q∧Below wr.heap.size wr wx)
    case first=>
     go_region_held3 (fun w'=>w'.cell? ⟨lb,lo + m * 7 + 2,none⟩=some (.int .i64 z.p.c.k)∧w'.cell? ⟨lb,lo + m * 7 + 3,none⟩=some (.int .i64 z.p.c.z)∧w'.cell? ⟨lb,lo + m * 7 + 4,none⟩=some (.int .i64 z.p.c.n)∧w'.cell? ⟨lb,lo + m * 7 + 5,none⟩=some (.int .i64 z.p.c.at')∧w'.cell? ⟨lb,lo + m * 7 + 6,none⟩=some (.slice z.a z.n z.c)∧w'.cell? ⟨tb,tf + m * 3,none⟩=some (.int .i64 u.e)∧w'.cell? ⟨tb,tf + m * 3 + 1,none⟩=some (.int .i64 u.t)∧w'.cell? ⟨tb,tf + m * 3 + 2,none⟩=some (.slice u.a u.n u.c)) ((first|(go_simp;done)|(simp [*,World.cell?_alloc_at,World.cell?_alloc_past,World.cell?_alloc_some,World.cell?_setCell_far];done))) (fail)
     ·go_wp2_with fail
      go_meet
      case rel=>
       obtain ⟨a1,a2,a3⟩:=two_boxes wr [.int .i64 z.p.c.k,.int .i64 z.p.c.z,.int .i64 z.p.c.n,.int .i64 z.p.c.at',.slice z.a z.n z.c] [.int .i64 u.e,.int .i64 u.t,.slice u.a u.n u.c] 50 56
       have:=xR.lt
       exact ⟨_,_,rfl,rfl,a1.drew,a2.drew,by omega,by omega,by clear bq;(repeat first|exact bel0|assumption|refine bel1 ?_|refine bel2 ?_|refine bel3 ?_|refine belowT ?_ (by assumption)|refine bel5 ?_ (by simp;try omega))⟩
     ·go_wp2_with fail
      go_meet
      case rel=>
       obtain ⟨a1,a2,a3⟩:=two_boxes wr [.int .i64 u.e,.int .i64 u.t,.slice u.a u.n u.c] [.int .i64 z.p.c.k,.int .i64 z.p.c.z,.int .i64 z.p.c.n,.int .i64 z.p.c.at',.slice z.a z.n z.c] 56 50
       have:=xR.lt
       exact ⟨_,_,rfl,rfl,a2.drew,a1.drew,by omega,by omega,by clear bq;(repeat first|exact bel0|assumption|refine bel1 ?_|refine bel2 ?_|refine bel3 ?_|refine belowT ?_ (by assumption)|refine bel5 ?_ (by simp;try omega))⟩
    case rest=>
     obtain ⟨P,Q,rfl,rfl,xP,xQ,hRP,hRQ,hb⟩:=hcut
     generalize wc=w8 at *
     have hwr2:IntKind.i64.wrap ((m:Int) - 1)=(m:Int) - 1:=IntWalk.i64_in _ ⟨by omega,by omega⟩
     replace xR:=xR.below hb
     replace bq:=bq.trans (hb.mono (by have:=bq.size;omega))
     clear hb c2 c3 c4 c5 c6 t0 t1 t2
     have p0:=xP.cell 0 _ rfl
     have p1:=xP.cell 1 _ rfl
     have p4:=xP.cell 4 _ rfl
     have r0:=xQ.cell 0 _ rfl
     have r1:=xQ.cell 1 _ rfl
     have hfac:=cmd_facts hck
     by_cases h4:4≤z.p.c.z
     ·go_wp2
      exact ⟨⟨_,rfl,(m:Int) - 1,m,b,rfl,by omega,by omega,xR,HM.out.same (fun r a e1 e2 zz hz4 q=>by rw [HZA.out] at e1;cases e1;omega),bq⟩,by simp [intOf]⟩
     ·by_cases he:u.e=0
      ·obtain ⟨n,hn⟩:∃ n:Nat,z.p.c.z=(n:Int):=⟨z.p.c.z.toNat,by omega⟩
       have hn4:n < 4:=by omega
       rw [hn] at p1 h4
       rw [he] at r0
       have hn0:(0:Int)≤(n:Int):=by omega
       have hn5:(n:Int) < 4:=by omega
       obtain ⟨bn,hbn⟩:∃ v,b[n]?=some v:=⟨_,List.getElem?_eq_getElem (by omega)⟩
       have rn:=xR.cell n (.bool bn) (by simp [bcells,hbn])
       have ri:=xR.ice
       have HBN:=hide hbn
       have HHE:=hide he
       have HN:=hide hn
       have HDD:=hide hfac.2.2.2.2.2.2
       clear hbn he hn hfac
       by_cases k4:z.p.c.k=4
       ·rw [k4] at p0
        have K4:=hide k4
        clear k4
        go_wp2
        exact ⟨⟨_,rfl,(m:Int) - 1,m,b.set n true,rfl,by omega,by omega,by rw [show bcells (b.set n true)=(bcells b).set n (.bool true) by simp [bcells]];exact xR.set n _,HM.out.mark HZA.out HN.out,bq.setCell (Nat.le_refl _) _⟩,by simp [intOf]⟩
       ·have k4':(z.p.c.k==4)=false:=by simpa using k4
        by_cases h56:z.p.c.k=5∨z.p.c.k=6
        ·cases bn
         ·have hno:=HM.out.2 n hn4 HBN.out
          obtain ⟨n',y',t,s1,s2,s3,s4,s5,s6⟩:=hST m z.p u.p HZA.out HUT.out HHE.out h56 (fun i' r' a' hi g1 g2 q=>hno i' r' a' (by omega) g1 g2 ⟨q.1,by rw [q.2.1,HN.out],q.2.2⟩)
          obtain rfl:n'=n:=by have:=s1.symm.trans HN.out;omega
          rw [← hZ,List.getElem?_map] at s3
          obtain ⟨y,hy,rfl⟩:=Option.map_eq_some_iff.1 s3
          have hnz:n' < hv.d.zn:=by rw [← oz.len];exact (List.getElem?_eq_some_iff.1 hy).1
          obtain ⟨zb,zo,hza,hzb,hzc⟩:=oz.row.resolve_left (by omega)
          have z1:=bq.cell (p:=⟨zb,zo + n' * 2 + 1,none⟩) (show zb < R by omega) ▸ (hzc n' y hy).2
          have f0:=bq.cell (p:=⟨F,0,none⟩) (show F < R by have:=Fx.lt;omega) ▸ Fx.cell 0 _ rfl
          rw [hza] at f0
          have iy:=(oz.ok y (List.mem_of_getElem? hy)).below bq (Nat.le_of_eq hR)
          have iz:=RV.ok.below HZM.out bq (Nat.le_of_eq hR)
          have hnz':(n':Int) < (hv.d.zn:Int):=by omega
          have e4:u.t=(t:Int):=s4
          rw [e4] at r1
          have s5':t + z.n≤y.n:=by have e1:=iz.len;have e2:=iy.len;simp only [ZV.p] at s5;omega
          have s6':(y.l.drop t).take z.n=z.p.c.d:=by have e1:=iz.len;simp only [ZV.p] at s6;rw [← e1];exact s6
          have hz1:1≤z.n:=by
           have e1:=iz.len
           have:z.p.c.d≠[]:=HDD.out.1 (by rcases h56 with q|q<;>rw [q]<;>rfl)
           have:=List.length_pos_iff.2 this
           omega
          have hyl:=iy.le
          have hct:¬ y.c=t:=by omega
          have i2:=iy.cut t z.n s5' (y.a.map fun x=>x.add t) (fun _=>rfl)
          have hym:=iy.max
          have hwr3:IntKind.i64.wrap ((t:Int) + (z.n:Int))=(t:Int) + (z.n:Int):=IntWalk.i64_in _ ⟨by omega,by omega⟩
          have u1:decide ((y.n:Int) < (t:Int) + (z.n:Int))=false:=decide_eq_false (by omega)
          have u2:decide (y.n < t + z.n)=false:=decide_eq_false (by omega)
          have u3:(0:Int)≤(t:Int):=by omega
          have u4:(t:Int)≤(t:Int) + (z.n:Int):=by omega
          have u5:(t:Int) + (z.n:Int)≤(y.c:Int):=by omega
          have u6:¬ ((t:Int) < 0):=by omega
          have u7:¬ ((y.c:Int) < (t:Int) + (z.n:Int)):=by omega
          have u8:¬ ((t:Int) + (z.n:Int) < (t:Int)):=by omega
          have u9:((t:Int) + (z.n:Int)).toNat=t + z.n:=by omega
          have u10:t + z.n - t=z.n:=by omega
          have HS6:=hide s6'
          have K4:=hide k4
          have HQ:=hide (fun w' h1 h2=>Equal_c (y.a.map fun x=>x.add t) z.a z.n z.n (y.c - t) z.c ((y.l.drop t).take z.n) z.p.c.d w' h1 h2)
          rw [decide_eq_true s6'] at HQ
          have hkk:(z.p.c.k !=5)=false∨((z.p.c.k !=5)=true∧(z.p.c.k !=6)=false):=by rcases h56 with q|q<;>simp [q]
          clear s1 s2 s3 s4 s5 s6 s5' s6' hno hy hzc e4 k4 h56
          rcases hkk with k5|⟨k5,k6⟩
          all_goals
           go_upto_region 18 with fail
           go_cut [130] (fun v wx=>v=.bool false∧Below w8.heap.size w8 wx)
           case first=>
            go_region_held3 (fun w'=>w'.cell? ⟨Q,1,none⟩=some (.int .i64 (t:Int))∧w'.cell? ⟨P,4,none⟩=some (.slice z.a z.n z.c)) ((first|(go_simp;done)|(simp [*,World.cell?_alloc_at,World.cell?_alloc_past,World.cell?_alloc_some,World.cell?_setCell_far];done))) (first|(go_at_call 21;refine (HQ.out _ (by refine Ints.below i2 (B:=w8.heap.size) ?_ (Nat.le_refl _);clear bq;(repeat first|exact bel0|assumption|refine bel1 ?_|refine bel2 ?_|refine bel3 ?_|refine belowT ?_ (by assumption)|refine bel5 ?_ (by simp;try omega))) (by refine Ints.below iz (B:=w8.heap.size) ?_ (Nat.le_refl _);clear bq;(repeat first|exact bel0|assumption|refine bel1 ?_|refine bel2 ?_|refine bel3 ?_|refine belowT ?_ (by assumption)|refine bel5 ?_ (by simp;try omega)))).mono ?_;rintro e w9 ⟨rfl,q9,rfl⟩))
            go_wp2_with fail
            go_meet
            case rel=>exact ⟨rfl,by clear bq;first|exact below_drewN (Below.refl _ _) _|(repeat first|exact bel0|assumption|refine bel1 ?_|refine bel2 ?_|refine bel3 ?_|refine belowT ?_ (by assumption)|refine bel5 ?_ (by simp;try omega))⟩
           case rest=>
            obtain ⟨rfl,hb⟩:=hcut
            have bq9:=bq.trans (hb.mono (by have:=bq.size;omega))
            have xR9:=xR.below hb
            clear bq xR hb
            go_wp2
            exact ⟨⟨_,rfl,(m:Int) - 1,m,b,rfl,by omega,by omega,xR9,HM.out.same (fun r a e1 e2 zz hz4 q=>by rw [HZA.out] at e1;cases e1;exact K4.out q.1),bq9⟩,by simp [intOf]⟩
         ·have HK:=hide k4
          clear k4
          have h56':((z.p.c.k !=5)=true→(z.p.c.k !=6)=false):=fun q=>by simp at q ⊢;omega
          cases k5:z.p.c.k !=5
          ·go_wp2
           exact ⟨⟨_,rfl,(m:Int) - 1,m,b,rfl,by omega,by omega,xR,HM.out.same (fun r a e1 e2 zz hz4 q=>by rw [HZA.out] at e1;cases e1;exact HK.out q.1),bq⟩,by simp [intOf]⟩
          ·have k6:=h56' k5
           go_wp2
           exact ⟨⟨_,rfl,(m:Int) - 1,m,b,rfl,by omega,by omega,xR,HM.out.same (fun r a e1 e2 zz hz4 q=>by rw [HZA.out] at e1;cases e1;exact HK.out q.1),bq⟩,by simp [intOf]⟩
        ·have k5:(z.p.c.k !=5)=true:=by simp;omega
         have k6:(z.p.c.k !=6)=true:=by simp;omega
         clear h56
         have K4:=hide k4
         clear k4
         go_wp2
         exact ⟨⟨_,rfl,(m:Int) - 1,m,b,rfl,by omega,by omega,xR,HM.out.same (fun r a e1 e2 zz hz4 q=>by rw [HZA.out] at e1;cases e1;exact K4.out q.1),bq⟩,by simp [intOf]⟩
      ·have he':(u.e !=0)=true:=by simpa using he
       have HHE:=hide he
       clear he
       go_wp2
       exact ⟨⟨_,rfl,(m:Int) - 1,m,b,rfl,by omega,by omega,xR,HM.out.same (fun r a e1 e2 zz hz4 q=>by rw [HUT.out] at e2;cases e2;exact HHE.out q.2.2),bq⟩,by simp [intOf]⟩
end Go.Proofs.YtabafikicbkkdaaGreatDoor
namespace Go.Proofs.YtabafikicbkkdaaGreatDoor
open Go.RowKit
set_option linter.unusedVariables false
set_option maxHeartbeats 2000000
set_option maxRecDepth 100000
set_option linter.unusedSimpArgs false
theorem playedStands_c  (la:Option Addr) (ln lc:Nat) (L:List XV) (u w:World) (Inv:Nat→World→List PR→List PA→Prop) (hE:Env u) (hL:Rows' hapK u la ln lc L) (hu:Below u.heap.size u w)
  (h0:∀ k w',w.heap.size≤k→Below w.heap.size w w'→Inv k w' [] [])
  (h1:∀ k w' w'' A T,Inv k w' A T→Below w'.heap.size w' w''→Inv k w'' A T)
  (h2:∀ k w' w'' A T,w.heap.size≤k→Inv k w' A T→ButI k w' w''→Inv k w'' A T)
  (hF:∀ (k:Nat) (x:WV) w' A T A' H' T',w.heap.size≤k→k < w'.heap.size→Inv k w' A T→Env w'→x.ok w'→x.sm→Saga x.p A' H' T'→Grows A T A' T'→Calls Tryz.prog 18 #[x.v] w' fun e w''=>e=.returned (.bool true)∧Inv k w'' A' T'∧Hops u.heap.size w.heap.size w' w'') :
  Calls Tryz.prog 8 #[.slice la ln lc,.func (Fn.func 18) #[] #[]] w fun e w'=>(∃ (x:WV) (A:List PR) (H:PH) (T:List PA),e=.returned (.tuple #[x.v,.bool true])∧x.ok w'∧x.sm∧x.new w.heap.size∧Saga x.p A H T)∧Below u.heap.size w w':=by
 have hlm:=hL.max
 have hll:=hL.le
 have hLl:=hL.len
 have huw:=hu.size
 obtain ⟨mm,hmm⟩:∃ mm:Nat,min ln 90=mm:=⟨_,rfl⟩
 have hm1:mm≤ln:=by omega
 have hmi:min (ln:Int) 90=(mm:Int):=by omega
 have hj0:(0:Int)≤(mm:Int):=by omega
 have hj1:(mm:Int)≤(lc:Int):=by omega
 have hj2:mm≤lc:=by omega
 have hj3:¬ ((mm:Int) < 0):=by omega
 have hj4:¬ ((lc:Int) < (mm:Int)):=by omega
 have H0:=hide h0
 have H1:=hide h1
 have H2:=hide h2
 have HF:=hide hF
 clear h0 h1 h2 hF
 have xR:=Lay.made w [.slice none 0 0,.slice none 0 0,.int .i64 0,.int .i64 0,.slice none 0 0,.slice none 0 0,.slice none 0 0,.bool false,.slice none 0 0,.slice none 0 0] 40
 have bw:=belowA (Below.refl _ w) (.cells [.slice none 0 0,.slice none 0 0,.int .i64 0,.int .i64 0,.slice none 0 0,.slice none 0 0,.slice none 0 0,.bool false,.slice none 0 0,.slice none 0 0].toArray 40)
 go_enter Tryz.func8,Tryz.ntmps8
 go_wp2_with fail
 generalize w.alloc (.cells [.slice none 0 0,.slice none 0 0,.int .i64 0,.int .i64 0,.slice none 0 0,.slice none 0 0,.slice none 0 0,.bool false,.slice none 0 0,.slice none 0 0].toArray 40)=w1 at *
 refine (WNew_c _).mono ?_
 rintro e w2 ⟨⟨y,rfl,oky,smy,ny,py⟩,hb⟩
 have hl1:=xR.lt
 replace xR:=xR.below hb
 replace bw:=belowT bw hb
 replace ny:=ny.mono (show w.heap.size + 1≤_ by omega)
 clear hb
 have hs2:=bw.size
 dsimp only [WV.v]
 go_upto_region 2 with fail
 have okW:=oky.off (Nat.le_refl _)
 have hNl:=xR.lt
 have Nx:=Lay.made w2 y.cells 40
 have bn:=belowA (Below.refl _ w2) (.cells y.cells.toArray 40)
 replace xR:=xR.below bn
 replace oky:=oky.below bn (Nat.le_refl _)
 replace bw:=belowT bw bn
 clear bn
 generalize w2.alloc (.cells y.cells.toArray 40)=w3 at *
 generalize w2.heap.size=N at *
 have hNw:w.heap.size < N:=hNl
 have hI:=H0.out N _ (by omega) bw
 have hsg:Saga y.p [] freshH []:=by rw [py];exact Saga.fresh
 clear py hs2 hl1
 replace bw:Below u.heap.size w w3:=bw.mono huw
 go_wp2_with fail
 go_loopw [18] (fun i wr=>∃ wz:World,wz=wr∧∃ (j:Nat) (x:WV) (A:List PR) (H:PH) (T:List PA),j≤mm∧i=.int .i64 (j:Nat)∧Lay wz N x.cells∧x.ok wz∧x.sm∧x.new (w.heap.size + 1)∧x.off N∧Saga x.p A H T∧Inv N wz A T∧Lay wz w.heap.size [.slice none 0 0,.slice none 0 0,.int .i64 0,.int .i64 0,.slice none 0 0,.slice none 0 0,.slice none 0 0,.bool false,.slice none 0 0,.slice none 0 0]∧Below u.heap.size w wz) (fun i _=>mm - (intOf i).toNat)
 case atStart=>exact ⟨_,rfl,0,y,[],freshH,[],by omega,rfl,Nx,oky,smy,ny,okW,hsg,hI,xR,bw⟩
 case round=>
  clear Nx oky smy ny okW hsg hI xR bw
  obtain ⟨wr,rfl,j,x,A,H,T,hj,rfl,lz,okz,smz,nz,oz,hsg,hI,xR,bw⟩:=hrel
  have hs0:=bw.size
  have HSG:=hide hsg
  have HI:=hide hI
  clear hsg hI
  by_cases hlt:j < mm
  ·obtain ⟨b,off,v,rfl,hv,hvk,hbl,kv⟩:=hL.at (show j < ln by omega)
   have buw:=hu.trans bw
   obtain ⟨y0,y1,y2,y3,y4,y5,y6,y7⟩:=XV.lay (b:=b) (o:=off + j * 8) (fun i z h=>(by rw [buw.cell (p:=⟨b,_,none⟩) hbl];exact kv i z h:wr.cell? ⟨b,off + j * 8 + i,none⟩=some z))
   have HDO:=hide (fun w' h1 h2 h3=>WDo_c x v w' h1 h2 smz h3)
   have HST:=hide (fun k=>HSG.out.step (e:=v.p) k)
   have HNX:=hide hvk
   generalize doW x.p v.p=dw at *
   have hlt':(j:Int) < (mm:Int):=by omega
   clear hv kv hvk
   go_upto_region 5 with fail
   have bn:=belowA (Below.refl _ wr) (.cells [.int .i64 v.k,.int .i64 v.w,.int .i64 v.n,.int .i64 v.c.k,.int .i64 v.c.z,.int .i64 v.c.n,.int .i64 v.c.at',.slice v.ca v.cn v.cc].toArray 75)
   have xv:=Lay.made wr [.int .i64 v.k,.int .i64 v.w,.int .i64 v.n,.int .i64 v.c.k,.int .i64 v.c.z,.int .i64 v.c.n,.int .i64 v.c.at',.slice v.ca v.cn v.cc] 75
   replace lz:=lz.below bn
   replace okz:=okz.below bn (Nat.le_refl _)
   replace xR:=xR.below bn
   replace HI:=hide (H1.out _ _ _ _ _ HI.out bn)
   replace bw:=bw.trans (bn.mono (show u.heap.size≤wr.heap.size by omega))
   have s5:=bn.size
   clear bn y0 y1 y2 y3 y4 y5 y6 y7
   generalize wr.alloc (.cells [.int .i64 v.k,.int .i64 v.w,.int .i64 v.n,.int .i64 v.c.k,.int .i64 v.c.z,.int .i64 v.c.n,.int .i64 v.c.at',.slice v.ca v.cn v.cc].toArray 75)=w5 at *
   have hT:=xv.lt
   generalize wr.heap.size=T1 at *
   have buw5:=hu.trans bw
   have hvk5:=Ints.below HNX.out buw5 (Nat.le_refl _)
   have hE5:=hE.below buw5
   obtain ⟨q0,q1,q2,q3,q4,q5,q6,q7,q8,q9⟩:=lz.ten
   have v0:=xv.cell 0 _ rfl
   have v1:=xv.cell 1 _ rfl
   have v2:=xv.cell 2 _ rfl
   have v3:=xv.cell 3 _ rfl
   have v4:=xv.cell 4 _ rfl
   have v5:=xv.cell 5 _ rfl
   have v6:=xv.cell 6 _ rfl
   have v7:=xv.cell 7 _ rfl
   have hN5:=lz.lt
   dsimp only [XV.v] at HDO
   go_wp2_with fail
   refine (HDO.out _ hE5 okz hvk5).mono ?_
   rintro e w6 ⟨⟨z,rfl,okn,smn,nn,pn⟩,hb⟩
   have s56:=hb.size
   replace lz:=lz.below hb
   replace okz:=okz.below hb (Nat.le_refl _)
   replace xR:=xR.below hb
   replace HI:=hide (H1.out _ _ _ _ _ HI.out hb)
   replace bw:=bw.trans (hb.mono (show u.heap.size≤w5.heap.size by omega))
   clear hb q0 q1 q2 q3 q4 q5 q6 q7 q8 q9 v0 v1 v2 v3 v4 v5 v6 v7 xv hE5 hvk5 HDO HNX buw5 buw
   dsimp only [WV.v]
   go_upto_region 6 with fail
   have bn:=belowA (Below.refl _ w6) (.cells z.cells.toArray 40)
   have xz:=Lay.made w6 z.cells 40
   replace lz:=lz.below bn
   replace okz:=okz.below bn (Nat.le_refl _)
   replace okn:=okn.below bn (Nat.le_refl _)
   replace xR:=xR.below bn
   replace HI:=hide (H1.out _ _ _ _ _ HI.out bn)
   replace bw:=bw.trans (bn.mono (show u.heap.size≤w6.heap.size by omega))
   have s67:=bn.size
   clear bn
   generalize w6.alloc (.cells z.cells.toArray 40)=w7 at *
   have hT2:=xz.lt
   generalize w6.heap.size=T2 at *
   cases h0:dw.2==0
   ·go_wp2
    exact ⟨⟨_,rfl,j + 1,x,A,H,T,by omega,by go_num,lz,okz,smz,nz,oz,HSG.out,HI.out,xR,bw⟩,by simp [intOf];omega⟩
   ·obtain ⟨A',H',T',hsg',hgr⟩:=HST.out (by simpa using h0)
    rw [← pn] at hsg'
    have HS':=hide hsg'
    have HG:=hide hgr
    clear hsg' hgr pn HST HSG
    obtain ⟨q0,q1,q2,q3,q4,q5,q6,q7,q8,q9⟩:=lz.ten
    obtain ⟨t0,t1,t2,t3,t4,t5,t6,t7,t8,t9⟩:=xz.ten
    have li:=lz.ice
    have hNT:N≠T2:=by omega
    have hTN:T2≠N:=by omega
    have hnN:=nn N (by omega)
    have nw8:z.new (w.heap.size + 1):=nn.mono (by omega)
    have bN:=putAll_but N z.cells w7 0
    have l8:=lz.fill (vs:=z.cells) rfl
    have o8:=okn.but bN.but hnN
    have r8:=xR.butI bN (show w.heap.size≠N by omega)
    have b8:=bw.trans (bN.below (B:=u.heap.size) (show u.heap.size≤N by omega))
    have s8:=bN.but.size
    have i8:=hide (H2.out _ _ _ _ _ (show w.heap.size≤N by omega) HI.out bN)
    obtain ⟨w8,hw8⟩:∃ o,o=putAll w7 N 0 z.cells:=⟨_,rfl⟩
    rw [← hw8] at l8 o8 r8 b8 s8 i8
    go_upto_region 8 with fail
    dsimp only [putAll,Nat.reduceAdd] at hw8
    rw [← hw8]
    clear hw8 q0 q1 q2 q3 q4 q5 q6 q7 q8 q9 t0 t1 t2 t3 t4 t5 t6 t7 t8 t9 li bN lz xR bw xz okz okn HI hNT hTN
    have hN8:=l8.lt
    have HC:=hide (HF.out N z w8 A T A' H' T' (by omega) hN8 i8.out (hE.below (hu.trans b8)) o8 smn HS'.out HG.out)
    dsimp only [WV.v] at HC
    obtain ⟨q0,q1,q2,q3,q4,q5,q6,q7,q8,q9⟩:=l8.ten
    go_wp2_with fail
    refine HC.out.mono ?_
    rintro e w9 ⟨rfl,i9,hop⟩
    have l9:=hop.lay l8 (by omega)
    have o9:=hop.world o8 (nw8.mono (by omega))
    have r9:=hop.lay r8 (Nat.le_refl _)
    have b9:=b8.trans (hop.keep (by omega))
    have I9:=hide i9
    clear q0 q1 q2 q3 q4 q5 q6 q7 q8 q9 hop l8 o8 r8 b8 i8 i9 HC
    go_wp2
    exact ⟨⟨_,rfl,j + 1,z,A',H',T',by omega,by go_num,l9,o9,smn,nw8,hnN,HS'.out,I9.out,r9,b9⟩,by simp [intOf];omega⟩
  ·obtain rfl:j=mm:=by omega
   obtain ⟨q0,q1,q2,q3,q4,q5,q6,q7,q8,q9⟩:=lz.ten
   obtain ⟨e0,e1,e2,e3,e4,e5,e6,e7,e8,e9⟩:=Lay.ten (x:=WV.zero) xR
   have ice:=xR.ice
   dsimp only [WV.zero,HV.zero,DV.zero,KV.zero,zeroB] at e0 e1 e2 e3 e4 e5 e6 e7 e8 e9
   have bt:=putAll_but w.heap.size x.cells wr 0
   have ok9:=okz.but bt.but (nz _ (by omega))
   have zB:=xR.fill (vs:=x.cells) rfl
   have b9:=bw.trans (bt.below (B:=u.heap.size) huw)
   dsimp only [putAll,Nat.reduceAdd] at ok9 zB b9
   clear okz bt lz xR bw HI
   go_wp2
   obtain ⟨z0,z1,z2,z3,z4,z5,z6,z7,z8,z9⟩:=zB.ten
   exact bodyPost_ret (v:=.tuple #[x.v,.bool true]) (by simp [results,Tryz.results8,go_sem,z0,z1,z2,z3,z4,z5,z6,z7,z8,z9]) rfl
    ⟨⟨x,A,H,T,rfl,ok9,smz,nz.mono (by omega),HSG.out⟩,b9⟩
theorem StoryStands_c (la:Option Addr) (ln lc:Nat) (L:List XV) (w:World) (hE:Env w) (hL:Rows' hapK w la ln lc L):Calls Tryz.prog 5 #[.slice la ln lc] w fun e w'=>e=.returned (.bool true)∧Below w.heap.size w w':=by
 have HP:=hide (playedStands_c la ln lc L w w (fun _ _ _ _=>True) hE hL (Below.refl _ _) (fun _ _ _ _=>trivial) (fun _ _ _ _ _ _ _=>trivial) (fun _ _ _ _ _ _ _ _=>trivial) (fun k x w' A T A' H' T' _ _ _ hE' hx hs hg _=>(sstands_c x w' hE' hx hs hg).mono fun e w'' ⟨h1,h2⟩=>⟨h1,trivial,.low h2⟩))
 go_enter Tryz.func5,Tryz.ntmps5
 go_wp2_with fail
 refine HP.out.mono ?_
 rintro e w1 ⟨⟨x,A,H,T,rfl,-,-,-,-⟩,bw⟩
 dsimp only [WV.v]
 replace hE:=hE.below bw
 go_upto_region 2 with fail
 have Bx:=Lay.made w1 x.cells 40
 have bn:=belowA (Below.refl _ w1) (.cells x.cells.toArray 40)
 generalize w1.heap.size=B at Bx
 generalize w1.alloc (.cells x.cells.toArray 40)=w2 at *
 replace hE:=hE.below bn
 replace bw:=belowT bw bn
 clear bn Bx
 go_wp2_with fail
 refine (told_w _ hE).mono ?_
 rintro e w3 ⟨rfl,hb⟩
 replace bw:=belowT bw hb
 go_wp2
 go_ret
 exact ⟨rfl,bw⟩
end Go.Proofs.YtabafikicbkkdaaGreatDoor
namespace Go.Proofs.YtabafikicbkkdaaGreatDoor
open Go.RowKit
set_option linter.unusedVariables false
set_option maxHeartbeats 2000000
set_option maxRecDepth 100000
set_option linter.unusedSimpArgs false
theorem asked_answers {x:PW} {m:PM} {A:List PR} (k:checkW x=0) (hu:x.u=true) (hd:x.d=⟨textL A,[]⟩) (hall:∀ r∈A,checkR r=0) (hA:A.length < 80) (hn:(nextH x.h ⟨m.w,m.s,m.c⟩).2.2=0) :
  ∃ y:PW,askedW x m=postW y ⟨true,m.w,m.s,zeroC,(nextH x.h ⟨m.w,m.s,m.c⟩).2.1⟩∧y.n=x.n∧y.m=x.m∧y.u=x.u:=by
 obtain ⟨h1,h2,h3⟩:=nextH_ok hn
 rcases h3 with ⟨e,q⟩|⟨e,q⟩
 ·refine ⟨x,?_,rfl,rfl,rfl⟩
  unfold askedW
  rw [if_neg (by simp [hn]),if_pos e,q]
 ·have hne:¬ m.s=(lastH x.h m.w).s:=by simp only at e;omega
  obtain ⟨s1,s2⟩:=sync_one hall h2 hA
  refine ⟨{x with h:=(nextH x.h ⟨m.w,m.s,m.c⟩).1,d:=⟨textL (A++[⟨m.w,m.s,m.c⟩]),[]⟩},?_,rfl,rfl,rfl⟩
  unfold askedW
  rw [if_neg (by simp [hn]),if_neg hne,hd,s1,if_neg (by simp),s2,if_neg (by simp)]
theorem post_first {x:PW} {m:PM} (h:x.m=[]):(postW x m).m=[m]:=by
 unfold postW
 rw [if_pos (by rw [h];decide)]
 simp [h]
theorem Saga.boots {x:PW} {A:List PR} {H:PH} {T:List PA} (h:Saga x A H T) (hu:x.u=false):(doW x ⟨7,0,0,zeroC⟩).2=0∧(doW x ⟨7,0,0,zeroC⟩).1.u=true:=by
 obtain ⟨e1,e2,_,_⟩:=h.tells
 have e3:replayH A=(H,0):=by unfold replayH;rw [if_neg (by have:=h.len;omega)];exact h.log.rep
 unfold doW happenW
 rw [if_neg (by simp [h.right]),if_neg (by simp),if_neg (by simp),if_pos rfl,if_neg (by simp [hu])]
 simp only [e1,e3]
 exact ⟨rfl,rfl⟩
theorem boots_not {x:PW} (hu:x.u=true):(doW x ⟨7,0,0,zeroC⟩).2≠0:=by
 unfold doW happenW
 split
 ·rename_i q;exact q
 ·rw [if_neg (by simp),if_neg (by simp),if_pos rfl]
  simp [hu]
theorem loses {x:PW} (k:checkW x=0) (hm:x.m≠[]):doW x ⟨5,0,0,zeroC⟩=(goneW x 0,0):=by
 obtain ⟨m,l,e⟩:=List.exists_cons_of_ne_nil hm
 unfold doW happenW
 rw [if_neg (by simp [k]),if_pos (.inr (.inr rfl)),if_neg (by rw [e];simp)]
 simp [e]
theorem Saga.calm {x:PW} {A:List PR} {H:PH} {T:List PA} (h:Saga x A H T) (hu:x.u=true) (hm:x.m=[]) (hA:A.length < 80) {j:Nat} (hj:j < 3) (hw:(handW x (j:Int)).w=true) :
  ∃ x1 x2 x3 A' H' T',doW x ⟨2,j,0,zeroC⟩=(x1,0)∧x1.m.length=1∧doW x1 ⟨3,0,0,zeroC⟩=(x2,0)∧x2.m.length=1∧doW x2 ⟨3,0,0,zeroC⟩=(x3,0)∧x3.m=[]∧x3.u=true∧
   Saga x3 A' H' T'∧A'.length≤A.length + 1∧(handW x3 (j:Int)).w=false∧∀ i:Nat,i≠j→handW x3 (i:Int)=handW x (i:Int):=by
 have hjr:0≤(j:Int)∧(j:Int)≤2:=by omega
 obtain ⟨hmem,hck⟩:=hand_mem h.right hjr
 obtain ⟨w1,w2,w3⟩:=waits_facts hck hw
 have hH:=h.hall hu
 -- it asks again
 have d1:doW x ⟨2,j,0,zeroC⟩=(postW x ⟨false,j,(handW x j).s,(handW x j).c,zeroA⟩,0):=by
  unfold doW happenW
  rw [if_neg (by simp [h.right]),if_neg (by simp),if_neg (by simp),if_neg (by simp),if_neg (by simp),if_pos rfl,if_neg (by simp [inB];omega),if_neg (by simp [hw])]
 have hmail:checkM ⟨false,(j:Int),(handW x j).s,(handW x j).c,zeroA⟩=0:=checkM_mk hjr w1 (fun e=>by cases e) (fun _=>⟨rfl,w3⟩)
 have g1:Saga (postW x ⟨false,j,(handW x j).s,(handW x j).c,zeroA⟩) A H T:=h.post hmail (fun _=>Int.le_refl _) (fun e=>by cases e)
 have m1:=post_first (m:=⟨false,(j:Int),(handW x j).s,(handW x j).c,zeroA⟩) hm
 obtain ⟨p1,p2,p3,p4,_,_,_⟩:=post_same x ⟨false,(j:Int),(handW x j).s,(handW x j).c,zeroA⟩
 generalize hx1:postW x ⟨false,j,(handW x j).s,(handW x j).c,zeroA⟩=x1 at *
 clear hx1
 have hh1:∀ i:Int,handW x1 i=handW x i:=fun i=>by unfold handW;rw [p4]
 -- the hall hears
 have g2:=g1.gone 0
 have q1:(goneW x1 0).m=[]:=by simp [goneW,m1]
 have q2:(goneW x1 0).u=true:=by show x1.u=true;rw [p3];exact hu
 have q3:(goneW x1 0).h=x.h:=p1
 have q4:(goneW x1 0).d=⟨textL A,[]⟩:=by show x1.d=_;rw [p2];exact h.disk
 have q5:(goneW x1 0).n=x.n:=p4
 have hn:(nextH (goneW x1 0).h ⟨(j:Int),(handW x j).s,(handW x j).c⟩).2.2=0:=by
  rw [q3,hH]
  have hup:=h.upto j hj
  have hr:checkR ⟨(j:Int),(handW x j).s,(handW x j).c⟩=0:=mail_rec hmail rfl
  unfold nextH
  rw [if_neg (by simp [h.log.ok]),if_neg (by simp [hr])]
  simp only
  split
  ·rfl
  ·rename_i c
   rw [if_neg (by omega)]
 have c1:=next_answer hn
 obtain ⟨y,a1,a2,a3,a4⟩:=asked_answers (m:=⟨false,(j:Int),(handW x j).s,(handW x j).c,zeroA⟩) g2.right q2 q4 h.log.right hA hn
 simp only at a1
 have g3:=g2.asked q2 rfl hmail (by rw [show handW (goneW x1 0) (j:Int)=handW x (j:Int) from hh1 j];exact Int.le_refl _)
 have d2:doW x1 ⟨3,0,0,zeroC⟩=(askedW (goneW x1 0) ⟨false,(j:Int),(handW x j).s,(handW x j).c,zeroA⟩,0):=by
  unfold doW happenW
  rw [if_neg (by simp [g1.right]),if_pos (.inl rfl),if_neg (by rw [m1];simp)]
  simp [m1,comesW,q2]
 rw [a1] at g3 d2
 have m2:=post_first (m:=⟨true,(j:Int),(handW x j).s,zeroC,(nextH (goneW x1 0).h ⟨(j:Int),(handW x j).s,(handW x j).c⟩).2.1⟩) (a3.trans q1)
 obtain ⟨r1,r2,r3,r4,_,_,_⟩:=post_same y ⟨true,(j:Int),(handW x j).s,zeroC,(nextH (goneW x1 0).h ⟨(j:Int),(handW x j).s,(handW x j).c⟩).2.1⟩
 generalize (nextH (goneW x1 0).h ⟨(j:Int),(handW x j).s,(handW x j).c⟩).2.1=an at *
 generalize hx2:postW y ⟨true,(j:Int),(handW x j).s,zeroC,an⟩=x2 at *
 clear hx2
 obtain ⟨A',H',T',g4,gr⟩:=g3
 have hl:A'.length≤A.length + 1:=by
  rcases gr with ⟨e,_⟩|⟨r,a,e,_⟩
  ·rw [e];omega
  ·rw [e];simp
 -- the hand hears
 have hh2:∀ i:Int,handW (goneW x2 0) i=handW x i:=fun i=>by unfold handW;show x2.n.getD _ _=_;rw [r4,a2,q5]
 have g5:=g4.gone 0
 have hk2:checkN (handW (goneW x2 0) (j:Int))=0:=by rw [hh2];exact hck
 obtain ⟨e1,e2⟩:=hear_ok hck hw c1
 have d3:doW x2 ⟨3,0,0,zeroC⟩=(setW (goneW x2 0) (j:Int) ⟨(handW x j).s,false,zeroC,(handW x j).g++[an]⟩,0):=by
  unfold doW happenW
  rw [if_neg (by simp [g4.right]),if_pos (.inl rfl),if_neg (by rw [m2];simp)]
  simp [m2,comesW,hh2,e1]
 have d4:(doW x2 ⟨3,0,0,zeroC⟩).2=0:=by rw [d3]
 obtain ⟨A3,H3,T3,g6,gr3⟩:=(g5.comes (m:=⟨true,(j:Int),(handW x j).s,zeroC,an⟩) (checkM_mk hjr w1 (fun _=>⟨rfl,c1⟩) (fun e=>by cases e)) (fun e=>by cases e) (fun e=>g4.back _ (by rw [m2];simp) rfl) (by unfold comesW;simp [hh2,e1]))
 have e3:(comesW (goneW x2 0) ⟨true,(j:Int),(handW x j).s,zeroC,an⟩).1=setW (goneW x2 0) (j:Int) ⟨(handW x j).s,false,zeroC,(handW x j).g++[an]⟩:=by unfold comesW;simp [hh2,e1]
 rw [e3] at g6
 have hlen:(goneW x2 0).n.length=3:=(checkW_ok g5.right).1
 have hset:∀ i:Int,0≤i→handW (setW (goneW x2 0) (j:Int) ⟨(handW x j).s,false,zeroC,(handW x j).g++[an]⟩) i=if i=j then ⟨(handW x j).s,false,zeroC,(handW x j).g++[an]⟩ else handW x i:=fun i hi=>by
  rw [handW_set hlen hjr _ hi,hh2]
 have gs:A3=A'∨∃ r,A3=A'++[r]:=by
  rcases gr3 with ⟨e,_⟩|⟨r,a,e,_⟩
  ·exact .inl e
  ·exact .inr ⟨r,e⟩
 have hA3:A3=A':=by
  have t1:=g6.disk
  have t2:=g4.disk
  exact textL_inj g6.log.right g4.log.right g6.len g4.len (by have:(setW (goneW x2 0) (j:Int) ⟨(handW x j).s,false,zeroC,(handW x j).g++[an]⟩).d=x2.d:=rfl;rw [this,t2] at t1;exact (congrArg PK.s t1).symm)
 refine ⟨x1,x2,_,A3,H3,T3,d1,by rw [m1];rfl,d2,by rw [m2];rfl,d3,by simp [setW,goneW,m2],?_,g6,by rw [hA3];exact hl,?_,fun i hi=>?_⟩
 ·show x2.u=true
  rw [r3,a4]
  exact q2
 ·rw [hset j (by omega),if_pos rfl]
 ·rw [hset i (by omega),if_neg (by omega)]
end Go.Proofs.YtabafikicbkkdaaGreatDoor
