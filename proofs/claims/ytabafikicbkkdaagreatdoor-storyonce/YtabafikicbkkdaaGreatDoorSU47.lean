/- The contract of the law's sameAnswer; no condition but that the arguments read as data. -/
import Derived.Test.YtabafikicbkkdaaGreatDoorSU9
import Derived.Test.YtabafikicbkkdaaGreatDoorSU1
import Derived.Test.YtabafikicbkkdaaGreatDoorSU35
import Derived.Deep.RegionHeld3
import Derived.Test.YtabafikicbkkdaaGreatDoorSU46
import Derived.Test.YtabafikicbkkdaaGreatDoorSU14
import Derived.Test.YtabafikicbkkdaaGreatDoorSU8
namespace Go.Proofs.YtabafikicbkkdaaGreatDoor
open Go.RowKit
set_option linter.unusedVariables false
set_option maxHeartbeats 4000000
set_option maxRecDepth 100000
set_option linter.unusedSimpArgs false
theorem lsameA_c (x y:AV) (w:World) (hx:x.ok w) (hy:y.ok w):Calls Tryz.prog 15 #[x.v,y.v] w fun e w'=>e=.returned (.bool (sameA x.p y.p))∧Below w.heap.size w w':=by
 obtain ⟨e1,t1,a1,n1,c1,l1⟩:=x
 obtain ⟨e2,t2,a2,n2,c2,l2⟩:=y
 dsimp only [AV.v,AV.p]
 have h1:Ints w a1 n1 c1 l1:=hx
 have h2:Ints w a2 n2 c2 l2:=hy
 have HS:Hid (sameA ⟨e1,t1,l1⟩ ⟨e2,t2,l2⟩=(e1==e2&&(t1==t2&&decide (l1=l2)))):=hide (by rw [Bool.eq_iff_iff];simp [sameA])
 cases he:e1==e2
 ·go_enter Tryz.func15,Tryz.ntmps15
  go_wp2
  go_ret
  exact ⟨ret_bool (by rw [HS.out,he];rfl),by (repeat first|exact bel0|assumption|refine bel1 ?_|refine bel2 ?_|refine bel3 ?_|refine belowT ?_ (by assumption)|refine bel5 ?_ (by simp;try omega))⟩
 ·cases ht:t1==t2
  ·go_enter Tryz.func15,Tryz.ntmps15
   go_wp2
   go_ret
   exact ⟨ret_bool (by rw [HS.out,he,ht];rfl),by (repeat first|exact bel0|assumption|refine bel1 ?_|refine bel2 ?_|refine bel3 ?_|refine belowT ?_ (by assumption)|refine bel5 ?_ (by simp;try omega))⟩
  ·go_enter Tryz.func15,Tryz.ntmps15
   go_wp2_with fail
   refine (Equal_c a1 a2 n1 n2 c1 c2 l1 l2 _ (h1.below (B:=w.heap.size) (by (repeat first|exact bel0|assumption|refine bel1 ?_|refine bel2 ?_|refine bel3 ?_|refine belowT ?_ (by assumption)|refine bel5 ?_ (by simp;try omega))) (Nat.le_refl _)) (h2.below (B:=w.heap.size) (by (repeat first|exact bel0|assumption|refine bel1 ?_|refine bel2 ?_|refine bel3 ?_|refine belowT ?_ (by assumption)|refine bel5 ?_ (by simp;try omega))) (Nat.le_refl _))).mono ?_
   rintro e w1 ⟨rfl,q,rfl⟩
   go_wp2
   go_ret
   exact ⟨ret_bool (by rw [HS.out,he,ht];simp),by (repeat first|exact bel0|assumption|refine bel1 ?_|refine bel2 ?_|refine bel3 ?_|refine belowT ?_ (by assumption)|refine bel5 ?_ (by simp;try omega))⟩
end Go.Proofs.YtabafikicbkkdaaGreatDoor
namespace Go.Proofs.YtabafikicbkkdaaGreatDoor
open Go.RowKit
set_option linter.unusedVariables false
set_option maxHeartbeats 4000000
set_option maxRecDepth 100000
set_option linter.unusedSimpArgs false
theorem cntR_step {A:List PR} {i:Nat} {r:PR} (h:A[i]?=some r) (j:Int):cntR (A.take (i + 1)) j=cntR (A.take i) j + if r.w=j then 1 else 0:=by
 rw [take_succ_of h,cntR_app,cntR_one]
theorem cntR_le (A:List PR) (j:Int):cntR A j≤A.length:=List.length_filter_le _ _
theorem sonce_c (x:WV) (w:World) (hE:Env w) (hk:x.ok w) (hs:x.sm) {A:List PR} {H:PH} {T:List PA} (hsg:Saga x.p A H T):Calls Tryz.prog 17 #[x.v] w fun e w'=>e=.returned (.bool true)∧Below w.heap.size w w':=by
 have HDN:=hide (fun w' h1 h2=>Done_w x w' h1 h2 hs)
 have HTL:=hide (fun w' h1 h2=>Told_w x w' h1 h2 hs)
 rw [hsg.doneS] at HDN
 rw [hsg.toldS] at HTL
 have HSG:=hide hsg
 clear hsg
 have x0:=Lay.made w x.cells 40
 have bw:=belowA (Below.refl _ w) (.cells x.cells.toArray 40)
 replace hk:=hk.below bw (Nat.le_refl _)
 replace hE:=hE.below bw
 go_enter Tryz.func17,Tryz.ntmps17
 go_wp2_with fail
 generalize w.alloc (.cells x.cells.toArray 40)=w1 at *
 refine (HDN.out _ hE hk).mono ?_
 rintro e w2 ⟨⟨la,ln,lc,X,rfl,hX,fX,pX⟩,hb⟩
 replace x0:=x0.below hb
 replace hk:=hk.below hb (Nat.le_refl _)
 replace hE:=hE.below hb
 replace bw:=belowT bw hb
 clear hb HDN fX
 obtain ⟨q0,q1,q2,q3,q4,q5,q6,q7,q8,q9⟩:=x0.ten
 go_wp2_with fail
 refine (HTL.out _ hE hk).mono ?_
 rintro e w3 ⟨⟨ta,tn,tc,Y,rfl,hY,_,pY⟩,hb⟩
 replace x0:=x0.below hb
 replace hk:=hk.below hb (Nat.le_refl _)
 replace hX:=hX.below hb (Nat.le_refl _)
 replace bw:=belowT bw hb
 clear hb HTL hE q0 q1 q2 q3 q4 q5 q6 q7 q8 q9
 have hAl:A.length=ln:=by rw [← hX.len,← List.length_map (f:=RV.p),pX]
 have hTl:T.length=tn:=by rw [← hY.len,← List.length_map (f:=AV.p),pY]
 obtain rfl:tn=ln:=by have:=HSG.out.log.len;omega
 have hA80:=HSG.out.len
 have hlen3:=(checkW_ok HSG.out.right).1
 have hN3:x.N.length=3:=by simpa [WV.p] using hlen3
 have hn3:x.nn=3:=by rw [← hk.n.len,hN3]
 obtain ⟨nb,no,hna,hnb,hnc⟩:=hk.n.lies (show 0 < x.nn by omega)
 have q8:=x0.cell 8 _ rfl
 rw [hna,hn3] at q8
 have HNK:=hide hk.n.ok
 have BW:=hide bw
 have hmaxX:=hX.max
 have hleX:=hX.le
 clear x0 hk bw hna hn3 hlen3 hTl
 go_wp2_with fail
 go_loopw [38] (fun i wr=>∃ wz:World,wz=wr∧∃ k:Nat,k≤3∧i=.int .i64 (k:Nat)∧Below w3.heap.size w3 wz) (fun i _=>3 - (intOf i).toNat)
 case atStart=>exact ⟨_,rfl,0,by omega,rfl,Below.refl _ _⟩
 case round=>
  obtain ⟨wr,rfl,k,hk3,rfl,bw⟩:=hrel
  by_cases hlt:k < 3
  ·obtain ⟨y,hy⟩:∃ y,x.N[k]?=some y:=⟨_,List.getElem?_eq_getElem (by omega)⟩
   obtain ⟨c0,c1,c2,c3,c4,c5,c6,c7⟩:=NV.lay (b:=nb) (o:=no + k * 8) (fun i v h=>(by rw [bw.cell (p:=⟨nb,_,none⟩) hnb];exact hnc k y hy i v h:wr.cell? ⟨nb,no + k * 8 + i,none⟩=some v))
   have hyp:handW x.p (k:Int)=y.p:=by
    unfold handW
    simp [WV.p,List.getD,hy]
   have hyk:y.ok w3:=HNK.out y (List.mem_of_getElem? hy)
   have hlt':(k:Int) < (3:Int):=by omega
   have hk0:(0:Int)≤(k:Int):=by omega
   have HY:=hide hy
   clear hy
   go_upto_region 8 with fail
   have xh:=Lay.made wr y.cells 62
   have bn:=belowA (Below.refl _ wr) (.cells y.cells.toArray 62)
   dsimp only [NV.cells] at xh bn
   replace bw:=belowT bw bn
   clear bn c0 c1 c2 c3 c4 c5 c6 c7
   generalize wr.alloc _=w5 at *
   generalize wr.heap.size=B8 at *
   have B5:=hide bw
   go_wp2_with fail
   go_loopw [9,45] (fun n i wq=>∃ wz:World,wz=wq∧∃ j:Nat,j≤tn∧i=.int .i64 (j:Nat)∧n=.int .i64 ((cntR (A.take j) (k:Int):Nat):Int)∧Below w5.heap.size w5 wz) (fun _ i _=>tn - (intOf i).toNat)
   case atStart=>exact ⟨_,rfl,0,by omega,rfl,rfl,Below.refl _ _⟩
   case round=>
    obtain ⟨wq,rfl,j,hjn,rfl,rfl,bq⟩:=hrel
    have b3q:Below w3.heap.size w3 wq:=bw.trans (bq.mono bw.size)
    by_cases hj:j < tn
    ·obtain ⟨z,hz⟩:∃ z,X[j]?=some z:=⟨_,List.getElem?_eq_getElem (by rw [hX.len];exact hj)⟩
     obtain ⟨lb,lo,rfl,hlb,hlc⟩:=hX.row.resolve_left (by omega)
     have kz:=hlc j z hz
     have c0:=keepc b3q (kz 0 _ rfl)
     have c1:=keepc b3q (kz 1 _ rfl)
     have c2:=keepc b3q (kz 2 _ rfl)
     have c3:=keepc b3q (kz 3 _ rfl)
     have c4:=keepc b3q (kz 4 _ rfl)
     have c5:=keepc b3q (kz 5 _ rfl)
     have c6:=keepc b3q (kz 6 _ rfl)
     rw [Nat.add_zero] at c0
     have hzA:A[j]?=some z.p:=by rw [← pX,List.getElem?_map,hz];rfl
     have hst:=cntR_step hzA (k:Int)
     have hord:=HSG.out.order hzA
     have hcl:cntR (A.take j) (k:Int)≤80:=Nat.le_trans (cntR_le _ _) (by rw [List.length_take];omega)
     have hj':(j:Int) < (tn:Int):=by omega
     have hj0:(0:Int)≤(j:Int):=by omega
     have HORD:=hide hord
     have HSTP:=hide hst
     clear kz hlc hz hord hst
     go_upto_region 12 with fail
     have xz:=Lay.made wq [.int .i64 z.p.w,.int .i64 z.p.s,.int .i64 z.p.c.k,.int .i64 z.p.c.z,.int .i64 z.p.c.n,.int .i64 z.p.c.at',.slice z.a z.n z.c] 52
     have bn:=belowA (Below.refl _ wq) (.cells [.int .i64 z.p.w,.int .i64 z.p.s,.int .i64 z.p.c.k,.int .i64 z.p.c.z,.int .i64 z.p.c.n,.int .i64 z.p.c.at',.slice z.a z.n z.c].toArray 52)
     have xh7:=xh.below (bq.trans (bn.mono bq.size))
     replace b3q:=belowT b3q bn
     replace bq:=belowT bq bn
     clear bn c0 c1 c2 c3 c4 c5 c6
     generalize wq.alloc (.cells [.int .i64 z.p.w,.int .i64 z.p.s,.int .i64 z.p.c.k,.int .i64 z.p.c.z,.int .i64 z.p.c.n,.int .i64 z.p.c.at',.slice z.a z.n z.c].toArray 52)=w7 at *
     generalize wq.heap.size=B11 at *
     have z0:=xz.cell 0 _ rfl
     have z1:=xz.cell 1 _ rfl
     have h7:=xh7.cell 7 _ rfl
     generalize hcc:cntR (A.take j) (k:Int)=c at *
     have HCC:=hide hcc
     clear hcc
     have hord:=HORD.out
     have hst:=HSTP.out
     clear HORD HSTP
     cases hw:z.p.w !=(k:Int)
     ·have hwk:z.p.w=(k:Int):=by simpa using hw
      rw [hwk,HCC.out] at hord
      rw [hwk] at z0
      rw [hord.1] at z1
      rw [if_pos hwk] at hst
      have HST:=hide hst
      have HGT:=hide hord.2
      have hwr:IntKind.i64.wrap ((c:Int) + 1)=(c:Int) + 1:=IntWalk.i64_in _ ⟨by omega,by omega⟩
      have hwr2:IntKind.i64.wrap ((c:Int) + 1 - 1)=(c:Int):=by rw [IntWalk.i64_in _ ⟨by omega,by omega⟩];omega
      clear hst hord hwk hw hzA
      have hc0:(0:Int)≤(c:Int):=by omega
      have hwr3:IntKind.i64.wrap (c:Int)=(c:Int):=IntWalk.i64_in _ ⟨by omega,by omega⟩
      by_cases hg:c < y.gn
      ·have hle:(c:Int) + 1≤(y.gn:Int):=by omega
       have hcg:(c:Int) < (y.gn:Int):=by omega
       obtain ⟨gb,gf,gz,hga,hgz,hgk,hgb,hgc⟩:=hyk.g.at hg
       obtain ⟨tb,tf,u,rfl,hu,huk,htb,htc⟩:=hY.at hj
       rw [hga] at h7
       have g0:=keepc b3q (hgc 0 _ rfl)
       have g1:=keepc b3q (hgc 1 _ rfl)
       have g2:=keepc b3q (hgc 2 _ rfl)
       have t0:=keepc b3q (htc 0 _ rfl)
       have t1:=keepc b3q (htc 1 _ rfl)
       have t2:=keepc b3q (htc 2 _ rfl)
       dsimp only [ansK] at t0 t1 t2
       rw [Nat.add_zero] at g0 t0
       have e1:gz.p=u.p:=by
        have:=HGT.out (by rw [hyp];simp only [NV.p,List.length_map];rw [hyk.g.len];exact hg)
        rw [hyp,← pY] at this
        simp only [NV.p,List.getElem?_map,hgz,hu,Option.map_some,Option.some.injEq] at this
        exact this
       have HSA:=hide (fun w' h1 h2=>lsameA_c gz u w' h1 h2)
       rw [e1,sameA_self] at HSA
       have kg:=AV.ok.below hgk b3q (Nat.le_refl _)
       have ku:=AV.ok.below huk b3q (Nat.le_refl _)
       dsimp only [AV.v] at HSA
       clear hga hgc htc hgz hu e1 HGT
       go_upto_region 14 with fail
       go_cut [80] (fun v wx=>v=.bool false∧Below w7.heap.size w7 wx)
       case first=>
        go_region_held3 (fun w'=>w'.cell? ⟨B11,1,none⟩=some (.int .i64 ((c:Int) + 1))∧w'.cell? ⟨B8,7,none⟩=some (.slice (some ⟨gb,gf,none⟩) y.gn y.gc)∧w'.cell? ⟨gb,gf + c * 3,none⟩=some (.int .i64 gz.e)∧w'.cell? ⟨gb,gf + c * 3 + 1,none⟩=some (.int .i64 gz.t)∧w'.cell? ⟨gb,gf + c * 3 + 2,none⟩=some (.slice gz.a gz.n gz.c)∧w'.cell? ⟨tb,tf + j * 3,none⟩=some (.int .i64 u.e)∧w'.cell? ⟨tb,tf + j * 3 + 1,none⟩=some (.int .i64 u.t)∧w'.cell? ⟨tb,tf + j * 3 + 2,none⟩=some (.slice u.a u.n u.c)) ((first|(go_simp;done)|(simp [*,World.cell?_alloc_at,World.cell?_alloc_past,World.cell?_alloc_some,World.cell?_setCell_far];done))) (first|(go_at_call 15;refine (HSA.out _ (by refine AV.ok.below kg (B:=w7.heap.size) ?_ (Nat.le_refl _);(repeat first|exact bel0|assumption|refine bel1 ?_|refine bel2 ?_|refine bel3 ?_|refine belowT ?_ (by assumption)|refine bel5 ?_ (by simp;try omega))) (by refine AV.ok.below ku (B:=w7.heap.size) ?_ (Nat.le_refl _);(repeat first|exact bel0|assumption|refine bel1 ?_|refine bel2 ?_|refine bel3 ?_|refine belowT ?_ (by assumption)|refine bel5 ?_ (by simp;try omega)))).mono ?_;rintro e w8 ⟨rfl,hb⟩;(have m0:=keepc hb (p:=⟨B11,1,none⟩) (u:=.int .i64 ((c:Int) + 1)) (by (first|(go_simp;done)|(simp [*,World.cell?_alloc_at,World.cell?_alloc_past,World.cell?_alloc_some,World.cell?_setCell_far];done))));(have m1:=keepc hb (p:=⟨B8,7,none⟩) (u:=.slice (some ⟨gb,gf,none⟩) y.gn y.gc) (by (first|(go_simp;done)|(simp [*,World.cell?_alloc_at,World.cell?_alloc_past,World.cell?_alloc_some,World.cell?_setCell_far];done))));(have m2:=keepc hb (p:=⟨gb,gf + c * 3,none⟩) (u:=.int .i64 gz.e) (by (first|(go_simp;done)|(simp [*,World.cell?_alloc_at,World.cell?_alloc_past,World.cell?_alloc_some,World.cell?_setCell_far];done))));(have m3:=keepc hb (p:=⟨gb,gf + c * 3 + 1,none⟩) (u:=.int .i64 gz.t) (by (first|(go_simp;done)|(simp [*,World.cell?_alloc_at,World.cell?_alloc_past,World.cell?_alloc_some,World.cell?_setCell_far];done))));(have m4:=keepc hb (p:=⟨gb,gf + c * 3 + 2,none⟩) (u:=.slice gz.a gz.n gz.c) (by (first|(go_simp;done)|(simp [*,World.cell?_alloc_at,World.cell?_alloc_past,World.cell?_alloc_some,World.cell?_setCell_far];done))));(have m5:=keepc hb (p:=⟨tb,tf + j * 3,none⟩) (u:=.int .i64 u.e) (by (first|(go_simp;done)|(simp [*,World.cell?_alloc_at,World.cell?_alloc_past,World.cell?_alloc_some,World.cell?_setCell_far];done))));(have m6:=keepc hb (p:=⟨tb,tf + j * 3 + 1,none⟩) (u:=.int .i64 u.t) (by (first|(go_simp;done)|(simp [*,World.cell?_alloc_at,World.cell?_alloc_past,World.cell?_alloc_some,World.cell?_setCell_far];done))));(have m7:=keepc hb (p:=⟨tb,tf + j * 3 + 2,none⟩) (u:=.slice u.a u.n u.c) (by (first|(go_simp;done)|(simp [*,World.cell?_alloc_at,World.cell?_alloc_past,World.cell?_alloc_some,World.cell?_setCell_far];done))))))
        go_wp2_with fail
        go_meet
        case rel=>exact ⟨rfl,by clear bw b3q bq;(repeat first|exact bel0|assumption|refine bel1 ?_|refine bel2 ?_|refine bel3 ?_|refine belowT ?_ (by assumption)|refine bel5 ?_ (by simp;try omega))⟩
       case rest=>
        obtain ⟨rfl,hb⟩:=hcut
        go_wp2
        exact ⟨⟨_,rfl,j + 1,by omega,by go_num,by rw [HST.out];rfl,belowT bq hb⟩,by simp [intOf];omega⟩
      ·have hle:¬ ((c:Int) + 1≤(y.gn:Int)):=by omega
       go_upto_region 14 with fail
       go_cut [80] (fun v wx=>v=.bool false∧Below w7.heap.size w7 wx)
       case first=>
        go_quiet (fail)
        go_wp2_with fail
        go_meet
        case rel=>exact ⟨rfl,by clear bw b3q bq;(repeat first|exact bel0|assumption|refine bel1 ?_|refine bel2 ?_|refine bel3 ?_|refine belowT ?_ (by assumption)|refine bel5 ?_ (by simp;try omega))⟩
       case rest=>
        obtain ⟨rfl,hb⟩:=hcut
        go_wp2
        exact ⟨⟨_,rfl,j + 1,by omega,by go_num,by rw [HST.out];rfl,belowT bq hb⟩,by simp [intOf];omega⟩
     ·have hwk:z.p.w≠(k:Int):=by simpa using hw
      rw [if_neg hwk] at hst
      have HST:=hide hst
      clear hst hord hwk hzA
      go_wp2
      exact ⟨⟨_,rfl,j + 1,by omega,by go_num,by rw [HST.out];rfl,bq⟩,by simp [intOf];omega⟩
    ·obtain rfl:j=tn:=by omega
     rw [List.take_of_length_le (by omega)]
     have hbd:=HSG.out.bounds (show k < 3 from hlt)
     rw [hyp] at hbd
     have hgl:y.gn=y.G.length:=hyk.g.len.symm
     have hb1:¬ ((cntR A (k:Int):Nat):Int) < (y.gn:Int):=by have:=hbd.1;simp only [NV.p,List.length_map] at this;omega
     have hb2:¬ y.s < ((cntR A (k:Int):Nat):Int):=by have:=hbd.2;simp only [NV.p] at this;omega
     have xh7:=xh.below bq
     have h0:=xh7.cell 0 _ rfl
     have h7:=xh7.cell 7 _ rfl
     clear hbd hgl
     go_wp2
     exact ⟨⟨_,rfl,k + 1,by omega,by go_num,b3q⟩,by simp [intOf];omega⟩
  ·obtain rfl:k=3:=by omega
   go_wp2
   go_ret
   exact ⟨rfl,BW.out.trans (bw.mono BW.out.size)⟩
end Go.Proofs.YtabafikicbkkdaaGreatDoor
namespace Go.Proofs.YtabafikicbkkdaaGreatDoor
open Go.RowKit
set_option linter.unusedVariables false
set_option maxHeartbeats 4000000
set_option maxRecDepth 100000
set_option linter.unusedSimpArgs false
theorem playedOnce_c  (la:Option Addr) (ln lc:Nat) (L:List XV) (u w:World) (Inv:Nat→World→List PR→List PA→Prop) (hE:Env u) (hL:Rows' hapK u la ln lc L) (hu:Below u.heap.size u w)
  (h0:∀ k w',w.heap.size≤k→Below w.heap.size w w'→Inv k w' [] [])
  (h1:∀ k w' w'' A T,Inv k w' A T→Below w'.heap.size w' w''→Inv k w'' A T)
  (h2:∀ k w' w'' A T,w.heap.size≤k→Inv k w' A T→ButI k w' w''→Inv k w'' A T)
  (hF:∀ (k:Nat) (x:WV) w' A T A' H' T',w.heap.size≤k→k < w'.heap.size→Inv k w' A T→Env w'→x.ok w'→x.sm→Saga x.p A' H' T'→Grows A T A' T'→Calls Tryz.prog 17 #[x.v] w' fun e w''=>e=.returned (.bool true)∧Inv k w'' A' T'∧Hops u.heap.size w.heap.size w' w'') :
  Calls Tryz.prog 8 #[.slice la ln lc,.func (Fn.func 17) #[] #[]] w fun e w'=>(∃ (x:WV) (A:List PR) (H:PH) (T:List PA),e=.returned (.tuple #[x.v,.bool true])∧x.ok w'∧x.sm∧x.new w.heap.size∧Saga x.p A H T)∧Below u.heap.size w w':=by
 have hlm:=hL.max
 have hll:=hL.le
 have hLl:=hL.len
 have huw:=hu.size
 obtain ⟨mm,hmm⟩:∃ mm:Nat,min ln 90=mm:=⟨_,rfl⟩
 have hm1:mm≤ln:=by omega
 have hmi:min (ln:Int) 90=(mm:Int):=by omega
 have hj0:(0:Int)≤(mm:Int):=by omega
 have hj1:(mm:Int)≤(lc:Int):=by omega
 have hj2:mm≤lc:=by omega
 have hj3:¬ ((mm:Int) < 0):=by omega
 have hj4:¬ ((lc:Int) < (mm:Int)):=by omega
 have H0:=hide h0
 have H1:=hide h1
 have H2:=hide h2
 have HF:=hide hF
 clear h0 h1 h2 hF
 have xR:=Lay.made w [.slice none 0 0,.slice none 0 0,.int .i64 0,.int .i64 0,.slice none 0 0,.slice none 0 0,.slice none 0 0,.bool false,.slice none 0 0,.slice none 0 0] 40
 have bw:=belowA (Below.refl _ w) (.cells [.slice none 0 0,.slice none 0 0,.int .i64 0,.int .i64 0,.slice none 0 0,.slice none 0 0,.slice none 0 0,.bool false,.slice none 0 0,.slice none 0 0].toArray 40)
 go_enter Tryz.func8,Tryz.ntmps8
 go_wp2_with fail
 generalize w.alloc (.cells [.slice none 0 0,.slice none 0 0,.int .i64 0,.int .i64 0,.slice none 0 0,.slice none 0 0,.slice none 0 0,.bool false,.slice none 0 0,.slice none 0 0].toArray 40)=w1 at *
 refine (WNew_c _).mono ?_
 rintro e w2 ⟨⟨y,rfl,oky,smy,ny,py⟩,hb⟩
 have hl1:=xR.lt
 replace xR:=xR.below hb
 replace bw:=belowT bw hb
 replace ny:=ny.mono (show w.heap.size + 1≤_ by omega)
 clear hb
 have hs2:=bw.size
 dsimp only [WV.v]
 go_upto_region 2 with fail
 have okW:=oky.off (Nat.le_refl _)
 have hNl:=xR.lt
 have Nx:=Lay.made w2 y.cells 40
 have bn:=belowA (Below.refl _ w2) (.cells y.cells.toArray 40)
 replace xR:=xR.below bn
 replace oky:=oky.below bn (Nat.le_refl _)
 replace bw:=belowT bw bn
 clear bn
 generalize w2.alloc (.cells y.cells.toArray 40)=w3 at *
 generalize w2.heap.size=N at *
 have hNw:w.heap.size < N:=hNl
 have hI:=H0.out N _ (by omega) bw
 have hsg:Saga y.p [] freshH []:=by rw [py];exact Saga.fresh
 clear py hs2 hl1
 replace bw:Below u.heap.size w w3:=bw.mono huw
 go_wp2_with fail
 go_loopw [18] (fun i wr=>∃ wz:World,wz=wr∧∃ (j:Nat) (x:WV) (A:List PR) (H:PH) (T:List PA),j≤mm∧i=.int .i64 (j:Nat)∧Lay wz N x.cells∧x.ok wz∧x.sm∧x.new (w.heap.size + 1)∧x.off N∧Saga x.p A H T∧Inv N wz A T∧Lay wz w.heap.size [.slice none 0 0,.slice none 0 0,.int .i64 0,.int .i64 0,.slice none 0 0,.slice none 0 0,.slice none 0 0,.bool false,.slice none 0 0,.slice none 0 0]∧Below u.heap.size w wz) (fun i _=>mm - (intOf i).toNat)
 case atStart=>exact ⟨_,rfl,0,y,[],freshH,[],by omega,rfl,Nx,oky,smy,ny,okW,hsg,hI,xR,bw⟩
 case round=>
  clear Nx oky smy ny okW hsg hI xR bw
  obtain ⟨wr,rfl,j,x,A,H,T,hj,rfl,lz,okz,smz,nz,oz,hsg,hI,xR,bw⟩:=hrel
  have hs0:=bw.size
  have HSG:=hide hsg
  have HI:=hide hI
  clear hsg hI
  by_cases hlt:j < mm
  ·obtain ⟨b,off,v,rfl,hv,hvk,hbl,kv⟩:=hL.at (show j < ln by omega)
   have buw:=hu.trans bw
   obtain ⟨y0,y1,y2,y3,y4,y5,y6,y7⟩:=XV.lay (b:=b) (o:=off + j * 8) (fun i z h=>(by rw [buw.cell (p:=⟨b,_,none⟩) hbl];exact kv i z h:wr.cell? ⟨b,off + j * 8 + i,none⟩=some z))
   have HDO:=hide (fun w' h1 h2 h3=>WDo_c x v w' h1 h2 smz h3)
   have HST:=hide (fun k=>HSG.out.step (e:=v.p) k)
   have HNX:=hide hvk
   generalize doW x.p v.p=dw at *
   have hlt':(j:Int) < (mm:Int):=by omega
   clear hv kv hvk
   go_upto_region 5 with fail
   have bn:=belowA (Below.refl _ wr) (.cells [.int .i64 v.k,.int .i64 v.w,.int .i64 v.n,.int .i64 v.c.k,.int .i64 v.c.z,.int .i64 v.c.n,.int .i64 v.c.at',.slice v.ca v.cn v.cc].toArray 75)
   have xv:=Lay.made wr [.int .i64 v.k,.int .i64 v.w,.int .i64 v.n,.int .i64 v.c.k,.int .i64 v.c.z,.int .i64 v.c.n,.int .i64 v.c.at',.slice v.ca v.cn v.cc] 75
   replace lz:=lz.below bn
   replace okz:=okz.below bn (Nat.le_refl _)
   replace xR:=xR.below bn
   replace HI:=hide (H1.out _ _ _ _ _ HI.out bn)
   replace bw:=bw.trans (bn.mono (show u.heap.size≤wr.heap.size by omega))
   have s5:=bn.size
   clear bn y0 y1 y2 y3 y4 y5 y6 y7
   generalize wr.alloc (.cells [.int .i64 v.k,.int .i64 v.w,.int .i64 v.n,.int .i64 v.c.k,.int .i64 v.c.z,.int .i64 v.c.n,.int .i64 v.c.at',.slice v.ca v.cn v.cc].toArray 75)=w5 at *
   have hT:=xv.lt
   generalize wr.heap.size=T1 at *
   have buw5:=hu.trans bw
   have hvk5:=Ints.below HNX.out buw5 (Nat.le_refl _)
   have hE5:=hE.below buw5
   obtain ⟨q0,q1,q2,q3,q4,q5,q6,q7,q8,q9⟩:=lz.ten
   have v0:=xv.cell 0 _ rfl
   have v1:=xv.cell 1 _ rfl
   have v2:=xv.cell 2 _ rfl
   have v3:=xv.cell 3 _ rfl
   have v4:=xv.cell 4 _ rfl
   have v5:=xv.cell 5 _ rfl
   have v6:=xv.cell 6 _ rfl
   have v7:=xv.cell 7 _ rfl
   have hN5:=lz.lt
   dsimp only [XV.v] at HDO
   go_wp2_with fail
   refine (HDO.out _ hE5 okz hvk5).mono ?_
   rintro e w6 ⟨⟨z,rfl,okn,smn,nn,pn⟩,hb⟩
   have s56:=hb.size
   replace lz:=lz.below hb
   replace okz:=okz.below hb (Nat.le_refl _)
   replace xR:=xR.below hb
   replace HI:=hide (H1.out _ _ _ _ _ HI.out hb)
   replace bw:=bw.trans (hb.mono (show u.heap.size≤w5.heap.size by omega))
   clear hb q0 q1 q2 q3 q4 q5 q6 q7 q8 q9 v0 v1 v2 v3 v4 v5 v6 v7 xv hE5 hvk5 HDO HNX buw5 buw
   dsimp only [WV.v]
   go_upto_region 6 with fail
   have bn:=belowA (Below.refl _ w6) (.cells z.cells.toArray 40)
   have xz:=Lay.made w6 z.cells 40
   replace lz:=lz.below bn
   replace okz:=okz.below bn (Nat.le_refl _)
   replace okn:=okn.below bn (Nat.le_refl _)
   replace xR:=xR.below bn
   replace HI:=hide (H1.out _ _ _ _ _ HI.out bn)
   replace bw:=bw.trans (bn.mono (show u.heap.size≤w6.heap.size by omega))
   have s67:=bn.size
   clear bn
   generalize w6.alloc (.cells z.cells.toArray 40)=w7 at *
   have hT2:=xz.lt
   generalize w6.heap.size=T2 at *
   cases h0:dw.2==0
   ·go_wp2
    exact ⟨⟨_,rfl,j + 1,x,A,H,T,by omega,by go_num,lz,okz,smz,nz,oz,HSG.out,HI.out,xR,bw⟩,by simp [intOf];omega⟩
   ·obtain ⟨A',H',T',hsg',hgr⟩:=HST.out (by simpa using h0)
    rw [← pn] at hsg'
    have HS':=hide hsg'
    have HG:=hide hgr
    clear hsg' hgr pn HST HSG
    obtain ⟨q0,q1,q2,q3,q4,q5,q6,q7,q8,q9⟩:=lz.ten
    obtain ⟨t0,t1,t2,t3,t4,t5,t6,t7,t8,t9⟩:=xz.ten
    have li:=lz.ice
    have hNT:N≠T2:=by omega
    have hTN:T2≠N:=by omega
    have hnN:=nn N (by omega)
    have nw8:z.new (w.heap.size + 1):=nn.mono (by omega)
    have bN:=putAll_but N z.cells w7 0
    have l8:=lz.fill (vs:=z.cells) rfl
    have o8:=okn.but bN.but hnN
    have r8:=xR.butI bN (show w.heap.size≠N by omega)
    have b8:=bw.trans (bN.below (B:=u.heap.size) (show u.heap.size≤N by omega))
    have s8:=bN.but.size
    have i8:=hide (H2.out _ _ _ _ _ (show w.heap.size≤N by omega) HI.out bN)
    obtain ⟨w8,hw8⟩:∃ o,o=putAll w7 N 0 z.cells:=⟨_,rfl⟩
    rw [← hw8] at l8 o8 r8 b8 s8 i8
    go_upto_region 8 with fail
    dsimp only [putAll,Nat.reduceAdd] at hw8
    rw [← hw8]
    clear hw8 q0 q1 q2 q3 q4 q5 q6 q7 q8 q9 t0 t1 t2 t3 t4 t5 t6 t7 t8 t9 li bN lz xR bw xz okz okn HI hNT hTN
    have hN8:=l8.lt
    have HC:=hide (HF.out N z w8 A T A' H' T' (by omega) hN8 i8.out (hE.below (hu.trans b8)) o8 smn HS'.out HG.out)
    dsimp only [WV.v] at HC
    obtain ⟨q0,q1,q2,q3,q4,q5,q6,q7,q8,q9⟩:=l8.ten
    go_wp2_with fail
    refine HC.out.mono ?_
    rintro e w9 ⟨rfl,i9,hop⟩
    have l9:=hop.lay l8 (by omega)
    have o9:=hop.world o8 (nw8.mono (by omega))
    have r9:=hop.lay r8 (Nat.le_refl _)
    have b9:=b8.trans (hop.keep (by omega))
    have I9:=hide i9
    clear q0 q1 q2 q3 q4 q5 q6 q7 q8 q9 hop l8 o8 r8 b8 i8 i9 HC
    go_wp2
    exact ⟨⟨_,rfl,j + 1,z,A',H',T',by omega,by go_num,l9,o9,smn,nw8,hnN,HS'.out,I9.out,r9,b9⟩,by simp [intOf];omega⟩
  ·obtain rfl:j=mm:=by omega
   obtain ⟨q0,q1,q2,q3,q4,q5,q6,q7,q8,q9⟩:=lz.ten
   obtain ⟨e0,e1,e2,e3,e4,e5,e6,e7,e8,e9⟩:=Lay.ten (x:=WV.zero) xR
   have ice:=xR.ice
   dsimp only [WV.zero,HV.zero,DV.zero,KV.zero,zeroB] at e0 e1 e2 e3 e4 e5 e6 e7 e8 e9
   have bt:=putAll_but w.heap.size x.cells wr 0
   have ok9:=okz.but bt.but (nz _ (by omega))
   have zB:=xR.fill (vs:=x.cells) rfl
   have b9:=bw.trans (bt.below (B:=u.heap.size) huw)
   dsimp only [putAll,Nat.reduceAdd] at ok9 zB b9
   clear okz bt lz xR bw HI
   go_wp2
   obtain ⟨z0,z1,z2,z3,z4,z5,z6,z7,z8,z9⟩:=zB.ten
   exact bodyPost_ret (v:=.tuple #[x.v,.bool true]) (by simp [results,Tryz.results8,go_sem,z0,z1,z2,z3,z4,z5,z6,z7,z8,z9]) rfl
    ⟨⟨x,A,H,T,rfl,ok9,smz,nz.mono (by omega),HSG.out⟩,b9⟩
theorem StoryOnce_c (la:Option Addr) (ln lc:Nat) (L:List XV) (w:World) (hE:Env w) (hL:Rows' hapK w la ln lc L):Calls Tryz.prog 4 #[.slice la ln lc] w fun e w'=>e=.returned (.bool true)∧Below w.heap.size w w':=by
 have HP:=hide (playedOnce_c la ln lc L w w (fun _ _ _ _=>True) hE hL (Below.refl _ _) (fun _ _ _ _=>trivial) (fun _ _ _ _ _ _ _=>trivial) (fun _ _ _ _ _ _ _ _=>trivial) (fun k x w' A T A' H' T' _ _ _ hE' hx hs hg _=>(sonce_c x w' hE' hx hs hg).mono fun e w'' ⟨h1,h2⟩=>⟨h1,trivial,.low h2⟩))
 go_enter Tryz.func4,Tryz.ntmps4
 go_wp2_with fail
 refine HP.out.mono ?_
 rintro e w1 ⟨⟨x,A,H,T,rfl,-,-,-,-⟩,bw⟩
 dsimp only [WV.v]
 replace hE:=hE.below bw
 go_upto_region 2 with fail
 have Bx:=Lay.made w1 x.cells 40
 have bn:=belowA (Below.refl _ w1) (.cells x.cells.toArray 40)
 generalize w1.heap.size=B at Bx
 generalize w1.alloc (.cells x.cells.toArray 40)=w2 at *
 replace hE:=hE.below bn
 replace bw:=belowT bw bn
 clear bn Bx
 go_wp2_with fail
 refine (told_w _ hE).mono ?_
 rintro e w3 ⟨rfl,hb⟩
 replace bw:=belowT bw hb
 go_wp2
 go_ret
 exact ⟨rfl,bw⟩
end Go.Proofs.YtabafikicbkkdaaGreatDoor
namespace Go.Proofs.YtabafikicbkkdaaGreatDoor
open Go.RowKit
set_option linter.unusedVariables false
set_option maxHeartbeats 4000000
set_option maxRecDepth 100000
set_option linter.unusedSimpArgs false
def sameRs:List PR→List PR→Bool
 |[],[]=>true
 |a :: A,b :: B=>sameR a b&&sameRs A B
 |[],_ :: _=>false
 |_ :: _,[]=>false
theorem sameRs_iff:∀ A B:List PR,sameRs A B=true↔A=B
 |[],[]=>by simp [sameRs]
 |a :: A,b :: B=>by simp [sameRs,sameR_iff,sameRs_iff A B]
 |[],b :: B=>by simp [sameRs]
 |a :: A,[]=>by simp [sameRs]
theorem sameRs_t {A B:List PR} (h:A=B):sameRs A B=true:=(sameRs_iff A B).2 h
theorem sameRs_f {A B:List PR} (h:A≠B):sameRs A B=false:=by
 cases e:sameRs A B with
 |false=>rfl
 |true=>exact absurd ((sameRs_iff A B).1 e) h
end Go.Proofs.YtabafikicbkkdaaGreatDoor
namespace Go.Proofs.YtabafikicbkkdaaGreatDoor
open Go.RowKit
set_option linter.unusedVariables false
set_option maxHeartbeats 4000000
set_option maxRecDepth 100000
set_option linter.unusedSimpArgs false
theorem EqR_some (b1 o1 m1 b2 o2 m2 n:Nat) (X Y:List RV) (w:World) (h1:Recs w (some ⟨b1,o1,none⟩) n m1 X) (h2:Recs w (some ⟨b2,o2,none⟩) n m2 Y)
  (hr1:∀ i x,X[i]?=some x→∀ j v,x.cells[j]?=some v→w.cell? ⟨b1,o1 + i * 7 + j,none⟩=some v)
  (hr2:∀ i x,Y[i]?=some x→∀ j v,x.cells[j]?=some v→w.cell? ⟨b2,o2 + i * 7 + j,none⟩=some v) :
  Calls Tryz.prog 12 #[.slice (some ⟨b1,o1,none⟩) n m1,.slice (some ⟨b2,o2,none⟩) n m2,.func (Fn.func 13) #[] #[]] w fun e w'=>e=.returned (.bool (sameRs (X.map RV.p) (Y.map RV.p)))∧Below w.heap.size w w':=by
 have hlen1:=hide h1.len
 have hlen2:=hide h2.len
 have hmax:=h1.max
 have hle:=h1.le
 go_enter Tryz.func12,Tryz.ntmps12
 go_wp2
 go_loopw [17] (fun i wr=>∃ k:Nat,k≤n∧i=.int .i64 k∧(X.take k).map RV.p=(Y.take k).map RV.p∧Below w.heap.size w wr) (fun i _=>n - (intOf i).toNat)
 case atStart=>exact ⟨0,by omega,rfl,by simp,Below.refl _ _⟩
 case round=>
  obtain ⟨k,hk,rfl,hp,hbr⟩:=hrel
  have HP:=hide hp
  clear hp
  rename_i wr
  by_cases hlt:k < n
  ·obtain ⟨x,hx⟩:∃ z,X[k]?=some z:=⟨X[k]'(by rw [hlen1.out];exact hlt),by simp⟩
   obtain ⟨y,hy⟩:∃ z,Y[k]?=some z:=⟨Y[k]'(by rw [hlen2.out];exact hlt),by simp⟩
   have ix:=RV.ok.below (h1.ok x (List.mem_of_getElem? hx)) hbr (Nat.le_refl _)
   have iy:=RV.ok.below (h2.ok y (List.mem_of_getElem? hy)) hbr (Nat.le_refl _)
   have HZ:=hide hx
   have HY:=hide hy
   have HS:=hide (fun w' h k=>NSame_c x y w' h k)
   have HT:Hid (sameR x.p y.p=true→x.p=y.p):=hide (sameR_iff _ _).1
   have HF:Hid (sameR x.p y.p=false→x.p≠y.p):=hide (fun h e=>by rw [(sameR_iff _ _).2 e] at h;cases h)
   have kx:=hr1 k x hx
   have ky:=hr2 k y hy
   clear hx hy
   generalize hsm:sameR x.p y.p=sm at *
   clear hsm
   obtain ⟨⟨q1,s1,⟨k1,z1,u1,t1,d1⟩⟩,a1,n1,c1⟩:=x
   obtain ⟨⟨q2,s2,⟨k2,z2,u2,t2,d2⟩⟩,a2,n2,c2⟩:=y
   dsimp only [RV.v] at HS
   have x0:=keepc hbr (kx 0 _ rfl)
   have x1:=keepc hbr (kx 1 _ rfl)
   have x2:=keepc hbr (kx 2 _ rfl)
   have x3:=keepc hbr (kx 3 _ rfl)
   have x4:=keepc hbr (kx 4 _ rfl)
   have x5:=keepc hbr (kx 5 _ rfl)
   have x6:=keepc hbr (kx 6 _ rfl)
   have y0:=past1 (keepc hbr (ky 0 _ rfl))
   have y1:=past1 (keepc hbr (ky 1 _ rfl))
   have y2:=past1 (keepc hbr (ky 2 _ rfl))
   have y3:=past1 (keepc hbr (ky 3 _ rfl))
   have y4:=past1 (keepc hbr (ky 4 _ rfl))
   have y5:=past1 (keepc hbr (ky 5 _ rfl))
   have y6:=past1 (keepc hbr (ky 6 _ rfl))
   rw [Nat.add_zero] at x0 y0
   clear kx ky
   have hlt':(k:Int) < (n:Int):=by omega
   go_wp2_with fail
   refine (HS.out _ (RV.ok.below ix (B:=wr.heap.size) (by (repeat first|exact bel0|assumption|refine bel1 ?_|refine bel2 ?_|refine bel3 ?_|refine belowT ?_ (by assumption)|refine bel5 ?_ (by simp;try omega))) (Nat.le_refl _)) (RV.ok.below iy (B:=wr.heap.size) (by (repeat first|exact bel0|assumption|refine bel1 ?_|refine bel2 ?_|refine bel3 ?_|refine belowT ?_ (by assumption)|refine bel5 ?_ (by simp;try omega))) (Nat.le_refl _))).mono ?_
   rintro e w9 ⟨rfl,hb9⟩
   have b9:Below w.heap.size w w9:=by (repeat first|exact bel0|assumption|refine bel1 ?_|refine bel2 ?_|refine bel3 ?_|refine belowT ?_ (by assumption)|refine bel5 ?_ (by simp;try omega))
   clear hb9
   cases sm
   ·have HNE:=hide (HF.out rfl)
    clear HF HT
    go_wp2
    go_ret
    refine ⟨ret_bool (sameRs_f fun e=>?_).symm,b9⟩
    have:=congrArg (fun L=>L[k]?) e
    simp only [List.getElem?_map,HZ.out,HY.out,Option.map_some,Option.some.injEq] at this
    exact HNE.out this
   ·have HEQ:=hide (HT.out rfl)
    clear HF HT
    go_wp2
    have e:=HEQ.out
    refine ⟨⟨k + 1,by omega,by go_num,?_,b9⟩,by simp [intOf];omega⟩
    obtain ⟨g1,g2⟩:=List.getElem?_eq_some_iff.1 HZ.out
    obtain ⟨g3,g4⟩:=List.getElem?_eq_some_iff.1 HY.out
    rw [List.take_succ_eq_append_getElem g1,List.take_succ_eq_append_getElem g3,List.map_append,List.map_append,HP.out,g2,g4]
    simpa using e
  ·obtain rfl:k=n:=by omega
   go_wp2
   go_ret
   have hp:=HP.out
   rw [List.take_of_length_le (by rw [hlen1.out];omega),List.take_of_length_le (by rw [hlen2.out];omega)] at hp
   exact ⟨ret_bool (sameRs_t hp).symm,hbr⟩
theorem EqR_ne (a1 a2:Option Addr) (n1 n2 c1 c2:Nat) (fv:Value) (w:World) (hne:n1≠n2) (hm1:n1≤9223372036854775807) (hm2:n2≤9223372036854775807) :
  Calls Tryz.prog 12 #[.slice a1 n1 c1,.slice a2 n2 c2,fv] w fun e w'=>e=.returned (.bool false)∧w'=w:=by
 have hb:((n1:Int) !=(n2:Int))=true:=by simp;omega
 go_enter Tryz.func12,Tryz.ntmps12
 go_wp2
 go_ret
 exact ⟨rfl,rfl⟩
theorem EqR_zero (a1 a2:Option Addr) (c1 c2:Nat) (fv:Value) (w:World) :
  Calls Tryz.prog 12 #[.slice a1 0 c1,.slice a2 0 c2,fv] w fun e w'=>e=.returned (.bool true)∧w'=w:=by
 go_enter Tryz.func12,Tryz.ntmps12
 go_wp2
 refine wp_loop_rounds 1 ?_
 rw [rounds_succ]
 go_wp2
 go_ret
 exact ⟨rfl,rfl⟩
theorem EqR_c (a1 a2:Option Addr) (n1 n2 c1 c2:Nat) (X Y:List RV) (w:World) (h1:Recs w a1 n1 c1 X) (h2:Recs w a2 n2 c2 Y) :
  Calls Tryz.prog 12 #[.slice a1 n1 c1,.slice a2 n2 c2,.func (Fn.func 13) #[] #[]] w fun e w'=>e=.returned (.bool (sameRs (X.map RV.p) (Y.map RV.p)))∧Below w.heap.size w w':=by
 by_cases hn:n1=n2
 ·subst hn
  by_cases h0:n1=0
  ·subst h0
   have e1:=h1.len
   have e2:=h2.len
   rw [List.length_eq_zero_iff] at e1 e2
   subst e1 e2
   refine (EqR_zero a1 a2 c1 c2 _ w).mono ?_
   rintro e w' ⟨rfl,rfl⟩
   exact ⟨rfl,Below.refl _ _⟩
  ·rcases h1.row with h|⟨b1,o1,rfl,_,hr1⟩
   ·omega
   ·rcases h2.row with h|⟨b2,o2,rfl,_,hr2⟩
    ·omega
    ·exact EqR_some b1 o1 c1 b2 o2 c2 n1 X Y w h1 h2 hr1 hr2
 ·have m1:=h1.max
  have m2:=h2.max
  have q1:=h1.le
  have q2:=h2.le
  refine (EqR_ne a1 a2 n1 n2 c1 c2 _ w hn (by omega) (by omega)).mono ?_
  rintro e w' ⟨rfl,rfl⟩
  refine ⟨ret_bool (sameRs_f fun e=>hn ?_).symm,Below.refl _ _⟩
  have:=congrArg List.length e
  rw [List.length_map,List.length_map,h1.len,h2.len] at this
  exact this
end Go.Proofs.YtabafikicbkkdaaGreatDoor
