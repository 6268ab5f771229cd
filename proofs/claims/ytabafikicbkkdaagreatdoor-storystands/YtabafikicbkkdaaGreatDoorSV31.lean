/- The contract of note.Parse; no condition but that the package-level variables are as their texts lay them. -/
import Derived.Test.YtabafikicbkkdaaGreatDoorSV30
import Derived.Test.YtabafikicbkkdaaGreatDoorSV8
import Derived.Test.YtabafikicbkkdaaGreatDoorSV24
import Derived.Lib.SmallJoins
namespace Go.Proofs.YtabafikicbkkdaaGreatDoor
open Go.RowKit
set_option linter.unusedVariables false
set_option maxHeartbeats 4000000
set_option maxRecDepth 100000
set_option linter.unusedSimpArgs false
def NParseRes (B:Nat) (w':World) (e:Ending) (r:PR×Int):Prop:=∃ x:RV,e=.returned (.tuple #[x.v,.int .i64 r.2])∧x.p=r.1∧x.ok w'∧∀ y,x.a=some y→B≤y.block
theorem NParseRes.zero {B:Nat} {w':World} {e:Ending} {i:Int} (h:e=.returned (.tuple #[RV.zero.v,.int .i64 i])):NParseRes B w' e (zeroR,i):=
 ⟨RV.zero,h,rfl,RV.zero_ok _,fun y e=>by cases e⟩
theorem NParse_c (s:ByteArray) (w:World) (hE:Env w) (hs:s.size≤9223372036854775807) :
  Calls Tryz.prog 75 #[.string s] w fun e w'=>NParseRes w.heap.size w' e (parseR s.data.toList)∧Below w.heap.size w w':=by
 by_cases hlong:60000 < s.size
 ·have HR:Hid (parseR s.data.toList=(zeroR,2)):=hide (by unfold parseR;rw [if_pos (by rw [Lib.size_eq] at hlong;exact hlong)])
  have h1:(60000:Int) < (s.size:Int):=by omega
  go_enter Tryz.func75,Tryz.ntmps75
  go_wp2
  refine bodyPost_ret (v:=.tuple #[RV.zero.v,.int .i64 2]) (by simp [results,Tryz.results75,go_sem,RV.v,RV.zero,zeroR,zeroC]) rfl ⟨?_,?_⟩
  ·rw [HR.out]
   exact .zero rfl
  ·(repeat first|exact bel0|assumption|refine bel1 ?_|refine bel2 ?_|refine bel3 ?_|refine belowT ?_ (by assumption)|refine bel5 ?_ (by simp;try omega))
 ·have h1:¬ (60000:Int) < (s.size:Int):=by omega
  have hl:s.data.toList.length≤60000:=by rw [Lib.size_eq] at hlong;omega
  have xR:=Lay.made w [.int .i64 0,.int .i64 0,.int .i64 0,.int .i64 0,.int .i64 0,.int .i64 0,.slice none 0 0] 52
  have bw:Below w.heap.size w (w.alloc (.cells [.int .i64 0,.int .i64 0,.int .i64 0,.int .i64 0,.int .i64 0,.int .i64 0,.slice none 0 0].toArray 52)):=by (repeat first|exact bel0|assumption|refine bel1 ?_|refine bel2 ?_|refine bel3 ?_|refine belowT ?_ (by assumption)|refine bel5 ?_ (by simp;try omega))
  go_enter Tryz.func75,Tryz.ntmps75
  go_wp2_with fail
  refine (head_c s (by omega) _ (hE.below bw)).mono ?_
  rintro e w1 ⟨hres,hb1⟩
  replace xR:=xR.below hb1
  replace bw:=belowT bw hb1
  clear hb1
  have hlt:=xR.lt
  rcases hres with ⟨v,u,t,hh,ht,rfl⟩|⟨hh,rfl⟩
  ·have HP:=hide (parseR_some hl hh)
   clear hh hl
   unfold headV
   go_upto_region 4 with fail
   have xV:=Lay.made w1 [.int .i64 v,.int .i64 u,.int .i64 0,.int .i64 0,.int .i64 0,.int .i64 0,.slice none 0 0] 52
   have hb2:Below w1.heap.size w1 (w1.alloc (.cells [.int .i64 v,.int .i64 u,.int .i64 0,.int .i64 0,.int .i64 0,.int .i64 0,.slice none 0 0].toArray 52)):=by (repeat first|exact bel0|assumption|refine bel1 ?_|refine bel2 ?_|refine bel3 ?_|refine belowT ?_ (by assumption)|refine bel5 ?_ (by simp;try omega))
   replace xR:=xR.below hb2
   replace bw:=belowT bw hb2
   clear hb2
   generalize w1.alloc (.cells [.int .i64 v,.int .i64 u,.int .i64 0,.int .i64 0,.int .i64 0,.int .i64 0,.slice none 0 0].toArray 52)=w2 at *
   go_wp2_with fail
   refine (Parse_c t _ (hE.below bw) (by omega)).mono ?_
   rintro e w3 ⟨⟨aX,nX,rfl,iX,nwX⟩,hb3⟩
   have hV2:=xV.lt
   replace xR:=xR.below hb3
   replace xV:=xV.below hb3
   replace bw:=belowT bw hb3
   have NW:=hide nwX
   clear hb3 nwX
   rw [show (⟨t.data.toList.toArray⟩:ByteArray)=t from rfl] at HP
   generalize parseC t=pr at *
   obtain ⟨⟨k,z,m,tt,d⟩,er⟩:=pr
   unfold cmdV
   dsimp only at *
   have v0:=xV.cell 0 _ rfl
   have v1:=xV.cell 1 _ rfl
   have v2:=xV.cell 2 _ rfl
   have v3:=xV.cell 3 _ rfl
   have v4:=xV.cell 4 _ rfl
   have v5:=xV.cell 5 _ rfl
   have v6:=xV.cell 6 _ rfl
   have i0:=xV.ice 0
   have i1:=xV.ice 1
   have i2:=xV.ice 2
   have i3:=xV.ice 3
   have i4:=xV.ice 4
   have i5:=xV.ice 5
   have i6:=xV.ice 6
   go_upto_region 8 with fail
   have zV:=((((xV.set 2 (.int .i64 k)).set 3 (.int .i64 z)).set 4 (.int .i64 m)).set 5 (.int .i64 tt)).set 6 (.slice aX nX nX)
   have hbV:=(((((ButI.refl w1.heap.size w3).step 2 (.int .i64 k)).step 3 (.int .i64 z)).step 4 (.int .i64 m)).step 5 (.int .i64 tt)).step 6 (.slice aX nX nX)
   generalize ((((w3.setCell ⟨w1.heap.size,2,none⟩ (.int .i64 k)).setCell ⟨w1.heap.size,3,none⟩ (.int .i64 z)).setCell ⟨w1.heap.size,4,none⟩ (.int .i64 m)).setCell ⟨w1.heap.size,5,none⟩ (.int .i64 tt)).setCell ⟨w1.heap.size,6,none⟩ (.slice aX nX nX)=w4 at *
   clear xV v0 v1 v2 v3 v4 v5 v6 i0 i1 i2 i3 i4 i5 i6
   replace xR:=xR.butI hbV (by omega)
   replace bw:=bw.trans (hbV.below (Nat.le_of_lt hlt))
   replace iX:=Ints.but iX hbV.but (.inr fun x e=>by have:=NW.out x e;omega)
   clear hbV
   have hxR:Hid (Lay w4 w.heap.size [.int .i64 0,.int .i64 0,.int .i64 0,.int .i64 0,.int .i64 0,.int .i64 0,.slice none 0 0]):=hide xR
   have e0:=xR.cell 0 _ rfl
   have e1:=xR.cell 1 _ rfl
   have e2:=xR.cell 2 _ rfl
   have e3:=xR.cell 3 _ rfl
   have e4:=xR.cell 4 _ rfl
   have e5:=xR.cell 5 _ rfl
   have e6:=xR.cell 6 _ rfl
   have f0:=xR.ice 0
   have f1:=xR.ice 1
   have f2:=xR.ice 2
   have f3:=xR.ice 3
   have f4:=xR.ice 4
   have f5:=xR.ice 5
   have f6:=xR.ice 6
   by_cases her:er=0
   ·subst her
    have HK:=hide (fun w' hS h'=>NCheck_c ⟨⟨v,u,⟨k,z,m,tt,d⟩⟩,aX,nX,nX⟩ w' hS h')
    dsimp only [RV.v,RV.ok] at HK
    clear e0 e1 e2 e3 e4 e5 e6 f0 f1 f2 f3 f4 f5 f6
    have g0:=zV.cell 0 _ rfl
    have g1:=zV.cell 1 _ rfl
    have g2:=zV.cell 2 _ rfl
    have g3:=zV.cell 3 _ rfl
    have g4:=zV.cell 4 _ rfl
    have g5:=zV.cell 5 _ rfl
    have g6:=zV.cell 6 _ rfl
    go_wp2_with fail
    refine (HK.out _ (hE.shp.below bw) iX).mono ?_
    rintro e w5 ⟨rfl,hb5⟩
    replace xR:=xR.below hb5
    replace zV:=zV.below hb5
    replace bw:=belowT bw hb5
    replace iX:=iX.below hb5 (Nat.le_refl _)
    clear hb5 HK g0 g1 g2 g3 g4 g5 g6
    simp only [ne_eq,not_true_eq_false,if_false] at HP
    by_cases hck:checkR ⟨v,u,⟨k,z,m,tt,d⟩⟩=0
    ·rw [hck] at HP ⊢
     simp only [not_true_eq_false,if_false] at HP
     have g0:=zV.cell 0 _ rfl
     have g1:=zV.cell 1 _ rfl
     have g2:=zV.cell 2 _ rfl
     have g3:=zV.cell 3 _ rfl
     have g4:=zV.cell 4 _ rfl
     have g5:=zV.cell 5 _ rfl
     have g6:=zV.cell 6 _ rfl
     have e0:=xR.cell 0 _ rfl
     have e1:=xR.cell 1 _ rfl
     have e2:=xR.cell 2 _ rfl
     have e3:=xR.cell 3 _ rfl
     have e4:=xR.cell 4 _ rfl
     have e5:=xR.cell 5 _ rfl
     have e6:=xR.cell 6 _ rfl
     have f0:=xR.ice 0
     have f1:=xR.ice 1
     have f2:=xR.ice 2
     have f3:=xR.ice 3
     have f4:=xR.ice 4
     have f5:=xR.ice 5
     have f6:=xR.ice 6
     go_wp2
     have zB:=((((((xR.set 0 (.int .i64 (v))).set 1 (.int .i64 (u))).set 2 (.int .i64 (k))).set 3 (.int .i64 (z))).set 4 (.int .i64 (m))).set 5 (.int .i64 (tt))).set 6 (.slice aX nX nX)
     have hbut:=(((((((ButI.refl (w.heap.size) (w5)).step 0 (.int .i64 (v))).step 1 (.int .i64 (u))).step 2 (.int .i64 (k))).step 3 (.int .i64 (z))).step 4 (.int .i64 (m))).step 5 (.int .i64 (tt))).step 6 (.slice aX nX nX)
     generalize (((((((w5).setCell ⟨w.heap.size,0,none⟩ (.int .i64 (v))).setCell ⟨w.heap.size,1,none⟩ (.int .i64 (u))).setCell ⟨w.heap.size,2,none⟩ (.int .i64 (k))).setCell ⟨w.heap.size,3,none⟩ (.int .i64 (z))).setCell ⟨w.heap.size,4,none⟩ (.int .i64 (m))).setCell ⟨w.heap.size,5,none⟩ (.int .i64 (tt))).setCell ⟨w.heap.size,6,none⟩ (.slice aX nX nX)=w99 at *
     have y0:=zB.cell 0 _ rfl
     have y1:=zB.cell 1 _ rfl
     have y2:=zB.cell 2 _ rfl
     have y3:=zB.cell 3 _ rfl
     have y4:=zB.cell 4 _ rfl
     have y5:=zB.cell 5 _ rfl
     have y6:=zB.cell 6 _ rfl
     refine bodyPost_ret (v:=.tuple #[.agg #[.int .i64 v,.int .i64 u,.int .i64 k,.int .i64 z,.int .i64 m,.int .i64 tt,.slice aX nX nX],.int .i64 0]) (by simp [results,Tryz.results75,go_sem,y0,y1,y2,y3,y4,y5,y6]) rfl ⟨?_,bw.trans hbut.but.low⟩
     rw [HP.out]
     exact ⟨⟨⟨v,u,⟨k,z,m,tt,d⟩⟩,aX,nX,nX⟩,rfl,rfl,Ints.but iX hbut.but (.inr fun x e=>by have:=NW.out x e;omega),fun x e=>by have:=NW.out x e;omega⟩
    ·have hcb:(checkR ⟨v,u,⟨k,z,m,tt,d⟩⟩ !=0)=true:=by simpa using hck
     rw [if_pos hck] at HP
     generalize checkR ⟨v,u,⟨k,z,m,tt,d⟩⟩=cb at *
     have e0:=xR.cell 0 _ rfl
     have e1:=xR.cell 1 _ rfl
     have e2:=xR.cell 2 _ rfl
     have e3:=xR.cell 3 _ rfl
     have e4:=xR.cell 4 _ rfl
     have e5:=xR.cell 5 _ rfl
     have e6:=xR.cell 6 _ rfl
     have f0:=xR.ice 0
     have f1:=xR.ice 1
     have f2:=xR.ice 2
     have f3:=xR.ice 3
     have f4:=xR.ice 4
     have f5:=xR.ice 5
     have f6:=xR.ice 6
     go_wp2
     have zB:=((((((xR.set 0 (.int .i64 (0))).set 1 (.int .i64 (0))).set 2 (.int .i64 (0))).set 3 (.int .i64 (0))).set 4 (.int .i64 (0))).set 5 (.int .i64 (0))).set 6 (.slice none 0 0)
     have hbut:=(((((((ButI.refl (w.heap.size) (w5)).step 0 (.int .i64 (0))).step 1 (.int .i64 (0))).step 2 (.int .i64 (0))).step 3 (.int .i64 (0))).step 4 (.int .i64 (0))).step 5 (.int .i64 (0))).step 6 (.slice none 0 0)
     generalize (((((((w5).setCell ⟨w.heap.size,0,none⟩ (.int .i64 (0))).setCell ⟨w.heap.size,1,none⟩ (.int .i64 (0))).setCell ⟨w.heap.size,2,none⟩ (.int .i64 (0))).setCell ⟨w.heap.size,3,none⟩ (.int .i64 (0))).setCell ⟨w.heap.size,4,none⟩ (.int .i64 (0))).setCell ⟨w.heap.size,5,none⟩ (.int .i64 (0))).setCell ⟨w.heap.size,6,none⟩ (.slice none 0 0)=w99 at *
     have y0:=zB.cell 0 _ rfl
     have y1:=zB.cell 1 _ rfl
     have y2:=zB.cell 2 _ rfl
     have y3:=zB.cell 3 _ rfl
     have y4:=zB.cell 4 _ rfl
     have y5:=zB.cell 5 _ rfl
     have y6:=zB.cell 6 _ rfl
     refine bodyPost_ret (v:=.tuple #[RV.zero.v,.int .i64 cb]) (by simp [results,Tryz.results75,go_sem,RV.v,RV.zero,zeroR,zeroC,y0,y1,y2,y3,y4,y5,y6]) rfl ⟨?_,bw.trans hbut.but.low⟩
     rw [HP.out]
     exact .zero rfl
   ·have hcb:(er !=0)=true:=by simpa using her
    simp only [ne_eq,her,not_false_eq_true,if_true] at HP
    go_wp2
    have zB:=((((((xR.set 0 (.int .i64 (0))).set 1 (.int .i64 (0))).set 2 (.int .i64 (0))).set 3 (.int .i64 (0))).set 4 (.int .i64 (0))).set 5 (.int .i64 (0))).set 6 (.slice none 0 0)
    have hbut:=(((((((ButI.refl (w.heap.size) (w4)).step 0 (.int .i64 (0))).step 1 (.int .i64 (0))).step 2 (.int .i64 (0))).step 3 (.int .i64 (0))).step 4 (.int .i64 (0))).step 5 (.int .i64 (0))).step 6 (.slice none 0 0)
    generalize (((((((w4).setCell ⟨w.heap.size,0,none⟩ (.int .i64 (0))).setCell ⟨w.heap.size,1,none⟩ (.int .i64 (0))).setCell ⟨w.heap.size,2,none⟩ (.int .i64 (0))).setCell ⟨w.heap.size,3,none⟩ (.int .i64 (0))).setCell ⟨w.heap.size,4,none⟩ (.int .i64 (0))).setCell ⟨w.heap.size,5,none⟩ (.int .i64 (0))).setCell ⟨w.heap.size,6,none⟩ (.slice none 0 0)=w99 at *
    have y0:=zB.cell 0 _ rfl
    have y1:=zB.cell 1 _ rfl
    have y2:=zB.cell 2 _ rfl
    have y3:=zB.cell 3 _ rfl
    have y4:=zB.cell 4 _ rfl
    have y5:=zB.cell 5 _ rfl
    have y6:=zB.cell 6 _ rfl
    refine bodyPost_ret (v:=.tuple #[RV.zero.v,.int .i64 er]) (by simp [results,Tryz.results75,go_sem,RV.v,RV.zero,zeroR,zeroC,y0,y1,y2,y3,y4,y5,y6]) rfl ⟨?_,bw.trans hbut.but.low⟩
    rw [HP.out]
    exact .zero rfl
  ·have HP:=hide (parseR_none hl hh)
   clear hh hl
   unfold headV
   go_upto_region 4 with fail
   have hb2:Below w1.heap.size w1 (w1.alloc (.cells #[.int .i64 0,.int .i64 0,.int .i64 0,.int .i64 0,.int .i64 0,.int .i64 0,.slice none 0 0] 52)):=by (repeat first|exact bel0|assumption|refine bel1 ?_|refine bel2 ?_|refine bel3 ?_|refine belowT ?_ (by assumption)|refine bel5 ?_ (by simp;try omega))
   replace xR:=xR.below hb2
   replace bw:=belowT bw hb2
   clear hb2
   generalize w1.alloc (.cells #[.int .i64 0,.int .i64 0,.int .i64 0,.int .i64 0,.int .i64 0,.int .i64 0,.slice none 0 0] 52)=w2 at *
   have e0:=xR.cell 0 _ rfl
   have e1:=xR.cell 1 _ rfl
   have e2:=xR.cell 2 _ rfl
   have e3:=xR.cell 3 _ rfl
   have e4:=xR.cell 4 _ rfl
   have e5:=xR.cell 5 _ rfl
   have e6:=xR.cell 6 _ rfl
   have f0:=xR.ice 0
   have f1:=xR.ice 1
   have f2:=xR.ice 2
   have f3:=xR.ice 3
   have f4:=xR.ice 4
   have f5:=xR.ice 5
   have f6:=xR.ice 6
   go_wp2
   have zB:=((((((xR.set 0 (.int .i64 (0))).set 1 (.int .i64 (0))).set 2 (.int .i64 (0))).set 3 (.int .i64 (0))).set 4 (.int .i64 (0))).set 5 (.int .i64 (0))).set 6 (.slice none 0 0)
   have hbut:=(((((((ButI.refl (w.heap.size) (w2)).step 0 (.int .i64 (0))).step 1 (.int .i64 (0))).step 2 (.int .i64 (0))).step 3 (.int .i64 (0))).step 4 (.int .i64 (0))).step 5 (.int .i64 (0))).step 6 (.slice none 0 0)
   generalize (((((((w2).setCell ⟨w.heap.size,0,none⟩ (.int .i64 (0))).setCell ⟨w.heap.size,1,none⟩ (.int .i64 (0))).setCell ⟨w.heap.size,2,none⟩ (.int .i64 (0))).setCell ⟨w.heap.size,3,none⟩ (.int .i64 (0))).setCell ⟨w.heap.size,4,none⟩ (.int .i64 (0))).setCell ⟨w.heap.size,5,none⟩ (.int .i64 (0))).setCell ⟨w.heap.size,6,none⟩ (.slice none 0 0)=w99 at *
   have y0:=zB.cell 0 _ rfl
   have y1:=zB.cell 1 _ rfl
   have y2:=zB.cell 2 _ rfl
   have y3:=zB.cell 3 _ rfl
   have y4:=zB.cell 4 _ rfl
   have y5:=zB.cell 5 _ rfl
   have y6:=zB.cell 6 _ rfl
   refine bodyPost_ret (v:=.tuple #[RV.zero.v,.int .i64 1]) (by simp [results,Tryz.results75,go_sem,RV.v,RV.zero,zeroR,zeroC,y0,y1,y2,y3,y4,y5,y6]) rfl ⟨?_,bw.trans hbut.but.low⟩
   rw [HP.out]
   exact .zero rfl
end Go.Proofs.YtabafikicbkkdaaGreatDoor
namespace Go.Proofs.YtabafikicbkkdaaGreatDoor
open Go.RowKit
set_option linter.unusedVariables false
set_option maxHeartbeats 4000000
set_option maxRecDepth 100000
set_option linter.unusedSimpArgs false
def CutNRes (a:Option Addr) (n c:Nat) (l:List UInt8) (e:Ending):Prop:=
 ∃ a1 n1 c1 l1 a2 n2 c2 l2 f,e=.returned (.tuple #[.slice a1 n1 c1,.slice a2 n2 c2,.bool f])∧(∀ w0,Byts w0 a n c l→Byts w0 a1 n1 c1 l1∧Byts w0 a2 n2 c2 l2)∧(f=true→cutN l=some (l1,l2))∧(f=false→cutN l=none)
theorem CutN_c (a:Option Addr) (n c:Nat) (l:List UInt8) (p:Option Addr) (w:World) (hE:Env w) (h:Byts w a n c l) (hs:n≤4000000000) (hp:Byts w p 1 1 [10]) :
  Calls Tryz.prog 74 #[.slice a n c,.slice p 1 1] w fun e w'=>CutNRes a n c l e∧Below w.heap.size w w':=by
 obtain ⟨m,hm⟩:=hE.max
 have hlen:=h.len
 refine (Tryz.bytes_Cut_all a p n c 1 1 (numsB l) (numsB [10]) m w (by rw [numsB_len,hlen]) rfl (numsB_byte _) (numsB_byte _) h.into hp.into (Cel.nil h) (Cel.le h) (by omega) (by omega) hm).mono ?_
 rintro e w' ⟨rfl,q,rfl⟩
 rw [bytesOf_nums,bytesOf_nums]
 refine ⟨?_,by (repeat first|exact bel0|assumption|refine bel1 ?_|refine bel2 ?_|refine bel3 ?_|refine belowT ?_ (by assumption)|refine bel5 ?_ (by simp;try omega))⟩
 rcases index_N l with ⟨h1,h2⟩|⟨x,y,h1,h2⟩
 ·rw [h2]
  exact ⟨a,n,c,l,none,0,0,[],false,by simp [Lib.cutV],fun w0 h0=>⟨h0,Byts.nilSlice _⟩,(fun e=>by cases e),fun _=>h1⟩
 ·rw [h2]
  have hl:=cutN_len h1
  have e1:l.take x.length=x:=by rw [(cutN_some h1).1];simp
  have e2:l.drop (x.length + 1)=y:=by rw [(cutN_some h1).1];simp
  refine ⟨a,x.length,c,x,_,_,_,y,true,by simp [Lib.cutV,Lib.fromV];exact ⟨rfl,rfl,rfl⟩,fun w0 h0=>?_,(fun _=>h1),fun e=>by cases e⟩
  have t1:=h0.take (k:=x.length) (by omega)
  have t2:=h0.drop (j:=x.length + 1) (by omega)
  rw [e1] at t1
  rw [e2] at t2
  exact ⟨t1,t2⟩
def FirstRes (B:Nat) (w':World) (a:Option Addr) (n c:Nat) (l:List UInt8) (e:Ending):Prop:=
 ∃ x:RV,∃ a2 n2 c2,e=.returned (.tuple #[x.v,.slice a2 n2 c2,.int .i64 (firstP l).2.2])∧x.p=(firstP l).1∧x.ok w'∧(∀ y,x.a=some y→B≤y.block)∧∀ w0,Byts w0 a n c l→Byts w0 a2 n2 c2 (firstP l).2.1
theorem first_c (a:Option Addr) (n c:Nat) (l:List UInt8) (w:World) (hE:Env w) (h:Byts w a n c l) (hs:n≤4000000000) :
  Calls Tryz.prog 54 #[.slice a n c] w fun e w'=>FirstRes w.heap.size w' a n c l e∧Below w.heap.size w w':=by
 have xR:=Lay.made w [.int .i64 0,.int .i64 0,.int .i64 0,.int .i64 0,.int .i64 0,.int .i64 0,.slice none 0 0] 52
 have bw:Below w.heap.size w (w.alloc (.cells [.int .i64 0,.int .i64 0,.int .i64 0,.int .i64 0,.int .i64 0,.int .i64 0,.slice none 0 0].toArray 52)):=by (repeat first|exact bel0|assumption|refine bel1 ?_|refine bel2 ?_|refine bel3 ?_|refine belowT ?_ (by assumption)|refine bel5 ?_ (by simp;try omega))
 replace xR:=xR.below (belowA (Below.refl _ _) (.cells #[.int .u8 10] 5 (1,2)))
 replace bw:=belowA bw (.cells #[.int .u8 10] 5 (1,2))
 have kc:=Joins.run_convert_bytes_const_at (P:=Tryz.prog) (w.alloc (.cells #[.int .i64 0,.int .i64 0,.int .i64 0,.int .i64 0,.int .i64 0,.int .i64 0,.slice none 0 0] 52)) 34 5 #[.int .u8 10] 1 1 (w.heap.size + 1) (by simp) Tryz.underlying34 Tryz.underlying5
 go_enter Tryz.func54,Tryz.ntmps54
 go_wp2_with fail
 clear kc
 refine (CutN_c a n c l (some ⟨w.heap.size + 1,0,none⟩) _ (hE.below bw) (h.below bw (Nat.le_refl _)) hs (Byts.of_row (l:=[10]) (heap_new2 w _ _) (by decide) rfl)).mono ?_
 rintro e w1 ⟨⟨a1,n1,c1,l1,a2,n2,c2,l2,f,rfl,hpc,hf1,hf0⟩,hb1⟩
 replace xR:=xR.below hb1
 replace bw:=belowT bw hb1
 have HF1:=hide hf1
 have HF0:=hide hf0
 have h1:=(hpc w1 ((h.below bw (Nat.le_refl _)))).1
 have hn1:=h1.len
 have HPC:=hide hpc
 clear hf1 hf0 hb1 h hpc
 have hlt:=xR.lt
 cases f
 ·have HP:=hide (firstP_none (HF0.out rfl))
  have e0:=xR.cell 0 _ rfl
  have e1:=xR.cell 1 _ rfl
  have e2:=xR.cell 2 _ rfl
  have e3:=xR.cell 3 _ rfl
  have e4:=xR.cell 4 _ rfl
  have e5:=xR.cell 5 _ rfl
  have e6:=xR.cell 6 _ rfl
  have f0:=xR.ice 0
  have f1:=xR.ice 1
  have f2:=xR.ice 2
  have f3:=xR.ice 3
  have f4:=xR.ice 4
  have f5:=xR.ice 5
  have f6:=xR.ice 6
  go_wp2
  have zB:=((((((xR.set 0 (.int .i64 (0))).set 1 (.int .i64 (0))).set 2 (.int .i64 (0))).set 3 (.int .i64 (0))).set 4 (.int .i64 (0))).set 5 (.int .i64 (0))).set 6 (.slice none 0 0)
  have hbut:=(((((((ButI.refl (w.heap.size) (w1)).step 0 (.int .i64 (0))).step 1 (.int .i64 (0))).step 2 (.int .i64 (0))).step 3 (.int .i64 (0))).step 4 (.int .i64 (0))).step 5 (.int .i64 (0))).step 6 (.slice none 0 0)
  generalize (((((((w1).setCell ⟨w.heap.size,0,none⟩ (.int .i64 (0))).setCell ⟨w.heap.size,1,none⟩ (.int .i64 (0))).setCell ⟨w.heap.size,2,none⟩ (.int .i64 (0))).setCell ⟨w.heap.size,3,none⟩ (.int .i64 (0))).setCell ⟨w.heap.size,4,none⟩ (.int .i64 (0))).setCell ⟨w.heap.size,5,none⟩ (.int .i64 (0))).setCell ⟨w.heap.size,6,none⟩ (.slice none 0 0)=w99 at *
  have y0:=zB.cell 0 _ rfl
  have y1:=zB.cell 1 _ rfl
  have y2:=zB.cell 2 _ rfl
  have y3:=zB.cell 3 _ rfl
  have y4:=zB.cell 4 _ rfl
  have y5:=zB.cell 5 _ rfl
  have y6:=zB.cell 6 _ rfl
  refine bodyPost_ret (v:=.tuple #[RV.zero.v,.slice none 0 0,.int .i64 9]) (by simp [results,Tryz.results54,go_sem,RV.v,RV.zero,zeroR,zeroC,y0,y1,y2,y3,y4,y5,y6]) rfl ⟨?_,bw.trans hbut.but.low⟩
  unfold FirstRes
  rw [HP.out]
  exact ⟨RV.zero,none,0,0,rfl,rfl,RV.zero_ok _,(fun y e=>by cases e),fun w0 _=>Byts.nilSlice _⟩
 ·have HP:=hide (firstP_some (HF1.out rfl))
  have hcv:=h1.text (P:=Tryz.prog) (src:=34) (dst:=9) Tryz.underlying34 Tryz.underlying5 Tryz.underlying9
  have hsz:(⟨l1.toArray⟩:ByteArray).size≤9223372036854775807:=by
   have:=Cel.le h1
   have:=Cel.max h1
   rw [Lib.size_eq]
   simp
   omega
  go_wp2_with fail
  refine (NParse_c ⟨l1.toArray⟩ _ (hE.below bw) hsz).mono ?_
  rintro e w2 ⟨⟨⟨pX,aX,nX,cX⟩,rfl,ePX,iX,nX'⟩,hb2⟩
  rw [show (⟨l1.toArray⟩:ByteArray).data.toList=l1 by simp] at ePX ⊢
  replace xR:=xR.below hb2
  replace bw:=belowT bw hb2
  have NW:Hid (∀ y,aX=some y→w1.heap.size≤y.block):=hide nX'
  clear hb2 nX' hcv h1
  dsimp only at ePX
  rw [← ePX] at HP
  clear ePX
  generalize (parseR l1).2=er at *
  obtain ⟨q,s,⟨k,z,m,t,d⟩⟩:=pX
  dsimp only [RV.v,RV.ok] at iX ⊢
  go_upto_region 5 with fail
  have xV:=Lay.made w2 [.int .i64 q,.int .i64 s,.int .i64 k,.int .i64 z,.int .i64 m,.int .i64 t,.slice aX nX cX] 52
  have hb3:Below w2.heap.size w2 (w2.alloc (.cells [.int .i64 q,.int .i64 s,.int .i64 k,.int .i64 z,.int .i64 m,.int .i64 t,.slice aX nX cX].toArray 52)):=by (repeat first|exact bel0|assumption|refine bel1 ?_|refine bel2 ?_|refine bel3 ?_|refine belowT ?_ (by assumption)|refine bel5 ?_ (by simp;try omega))
  replace xR:=xR.below hb3
  replace bw:=belowT bw hb3
  replace iX:=iX.below hb3 (Nat.le_refl _)
  clear hb3
  generalize w2.alloc (.cells [.int .i64 q,.int .i64 s,.int .i64 k,.int .i64 z,.int .i64 m,.int .i64 t,.slice aX nX cX].toArray 52)=w3 at *
  have e0:=xR.cell 0 _ rfl
  have e1:=xR.cell 1 _ rfl
  have e2:=xR.cell 2 _ rfl
  have e3:=xR.cell 3 _ rfl
  have e4:=xR.cell 4 _ rfl
  have e5:=xR.cell 5 _ rfl
  have e6:=xR.cell 6 _ rfl
  have f0:=xR.ice 0
  have f1:=xR.ice 1
  have f2:=xR.ice 2
  have f3:=xR.ice 3
  have f4:=xR.ice 4
  have f5:=xR.ice 5
  have f6:=xR.ice 6
  have g0:=xV.cell 0 _ rfl
  have g1:=xV.cell 1 _ rfl
  have g2:=xV.cell 2 _ rfl
  have g3:=xV.cell 3 _ rfl
  have g4:=xV.cell 4 _ rfl
  have g5:=xV.cell 5 _ rfl
  have g6:=xV.cell 6 _ rfl
  have i0:=xV.ice 0
  have i1:=xV.ice 1
  have i2:=xV.ice 2
  have i3:=xV.ice 3
  have i4:=xV.ice 4
  have i5:=xV.ice 5
  have i6:=xV.ice 6
  go_wp2
  have zB:=((((((xR.set 0 (.int .i64 (q))).set 1 (.int .i64 (s))).set 2 (.int .i64 (k))).set 3 (.int .i64 (z))).set 4 (.int .i64 (m))).set 5 (.int .i64 (t))).set 6 (.slice aX nX cX)
  have hbut:=(((((((ButI.refl (w.heap.size) (w3)).step 0 (.int .i64 (q))).step 1 (.int .i64 (s))).step 2 (.int .i64 (k))).step 3 (.int .i64 (z))).step 4 (.int .i64 (m))).step 5 (.int .i64 (t))).step 6 (.slice aX nX cX)
  generalize (((((((w3).setCell ⟨w.heap.size,0,none⟩ (.int .i64 (q))).setCell ⟨w.heap.size,1,none⟩ (.int .i64 (s))).setCell ⟨w.heap.size,2,none⟩ (.int .i64 (k))).setCell ⟨w.heap.size,3,none⟩ (.int .i64 (z))).setCell ⟨w.heap.size,4,none⟩ (.int .i64 (m))).setCell ⟨w.heap.size,5,none⟩ (.int .i64 (t))).setCell ⟨w.heap.size,6,none⟩ (.slice aX nX cX)=w99 at *
  have y0:=zB.cell 0 _ rfl
  have y1:=zB.cell 1 _ rfl
  have y2:=zB.cell 2 _ rfl
  have y3:=zB.cell 3 _ rfl
  have y4:=zB.cell 4 _ rfl
  have y5:=zB.cell 5 _ rfl
  have y6:=zB.cell 6 _ rfl
  refine bodyPost_ret (v:=.tuple #[.agg #[.int .i64 q,.int .i64 s,.int .i64 k,.int .i64 z,.int .i64 m,.int .i64 t,.slice aX nX cX],.slice a2 n2 c2,.int .i64 er]) (by simp [results,Tryz.results54,go_sem,y0,y1,y2,y3,y4,y5,y6]) rfl ⟨?_,bw.trans hbut.but.low⟩
  unfold FirstRes
  rw [HP.out]
  exact ⟨⟨⟨q,s,⟨k,z,m,t,d⟩⟩,aX,nX,cX⟩,a2,n2,c2,rfl,rfl,Ints.but iX hbut.but (.inr fun y e=>by have:=NW.out y e;omega),(fun y e=>by have:=NW.out y e;omega),fun w0 h0=>(HPC.out w0 h0).2⟩
end Go.Proofs.YtabafikicbkkdaaGreatDoor
namespace Go.Proofs.YtabafikicbkkdaaGreatDoor
open Go.RowKit
set_option linter.unusedVariables false
set_option maxHeartbeats 4000000
set_option maxRecDepth 100000
set_option linter.unusedSimpArgs false
def recZ:Value:=.agg #[.int .i64 0,.int .i64 0,.int .i64 0,.int .i64 0,.int .i64 0,.int .i64 0,.slice none 0 0]
theorem infoRec:(Tryz.prog.info? 52).map (fun i=>(i.zero,i.size,i.bytes))=some (some recZ,7,72):=by kernel_rfl
theorem recInfo:∃ i,Tryz.prog.info? 52=some i∧i.zero=some recZ∧i.size=7∧i.bytes=72:=by
 obtain ⟨i,hi,h⟩:=Option.map_eq_some_iff.1 infoRec
 simp only [Prod.mk.injEq] at h
 exact ⟨i,hi,h.1,h.2.1,h.2.2⟩
def slen:Value→Nat
 |.slice _ n _=>n
 |_=>0
def SafeRes (B:Nat) (w':World) (d:PK) (e:Ending):Prop:=
 ∃ v X,e=.returned (.tuple #[v,.int .i64 (checkK d)])∧OwnR w' B v X∧FromD B X∧X.map RV.p=if checkK d=0 then (linesP 80 d.s).1 else []
theorem safe_c (x:KV) (w:World) (hE:Env w) (h:x.ok w) (hn:x.n≤140737488355328) (hm:x.m≤140737488355328) :
  Calls Tryz.prog 53 #[x.v] w fun e w'=>SafeRes w.heap.size w' x.p e∧Below w.heap.size w w':=by
 have hl1:=h.s.len
 have hl2:=h.w.len
 obtain ⟨⟨s,t⟩,a,n,c,b,m,d⟩:=x
 dsimp only [KV.v] at *
 have hs:Byts w a n c s:=h.s
 clear h
 have HC:Hid (checkK ⟨s,t⟩=if 60000 < n + m then 2 else (linesP 80 s).2.2):=hide (by unfold checkK;simp only [hl1,hl2])
 obtain ⟨i,hi,hz,hsz,hby⟩:=recInfo
 go_enter Tryz.func53,Tryz.ntmps53
 go_wp2_with fail
 refine (dsize_c a n c b m d _ hn hm).mono ?_
 rintro e w1 ⟨rfl,hb1⟩
 have bw1:Below w.heap.size w w1:=by (repeat first|exact bel0|assumption|refine bel1 ?_|refine bel2 ?_|refine bel3 ?_|refine belowT ?_ (by assumption)|refine bel5 ?_ (by simp;try omega))
 have k0:=keepc hb1 (p:=⟨w.heap.size,0,none⟩) (u:=.slice a n c) (by (first|(go_simp;done)|(simp [*,World.cell?_alloc_at,World.cell?_alloc_past,World.cell?_alloc_some,World.cell?_setCell_far];done)))
 clear hb1
 by_cases hlong:60000 < n + m
 ·have h1:(60000:Int) < ((n + m:Nat):Int):=by omega
  generalize ((n + m:Nat):Int)=q at *
  go_wp2
  refine bodyPost_ret (v:=.tuple #[.slice none 0 0,.int .i64 2]) (by simp [results,Tryz.results53,go_sem]) rfl ⟨⟨.slice none 0 0,[],?_,OwnR.nil _ _,FromD.nil _,?_⟩,bw1⟩
  ·rw [HC.out,if_pos hlong]
  ·rw [HC.out,if_pos hlong]
   rfl
 ·have h1:¬ (60000:Int) < ((n + m:Nat):Int):=by omega
  rw [if_neg hlong] at HC
  generalize ((n + m:Nat):Int)=q at *
  replace hs:=hs.below bw1 (Nat.le_refl _)
  replace hE:=hE.below bw1
  go_wp2_with fail
  go_loopw [4,5] (fun v u wr=>∃ X a' n' c' r,u=.slice a' n' c'∧OwnR wr w1.heap.size v X∧FromD w1.heap.size X∧Byts w1 a' n' c' r∧Ahd 80 s (X.map RV.p) r∧Below w1.heap.size w1 wr) (fun _ u _=>slen u)
  case atStart=>exact ⟨[],a,n,c,s,rfl,OwnR.nil _ _,FromD.nil _,hs,Ahd.start _ _,Below.refl _ _⟩
  case round=>
   obtain ⟨X,a',n',c',r,rfl,hX,hD,hr,hA,hbr⟩:=hrel
   rename_i wr
   have hrl:=hr.len
   have hEr:=hE.below hbr
   by_cases h0:n'=0
   ·subst h0
    have hr0:r=[]:=List.eq_nil_of_length_eq_zero hrl
    subst hr0
    have HD:=hide hA.done
    go_wp2
    refine bodyPost_ret (v:=.tuple #[u4,.int .i64 0]) (by simp [results,Tryz.results53,go_sem]) rfl ⟨⟨u4,X,?_,hX.mono bw1.size,hD.mono bw1.size,?_⟩,belowT bw1 hbr⟩
    ·rw [HC.out,HD.out]
    ·rw [HC.out,HD.out]
     rfl
   ·have h0':(0:Int) < (n':Int):=by omega
    have hrn:r≠[]:=fun e=>h0 (by rw [← hrl,e];rfl)
    have hAl:=hA.len
    have hAm:=hA.le
    rw [List.length_map] at hAm
    have HA:=hide hA
    clear hA
    go_wp2_with fail
    refine (first_c a' n' c' r _ hEr (hr.below hbr (Nat.le_refl _)) (by omega)).mono ?_
    rintro e w2 ⟨⟨⟨pX,aX,nX,cX⟩,a2,n2,c2,rfl,ePX,iX,nwX,hr2⟩,hb2⟩
    have hX2:=hX.below hb2
    have hap:=hX.apart (x:=⟨pX,aX,nX,cX⟩) (Nat.le_refl _) nwX
    have bw2:=belowT hbr hb2
    replace hr2:=hr2 w1 hr
    have HR2:Hid ((firstP r).2.1.length=n2):=hide hr2.len
    have hD2:∀ y,aX=some y→w1.heap.size≤y.block:=fun y e=>Nat.le_trans hbr.size (nwX y e)
    have HPX:Hid (pX=(firstP r).1):=hide ePX
    clear hb2 nwX ePX
    obtain ⟨q',s',⟨k',z',m',t',d'⟩⟩:=pX
    dsimp only [RV.v] at iX ⊢
    generalize hfe:(firstP r).2.2=er at *
    go_upto_region 7 with fail
    have xV:=Lay.made w2 [.int .i64 q',.int .i64 s',.int .i64 k',.int .i64 z',.int .i64 m',.int .i64 t',.slice aX nX cX] 52
    have hb3:Below w2.heap.size w2 (w2.alloc (.cells [.int .i64 q',.int .i64 s',.int .i64 k',.int .i64 z',.int .i64 m',.int .i64 t',.slice aX nX cX].toArray 52)):=by (repeat first|exact bel0|assumption|refine bel1 ?_|refine bel2 ?_|refine bel3 ?_|refine belowT ?_ (by assumption)|refine bel5 ?_ (by simp;try omega))
    replace hX2:=hX2.below hb3
    replace bw2:=belowT bw2 hb3
    replace iX:=RV.ok.below iX hb3 (Nat.le_refl _)
    clear hb3
    generalize w2.alloc (.cells [.int .i64 q',.int .i64 s',.int .i64 k',.int .i64 z',.int .i64 m',.int .i64 t',.slice aX nX cX].toArray 52)=w3 at *
    have HFE:=hide hfe
    clear hfe
    by_cases her:er=0
    ·subst her
     obtain ⟨av,cv,hv,_,_⟩:=hX2.recs
     have hlen:X.length≤80:=hAm
     by_cases h80:X.length=80
     ·have hb80:((X.length:Int)==80)=true:=by simp;omega
      have HD:=hide (HA.out.many HFE.out (by rw [List.length_map];exact h80))
      subst hv
      go_wp2
      refine bodyPost_ret (v:=.tuple #[.slice none 0 0,.int .i64 2]) (by simp [results,Tryz.results53,go_sem]) rfl ⟨⟨.slice none 0 0,[],?_,OwnR.nil _ _,FromD.nil _,?_⟩,belowT bw1 bw2⟩
      ·rw [HC.out,HD.out]
      ·rw [HC.out,HD.out]
       rfl
     ·have hb80:((X.length:Int)==80)=false:=by simp;omega
      have hst:=HA.out.step HFE.out (by rw [List.length_map];omega)
      have HST:=hide hst
      clear hst
      have g0:=xV.cell 0 _ rfl
      have g1:=xV.cell 1 _ rfl
      have g2:=xV.cell 2 _ rfl
      have g3:=xV.cell 3 _ rfl
      have g4:=xV.cell 4 _ rfl
      have g5:=xV.cell 5 _ rfl
      have g6:=xV.cell 6 _ rfl
      have i0:=xV.ice 0
      have i1:=xV.ice 1
      have i2:=xV.ice 2
      have i3:=xV.ice 3
      have i4:=xV.ice 4
      have i5:=xV.ice 5
      have i6:=xV.ice 6
      subst hv
      go_wp2_with (at_builtin;refine wpList_append_lies _ rfl _ _ 23 rfl w1.heap.size 52 i recZ 7 72 Tryz.underlying23 hi hz hsz hby rfl (by decide) _ _ _ rfl (hX2.below (belowA (Below.refl _ _) _)).own ⟨w3.heap.size,0,none⟩ 1 1 (RV.cells ⟨⟨q',s',⟨k',z',m',t',d'⟩⟩,aX,nX,cX⟩) rfl rfl ?hq0 (RV.cells_one _) (by decide) ?hq2 ?hq3 ?hq4 _ rfl ?hq5)
      case hq0=>
       intro j u hu
       rw [addr_add,Nat.zero_add]
       exact (Lay.made w3 _ 52).cell j u hu
      case hq2=>simp [maxLen];omega
      case hq3=>omega
      case hq4=>have:=bw2.size;simp;omega
      case hq5=>
       intro g4 cap4 w4 hown4 hg4 hat4 hlt4
       have hbA:Below w3.heap.size w3 (w3.alloc (.cells [.int .i64 q',.int .i64 s',.int .i64 k',.int .i64 z',.int .i64 m',.int .i64 t',.slice aX nX cX].toArray 52)):=belowA (Below.refl _ _) _
       have oN:=(hX2.below hbA).snoc (x:=⟨⟨q',s',⟨k',z',m',t',d'⟩⟩,aX,nX,cX⟩) (RV.ok.below iX hbA (Nat.le_refl _)) hap hown4 hg4 (hat4.imp_right fun e=>by rw [e];simp)
       have b4:Below w1.heap.size w1 w4:=(belowT bw2 hbA).grown hg4 (by have:=bw2.size;simp;omega) (fun k e=>(hX2.own.lt k e).1)
       have hs4:=HST.out
       rw [← HPX.out] at hs4
       have hn4:=HR2.out
       go_wp2
       exact ⟨⟨X++[⟨⟨q',s',⟨k',z',m',t',d'⟩⟩,aX,nX,cX⟩],a2,n2,c2,_,rfl,oN,hD.snoc hD2,hr2,by rw [List.map_append];exact hs4.1,b4⟩,by simp [slen];omega⟩
    ·have hcb:(er !=0)=true:=by simpa using her
     have HD:=hide (HA.out.bad hrn (by rw [HFE.out];exact her))
     rw [HFE.out] at HD
     go_wp2
     refine bodyPost_ret (v:=.tuple #[.slice none 0 0,.int .i64 er]) (by simp [results,Tryz.results53,go_sem]) rfl ⟨⟨.slice none 0 0,[],?_,OwnR.nil _ _,FromD.nil _,?_⟩,belowT bw1 bw2⟩
     ·rw [HC.out,HD.out]
     ·rw [HC.out,HD.out]
      simp [her]
end Go.Proofs.YtabafikicbkkdaaGreatDoor
namespace Go.Proofs.YtabafikicbkkdaaGreatDoor
open Go.RowKit
set_option linter.unusedVariables false
set_option maxHeartbeats 4000000
set_option maxRecDepth 100000
set_option linter.unusedSimpArgs false
theorem KCheck_c (x:KV) (w:World) (hE:Env w) (h:x.ok w) (hn:x.n≤140737488355328) (hm:x.m≤140737488355328) :
  Calls Tryz.prog 210 #[x.v] w fun e w'=>e=.returned (.int .i64 (checkK x.p))∧Below w.heap.size w w':=by
 have HS:=hide (fun w' hE h=>safe_c x w' hE h hn hm)
 obtain ⟨⟨s,t⟩,a,n,c,b,m,d⟩:=x
 dsimp only [KV.v] at *
 go_enter Tryz.func210,Tryz.ntmps210
 go_wp2_with fail
 refine (HS.out _ (hE.below (by (repeat first|exact bel0|assumption|refine bel1 ?_|refine bel2 ?_|refine bel3 ?_|refine belowT ?_ (by assumption)|refine bel5 ?_ (by simp;try omega)))) (h.below (by (repeat first|exact bel0|assumption|refine bel1 ?_|refine bel2 ?_|refine bel3 ?_|refine belowT ?_ (by assumption)|refine bel5 ?_ (by simp;try omega))))).mono ?_
 rintro e w1 ⟨⟨v,X,rfl,_,_,_⟩,hb1⟩
 go_wp2
 go_ret
 exact ⟨rfl,by (repeat first|exact bel0|assumption|refine bel1 ?_|refine bel2 ?_|refine bel3 ?_|refine belowT ?_ (by assumption)|refine bel5 ?_ (by simp;try omega))⟩
def JoinRes (B:Nat) (w':World) (n:Nat) (l:List UInt8) (e:Ending):Prop:=∃ g,e=.returned (.slice (some ⟨g,0,none⟩) n n)∧B≤g∧Byts w' (some ⟨g,0,none⟩) n n l
theorem jcopy_c (a:Option Addr) (n c:Nat) (l:List UInt8) (w:World) (h:Byts w a n c l) (hn:n≤1000000):Calls Tryz.prog 55 #[.slice a n c,.slice none 0 0] w fun e w'=>JoinRes w.heap.size w' n l e∧Below w.heap.size w w':=by
 refine (djoin_none a n c l none 0 w h hn).mono ?_
 rintro e w' ⟨⟨rfl,i⟩,hb⟩
 exact ⟨⟨_,rfl,Nat.le_refl _,i⟩,hb⟩
theorem jboth_c (a:Option Addr) (n c:Nat) (l:List UInt8) (b:Option Addr) (m d:Nat) (k:List UInt8) (w:World) (h1:Byts w a n c l) (h2:Byts w b m d k) (hn:n + m≤1000000):Calls Tryz.prog 55 #[.slice a n c,.slice b m d] w fun e w'=>JoinRes w.heap.size w' (n + m) (l++k) e∧Below w.heap.size w w':=by
 refine (djoin_c a n c l b m d k w h1 h2 hn).mono ?_
 rintro e w' ⟨⟨rfl,i⟩,hb⟩
 exact ⟨⟨_,rfl,Nat.le_refl _,i⟩,hb⟩
def KRes (B:Nat) (w':World) (r:PK×Int) (e:Ending):Prop:=∃ x:KV,e=.returned (.tuple #[x.v,.int .i64 r.2])∧x.p=r.1∧x.ok w'∧x.fresh B
theorem KRes.zero {B:Nat} {w':World} {r:PK×Int} {e:Ending} {i:Int} (hr:r=(zeroK,i)) (h:e=.returned (.tuple #[KV.zero.v,.int .i64 i])):KRes B w' r e:=by
 subst hr
 exact ⟨KV.zero,h,rfl,KV.zero_ok _,KV.zero_fresh _⟩
end Go.Proofs.YtabafikicbkkdaaGreatDoor
