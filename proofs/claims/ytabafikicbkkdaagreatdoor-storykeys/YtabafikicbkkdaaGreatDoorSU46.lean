/- The law's closed fact on stories; no condition but that the package-level variables are as their texts lay them. -/
import Derived.Test.YtabafikicbkkdaaGreatDoorSU35
import Derived.Test.YtabafikicbkkdaaGreatDoorSU45
import Derived.Test.YtabafikicbkkdaaGreatDoorSU21
import Derived.Test.YtabafikicbkkdaaGreatDoorSU12
import Derived.Test.YtabafikicbkkdaaGreatDoorSU44
import Derived.Test.YtabafikicbkkdaaGreatDoorSU34
import Derived.Test.YtabafikicbkkdaaGreatDoorSU14
import Derived.Test.YtabafikicbkkdaaGreatDoorSU31
import Derived.Test.YtabafikicbkkdaaGreatDoorSU20
import Derived.Test.YtabafikicbkkdaaGreatDoorSU9
import Derived.Deep.RegionHeld3
namespace Go.Proofs.YtabafikicbkkdaaGreatDoor
open Go.RowKit
set_option linter.unusedVariables false
set_option maxHeartbeats 4000000
set_option maxRecDepth 100000
set_option linter.unusedSimpArgs false
def hapT (q r:Nat):List XV:=[⟨1,1,0,cP 5,some ⟨q,0,none⟩,1,1⟩,⟨1,2,0,cP 6,some ⟨r,0,none⟩,1,1⟩,⟨3,0,1,zeroC,none,0,0⟩,⟨3,0,0,zeroC,none,0,0⟩]
def tellX:List PX:=[⟨1,1,0,cP 5⟩,⟨1,2,0,cP 6⟩,⟨3,0,1,zeroC⟩,⟨3,0,0,zeroC⟩]
def tellW:PW:=(runF freshW tellX).1
theorem tells1:runW freshW tellX=(tellW,[0,0,0,0],0):=by kernel_rfl
theorem tells2:(doneS tellW).1.map PR.w=[2,1]:=by kernel_rfl
theorem tells3:(toldS tellW).1.map PA.t=[0,1]:=by kernel_rfl
theorem tells4:(doneS tellW).2=0:=by kernel_rfl
theorem tells5:(toldS tellW).2=0:=by kernel_rfl
theorem WRun_s (x:WV) (a:Option Addr) (n c:Nat) (L:List XV) {P:PW} {Q:List PX} {X:PW×List Int×Int} (hp:x.p=P) (hq:L.map XV.p=Q) (e:runW P Q=X) (w:World) (hE:Env w) (hk:x.ok w) (hs:x.sm) (hL:Rows' hapK w a n c L):Calls Tryz.prog 39 #[x.v,.slice a n c] w fun e w'=>RunNew X w e w':=by
 have q:=WRun_c x a n c L w hE hk hs hL
 rw [hp,hq,e] at q
 exact q
theorem tells_recs {a:Option Addr} {n c:Nat} {X:List RV} {w:World} (h:Recs w a n c X) (e:(X.map RV.p).map PR.w=[2,1]):n=2∧∃ b off,a=some ⟨b,off,none⟩∧w.cell? ⟨b,off,none⟩=some (.int .i64 2)∧w.cell? ⟨b,off + 7,none⟩=some (.int .i64 1):=by
 have hl:=congrArg List.length e
 simp only [List.length_map] at hl
 have hn:n=2:=by rw [← h.len,hl];rfl
 obtain ⟨b,off,ha,_,hc⟩:=h.row.resolve_left (by omega)
 obtain ⟨x,hx⟩:∃ x,X[0]?=some x:=⟨_,List.getElem?_eq_getElem (by rw [hl];decide)⟩
 obtain ⟨y,hy⟩:∃ x,X[1]?=some x:=⟨_,List.getElem?_eq_getElem (by rw [hl];decide)⟩
 have ex:x.p.w=2:=by
  have:=congrArg (fun l=>l[0]?) e
  simpa [hx] using this
 have ey:y.p.w=1:=by
  have:=congrArg (fun l=>l[1]?) e
  simpa [hy] using this
 have h0:=hc 0 x hx 0 _ rfl
 have h1:=hc 1 y hy 0 _ rfl
 rw [ex] at h0
 rw [ey] at h1
 exact ⟨hn,b,off,ha,by simpa using h0,by simpa using h1⟩
theorem tells_ans {a:Option Addr} {n c:Nat} {Y:List AV} {w:World} (h:Rows' ansK w a n c Y) (e:(Y.map AV.p).map PA.t=[0,1]):n=2∧∃ b off,a=some ⟨b,off,none⟩∧w.cell? ⟨b,off + 1,none⟩=some (.int .i64 0)∧w.cell? ⟨b,off + 3 + 1,none⟩=some (.int .i64 1):=by
 have hl:=congrArg List.length e
 simp only [List.length_map] at hl
 have hn:n=2:=by rw [← h.len,hl];rfl
 obtain ⟨b,off,ha,_,hc⟩:=h.row.resolve_left (by omega)
 obtain ⟨x,hx⟩:∃ x,Y[0]?=some x:=⟨_,List.getElem?_eq_getElem (by rw [hl];decide)⟩
 obtain ⟨y,hy⟩:∃ x,Y[1]?=some x:=⟨_,List.getElem?_eq_getElem (by rw [hl];decide)⟩
 have ex:x.t=0:=by
  have:=congrArg (fun l=>l[0]?) e
  simpa [hx,AV.p] using this
 have ey:y.t=1:=by
  have:=congrArg (fun l=>l[1]?) e
  simpa [hy,AV.p] using this
 have h0:=hc 0 x hx 1 _ rfl
 have h1:=hc 1 y hy 1 _ rfl
 rw [ex] at h0
 rw [ey] at h1
 exact ⟨hn,b,off,ha,by simpa [ansK] using h0,by simpa [ansK] using h1⟩
theorem tof_c (k n:Int) (w:World):Calls Tryz.prog 38 #[.int .i64 k,.int .i64 n] w fun e w'=>e=.returned (.agg #[.int .i64 k,.int .i64 0,.int .i64 n,.int .i64 0,.int .i64 0,.int .i64 0,.int .i64 0,.slice none 0 0])∧Below w.heap.size w w':=by
 obtain ⟨z0,z1,z2,z3,z4,z5,z6,z7⟩:=(Lay.made w [.int .i64 k,.int .i64 0,.int .i64 n,.int .i64 0,.int .i64 0,.int .i64 0,.int .i64 0,.slice none 0 0] 75).eight
 go_enter Tryz.func38,Tryz.ntmps38
 go_wp2
 exact bodyPost_ret (v:=.agg #[.int .i64 k,.int .i64 0,.int .i64 n,.int .i64 0,.int .i64 0,.int .i64 0,.int .i64 0,.slice none 0 0]) (by simp [results,Tryz.results38,go_sem,z0,z1,z2,z3,z4,z5,z6,z7]) rfl ⟨rfl,by (repeat first|exact bel0|assumption|refine bel1 ?_|refine bel2 ?_|refine bel3 ?_|refine belowT ?_ (by assumption)|refine bel5 ?_ (by simp;try omega))⟩
theorem told_w (w:World) (hE:Env w):Calls Tryz.prog 16 #[] w fun e w'=>e=.returned (.bool true)∧Below w.heap.size w w':=by
 go_enter Tryz.func16,Tryz.ntmps16
 go_wp2_with fail
 refine (WNew_c _).mono ?_
 rintro e w1 ⟨⟨x0,rfl,ok0,sm0,_,p0⟩,bw⟩
 dsimp only [WV.v]
 go_wp2_with fail
 refine (puts_c 5 (by omega) _).mono ?_
 rintro e w2 ⟨⟨q5,rfl,i5,_⟩,hb⟩
 replace ok0:=ok0.below hb (Nat.le_refl _)
 replace bw:=belowT bw hb
 clear hb
 go_wp2_with fail
 refine (puts_c 6 (by omega) _).mono ?_
 rintro e w2 ⟨⟨q6,rfl,i6,_⟩,hb⟩
 replace ok0:=ok0.below hb (Nat.le_refl _)
 replace i5:=i5.below hb (Nat.le_refl _)
 replace bw:=belowT bw hb
 clear hb
 go_wp2_with (go_at_call 38;refine (tof_c _ _ _).mono ?_;rintro e w3 ⟨rfl,hb⟩;replace ok0:=ok0.below hb (Nat.le_refl _);replace i5:=i5.below hb (Nat.le_refl _);replace i6:=i6.below hb (Nat.le_refl _);replace bw:=belowT bw hb;clear hb)
 have hL:Rows' hapK (w3.alloc (.cells (hapK.cells (hapT q5 q6)).toArray 75)) (some ⟨w3.heap.size,0,none⟩) 4 4 (hapT q5 q6):=Rows'.of_lay (Lay.made w3 (hapK.cells (hapT q5 q6)) 75) (fun x hx=>by
  have hb:=belowA (Below.refl _ w3) (.cells (hapK.cells (hapT q5 q6)).toArray 75)
  simp only [hapT,List.mem_cons,List.not_mem_nil,or_false] at hx
  obtain rfl|rfl|rfl|rfl:=hx
  ·exact i5.below hb (Nat.le_refl _)
  ·exact i6.below hb (Nat.le_refl _)
  ·exact Ints.nilSlice _
  ·exact Ints.nilSlice _) rfl (by omega)
 have bn:=belowA (Below.refl _ w3) (.cells (hapK.cells (hapT q5 q6)).toArray 75)
 have hE3:=hE.below (belowT bw bn)
 refine (WRun_s x0 _ 4 4 (hapT q5 q6) p0 rfl tells1 _ hE3 (ok0.below bn (Nat.le_refl _)) sm0 hL).mono ?_
 rintro e w4 ⟨⟨x1,a1,n1,c1,rfl,ok1,sm1,_,iE,_,p1⟩,hb⟩
 replace bw:=belowT (belowT bw bn) hb
 have hE4:=hE.below bw
 clear hb bn hL ok0 i5 i6 p0 sm0 hE3
 have HDN:=hide (fun w' h1 h2=>Done_w x1 w' h1 h2 sm1)
 have HTL:=hide (fun w' h1 h2=>Told_w x1 w' h1 h2 sm1)
 rw [show x1.p=tellW from p1] at HDN HTL
 have K2:=hide tells2
 have K3:=hide tells3
 have K4:=tells4
 have K5:=tells5
 generalize doneS tellW=D at *
 generalize toldS tellW=T at *
 clear p1 iE
 dsimp only [WV.v]
 go_upto_region 3 with fail
 have Cx:=Lay.made w4 x1.cells 40
 have bn:=belowA (Below.refl _ w4) (.cells x1.cells.toArray 40)
 generalize w4.heap.size=C at Cx
 generalize w4.alloc (.cells x1.cells.toArray 40)=w5 at *
 replace ok1:=ok1.below bn (Nat.le_refl _)
 replace hE4:=hE4.below bn
 replace bw:=belowT bw bn
 clear bn
 obtain ⟨q0,q1,q2,q3,q4,q5,q6,q7,q8,q9⟩:=Cx.ten
 go_wp2_with fail
 refine (HDN.out _ hE4 ok1).mono ?_
 rintro e w6 ⟨⟨la,ln,lc,X,rfl,hX,_,pX⟩,hb⟩
 replace Cx:=Cx.below hb
 replace ok1:=ok1.below hb (Nat.le_refl _)
 replace hE4:=hE4.below hb
 replace bw:=belowT bw hb
 clear hb q0 q1 q2 q3 q4 q5 q6 q7 q8 q9
 obtain ⟨q0,q1,q2,q3,q4,q5,q6,q7,q8,q9⟩:=Cx.ten
 go_wp2_with fail
 refine (HTL.out _ hE4 ok1).mono ?_
 rintro e w7 ⟨⟨ta,tn,tc,Y,rfl,hY,_,pY⟩,hb⟩
 replace hX:=hX.below hb (Nat.le_refl _)
 replace bw:=belowT bw hb
 clear hb q0 q1 q2 q3 q4 q5 q6 q7 q8 q9 Cx ok1 hE4
 obtain ⟨rfl,lb,lo,rfl,k0,k1⟩:=tells_recs hX (by rw [pX];exact K2.out)
 obtain ⟨rfl,tb,tf,rfl,k2,k3⟩:=tells_ans hY (by rw [pY];exact K3.out)
 rw [K5]
 clear hX hY pX pY K2 K3 K4 K5 HDN HTL
 go_wp2
 go_ret
 exact ⟨rfl,bw⟩
end Go.Proofs.YtabafikicbkkdaaGreatDoor
namespace Go.Proofs.YtabafikicbkkdaaGreatDoor
open Go.RowKit
set_option linter.unusedVariables false
set_option maxHeartbeats 4000000
set_option maxRecDepth 100000
set_option linter.unusedSimpArgs false
inductive Hops (lo hi:Nat):World→World→Prop
 |low {a b:World} : Below a.heap.size a b→Hops lo hi a b
 |on {a b c:World} : Hops lo hi a b→Below b.heap.size b c→Hops lo hi a c
 |hop {a b c:World} {g:Nat} : Hops lo hi a b→ButI g b c→lo≤g→g < hi→Hops lo hi a c
theorem Hops.size {lo hi:Nat} {a c:World} (h:Hops lo hi a c):a.heap.size≤c.heap.size:=by
 induction h with
 |low h=>exact h.size
 |on _ k ih=>exact Nat.le_trans ih k.size
 |hop _ k _ _ ih=>exact Nat.le_trans ih k.but.size
theorem Hops.keep {lo hi:Nat} {a c:World} (h:Hops lo hi a c) (hl:lo≤a.heap.size):Below lo a c:=by
 revert hl
 induction h with
 |low h=>exact fun hl=>h.mono hl
 |on h k ih=>exact fun hl=>(ih hl).trans (k.mono (Nat.le_trans hl h.size))
 |hop h k h1 _ ih=>exact fun hl=>(ih hl).trans (k.below h1)
theorem Hops.lay {lo hi:Nat} {a c:World} (h:Hops lo hi a c) {B:Nat} {vs:List Value} (l:Lay a B vs) (hB:hi≤B):Lay c B vs:=by
 revert l
 induction h with
 |low h=>exact fun l=>l.below h
 |on _ k ih=>exact fun l=>(ih l).below k
 |hop _ k _ h2 ih=>exact fun l=>(ih l).butI k (by omega)
theorem Hops.world {lo hi:Nat} {a c:World} (h:Hops lo hi a c) {x:WV} (l:x.ok a) (hn:x.new hi):x.ok c:=by
 revert l
 induction h with
 |low h=>exact fun l=>l.below h (Nat.le_refl _)
 |on _ k ih=>exact fun l=>(ih l).below k (Nat.le_refl _)
 |hop _ k _ h2 ih=>exact fun l=>(ih l).but k.but (hn _ h2)
end Go.Proofs.YtabafikicbkkdaaGreatDoor
namespace Go.Proofs.YtabafikicbkkdaaGreatDoor
open Go.RowKit
set_option linter.unusedVariables false
set_option maxHeartbeats 4000000
set_option maxRecDepth 100000
set_option linter.unusedSimpArgs false
theorem WDo_c (x:WV) (v:XV) (w:World) (hE:Env w) (hx:x.ok w) (hs:x.sm) (hv:v.ok w):Calls Tryz.prog 28 #[x.v,v.v] w fun e w'=>WorldNew (doW x.p v.p) w e w':=by
 have HCK:=hide (fun w' h1 h2=>WCheck_c x w' h1 h2 hs)
 have HST:=hide (fun k w' h1 h2 h3=>step_c x v w' h1 h2 k h3)
 have HC:Hid (doW x.p v.p=if checkW x.p≠0 then (zeroW,checkW x.p) else happenW x.p v.p):=hide rfl
 generalize doW x.p v.p=cw at *
 generalize checkW x.p=ck at *
 generalize happenW x.p v.p=hw at *
 obtain ⟨x0,x1,x2,bw⟩:=three_boxes w x.cells v.cells [.slice none 0 0,.slice none 0 0,.int .i64 0,.int .i64 0,.slice none 0 0,.slice none 0 0,.slice none 0 0,.bool false,.slice none 0 0,.slice none 0 0] 40 75 40
 replace hx:=hx.below bw (Nat.le_refl _)
 replace hv:=Ints.below hv bw (Nat.le_refl _)
 replace hE:=hE.below bw
 dsimp only [XV.v,XV.cells] at *
 go_enter Tryz.func28,Tryz.ntmps28
 go_wp2_with fail
 generalize ((w.alloc (.cells x.cells.toArray 40)).alloc (.cells [.int .i64 v.k,.int .i64 v.w,.int .i64 v.n,.int .i64 v.c.k,.int .i64 v.c.z,.int .i64 v.c.n,.int .i64 v.c.at',.slice v.ca v.cn v.cc].toArray 75)).alloc (.cells [.slice none 0 0,.slice none 0 0,.int .i64 0,.int .i64 0,.slice none 0 0,.slice none 0 0,.slice none 0 0,.bool false,.slice none 0 0,.slice none 0 0].toArray 40)=w1 at *
 refine (HCK.out _ hE hx).mono ?_
 rintro e w2 ⟨rfl,hb⟩
 replace x0:=x0.below hb
 replace x1:=x1.below hb
 replace x2:=x2.below hb
 replace hx:=hx.below hb (Nat.le_refl _)
 replace hv:=hv.below hb (Nat.le_refl _)
 replace hE:=hE.below hb
 replace bw:=belowT bw hb
 clear hb HCK
 cases h0:ck !=0
 ·rw [if_neg (by simpa using h0)] at HC
  have HS:=hide (HST.out (by simpa using h0))
  obtain ⟨q0,q1,q2,q3,q4,q5,q6,q7,q8,q9⟩:=x0.ten
  have y0:=x1.cell 0 _ rfl
  have y1:=x1.cell 1 _ rfl
  have y2:=x1.cell 2 _ rfl
  have y3:=x1.cell 3 _ rfl
  have y4:=x1.cell 4 _ rfl
  have y5:=x1.cell 5 _ rfl
  have y6:=x1.cell 6 _ rfl
  have y7:=x1.cell 7 _ rfl
  have hl2:=x2.lt
  go_wp2_with fail
  refine (HS.out _ hE hx hv).mono ?_
  rintro e w3 ⟨⟨z,rfl,okz,smz,nz,pz⟩,hb⟩
  have xR:=x2.below hb
  replace bw:=belowT bw hb
  clear hb x0 x1 x2 q0 q1 q2 q3 q4 q5 q6 q7 q8 q9 y0 y1 y2 y3 y4 y5 y6 y7 hE hx hv HS HST
  obtain ⟨e0,e1,e2,e3,e4,e5,e6,e7,e8,e9⟩:=Lay.ten (x:=WV.zero) xR
  have ice:=xR.ice
  dsimp only [WV.zero,HV.zero,DV.zero,KV.zero,zeroB] at e0 e1 e2 e3 e4 e5 e6 e7 e8 e9
  have bt:=putAll_but (w.heap.size + 1 + 1) z.cells w3 0
  have okz9:=okz.but bt.but (nz _ hl2)
  have zB:=xR.fill (vs:=z.cells) rfl
  have b9:=bw.trans (bt.below (B:=w.heap.size) (by omega))
  dsimp only [putAll,Nat.reduceAdd] at okz9 zB b9
  clear okz bt xR bw
  go_wp2
  obtain ⟨z0,z1,z2,z3,z4,z5,z6,z7,z8,z9⟩:=zB.ten
  exact bodyPost_ret (v:=.tuple #[z.v,.int .i64 hw.2]) (by simp [results,Tryz.results28,go_sem,z0,z1,z2,z3,z4,z5,z6,z7,z8,z9]) rfl
   ⟨⟨z,by rw [HC.out],okz9,smz,fun R hR=>nz R (by omega),by rw [HC.out];exact pz⟩,b9⟩
 ·rw [if_pos (by simpa using h0)] at HC
  have xR:=x2
  obtain ⟨e0,e1,e2,e3,e4,e5,e6,e7,e8,e9⟩:=Lay.ten (x:=WV.zero) xR
  have ice:=xR.ice
  dsimp only [WV.zero,HV.zero,DV.zero,KV.zero,zeroB] at e0 e1 e2 e3 e4 e5 e6 e7 e8 e9
  have bt:=putAll_but (w.heap.size + 1 + 1) WV.zero.cells w2 0
  have zB:=xR.fill (vs:=WV.zero.cells) rfl
  have b9:=(bw).trans (bt.below (B:=w.heap.size) (by omega))
  dsimp only [putAll,Nat.reduceAdd,WV.zero,HV.zero,DV.zero,KV.zero,zeroB] at zB b9
  clear bt
  go_wp2
  obtain ⟨z0,z1,z2,z3,z4,z5,z6,z7,z8,z9⟩:=Lay.ten (x:=WV.zero) zB
  dsimp only [WV.zero,HV.zero,DV.zero,KV.zero,zeroB] at z0 z1 z2 z3 z4 z5 z6 z7 z8 z9
  exact bodyPost_ret (v:=.tuple #[.agg #[.slice none 0 0,.slice none 0 0,.int .i64 0,.int .i64 0,.slice none 0 0,.slice none 0 0,.slice none 0 0,.bool false,.slice none 0 0,.slice none 0 0],.int .i64 ck]) (by simp [results,Tryz.results28,go_sem,z0,z1,z2,z3,z4,z5,z6,z7,z8,z9]) rfl
   ⟨⟨WV.zero,by rw [HC.out];rfl,WV.zero_ok _,WV.zero_sm,WV.zero_new _,by rw [HC.out];rfl⟩,b9⟩
end Go.Proofs.YtabafikicbkkdaaGreatDoor
namespace Go.Proofs.YtabafikicbkkdaaGreatDoor
open Go.RowKit
set_option linter.unusedVariables false
set_option maxHeartbeats 4000000
set_option maxRecDepth 100000
set_option linter.unusedSimpArgs false
theorem playedKeys_c  (la:Option Addr) (ln lc:Nat) (L:List XV) (u w:World) (Inv:Nat→World→List PR→List PA→Prop) (hE:Env u) (hL:Rows' hapK u la ln lc L) (hu:Below u.heap.size u w)
  (h0:∀ k w',w.heap.size≤k→Below w.heap.size w w'→Inv k w' [] [])
  (h1:∀ k w' w'' A T,Inv k w' A T→Below w'.heap.size w' w''→Inv k w'' A T)
  (h2:∀ k w' w'' A T,w.heap.size≤k→Inv k w' A T→ButI k w' w''→Inv k w'' A T)
  (hF:∀ (k:Nat) (x:WV) w' A T A' H' T',w.heap.size≤k→k < w'.heap.size→Inv k w' A T→Env w'→x.ok w'→x.sm→Saga x.p A' H' T'→Grows A T A' T'→Calls Tryz.prog 22 #[x.v] w' fun e w''=>e=.returned (.bool true)∧Inv k w'' A' T'∧Hops u.heap.size w.heap.size w' w'') :
  Calls Tryz.prog 8 #[.slice la ln lc,.func (Fn.func 22) #[] #[]] w fun e w'=>(∃ (x:WV) (A:List PR) (H:PH) (T:List PA),e=.returned (.tuple #[x.v,.bool true])∧x.ok w'∧x.sm∧x.new w.heap.size∧Saga x.p A H T)∧Below u.heap.size w w':=by
 have hlm:=hL.max
 have hll:=hL.le
 have hLl:=hL.len
 have huw:=hu.size
 obtain ⟨mm,hmm⟩:∃ mm:Nat,min ln 90=mm:=⟨_,rfl⟩
 have hm1:mm≤ln:=by omega
 have hmi:min (ln:Int) 90=(mm:Int):=by omega
 have hj0:(0:Int)≤(mm:Int):=by omega
 have hj1:(mm:Int)≤(lc:Int):=by omega
 have hj2:mm≤lc:=by omega
 have hj3:¬ ((mm:Int) < 0):=by omega
 have hj4:¬ ((lc:Int) < (mm:Int)):=by omega
 have H0:=hide h0
 have H1:=hide h1
 have H2:=hide h2
 have HF:=hide hF
 clear h0 h1 h2 hF
 have xR:=Lay.made w [.slice none 0 0,.slice none 0 0,.int .i64 0,.int .i64 0,.slice none 0 0,.slice none 0 0,.slice none 0 0,.bool false,.slice none 0 0,.slice none 0 0] 40
 have bw:=belowA (Below.refl _ w) (.cells [.slice none 0 0,.slice none 0 0,.int .i64 0,.int .i64 0,.slice none 0 0,.slice none 0 0,.slice none 0 0,.bool false,.slice none 0 0,.slice none 0 0].toArray 40)
 go_enter Tryz.func8,Tryz.ntmps8
 go_wp2_with fail
 generalize w.alloc (.cells [.slice none 0 0,.slice none 0 0,.int .i64 0,.int .i64 0,.slice none 0 0,.slice none 0 0,.slice none 0 0,.bool false,.slice none 0 0,.slice none 0 0].toArray 40)=w1 at *
 refine (WNew_c _).mono ?_
 rintro e w2 ⟨⟨y,rfl,oky,smy,ny,py⟩,hb⟩
 have hl1:=xR.lt
 replace xR:=xR.below hb
 replace bw:=belowT bw hb
 replace ny:=ny.mono (show w.heap.size + 1≤_ by omega)
 clear hb
 have hs2:=bw.size
 dsimp only [WV.v]
 go_upto_region 2 with fail
 have okW:=oky.off (Nat.le_refl _)
 have hNl:=xR.lt
 have Nx:=Lay.made w2 y.cells 40
 have bn:=belowA (Below.refl _ w2) (.cells y.cells.toArray 40)
 replace xR:=xR.below bn
 replace oky:=oky.below bn (Nat.le_refl _)
 replace bw:=belowT bw bn
 clear bn
 generalize w2.alloc (.cells y.cells.toArray 40)=w3 at *
 generalize w2.heap.size=N at *
 have hNw:w.heap.size < N:=hNl
 have hI:=H0.out N _ (by omega) bw
 have hsg:Saga y.p [] freshH []:=by rw [py];exact Saga.fresh
 clear py hs2 hl1
 replace bw:Below u.heap.size w w3:=bw.mono huw
 go_wp2_with fail
 go_loopw [18] (fun i wr=>∃ wz:World,wz=wr∧∃ (j:Nat) (x:WV) (A:List PR) (H:PH) (T:List PA),j≤mm∧i=.int .i64 (j:Nat)∧Lay wz N x.cells∧x.ok wz∧x.sm∧x.new (w.heap.size + 1)∧x.off N∧Saga x.p A H T∧Inv N wz A T∧Lay wz w.heap.size [.slice none 0 0,.slice none 0 0,.int .i64 0,.int .i64 0,.slice none 0 0,.slice none 0 0,.slice none 0 0,.bool false,.slice none 0 0,.slice none 0 0]∧Below u.heap.size w wz) (fun i _=>mm - (intOf i).toNat)
 case atStart=>exact ⟨_,rfl,0,y,[],freshH,[],by omega,rfl,Nx,oky,smy,ny,okW,hsg,hI,xR,bw⟩
 case round=>
  clear Nx oky smy ny okW hsg hI xR bw
  obtain ⟨wr,rfl,j,x,A,H,T,hj,rfl,lz,okz,smz,nz,oz,hsg,hI,xR,bw⟩:=hrel
  have hs0:=bw.size
  have HSG:=hide hsg
  have HI:=hide hI
  clear hsg hI
  by_cases hlt:j < mm
  ·obtain ⟨b,off,v,rfl,hv,hvk,hbl,kv⟩:=hL.at (show j < ln by omega)
   have buw:=hu.trans bw
   obtain ⟨y0,y1,y2,y3,y4,y5,y6,y7⟩:=XV.lay (b:=b) (o:=off + j * 8) (fun i z h=>(by rw [buw.cell (p:=⟨b,_,none⟩) hbl];exact kv i z h:wr.cell? ⟨b,off + j * 8 + i,none⟩=some z))
   have HDO:=hide (fun w' h1 h2 h3=>WDo_c x v w' h1 h2 smz h3)
   have HST:=hide (fun k=>HSG.out.step (e:=v.p) k)
   have HNX:=hide hvk
   generalize doW x.p v.p=dw at *
   have hlt':(j:Int) < (mm:Int):=by omega
   clear hv kv hvk
   go_upto_region 5 with fail
   have bn:=belowA (Below.refl _ wr) (.cells [.int .i64 v.k,.int .i64 v.w,.int .i64 v.n,.int .i64 v.c.k,.int .i64 v.c.z,.int .i64 v.c.n,.int .i64 v.c.at',.slice v.ca v.cn v.cc].toArray 75)
   have xv:=Lay.made wr [.int .i64 v.k,.int .i64 v.w,.int .i64 v.n,.int .i64 v.c.k,.int .i64 v.c.z,.int .i64 v.c.n,.int .i64 v.c.at',.slice v.ca v.cn v.cc] 75
   replace lz:=lz.below bn
   replace okz:=okz.below bn (Nat.le_refl _)
   replace xR:=xR.below bn
   replace HI:=hide (H1.out _ _ _ _ _ HI.out bn)
   replace bw:=bw.trans (bn.mono (show u.heap.size≤wr.heap.size by omega))
   have s5:=bn.size
   clear bn y0 y1 y2 y3 y4 y5 y6 y7
   generalize wr.alloc (.cells [.int .i64 v.k,.int .i64 v.w,.int .i64 v.n,.int .i64 v.c.k,.int .i64 v.c.z,.int .i64 v.c.n,.int .i64 v.c.at',.slice v.ca v.cn v.cc].toArray 75)=w5 at *
   have hT:=xv.lt
   generalize wr.heap.size=T1 at *
   have buw5:=hu.trans bw
   have hvk5:=Ints.below HNX.out buw5 (Nat.le_refl _)
   have hE5:=hE.below buw5
   obtain ⟨q0,q1,q2,q3,q4,q5,q6,q7,q8,q9⟩:=lz.ten
   have v0:=xv.cell 0 _ rfl
   have v1:=xv.cell 1 _ rfl
   have v2:=xv.cell 2 _ rfl
   have v3:=xv.cell 3 _ rfl
   have v4:=xv.cell 4 _ rfl
   have v5:=xv.cell 5 _ rfl
   have v6:=xv.cell 6 _ rfl
   have v7:=xv.cell 7 _ rfl
   have hN5:=lz.lt
   dsimp only [XV.v] at HDO
   go_wp2_with fail
   refine (HDO.out _ hE5 okz hvk5).mono ?_
   rintro e w6 ⟨⟨z,rfl,okn,smn,nn,pn⟩,hb⟩
   have s56:=hb.size
   replace lz:=lz.below hb
   replace okz:=okz.below hb (Nat.le_refl _)
   replace xR:=xR.below hb
   replace HI:=hide (H1.out _ _ _ _ _ HI.out hb)
   replace bw:=bw.trans (hb.mono (show u.heap.size≤w5.heap.size by omega))
   clear hb q0 q1 q2 q3 q4 q5 q6 q7 q8 q9 v0 v1 v2 v3 v4 v5 v6 v7 xv hE5 hvk5 HDO HNX buw5 buw
   dsimp only [WV.v]
   go_upto_region 6 with fail
   have bn:=belowA (Below.refl _ w6) (.cells z.cells.toArray 40)
   have xz:=Lay.made w6 z.cells 40
   replace lz:=lz.below bn
   replace okz:=okz.below bn (Nat.le_refl _)
   replace okn:=okn.below bn (Nat.le_refl _)
   replace xR:=xR.below bn
   replace HI:=hide (H1.out _ _ _ _ _ HI.out bn)
   replace bw:=bw.trans (bn.mono (show u.heap.size≤w6.heap.size by omega))
   have s67:=bn.size
   clear bn
   generalize w6.alloc (.cells z.cells.toArray 40)=w7 at *
   have hT2:=xz.lt
   generalize w6.heap.size=T2 at *
   cases h0:dw.2==0
   ·go_wp2
    exact ⟨⟨_,rfl,j + 1,x,A,H,T,by omega,by go_num,lz,okz,smz,nz,oz,HSG.out,HI.out,xR,bw⟩,by simp [intOf];omega⟩
   ·obtain ⟨A',H',T',hsg',hgr⟩:=HST.out (by simpa using h0)
    rw [← pn] at hsg'
    have HS':=hide hsg'
    have HG:=hide hgr
    clear hsg' hgr pn HST HSG
    obtain ⟨q0,q1,q2,q3,q4,q5,q6,q7,q8,q9⟩:=lz.ten
    obtain ⟨t0,t1,t2,t3,t4,t5,t6,t7,t8,t9⟩:=xz.ten
    have li:=lz.ice
    have hNT:N≠T2:=by omega
    have hTN:T2≠N:=by omega
    have hnN:=nn N (by omega)
    have nw8:z.new (w.heap.size + 1):=nn.mono (by omega)
    have bN:=putAll_but N z.cells w7 0
    have l8:=lz.fill (vs:=z.cells) rfl
    have o8:=okn.but bN.but hnN
    have r8:=xR.butI bN (show w.heap.size≠N by omega)
    have b8:=bw.trans (bN.below (B:=u.heap.size) (show u.heap.size≤N by omega))
    have s8:=bN.but.size
    have i8:=hide (H2.out _ _ _ _ _ (show w.heap.size≤N by omega) HI.out bN)
    obtain ⟨w8,hw8⟩:∃ o,o=putAll w7 N 0 z.cells:=⟨_,rfl⟩
    rw [← hw8] at l8 o8 r8 b8 s8 i8
    go_upto_region 8 with fail
    dsimp only [putAll,Nat.reduceAdd] at hw8
    rw [← hw8]
    clear hw8 q0 q1 q2 q3 q4 q5 q6 q7 q8 q9 t0 t1 t2 t3 t4 t5 t6 t7 t8 t9 li bN lz xR bw xz okz okn HI hNT hTN
    have hN8:=l8.lt
    have HC:=hide (HF.out N z w8 A T A' H' T' (by omega) hN8 i8.out (hE.below (hu.trans b8)) o8 smn HS'.out HG.out)
    dsimp only [WV.v] at HC
    obtain ⟨q0,q1,q2,q3,q4,q5,q6,q7,q8,q9⟩:=l8.ten
    go_wp2_with fail
    refine HC.out.mono ?_
    rintro e w9 ⟨rfl,i9,hop⟩
    have l9:=hop.lay l8 (by omega)
    have o9:=hop.world o8 (nw8.mono (by omega))
    have r9:=hop.lay r8 (Nat.le_refl _)
    have b9:=b8.trans (hop.keep (by omega))
    have I9:=hide i9
    clear q0 q1 q2 q3 q4 q5 q6 q7 q8 q9 hop l8 o8 r8 b8 i8 i9 HC
    go_wp2
    exact ⟨⟨_,rfl,j + 1,z,A',H',T',by omega,by go_num,l9,o9,smn,nw8,hnN,HS'.out,I9.out,r9,b9⟩,by simp [intOf];omega⟩
  ·obtain rfl:j=mm:=by omega
   obtain ⟨q0,q1,q2,q3,q4,q5,q6,q7,q8,q9⟩:=lz.ten
   obtain ⟨e0,e1,e2,e3,e4,e5,e6,e7,e8,e9⟩:=Lay.ten (x:=WV.zero) xR
   have ice:=xR.ice
   dsimp only [WV.zero,HV.zero,DV.zero,KV.zero,zeroB] at e0 e1 e2 e3 e4 e5 e6 e7 e8 e9
   have bt:=putAll_but w.heap.size x.cells wr 0
   have ok9:=okz.but bt.but (nz _ (by omega))
   have zB:=xR.fill (vs:=x.cells) rfl
   have b9:=bw.trans (bt.below (B:=u.heap.size) huw)
   dsimp only [putAll,Nat.reduceAdd] at ok9 zB b9
   clear okz bt lz xR bw HI
   go_wp2
   obtain ⟨z0,z1,z2,z3,z4,z5,z6,z7,z8,z9⟩:=zB.ten
   exact bodyPost_ret (v:=.tuple #[x.v,.bool true]) (by simp [results,Tryz.results8,go_sem,z0,z1,z2,z3,z4,z5,z6,z7,z8,z9]) rfl
    ⟨⟨x,A,H,T,rfl,ok9,smz,nz.mono (by omega),HSG.out⟩,b9⟩
end Go.Proofs.YtabafikicbkkdaaGreatDoor
namespace Go.Proofs.YtabafikicbkkdaaGreatDoor
open Go.RowKit
set_option linter.unusedVariables false
set_option maxHeartbeats 4000000
set_option maxRecDepth 100000
set_option linter.unusedSimpArgs false
theorem Keeps.refl (P:List PZ) (j:Nat) (m:Bool):Keeps P P j m:=⟨rfl,fun i y z h1 h2=>by rw [h1] at h2;cases h2;exact ⟨[],by simp,fun h=>absurd rfl h⟩⟩
end Go.Proofs.YtabafikicbkkdaaGreatDoor
namespace Go.Proofs.YtabafikicbkkdaaGreatDoor
open Go.RowKit
set_option linter.unusedVariables false
set_option maxHeartbeats 4000000
set_option maxRecDepth 100000
set_option linter.unusedSimpArgs false
theorem snoc_ind {C:List PR→Prop} (h0:C []) (h1:∀ A r,C A→C (A++[r])):∀ A,C A:=fun A=>by
 have h:∀ l:List PR,C l.reverse:=fun l=>by
  induction l with
  |nil=>simpa using h0
  |cons a l ih=>rw [List.reverse_cons];exact h1 _ _ ih
 have:=h A.reverse
 rwa [List.reverse_reverse] at this
theorem log_of:∀ A:List PR,(replayF freshH A).2=0→(∀ (i:Nat) (r:PR),A[i]?=some r→r.s=(cntR (A.take i) r.w:Int) + 1)→Log A (replayF freshH A).1 (toldF freshH A):=
 snoc_ind (fun _ _=>Log.nil) (fun A r ih k hn=>by
  obtain ⟨k1,k2,k3⟩:=replay_snoc A r freshH k
  have hA:=ih k1 (fun i x e=>by
   have hl:=(List.getElem?_eq_some_iff.1 e).1
   have:=hn i x (by rw [List.getElem?_append_left hl];exact e)
   rwa [List.take_append_of_le_length (by omega)] at this)
  have hr:=hn A.length r (by simp)
  rw [List.take_append_of_le_length (Nat.le_refl _),List.take_length] at hr
  obtain ⟨i,hi,hi3⟩:=rec_who (nextH_ok k2).2.1
  have hs:=hA.snoc k2 (by rw [hr,hi,hA.cnt i hi3])
  rw [k3,told_app _ _ _ k1]
  exact hs)
theorem Log.front {A:List PR} {r:PR} {H:PH} {T:List PA} (h:Log (A++[r]) H T):∃ H0 T0,Log A H0 T0∧(nextH H0 r).2.2=0∧r.s=(lastH H0 r.w).s + 1∧H=(nextH H0 r).1∧T=T0++[(nextH H0 r).2.1]:=by
 have k:(replayF freshH (A++[r])).2=0:=by rw [h.rep]
 obtain ⟨k1,k2,k3⟩:=replay_snoc A r freshH k
 have hA:=log_of A k1 (fun i x e=>by
  have hl:=(List.getElem?_eq_some_iff.1 e).1
  have:=h.num i x (by rw [List.getElem?_append_left hl];exact e)
  rwa [List.take_append_of_le_length (by omega)] at this)
 have hr:=h.num A.length r (by simp)
 rw [List.take_append_of_le_length (Nat.le_refl _),List.take_length] at hr
 obtain ⟨i,hi,hi3⟩:=rec_who (nextH_ok k2).2.1
 refine ⟨_,_,hA,k2,by rw [hr,hi,hA.cnt i hi3],?_,?_⟩
 ·rw [← k3,h.rep]
 ·rw [h.told,told_app _ _ _ k1]
theorem next_may {h:PH} {r:PR} (k:(nextH h r).2.2=0) (hm:mightB h.d.b r.w true=false):(nextH h r).1.d.P=h.d.P:=by
 obtain ⟨h1,h2,h3⟩:=nextH_ok k
 obtain ⟨hd,hl,_⟩:=checkH_ok h1
 obtain ⟨i,hi,hi3⟩:=rec_who h2
 obtain ⟨_,_,hc⟩:=checkR_facts h2
 rcases h3 with ⟨e,q⟩|⟨e,q⟩
 ·rw [q]
 ·rw [q]
  rw [hi] at hm ⊢
  exact (done_right (c:=r.c) hd hi3 hc).may hm
theorem Log.keys {A:List PR} {r:PR} {H:PH} {T:List PA} (h:Log (A++[r]) H T):∃ H0,replayF freshH A=(H0,0)∧checkH H0=0∧(mightB H0.d.b r.w true=true∨H.d.P=H0.d.P):=by
 obtain ⟨H0,T0,h0,k,_,e,_⟩:=h.front
 refine ⟨H0,h0.rep,h0.ok,?_⟩
 cases hm:mightB H0.d.b r.w true with
 |true=>exact .inl rfl
 |false=>exact .inr (by rw [e];exact next_may k hm)
end Go.Proofs.YtabafikicbkkdaaGreatDoor
namespace Go.Proofs.YtabafikicbkkdaaGreatDoor
open Go.RowKit
set_option linter.unusedVariables false
set_option maxHeartbeats 4000000
set_option maxRecDepth 100000
set_option linter.unusedSimpArgs false
theorem replayH_of {A:List PR} {H:PH} (e:replayF freshH A=(H,0)) (h:A.length≤80):replayH A=(H,0):=by
 unfold replayH
 rw [if_neg (by omega),e]
theorem snoc_or {α:Type} (A:List α):A=[]∨∃ B r,A=B++[r]:=by
 rcases A.eq_nil_or_concat with h|⟨B,r,h⟩
 ·exact .inl h
 ·exact .inr ⟨B,r,by simpa using h⟩
theorem keys_c (x:WV) (w:World) (hE:Env w) (hk:x.ok w) (hs:x.sm) {A:List PR} {H:PH} {T:List PA} (hsg:Saga x.p A H T):Calls Tryz.prog 22 #[x.v] w fun e w'=>e=.returned (.bool true)∧Below w.heap.size w w':=by
 have HDN:=hide (fun w' h1 h2=>Done_w x w' h1 h2 hs)
 rw [hsg.doneS] at HDN
 have HSG:=hide hsg
 clear hsg
 have bw:=belowA (Below.refl _ w) (.cells x.cells.toArray 40)
 replace hk:=hk.below bw (Nat.le_refl _)
 replace hE:=hE.below bw
 go_enter Tryz.func22,Tryz.ntmps22
 go_wp2_with fail
 generalize w.alloc (.cells x.cells.toArray 40)=w1 at *
 refine (HDN.out _ hE hk).mono ?_
 rintro e w2 ⟨⟨la,ln,lc,X,rfl,hX,fX,pX⟩,hb⟩
 replace hE:=hE.below hb
 replace bw:=belowT bw hb
 clear hb HDN hk fX
 have hLn:=hX.len
 have hle:=hX.le
 have hmax:=hX.max
 have hA80:=HSG.out.len
 have hAl:A.length=ln:=by rw [← hLn,← List.length_map (f:=RV.p),pX]
 rcases snoc_or A with hA|⟨A0,r,hA⟩
 ·obtain rfl:ln=0:=by rw [← hAl,hA];rfl
  go_wp2
  go_ret
  exact ⟨rfl,bw⟩
 ·obtain ⟨m,hm⟩:∃ m,m=A0.length:=⟨_,rfl⟩
  have hln:ln=m + 1:=by rw [← hAl,hA,hm];simp
  have hwr:IntKind.i64.wrap ((ln:Int) - 1)=(m:Int):=by rw [IntWalk.i64_in _ ⟨by omega,by omega⟩];omega
  have hne:((ln:Int)==0)=false:=by simp;omega
  have k0:(0:Int)≤(m:Int):=by omega
  have k1:(m:Int)≤(lc:Int):=by omega
  have k2:m≤lc:=by omega
  have k3:¬ ((m:Int) < 0):=by omega
  have k4:¬ ((lc:Int) < (m:Int)):=by omega
  have k5:(m:Int) < (ln:Int):=by omega
  have hL:=HSG.out.log
  rw [hA] at hL
  obtain ⟨H0,hr0,hc0,hky⟩:=hL.keys
  have hT:=hX.take (show m≤ln by omega)
  have hTp:(X.take m).map RV.p=A0:=by rw [List.map_take,pX,hA,hm];simp
  have R1:=hide (fun w' h1 h2=>Replay_c la m lc (X.take m) w' h1 h2)
  rw [hTp,replayH_of hr0 (by omega)] at R1
  have R2:=hide (fun w' h1 h2=>Replay_c la ln lc X w' h1 h2)
  rw [pX,replayH_of HSG.out.log.rep (by omega)] at R2
  obtain ⟨z,hz⟩:∃ z,X[m]?=some z:=⟨_,List.getElem?_eq_getElem (by omega)⟩
  have hzp:z.p=r:=by
   have:=congrArg (fun l=>l[m]?) pX
   rw [hA] at this
   rw [hm] at hz
   simp [hz,hm] at this
   exact this
  obtain ⟨b,off,rfl,hbl,hc⟩:=hX.row.resolve_left (by omega)
  have kc:=hc m z hz 0 _ rfl
  rw [Nat.add_zero,hzp] at kc
  obtain ⟨j,hj,hj3⟩:=rec_who (hL.right r (by simp))
  have hMY:=may_ok (checkD_ok (checkH_ok hc0).1).2 hj3 true
  rw [← hj] at hMY
  have HKY:=hide hky
  have HMY:=hide hMY
  generalize r.w=q at *
  have HC0:=hide hc0
  clear hln hc hz hzp hTp hr0 hky hL hm hj hMY hc0 hLn hAl hA pX
  go_wp2_with fail
  refine (R1.out _ hE.shp hT).mono ?_
  rintro e w3 ⟨⟨h0,rfl,ok0,new0,p0⟩,hb⟩
  replace hX:=hX.below hb (Nat.le_refl _)
  replace hE:=hE.below hb
  replace kc:=keepc hb kc
  replace bw:=belowT bw hb
  clear hb hT R1
  dsimp only [HV.v]
  go_upto_region 6 with fail
  have Fx:=Lay.made w3 [.slice h0.d.za h0.d.zn h0.d.zc,.slice h0.d.ka h0.d.kn h0.d.kc,.int .i64 h0.d.b.h,.int .i64 h0.d.b.t,.slice h0.a h0.n h0.c] 33
  have bn:=belowA (Below.refl _ w3) (.cells [.slice h0.d.za h0.d.zn h0.d.zc,.slice h0.d.ka h0.d.kn h0.d.kc,.int .i64 h0.d.b.h,.int .i64 h0.d.b.t,.slice h0.a h0.n h0.c].toArray 33)
  generalize w3.heap.size=F at Fx
  generalize w3.alloc (.cells [.slice h0.d.za h0.d.zn h0.d.zc,.slice h0.d.ka h0.d.kn h0.d.kc,.int .i64 h0.d.b.h,.int .i64 h0.d.b.t,.slice h0.a h0.n h0.c].toArray 33)=w4 at *
  replace hX:=hX.below bn (Nat.le_refl _)
  replace hE:=hE.below bn
  replace kc:=keepc bn kc
  replace ok0:=ok0.below bn (Nat.le_refl _)
  replace bw:=belowT bw bn
  clear bn new0
  go_wp2_with fail
  refine (R2.out _ hE.shp hX).mono ?_
  rintro e w5 ⟨⟨h1,rfl,ok1,new1,p1⟩,hb⟩
  replace kc:=keepc hb kc
  replace ok0:=ok0.below hb (Nat.le_refl _)
  replace Fx:=Fx.below hb
  replace bw:=belowT bw hb
  clear hb R2 hX hE new1
  dsimp only [HV.v]
  go_upto_region 7 with fail
  have Gx:=Lay.made w5 [.slice h1.d.za h1.d.zn h1.d.zc,.slice h1.d.ka h1.d.kn h1.d.kc,.int .i64 h1.d.b.h,.int .i64 h1.d.b.t,.slice h1.a h1.n h1.c] 33
  have bn:=belowA (Below.refl _ w5) (.cells [.slice h1.d.za h1.d.zn h1.d.zc,.slice h1.d.ka h1.d.kn h1.d.kc,.int .i64 h1.d.b.h,.int .i64 h1.d.b.t,.slice h1.a h1.n h1.c].toArray 33)
  generalize w5.heap.size=G at Gx
  generalize w5.alloc (.cells [.slice h1.d.za h1.d.zn h1.d.zc,.slice h1.d.ka h1.d.kn h1.d.kc,.int .i64 h1.d.b.h,.int .i64 h1.d.b.t,.slice h1.a h1.n h1.c].toArray 33)=w6 at *
  replace kc:=keepc bn kc
  replace ok0:=ok0.below bn (Nat.le_refl _)
  replace ok1:=ok1.below bn (Nat.le_refl _)
  replace Fx:=Fx.below bn
  replace bw:=belowT bw bn
  clear bn
  have HM:=hide (fun w' h'=>BMay_c h0.d.ka h0.d.kn h0.d.kc h0.d.b q true w' h')
  have HZ:=hide (fun w' h1' h2'=>EqualFuncR_c h0.d.za h1.d.za h0.d.zn h1.d.zn h0.d.zc h1.d.zc h0.d.Z h1.d.Z w' h1' h2')
  have e0:h0.d.b=H0.d.b:=congrArg (fun h=>h.d.b) p0
  have eZ:mightB H0.d.b q true=true∨h0.d.Z.map ZV.p=h1.d.Z.map ZV.p:=HKY.out.imp id fun e=>by
   have e1:h0.d.Z.map ZV.p=H0.d.P:=congrArg (fun h=>h.d.P) p0
   have e2:h1.d.Z.map ZV.p=H.d.P:=congrArg (fun h=>h.d.P) p1
   rw [e1,e2,e]
  rw [show mayB h0.d.b q true=mayB H0.d.b q true by rw [e0],HMY.out] at HM
  generalize mightB H0.d.b q true=mt at *
  dsimp only [bookV] at HM
  have EZ:=hide eZ
  clear e0 eZ HKY HMY HC0 p0 p1
  have f2:=Fx.cell 2 _ rfl
  have hwF:=Fx.lt
  have f3:=Fx.cell 3 _ rfl
  have f1:=Fx.cell 1 _ rfl
  have oz:=ok0.d.z
  have okk:=ok0.d.k
  have o1:=ok1.d.z
  clear ok0 ok1
  go_upto_region 9 with fail
  go_cut [9,4] (fun y e wx=>y=.bool mt∧e=.int .i64 0∧Below w6.heap.size w6 wx)
  case first=>
   go_region_held3 (fun w'=>w'.cell? ⟨F,1,none⟩=some (.slice h0.d.ka h0.d.kn h0.d.kc)∧w'.cell? ⟨F,2,none⟩=some (.int .i64 h0.d.b.h)∧w'.cell? ⟨F,3,none⟩=some (.int .i64 h0.d.b.t)∧w'.cell? ⟨b,off + m * 7,none⟩=some (.int .i64 q)) ((first|(go_simp;done)|(simp [*,World.cell?_alloc_at,World.cell?_alloc_past,World.cell?_alloc_some,World.cell?_setCell_far];done))) (first|(go_at_call 23;refine (HM.out _ (by refine Ints.below okk (B:=w6.heap.size) ?_ (Nat.le_refl _);(repeat first|exact bel0|assumption|refine bel1 ?_|refine bel2 ?_|refine bel3 ?_|refine belowT ?_ (by assumption)|refine bel5 ?_ (by simp;try omega)))).mono ?_;rintro e w7 ⟨rfl,hb⟩;(have n0:=keepc hb (p:=⟨F,1,none⟩) (u:=.slice h0.d.ka h0.d.kn h0.d.kc) (by (first|(go_simp;done)|(simp [*,World.cell?_alloc_at,World.cell?_alloc_past,World.cell?_alloc_some,World.cell?_setCell_far];done))));(have n1:=keepc hb (p:=⟨F,2,none⟩) (u:=.int .i64 h0.d.b.h) (by (first|(go_simp;done)|(simp [*,World.cell?_alloc_at,World.cell?_alloc_past,World.cell?_alloc_some,World.cell?_setCell_far];done))));(have n2:=keepc hb (p:=⟨F,3,none⟩) (u:=.int .i64 h0.d.b.t) (by (first|(go_simp;done)|(simp [*,World.cell?_alloc_at,World.cell?_alloc_past,World.cell?_alloc_some,World.cell?_setCell_far];done))));(have n3:=keepc hb (p:=⟨b,off + m * 7,none⟩) (u:=.int .i64 q) (by (first|(go_simp;done)|(simp [*,World.cell?_alloc_at,World.cell?_alloc_past,World.cell?_alloc_some,World.cell?_setCell_far];done))))))
   go_wp2_with fail
   go_meet
   case rel=>exact ⟨rfl,rfl,by clear bw;(repeat first|exact bel0|assumption|refine bel1 ?_|refine bel2 ?_|refine bel3 ?_|refine belowT ?_ (by assumption)|refine bel5 ?_ (by simp;try omega))⟩
  case rest=>
   obtain ⟨rfl,rfl,hb⟩:=hcut
   generalize wc=w7 at *
   replace oz:=oz.below hb (Nat.le_refl _)
   replace o1:=o1.below hb (Nat.le_refl _)
   replace Fx:=Fx.below hb
   replace Gx:=Gx.below hb
   replace bw:=belowT bw hb
   have g0:=Fx.cell 0 _ rfl
   have g1:=Gx.cell 0 _ rfl
   cases hmt:mt
   ·have hez:h0.d.Z.map ZV.p=h1.d.Z.map ZV.p:=EZ.out.resolve_left (by simp [hmt])
    rw [decide_eq_true hez] at HZ
    go_wp2_with fail
    refine (HZ.out _ oz o1).mono ?_
    rintro e w8 ⟨rfl,hb8⟩
    replace bw:=belowT bw hb8
    go_wp2
    go_ret
    exact ⟨rfl,bw⟩
   ·go_wp2
    go_ret
    exact ⟨rfl,bw⟩
end Go.Proofs.YtabafikicbkkdaaGreatDoor
namespace Go.Proofs.YtabafikicbkkdaaGreatDoor
open Go.RowKit
set_option linter.unusedVariables false
set_option maxHeartbeats 4000000
set_option maxRecDepth 100000
set_option linter.unusedSimpArgs false
theorem StoryKeys_c (la:Option Addr) (ln lc:Nat) (L:List XV) (w:World) (hE:Env w) (hL:Rows' hapK w la ln lc L):Calls Tryz.prog 6 #[.slice la ln lc] w fun e w'=>e=.returned (.bool true)∧Below w.heap.size w w':=by
 have HP:=hide (playedKeys_c la ln lc L w w (fun _ _ _ _=>True) hE hL (Below.refl _ _) (fun _ _ _ _=>trivial) (fun _ _ _ _ _ _ _=>trivial) (fun _ _ _ _ _ _ _ _=>trivial) (fun k x w' A T A' H' T' _ _ _ hE' hx hs hg _=>(keys_c x w' hE' hx hs hg).mono fun e w'' ⟨h1,h2⟩=>⟨h1,trivial,.low h2⟩))
 go_enter Tryz.func6,Tryz.ntmps6
 go_wp2_with fail
 refine HP.out.mono ?_
 rintro e w1 ⟨⟨x,A,H,T,rfl,-,-,-,-⟩,bw⟩
 dsimp only [WV.v]
 replace hE:=hE.below bw
 go_upto_region 2 with fail
 have Bx:=Lay.made w1 x.cells 40
 have bn:=belowA (Below.refl _ w1) (.cells x.cells.toArray 40)
 generalize w1.heap.size=B at Bx
 generalize w1.alloc (.cells x.cells.toArray 40)=w2 at *
 replace hE:=hE.below bn
 replace bw:=belowT bw bn
 clear bn Bx
 go_wp2_with fail
 refine (told_w _ hE).mono ?_
 rintro e w3 ⟨rfl,hb⟩
 replace bw:=belowT bw hb
 go_wp2
 go_ret
 exact ⟨rfl,bw⟩
end Go.Proofs.YtabafikicbkkdaaGreatDoor
