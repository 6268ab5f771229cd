/- The contract of world.Do; no condition but that the arguments read as data, the package-level variables are as their texts lay them, and a disk is no greater than a machine bears. -/
import Derived.Test.YtabafikicbkkdaaGreatDoorSV39
import Derived.Test.YtabafikicbkkdaaGreatDoorSV12
import Derived.Test.YtabafikicbkkdaaGreatDoorSV13
import Derived.Test.YtabafikicbkkdaaGreatDoorSV38
import Derived.Test.YtabafikicbkkdaaGreatDoorSV35
import Derived.Test.YtabafikicbkkdaaGreatDoorSV26
import Derived.Test.YtabafikicbkkdaaGreatDoorSV23
import Derived.Test.YtabafikicbkkdaaGreatDoorSV14
namespace Go.Proofs.YtabafikicbkkdaaGreatDoor
open Go.RowKit
set_option linter.unusedVariables false
set_option maxHeartbeats 4000000
set_option maxRecDepth 100000
set_option linter.unusedSimpArgs false
theorem WDo_c (x:WV) (v:XV) (w:World) (hE:Env w) (hx:x.ok w) (hs:x.sm) (hv:v.ok w):Calls Tryz.prog 28 #[x.v,v.v] w fun e w'=>WorldNew (doW x.p v.p) w e w':=by
 have HCK:=hide (fun w' h1 h2=>WCheck_c x w' h1 h2 hs)
 have HST:=hide (fun k w' h1 h2 h3=>step_c x v w' h1 h2 k h3)
 have HC:Hid (doW x.p v.p=if checkW x.p≠0 then (zeroW,checkW x.p) else happenW x.p v.p):=hide rfl
 generalize doW x.p v.p=cw at *
 generalize checkW x.p=ck at *
 generalize happenW x.p v.p=hw at *
 obtain ⟨x0,x1,x2,bw⟩:=three_boxes w x.cells v.cells [.slice none 0 0,.slice none 0 0,.int .i64 0,.int .i64 0,.slice none 0 0,.slice none 0 0,.slice none 0 0,.bool false,.slice none 0 0,.slice none 0 0] 40 75 40
 replace hx:=hx.below bw (Nat.le_refl _)
 replace hv:=Ints.below hv bw (Nat.le_refl _)
 replace hE:=hE.below bw
 dsimp only [XV.v,XV.cells] at *
 go_enter Tryz.func28,Tryz.ntmps28
 go_wp2_with fail
 generalize ((w.alloc (.cells x.cells.toArray 40)).alloc (.cells [.int .i64 v.k,.int .i64 v.w,.int .i64 v.n,.int .i64 v.c.k,.int .i64 v.c.z,.int .i64 v.c.n,.int .i64 v.c.at',.slice v.ca v.cn v.cc].toArray 75)).alloc (.cells [.slice none 0 0,.slice none 0 0,.int .i64 0,.int .i64 0,.slice none 0 0,.slice none 0 0,.slice none 0 0,.bool false,.slice none 0 0,.slice none 0 0].toArray 40)=w1 at *
 refine (HCK.out _ hE hx).mono ?_
 rintro e w2 ⟨rfl,hb⟩
 replace x0:=x0.below hb
 replace x1:=x1.below hb
 replace x2:=x2.below hb
 replace hx:=hx.below hb (Nat.le_refl _)
 replace hv:=hv.below hb (Nat.le_refl _)
 replace hE:=hE.below hb
 replace bw:=belowT bw hb
 clear hb HCK
 cases h0:ck !=0
 ·rw [if_neg (by simpa using h0)] at HC
  have HS:=hide (HST.out (by simpa using h0))
  obtain ⟨q0,q1,q2,q3,q4,q5,q6,q7,q8,q9⟩:=x0.ten
  have y0:=x1.cell 0 _ rfl
  have y1:=x1.cell 1 _ rfl
  have y2:=x1.cell 2 _ rfl
  have y3:=x1.cell 3 _ rfl
  have y4:=x1.cell 4 _ rfl
  have y5:=x1.cell 5 _ rfl
  have y6:=x1.cell 6 _ rfl
  have y7:=x1.cell 7 _ rfl
  have hl2:=x2.lt
  go_wp2_with fail
  refine (HS.out _ hE hx hv).mono ?_
  rintro e w3 ⟨⟨z,rfl,okz,smz,nz,pz⟩,hb⟩
  have xR:=x2.below hb
  replace bw:=belowT bw hb
  clear hb x0 x1 x2 q0 q1 q2 q3 q4 q5 q6 q7 q8 q9 y0 y1 y2 y3 y4 y5 y6 y7 hE hx hv HS HST
  obtain ⟨e0,e1,e2,e3,e4,e5,e6,e7,e8,e9⟩:=Lay.ten (x:=WV.zero) xR
  have ice:=xR.ice
  dsimp only [WV.zero,HV.zero,DV.zero,KV.zero,zeroB] at e0 e1 e2 e3 e4 e5 e6 e7 e8 e9
  have bt:=putAll_but (w.heap.size + 1 + 1) z.cells w3 0
  have okz9:=okz.but bt.but (nz _ hl2)
  have zB:=xR.fill (vs:=z.cells) rfl
  have b9:=bw.trans (bt.below (B:=w.heap.size) (by omega))
  dsimp only [putAll,Nat.reduceAdd] at okz9 zB b9
  clear okz bt xR bw
  go_wp2
  obtain ⟨z0,z1,z2,z3,z4,z5,z6,z7,z8,z9⟩:=zB.ten
  exact bodyPost_ret (v:=.tuple #[z.v,.int .i64 hw.2]) (by simp [results,Tryz.results28,go_sem,z0,z1,z2,z3,z4,z5,z6,z7,z8,z9]) rfl
   ⟨⟨z,by rw [HC.out],okz9,smz,fun R hR=>nz R (by omega),by rw [HC.out];exact pz⟩,b9⟩
 ·rw [if_pos (by simpa using h0)] at HC
  have xR:=x2
  obtain ⟨e0,e1,e2,e3,e4,e5,e6,e7,e8,e9⟩:=Lay.ten (x:=WV.zero) xR
  have ice:=xR.ice
  dsimp only [WV.zero,HV.zero,DV.zero,KV.zero,zeroB] at e0 e1 e2 e3 e4 e5 e6 e7 e8 e9
  have bt:=putAll_but (w.heap.size + 1 + 1) WV.zero.cells w2 0
  have zB:=xR.fill (vs:=WV.zero.cells) rfl
  have b9:=(bw).trans (bt.below (B:=w.heap.size) (by omega))
  dsimp only [putAll,Nat.reduceAdd,WV.zero,HV.zero,DV.zero,KV.zero,zeroB] at zB b9
  clear bt
  go_wp2
  obtain ⟨z0,z1,z2,z3,z4,z5,z6,z7,z8,z9⟩:=Lay.ten (x:=WV.zero) zB
  dsimp only [WV.zero,HV.zero,DV.zero,KV.zero,zeroB] at z0 z1 z2 z3 z4 z5 z6 z7 z8 z9
  exact bodyPost_ret (v:=.tuple #[.agg #[.slice none 0 0,.slice none 0 0,.int .i64 0,.int .i64 0,.slice none 0 0,.slice none 0 0,.slice none 0 0,.bool false,.slice none 0 0,.slice none 0 0],.int .i64 ck]) (by simp [results,Tryz.results28,go_sem,z0,z1,z2,z3,z4,z5,z6,z7,z8,z9]) rfl
   ⟨⟨WV.zero,by rw [HC.out];rfl,WV.zero_ok _,WV.zero_sm,WV.zero_new _,by rw [HC.out];rfl⟩,b9⟩
end Go.Proofs.YtabafikicbkkdaaGreatDoor
namespace Go.Proofs.YtabafikicbkkdaaGreatDoor
open Go.RowKit
set_option linter.unusedVariables false
set_option maxHeartbeats 4000000
set_option maxRecDepth 100000
set_option linter.unusedSimpArgs false
inductive Hops (lo hi:Nat):World→World→Prop
 |low {a b:World} : Below a.heap.size a b→Hops lo hi a b
 |on {a b c:World} : Hops lo hi a b→Below b.heap.size b c→Hops lo hi a c
 |hop {a b c:World} {g:Nat} : Hops lo hi a b→ButI g b c→lo≤g→g < hi→Hops lo hi a c
theorem Hops.size {lo hi:Nat} {a c:World} (h:Hops lo hi a c):a.heap.size≤c.heap.size:=by
 induction h with
 |low h=>exact h.size
 |on _ k ih=>exact Nat.le_trans ih k.size
 |hop _ k _ _ ih=>exact Nat.le_trans ih k.but.size
theorem Hops.keep {lo hi:Nat} {a c:World} (h:Hops lo hi a c) (hl:lo≤a.heap.size):Below lo a c:=by
 revert hl
 induction h with
 |low h=>exact fun hl=>h.mono hl
 |on h k ih=>exact fun hl=>(ih hl).trans (k.mono (Nat.le_trans hl h.size))
 |hop h k h1 _ ih=>exact fun hl=>(ih hl).trans (k.below h1)
theorem Hops.lay {lo hi:Nat} {a c:World} (h:Hops lo hi a c) {B:Nat} {vs:List Value} (l:Lay a B vs) (hB:hi≤B):Lay c B vs:=by
 revert l
 induction h with
 |low h=>exact fun l=>l.below h
 |on _ k ih=>exact fun l=>(ih l).below k
 |hop _ k _ h2 ih=>exact fun l=>(ih l).butI k (by omega)
theorem Hops.world {lo hi:Nat} {a c:World} (h:Hops lo hi a c) {x:WV} (l:x.ok a) (hn:x.new hi):x.ok c:=by
 revert l
 induction h with
 |low h=>exact fun l=>l.below h (Nat.le_refl _)
 |on _ k ih=>exact fun l=>(ih l).below k (Nat.le_refl _)
 |hop _ k _ h2 ih=>exact fun l=>(ih l).but k.but (hn _ h2)
end Go.Proofs.YtabafikicbkkdaaGreatDoor
namespace Go.Proofs.YtabafikicbkkdaaGreatDoor
open Go.RowKit
set_option linter.unusedVariables false
set_option maxHeartbeats 4000000
set_option maxRecDepth 100000
set_option linter.unusedSimpArgs false
def doneS (x:PW):List PR×Int:=if checkW x≠0 then ([],checkW x) else (recK x.d).2
def toldS (x:PW):List PA×Int:=if (doneS x).2≠0 then ([],(doneS x).2) else if (replayF freshH (doneS x).1).2≠0 then ([],(replayF freshH (doneS x).1).2) else (toldF freshH (doneS x).1,0)
theorem Saga.doneS {x:PW} {A:List PR} {H:PH} {T:List PA} (h:Saga x A H T):doneS x=(A,0):=by
 obtain ⟨e1,_,_,_⟩:=h.tells
 unfold Go.Proofs.YtabafikicbkkdaaGreatDoor.doneS
 rw [if_neg (by simp [h.right]),e1]
theorem Saga.toldS {x:PW} {A:List PR} {H:PH} {T:List PA} (h:Saga x A H T):toldS x=(T,0):=by
 obtain ⟨_,e2,e3,_⟩:=h.tells
 unfold Go.Proofs.YtabafikicbkkdaaGreatDoor.toldS
 rw [h.doneS,if_neg (by simp),if_neg (by simp [e2]),e3]
theorem doneS_few {x:PW} : (doneS x).1.length≤80:=by
 unfold doneS
 split
 ·simp
 ·rename_i q
  obtain ⟨_,_,_,h4,_⟩:=checkW_ok (by simpa using q)
  obtain ⟨L,e,_,hl,_⟩:=recK_facts h4
  rw [e]
  exact hl
end Go.Proofs.YtabafikicbkkdaaGreatDoor
namespace Go.Proofs.YtabafikicbkkdaaGreatDoor
open Go.RowKit
set_option linter.unusedVariables false
set_option maxHeartbeats 4000000
set_option maxRecDepth 100000
set_option linter.unusedSimpArgs false
def Dones (r:List PR×Int) (w:World) (e:Ending) (w':World):Prop:=
 (∃ (a:Option Addr) (n c:Nat) (X:List RV),e=.returned (.tuple #[.slice a n c,.int .i64 r.2])∧Recs w' a n c X∧FreshR w.heap.size a X∧X.map RV.p=r.1)∧Below w.heap.size w w'
theorem Done_w (x:WV) (w:World) (hE:Env w) (hk:x.ok w) (hs:x.sm):Calls Tryz.prog 10 #[x.v] w fun e w'=>Dones (doneS x.p) w e w':=by
 have HD:Hid (doneS x.p=if checkW x.p≠0 then ([],checkW x.p) else (recK x.d.p).2):=hide rfl
 have HCK:=hide (fun w' h1 h2=>WCheck_c x w' h1 h2 hs)
 have HR:=hide (fun w' h1 h2=>Recover_c x.d w' h1 h2 hs.s hs.w)
 generalize doneS x.p=r at *
 generalize checkW x.p=ck at *
 generalize recK x.d.p=rk at *
 have x0:=Lay.made w x.cells 40
 have bw:=belowA (Below.refl _ w) (.cells x.cells.toArray 40)
 replace hk:=hk.below bw (Nat.le_refl _)
 replace hE:=hE.below bw
 go_enter Tryz.func10,Tryz.ntmps10
 go_wp2_with fail
 generalize w.alloc (.cells x.cells.toArray 40)=w1 at *
 refine (HCK.out _ hE hk).mono ?_
 rintro e w2 ⟨rfl,hb⟩
 replace x0:=x0.below hb
 replace hk:=hk.below hb (Nat.le_refl _)
 replace hE:=hE.below hb
 replace bw:=belowT bw hb
 have hsz:=hb.size
 clear hb HCK
 cases h0:ck !=0
 ·have hr:=HD.out
  rw [if_neg (by simpa using h0)] at hr
  subst hr
  have q5:=x0.cell 5 _ rfl
  have q6:=x0.cell 6 _ rfl
  have hlt:=x0.lt
  go_wp2_with fail
  refine (HR.out _ hE hk.d).mono ?_
  rintro e w3 ⟨⟨y,la,ln,lc,X,rfl,-,-,-,hX,fX,pX⟩,hb⟩
  dsimp only [KV.v]
  replace bw:=belowT bw hb
  have bn:=belowA (Below.refl _ w3) (.cells [.slice y.a y.n y.c,.slice y.b y.m y.d].toArray 36)
  have hX':=hX.below bn (Nat.le_refl _)
  have f':FreshR w.heap.size la X:=fX.mono (by omega)
  have bw':=belowT bw bn
  go_wp2
  exact bodyPost_ret (v:=.tuple #[.slice la ln lc,.int .i64 rk.2.2]) (by simp [results,Tryz.results10,go_sem]) rfl ⟨⟨la,ln,lc,X,rfl,hX',f',pX⟩,bw'⟩
 ·have hr:=HD.out
  rw [if_pos (by simpa using h0)] at hr
  subst hr
  go_wp2
  exact bodyPost_ret (v:=.tuple #[.slice none 0 0,.int .i64 ck]) (by simp [results,Tryz.results10,go_sem]) rfl ⟨⟨none,0,0,[],rfl,Recs.nilSlice _,FreshR.nil _,rfl⟩,bw⟩
end Go.Proofs.YtabafikicbkkdaaGreatDoor
namespace Go.Proofs.YtabafikicbkkdaaGreatDoor
open Go.RowKit
set_option linter.unusedVariables false
set_option maxHeartbeats 4000000
set_option maxRecDepth 100000
set_option linter.unusedSimpArgs false
theorem putAll_len (g:Nat):∀ (vs:List Value) (w:World) (o:Nat),(putAll w g o vs).heap.size=w.heap.size
 |[],_,_=>rfl
 |v :: r,w,o=>by rw [putAll,putAll_len g r];simp [World.setCell]
structure HBox (w2 w':World) (y:HV) (n N S:Nat):Prop where
 lay:Lay w' N y.cells
 ok:y.ok w'
 offN:y.off N
 offS:y.off S
 m:MineR ansK 56 w' S (List.replicate n (AV.err 0))
 ne:N≠S
 hN:w2.heap.size≤N
 hS:w2.heap.size≤S
 low:Below w2.heap.size w2 w'
theorem hbox_ma {w2 w3:World} {y:HV} {n:Nat} (ok:y.ok w3) (low:Below w2.heap.size w2 w3):HBox w2 ((w3.alloc (.cells (ansK.cells (List.replicate n (AV.err 0))).toArray 56)).alloc (.cells y.cells.toArray 33)) y n (w3.heap.size + 1) w3.heap.size:=by
 have s:=low.size
 have b1:=belowA (Below.refl _ w3) (.cells (ansK.cells (List.replicate n (AV.err 0))).toArray 56)
 have b2:=belowA (Below.refl _ (w3.alloc (.cells (ansK.cells (List.replicate n (AV.err 0))).toArray 56))) (.cells y.cells.toArray 33)
 exact ⟨Lay.made1 w3 _ y.cells _,(ok.below b1 (Nat.le_refl _)).below b2 (Nat.le_refl _),ok.off (by omega),ok.off (Nat.le_refl _),(MineR.made ansK _ (AV.err 0) (fun w=>AV.err_ok w 0) n w3).below b2,by omega,by omega,by omega,belowT (belowT low b1) b2⟩
theorem hbox_am {w2 w3:World} {y:HV} {n:Nat} (ok:y.ok w3) (low:Below w2.heap.size w2 w3):HBox w2 ((w3.alloc (.cells y.cells.toArray 33)).alloc (.cells (ansK.cells (List.replicate n (AV.err 0))).toArray 56)) y n w3.heap.size (w3.heap.size + 1):=by
 have s:=low.size
 have b1:=belowA (Below.refl _ w3) (.cells y.cells.toArray 33)
 have b2:=belowA (Below.refl _ (w3.alloc (.cells y.cells.toArray 33))) (.cells (ansK.cells (List.replicate n (AV.err 0))).toArray 56)
 have hm:=MineR.made ansK 56 (AV.err 0) (fun w=>AV.err_ok w 0) n (w3.alloc (.cells y.cells.toArray 33))
 simp only [World.size_alloc] at hm
 exact ⟨(Lay.made w3 y.cells _).below b2,(ok.below b1 (Nat.le_refl _)).below b2 (Nat.le_refl _),ok.off (Nat.le_refl _),ok.off (by omega),hm,by omega,by omega,by omega,belowT (belowT low b1) b2⟩
theorem hbox_n {w2 w3:World} {y:HV} {n N:Nat} (ok:y.ok w3) (low:Below w2.heap.size w2 w3) {Z:List Value} (hZ:Lay w3 N Z) (hl:Z.length=y.cells.length) (hN:w2.heap.size≤N) (oN:y.off N):HBox w2 ((putAll w3 N 0 y.cells).alloc (.cells (ansK.cells (List.replicate n (AV.err 0))).toArray 56)) y n N (putAll w3 N 0 y.cells).heap.size:=by
 have bt:=putAll_but N y.cells w3 0
 have b2:=belowA (Below.refl _ (putAll w3 N 0 y.cells)) (.cells (ansK.cells (List.replicate n (AV.err 0))).toArray 56)
 have ok1:=ok.but bt.but oN
 have l1:=hZ.fill hl
 have s:=low.size
 have s1:=bt.but.size
 have:=l1.lt
 exact ⟨l1.below b2,ok1.below b2 (Nat.le_refl _),oN,ok1.off (Nat.le_refl _),MineR.made ansK _ (AV.err 0) (fun w=>AV.err_ok w 0) n _,by omega,hN,by omega,belowT (low.trans (bt.below hN)) b2⟩
theorem hbox_n' {w2 w3:World} {y:HV} {n N:Nat} (ok:y.ok w3) (low:Below w2.heap.size w2 w3) {Z:List Value} (hZ:Lay w3 N Z) (hl:Z.length=y.cells.length) (hN:w2.heap.size≤N) (oN:y.off N):HBox w2 ((putAll w3 N 0 y.cells).alloc (.cells (ansK.cells (List.replicate n (AV.err 0))).toArray 56)) y n N w3.heap.size:=by
 have q:=hbox_n (n:=n) ok low hZ hl hN oN
 rwa [putAll_len] at q
theorem hbox_s {w2 w3:World} {y:HV} {n S:Nat} (ok:y.ok w3) (low:Below w2.heap.size w2 w3) (hm:MineR ansK 56 w3 S (List.replicate n (AV.err 0))) (hS:w2.heap.size≤S) (oS:y.off S):HBox w2 (w3.alloc (.cells y.cells.toArray 33)) y n w3.heap.size S:=by
 have b1:=belowA (Below.refl _ w3) (.cells y.cells.toArray 33)
 have s:=low.size
 have:=hm.lay.lt
 exact ⟨Lay.made w3 y.cells _,ok.below b1 (Nat.le_refl _),ok.off (Nat.le_refl _),oS,hm.below b1,by omega,by omega,hS,belowT low b1⟩
theorem hbox_2 {w2 w3:World} {y:HV} {n N S:Nat} (ok:y.ok w3) (low:Below w2.heap.size w2 w3) {Z:List Value} (hZ:Lay w3 N Z) (hl:Z.length=y.cells.length) (hm:MineR ansK 56 w3 S (List.replicate n (AV.err 0))) (hN:w2.heap.size≤N) (hS:w2.heap.size≤S) (hne:N≠S) (oN:y.off N) (oS:y.off S):HBox w2 (putAll w3 N 0 y.cells) y n N S:=
 ⟨hZ.fill hl,ok.but (putAll_but N y.cells w3 0).but oN,oN,oS,hm.away y.cells 0 hne (fun z hz=>by rw [List.eq_of_mem_replicate hz];exact .inl rfl),hne,hN,hS,low.trans ((putAll_but N y.cells w3 0).below hN)⟩
theorem hbox_c {w2 w3:World} {y:HV} {n N:Nat} (ok:y.ok w3) (low:Below w2.heap.size w2 w3) {Z:List Value} (hZ:Lay w3 N Z) (hl:Z.length=y.cells.length) (hN:w2.heap.size≤N) (oN:y.off N):HBox w2 (putAll (w3.alloc (.cells (ansK.cells (List.replicate n (AV.err 0))).toArray 56)) N 0 y.cells) y n N w3.heap.size:=by
 have b1:=belowA (Below.refl _ w3) (.cells (ansK.cells (List.replicate n (AV.err 0))).toArray 56)
 have:=hZ.lt
 exact hbox_2 (ok.below b1 (Nat.le_refl _)) (belowT low b1) (hZ.below b1) hl (MineR.made ansK _ (AV.err 0) (fun w=>AV.err_ok w 0) n w3) hN low.size (by omega) oN (ok.off (Nat.le_refl _))
theorem take_setE' {α:Type} {E:List α} {j:Nat} (hj:j < E.length) (e:α):(E.set j e).take (j + 1)=E.take j++[e]:=by
 rw [List.take_succ_eq_append_getElem (by simpa using hj),List.take_set_of_le (Nat.le_refl j)]
 simp
def Tolds (r:List PA×Int) (w:World) (e:Ending) (w':World):Prop:=
 (∃ (a:Option Addr) (n c:Nat) (Y:List AV),e=.returned (.tuple #[.slice a n c,.int .i64 r.2])∧Rows' ansK w' a n c Y∧(∀ R,R < w.heap.size→OffR ansK R a n Y)∧Y.map AV.p=r.1)∧Below w.heap.size w w'
theorem Told_w (x:WV) (w:World) (hE:Env w) (hk:x.ok w) (hs:x.sm):Calls Tryz.prog 11 #[x.v] w fun e w'=>Tolds (toldS x.p) w e w':=by
 have HT:Hid (toldS x.p=if (doneS x.p).2≠0 then ([],(doneS x.p).2) else if (replayF freshH (doneS x.p).1).2≠0 then ([],(replayF freshH (doneS x.p).1).2) else (toldF freshH (doneS x.p).1,0)):=hide rfl
 have HFEW:=hide (doneS_few (x:=x.p))
 have HDN:=hide (fun w' h1 h2=>Done_w x w' h1 h2 hs)
 generalize toldS x.p=r at *
 generalize doneS x.p=d at *
 have x0:=Lay.made w x.cells 40
 have bw:=belowA (Below.refl _ w) (.cells x.cells.toArray 40)
 replace hk:=hk.below bw (Nat.le_refl _)
 replace hE:=hE.below bw
 go_enter Tryz.func11,Tryz.ntmps11
 go_wp2_with fail
 generalize w.alloc (.cells x.cells.toArray 40)=w1 at *
 refine (HDN.out _ hE hk).mono ?_
 rintro e w2 ⟨⟨la,ln,lc,X,rfl,hX,fX,pX⟩,hb⟩
 replace hE:=hE.below hb
 replace x0:=x0.below hb
 replace bw:=belowT bw hb
 have hsz:w.heap.size≤w2.heap.size:=bw.size
 clear hb HDN hk fX
 cases h0:d.2 !=0
 ·rw [if_neg (by simpa using h0)] at HT
  have hln:ln≤80:=by have:=HFEW.out;rw [← pX,List.length_map,hX.len] at this;exact this
  rw [← pX] at HT
  have hmk:=panss_mk ln (by omega)
  have HM:=hide (fun w'=>MineR.made ansK 56 (AV.err 0) (fun w=>AV.err_ok w 0) ln w')
  obtain ⟨xs,hxs,hxs2⟩:∃ xs:Array Value,xs=(ansK.cells (List.replicate ln ansN.zero)).toArray∧xs=(ansK.cells (List.replicate ln (AV.err 0))).toArray:=⟨_,rfl,rfl⟩
  rw [← hxs] at hmk
  have HXS:=hide hxs2
  clear hxs hxs2 HFEW
  have q0:=x0.cell 0 _ rfl
  have hwl:=x0.lt
  have n1:w.heap.size≠w2.heap.size:=by omega
  have n2:w2.heap.size≠w.heap.size:=by omega
  have n3:w.heap.size≠w2.heap.size + 1:=by omega
  have n4:w2.heap.size + 1≠w.heap.size:=by omega
  go_upto_region 4 with fail
  go_cut [6,7] (fun p s wx=>∃ (N S:Nat) (y:HV),p=.pointer (some ⟨N,0,none⟩)∧s=.slice (some ⟨S,0,none⟩) ln ln∧HBox w2 wx y ln N S∧y.p=freshH∧y.new w2.heap.size)
  case first=>
   go_region_held3 (fun w'=>w'.cell? ⟨w.heap.size,0,none⟩=some (.slice x.h.d.za x.h.d.zn x.h.d.zc)) ((first|(go_simp;done)|(simp [*,World.cell?_alloc_at,World.cell?_alloc_past,World.cell?_alloc_some,World.cell?_setCell_far];done))) (first|(go_at_call 35;refine (HNew_c _).mono ?_;rintro e w3 ⟨⟨y,rfl,oky,ny,py⟩,hb3⟩;(dsimp only [HV.v]);(have k0:=keepc hb3 (p:=⟨w.heap.size,0,none⟩) (u:=.slice x.h.d.za x.h.d.zn x.h.d.zc) (by (first|(go_simp;done)|(simp [*,World.cell?_alloc_at,World.cell?_alloc_past,World.cell?_alloc_some,World.cell?_setCell_far];done))));(have b23:Below w2.heap.size w2 w3:=by clear bw;(repeat first|exact bel0|assumption|refine bel1 ?_|refine bel2 ?_|refine bel3 ?_|refine belowT ?_ (by assumption)|refine bel5 ?_ (by simp;try omega)));(have s3:=b23.size);(have m1:w.heap.size≠w3.heap.size:=by omega);(have m2:w3.heap.size≠w.heap.size:=by omega);(have m3:w.heap.size≠w3.heap.size + 1:=by omega);(have m4:w3.heap.size + 1≠w.heap.size:=by omega);(first|(have xZ:=Lay.below (Lay.drew (Lay.below (Lay.made w2 [.slice none 0 0,.slice none 0 0,.int .i64 0,.int .i64 0,.slice none 0 0] 33) (belowA (Below.refl _ _) (.cells xs 56)))) hb3)|(have xZ:=Lay.below (Lay.drew (Lay.made1 w2 (.cells xs 56) [.slice none 0 0,.slice none 0 0,.int .i64 0,.int .i64 0,.slice none 0 0] 33)) hb3)|(have xZ:=Lay.below (Lay.drew (Lay.made w2 [.slice none 0 0,.slice none 0 0,.int .i64 0,.int .i64 0,.slice none 0 0] 33)) hb3)|(have xZ:=Lay.below (Lay.below (Lay.made w2 [.slice none 0 0,.slice none 0 0,.int .i64 0,.int .i64 0,.slice none 0 0] 33) (belowA (Below.refl _ _) (.cells xs 56))) hb3)|(have xZ:=Lay.below (Lay.made1 w2 (.cells xs 56) [.slice none 0 0,.slice none 0 0,.int .i64 0,.int .i64 0,.slice none 0 0] 33) hb3)|(have xZ:=Lay.below (Lay.made w2 [.slice none 0 0,.slice none 0 0,.int .i64 0,.int .i64 0,.slice none 0 0] 33) hb3)|skip);(try have z0:=xZ.cell 0 _ rfl);(try have y0:=xZ.ice 0);(try have p0:=past1 z0);(try have r0:=pastf1 z0 y0);(try have z1:=xZ.cell 1 _ rfl);(try have y1:=xZ.ice 1);(try have p1:=past1 z1);(try have r1:=pastf1 z1 y1);(try have z2:=xZ.cell 2 _ rfl);(try have y2:=xZ.ice 2);(try have p2:=past1 z2);(try have r2:=pastf1 z2 y2);(try have z3:=xZ.cell 3 _ rfl);(try have y3:=xZ.ice 3);(try have p3:=past1 z3);(try have r3:=pastf1 z3 y3);(try have z4:=xZ.cell 4 _ rfl);(try have y4:=xZ.ice 4);(try have p4:=past1 z4);(try have r4:=pastf1 z4 y4);(try have nB1:=Nat.ne_of_lt xZ.lt);(try have nB2:=(Nat.ne_of_lt xZ.lt).symm)))
   ·go_wp2_with fail
    go_meet
    case rel=>
     have e:=HXS.out
     subst e
     have ny0:y.new w2.heap.size:=ny.mono (by first|omega|(simp;done)|(simp;omega))
     have q:=hbox_ma (n:=ln) oky b23
     dsimp only [HV.cells,putAll,Nat.reduceAdd] at q
     with_reducible exact ⟨_,_,y,rfl,rfl,q,py,ny0⟩
   ·go_wp2_with fail
    go_meet
    case rel=>
     have e:=HXS.out
     subst e
     have ny0:y.new w2.heap.size:=ny.mono (by first|omega|(simp;done)|(simp;omega))
     have q:=hbox_am (n:=ln) oky b23
     dsimp only [HV.cells,putAll,Nat.reduceAdd] at q
     with_reducible exact ⟨_,_,y,rfl,rfl,q,py,ny0⟩
   ·go_wp2_with fail
    go_meet
    case rel=>
     have e:=HXS.out
     subst e
     have ny0:y.new w2.heap.size:=ny.mono (by first|omega|(simp;done)|(simp;omega))
     have q:=hbox_am (n:=ln) oky b23
     dsimp only [HV.cells,putAll,Nat.reduceAdd] at q
     with_reducible exact ⟨_,_,y,rfl,rfl,q,py,ny0⟩
   ·go_wp2_with fail
    go_meet
    case rel=>
     have e:=HXS.out
     subst e
     have ny0:y.new w2.heap.size:=ny.mono (by first|omega|(simp;done)|(simp;omega))
     have hm:=(HM.out w2).below (w':=w3) (by (try clear bw);(repeat first|exact bel0|assumption|refine bel1 ?_|refine bel2 ?_|refine bel3 ?_|refine belowT ?_ (by assumption)|refine bel5 ?_ (by simp;try omega)))
     have q:=hbox_s (n:=ln) oky b23 hm (Nat.le_refl _) (ny _ (by first|omega|(simp;done)|(simp;omega)))
     dsimp only [HV.cells,putAll,Nat.reduceAdd] at q
     with_reducible exact ⟨_,_,y,rfl,rfl,q,py,ny0⟩
   ·go_wp2_with fail
    go_meet
    case rel=>
     have e:=HXS.out
     subst e
     have ny0:y.new w2.heap.size:=ny.mono (by first|omega|(simp;done)|(simp;omega))
     have hm:=(HM.out w2).below (w':=w3) (by (try clear bw);(repeat first|exact bel0|assumption|refine bel1 ?_|refine bel2 ?_|refine bel3 ?_|refine belowT ?_ (by assumption)|refine bel5 ?_ (by simp;try omega)))
     have q:=hbox_2 (n:=ln) oky b23 xZ rfl hm (by first|omega|(simp;done)|(simp;omega)) (by first|omega|(simp;done)|(simp;omega)) (by first|omega|(simp;done)|(simp;omega)) (ny _ (by first|omega|(simp;done)|(simp;omega))) (ny _ (by first|omega|(simp;done)|(simp;omega)))
     dsimp only [HV.cells,putAll,Nat.reduceAdd] at q
     with_reducible exact ⟨_,_,y,rfl,rfl,q,py,ny0⟩
   ·go_wp2_with fail
    go_meet
    case rel=>
     have e:=HXS.out
     subst e
     have ny0:y.new w2.heap.size:=ny.mono (by first|omega|(simp;done)|(simp;omega))
     have q:=hbox_c (n:=ln) oky b23 xZ rfl (Nat.le_refl _) (ny _ (by first|omega|(simp;done)|(simp;omega)))
     dsimp only [HV.cells,putAll,Nat.reduceAdd] at q
     with_reducible exact ⟨_,_,y,rfl,rfl,q,py,ny0⟩
   ·go_wp2_with fail
    go_meet
    case rel=>
     have e:=HXS.out
     subst e
     have ny0:y.new w2.heap.size:=ny.mono (by first|omega|(simp;done)|(simp;omega))
     have q:=hbox_n' (n:=ln) oky b23 xZ rfl (Nat.le_refl _) (ny _ (by first|omega|(simp;done)|(simp;omega)))
     dsimp only [HV.cells,putAll,Nat.reduceAdd] at q
     with_reducible exact ⟨_,_,y,rfl,rfl,q,py,ny0⟩
   ·go_wp2_with fail
    go_meet
    case rel=>
     have e:=HXS.out
     subst e
     have ny0:y.new w2.heap.size:=ny.mono (by first|omega|(simp;done)|(simp;omega))
     have hm:=(HM.out (w2.alloc (.cells [.slice none 0 0,.slice none 0 0,.int .i64 0,.int .i64 0,.slice none 0 0].toArray 33))).below (w':=w3) (by (try clear bw);(repeat first|exact bel0|assumption|refine bel1 ?_|refine bel2 ?_|refine bel3 ?_|refine belowT ?_ (by assumption)|refine bel5 ?_ (by simp;try omega)))
     simp only [World.size_alloc] at hm
     have q:=hbox_2 (n:=ln) oky b23 xZ rfl hm (by first|omega|(simp;done)|(simp;omega)) (by first|omega|(simp;done)|(simp;omega)) (by first|omega|(simp;done)|(simp;omega)) (ny _ (by first|omega|(simp;done)|(simp;omega))) (ny _ (by first|omega|(simp;done)|(simp;omega)))
     dsimp only [HV.cells,putAll,Nat.reduceAdd] at q
     with_reducible exact ⟨_,_,y,rfl,rfl,q,py,ny0⟩
  case rest=>
   obtain ⟨N,S,y,rfl,rfl,hbx,py,ny⟩:=hcut
   generalize wc=w3 at *
   obtain ⟨lN,oky,oN,oS,mS,hNS,hN2,hS2,b23⟩:=hbx
   have hX2:=hide hX
   have hE2:=hide hE
   have hLn:=hX.len
   have hmax:=hX.max
   have hle:=hX.le
   have bw2:=hide bw
   clear hmk HM HXS x0 q0 n1 n2 n3 n4 hwl hX hE bw pX
   go_wp2
   go_loopw [5,24] (fun e i wr=>e=.int .i64 d.2∧∃ wz:World,wz=wr∧∃ (k:Nat) (z:HV) (Y:List AV),k≤ln∧i=.int .i64 (k:Nat)∧Lay wz N z.cells∧z.ok wz∧z.off N∧z.off S∧MineR ansK 56 wz S Y∧Y.length=ln∧(∀ u∈Y,u.new w2.heap.size∧u.off N∧u.off S)∧(Y.take k).map AV.p=toldF freshH ((X.map RV.p).take k)∧replayF freshH ((X.map RV.p).take k)=(z.p,0)∧Below w2.heap.size w2 wz) (fun _ i _=>ln - (intOf i).toNat)
   case atStart=>exact ⟨rfl,_,rfl,0,y,List.replicate ln (AV.err 0),by omega,rfl,lN,oky,oN,oS,mS,by simp,fun u hu=>by rw [List.eq_of_mem_replicate hu];exact ⟨AV.err_new _ _,.inl rfl,.inl rfl⟩,by simp [toldF],by rw [py];rfl,b23⟩
   case round=>
    clear lN oky oN oS mS b23 py ny y
    obtain ⟨rfl,wr,rfl,k,z,Y,hk,rfl,lz,okz,zN,zS,mS,hYl,hYn,hYt,hst,bw⟩:=hrel
    have hs2:=bw.size
    have HST:=hide hst
    have HYT:=hide hYt
    have HD0:Hid (d.2=0):=hide (by simpa using h0)
    clear hst hYt
    by_cases hlt:k < ln
    ·obtain ⟨x,hx⟩:∃ z,X[k]?=some z:=⟨X[k]'(by rw [hLn];exact hlt),by simp⟩
     obtain ⟨lb,lo,rfl,hlb,hcl⟩:=hX2.out.row.resolve_left (by omega)
     have kx:=hcl k x hx
     have hxk:=RV.ok.below (hX2.out.ok x (List.mem_of_getElem? hx)) bw (Nat.le_refl _)
     have hxp:(X.map RV.p)[k]?=some x.p:=by rw [List.getElem?_map,hx];rfl
     have HN:=hide (fun w' hS' h' k'=>Next_c z x w' hS' h' k')
     have HS1:Hid ((nextH z.p x.p).2.2=0→replayF freshH ((X.map RV.p).take (k + 1))=((nextH z.p x.p).1,0)):=hide (fun e=>replay_step hxp HST.out e)
     have HS2:Hid ((nextH z.p x.p).2.2≠0→r=([],(nextH z.p x.p).2.2)):=hide (fun e=>by rw [HT.out,replay_fail hxp HST.out e,if_pos e])
     have HS3:Hid (toldF freshH ((X.map RV.p).take (k + 1))=toldF freshH ((X.map RV.p).take k)++[(nextH z.p x.p).2.1]):=hide (told_step hxp HST.out)
     generalize nextH z.p x.p=nh at *
     have c0:=keepc bw (kx 0 _ rfl)
     have c1:=keepc bw (kx 1 _ rfl)
     have c2:=keepc bw (kx 2 _ rfl)
     have c3:=keepc bw (kx 3 _ rfl)
     have c4:=keepc bw (kx 4 _ rfl)
     have c5:=keepc bw (kx 5 _ rfl)
     have c6:=keepc bw (kx 6 _ rfl)
     rw [Nat.add_zero] at c0
     have hlt':(k:Int) < (ln:Int):=by omega
     have hk0:(0:Int)≤(k:Int):=by omega
     clear kx hcl hx hxp HST
     go_upto_region 8 with fail
     have xv:=Lay.made wr [.int .i64 x.p.w,.int .i64 x.p.s,.int .i64 x.p.c.k,.int .i64 x.p.c.z,.int .i64 x.p.c.n,.int .i64 x.p.c.at',.slice x.a x.n x.c] 52
     have bn:=belowA (Below.refl _ wr) (.cells [.int .i64 x.p.w,.int .i64 x.p.s,.int .i64 x.p.c.k,.int .i64 x.p.c.z,.int .i64 x.p.c.n,.int .i64 x.p.c.at',.slice x.a x.n x.c].toArray 52)
     replace lz:=lz.below bn
     replace okz:=okz.below bn (Nat.le_refl _)
     replace mS:=mS.below bn
     replace hxk:=RV.ok.below hxk bn (Nat.le_refl _)
     replace bw:=belowT bw bn
     have s4:=bn.size
     clear bn c0 c1 c2 c3 c4 c5 c6
     generalize wr.alloc (.cells [.int .i64 x.p.w,.int .i64 x.p.s,.int .i64 x.p.c.k,.int .i64 x.p.c.z,.int .i64 x.p.c.n,.int .i64 x.p.c.at',.slice x.a x.n x.c].toArray 52)=w4 at *
     generalize wr.heap.size=V at *
     have v0:=xv.cell 0 _ rfl
     have v1:=xv.cell 1 _ rfl
     have v2:=xv.cell 2 _ rfl
     have v3:=xv.cell 3 _ rfl
     have v4:=xv.cell 4 _ rfl
     have v5:=xv.cell 5 _ rfl
     have v6:=xv.cell 6 _ rfl
     have q0:=lz.cell 0 _ rfl
     have q1:=lz.cell 1 _ rfl
     have q2:=lz.cell 2 _ rfl
     have q3:=lz.cell 3 _ rfl
     have q4:=lz.cell 4 _ rfl
     have hN4:=lz.lt
     have hS4:=mS.lay.lt
     dsimp only [HV.v,RV.v] at HN
     go_wp2_with fail
     refine (HN.out _ (hE2.out.below bw).shp okz hxk).mono ?_
     rintro e w5 ⟨⟨y,u,rfl,oky,oku,ny,nu,py,pu⟩,hb⟩
     replace lz:=lz.below hb
     replace mS:=mS.below hb
     replace bw:=belowT bw hb
     have s5:=hb.size
     have PY:=hide py
     have PU:=hide pu
     have yN:=ny N hN4
     have yS:=ny S hS4
     have uN:=nu N hN4
     have uS:=nu S hS4
     have hu2:u.new w2.heap.size:=nu.mono (by omega)
     clear hb v0 v1 v2 v3 v4 v5 v6 q0 q1 q2 q3 q4 okz hxk xv HN py pu ny nu zN zS
     dsimp only [HV.v,AV.v]
     have hk':k < Y.length:=by rw [hYl];exact hlt
     have l6:=lz.fill (vs:=y.cells) rfl
     have b6:=putAll_but N y.cells w5 0
     have m6:=mS.away y.cells 0 hNS (fun v hv=>(hYn v hv).2.1)
     have o6:=oky.but b6.but yN
     have u6:=AV.ok.but oku b6.but uN
     have l7:=l6.butI (putAll_but S u.cells (putAll w5 N 0 y.cells) (k * 3)) hNS
     have b7:=putAll_but S u.cells (putAll w5 N 0 y.cells) (k * 3)
     have m7:=m6.put (i:=k) hk' (x:=u) u6 (fun v hv=>(hYn v hv).2.2) uS
     have o7:=o6.but b7.but yS
     have bw7:=(bw.trans (b6.below (B:=w2.heap.size) hN2)).trans (b7.below (B:=w2.heap.size) hS2)
     have z0:=lz.cell 0 _ rfl
     have z1:=lz.cell 1 _ rfl
     have z2:=lz.cell 2 _ rfl
     have z3:=lz.cell 3 _ rfl
     have z4:=lz.cell 4 _ rfl
     have zi:=lz.ice
     obtain ⟨a0,ha0⟩:=mS.at hk' (show 0 < ansK.k by decide)
     obtain ⟨a1,ha1⟩:=mS.at hk' (show 1 < ansK.k by decide)
     obtain ⟨a2,ha2⟩:=mS.at hk' (show 2 < ansK.k by decide)
     have mi:=mS.lay.ice
     have hSN:S≠N:=fun e=>hNS e.symm
     dsimp only [ansK] at ha0 ha1 ha2
     rw [Nat.add_zero] at ha0
     obtain ⟨w7,hw7⟩:∃ o,o=putAll (putAll w5 N 0 y.cells) S (k * 3) u.cells:=⟨_,rfl⟩
     have m7':MineR ansK 56 w7 S (Y.set k u):=by rw [hw7];exact m7
     rw [← hw7] at l7 b7 o7 bw7
     clear m7 b7 m6 b6 l6 o6 u6 mS lz oky oku
     go_upto_region 9 with fail
     have s6:=putAll_len N y.cells w5 0
     dsimp only [HV.cells,AV.cells,putAll,Nat.reduceAdd] at hw7
     simp only [Nat.add_assoc,Nat.reduceAdd] at hw7
     rw [← hw7]
     clear hw7 z0 z1 z2 z3 z4 zi ha0 ha1 ha2 mi
     have hYn':∀ v∈Y.set k u,v.new w2.heap.size∧v.off N∧v.off S:=fun v hv=>by
      rcases List.mem_or_eq_of_mem_set hv with hv|rfl
      ·exact hYn v hv
      ·exact ⟨hu2,uN,uS⟩
     cases hb:nh.2.2 !=0
     ·have e0:nh.2.2=0:=by simpa using hb
      have H1:=hide (HS1.out e0)
      have hYt':((Y.set k u).take (k + 1)).map AV.p=toldF freshH ((X.map RV.p).take (k + 1)):=by
       rw [HS3.out,← HYT.out,take_setE' hk' u,List.map_append]
       rw [show [u].map AV.p=[u.p] from rfl,PU.out]
      have HY':=hide hYt'
      have HE0:=hide e0
      clear HS1 HS2 HS3 hYt' e0
      go_wp2
      exact ⟨⟨by rw [HE0.out,HD0.out],_,rfl,k + 1,y,Y.set k u,by omega,by go_num,l7,o7,yN,yS,m7',by rw [List.length_set];exact hYl,hYn',HY'.out,by rw [PY.out];exact H1.out,bw7⟩,by simp [intOf];omega⟩
     ·have H2:=HS2.out (by simpa using hb)
      subst H2
      go_wp2
      exact bodyPost_ret (v:=.tuple #[.slice none 0 0,.int .i64 nh.2.2]) (by simp [results,Tryz.results11,go_sem]) rfl ⟨⟨none,0,0,[],rfl,Rows'.none _,fun R _=>⟨.inl rfl,fun x hx=>(by cases hx)⟩,rfl⟩,bw2.out.trans (bw7.mono hsz)⟩
    ·obtain rfl:k=ln:=by omega
     have hst:=HST.out
     have hyt:=HYT.out
     rw [List.take_of_length_le (show (X.map RV.p).length≤k by rw [List.length_map,hLn];omega)] at hst hyt
     rw [List.take_of_length_le (by rw [hYl];omega)] at hyt
     have hr:=HT.out
     rw [hst,if_neg (by simp)] at hr
     clear HT HST HYT hst
     subst hr
     go_wp2
     exact bodyPost_ret (v:=.tuple #[.slice (some ⟨S,0,none⟩) k k,.int .i64 0]) (by simp [results,Tryz.results11,go_sem]) rfl
      ⟨⟨_,_,_,Y,rfl,mS.rows hYl (by omega),fun R hR=>⟨.inr fun v e=>by cases e;show S≠R;omega,fun v hv=>(hYn v hv).1 R (by omega)⟩,hyt⟩,bw2.out.trans (bw.mono hsz)⟩
 ·rw [if_pos (by simpa using h0)] at HT
  have hr:=HT.out
  subst hr
  go_wp2
  exact bodyPost_ret (v:=.tuple #[.slice none 0 0,.int .i64 d.2]) (by simp [results,Tryz.results11,go_sem]) rfl ⟨⟨none,0,0,[],rfl,Rows'.none _,fun R _=>⟨.inl rfl,fun x hx=>(by cases hx)⟩,rfl⟩,bw⟩
end Go.Proofs.YtabafikicbkkdaaGreatDoor
namespace Go.Proofs.YtabafikicbkkdaaGreatDoor
open Go.RowKit
set_option linter.unusedVariables false
set_option maxHeartbeats 4000000
set_option maxRecDepth 100000
set_option linter.unusedSimpArgs false
abbrev sml (e:Int):Prop:=0≤e∧e≤9
theorem checkC_e (c:PC):sml (checkC c):=by
 unfold checkC
 repeat' split
 all_goals exact ⟨by simp,by simp⟩
theorem checkR_e (r:PR):sml (checkR r):=by
 unfold checkR
 split
 ·exact ⟨by simp,by simp⟩
 ·exact checkC_e _
theorem next_e {h:PH} (k:checkH h=0) (r:PR):sml (nextH h r).2.2:=by
 unfold nextH
 rw [if_neg (by simp [k])]
 split
 ·exact checkR_e r
 ·split
  ·exact ⟨by simp,by simp⟩
  ·split<;>exact ⟨by simp,by simp⟩
theorem replayF_e:∀ (l:List PR) {h:PH},checkH h=0→sml (replayF h l).2
 |[],_,_=>⟨by simp [replayF],by simp [replayF]⟩
 |r :: l,h,k=>by
  rw [replay_cons]
  split
  ·exact next_e k r
  ·rename_i q
   exact replayF_e l (next_right (by simpa using q))
theorem replayH_e (l:List PR):sml (replayH l).2:=by
 unfold replayH
 split
 ·exact ⟨by simp,by simp⟩
 ·exact replayF_e l checkH_fresh
theorem hear_e {h:PN} (k:checkN h=0) {a:PA} (ka:checkA a=0) (q:Int):sml (hearN h q a).2:=by
 unfold hearN
 rw [if_neg (by simp [k]),if_neg (by simp [ka])]
 split<;>exact ⟨by simp,by simp⟩
theorem ask_e {h:PN} (k:checkN h=0) (c:PC):sml (askN h c).2:=by
 unfold askN
 rw [if_neg (by simp [k])]
 split
 ·exact checkC_e c
 ·repeat' split
  all_goals exact ⟨by simp,by simp⟩
theorem comes_e {x:PW} (k:checkW x=0) {m:PM} (hm:checkM m=0):sml (comesW x m).2:=by
 unfold comesW
 split
 ·rename_i hb
  have e:=hear_e (hand_mem k (checkM_facts hm).1).2 ((checkM_facts hm).2.2.1 hb).2 m.s
  split
  ·exact e
  ·exact ⟨by simp,by simp⟩
 ·split<;>exact ⟨by simp,by simp⟩
theorem happen_e {x:PW} (k:checkW x=0) (e:PX):sml (happenW x e).2:=by
 have h3:=(checkW_ok k).2.2.1
 unfold happenW
 split
 ·split
  ·exact ⟨by simp,by simp⟩
  ·split
   ·exact ⟨by simp,by simp⟩
   ·rename_i m hm
    have hc:=h3 m (List.mem_of_getElem? hm)
    split
    ·exact ⟨by simp,by simp⟩
    ·split
     ·exact comes_e k hc
     ·exact comes_e (gone_right k _) hc
 ·split
  ·split<;>exact ⟨by simp,by simp⟩
  ·split
   ·split
    ·exact ⟨by simp,by simp⟩
    ·split
     ·exact replayH_e _
     ·exact ⟨by simp,by simp⟩
   ·split
    ·split
     ·exact ⟨by simp,by simp⟩
     ·rename_i hi
      have hw:0≤e.w∧e.w≤2:=by simp [inB] at hi;omega
      have q:=ask_e (hand_mem k hw).2 e.c
      split
      ·exact q
      ·exact ⟨by simp,by simp⟩
    ·split
     ·repeat' split
      all_goals exact ⟨by simp,by simp⟩
     ·exact ⟨by simp,by simp⟩
def errK:Kin Int where
 k:=1
 cs e:=[.int .i64 e]
 ok _ _:=True
 off _ _:=True
 len _:=rfl
 one x:=fun v hv=>by
  obtain rfl:v=.int .i64 x:=by simpa using hv
  rfl
 below _ _ _ _:=trivial
 but _ _ _:=trivial
 far _ _:=trivial
theorem MineR.ints {t:TypeId} {w:World} {g n:Nat} {E:List Int} (h:MineR errK t w g E) (hn:E.length=n) (hm:n≤9223372036854775807) (hs:∀ e∈E,sml e):Ints w (some ⟨g,0,none⟩) n n E:=by
 subst hn
 refine ⟨rfl,Nat.le_refl _,hm,fun e=>(by cases e),.inr ⟨g,0,rfl,h.lay.lt,fun i hi=>?_⟩,fun x hx=>by have:=hs x hx;exact ⟨by have:=this.1;omega,by have:=this.2;omega⟩⟩
 have:=h.lay.cell _ _ (Kin.cells_get E i E[i] (List.getElem?_eq_getElem hi) 0 _ rfl)
 rw [show E.getD i 0=E[i] by simp [List.getD,hi]]
 simpa [errK] using this
theorem runF_step (x:PW) (e:PX) (l:List PX) (h:checkW x=0):runF x (e :: l)=((runF (if (happenW x e).2=0 then (happenW x e).1 else x) l).1,(happenW x e).2 :: (runF (if (happenW x e).2=0 then (happenW x e).1 else x) l).2):=by
 have e0:doW x e=happenW x e:=by unfold doW;rw [if_neg (by simp [h])]
 rw [runF,e0]
theorem runF_right:∀ (l:List PX) (x:PW),checkW x=0→checkW (runF x l).1=0∧∀ e∈(runF x l).2,sml e
 |[],x,h=>⟨h,fun e he=>(by cases he)⟩
 |e :: l,x,h=>by
  rw [runF_step x e l h]
  have hr:checkW (if (happenW x e).2=0 then (happenW x e).1 else x)=0:=by
   split
   ·rename_i q
    have e0:doW x e=happenW x e:=by unfold doW;rw [if_neg (by simp [h])]
    have:=(world_keeps (x:=x) (e:=e) (by rw [e0];exact q)).2.1
    rwa [e0] at this
   ·exact h
  obtain ⟨h1,h2⟩:=runF_right l _ hr
  refine ⟨h1,fun y hy=>?_⟩
  rcases List.mem_cons.1 hy with rfl|hy
  ·exact happen_e h e
  ·exact h2 y hy
end Go.Proofs.YtabafikicbkkdaaGreatDoor
