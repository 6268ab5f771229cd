/- The law's closed fact on worlds; no condition but that the package-level variables are as their texts lay them. -/
import Derived.Test.YtnnngphfmclegaaGreatDoorWU44
import Derived.Test.YtnnngphfmclegaaGreatDoorWU1
import Derived.Test.YtnnngphfmclegaaGreatDoorWU20
import Derived.Test.YtnnngphfmclegaaGreatDoorWU33
import Derived.Test.YtnnngphfmclegaaGreatDoorWU38
import Derived.Test.YtnnngphfmclegaaGreatDoorWU26
import Derived.Test.YtnnngphfmclegaaGreatDoorWU32
import Derived.Test.YtnnngphfmclegaaGreatDoorWU8
namespace Go.Proofs.YtnnngphfmclegaaGreatDoor
open Go.RowKit
set_option linter.unusedVariables false
set_option maxHeartbeats 8000000
set_option maxRecDepth 100000
set_option linter.unusedSimpArgs false
theorem EqualE_some (b1 o1 b2 o2 n1 c1 c2:Nat) (l1 l2:List Int) (w:World) (hl1:l1.length=n1) (hl2:l2.length=n1) (hm1:n1≤9223372036854775807)
  (hr1:∀ i,i < n1→w.cell? ⟨b1,o1 + i,none⟩=some (.int .i64 (l1.getD i 0))) (hr2:∀ i,i < n1→w.cell? ⟨b2,o2 + i,none⟩=some (.int .i64 (l2.getD i 0))) :
  Calls Tryz.prog 18 #[.slice (some ⟨b1,o1,none⟩) n1 c1,.slice (some ⟨b2,o2,none⟩) n1 c2] w fun e w'=>e=.returned (.bool (decide (l1=l2)))∧∃ n,w'=w.drewN n:=by
 go_enter Tryz.func18,Tryz.ntmps18
 go_wp2
 go_loopw [13] (fun i wr=>∃ k n:Nat,k≤n1∧i=.int .i64 k∧l1.take k=l2.take k∧wr=w.drewN n) (fun i _=>n1 - (intOf i).toNat)
 case atStart=>exact ⟨0,0,by omega,rfl,by simp,rfl⟩
 case round=>
  obtain ⟨k,n,hk,rfl,ht,rfl⟩:=hrel
  by_cases hlt:k < n1
  ·have hi1:=hr1 k hlt
   have hi2:=hr2 k hlt
   have hlt':(k:Int) < (n1:Int):=by omega
   have HT:=hide ht
   clear ht hr1 hr2
   generalize hx:l1.getD k 0=x at hi1
   generalize hy:l2.getD k 0=y at hi2
   have HX:=hide hx
   have HY:=hide hy
   clear hx hy
   go_wp2
   go_quiet (fail)
   go_wp2
   ·rename_i hxy
    go_ret
    exact ⟨ret_bool (decide_eq_false (ne_of_getD l1 l2 k (by rw [HX.out,HY.out];simpa using hxy))).symm,n + nq,by simp⟩
   ·rename_i hxy
    exact ⟨⟨k + 1,_,by omega,by go_num,take_eq_step l1 l2 k (by omega) (by omega) HT.out (by rw [HX.out,HY.out];simpa using hxy),rfl⟩,by simp [intOf];omega⟩
  ·go_wp2
   go_ret
   exact ⟨ret_bool (by rw [List.take_of_length_le (by omega),List.take_of_length_le (by omega)] at ht;simp [ht]),_,rfl⟩
theorem EqualE_none (a1 a2:Option Addr) (n1 n2 c1 c2:Nat) (w:World) (hz:n1=0∨n2=0) (hm1:n1≤9223372036854775807) (hm2:n2≤9223372036854775807) :
  Calls Tryz.prog 18 #[.slice a1 n1 c1,.slice a2 n2 c2] w fun e w'=>e=.returned (.bool (decide (n1=n2)))∧∃ n,w'=w.drewN n:=by
 by_cases hn:n1=n2
 ·subst hn
  obtain rfl:n1=0:=by omega
  go_enter Tryz.func18,Tryz.ntmps18
  go_wp2
  refine wp_loop_rounds 1 ?_;rw [rounds_succ]
  go_wp2
  go_ret
  exact ⟨rfl,0,rfl⟩
 ·have hne:((n1:Int) !=(n2:Int))=true:=by simp;omega
  go_enter Tryz.func18,Tryz.ntmps18
  go_wp2
  go_ret
  exact ⟨ret_bool (by simp [hn]),0,rfl⟩
theorem EqualE_ne (a1 a2:Option Addr) (n1 n2 c1 c2:Nat) (w:World) (hn:n1≠n2) (hm1:n1≤9223372036854775807) (hm2:n2≤9223372036854775807) :
  Calls Tryz.prog 18 #[.slice a1 n1 c1,.slice a2 n2 c2] w fun e w'=>e=.returned (.bool false)∧∃ n,w'=w.drewN n:=by
 have hne:((n1:Int) !=(n2:Int))=true:=by simp;omega
 go_enter Tryz.func18,Tryz.ntmps18
 go_wp2
 go_ret
 exact ⟨rfl,0,rfl⟩
theorem EqualE_c (a1 a2:Option Addr) (n1 n2 c1 c2:Nat) (l1 l2:List Int) (w:World) (h1:Ints w a1 n1 c1 l1) (h2:Ints w a2 n2 c2 l2) :
  Calls Tryz.prog 18 #[.slice a1 n1 c1,.slice a2 n2 c2] w fun e w'=>e=.returned (.bool (decide (l1=l2)))∧∃ n,w'=w.drewN n:=by
 obtain ⟨hl1,hc1,hm1,hn1,hr1,hw1⟩:=h1
 obtain ⟨hl2,hc2,hm2,hn2,hr2,hw2⟩:=h2
 by_cases hn:n1=n2
 ·subst hn
  rcases hr1 with h0|⟨b1,o1,rfl,_,hr1⟩
  ·refine (EqualE_none a1 a2 n1 n1 c1 c2 w (.inl h0) (by omega) (by omega)).mono fun e w' h=>⟨?_,h.2⟩
   rw [h.1];subst h0
   exact ret_bool (by rw [List.length_eq_zero_iff] at hl1 hl2;simp [hl1,hl2])
  ·rcases hr2 with h0|⟨b2,o2,rfl,_,hr2⟩
   ·refine (EqualE_none _ a2 n1 n1 c1 c2 w (.inl h0) (by omega) (by omega)).mono fun e w' h=>⟨?_,h.2⟩
    rw [h.1];subst h0
    exact ret_bool (by rw [List.length_eq_zero_iff] at hl1 hl2;simp [hl1,hl2])
   ·exact EqualE_some b1 o1 b2 o2 n1 c1 c2 l1 l2 w hl1 hl2 (by omega) hr1 hr2
 ·refine (EqualE_ne a1 a2 n1 n2 c1 c2 w hn (by omega) (by omega)).mono fun e w' h=>⟨?_,h.2⟩
  rw [h.1]
  exact ret_bool (by simp;intro h;subst h;omega)
def hapX (q:Nat):List XV:=⟨1,0,0,cP 5,some ⟨q,0,none⟩,1,1⟩ :: [5,2,4,6,3,7,3,3,3,2].map fun k=>⟨k,0,0,zeroC,none,0,0⟩
def script:List PX:=⟨1,0,0,cP 5⟩ :: [5,2,4,6,3,7,3,3,3,2].map fun k=>⟨k,0,0,zeroC⟩
def saidL:List Int:=[0,0,0,0,0,6,0,0,0,0,6]
def scrW:PW:=(runF freshW script).1
theorem asked1:runW freshW script=(scrW,saidL,0):=by kernel_rfl
theorem asked2:scrW.h.d.P=[(0,[]),(1,[5]),(0,[]),(0,[])]:=by kernel_rfl
theorem asked3:scrW.n.map (fun h=>h.g.length)=[1,0,0]:=by kernel_rfl
theorem asked4:scrW.m=[]:=by kernel_rfl
theorem WRun_k (x:WV) (a:Option Addr) (n c:Nat) (L:List XV) {P:PW} {Q:List PX} {X:PW×List Int×Int} (hp:x.p=P) (hq:L.map XV.p=Q) (e:runW P Q=X) (w:World) (hE:Env w) (hk:x.ok w) (hs:x.sm) (hL:Rows' hapK w a n c L):Calls Tryz.prog 17 #[x.v,.slice a n c] w fun e w'=>RunNew X w e w':=by
 have q:=WRun_c x a n c L w hE hk hs hL
 rw [hp,hq,e] at q
 exact q
theorem asked_zone {h:HV} {w:World} (hk:h.ok w) (hp:h.p.d.P=[(0,[]),(1,[5]),(0,[]),(0,[])]):∃ b off z,h.d.za=some ⟨b,off,none⟩∧h.d.zn=4∧w.cell? ⟨b,off + 2 + 1,none⟩=some (.slice (ZV.a z) 1 z.c)∧Ints w z.a 1 z.c [5]:=by
 have hz:h.d.Z.map ZV.p=[(0,[]),(1,[5]),(0,[]),(0,[])]:=hp
 have hl:=congrArg List.length hz
 rw [List.length_map] at hl
 have h4:h.d.zn=4:=by rw [← hk.d.z.len,hl];rfl
 obtain ⟨b,off,ha,_,hr⟩:=hk.d.z.row.resolve_left (by omega)
 obtain ⟨z,hz1⟩:∃ z,h.d.Z[1]?=some z:=⟨_,List.getElem?_eq_getElem (by rw [hl];decide)⟩
 have e:z.p=(1,[5]):=by
  have:=congrArg (fun l=>l[1]?) hz
  simpa [hz1] using this
 have hzl:z.l=[5]:=congrArg Prod.snd e
 have hi:Ints w z.a z.n z.c z.l:=hk.d.z.ok z (List.mem_of_getElem? hz1)
 have hn:z.n=1:=by
  rw [← hi.len,hzl]
  rfl
 have:=(hr 1 z hz1).2
 rw [hn] at this hi
 rw [hzl] at hi
 exact ⟨b,off,z,ha,h4,by simpa using this,hi⟩
theorem asked_hand {a:Option Addr} {n c:Nat} {N:List NV} {w:World} (hk:Rows' handK w a n c N) (hp:(N.map NV.p).map (fun h=>h.g.length)=[1,0,0]):∃ b off g m,a=some ⟨b,off,none⟩∧n=3∧w.cell? ⟨b,off + 7,none⟩=some (.slice g 1 m):=by
 have hl:=congrArg List.length hp
 simp only [List.length_map] at hl
 have h3:n=3:=by rw [← hk.len,hl];rfl
 obtain ⟨b,off,x,ha,hx,hok,_,hc⟩:=hk.at (i:=0) (by omega)
 have e:x.G.length=1:=by
  have:=congrArg (fun l=>l[0]?) hp
  simpa [hx,NV.p] using this
 have hg:x.gn=1:=by rw [← (show x.ok w from hok).g.len,e]
 have:=hc 7 _ rfl
 rw [hg] at this
 exact ⟨b,off,x.ga,x.gc,ha,h3,by simpa using this⟩
theorem of_c (k n:Int) (w:World):Calls Tryz.prog 20 #[.int .i64 k,.int .i64 n] w fun e w'=>e=.returned (.agg #[.int .i64 k,.int .i64 0,.int .i64 n,.int .i64 0,.int .i64 0,.int .i64 0,.int .i64 0,.slice none 0 0])∧Below w.heap.size w w':=by
 obtain ⟨z0,z1,z2,z3,z4,z5,z6,z7⟩:=(Lay.made w [.int .i64 k,.int .i64 0,.int .i64 n,.int .i64 0,.int .i64 0,.int .i64 0,.int .i64 0,.slice none 0 0] 46).eight
 go_enter Tryz.func20,Tryz.ntmps20
 go_wp2
 exact bodyPost_ret (v:=.agg #[.int .i64 k,.int .i64 0,.int .i64 n,.int .i64 0,.int .i64 0,.int .i64 0,.int .i64 0,.slice none 0 0]) (by simp [results,Tryz.results20,go_sem,z0,z1,z2,z3,z4,z5,z6,z7]) rfl ⟨rfl,by (repeat first|exact bel0|assumption|refine bel1 ?_|refine bel2 ?_|refine bel3 ?_|refine belowT ?_ (by assumption)|refine bel5 ?_ (by simp;try omega))⟩
theorem asked_c (w:World) (hE:Env w):Calls Tryz.prog 7 #[] w fun e w'=>e=.returned (.bool true)∧Below w.heap.size w w':=by
 go_enter Tryz.func7,Tryz.ntmps7
 go_wp2_with fail
 refine (WNew_c _).mono ?_
 rintro e w1 ⟨⟨x0,rfl,ok0,sm0,_,p0⟩,bw⟩
 dsimp only [WV.v]
 go_wp2_with fail
 refine (puts_c 5 (by omega) _).mono ?_
 rintro e w2 ⟨⟨q5,rfl,i5,_⟩,hb⟩
 replace ok0:=ok0.below hb (Nat.le_refl _)
 replace bw:=belowT bw hb
 clear hb
 go_wp2_with (go_at_call 20;refine (of_c _ _ _).mono ?_;rintro e w3 ⟨rfl,hb⟩;replace ok0:=ok0.below hb (Nat.le_refl _);replace i5:=i5.below hb (Nat.le_refl _);replace bw:=belowT bw hb;clear hb)
 have hL:Rows' hapK (w3.alloc (.cells (hapK.cells (hapX q5)).toArray 46)) (some ⟨w3.heap.size,0,none⟩) 11 11 (hapX q5):=Rows'.of_lay (Lay.made w3 (hapK.cells (hapX q5)) 46) (fun x hx=>by
  have hb:=belowA (Below.refl _ w3) (.cells (hapK.cells (hapX q5)).toArray 46)
  simp only [hapX,List.map_cons,List.map_nil,List.mem_cons,List.not_mem_nil,or_false] at hx
  rcases hx with rfl|hx
  ·exact i5.below hb (Nat.le_refl _)
  ·obtain rfl|rfl|rfl|rfl|rfl|rfl|rfl|rfl|rfl|rfl:=hx<;>exact Ints.nilSlice _) rfl (by omega)
 have bn:=belowA (Below.refl _ w3) (.cells (hapK.cells (hapX q5)).toArray 46)
 refine (WRun_k x0 _ 11 11 (hapX q5) p0 rfl asked1 _ (hE.below (belowT bw bn)) (ok0.below bn (Nat.le_refl _)) sm0 hL).mono ?_
 rintro e w4 ⟨⟨x1,a1,n1,c1,rfl,ok1,_,_,iE,_,p1⟩,hb⟩
 replace bw:=belowT (belowT bw bn) hb
 clear hb bn hL ok0 i5 p0 sm0 hE
 have p1:x1.p=scrW:=p1
 obtain ⟨b,off,z,hza,hzn,hzc,hzi⟩:=asked_zone ok1.h (by rw [← asked2,← p1];rfl)
 obtain ⟨b2,off2,g2,m2,hna,hnn,hnc⟩:=asked_hand ok1.n (by rw [← asked3,← p1];rfl)
 have hmn:x1.mn=0:=by
  have:=congrArg (fun P=>P.m.length) p1
  rw [asked4] at this
  simp only [WV.p,List.length_map,List.length_nil] at this
  rw [← ok1.m.len,this]
 clear ok1 p1
 dsimp only [WV.v] at *
 rw [hza,hzn,hna,hnn,hmn]
 clear hza hzn hna hnn hmn
 go_upto_region 3 with fail
 have xn:=Lay.made w4 [.slice (some ⟨b,off,none⟩) 4 x1.h.d.zc,.slice x1.h.d.ka x1.h.d.kn x1.h.d.kc,.int .i64 x1.h.d.b.h,.int .i64 x1.h.d.b.t,.slice x1.h.a x1.h.n x1.h.c,.slice x1.d.a x1.d.n x1.d.c,.slice x1.d.b x1.d.m x1.d.d,.bool x1.u,.slice (some ⟨b2,off2,none⟩) 3 x1.nc,.slice x1.ma 0 x1.mc] 37
 have bn:=belowA (Below.refl _ w4) (.cells [.slice (some ⟨b,off,none⟩) 4 x1.h.d.zc,.slice x1.h.d.ka x1.h.d.kn x1.h.d.kc,.int .i64 x1.h.d.b.h,.int .i64 x1.h.d.b.t,.slice x1.h.a x1.h.n x1.h.c,.slice x1.d.a x1.d.n x1.d.c,.slice x1.d.b x1.d.m x1.d.d,.bool x1.u,.slice (some ⟨b2,off2,none⟩) 3 x1.nc,.slice x1.ma 0 x1.mc].toArray 37)
 replace hzc:=keepc bn hzc
 replace hzi:=hzi.below bn (Nat.le_refl _)
 replace hnc:=keepc bn hnc
 replace iE:=iE.below bn (Nat.le_refl _)
 replace bw:=belowT bw bn
 clear bn
 generalize w4.heap.size=N at *
 generalize w4.alloc (.cells [.slice (some ⟨b,off,none⟩) 4 x1.h.d.zc,.slice x1.h.d.ka x1.h.d.kn x1.h.d.kc,.int .i64 x1.h.d.b.h,.int .i64 x1.h.d.b.t,.slice x1.h.a x1.h.n x1.h.c,.slice x1.d.a x1.d.n x1.d.c,.slice x1.d.b x1.d.m x1.d.d,.bool x1.u,.slice (some ⟨b2,off2,none⟩) 3 x1.nc,.slice x1.ma 0 x1.mc].toArray 37)=w5 at *
 have i2:=Ints.of_row (l:=saidL) (n:=11) (heap_new w5 (.cells (saidL.map (.int .i64)).toArray 39)) (by simp [saidL]) (by decide) rfl
 have bn:=belowA (Below.refl _ w5) (.cells (saidL.map (.int .i64)).toArray 39)
 go_wp2_with fail
 refine (EqualE_c a1 _ n1 11 c1 11 saidL saidL _ (iE.below bn (Nat.le_refl _)) i2).mono ?_
 rintro e w6 ⟨rfl,k6,rfl⟩
 rw [decide_eq_true (rfl:saidL=saidL)]
 replace bn:=below_drewN bn k6
 generalize hw7:World.drewN _ k6=w7 at *
 replace hzc:=keepc bn hzc
 replace hzi:=hzi.below bn (Nat.le_refl _)
 replace hnc:=keepc bn hnc
 replace xn:=xn.below bn
 replace bw:=belowT bw bn
 clear bn iE i2 hw7
 have e0:=xn.cell 0 _ rfl
 have e8:=xn.cell 8 _ rfl
 have e9:=xn.cell 9 _ rfl
 have i5:=Ints.of_row (l:=[5]) (n:=1) (heap_new w7 (.cells #[.int .i64 5] 3)) (by simp) (by decide) rfl
 have bn:=belowA (Below.refl _ w7) (.cells #[.int .i64 5] 3)
 go_wp2_with fail
 refine (Equal_c _ _ 1 1 _ 1 [5] [5] _ (hzi.below bn (Nat.le_refl _)) i5).mono ?_
 rintro e w8 ⟨rfl,k8,rfl⟩
 rw [decide_eq_true (rfl:([5]:List Int)=[5])]
 replace bn:=below_drewN bn k8
 generalize hw9:World.drewN _ k8=w9 at *
 replace hnc:=keepc bn hnc
 replace xn:=xn.below bn
 replace bw:=belowT bw bn
 clear bn i5 hw9 hzc hzi e0 e8 e9
 have e8:=xn.cell 8 _ rfl
 have e9:=xn.cell 9 _ rfl
 go_wp2
 go_ret
 exact ⟨rfl,bw⟩
end Go.Proofs.YtnnngphfmclegaaGreatDoor
namespace Go.Proofs.YtnnngphfmclegaaGreatDoor
open Go.RowKit
set_option linter.unusedVariables false
set_option maxHeartbeats 8000000
set_option maxRecDepth 100000
set_option linter.unusedSimpArgs false
theorem WDo_k (x:WV) (y:XV) {P:PW} {R:PW×Int} (hp:x.p=P) (e:doW P y.p=R) (w:World) (hE:Env w) (hk:x.ok w) (hs:x.sm) (hy:y.ok w):Calls Tryz.prog 9 #[x.v,y.v] w fun e w'=>WorldNew R w e w':=by
 have q:=WDo_c x y w hE hk hs hy
 rw [hp,e] at q
 exact q
theorem WSame_t (x y:WV) (e:x.p=y.p) (w:World) (hx:x.ok w) (hy:y.ok w):Calls Tryz.prog 10 #[x.v,y.v] w fun e w'=>e=.returned (.bool true)∧Below w.heap.size w w':=by
 have q:=WSame_c x y w hx hy
 rw [(sameW_iff _ _).2 e] at q
 exact q
end Go.Proofs.YtnnngphfmclegaaGreatDoor
namespace Go.Proofs.YtnnngphfmclegaaGreatDoor
open Go.RowKit
set_option linter.unusedVariables false
set_option maxHeartbeats 8000000
set_option maxRecDepth 100000
set_option linter.unusedSimpArgs false
theorem WorldStands_c (x:WV) (w:World) (hE:Env w) (hk:x.ok w) (hs:x.sm):Calls Tryz.prog 3 #[x.v] w fun e w'=>e=.returned (.bool true)∧Below w.heap.size w w':=by
 have x0:=Lay.made w x.cells 37
 have bw:=belowA (Below.refl _ w) (.cells x.cells.toArray 37)
 replace hk:=hk.below bw (Nat.le_refl _)
 replace hE:=hE.below bw
 go_enter Tryz.func3,Tryz.ntmps3
 go_wp2_with fail
 generalize hB:w.heap.size=B at x0
 generalize w.alloc (.cells x.cells.toArray 37)=w1 at *
 refine (asked_c _ hE).mono ?_
 rintro e w2 ⟨rfl,hb⟩
 replace x0:=x0.below hb
 replace hk:=hk.below hb (Nat.le_refl _)
 replace hE:=hE.below hb
 replace bw:=belowT bw hb
 clear hb
 obtain ⟨q0,q1,q2,q3,q4,q5,q6,q7,q8,q9⟩:=x0.ten
 have HD1:=hide (fun (k:checkW x.p=0) (u:x.u=true)=>world_stands k u)
 have HCK:=hide (fun w' h1 h2=>WCheck_c x w' h1 h2 hs)
 have HAE:=hide asked_c
 generalize checkW x.p=ck at *
 go_wp2_with fail
 refine (HCK.out _ hE hk).mono ?_
 rintro e w3 ⟨rfl,hb⟩
 replace x0:=x0.below hb
 replace hk:=hk.below hb (Nat.le_refl _)
 replace hE:=hE.below hb
 replace bw:=belowT bw hb
 clear hb q0 q1 q2 q3 q4 q5 q6 q7 q8 q9 HCK
 cases h0:ck !=0
 ·have H0:=hide (show ck=0 by simpa using h0)
  obtain ⟨q0,q1,q2,q3,q4,q5,q6,q7,q8,q9⟩:=x0.ten
  cases hu:x.u
  ·rw [hu] at q7
   go_wp2_with fail
   refine (HAE.out _ hE).mono ?_
   rintro e w4 ⟨rfl,hb⟩
   go_wp2
   go_ret
   exact ⟨rfl,belowT bw hb⟩
  ·obtain ⟨d1,d2⟩:=HD1.out H0.out hu
   have D1:=hide (fun w' h1 h2=>WDo_k x ⟨6,0,0,zeroC,none,0,0⟩ rfl d1 w' h1 h2 hs (Ints.nilSlice w'))
   have D2:=hide (fun y (h:WV.p y=_) w' h1 h2 h3=>WDo_k y ⟨7,0,0,zeroC,none,0,0⟩ h d2 w' h1 h2 h3 (Ints.nilSlice w'))
   have D3:=hide (fun y (h:WV.p y=x.p) w' h1 h2=>WSame_t y x h w' h1 h2)
   clear d1 d2 HD1
   dsimp only [WV.v] at D1 D3
   rw [hu] at q7 D1
   simp only [hu] at D3
   go_wp2_with fail
   refine (D1.out _ hE hk).mono ?_
   rintro e w4 ⟨⟨y,rfl,oky,smy,_,py⟩,hb⟩
   replace x0:=x0.below hb
   replace hk:=hk.below hb (Nat.le_refl _)
   replace hE:=hE.below hb
   replace bw:=belowT bw hb
   clear hb q0 q1 q2 q3 q4 q5 q6 q7 q8 q9 D1
   have UY:Hid (y.u=false):=hide (congrArg PW.u py)
   have D2':=hide (fun w' h1 h2=>D2.out y py w' h1 h2 smy)
   clear py D2
   dsimp only [WV.v] at D2'
   rw [UY.out] at D2'
   go_upto_region 4 with fail
   have Cx:=Lay.made w4 y.cells 37
   have bn:=belowA (Below.refl _ w4) (.cells y.cells.toArray 37)
   generalize w4.heap.size=C at Cx
   generalize w4.alloc (.cells y.cells.toArray 37)=w5 at *
   replace x0:=x0.below bn
   replace hk:=hk.below bn (Nat.le_refl _)
   replace oky:=oky.below bn (Nat.le_refl _)
   replace hE:=hE.below bn
   replace bw:=belowT bw bn
   clear bn
   obtain ⟨q0,q1,q2,q3,q4,q5,q6,q7,q8,q9⟩:=Cx.ten
   rw [UY.out] at q7
   go_wp2_with fail
   refine (D2'.out _ hE oky).mono ?_
   rintro e w6 ⟨⟨z,rfl,okz,smz,_,pz⟩,hb⟩
   replace x0:=x0.below hb
   replace hk:=hk.below hb (Nat.le_refl _)
   replace bw:=belowT bw hb
   clear hb q0 q1 q2 q3 q4 q5 q6 q7 q8 q9 D2' Cx
   have D3':=hide (fun w' h1 h2=>D3.out z pz w' h1 h2)
   clear D3 pz
   go_upto_region 7 with fail
   have Dx:=Lay.made w6 z.cells 37
   have bn:=belowA (Below.refl _ w6) (.cells z.cells.toArray 37)
   generalize w6.heap.size=D at Dx
   generalize w6.alloc (.cells z.cells.toArray 37)=w7 at *
   replace x0:=x0.below bn
   replace hk:=hk.below bn (Nat.le_refl _)
   replace okz:=okz.below bn (Nat.le_refl _)
   replace bw:=belowT bw bn
   clear bn
   obtain ⟨q0,q1,q2,q3,q4,q5,q6,q7,q8,q9⟩:=Dx.ten
   obtain ⟨r0,r1,r2,r3,r4,r5,r6,r7,r8,r9⟩:=x0.ten
   rw [hu] at r7
   go_wp2_with fail
   refine (D3'.out _ okz hk).mono ?_
   rintro e w8 ⟨rfl,hb⟩
   go_wp2
   go_ret
   exact ⟨rfl,belowT bw hb⟩
 ·obtain ⟨q0,q1,q2,q3,q4,q5,q6,q7,q8,q9⟩:=x0.ten
  go_wp2_with fail
  refine (HAE.out _ hE).mono ?_
  rintro e w4 ⟨rfl,hb⟩
  go_wp2
  go_ret
  exact ⟨rfl,belowT bw hb⟩
end Go.Proofs.YtnnngphfmclegaaGreatDoor
namespace Go.Proofs.YtnnngphfmclegaaGreatDoor
open Go.RowKit
set_option linter.unusedVariables false
set_option maxHeartbeats 8000000
set_option maxRecDepth 100000
set_option linter.unusedSimpArgs false
theorem WorldTwice_c (x:WV) (j:Int) (w:World) (hE:Env w) (hk:x.ok w) (hs:x.sm) (hj:-9223372036854775808≤j∧j≤9223372036854775807):Calls Tryz.prog 4 #[x.v,.int .i64 j] w fun e w'=>e=.returned (.bool true)∧Below w.heap.size w w':=by
 have x0:=Lay.made w x.cells 37
 have bw:=belowA (Below.refl _ w) (.cells x.cells.toArray 37)
 replace hk:=hk.below bw (Nat.le_refl _)
 replace hE:=hE.below bw
 go_enter Tryz.func4,Tryz.ntmps4
 go_wp2_with fail
 generalize hB:w.heap.size=B at x0
 generalize w.alloc (.cells x.cells.toArray 37)=w1 at *
 refine (asked_c _ hE).mono ?_
 rintro e w2 ⟨rfl,hb⟩
 replace x0:=x0.below hb
 replace hk:=hk.below hb (Nat.le_refl _)
 replace hE:=hE.below hb
 replace bw:=belowT bw hb
 clear hb
 obtain ⟨q0,q1,q2,q3,q4,q5,q6,q7,q8,q9⟩:=x0.ten
 have HCK:=hide (fun w' h1 h2=>WCheck_c x w' h1 h2 hs)
 have HAE:=hide asked_c
 have HX:=hide (fun (k:checkW x.p=0)=>checkW_ok k)
 have HM:=hide hk.m.len
 generalize checkW x.p=ck at *
 go_wp2_with fail
 refine (HCK.out _ hE hk).mono ?_
 rintro e w3 ⟨rfl,hb⟩
 replace x0:=x0.below hb
 replace hk:=hk.below hb (Nat.le_refl _)
 replace hE:=hE.below hb
 replace bw:=belowT bw hb
 clear hb q0 q1 q2 q3 q4 q5 q6 q7 q8 q9 HCK
 obtain ⟨q0,q1,q2,q3,q4,q5,q6,q7,q8,q9⟩:=x0.ten
 cases h0:ck !=0
 ·have h30:x.mn≤30:=by
   have:=(HX.out (show ck=0 by simpa using h0)).2.1
   simp only [WV.p,List.length_map] at this
   rw [← HM.out]
   exact this
  by_cases hm:x.mn=0
  ·have hm':((x.mn:Int)==0)=true:=by simp [hm]
   clear hm
   go_wp2_with fail
   refine (HAE.out _ hE).mono ?_
   rintro e w4 ⟨rfl,hb⟩
   go_wp2
   go_ret
   exact ⟨rfl,belowT bw hb⟩
  ·have hm':((x.mn:Int)==0)=false:=by simp;omega
   go_wp2_with fail
   refine (at_c j x.mn _ (by omega) (by omega) hj).mono ?_
   rintro e w4 ⟨rfl,rfl⟩
   generalize j % (x.mn:Int)=i at *
   have D1:=hide (fun w' h1 h2=>WDo_k x ⟨4,0,i,zeroC,none,0,0⟩ rfl rfl w' h1 h2 hs (Ints.nilSlice w'))
   have HT:=hide (fun k=>world_twice (x:=x.p) (j:=i) k)
   have HR:=hide (fun k=>(checkW_ok (world_keeps (x:=x.p) (e:=⟨4,0,i,zeroC⟩) k).2.1).2.1)
   rw [show XV.p ⟨4,0,i,zeroC,none,0,0⟩=⟨4,0,i,zeroC⟩ from rfl] at D1
   generalize doW x.p ⟨4,0,i,zeroC⟩=r at *
   go_wp2_with fail
   refine (D1.out _ hE hk).mono ?_
   rintro e w4 ⟨⟨y,rfl,oky,smy,_,py⟩,hb⟩
   have PY:=hide py
   replace hE:=hE.below hb
   replace bw:=belowT bw hb
   clear hb q0 q1 q2 q3 q4 q5 q6 q7 q8 q9 D1 x0 hk py
   go_upto_region 5 with fail
   have Cx:=Lay.made w4 y.cells 37
   have bn:=belowA (Below.refl _ w4) (.cells y.cells.toArray 37)
   generalize w4.heap.size=C at Cx
   generalize w4.alloc (.cells y.cells.toArray 37)=w5 at *
   replace oky:=oky.below bn (Nat.le_refl _)
   replace hE:=hE.below bn
   replace bw:=belowT bw bn
   clear bn
   cases h1:r.2 !=0
   ·have hz:r.2=0:=by simpa using h1
    obtain ⟨t1,t2,t3,t4,t5⟩:=HT.out hz
    have h30:=HR.out hz
    have D2:=hide (fun w' h1 h2=>WDo_k y ⟨4,0,i,zeroC,none,0,0⟩ PY.out rfl w' h1 h2 smy (Ints.nilSlice w'))
    rw [show XV.p ⟨4,0,i,zeroC,none,0,0⟩=⟨4,0,i,zeroC⟩ from rfl] at D2
    generalize doW r.1 ⟨4,0,i,zeroC⟩=r2 at *
    have T1:=hide t1
    rw [← PY.out] at t2 t3 t4 t5 h30
    obtain ⟨q0,q1,q2,q3,q4,q5,q6,q7,q8,q9⟩:=Cx.ten
    have hmy:=oky.m.len
    have HH:=hide t2
    have HD:=hide t3
    have HN:=hide t4
    have hml:r2.1.m.length≤y.mn + 1:=by simp only [WV.p,List.length_map] at t5;omega
    have hmy30:y.mn≤30:=by simp only [WV.p,List.length_map] at h30;omega
    clear t1 t2 t3 t4 t5 h30 HT HR hz hmy
    go_wp2_with fail
    refine (D2.out _ hE oky).mono ?_
    rintro e w6 ⟨⟨z,rfl,okz,smz,_,pz⟩,hb⟩
    rw [T1.out]
    replace Cx:=Cx.below hb
    replace oky:=oky.below hb (Nat.le_refl _)
    replace bw:=belowT bw hb
    clear hb q0 q1 q2 q3 q4 q5 q6 q7 q8 q9 D2
    have PZ:=hide pz
    clear pz
    go_upto_region 8 with fail
    have Dx:=Lay.made w6 z.cells 37
    have bn:=belowA (Below.refl _ w6) (.cells z.cells.toArray 37)
    generalize w6.heap.size=D at Dx
    generalize w6.alloc (.cells z.cells.toArray 37)=w7 at *
    replace Cx:=Cx.below bn
    replace oky:=oky.below bn (Nat.le_refl _)
    replace okz:=okz.below bn (Nat.le_refl _)
    replace bw:=belowT bw bn
    clear bn
    have S1:Hid (∀ w':World,y.h.ok w'→z.h.ok w'→Calls Tryz.prog 12 #[y.h.v,z.h.v] w' fun e w''=>e=.returned (.bool true)∧Below w'.heap.size w' w''):=hide (fun w' h1 h2=>by
     have q:=HSame_c y.h z.h w' h1 h2
     rwa [(sameH_iff _ _).2 (show y.h.p=z.h.p from HH.out.symm.trans (congrArg PW.h PZ.out).symm)] at q)
    have S2:Hid (∀ w':World,y.d.ok w'→z.d.ok w'→Calls Tryz.prog 13 #[y.d.v,z.d.v] w' fun e w''=>e=.returned (.bool true)∧Below w'.heap.size w' w''):=hide (fun w' h1 h2=>by
     have q:=KSame_c y.d z.d w' h1 h2
     rwa [(sameK_iff _ _).2 (show y.d.p=z.d.p from HD.out.symm.trans (congrArg PW.d PZ.out).symm)] at q)
    have S3:=hide (fun w' h1 h2=>EqHn_c y.na z.na y.nn z.nn y.nc z.nc y.N z.N w' h1 h2)
    rw [sameBy_t sameN_iff (show y.N.map NV.p=z.N.map NV.p from HN.out.symm.trans (congrArg PW.n PZ.out).symm)] at S3
    have hzm:z.mn≤y.mn + 1:=by
     have e:=congrArg (fun P=>P.m.length) PZ.out
     simp only [WV.p,List.length_map] at e
     rw [← okz.m.len,e]
     exact hml
    have hle:((z.mn:Int)≤(y.mn:Int) + 1):=by omega
    have hwr:IntKind.i64.wrap ((y.mn:Int) + 1)=(y.mn:Int) + 1:=IntWalk.i64_in _ ⟨by omega,by omega⟩
    clear HH HD HN PZ PY hml
    obtain ⟨q0,q1,q2,q3,q4,q5,q6,q7,q8,q9⟩:=Cx.ten
    obtain ⟨r0,r1,r2,r3,r4,r5,r6,r7,r8,r9⟩:=Dx.ten
    go_wp2_with fail
    refine (S1.out _ oky.h okz.h).mono ?_
    rintro e w8 ⟨rfl,hb⟩
    replace Cx:=Cx.below hb
    replace Dx:=Dx.below hb
    replace oky:=oky.below hb (Nat.le_refl _)
    replace okz:=okz.below hb (Nat.le_refl _)
    replace bw:=belowT bw hb
    clear hb q0 q1 q2 q3 q4 q5 q6 q7 q8 q9 r0 r1 r2 r3 r4 r5 r6 r7 r8 r9
    obtain ⟨q0,q1,q2,q3,q4,q5,q6,q7,q8,q9⟩:=Cx.ten
    obtain ⟨r0,r1,r2,r3,r4,r5,r6,r7,r8,r9⟩:=Dx.ten
    go_wp2_with fail
    refine (S2.out _ oky.d okz.d).mono ?_
    rintro e w9 ⟨rfl,hb⟩
    replace Cx:=Cx.below hb
    replace Dx:=Dx.below hb
    replace oky:=oky.below hb (Nat.le_refl _)
    replace okz:=okz.below hb (Nat.le_refl _)
    replace bw:=belowT bw hb
    clear hb q0 q1 q2 q3 q4 q5 q6 q7 q8 q9 r0 r1 r2 r3 r4 r5 r6 r7 r8 r9
    have q8:=Cx.ten.2.2.2.2.2.2.2.2.1
    have r8:=Dx.ten.2.2.2.2.2.2.2.2.1
    go_wp2_with fail
    refine (S3.out _ oky.n okz.n).mono ?_
    rintro e w10 ⟨rfl,hb⟩
    have q9:=(Cx.below hb).ten.2.2.2.2.2.2.2.2.2
    have r9:=(Dx.below hb).ten.2.2.2.2.2.2.2.2.2
    clear q8 r8
    go_wp2
    go_ret
    exact ⟨rfl,belowT bw hb⟩
   ·go_wp2
    go_ret
    exact ⟨rfl,bw⟩
 ·go_wp2_with fail
  refine (HAE.out _ hE).mono ?_
  rintro e w4 ⟨rfl,hb⟩
  go_wp2
  go_ret
  exact ⟨rfl,belowT bw hb⟩
end Go.Proofs.YtnnngphfmclegaaGreatDoor
namespace Go.Proofs.YtnnngphfmclegaaGreatDoor
open Go.RowKit
set_option linter.unusedVariables false
set_option maxHeartbeats 8000000
set_option maxRecDepth 100000
set_option linter.unusedSimpArgs false
theorem EqBy_some (b1 o1 b2 o2 n1 c1 c2:Nat) (l1 l2:List Int) (w:World) (hl1:l1.length=n1) (hl2:l2.length=n1) (hm1:n1≤9223372036854775807)
  (hr1:∀ i,i < n1→w.cell? ⟨b1,o1 + i,none⟩=some (.int .u8 (l1.getD i 0))) (hr2:∀ i,i < n1→w.cell? ⟨b2,o2 + i,none⟩=some (.int .u8 (l2.getD i 0))) :
  Calls Tryz.prog 16 #[.slice (some ⟨b1,o1,none⟩) n1 c1,.slice (some ⟨b2,o2,none⟩) n1 c2] w fun e w'=>e=.returned (.bool (decide (l1=l2)))∧∃ n,w'=w.drewN n:=by
 go_enter Tryz.func16,Tryz.ntmps16
 go_wp2
 go_loopw [13] (fun i wr=>∃ k n:Nat,k≤n1∧i=.int .i64 k∧l1.take k=l2.take k∧wr=w.drewN n) (fun i _=>n1 - (intOf i).toNat)
 case atStart=>exact ⟨0,0,by omega,rfl,by simp,rfl⟩
 case round=>
  obtain ⟨k,n,hk,rfl,ht,rfl⟩:=hrel
  by_cases hlt:k < n1
  ·have hi1:=hr1 k hlt
   have hi2:=hr2 k hlt
   have hlt':(k:Int) < (n1:Int):=by omega
   have HT:=hide ht
   clear ht hr1 hr2
   generalize hx:l1.getD k 0=x at hi1
   generalize hy:l2.getD k 0=y at hi2
   have HX:=hide hx
   have HY:=hide hy
   clear hx hy
   go_wp2
   go_quiet (fail)
   go_wp2
   ·rename_i hxy
    go_ret
    exact ⟨ret_bool (decide_eq_false (ne_of_getD l1 l2 k (by rw [HX.out,HY.out];simpa using hxy))).symm,n + nq,by simp⟩
   ·rename_i hxy
    exact ⟨⟨k + 1,_,by omega,by go_num,take_eq_step l1 l2 k (by omega) (by omega) HT.out (by rw [HX.out,HY.out];simpa using hxy),rfl⟩,by simp [intOf];omega⟩
  ·go_wp2
   go_ret
   exact ⟨ret_bool (by rw [List.take_of_length_le (by omega),List.take_of_length_le (by omega)] at ht;simp [ht]),_,rfl⟩
theorem EqBy_none (a1 a2:Option Addr) (n1 n2 c1 c2:Nat) (w:World) (hz:n1=0∨n2=0) (hm1:n1≤9223372036854775807) (hm2:n2≤9223372036854775807) :
  Calls Tryz.prog 16 #[.slice a1 n1 c1,.slice a2 n2 c2] w fun e w'=>e=.returned (.bool (decide (n1=n2)))∧∃ n,w'=w.drewN n:=by
 by_cases hn:n1=n2
 ·subst hn
  obtain rfl:n1=0:=by omega
  go_enter Tryz.func16,Tryz.ntmps16
  go_wp2
  refine wp_loop_rounds 1 ?_;rw [rounds_succ]
  go_wp2
  go_ret
  exact ⟨rfl,0,rfl⟩
 ·have hne:((n1:Int) !=(n2:Int))=true:=by simp;omega
  go_enter Tryz.func16,Tryz.ntmps16
  go_wp2
  go_ret
  exact ⟨ret_bool (by simp [hn]),0,rfl⟩
theorem EqBy_ne (a1 a2:Option Addr) (n1 n2 c1 c2:Nat) (w:World) (hn:n1≠n2) (hm1:n1≤9223372036854775807) (hm2:n2≤9223372036854775807) :
  Calls Tryz.prog 16 #[.slice a1 n1 c1,.slice a2 n2 c2] w fun e w'=>e=.returned (.bool false)∧∃ n,w'=w.drewN n:=by
 have hne:((n1:Int) !=(n2:Int))=true:=by simp;omega
 go_enter Tryz.func16,Tryz.ntmps16
 go_wp2
 go_ret
 exact ⟨rfl,0,rfl⟩
theorem numsB_inj {a b:List UInt8} (h:numsB a=numsB b):a=b:=by rw [← bytesOf_nums a,← bytesOf_nums b,h]
theorem Byts.nums {w:World} {b off n c:Nat} {l:List UInt8} (h:Byts w (some ⟨b,off,none⟩) n c l):∀ i,i < n→w.cell? ⟨b,off + i,none⟩=some (.int .u8 ((numsB l).getD i 0)):=by
 intro i hi
 rcases h.row with h0|⟨b',off',e,_,hc⟩
 ·omega
 ·simp only [Option.some.injEq,Addr.mk.injEq,and_true] at e
  obtain ⟨rfl,rfl⟩:=e
  have hl:i < l.length:=by have:=h.len;omega
  rw [hc i _ (bytC_get l i hl)]
  simp [numsB,List.getD,hl]
theorem EqBy_c (a1 a2:Option Addr) (n1 n2 c1 c2:Nat) (l1 l2:List UInt8) (w:World) (h1:Byts w a1 n1 c1 l1) (h2:Byts w a2 n2 c2 l2) :
  Calls Tryz.prog 16 #[.slice a1 n1 c1,.slice a2 n2 c2] w fun e w'=>e=.returned (.bool (decide (l1=l2)))∧∃ n,w'=w.drewN n:=by
 have e1:=h1.len
 have e2:=h2.len
 have m1:=h1.max
 have m2:=h2.max
 have q1:=h1.le
 have q2:=h2.le
 by_cases hn:n1=n2
 ·subst hn
  by_cases h0:n1=0
  ·refine (EqBy_none a1 a2 n1 n1 c1 c2 w (.inl h0) (by omega) (by omega)).mono fun e w' h=>⟨?_,h.2⟩
   rw [h.1]
   subst h0
   exact ret_bool (by rw [List.length_eq_zero_iff] at e1 e2;simp [e1,e2])
  ·obtain ⟨b1,o1,rfl,_⟩:=h1.row.resolve_left h0
   obtain ⟨b2,o2,rfl,_⟩:=h2.row.resolve_left h0
   refine (EqBy_some b1 o1 b2 o2 n1 c1 c2 (numsB l1) (numsB l2) w (by rw [numsB_len,e1]) (by rw [numsB_len,e2]) (by omega) h1.nums h2.nums).mono fun e w' h=>⟨?_,h.2⟩
   rw [h.1]
   exact ret_bool (by rw [Bool.eq_iff_iff];simp only [decide_eq_true_eq];exact ⟨numsB_inj,fun h=>by rw [h]⟩)
 ·refine (EqBy_ne a1 a2 n1 n2 c1 c2 w hn (by omega) (by omega)).mono fun e w' h=>⟨?_,h.2⟩
  rw [h.1]
  exact ret_bool (by simp;intro h;subst h;omega)
end Go.Proofs.YtnnngphfmclegaaGreatDoor
namespace Go.Proofs.YtnnngphfmclegaaGreatDoor
open Go.RowKit
set_option linter.unusedVariables false
set_option maxHeartbeats 8000000
set_option maxRecDepth 100000
set_option linter.unusedSimpArgs false
def unlike {α:Type} (f:α→α→Bool):Nat→List α→List α→Nat
 |k + 1,a :: l,b :: m=>(if f a b then 0 else 1) + unlike f k l m
 |_,_,_=>0
theorem unlike_step {α:Type} {f:α→α→Bool} : ∀ {k:Nat} {l m:List α} {a b:α},l[k]?=some a→m[k]?=some b→unlike f (k + 1) l m=unlike f k l m + (if f a b then 0 else 1)
 |0,x :: l,y :: m,a,b,h1,h2=>by
  simp at h1 h2
  subst h1 h2
  simp [unlike]
 |k + 1,x :: l,y :: m,a,b,h1,h2=>by
  have:=unlike_step (f:=f) (k:=k) (l:=l) (m:=m) (a:=a) (b:=b) (by simpa using h1) (by simpa using h2)
  simp only [unlike] at this ⊢
  omega
 |k,[],m,a,b,h1,_=>by simp at h1
 |k,x :: l,[],a,b,_,h2=>by simp at h2
theorem unlike_one {α:Type} {f:α→α→Bool} (hf:∀ a,f a a=true):∀ (k:Nat) (l m:List α) (j:Nat),(∀ i,i≠j→m[i]?=l[i]?)→unlike f k l m≤1
 |0,l,m,j,h=>by simp [unlike]
 |k + 1,[],m,j,h=>by simp [unlike]
 |k + 1,x :: l,[],j,h=>by simp [unlike]
 |k + 1,x :: l,y :: m,0,h=>by
  have e:m=l:=List.ext_getElem? fun i=>by simpa using h (i + 1) (by omega)
  subst e
  have h0:∀ (k:Nat) (l:List α),unlike f k l l=0:=by
   intro k
   induction k with
   |zero=>intro l;simp [unlike]
   |succ k ih=>intro l;cases l with
    |nil=>simp [unlike]
    |cons a l=>simp [unlike,hf,ih]
  simp only [unlike,h0]
  split<;>omega
 |k + 1,x :: l,y :: m,j + 1,h=>by
  have e:y=x:=by simpa using h 0 (by omega)
  have:=unlike_one hf k l m j (fun i hi=>by simpa using h (i + 1) (by omega))
  simp only [unlike,e,hf]
  simpa using this
theorem some_mail {x:PW} {e:PX} (k:(doW x e).2=0) (h:e.k=3∨e.k=5):0 < x.m.length:=by
 obtain ⟨hx,he⟩:=doW_right k
 rw [he] at k
 unfold happenW at k
 rw [if_pos (by omega)] at k
 split at k
 ·cases k
 ·rename_i q
  have:e.n < (x.m.length:Int):=by omega
  omega
end Go.Proofs.YtnnngphfmclegaaGreatDoor
