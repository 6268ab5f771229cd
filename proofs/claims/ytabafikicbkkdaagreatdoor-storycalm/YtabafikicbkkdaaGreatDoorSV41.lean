/- The contract of world.Run; no condition but that the arguments read as data, the package-level variables are as their texts lay them, and a disk is no greater than a machine bears. -/
import Derived.Test.YtabafikicbkkdaaGreatDoorSV39
import Derived.Test.YtabafikicbkkdaaGreatDoorSV40
import Derived.Deep.RegionHeld3
import Derived.Test.YtabafikicbkkdaaGreatDoorSV2
import Derived.Test.YtabafikicbkkdaaGreatDoorSV1
namespace Go.Proofs.YtabafikicbkkdaaGreatDoor
open Go.RowKit
set_option linter.unusedVariables false
set_option maxHeartbeats 1000000
set_option maxRecDepth 100000
set_option linter.unusedSimpArgs false
theorem errInfo:∃ i,Tryz.prog.info? 43=some i∧i.zero=some (.int .i64 0)∧i.size=1∧i.bytes≤1000:=by
 have h:(Tryz.prog.info? 43).map (fun i=>(i.zero,i.size,Nat.ble i.bytes 1000))=some (some (.int .i64 0),1,true):=by kernel_rfl
 obtain ⟨i,hi,h⟩:=Option.map_eq_some_iff.1 h
 simp only [Prod.mk.injEq] at h
 exact ⟨i,hi,h.1,h.2.1,Nat.le_of_ble_eq_true h.2.2⟩
theorem mkE (n:Nat) (hn:n≤1000000) (w:World):(Instr.makeSlice 90 (.int .i64 (n:Int)) (.int .i64 (n:Int))).run Tryz.prog w=.ok (.slice (some ⟨w.heap.size,0,none⟩) n n) (w.alloc (.cells (errK.cells (List.replicate n (0:Int))).toArray 43)):=by
 obtain ⟨i,hi,hz,hs,hb⟩:=errInfo
 exact mkR errK (P:=Tryz.prog) 0 Tryz.underlying90 hi hz rfl rfl hs hb (by decide) n hn w
theorem lens_of {x y:WV} (hp:y.p=x.p) (k:checkW x.p=0):y.N.length≤1000∧y.M.length≤1000:=by
 obtain ⟨r1,r2,-⟩:=checkW_ok k
 rw [← hp] at r1 r2
 rw [show y.p.n.length=y.N.length by simp [WV.p]] at r1
 rw [show y.p.m.length=y.M.length by simp [WV.p]] at r2
 omega
structure RBox (w2 w':World) (y:WV) (n N S:Nat):Prop where
 lay:Lay w' N y.cells
 ok:y.ok w'
 offN:y.off N
 offS:y.off S
 m:MineR errK 43 w' S (List.replicate n (0:Int))
 ne:N≠S
 hN:w2.heap.size≤N
 hS:w2.heap.size≤S
 low:Below w2.heap.size w2 w'
theorem CopyW.fin {w0 w:World} {x y:WV} {g q:Nat} (c:CopyW w0 w x y g q) (h1:y.N.length≤1000) (h2:y.M.length≤1000):y.ok w∧y.new w0.heap.size:=by
 obtain ⟨n1,n2,n3⟩:=c.na
 obtain ⟨m1,m2,m3⟩:=c.ma
 obtain ⟨g1,g2⟩:=c.gq
 refine ⟨⟨c.h,c.d,by rw [n1,n2,n3];exact c.n.rows rfl (by omega),by rw [m1,m2,m3];exact c.m.rows rfl (by omega)⟩,fun R hR=>⟨c.hn.1 R hR,c.dn.1.off hR,⟨.inr fun y e=>?_,fun z hz=>(c.nn z hz).1 R (by omega)⟩,⟨.inr fun y e=>?_,fun z hz=>c.mn z hz R (by omega)⟩⟩⟩
 ·rw [n1] at e;cases e;show g≠R;omega
 ·rw [m1] at e;cases e;show q≠R;omega
theorem rbox_ma {w2 w3:World} {y:WV} {n:Nat} (ok:y.ok w3) (low:Below w2.heap.size w2 w3):RBox w2 ((w3.alloc (.cells (errK.cells (List.replicate n (0:Int))).toArray 43)).alloc (.cells y.cells.toArray 40)) y n (w3.heap.size + 1) w3.heap.size:=by
 have s:=low.size
 have b1:=belowA (Below.refl _ w3) (.cells (errK.cells (List.replicate n (0:Int))).toArray 43)
 have b2:=belowA (Below.refl _ (w3.alloc (.cells (errK.cells (List.replicate n (0:Int))).toArray 43))) (.cells y.cells.toArray 40)
 exact ⟨Lay.made1 w3 _ y.cells _,(ok.below b1 (Nat.le_refl _)).below b2 (Nat.le_refl _),ok.off (by omega),ok.off (Nat.le_refl _),(MineR.made errK _ (0:Int) (fun _=>trivial) n w3).below b2,by omega,by omega,by omega,belowT (belowT low b1) b2⟩
theorem rbox_am {w2 w3:World} {y:WV} {n:Nat} (ok:y.ok w3) (low:Below w2.heap.size w2 w3):RBox w2 ((w3.alloc (.cells y.cells.toArray 40)).alloc (.cells (errK.cells (List.replicate n (0:Int))).toArray 43)) y n w3.heap.size (w3.heap.size + 1):=by
 have s:=low.size
 have b1:=belowA (Below.refl _ w3) (.cells y.cells.toArray 40)
 have b2:=belowA (Below.refl _ (w3.alloc (.cells y.cells.toArray 40))) (.cells (errK.cells (List.replicate n (0:Int))).toArray 43)
 have hm:=MineR.made errK 43 (0:Int) (fun _=>trivial) n (w3.alloc (.cells y.cells.toArray 40))
 simp only [World.size_alloc] at hm
 exact ⟨(Lay.made w3 y.cells _).below b2,(ok.below b1 (Nat.le_refl _)).below b2 (Nat.le_refl _),ok.off (Nat.le_refl _),ok.off (by omega),hm,by omega,by omega,by omega,belowT (belowT low b1) b2⟩
theorem rbox_n {w2 w3:World} {y:WV} {n N:Nat} (ok:y.ok w3) (low:Below w2.heap.size w2 w3) {Z:List Value} (hZ:Lay w3 N Z) (hl:Z.length=y.cells.length) (hN:w2.heap.size≤N) (oN:y.off N):RBox w2 ((putAll w3 N 0 y.cells).alloc (.cells (errK.cells (List.replicate n (0:Int))).toArray 43)) y n N (putAll w3 N 0 y.cells).heap.size:=by
 have bt:=putAll_but N y.cells w3 0
 have b2:=belowA (Below.refl _ (putAll w3 N 0 y.cells)) (.cells (errK.cells (List.replicate n (0:Int))).toArray 43)
 have ok1:=ok.but bt.but oN
 have l1:=hZ.fill hl
 have s:=low.size
 have s1:=bt.but.size
 have:=l1.lt
 exact ⟨l1.below b2,ok1.below b2 (Nat.le_refl _),oN,ok1.off (Nat.le_refl _),MineR.made errK _ (0:Int) (fun _=>trivial) n _,by omega,hN,by omega,belowT (low.trans (bt.below hN)) b2⟩
theorem putAll_size (g:Nat):∀ (vs:List Value) (w:World) (o:Nat),(putAll w g o vs).heap.size=w.heap.size
 |[],_,_=>rfl
 |v :: r,w,o=>by rw [putAll,putAll_size g r];simp [World.setCell]
theorem rbox_n' {w2 w3:World} {y:WV} {n N:Nat} (ok:y.ok w3) (low:Below w2.heap.size w2 w3) {Z:List Value} (hZ:Lay w3 N Z) (hl:Z.length=y.cells.length) (hN:w2.heap.size≤N) (oN:y.off N):RBox w2 ((putAll w3 N 0 y.cells).alloc (.cells (errK.cells (List.replicate n (0:Int))).toArray 43)) y n N w3.heap.size:=by
 have q:=rbox_n (n:=n) ok low hZ hl hN oN
 rwa [putAll_size] at q
theorem rbox_s {w2 w3:World} {y:WV} {n S:Nat} (ok:y.ok w3) (low:Below w2.heap.size w2 w3) (hm:MineR errK 43 w3 S (List.replicate n (0:Int))) (hS:w2.heap.size≤S) (oS:y.off S):RBox w2 (w3.alloc (.cells y.cells.toArray 40)) y n w3.heap.size S:=by
 have b1:=belowA (Below.refl _ w3) (.cells y.cells.toArray 40)
 have s:=low.size
 have:=hm.lay.lt
 exact ⟨Lay.made w3 y.cells _,ok.below b1 (Nat.le_refl _),ok.off (Nat.le_refl _),oS,hm.below b1,by omega,by omega,hS,belowT low b1⟩
theorem rbox_2 {w2 w3:World} {y:WV} {n N S:Nat} (ok:y.ok w3) (low:Below w2.heap.size w2 w3) {Z:List Value} (hZ:Lay w3 N Z) (hl:Z.length=y.cells.length) (hm:MineR errK 43 w3 S (List.replicate n (0:Int))) (hN:w2.heap.size≤N) (hS:w2.heap.size≤S) (hne:N≠S) (oN:y.off N) (oS:y.off S):RBox w2 (putAll w3 N 0 y.cells) y n N S:=
 ⟨hZ.fill hl,ok.but (putAll_but N y.cells w3 0).but oN,oN,oS,hm.away y.cells 0 hne (fun _ _=>trivial),hne,hN,hS,low.trans ((putAll_but N y.cells w3 0).below hN)⟩
theorem rbox_c {w2 w3:World} {y:WV} {n N:Nat} (ok:y.ok w3) (low:Below w2.heap.size w2 w3) {Z:List Value} (hZ:Lay w3 N Z) (hl:Z.length=y.cells.length) (hN:w2.heap.size≤N) (oN:y.off N):RBox w2 (putAll (w3.alloc (.cells (errK.cells (List.replicate n (0:Int))).toArray 43)) N 0 y.cells) y n N w3.heap.size:=by
 have b1:=belowA (Below.refl _ w3) (.cells (errK.cells (List.replicate n (0:Int))).toArray 43)
 have:=hZ.lt
 exact rbox_2 (ok.below b1 (Nat.le_refl _)) (belowT low b1) (hZ.below b1) hl (MineR.made errK _ (0:Int) (fun _=>trivial) n w3) hN low.size (by omega) oN (ok.off (Nat.le_refl _))
theorem MineR.putE {t:TypeId} {w:World} {S:Nat} {E:List Int} (h:MineR errK t w S E) {j:Nat} (hj:j < E.length) (e:Int):MineR errK t (w.setCell ⟨S,j,none⟩ (.int .i64 e)) S (E.set j e):=by
 have q:=h.put hj (x:=e) trivial (fun _ _=>trivial) trivial
 have e1:putAll w S (j * errK.k) (errK.cs e)=w.setCell ⟨S,j,none⟩ (.int .i64 e):=by
  show putAll w S (j * 1) [.int .i64 e]=_
  rw [Nat.mul_one]
  rfl
 rw [e1] at q
 exact q
theorem take_setE {E:List Int} {j:Nat} (hj:j < E.length) (e:Int):(E.set j e).take (j + 1)=E.take j++[e]:=by
 rw [List.take_succ_eq_append_getElem (by simpa using hj),List.take_set_of_le (Nat.le_refl j)]
 simp
theorem run_one {x:PW} {l:List PX} {j:Nat} {e:PX} (hx:checkW (runF x (l.take j)).1=0) (he:l[j]?=some e):runF x (l.take (j + 1))=(if (happenW (runF x (l.take j)).1 e).2=0 then (happenW (runF x (l.take j)).1 e).1 else (runF x (l.take j)).1,(runF x (l.take j)).2++[(happenW (runF x (l.take j)).1 e).2]):=by
 obtain ⟨g1,g2⟩:=List.getElem?_eq_some_iff.1 he
 rw [List.take_succ_eq_append_getElem g1,g2,run_app,runF_step _ _ _ hx]
 rfl
theorem WRun_c (x:WV) (a:Option Addr) (n c:Nat) (L:List XV) (w:World) (hE:Env w) (hx:x.ok w) (hs:x.sm) (hL:Rows' hapK w a n c L):Calls Tryz.prog 39 #[x.v,.slice a n c] w fun e w'=>RunNew (runW x.p (L.map XV.p)) w e w':=by
 have HCK:=hide (fun w' h1 h2=>WCheck_c x w' h1 h2 hs)
 have hLn:=hL.len
 have hmax:=hL.max
 have hle:=hL.le
 have HC:Hid (runW x.p (L.map XV.p)=if checkW x.p≠0 then (zeroW,[],checkW x.p) else if 120 < n then (zeroW,[],2) else ((runF x.p (L.map XV.p)).1,(runF x.p (L.map XV.p)).2,0)):=hide (by unfold runW;rw [List.length_map,hLn])
 generalize runW x.p (L.map XV.p)=cw at *
 have HRR:=hide (fun (k:checkW x.p=0)=>k)
 generalize hck:checkW x.p=ck at *
 have HCK0:=hide hck
 clear hck
 have HL0:=hide hL
 have HE0:=hide hE
 obtain ⟨x0,x1,bw⟩:=two_boxes w x.cells [.slice none 0 0,.slice none 0 0,.int .i64 0,.int .i64 0,.slice none 0 0,.slice none 0 0,.slice none 0 0,.bool false,.slice none 0 0,.slice none 0 0] 40 40
 replace hx:=hx.below bw (Nat.le_refl _)
 replace hL:=hL.below bw (Nat.le_refl _)
 replace hE:=hE.below bw
 go_enter Tryz.func39,Tryz.ntmps39
 go_wp2_with fail
 generalize (w.alloc (.cells x.cells.toArray 40)).alloc (.cells [.slice none 0 0,.slice none 0 0,.int .i64 0,.int .i64 0,.slice none 0 0,.slice none 0 0,.slice none 0 0,.bool false,.slice none 0 0,.slice none 0 0].toArray 40)=w1 at *
 refine (HCK.out _ hE hx).mono ?_
 rintro e w2 ⟨rfl,hb⟩
 replace x0:=x0.below hb
 replace x1:=x1.below hb
 replace hx:=hx.below hb (Nat.le_refl _)
 replace hL:=hL.below hb (Nat.le_refl _)
 replace hE:=hE.below hb
 replace bw:=belowT bw hb
 clear hb HCK
 have HZE:Hid (∀ (r:Int) (W:World),Below w.heap.size w W→Lay W (w.heap.size + 1) WV.zero.cells→True):=hide (fun _ _ _ _=>trivial)
 cases h0:ck !=0
 ·rw [if_neg (by simpa using h0)] at HC
  by_cases h2:120 < n
  ·rw [if_pos h2] at HC
   have h2':(120:Int) < (n:Int):=by omega
   obtain ⟨e0,e1,e2,e3,e4,e5,e6,e7,e8,e9⟩:=Lay.ten (x:=WV.zero) x1
   have ice:=x1.ice
   dsimp only [WV.zero,HV.zero,DV.zero,KV.zero,zeroB] at e0 e1 e2 e3 e4 e5 e6 e7 e8 e9
   have bt:=putAll_but (w.heap.size + 1) WV.zero.cells w2 0
   have zB:=x1.fill (vs:=WV.zero.cells) rfl
   have b9:=bw.trans (bt.below (B:=w.heap.size) (by omega))
   dsimp only [putAll,Nat.reduceAdd,WV.zero,HV.zero,DV.zero,KV.zero,zeroB] at zB b9
   clear bt
   go_wp2
   obtain ⟨z0,z1,z2,z3,z4,z5,z6,z7,z8,z9⟩:=Lay.ten (x:=WV.zero) zB
   dsimp only [WV.zero,HV.zero,DV.zero,KV.zero,zeroB] at z0 z1 z2 z3 z4 z5 z6 z7 z8 z9
   exact bodyPost_ret (v:=.tuple #[.agg #[.slice none 0 0,.slice none 0 0,.int .i64 0,.int .i64 0,.slice none 0 0,.slice none 0 0,.slice none 0 0,.bool false,.slice none 0 0,.slice none 0 0],.slice none 0 0,.int .i64 2]) (by simp [results,Tryz.results39,go_sem,z0,z1,z2,z3,z4,z5,z6,z7,z8,z9]) rfl
    ⟨⟨WV.zero,none,0,0,by rw [HC.out];rfl,WV.zero_ok _,WV.zero_sm,WV.zero_new _,by rw [HC.out];exact Ints.nilSlice _,.inl rfl,by rw [HC.out];rfl⟩,b9⟩
  ·rw [if_neg h2] at HC
   have h2':¬ (120:Int) < (n:Int):=by omega
   have hxr:checkW x.p=0:=by rw [HCK0.out];simpa using h0
   have HCP:=hide (fun w' h=>pworld_c x w' h (small_of hx hxr))
   have HX:=hide hxr
   have hmk:=mkE n (by omega)
   have HM:=hide (fun w'=>MineR.made errK 43 (0:Int) (fun _=>trivial) n w')
   obtain ⟨xs,hxs⟩:∃ xs:Array Value,xs=(errK.cells (List.replicate n (0:Int))).toArray:=⟨_,rfl⟩
   rw [← hxs] at hmk
   have HXS:=hide hxs
   clear hxs
   obtain ⟨q0,q1,q2,q3,q4,q5,q6,q7,q8,q9⟩:=x0.ten
   have hwl:=x0.lt
   have n1:w.heap.size≠w2.heap.size:=by omega
   have n2:w2.heap.size≠w.heap.size:=by omega
   have n3:w.heap.size≠w2.heap.size + 1:=by omega
   have n4:w2.heap.size + 1≠w.heap.size:=by omega
   clear hxr
   go_upto_region 6 with fail
   go_cut [8,9] (fun p s wx=>∃ (N S:Nat) (y:WV),p=.pointer (some ⟨N,0,none⟩)∧s=.slice (some ⟨S,0,none⟩) n n∧RBox w2 wx y n N S∧y.p=x.p∧y.new w2.heap.size)
   case first=>
    go_region_held3 (fun w'=>w'.cell? ⟨w.heap.size,0,none⟩=some (.slice x.h.d.za x.h.d.zn x.h.d.zc)∧w'.cell? ⟨w.heap.size,1,none⟩=some (.slice x.h.d.ka x.h.d.kn x.h.d.kc)∧w'.cell? ⟨w.heap.size,2,none⟩=some (.int .i64 x.h.d.b.h)∧w'.cell? ⟨w.heap.size,3,none⟩=some (.int .i64 x.h.d.b.t)∧w'.cell? ⟨w.heap.size,4,none⟩=some (.slice x.h.a x.h.n x.h.c)∧w'.cell? ⟨w.heap.size,5,none⟩=some (.slice x.d.a x.d.n x.d.c)∧w'.cell? ⟨w.heap.size,6,none⟩=some (.slice x.d.b x.d.m x.d.d)∧w'.cell? ⟨w.heap.size,7,none⟩=some (.bool x.u)∧w'.cell? ⟨w.heap.size,8,none⟩=some (.slice x.na x.nn x.nc)∧w'.cell? ⟨w.heap.size,9,none⟩=some (.slice x.ma x.mn x.mc)) ((first|(go_simp;done)|(simp [*,World.cell?_alloc_at,World.cell?_alloc_past,World.cell?_alloc_some,World.cell?_setCell_far];done))) (first|(go_at_call 63;refine (HCP.out _ (by refine WV.ok.below hx (B:=w2.heap.size) ?_ (Nat.le_refl _);clear bw;(repeat first|exact bel0|assumption|refine bel1 ?_|refine bel2 ?_|refine bel3 ?_|refine belowT ?_ (by assumption)|refine bel5 ?_ (by simp;try omega)))).mono ?_;rintro e w3 ⟨⟨y,g,q,rfl,cy⟩,hb3⟩;(dsimp only [WV.v]);(have k0:=keepc hb3 (p:=⟨w.heap.size,0,none⟩) (u:=.slice x.h.d.za x.h.d.zn x.h.d.zc) (by (first|(go_simp;done)|(simp [*,World.cell?_alloc_at,World.cell?_alloc_past,World.cell?_alloc_some,World.cell?_setCell_far];done))));(have k1:=keepc hb3 (p:=⟨w.heap.size,1,none⟩) (u:=.slice x.h.d.ka x.h.d.kn x.h.d.kc) (by (first|(go_simp;done)|(simp [*,World.cell?_alloc_at,World.cell?_alloc_past,World.cell?_alloc_some,World.cell?_setCell_far];done))));(have k2:=keepc hb3 (p:=⟨w.heap.size,2,none⟩) (u:=.int .i64 x.h.d.b.h) (by (first|(go_simp;done)|(simp [*,World.cell?_alloc_at,World.cell?_alloc_past,World.cell?_alloc_some,World.cell?_setCell_far];done))));(have k3:=keepc hb3 (p:=⟨w.heap.size,3,none⟩) (u:=.int .i64 x.h.d.b.t) (by (first|(go_simp;done)|(simp [*,World.cell?_alloc_at,World.cell?_alloc_past,World.cell?_alloc_some,World.cell?_setCell_far];done))));(have k4:=keepc hb3 (p:=⟨w.heap.size,4,none⟩) (u:=.slice x.h.a x.h.n x.h.c) (by (first|(go_simp;done)|(simp [*,World.cell?_alloc_at,World.cell?_alloc_past,World.cell?_alloc_some,World.cell?_setCell_far];done))));(have k5:=keepc hb3 (p:=⟨w.heap.size,5,none⟩) (u:=.slice x.d.a x.d.n x.d.c) (by (first|(go_simp;done)|(simp [*,World.cell?_alloc_at,World.cell?_alloc_past,World.cell?_alloc_some,World.cell?_setCell_far];done))));(have k6:=keepc hb3 (p:=⟨w.heap.size,6,none⟩) (u:=.slice x.d.b x.d.m x.d.d) (by (first|(go_simp;done)|(simp [*,World.cell?_alloc_at,World.cell?_alloc_past,World.cell?_alloc_some,World.cell?_setCell_far];done))));(have k7:=keepc hb3 (p:=⟨w.heap.size,7,none⟩) (u:=.bool x.u) (by (first|(go_simp;done)|(simp [*,World.cell?_alloc_at,World.cell?_alloc_past,World.cell?_alloc_some,World.cell?_setCell_far];done))));(have k8:=keepc hb3 (p:=⟨w.heap.size,8,none⟩) (u:=.slice x.na x.nn x.nc) (by (first|(go_simp;done)|(simp [*,World.cell?_alloc_at,World.cell?_alloc_past,World.cell?_alloc_some,World.cell?_setCell_far];done))));(have k9:=keepc hb3 (p:=⟨w.heap.size,9,none⟩) (u:=.slice x.ma x.mn x.mc) (by (first|(go_simp;done)|(simp [*,World.cell?_alloc_at,World.cell?_alloc_past,World.cell?_alloc_some,World.cell?_setCell_far];done))));(have b23:Below w2.heap.size w2 w3:=by clear bw;(repeat first|exact bel0|assumption|refine bel1 ?_|refine bel2 ?_|refine bel3 ?_|refine belowT ?_ (by assumption)|refine bel5 ?_ (by simp;try omega)));(have s3:=b23.size);(have m1:w.heap.size≠w3.heap.size:=by omega);(have m2:w3.heap.size≠w.heap.size:=by omega);(have m3:w.heap.size≠w3.heap.size + 1:=by omega);(have m4:w3.heap.size + 1≠w.heap.size:=by omega);(first|(have xZ:=Lay.below (Lay.drew (Lay.below (Lay.made w2 [.slice none 0 0,.slice none 0 0,.int .i64 0,.int .i64 0,.slice none 0 0,.slice none 0 0,.slice none 0 0,.bool false,.slice none 0 0,.slice none 0 0] 40) (belowA (Below.refl _ _) (.cells xs 43)))) hb3)|(have xZ:=Lay.below (Lay.drew (Lay.made1 w2 (.cells xs 43) [.slice none 0 0,.slice none 0 0,.int .i64 0,.int .i64 0,.slice none 0 0,.slice none 0 0,.slice none 0 0,.bool false,.slice none 0 0,.slice none 0 0] 40)) hb3)|(have xZ:=Lay.below (Lay.drew (Lay.made w2 [.slice none 0 0,.slice none 0 0,.int .i64 0,.int .i64 0,.slice none 0 0,.slice none 0 0,.slice none 0 0,.bool false,.slice none 0 0,.slice none 0 0] 40)) hb3)|(have xZ:=Lay.below (Lay.below (Lay.made w2 [.slice none 0 0,.slice none 0 0,.int .i64 0,.int .i64 0,.slice none 0 0,.slice none 0 0,.slice none 0 0,.bool false,.slice none 0 0,.slice none 0 0] 40) (belowA (Below.refl _ _) (.cells xs 43))) hb3)|(have xZ:=Lay.below (Lay.made1 w2 (.cells xs 43) [.slice none 0 0,.slice none 0 0,.int .i64 0,.int .i64 0,.slice none 0 0,.slice none 0 0,.slice none 0 0,.bool false,.slice none 0 0,.slice none 0 0] 40) hb3)|(have xZ:=Lay.below (Lay.made w2 [.slice none 0 0,.slice none 0 0,.int .i64 0,.int .i64 0,.slice none 0 0,.slice none 0 0,.slice none 0 0,.bool false,.slice none 0 0,.slice none 0 0] 40) hb3)|skip);(try have z0:=xZ.cell 0 _ rfl);(try have y0:=xZ.ice 0);(try have p0:=past1 z0);(try have r0:=pastf1 z0 y0);(try have z1:=xZ.cell 1 _ rfl);(try have y1:=xZ.ice 1);(try have p1:=past1 z1);(try have r1:=pastf1 z1 y1);(try have z2:=xZ.cell 2 _ rfl);(try have y2:=xZ.ice 2);(try have p2:=past1 z2);(try have r2:=pastf1 z2 y2);(try have z3:=xZ.cell 3 _ rfl);(try have y3:=xZ.ice 3);(try have p3:=past1 z3);(try have r3:=pastf1 z3 y3);(try have z4:=xZ.cell 4 _ rfl);(try have y4:=xZ.ice 4);(try have p4:=past1 z4);(try have r4:=pastf1 z4 y4);(try have z5:=xZ.cell 5 _ rfl);(try have y5:=xZ.ice 5);(try have p5:=past1 z5);(try have r5:=pastf1 z5 y5);(try have z6:=xZ.cell 6 _ rfl);(try have y6:=xZ.ice 6);(try have p6:=past1 z6);(try have r6:=pastf1 z6 y6);(try have z7:=xZ.cell 7 _ rfl);(try have y7:=xZ.ice 7);(try have p7:=past1 z7);(try have r7:=pastf1 z7 y7);(try have z8:=xZ.cell 8 _ rfl);(try have y8:=xZ.ice 8);(try have p8:=past1 z8);(try have r8:=pastf1 z8 y8);(try have z9:=xZ.cell 9 _ rfl);(try have y9:=xZ.ice 9);(try have p9:=past1 z9);(try have r9:=pastf1 z9 y9);(try have nB1:=Nat.ne_of_lt xZ.lt);(try have nB2:=(Nat.ne_of_lt xZ.lt).symm)))
    ·go_wp2_with fail
     go_meet
     case rel=>
      have e:=HXS.out
      subst e
      have hyl:=lens_of cy.p HX.out
      obtain ⟨oky,ny⟩:=cy.fin hyl.1 hyl.2
      have ny0:y.new w2.heap.size:=ny.mono (by first|omega|(simp;done)|(simp;omega))
      have q:=rbox_ma (n:=n) oky b23
      try dsimp only [putAll,Nat.reduceAdd] at q
      with_reducible exact ⟨_,_,y,rfl,rfl,q,cy.p,ny0⟩
    ·go_wp2_with fail
     go_meet
     case rel=>
      have e:=HXS.out
      subst e
      have hyl:=lens_of cy.p HX.out
      obtain ⟨oky,ny⟩:=cy.fin hyl.1 hyl.2
      have ny0:y.new w2.heap.size:=ny.mono (by first|omega|(simp;done)|(simp;omega))
      have q:=rbox_am (n:=n) oky b23
      try dsimp only [putAll,Nat.reduceAdd] at q
      with_reducible exact ⟨_,_,y,rfl,rfl,q,cy.p,ny0⟩
    ·go_wp2_with fail
     go_meet
     case rel=>
      have e:=HXS.out
      subst e
      have hyl:=lens_of cy.p HX.out
      obtain ⟨oky,ny⟩:=cy.fin hyl.1 hyl.2
      have ny0:y.new w2.heap.size:=ny.mono (by first|omega|(simp;done)|(simp;omega))
      have q:=rbox_am (n:=n) oky b23
      try dsimp only [putAll,Nat.reduceAdd] at q
      with_reducible exact ⟨_,_,y,rfl,rfl,q,cy.p,ny0⟩
    ·go_wp2_with fail
     go_meet
     case rel=>
      have e:=HXS.out
      subst e
      have hyl:=lens_of cy.p HX.out
      obtain ⟨oky,ny⟩:=cy.fin hyl.1 hyl.2
      have ny0:y.new w2.heap.size:=ny.mono (by first|omega|(simp;done)|(simp;omega))
      have hm:=(HM.out w2).below (w':=w3) (by (try clear bw);(repeat first|exact bel0|assumption|refine bel1 ?_|refine bel2 ?_|refine bel3 ?_|refine belowT ?_ (by assumption)|refine bel5 ?_ (by simp;try omega)))
      have q:=rbox_s (n:=n) oky b23 hm (Nat.le_refl _) (ny _ (by first|omega|(simp;done)|(simp;omega)))
      try dsimp only [putAll,Nat.reduceAdd] at q
      with_reducible exact ⟨_,_,y,rfl,rfl,q,cy.p,ny0⟩
    ·go_wp2_with fail
     go_meet
     case rel=>
      have e:=HXS.out
      subst e
      have hyl:=lens_of cy.p HX.out
      obtain ⟨oky,ny⟩:=cy.fin hyl.1 hyl.2
      have ny0:y.new w2.heap.size:=ny.mono (by first|omega|(simp;done)|(simp;omega))
      have hm:=(HM.out w2).below (w':=w3) (by (try clear bw);(repeat first|exact bel0|assumption|refine bel1 ?_|refine bel2 ?_|refine bel3 ?_|refine belowT ?_ (by assumption)|refine bel5 ?_ (by simp;try omega)))
      have q:=rbox_2 (n:=n) oky b23 xZ rfl hm (by first|omega|(simp;done)|(simp;omega)) (by first|omega|(simp;done)|(simp;omega)) (by first|omega|(simp;done)|(simp;omega)) (ny _ (by first|omega|(simp;done)|(simp;omega))) (ny _ (by first|omega|(simp;done)|(simp;omega)))
      try dsimp only [putAll,Nat.reduceAdd] at q
      with_reducible exact ⟨_,_,y,rfl,rfl,q,cy.p,ny0⟩
    ·go_wp2_with fail
     go_meet
     case rel=>
      have e:=HXS.out
      subst e
      have hyl:=lens_of cy.p HX.out
      obtain ⟨oky,ny⟩:=cy.fin hyl.1 hyl.2
      have ny0:y.new w2.heap.size:=ny.mono (by first|omega|(simp;done)|(simp;omega))
      have q:=rbox_c (n:=n) oky b23 xZ rfl (Nat.le_refl _) (ny _ (by first|omega|(simp;done)|(simp;omega)))
      try dsimp only [putAll,Nat.reduceAdd] at q
      with_reducible exact ⟨_,_,y,rfl,rfl,q,cy.p,ny0⟩
    ·go_wp2_with fail
     go_meet
     case rel=>
      have e:=HXS.out
      subst e
      have hyl:=lens_of cy.p HX.out
      obtain ⟨oky,ny⟩:=cy.fin hyl.1 hyl.2
      have ny0:y.new w2.heap.size:=ny.mono (by first|omega|(simp;done)|(simp;omega))
      have q:=rbox_n' (n:=n) oky b23 xZ rfl (Nat.le_refl _) (ny _ (by first|omega|(simp;done)|(simp;omega)))
      try dsimp only [putAll,Nat.reduceAdd] at q
      with_reducible exact ⟨_,_,y,rfl,rfl,q,cy.p,ny0⟩
    ·go_wp2_with fail
     go_meet
     case rel=>
      have e:=HXS.out
      subst e
      have hyl:=lens_of cy.p HX.out
      obtain ⟨oky,ny⟩:=cy.fin hyl.1 hyl.2
      have ny0:y.new w2.heap.size:=ny.mono (by first|omega|(simp;done)|(simp;omega))
      have hm:=(HM.out (w2.alloc (.cells [.slice none 0 0,.slice none 0 0,.int .i64 0,.int .i64 0,.slice none 0 0,.slice none 0 0,.slice none 0 0,.bool false,.slice none 0 0,.slice none 0 0].toArray 40))).below (w':=w3) (by (try clear bw);(repeat first|exact bel0|assumption|refine bel1 ?_|refine bel2 ?_|refine bel3 ?_|refine belowT ?_ (by assumption)|refine bel5 ?_ (by simp;try omega)))
      simp only [World.size_alloc] at hm
      have q:=rbox_2 (n:=n) oky b23 xZ rfl hm (by first|omega|(simp;done)|(simp;omega)) (by first|omega|(simp;done)|(simp;omega)) (by first|omega|(simp;done)|(simp;omega)) (ny _ (by first|omega|(simp;done)|(simp;omega))) (ny _ (by first|omega|(simp;done)|(simp;omega)))
      try dsimp only [putAll,Nat.reduceAdd] at q
      with_reducible exact ⟨_,_,y,rfl,rfl,q,cy.p,ny0⟩
   case rest=>
   obtain ⟨N,S,y,rfl,rfl,rb,hyp,hyn⟩:=hcut
   generalize wc=w3 at *
   obtain ⟨lN,oky,oN,oS,mS,hNS,hN2,hS2,b23⟩:=rb
   have hl1:=x1.lt
   replace x1:=x1.below b23
   replace hL:=hL.below b23 (Nat.le_refl _)
   replace hE:=hE.below b23
   replace bw:=belowT bw b23
   have hyr:checkW y.p=0:=by rw [hyp];exact HX.out
   have s23:=b23.size
   clear b23 q0 q1 q2 q3 q4 q5 q6 q7 q8 q9 n1 n2 n3 n4 HCP hmk HM HXS x0 hx
   go_wp2
   go_loopw [31] (fun i wr=>∃ wz:World,wz=wr∧∃ (j:Nat) (z:WV) (E:List Int),j≤n∧i=.int .i64 (j:Nat)∧Lay wz N z.cells∧z.ok wz∧checkW z.p=0∧z.new w2.heap.size∧z.off N∧z.off S∧MineR errK 43 wz S E∧E.length=n∧E.take j=(runF x.p ((L.map XV.p).take j)).2∧z.p=(runF x.p ((L.map XV.p).take j)).1∧Lay wz (w.heap.size + 1) [.slice none 0 0,.slice none 0 0,.int .i64 0,.int .i64 0,.slice none 0 0,.slice none 0 0,.slice none 0 0,.bool false,.slice none 0 0,.slice none 0 0]∧Below w.heap.size w wz∧w2.heap.size≤wz.heap.size) (fun i _=>n - (intOf i).toNat)
   case atStart=>exact ⟨_,rfl,0,y,List.replicate n 0,by omega,rfl,lN,oky,hyr,hyn,oN,oS,mS,by simp,by simp [runF],by simp [runF,hyp],x1,bw,s23⟩
   case round=>
    obtain ⟨wr,rfl,j,z,E,hj,rfl,lz,okz,hzr,hzn,hzN,hzS,mE,hEl,hEt,hzp,xr,hbr,hw2r⟩:=hrel
    have hLr:=HL0.out.below hbr (Nat.le_refl _)
    have hEr:=HE0.out.below hbr
    clear lN oky hyn oN oS mS x1 hL hE bw hyr hyp
    have hS1:S≠w.heap.size + 1:=by omega
    have hN1:w.heap.size + 1≠N:=by omega
    by_cases hlt:j < n
    ·obtain ⟨b,off,v,rfl,hv,hvk,hbl,kv⟩:=hLr.at hlt
     have hvL:(L.map XV.p)[j]?=some v.p:=by rw [List.getElem?_map,hv];rfl
     have HRO:=hide (run_one (x:=x.p) (l:=L.map XV.p) (j:=j) (e:=v.p) (by rw [← hzp];exact hzr) hvL)
     have HST:=hide (fun w' h1 h2 h3=>step_c z v w' h1 h2 hzr h3)
     have HRT:Hid ((happenW z.p v.p).2=0→checkW (happenW z.p v.p).1=0):=hide (fun k=>by
      have e:doW z.p v.p=happenW z.p v.p:=by unfold doW;rw [if_neg (by simp [hzr])]
      have:=(world_keeps (x:=z.p) (e:=v.p) (by rw [e];exact k)).2.1
      rwa [e] at this)
     rw [← hzp] at HRO
     generalize happenW z.p v.p=hp at *
     have HEL:=hide hEl
     have HET:=hide hEt
     have HZP:=hide hzp
     have HZR:=hide hzr
     obtain ⟨y0,y1,y2,y3,y4,y5,y6,y7⟩:=XV.lay (b:=b) (o:=off + j * 8) (fun i u h=>kv i u h)
     have hlt':(j:Int) < (n:Int):=by omega
     have hj0:(0:Int)≤(j:Int):=by omega
     clear hv kv hvL hEl hEt hzp hzr
     go_upto_region 10 with fail
     have bn:=belowA (Below.refl _ wr) (.cells [.int .i64 v.k,.int .i64 v.w,.int .i64 v.n,.int .i64 v.c.k,.int .i64 v.c.z,.int .i64 v.c.n,.int .i64 v.c.at',.slice v.ca v.cn v.cc].toArray 75)
     have xv:=Lay.made wr [.int .i64 v.k,.int .i64 v.w,.int .i64 v.n,.int .i64 v.c.k,.int .i64 v.c.z,.int .i64 v.c.n,.int .i64 v.c.at',.slice v.ca v.cn v.cc] 75
     replace lz:=lz.below bn
     replace okz:=okz.below bn (Nat.le_refl _)
     replace mE:=mE.below bn
     replace xr:=xr.below bn
     replace hLr:=hLr.below bn (Nat.le_refl _)
     replace hEr:=hEr.below bn
     replace hvk:=Ints.below hvk bn (Nat.le_refl _)
     replace hbr:=belowT hbr bn
     clear bn y0 y1 y2 y3 y4 y5 y6 y7
     generalize wr.alloc (.cells [.int .i64 v.k,.int .i64 v.w,.int .i64 v.n,.int .i64 v.c.k,.int .i64 v.c.z,.int .i64 v.c.n,.int .i64 v.c.at',.slice v.ca v.cn v.cc].toArray 75)=w5 at *
     have hT:=xv.lt
     generalize wr.heap.size=T at *
     obtain ⟨q0,q1,q2,q3,q4,q5,q6,q7,q8,q9⟩:=lz.ten
     have v0:=xv.cell 0 _ rfl
     have v1:=xv.cell 1 _ rfl
     have v2:=xv.cell 2 _ rfl
     have v3:=xv.cell 3 _ rfl
     have v4:=xv.cell 4 _ rfl
     have v5:=xv.cell 5 _ rfl
     have v6:=xv.cell 6 _ rfl
     have v7:=xv.cell 7 _ rfl
     have hN5:=lz.lt
     have hS5:=mE.lay.lt
     dsimp only [XV.v] at HST
     go_wp2_with fail
     refine (HST.out _ hEr okz hvk).mono ?_
     rintro e w6 ⟨⟨z',rfl,okz',smz,nz',pz'⟩,hb⟩
     have s56:=hb.size
     replace lz:=lz.below hb
     replace okz:=okz.below hb (Nat.le_refl _)
     replace mE:=mE.below hb
     replace xr:=xr.below hb
     replace hbr:=belowT hbr hb
     clear hb q0 q1 q2 q3 q4 q5 q6 q7 q8 q9 v0 v1 v2 v3 v4 v5 v6 v7 xv hEr hLr hvk HST
     go_upto_region 11 with fail
     have bn:=belowA (Below.refl _ w6) (.cells z'.cells.toArray 40)
     have xz:=Lay.made w6 z'.cells 40
     replace lz:=lz.below bn
     replace okz:=okz.below bn (Nat.le_refl _)
     replace okz':=okz'.below bn (Nat.le_refl _)
     replace mE:=mE.below bn
     replace xr:=xr.below bn
     replace hbr:=belowT hbr bn
     have s67:=bn.size
     clear bn
     generalize w6.alloc (.cells z'.cells.toArray 40)=w7 at *
     have hT2:=xz.lt
     generalize w6.heap.size=T2 at *
     have hNT:N≠T2:=by omega
     have hTN:T2≠N:=by omega
     have hST:S≠T2:=by omega
     have hSN:S≠N:=fun e=>hNS e.symm
     cases h0:hp.2==0
     ·have h00:¬ (hp.2=0):=by simpa using h0
      rw [if_neg h00] at HRO
      obtain ⟨ua,a0⟩:∃ u,w7.cell? ⟨S,j,none⟩=some u:=by
       have:=mE.at (i:=j) (j:=0) (by rw [HEL.out];exact hlt) (by decide)
       simpa [errK] using this
      have ai:=mE.lay.ice
      have hjE:j < E.length:=by rw [HEL.out];exact hlt
      have m9:=mE.putE hjE hp.2
      have bS:=(ButI.refl S w7).step j (.int .i64 hp.2)
      have l9:=lz.butI bS hNS
      have o9:=(okz).but bS.but hzS
      have r9:=xr.butI bS (by omega)
      have b9:=(hbr).trans (bS.below (B:=w.heap.size) (by omega))
      have s9:=bS.but.size
      go_wp2
      exact ⟨⟨_,rfl,j + 1,z,E.set j hp.2,by omega,by go_num,l9,o9,HZR.out,hzn,hzN,hzS,m9,by rw [List.length_set];exact HEL.out,by rw [take_setE hjE,HET.out,HRO.out],by rw [HRO.out],r9,b9,by omega⟩,by simp [intOf];omega⟩
     ·have h00:hp.2=0:=by simpa using h0
      have hrt:=HRT.out h00
      rw [if_pos h00] at HRO
      have H00:=hide h00
      clear h00
      obtain ⟨q0,q1,q2,q3,q4,q5,q6,q7,q8,q9⟩:=lz.ten
      obtain ⟨t0,t1,t2,t3,t4,t5,t6,t7,t8,t9⟩:=xz.ten
      have li:=lz.ice
      have hnw8:z'.new w2.heap.size:=nz'.mono (by omega)
      have bN:=putAll_but N z'.cells w7 0
      have l8:=lz.fill (vs:=z'.cells) rfl
      have m8:=mE.away z'.cells 0 hNS (fun _ _=>trivial)
      have o8:=okz'.but bN.but (nz' _ hN5)
      have r8:=xr.butI bN hN1
      have b8:=hbr.trans (bN.below (B:=w.heap.size) (by omega))
      have s8:=bN.but.size
      obtain ⟨w8,hw8⟩:∃ o,o=putAll w7 N 0 z'.cells:=⟨_,rfl⟩
      rw [← hw8] at l8 m8 o8 r8 b8 s8
      go_upto_region 13 with fail
      dsimp only [putAll,Nat.reduceAdd] at hw8
      rw [← hw8]
      clear hw8 q0 q1 q2 q3 q4 q5 q6 q7 q8 q9 t0 t1 t2 t3 t4 t5 t6 t7 t8 t9 li bN lz mE xr hbr xz okz okz'
      obtain ⟨ua,a0⟩:∃ u,w8.cell? ⟨S,j,none⟩=some u:=by
       have:=m8.at (i:=j) (j:=0) (by rw [HEL.out];exact hlt) (by decide)
       simpa [errK] using this
      have ai:=m8.lay.ice
      have hjE:j < E.length:=by rw [HEL.out];exact hlt
      have m9:=m8.putE hjE hp.2
      have bS:=(ButI.refl S w8).step j (.int .i64 hp.2)
      have l9:=l8.butI bS hNS
      have o9:=(o8).but bS.but (nz' _ hS5)
      have r9:=r8.butI bS (by omega)
      have b9:=(b8).trans (bS.below (B:=w.heap.size) (by omega))
      have s9:=bS.but.size
      go_wp2
      exact ⟨⟨_,rfl,j + 1,z',E.set j hp.2,by omega,by go_num,l9,o9,(by rw [pz'];exact hrt),hnw8,(nz' _ hN5),(nz' _ hS5),m9,by rw [List.length_set];exact HEL.out,by rw [take_setE hjE,HET.out,HRO.out],by rw [HRO.out];exact pz',r9,b9,by omega⟩,by simp [intOf];omega⟩
    ·obtain rfl:j=n:=by omega
     rw [List.take_of_length_le (by omega)] at hEt
     rw [List.take_of_length_le (by rw [List.length_map];omega)] at hEt hzp
     have okz9:=okz
     have smz:=sm_of okz hzr
     have hall:=(runF_right (L.map XV.p) x.p HX.out).2
     have iE:=mE.ints hEl (by omega) (by rw [hEt];exact hall)
     obtain ⟨q0,q1,q2,q3,q4,q5,q6,q7,q8,q9⟩:=lz.ten
     obtain ⟨e0,e1,e2,e3,e4,e5,e6,e7,e8,e9⟩:=Lay.ten (x:=WV.zero) xr
     have ice:=xr.ice
     dsimp only [WV.zero,HV.zero,DV.zero,KV.zero,zeroB] at e0 e1 e2 e3 e4 e5 e6 e7 e8 e9
     have bt:=putAll_but (w.heap.size + 1) z.cells wr 0
     have ok9:=okz.but bt.but (hzn _ hl1)
     have iE9:=iE.but bt.but (.inr fun u e=>by cases e;show S≠_;exact hS1)
     have zB:=xr.fill (vs:=z.cells) rfl
     have b9:=hbr.trans (bt.below (B:=w.heap.size) (by omega))
     dsimp only [putAll,Nat.reduceAdd] at ok9 iE9 zB b9
     have HET:=hide hEt
     have HZP:=hide hzp
     clear okz okz9 bt lz mE iE xr hbr hEt hzp
     go_wp2
     obtain ⟨z0,z1,z2,z3,z4,z5,z6,z7,z8,z9⟩:=zB.ten
     exact bodyPost_ret (v:=.tuple #[z.v,.slice (some ⟨S,0,none⟩) j j,.int .i64 0]) (by simp [results,Tryz.results39,go_sem,z0,z1,z2,z3,z4,z5,z6,z7,z8,z9]) rfl
      ⟨⟨z,_,_,_,by rw [HC.out],ok9,smz,fun R hR=>hzn R (by omega),by rw [HC.out];rw [← HET.out];exact iE9,.inr fun u e=>by cases e;show w.heap.size≤S;omega,by rw [HC.out];exact HZP.out⟩,b9⟩
 ·rw [if_pos (by simpa using h0)] at HC
  obtain ⟨e0,e1,e2,e3,e4,e5,e6,e7,e8,e9⟩:=Lay.ten (x:=WV.zero) x1
  have ice:=x1.ice
  dsimp only [WV.zero,HV.zero,DV.zero,KV.zero,zeroB] at e0 e1 e2 e3 e4 e5 e6 e7 e8 e9
  have bt:=putAll_but (w.heap.size + 1) WV.zero.cells w2 0
  have zB:=x1.fill (vs:=WV.zero.cells) rfl
  have b9:=bw.trans (bt.below (B:=w.heap.size) (by omega))
  dsimp only [putAll,Nat.reduceAdd,WV.zero,HV.zero,DV.zero,KV.zero,zeroB] at zB b9
  clear bt
  go_wp2
  obtain ⟨z0,z1,z2,z3,z4,z5,z6,z7,z8,z9⟩:=Lay.ten (x:=WV.zero) zB
  dsimp only [WV.zero,HV.zero,DV.zero,KV.zero,zeroB] at z0 z1 z2 z3 z4 z5 z6 z7 z8 z9
  exact bodyPost_ret (v:=.tuple #[.agg #[.slice none 0 0,.slice none 0 0,.int .i64 0,.int .i64 0,.slice none 0 0,.slice none 0 0,.slice none 0 0,.bool false,.slice none 0 0,.slice none 0 0],.slice none 0 0,.int .i64 ck]) (by simp [results,Tryz.results39,go_sem,z0,z1,z2,z3,z4,z5,z6,z7,z8,z9]) rfl
   ⟨⟨WV.zero,none,0,0,by rw [HC.out];rfl,WV.zero_ok _,WV.zero_sm,WV.zero_new _,by rw [HC.out];exact Ints.nilSlice _,.inl rfl,by rw [HC.out];rfl⟩,b9⟩
end Go.Proofs.YtabafikicbkkdaaGreatDoor
namespace Go.Proofs.YtabafikicbkkdaaGreatDoor
open Go.RowKit
set_option linter.unusedVariables false
set_option maxHeartbeats 1000000
set_option maxRecDepth 100000
set_option linter.unusedSimpArgs false
def cP (n:Int):PC:=⟨5,1,0,0,[n]⟩
theorem puts_c (n:Int) (hn:-9223372036854775808≤n∧n≤9223372036854775807) (w:World):Calls Tryz.prog 40 #[.int .i64 n] w fun e w'=>(∃ q,e=.returned (.agg #[.int .i64 5,.int .i64 1,.int .i64 0,.int .i64 0,.slice (some ⟨q,0,none⟩) 1 1])∧Ints w' (some ⟨q,0,none⟩) 1 1 [n]∧w.heap.size≤q)∧Below w.heap.size w w':=by
 go_enter Tryz.func40,Tryz.ntmps40
 go_wp2
 have zB:=(Lay.made w [.int .i64 5,.int .i64 1,.int .i64 0,.int .i64 0,.slice (some ⟨w.heap.size + 1,0,none⟩) 1 1] 50).below (belowA (Below.refl _ _) (.cells #[.int .i64 n] 3))
 have i:=Ints.of_row (l:=[n]) (heap_new (w.alloc (.cells [.int .i64 5,.int .i64 1,.int .i64 0,.int .i64 0,.slice (some ⟨w.heap.size + 1,0,none⟩) 1 1].toArray 50)) (.cells #[.int .i64 n] 3)) (by simp) (by simpa using hn) (n:=1) rfl
 simp only [World.size_alloc] at i
 have z0:=zB.cell 0 _ rfl
 have z1:=zB.cell 1 _ rfl
 have z2:=zB.cell 2 _ rfl
 have z3:=zB.cell 3 _ rfl
 have z4:=zB.cell 4 _ rfl
 exact bodyPost_ret (v:=.agg #[.int .i64 5,.int .i64 1,.int .i64 0,.int .i64 0,.slice (some ⟨w.heap.size + 1,0,none⟩) 1 1]) (by simp [results,Tryz.results40,go_sem,z0,z1,z2,z3,z4]) rfl
  ⟨⟨w.heap.size + 1,rfl,i,by omega⟩,by (repeat first|exact bel0|assumption|refine bel1 ?_|refine bel2 ?_|refine bel3 ?_|refine belowT ?_ (by assumption)|refine bel5 ?_ (by simp;try omega))⟩
end Go.Proofs.YtabafikicbkkdaaGreatDoor
