/- The contracts of plain.CopyDisk, CopyMail and CopyWorld; no condition but that the arguments read as data, and are no greater than a machine bears. -/
import Derived.Test.YtabafikicbkkdaaGreatDoorSV22
import Derived.Test.YtabafikicbkkdaaGreatDoorSV23
import Derived.Test.YtabafikicbkkdaaGreatDoorSV12
import Derived.Test.YtabafikicbkkdaaGreatDoorSV24
namespace Go.Proofs.YtabafikicbkkdaaGreatDoor
open Go.RowKit
set_option linter.unusedVariables false
set_option maxHeartbeats 8000000
set_option maxRecDepth 100000
set_option linter.unusedSimpArgs false
theorem pbytes_c (a:Option Addr) (n c:Nat) (l:List UInt8) (w:World) (h:Byts w a n c l) (hn:n≤1000000) :
  Calls Tryz.prog 112 #[.slice a n c] w fun e w'=>(∃ q,e=.returned (.slice (some ⟨q,0,none⟩) n n)∧Byts w' (some ⟨q,0,none⟩) n n l∧w.heap.size≤q)∧Below w.heap.size w w':=by
 have hmk:=run_make_row' (P:=Tryz.prog) 34 5 (.int .u8 0) 1 Tryz.underlying34 infoU8 rfl .i64 .i64 n (by omega) (by omega)
 have hl1:=h.len
 go_enter Tryz.func112,Tryz.ntmps112
 go_wp2_with fail
 obtain ⟨w2,r2,g2,b2⟩:=copy_run (P:=Tryz.prog) (w.alloc (.cells (madeCells #[.int .u8 0] n) 5)) 34 34 3 5 Tryz.underlying34 sizeU8 (some ⟨w.heap.size,0,none⟩) a n n n c w.heap.size 0
  (madeCells #[.int .u8 0] n).toList 5 (heap_new _ _) (bytC l) (by rw [bytC_len,hl1];exact (Nat.min_self n).symm) (fun hp=>⟨rfl,Cel.src (h.below (B:=w.heap.size) (by (repeat first|exact bel0|assumption|refine bel1 ?_|refine bel2 ?_|refine bel3 ?_|refine belowT ?_ (by assumption)|refine bel5 ?_ (by simp;try omega))) (Nat.le_refl _)) (by rw [bytC_len,hl1] at hp;exact hp)⟩) (by simp [size_madeCells,bytC_len,hl1]) (bytC_one l)
 rw [r2]
 have G2:=hide g2
 clear g2 r2
 go_wp2
 go_ret
 have g2:=G2.out
 rw [splice_one _ _ (by simp [size_madeCells,bytC_len,hl1])] at g2
 exact ⟨⟨_,rfl,Byts.of_row g2 (by rw [hl1];omega) hl1,Nat.le_refl _⟩,(belowA (Below.refl _ _) _).trans b2⟩
theorem pdisk_c (x:KV) (w:World) (h:x.ok w) (hn:x.n≤1000000) (hm:x.m≤1000000) :
  Calls Tryz.prog 86 #[x.v] w fun e w'=>(∃ y:KV,e=.returned y.v∧y.ok w'∧y.fresh w.heap.size∧y.p=x.p)∧Below w.heap.size w w':=by
 obtain ⟨⟨s,t⟩,a,n,c,b,m,d⟩:=x
 obtain ⟨hs,ht⟩:=h
 dsimp only [KV.v] at *
 have hl1:=hs.len
 have hl2:=ht.len
 obtain ⟨x0,xR,bw⟩:=two_boxes w [.slice a n c,.slice b m d] [.slice none 0 0,.slice none 0 0] 36 36
 replace hs:=hs.below bw (Nat.le_refl _)
 replace ht:=ht.below bw (Nat.le_refl _)
 go_enter Tryz.func86,Tryz.ntmps86
 go_upto_region 1 with fail
 generalize (w.alloc (.cells [.slice a n c,.slice b m d].toArray 36)).alloc (.cells [.slice none 0 0,.slice none 0 0].toArray 36)=w0 at *
 have c0:=x0.cell 0 _ rfl
 have c1:=x0.cell 1 _ rfl
 have hgl:=xR.lt
 have one:Hid (n=n):=hide rfl
 go_region_held3 (fun w'=>w'.cell? ⟨w.heap.size,0,none⟩=some (.slice a n c)∧w'.cell? ⟨w.heap.size,1,none⟩=some (.slice b m d)) ((first|(go_simp;done)|(simp [*,World.cell?_alloc_at,World.cell?_alloc_past,World.cell?_alloc_some,World.cell?_setCell_far];done))) (first
  |(go_at_call 112;clear one;refine (pbytes_c a n c s _ (by refine Byts.below hs (B:=w0.heap.size) ?_ (Nat.le_refl _);clear bw;(repeat first|exact bel0|assumption|refine bel1 ?_|refine bel2 ?_|refine bel3 ?_|refine belowT ?_ (by assumption)|refine bel5 ?_ (by simp;try omega))) hn).mono ?_;rintro e w1 ⟨⟨q,rfl,iq,hq⟩,hb1⟩;(have g0:=keepc hb1 (p:=⟨w.heap.size,0,none⟩) (u:=.slice a n c) (by (first|(go_simp;done)|(simp [*,World.cell?_alloc_at,World.cell?_alloc_past,World.cell?_alloc_some,World.cell?_setCell_far];done))));(have g1:=keepc hb1 (p:=⟨w.heap.size,1,none⟩) (u:=.slice b m d) (by (first|(go_simp;done)|(simp [*,World.cell?_alloc_at,World.cell?_alloc_past,World.cell?_alloc_some,World.cell?_setCell_far];done)))))
  |(go_at_call 112;refine (pbytes_c b m d t _ (by refine Byts.below ht (B:=w0.heap.size) ?_ (Nat.le_refl _);clear bw;(repeat first|exact bel0|assumption|refine bel1 ?_|refine bel2 ?_|refine bel3 ?_|refine belowT ?_ (by assumption)|refine bel5 ?_ (by simp;try omega))) hm).mono ?_;rintro e w2 ⟨⟨r,rfl,ir,hr⟩,hb2⟩;(have k0:=keepc hb2 (p:=⟨w.heap.size,0,none⟩) (u:=.slice a n c) (by (first|(go_simp;done)|(simp [*,World.cell?_alloc_at,World.cell?_alloc_past,World.cell?_alloc_some,World.cell?_setCell_far];done))));(have k1:=keepc hb2 (p:=⟨w.heap.size,1,none⟩) (u:=.slice b m d) (by (first|(go_simp;done)|(simp [*,World.cell?_alloc_at,World.cell?_alloc_past,World.cell?_alloc_some,World.cell?_setCell_far];done))));(have xR2:=xR.below (w':=w2) (by clear bw;(repeat first|exact bel0|assumption|refine bel1 ?_|refine bel2 ?_|refine bel3 ?_|refine belowT ?_ (by assumption)|refine bel5 ?_ (by simp;try omega))));(have e0:=xR2.cell 0 _ rfl);(have e1:=xR2.cell 1 _ rfl);(have f0:=xR2.ice 0);(have f1:=xR2.ice 1)))
 have b12:Below w1.heap.size w1 w2:=by clear bw;(repeat first|exact bel0|assumption|refine bel1 ?_|refine bel2 ?_|refine bel3 ?_|refine belowT ?_ (by assumption)|refine bel5 ?_ (by simp;try omega))
 have b02:Below w0.heap.size w0 w2:=by clear bw b12;(repeat first|exact bel0|assumption|refine bel1 ?_|refine bel2 ?_|refine bel3 ?_|refine belowT ?_ (by assumption)|refine bel5 ?_ (by simp;try omega))
 have hs1:=hb1.size
 simp at hq hr hs1
 have bw2:=belowT bw b02
 replace iq:=iq.below b12 (Nat.le_refl _)
 clear hb1 hb2 c0 c1 xR bw b12 b02 hs ht x0
 go_wp2
 have zB:=(xR2.set 0 (.slice (some ⟨q,0,none⟩) n n)).set 1 (.slice (some ⟨r,0,none⟩) m m)
 have hbut:=((ButI.refl (w.heap.size + 1) w2).step 0 (.slice (some ⟨q,0,none⟩) n n)).step 1 (.slice (some ⟨r,0,none⟩) m m)
 generalize (w2.setCell ⟨w.heap.size + 1,0,none⟩ (.slice (some ⟨q,0,none⟩) n n)).setCell ⟨w.heap.size + 1,1,none⟩ (.slice (some ⟨r,0,none⟩) m m)=w9 at *
 have z0:=zB.cell 0 _ rfl
 have z1:=zB.cell 1 _ rfl
 exact bodyPost_ret (v:=.agg #[.slice (some ⟨q,0,none⟩) n n,.slice (some ⟨r,0,none⟩) m m]) (by simp [results,Tryz.results86,go_sem,z0,z1]) rfl
  ⟨⟨⟨⟨s,t⟩,some ⟨q,0,none⟩,n,n,some ⟨r,0,none⟩,m,m⟩,rfl,⟨iq.but hbut.but (.inr fun x e=>by cases e;simp;omega),ir.but hbut.but (.inr fun x e=>by cases e;simp;omega)⟩,⟨fun x e=>by cases e;simp;omega,fun x e=>by cases e;simp;omega⟩,rfl⟩,bw2.trans (hbut.below (B:=w.heap.size) (by omega))⟩
def MV.zero:MV:=⟨false,0,0,zeroC,none,0,0,AV.err 0⟩
def handN:NewK handK where
 new B x:=x.new B
 off h hR:=h _ hR
 mono h hb:=NV.new.mono h hb
 zero:=NV.zero
 zero_new B:=NV.zero_new B
 zero_ok w:=NV.zero_ok w
def mailN:NewK mailK where
 new B x:=∀ R,R < B→x.off R
 off h hR:=h _ hR
 mono h hb:=fun R hR=>h R (by omega)
 zero:=MV.zero
 zero_new B:=fun R _=>⟨.inl rfl,.inl rfl⟩
 zero_ok w:=⟨Ints.nilSlice w,AV.err_ok w 0⟩
theorem pmail_c (m:MV) (w:World) (hm:m.ok w) (h1:m.cn≤100000) (h2:m.x.n≤100000):Calls Tryz.prog 90 #[m.v] w (Copy1 mailK MV.v MV.p mailN m w):=by
 have HA:=hide (fun w' h'=>pwholeA_c m.x w' h' h2)
 have HC:=hide (fun w' h'=>pwholeC_c m.ca m.cn m.cc m.c w' h' h1)
 have hoff:∀ R,w.heap.size≤R→m.x.off R:=fun R hR=>AV.ok.off hm.x hR
 obtain ⟨x0,x1,x2,bw⟩:=three_boxes w m.cells [.bool false,.int .i64 0,.int .i64 0,.int .i64 0,.int .i64 0,.int .i64 0,.int .i64 0,.slice none 0 0,.int .i64 0,.int .i64 0,.slice none 0 0] m.cells 103 103 103
 replace hm:=hm.below bw (Nat.le_refl _)
 dsimp only [MV.v,MV.cells,AV.v,cmdV] at *
 go_enter Tryz.func90,Tryz.ntmps90
 go_upto_region 2 with fail
 generalize ((w.alloc (.cells [.bool m.b,.int .i64 m.w,.int .i64 m.s,.int .i64 m.c.k,.int .i64 m.c.z,.int .i64 m.c.n,.int .i64 m.c.at',.slice m.ca m.cn m.cc,.int .i64 m.x.e,.int .i64 m.x.t,.slice m.x.a m.x.n m.x.c].toArray 103)).alloc (.cells [.bool false,.int .i64 0,.int .i64 0,.int .i64 0,.int .i64 0,.int .i64 0,.int .i64 0,.slice none 0 0,.int .i64 0,.int .i64 0,.slice none 0 0].toArray 103)).alloc (.cells [.bool m.b,.int .i64 m.w,.int .i64 m.s,.int .i64 m.c.k,.int .i64 m.c.z,.int .i64 m.c.n,.int .i64 m.c.at',.slice m.ca m.cn m.cc,.int .i64 m.x.e,.int .i64 m.x.t,.slice m.x.a m.x.n m.x.c].toArray 103)=w1 at *
 have c3:=x0.cell 3 _ rfl
 have c4:=x0.cell 4 _ rfl
 have c5:=x0.cell 5 _ rfl
 have c6:=x0.cell 6 _ rfl
 have c7:=x0.cell 7 _ rfl
 go_wp2_with fail
 refine (HC.out _ hm.c).mono ?_
 rintro e w2 ⟨⟨q,rfl,iq,hq,hq2⟩,hb2⟩
 have hqw:w.heap.size + 1 + 1 < q:=by have:=x2.lt;omega
 clear c3 c4 c5 c6 c7 hq
 replace x0:=x0.below hb2
 replace x1:=x1.below hb2
 replace x2:=x2.below hb2
 replace hm:=hm.below hb2 (Nat.le_refl _)
 replace bw:=belowT bw hb2
 clear hb2
 have e3:=x2.cell 3 _ rfl
 have e4:=x2.cell 4 _ rfl
 have e5:=x2.cell 5 _ rfl
 have e6:=x2.cell 6 _ rfl
 have e7:=x2.cell 7 _ rfl
 have ice:=x2.ice
 go_upto_region 3 with fail
 obtain ⟨w3,hww3⟩:∃ o,o=putAll w2 (w.heap.size + 1 + 1) 3 ([.int .i64 m.c.k,.int .i64 m.c.z,.int .i64 m.c.n,.int .i64 m.c.at',.slice (some ⟨q,0,none⟩) m.cn m.cn]):=⟨_,rfl⟩
 have btw3:ButI (w.heap.size + 1 + 1) w2 w3:=by rw [hww3];exact putAll_but _ _ _ _
 have lyw3:=putAll_lay ([.int .i64 m.c.k,.int .i64 m.c.z,.int .i64 m.c.n,.int .i64 m.c.at',.slice (some ⟨q,0,none⟩) m.cn m.cn]) 3 x2
 rw [← hww3] at lyw3
 dsimp only [putAll,Nat.reduceAdd] at hww3
 rw [← hww3]
 have y2:Lay w3 (w.heap.size + 1 + 1) [.bool m.b,.int .i64 m.w,.int .i64 m.s,.int .i64 m.c.k,.int .i64 m.c.z,.int .i64 m.c.n,.int .i64 m.c.at',.slice (some ⟨q,0,none⟩) m.cn m.cn,.int .i64 m.x.e,.int .i64 m.x.t,.slice m.x.a m.x.n m.x.c]:=lyw3
 replace x0:=x0.butI btw3 (by omega)
 replace x1:=x1.butI btw3 (by omega)
 have hx:AV.ok w3 m.x:=AV.ok.but hm.x btw3.but (hoff _ (by omega))
 replace iq:=iq.but btw3.but (.inr fun x e=>by cases e;simp;omega)
 replace bw:=bw.trans (btw3.below (B:=w.heap.size) (by omega))
 have hqs:q < w3.heap.size:=by have:=btw3.but.size;omega
 clear e3 e4 e5 e6 e7 ice hww3 lyw3 btw3 x2 hq2
 have c8:=x0.cell 8 _ rfl
 have c9:=x0.cell 9 _ rfl
 have c10:=x0.cell 10 _ rfl
 go_wp2_with fail
 refine (HA.out _ hx).mono ?_
 rintro e w4 ⟨⟨r,rfl,ir,hr,hr2⟩,hb4⟩
 have hrw:w.heap.size + 1 + 1 < r:=by have:=y2.lt;omega
 clear c8 c9 c10 hr x0
 replace x1:=x1.below hb4
 replace y2:=y2.below hb4
 replace iq:=iq.below hb4 (Nat.le_refl _)
 replace bw:=belowT bw hb4
 clear hb4
 have e8:=y2.cell 8 _ rfl
 have e9:=y2.cell 9 _ rfl
 have e10:=y2.cell 10 _ rfl
 have ice:=y2.ice
 go_upto_region 4 with fail
 obtain ⟨w5,hww5⟩:∃ o,o=putAll w4 (w.heap.size + 1 + 1) 8 ([.int .i64 m.x.e,.int .i64 m.x.t,.slice (some ⟨r,0,none⟩) m.x.n m.x.n]):=⟨_,rfl⟩
 have btw5:ButI (w.heap.size + 1 + 1) w4 w5:=by rw [hww5];exact putAll_but _ _ _ _
 have lyw5:=putAll_lay ([.int .i64 m.x.e,.int .i64 m.x.t,.slice (some ⟨r,0,none⟩) m.x.n m.x.n]) 8 y2
 rw [← hww5] at lyw5
 dsimp only [putAll,Nat.reduceAdd] at hww5
 rw [← hww5]
 have y3:Lay w5 (w.heap.size + 1 + 1) [.bool m.b,.int .i64 m.w,.int .i64 m.s,.int .i64 m.c.k,.int .i64 m.c.z,.int .i64 m.c.n,.int .i64 m.c.at',.slice (some ⟨q,0,none⟩) m.cn m.cn,.int .i64 m.x.e,.int .i64 m.x.t,.slice (some ⟨r,0,none⟩) m.x.n m.x.n]:=lyw5
 replace x1:=x1.butI btw5 (by omega)
 replace iq:=iq.but btw5.but (.inr fun x e=>by cases e;simp;omega)
 replace ir:=ir.but btw5.but (.inr fun x e=>by cases e;simp;omega)
 replace bw:=bw.trans (btw5.below (B:=w.heap.size) (by omega))
 clear e8 e9 e10 ice hww5 lyw5 btw5 y2 hx HA HC
 have a0:=y3.cell 0 _ rfl
 have a1:=y3.cell 1 _ rfl
 have a2:=y3.cell 2 _ rfl
 have a3:=y3.cell 3 _ rfl
 have a4:=y3.cell 4 _ rfl
 have a5:=y3.cell 5 _ rfl
 have a6:=y3.cell 6 _ rfl
 have a7:=y3.cell 7 _ rfl
 have a8:=y3.cell 8 _ rfl
 have a9:=y3.cell 9 _ rfl
 have a10:=y3.cell 10 _ rfl
 have e0:=x1.cell 0 _ rfl
 have e1:=x1.cell 1 _ rfl
 have e2:=x1.cell 2 _ rfl
 have e3:=x1.cell 3 _ rfl
 have e4:=x1.cell 4 _ rfl
 have e5:=x1.cell 5 _ rfl
 have e6:=x1.cell 6 _ rfl
 have e7:=x1.cell 7 _ rfl
 have e8:=x1.cell 8 _ rfl
 have e9:=x1.cell 9 _ rfl
 have e10:=x1.cell 10 _ rfl
 have ice:=x1.ice
 go_wp2
 have zB:=x1.fill (vs:=[.bool m.b,.int .i64 m.w,.int .i64 m.s,.int .i64 m.c.k,.int .i64 m.c.z,.int .i64 m.c.n,.int .i64 m.c.at',.slice (some ⟨q,0,none⟩) m.cn m.cn,.int .i64 m.x.e,.int .i64 m.x.t,.slice (some ⟨r,0,none⟩) m.x.n m.x.n]) rfl
 have hbut:=putAll_but (w.heap.size + 1) [.bool m.b,.int .i64 m.w,.int .i64 m.s,.int .i64 m.c.k,.int .i64 m.c.z,.int .i64 m.c.n,.int .i64 m.c.at',.slice (some ⟨q,0,none⟩) m.cn m.cn,.int .i64 m.x.e,.int .i64 m.x.t,.slice (some ⟨r,0,none⟩) m.x.n m.x.n] w5 0
 obtain ⟨w9,hw9⟩:∃ o,o=putAll w5 (w.heap.size + 1) 0 [.bool m.b,.int .i64 m.w,.int .i64 m.s,.int .i64 m.c.k,.int .i64 m.c.z,.int .i64 m.c.n,.int .i64 m.c.at',.slice (some ⟨q,0,none⟩) m.cn m.cn,.int .i64 m.x.e,.int .i64 m.x.t,.slice (some ⟨r,0,none⟩) m.x.n m.x.n]:=⟨_,rfl⟩
 rw [← hw9] at zB hbut
 dsimp only [putAll,Nat.reduceAdd] at hw9
 rw [← hw9]
 clear hw9
 have z0:=zB.cell 0 _ rfl
 have z1:=zB.cell 1 _ rfl
 have z2:=zB.cell 2 _ rfl
 have z3:=zB.cell 3 _ rfl
 have z4:=zB.cell 4 _ rfl
 have z5:=zB.cell 5 _ rfl
 have z6:=zB.cell 6 _ rfl
 have z7:=zB.cell 7 _ rfl
 have z8:=zB.cell 8 _ rfl
 have z9:=zB.cell 9 _ rfl
 have z10:=zB.cell 10 _ rfl
 exact bodyPost_ret (v:=.agg #[.bool m.b,.int .i64 m.w,.int .i64 m.s,.int .i64 m.c.k,.int .i64 m.c.z,.int .i64 m.c.n,.int .i64 m.c.at',.slice (some ⟨q,0,none⟩) m.cn m.cn,.int .i64 m.x.e,.int .i64 m.x.t,.slice (some ⟨r,0,none⟩) m.x.n m.x.n]) (by simp [results,Tryz.results90,go_sem,z0,z1,z2,z3,z4,z5,z6,z7,z8,z9,z10]) rfl
  ⟨⟨⟨m.b,m.w,m.s,m.c,some ⟨q,0,none⟩,m.cn,m.cn,⟨m.x.e,m.x.t,some ⟨r,0,none⟩,m.x.n,m.x.n,m.x.d⟩⟩,rfl,⟨iq.but hbut.but (.inr fun x e=>by cases e;simp;omega),Ints.but ir hbut.but (.inr fun x e=>by cases e;simp;omega)⟩,fun R hR=>⟨.inr fun x e=>by cases e;simp;omega,.inr fun x e=>by cases e;simp;omega⟩,rfl⟩,bw.trans (hbut.below (B:=w.heap.size) (by omega))⟩
theorem phands_info:∃ i,Tryz.prog.info? 62=some i∧i.zero=some (.agg #[.int .i64 0,.bool false,.int .i64 0,.int .i64 0,.int .i64 0,.int .i64 0,.slice none 0 0,.slice none 0 0])∧i.size=8∧i.bytes≤1000:=by
 have h:(Tryz.prog.info? 62).map (fun i=>(i.zero,i.size,Nat.ble i.bytes 1000))=some (some (.agg #[.int .i64 0,.bool false,.int .i64 0,.int .i64 0,.int .i64 0,.int .i64 0,.slice none 0 0,.slice none 0 0]),8,true):=by kernel_rfl
 obtain ⟨i,hi,h⟩:=Option.map_eq_some_iff.1 h
 simp only [Prod.mk.injEq] at h
 exact ⟨i,hi,h.1,h.2.1,Nat.le_of_ble_eq_true h.2.2⟩
theorem phands_mk (n:Nat) (hn:n≤1000000) (w:World):(Instr.makeSlice 37 (.int .i64 (n:Int)) (.int .i64 (n:Int))).run Tryz.prog w=.ok (.slice (some ⟨w.heap.size,0,none⟩) n n) (w.alloc (.cells (handK.cells (List.replicate n handN.zero)).toArray 62)):=by
 obtain ⟨i,hi,hz,hs,hb⟩:=phands_info
 exact mkR handK (P:=Tryz.prog) handN.zero Tryz.underlying37 hi hz rfl rfl hs hb (by decide) n hn w
theorem phands_c (a:Option Addr) (n c:Nat) (X:List NV) (w:World) (h:Rows' handK w a n c X) (hn:n≤1000000) (hF:∀ x∈X,∀ w':World,handK.ok w' x→Calls Tryz.prog 88 #[x.v] w' (Copy1 handK NV.v NV.p handN x w')) :
  Calls Tryz.prog 87 #[.slice a n c,.func (Fn.func 88) #[] #[]] w (Copied handK 62 NV.p handN w n X):=by
 have hmk:=phands_mk n hn
 have HM:=hide (fun w'=>MineR.made handK 62 handN.zero handN.zero_ok n w')
 generalize (handK.cells (List.replicate n handN.zero)).toArray=xs at *
 have hlen:=hide h.len
 have hmax:=h.max
 have hle:=h.le
 have HF:=hide hF
 clear hF
 go_enter Tryz.func87,Tryz.ntmps87
 go_wp2
 go_loopw [13] (fun i wr=>∃ wz:World,wz=wr∧∃ (j:Nat) (Y:List NV),j≤n∧i=.int .i64 (j:Nat)∧MineR handK 62 wz w.heap.size Y∧Y.length=n∧(Y.take j).map NV.p=(X.take j).map NV.p∧(∀ y∈Y,handN.new (w.heap.size + 1) y)∧Below w.heap.size w wz) (fun i _=>n - (intOf i).toNat)
 case atStart=>exact ⟨_,rfl,0,_,by omega,rfl,HM.out w,by simp,by simp,fun y hy=>by rw [List.eq_of_mem_replicate hy];exact handN.zero_new _,by (repeat first|exact bel0|assumption|refine bel1 ?_|refine bel2 ?_|refine bel3 ?_|refine belowT ?_ (by assumption)|refine bel5 ?_ (by simp;try omega))⟩
 case round=>
  obtain ⟨wr,rfl,j,Y,hj,rfl,hm,hl,hp,hnw,hbr⟩:=hrel
  have HP:=hide hp
  have HL:=hide hl
  have HN:=hide hnw
  clear hp hl hnw hmk
  by_cases hlt:j < n
  ·obtain ⟨b,off,x,rfl,hx,hxk,hb,kx⟩:=h.at hlt
   have HX:=hide hx
   have HW:=hide (HF.out x (List.mem_of_getElem? hx))
   have hxr:=handK.below hxk hbr (Nat.le_refl _)
   have LX:=NV.lay (b:=b) (o:=off + j * 8) (fun i v h=>keepc hbr (kx i v h))
   have hlt':(j:Int) < (n:Int):=by omega
   have HG:=hide hm.lay.lt
   clear hx kx hxk
   dsimp only [NV.v] at HW
   obtain ⟨c0,c1,c2,c3,c4,c5,c6,c7⟩:=LX
   go_wp2_with fail
   refine (HW.out _ (handK.below hxr (B:=wr.heap.size) (by (repeat first|exact bel0|assumption|refine bel1 ?_|refine bel2 ?_|refine bel3 ?_|refine belowT ?_ (by assumption)|refine bel5 ?_ (by simp;try omega))) (Nat.le_refl _))).mono ?_
   rintro e w2 ⟨⟨y,rfl,hyk,hyn,hyp⟩,hb2⟩
   have b2:Below wr.heap.size wr w2:=by (repeat first|exact bel0|assumption|refine bel1 ?_|refine bel2 ?_|refine bel3 ?_|refine belowT ?_ (by assumption)|refine bel5 ?_ (by simp;try omega))
   replace hm:=hm.below b2
   have hgl:=hm.lay.lt
   have hgs:=HG.out
   have bw2:=belowT hbr b2
   have hjY:j < Y.length:=by rw [HL.out];exact hlt
   simp only [World.size_alloc] at hyn
   clear hb2 b2 HW hxr c0 c1 c2 c3 c4 c5 c6 c7
   obtain ⟨u0,y0⟩:∃ u,w2.cell? ⟨w.heap.size,j * 8,none⟩=some u:=hm.at (j:=0) hjY (by decide)
   have s0:=hm.lay.ice (j * 8)
   obtain ⟨u1,y1⟩:∃ u,w2.cell? ⟨w.heap.size,j * 8 + 1,none⟩=some u:=hm.at (j:=1) hjY (by decide)
   have s1:=hm.lay.ice (j * 8 + 1)
   obtain ⟨u2,y2⟩:∃ u,w2.cell? ⟨w.heap.size,j * 8 + 2,none⟩=some u:=hm.at (j:=2) hjY (by decide)
   have s2:=hm.lay.ice (j * 8 + 2)
   obtain ⟨u3,y3⟩:∃ u,w2.cell? ⟨w.heap.size,j * 8 + 3,none⟩=some u:=hm.at (j:=3) hjY (by decide)
   have s3:=hm.lay.ice (j * 8 + 3)
   obtain ⟨u4,y4⟩:∃ u,w2.cell? ⟨w.heap.size,j * 8 + 4,none⟩=some u:=hm.at (j:=4) hjY (by decide)
   have s4:=hm.lay.ice (j * 8 + 4)
   obtain ⟨u5,y5⟩:∃ u,w2.cell? ⟨w.heap.size,j * 8 + 5,none⟩=some u:=hm.at (j:=5) hjY (by decide)
   have s5:=hm.lay.ice (j * 8 + 5)
   obtain ⟨u6,y6⟩:∃ u,w2.cell? ⟨w.heap.size,j * 8 + 6,none⟩=some u:=hm.at (j:=6) hjY (by decide)
   have s6:=hm.lay.ice (j * 8 + 6)
   obtain ⟨u7,y7⟩:∃ u,w2.cell? ⟨w.heap.size,j * 8 + 7,none⟩=some u:=hm.at (j:=7) hjY (by decide)
   have s7:=hm.lay.ice (j * 8 + 7)
   dsimp only [NV.v]
   go_wp2
   have hoff:∀ z∈Y,handK.off w.heap.size z:=fun z hz=>handN.off (HN.out z hz) (by omega)
   have hput:=hm.put hjY hyk hoff (handN.off hyn (by omega))
   have bput:=(putAll_but w.heap.size (handK.cs y) w2 (j * handK.k)).below (B:=w.heap.size) (Nat.le_refl _)
   exact ⟨⟨_,rfl,j + 1,_,by omega,by go_num,hput,by rw [List.length_set];exact HL.out,take_setK HX.out hjY HP.out hyp,fun z hz=>by
    rcases List.mem_or_eq_of_mem_set hz with hz|rfl
    ·exact HN.out z hz
    ·exact handN.mono hyn (by omega),bw2.trans bput⟩,by simp [intOf];omega⟩
  ·obtain rfl:j=n:=by omega
   go_wp2
   go_ret
   have hp:=HP.out
   rw [List.take_of_length_le (by rw [HL.out];omega),List.take_of_length_le (by rw [hlen.out];omega)] at hp
   exact ⟨⟨_,_,rfl,hm,HL.out,hp,Nat.le_refl _,HN.out⟩,hbr⟩
theorem pmails_info:∃ i,Tryz.prog.info? 103=some i∧i.zero=some (.agg #[.bool false,.int .i64 0,.int .i64 0,.int .i64 0,.int .i64 0,.int .i64 0,.int .i64 0,.slice none 0 0,.int .i64 0,.int .i64 0,.slice none 0 0])∧i.size=11∧i.bytes≤1000:=by
 have h:(Tryz.prog.info? 103).map (fun i=>(i.zero,i.size,Nat.ble i.bytes 1000))=some (some (.agg #[.bool false,.int .i64 0,.int .i64 0,.int .i64 0,.int .i64 0,.int .i64 0,.int .i64 0,.slice none 0 0,.int .i64 0,.int .i64 0,.slice none 0 0]),11,true):=by kernel_rfl
 obtain ⟨i,hi,h⟩:=Option.map_eq_some_iff.1 h
 simp only [Prod.mk.injEq] at h
 exact ⟨i,hi,h.1,h.2.1,Nat.le_of_ble_eq_true h.2.2⟩
theorem pmails_mk (n:Nat) (hn:n≤1000000) (w:World):(Instr.makeSlice 38 (.int .i64 (n:Int)) (.int .i64 (n:Int))).run Tryz.prog w=.ok (.slice (some ⟨w.heap.size,0,none⟩) n n) (w.alloc (.cells (mailK.cells (List.replicate n mailN.zero)).toArray 103)):=by
 obtain ⟨i,hi,hz,hs,hb⟩:=pmails_info
 exact mkR mailK (P:=Tryz.prog) mailN.zero Tryz.underlying38 hi hz rfl rfl hs hb (by decide) n hn w
theorem pmails_c (a:Option Addr) (n c:Nat) (X:List MV) (w:World) (h:Rows' mailK w a n c X) (hn:n≤1000000) (hF:∀ x∈X,∀ w':World,mailK.ok w' x→Calls Tryz.prog 90 #[x.v] w' (Copy1 mailK MV.v MV.p mailN x w')) :
  Calls Tryz.prog 89 #[.slice a n c,.func (Fn.func 90) #[] #[]] w (Copied mailK 103 MV.p mailN w n X):=by
 have hmk:=pmails_mk n hn
 have HM:=hide (fun w'=>MineR.made mailK 103 mailN.zero mailN.zero_ok n w')
 generalize (mailK.cells (List.replicate n mailN.zero)).toArray=xs at *
 have hlen:=hide h.len
 have hmax:=h.max
 have hle:=h.le
 have HF:=hide hF
 clear hF
 go_enter Tryz.func89,Tryz.ntmps89
 go_wp2
 go_loopw [13] (fun i wr=>∃ wz:World,wz=wr∧∃ (j:Nat) (Y:List MV),j≤n∧i=.int .i64 (j:Nat)∧MineR mailK 103 wz w.heap.size Y∧Y.length=n∧(Y.take j).map MV.p=(X.take j).map MV.p∧(∀ y∈Y,mailN.new (w.heap.size + 1) y)∧Below w.heap.size w wz) (fun i _=>n - (intOf i).toNat)
 case atStart=>exact ⟨_,rfl,0,_,by omega,rfl,HM.out w,by simp,by simp,fun y hy=>by rw [List.eq_of_mem_replicate hy];exact mailN.zero_new _,by (repeat first|exact bel0|assumption|refine bel1 ?_|refine bel2 ?_|refine bel3 ?_|refine belowT ?_ (by assumption)|refine bel5 ?_ (by simp;try omega))⟩
 case round=>
  obtain ⟨wr,rfl,j,Y,hj,rfl,hm,hl,hp,hnw,hbr⟩:=hrel
  have HP:=hide hp
  have HL:=hide hl
  have HN:=hide hnw
  clear hp hl hnw hmk
  by_cases hlt:j < n
  ·obtain ⟨b,off,x,rfl,hx,hxk,hb,kx⟩:=h.at hlt
   have HX:=hide hx
   have HW:=hide (HF.out x (List.mem_of_getElem? hx))
   have hxr:=mailK.below hxk hbr (Nat.le_refl _)
   have LX:=MV.lay (b:=b) (o:=off + j * 11) (fun i v h=>keepc hbr (kx i v h))
   have hlt':(j:Int) < (n:Int):=by omega
   have HG:=hide hm.lay.lt
   clear hx kx hxk
   dsimp only [MV.v] at HW
   obtain ⟨c0,c1,c2,c3,c4,c5,c6,c7,c8,c9,c10⟩:=LX
   go_wp2_with fail
   refine (HW.out _ (mailK.below hxr (B:=wr.heap.size) (by (repeat first|exact bel0|assumption|refine bel1 ?_|refine bel2 ?_|refine bel3 ?_|refine belowT ?_ (by assumption)|refine bel5 ?_ (by simp;try omega))) (Nat.le_refl _))).mono ?_
   rintro e w2 ⟨⟨y,rfl,hyk,hyn,hyp⟩,hb2⟩
   have b2:Below wr.heap.size wr w2:=by (repeat first|exact bel0|assumption|refine bel1 ?_|refine bel2 ?_|refine bel3 ?_|refine belowT ?_ (by assumption)|refine bel5 ?_ (by simp;try omega))
   replace hm:=hm.below b2
   have hgl:=hm.lay.lt
   have hgs:=HG.out
   have bw2:=belowT hbr b2
   have hjY:j < Y.length:=by rw [HL.out];exact hlt
   simp only [World.size_alloc] at hyn
   clear hb2 b2 HW hxr c0 c1 c2 c3 c4 c5 c6 c7 c8 c9 c10
   obtain ⟨u0,y0⟩:∃ u,w2.cell? ⟨w.heap.size,j * 11,none⟩=some u:=hm.at (j:=0) hjY (by decide)
   have s0:=hm.lay.ice (j * 11)
   obtain ⟨u1,y1⟩:∃ u,w2.cell? ⟨w.heap.size,j * 11 + 1,none⟩=some u:=hm.at (j:=1) hjY (by decide)
   have s1:=hm.lay.ice (j * 11 + 1)
   obtain ⟨u2,y2⟩:∃ u,w2.cell? ⟨w.heap.size,j * 11 + 2,none⟩=some u:=hm.at (j:=2) hjY (by decide)
   have s2:=hm.lay.ice (j * 11 + 2)
   obtain ⟨u3,y3⟩:∃ u,w2.cell? ⟨w.heap.size,j * 11 + 3,none⟩=some u:=hm.at (j:=3) hjY (by decide)
   have s3:=hm.lay.ice (j * 11 + 3)
   obtain ⟨u4,y4⟩:∃ u,w2.cell? ⟨w.heap.size,j * 11 + 4,none⟩=some u:=hm.at (j:=4) hjY (by decide)
   have s4:=hm.lay.ice (j * 11 + 4)
   obtain ⟨u5,y5⟩:∃ u,w2.cell? ⟨w.heap.size,j * 11 + 5,none⟩=some u:=hm.at (j:=5) hjY (by decide)
   have s5:=hm.lay.ice (j * 11 + 5)
   obtain ⟨u6,y6⟩:∃ u,w2.cell? ⟨w.heap.size,j * 11 + 6,none⟩=some u:=hm.at (j:=6) hjY (by decide)
   have s6:=hm.lay.ice (j * 11 + 6)
   obtain ⟨u7,y7⟩:∃ u,w2.cell? ⟨w.heap.size,j * 11 + 7,none⟩=some u:=hm.at (j:=7) hjY (by decide)
   have s7:=hm.lay.ice (j * 11 + 7)
   obtain ⟨u8,y8⟩:∃ u,w2.cell? ⟨w.heap.size,j * 11 + 8,none⟩=some u:=hm.at (j:=8) hjY (by decide)
   have s8:=hm.lay.ice (j * 11 + 8)
   obtain ⟨u9,y9⟩:∃ u,w2.cell? ⟨w.heap.size,j * 11 + 9,none⟩=some u:=hm.at (j:=9) hjY (by decide)
   have s9:=hm.lay.ice (j * 11 + 9)
   obtain ⟨u10,y10⟩:∃ u,w2.cell? ⟨w.heap.size,j * 11 + 10,none⟩=some u:=hm.at (j:=10) hjY (by decide)
   have s10:=hm.lay.ice (j * 11 + 10)
   dsimp only [MV.v]
   go_wp2
   have hoff:∀ z∈Y,mailK.off w.heap.size z:=fun z hz=>mailN.off (HN.out z hz) (by omega)
   have hput:=hm.put hjY hyk hoff (mailN.off hyn (by omega))
   have bput:=(putAll_but w.heap.size (mailK.cs y) w2 (j * mailK.k)).below (B:=w.heap.size) (Nat.le_refl _)
   exact ⟨⟨_,rfl,j + 1,_,by omega,by go_num,hput,by rw [List.length_set];exact HL.out,take_setK HX.out hjY HP.out hyp,fun z hz=>by
    rcases List.mem_or_eq_of_mem_set hz with hz|rfl
    ·exact HN.out z hz
    ·exact mailN.mono hyn (by omega),bw2.trans bput⟩,by simp [intOf];omega⟩
  ·obtain rfl:j=n:=by omega
   go_wp2
   go_ret
   have hp:=HP.out
   rw [List.take_of_length_le (by rw [HL.out];omega),List.take_of_length_le (by rw [hlen.out];omega)] at hp
   exact ⟨⟨_,_,rfl,hm,HL.out,hp,Nat.le_refl _,HN.out⟩,hbr⟩
theorem phand1_c (h:NV) (w:World) (hk:h.ok w) (hcn:h.cn≤100000) (hgn:h.gn≤1000000) (hxs:∀ x∈h.G,x.n≤100000):Calls Tryz.prog 88 #[h.v] w (Copy1 handK NV.v NV.p handN h w):=
 (phand_c h w hk hcn hgn hxs).mono fun e w' ⟨⟨q,g,X',h1,h2,h3,h4,h5,h6,h7⟩,h8⟩=>
  ⟨⟨⟨h.s,h.w,h.c,some ⟨q,0,none⟩,h.cn,h.cn,some ⟨g,0,none⟩,h.gn,h.gn,X'⟩,h1,⟨h2,h5.answers h6 (show h.gn≤9223372036854775807 by omega)⟩,fun R hR=>⟨.inr fun x e=>by cases e;simp;omega,.inr fun x e=>by cases e;simp;omega,fun x hx=>h5.new x hx R (by omega)⟩,by simp [NV.p,h7]⟩,h8⟩
theorem phallV_c (h:HV) (w:World) (hk:h.ok w) (h1:h.d.zn≤1000000) (h2:∀ z∈h.d.Z,z.n≤100000) (h3:h.d.kn≤100000) (h4:h.n≤1000000) (h5:∀ y∈h.L,y.x.n≤100000) :
  Calls Tryz.prog 59 #[h.v] w fun e w'=>(∃ h':HV,e=.returned h'.v∧h'.ok w'∧h'.new w.heap.size∧h'.p=h.p)∧Below w.heap.size w w':=
 (phall_c h w hk h1 h2 h3 h4 h5).mono fun e w' ⟨⟨d',g,L',k1,k2,k3,k4,k5,k6,k7,k8,k9,k10⟩,k11⟩=>
  ⟨⟨⟨d',some ⟨g,0,none⟩,h.n,h.n,L'⟩,k1,⟨k2,Lasts.of_lay k3.lay k3.ok k4 (show h.n≤9223372036854775807 by omega)⟩,fun R hR=>⟨k5 R hR,.inr fun x e=>by cases e;simp;omega,fun y hy=>k10 y hy R (by omega)⟩,by simp [HV.p,k8,k9]⟩,k11⟩
structure Small (x:WV):Prop where
 h1:x.h.d.zn≤1000000
 h2:∀ z∈x.h.d.Z,z.n≤100000
 h3:x.h.d.kn≤100000
 h4:x.h.n≤1000000
 h5:∀ y∈x.h.L,y.x.n≤100000
 d1:x.d.n≤1000000
 d2:x.d.m≤1000000
 n1:x.nn≤1000000
 n2:∀ y∈x.N,y.cn≤100000∧y.gn≤1000000∧∀ a∈y.G,a.n≤100000
 m1:x.mn≤1000000
 m2:∀ m∈x.M,m.cn≤100000∧m.x.n≤100000
structure CopyW (w0 w:World) (x y:WV) (g q:Nat):Prop where
 h:y.h.ok w
 d:y.d.ok w
 n:MineR handK 62 w g y.N
 m:MineR mailK 103 w q y.M
 na:y.na=some ⟨g,0,none⟩∧y.nn=y.N.length∧y.nc=y.N.length
 ma:y.ma=some ⟨q,0,none⟩∧y.mn=y.M.length∧y.mc=y.M.length
 gq:w0.heap.size≤g∧g < q
 hn:y.h.new w0.heap.size∧y.h.off g∧y.h.off q
 dn:y.d.fresh w0.heap.size∧y.d.off g∧y.d.off q
 nn:∀ z∈y.N,z.new (g + 1)∧z.off q
 mn:∀ z∈y.M,∀ R,R < q + 1→z.off R
 p:y.p=x.p
theorem pworld_c (x:WV) (w:World) (hx:x.ok w) (hS:Small x) :
  Calls Tryz.prog 63 #[x.v] w fun e w'=>(∃ y g q,e=.returned (WV.v y)∧CopyW w w' x y g q)∧Below w.heap.size w w':=by
 have H1:=hide (fun w' h'=>phallV_c x.h w' h' hS.h1 hS.h2 hS.h3 hS.h4 hS.h5)
 have H2:=hide (fun w' h'=>pdisk_c x.d w' h' hS.d1 hS.d2)
 have H3:=hide (fun w' h'=>phands_c x.na x.nn x.nc x.N w' h' hS.n1 (fun y hy w'' h''=>phand1_c y w'' h'' (hS.n2 y hy).1 (hS.n2 y hy).2.1 (hS.n2 y hy).2.2))
 have H4:=hide (fun w' h'=>pmails_c x.ma x.mn x.mc x.M w' h' hS.m1 (fun y hy w'' h''=>pmail_c y w'' h'' (hS.m2 y hy).1 (hS.m2 y hy).2))
 clear hS
 obtain ⟨x0,xR,bw⟩:=two_boxes w x.cells [.slice none 0 0,.slice none 0 0,.int .i64 0,.int .i64 0,.slice none 0 0,.slice none 0 0,.slice none 0 0,.bool false,.slice none 0 0,.slice none 0 0] 40 40
 replace hx:=hx.below bw (Nat.le_refl _)
 have hmn:=hx.m.len
 have hnl:=hx.n.len
 dsimp only [HV.v,KV.v] at *
 go_enter Tryz.func63,Tryz.ntmps63
 go_upto_region 1 with fail
 generalize (w.alloc (.cells x.cells.toArray 40)).alloc (.cells [.slice none 0 0,.slice none 0 0,.int .i64 0,.int .i64 0,.slice none 0 0,.slice none 0 0,.slice none 0 0,.bool false,.slice none 0 0,.slice none 0 0].toArray 40)=w0 at *
 obtain ⟨c0,c1,c2,c3,c4,c5,c6,c7,c8,c9⟩:=x0.ten
 have hgl:=xR.lt
 go_region_held3 (fun w'=>w'.cell? ⟨w.heap.size,0,none⟩=some (.slice x.h.d.za x.h.d.zn x.h.d.zc)∧w'.cell? ⟨w.heap.size,1,none⟩=some (.slice x.h.d.ka x.h.d.kn x.h.d.kc)∧w'.cell? ⟨w.heap.size,2,none⟩=some (.int .i64 x.h.d.b.h)∧w'.cell? ⟨w.heap.size,3,none⟩=some (.int .i64 x.h.d.b.t)∧w'.cell? ⟨w.heap.size,4,none⟩=some (.slice x.h.a x.h.n x.h.c)∧w'.cell? ⟨w.heap.size,5,none⟩=some (.slice x.d.a x.d.n x.d.c)∧w'.cell? ⟨w.heap.size,6,none⟩=some (.slice x.d.b x.d.m x.d.d)∧w'.cell? ⟨w.heap.size,7,none⟩=some (.bool x.u)∧w'.cell? ⟨w.heap.size,8,none⟩=some (.slice x.na x.nn x.nc)∧w'.cell? ⟨w.heap.size,9,none⟩=some (.slice x.ma x.mn x.mc)) ((first|(go_simp;done)|(simp [*,World.cell?_alloc_at,World.cell?_alloc_past,World.cell?_alloc_some,World.cell?_setCell_far];done))) (first
  |(go_at_call 59;refine (H1.out _ (by refine HV.ok.below hx.h (B:=w0.heap.size) ?_ (Nat.le_refl _);clear bw;(repeat first|exact bel0|assumption|refine bel1 ?_|refine bel2 ?_|refine bel3 ?_|refine belowT ?_ (by assumption)|refine bel5 ?_ (by simp;try omega)))).mono ?_;rintro e w1 ⟨⟨h',rfl,hh,hhn,hhp⟩,hb1⟩;(dsimp only [HV.v]);(have g0:=keepc hb1 (p:=⟨w.heap.size,0,none⟩) (u:=.slice x.h.d.za x.h.d.zn x.h.d.zc) (by (first|(go_simp;done)|(simp [*,World.cell?_alloc_at,World.cell?_alloc_past,World.cell?_alloc_some,World.cell?_setCell_far];done))));(have g1:=keepc hb1 (p:=⟨w.heap.size,1,none⟩) (u:=.slice x.h.d.ka x.h.d.kn x.h.d.kc) (by (first|(go_simp;done)|(simp [*,World.cell?_alloc_at,World.cell?_alloc_past,World.cell?_alloc_some,World.cell?_setCell_far];done))));(have g2:=keepc hb1 (p:=⟨w.heap.size,2,none⟩) (u:=.int .i64 x.h.d.b.h) (by (first|(go_simp;done)|(simp [*,World.cell?_alloc_at,World.cell?_alloc_past,World.cell?_alloc_some,World.cell?_setCell_far];done))));(have g3:=keepc hb1 (p:=⟨w.heap.size,3,none⟩) (u:=.int .i64 x.h.d.b.t) (by (first|(go_simp;done)|(simp [*,World.cell?_alloc_at,World.cell?_alloc_past,World.cell?_alloc_some,World.cell?_setCell_far];done))));(have g4:=keepc hb1 (p:=⟨w.heap.size,4,none⟩) (u:=.slice x.h.a x.h.n x.h.c) (by (first|(go_simp;done)|(simp [*,World.cell?_alloc_at,World.cell?_alloc_past,World.cell?_alloc_some,World.cell?_setCell_far];done))));(have g5:=keepc hb1 (p:=⟨w.heap.size,5,none⟩) (u:=.slice x.d.a x.d.n x.d.c) (by (first|(go_simp;done)|(simp [*,World.cell?_alloc_at,World.cell?_alloc_past,World.cell?_alloc_some,World.cell?_setCell_far];done))));(have g6:=keepc hb1 (p:=⟨w.heap.size,6,none⟩) (u:=.slice x.d.b x.d.m x.d.d) (by (first|(go_simp;done)|(simp [*,World.cell?_alloc_at,World.cell?_alloc_past,World.cell?_alloc_some,World.cell?_setCell_far];done))));(have g7:=keepc hb1 (p:=⟨w.heap.size,7,none⟩) (u:=.bool x.u) (by (first|(go_simp;done)|(simp [*,World.cell?_alloc_at,World.cell?_alloc_past,World.cell?_alloc_some,World.cell?_setCell_far];done))));(have g8:=keepc hb1 (p:=⟨w.heap.size,8,none⟩) (u:=.slice x.na x.nn x.nc) (by (first|(go_simp;done)|(simp [*,World.cell?_alloc_at,World.cell?_alloc_past,World.cell?_alloc_some,World.cell?_setCell_far];done))));(have g9:=keepc hb1 (p:=⟨w.heap.size,9,none⟩) (u:=.slice x.ma x.mn x.mc) (by (first|(go_simp;done)|(simp [*,World.cell?_alloc_at,World.cell?_alloc_past,World.cell?_alloc_some,World.cell?_setCell_far];done)))))
  |(go_at_call 86;refine (H2.out _ (by refine KV.ok.belowB hx.d (B:=w0.heap.size) ?_ (Nat.le_refl _);clear bw;(repeat first|exact bel0|assumption|refine bel1 ?_|refine bel2 ?_|refine bel3 ?_|refine belowT ?_ (by assumption)|refine bel5 ?_ (by simp;try omega)))).mono ?_;rintro e w2 ⟨⟨d',rfl,hd,hdn,hdp⟩,hb2⟩;(dsimp only [KV.v]);(have k0:=keepc hb2 (p:=⟨w.heap.size,0,none⟩) (u:=.slice x.h.d.za x.h.d.zn x.h.d.zc) (by (first|(go_simp;done)|(simp [*,World.cell?_alloc_at,World.cell?_alloc_past,World.cell?_alloc_some,World.cell?_setCell_far];done))));(have k1:=keepc hb2 (p:=⟨w.heap.size,1,none⟩) (u:=.slice x.h.d.ka x.h.d.kn x.h.d.kc) (by (first|(go_simp;done)|(simp [*,World.cell?_alloc_at,World.cell?_alloc_past,World.cell?_alloc_some,World.cell?_setCell_far];done))));(have k2:=keepc hb2 (p:=⟨w.heap.size,2,none⟩) (u:=.int .i64 x.h.d.b.h) (by (first|(go_simp;done)|(simp [*,World.cell?_alloc_at,World.cell?_alloc_past,World.cell?_alloc_some,World.cell?_setCell_far];done))));(have k3:=keepc hb2 (p:=⟨w.heap.size,3,none⟩) (u:=.int .i64 x.h.d.b.t) (by (first|(go_simp;done)|(simp [*,World.cell?_alloc_at,World.cell?_alloc_past,World.cell?_alloc_some,World.cell?_setCell_far];done))));(have k4:=keepc hb2 (p:=⟨w.heap.size,4,none⟩) (u:=.slice x.h.a x.h.n x.h.c) (by (first|(go_simp;done)|(simp [*,World.cell?_alloc_at,World.cell?_alloc_past,World.cell?_alloc_some,World.cell?_setCell_far];done))));(have k5:=keepc hb2 (p:=⟨w.heap.size,5,none⟩) (u:=.slice x.d.a x.d.n x.d.c) (by (first|(go_simp;done)|(simp [*,World.cell?_alloc_at,World.cell?_alloc_past,World.cell?_alloc_some,World.cell?_setCell_far];done))));(have k6:=keepc hb2 (p:=⟨w.heap.size,6,none⟩) (u:=.slice x.d.b x.d.m x.d.d) (by (first|(go_simp;done)|(simp [*,World.cell?_alloc_at,World.cell?_alloc_past,World.cell?_alloc_some,World.cell?_setCell_far];done))));(have k7:=keepc hb2 (p:=⟨w.heap.size,7,none⟩) (u:=.bool x.u) (by (first|(go_simp;done)|(simp [*,World.cell?_alloc_at,World.cell?_alloc_past,World.cell?_alloc_some,World.cell?_setCell_far];done))));(have k8:=keepc hb2 (p:=⟨w.heap.size,8,none⟩) (u:=.slice x.na x.nn x.nc) (by (first|(go_simp;done)|(simp [*,World.cell?_alloc_at,World.cell?_alloc_past,World.cell?_alloc_some,World.cell?_setCell_far];done))));(have k9:=keepc hb2 (p:=⟨w.heap.size,9,none⟩) (u:=.slice x.ma x.mn x.mc) (by (first|(go_simp;done)|(simp [*,World.cell?_alloc_at,World.cell?_alloc_past,World.cell?_alloc_some,World.cell?_setCell_far];done)))))
  |(go_at_call 87;refine (H3.out _ (by refine Rows'.below hx.n (B:=w0.heap.size) ?_ (Nat.le_refl _);clear bw;(repeat first|exact bel0|assumption|refine bel1 ?_|refine bel2 ?_|refine bel3 ?_|refine belowT ?_ (by assumption)|refine bel5 ?_ (by simp;try omega)))).mono ?_;rintro e w3 ⟨⟨g,N',rfl,hn,hnl',hnp,hng,hnn⟩,hb3⟩;(have l0:=keepc hb3 (p:=⟨w.heap.size,0,none⟩) (u:=.slice x.h.d.za x.h.d.zn x.h.d.zc) (by (first|(go_simp;done)|(simp [*,World.cell?_alloc_at,World.cell?_alloc_past,World.cell?_alloc_some,World.cell?_setCell_far];done))));(have l1:=keepc hb3 (p:=⟨w.heap.size,1,none⟩) (u:=.slice x.h.d.ka x.h.d.kn x.h.d.kc) (by (first|(go_simp;done)|(simp [*,World.cell?_alloc_at,World.cell?_alloc_past,World.cell?_alloc_some,World.cell?_setCell_far];done))));(have l2:=keepc hb3 (p:=⟨w.heap.size,2,none⟩) (u:=.int .i64 x.h.d.b.h) (by (first|(go_simp;done)|(simp [*,World.cell?_alloc_at,World.cell?_alloc_past,World.cell?_alloc_some,World.cell?_setCell_far];done))));(have l3:=keepc hb3 (p:=⟨w.heap.size,3,none⟩) (u:=.int .i64 x.h.d.b.t) (by (first|(go_simp;done)|(simp [*,World.cell?_alloc_at,World.cell?_alloc_past,World.cell?_alloc_some,World.cell?_setCell_far];done))));(have l4:=keepc hb3 (p:=⟨w.heap.size,4,none⟩) (u:=.slice x.h.a x.h.n x.h.c) (by (first|(go_simp;done)|(simp [*,World.cell?_alloc_at,World.cell?_alloc_past,World.cell?_alloc_some,World.cell?_setCell_far];done))));(have l5:=keepc hb3 (p:=⟨w.heap.size,5,none⟩) (u:=.slice x.d.a x.d.n x.d.c) (by (first|(go_simp;done)|(simp [*,World.cell?_alloc_at,World.cell?_alloc_past,World.cell?_alloc_some,World.cell?_setCell_far];done))));(have l6:=keepc hb3 (p:=⟨w.heap.size,6,none⟩) (u:=.slice x.d.b x.d.m x.d.d) (by (first|(go_simp;done)|(simp [*,World.cell?_alloc_at,World.cell?_alloc_past,World.cell?_alloc_some,World.cell?_setCell_far];done))));(have l7:=keepc hb3 (p:=⟨w.heap.size,7,none⟩) (u:=.bool x.u) (by (first|(go_simp;done)|(simp [*,World.cell?_alloc_at,World.cell?_alloc_past,World.cell?_alloc_some,World.cell?_setCell_far];done))));(have l8:=keepc hb3 (p:=⟨w.heap.size,8,none⟩) (u:=.slice x.na x.nn x.nc) (by (first|(go_simp;done)|(simp [*,World.cell?_alloc_at,World.cell?_alloc_past,World.cell?_alloc_some,World.cell?_setCell_far];done))));(have l9:=keepc hb3 (p:=⟨w.heap.size,9,none⟩) (u:=.slice x.ma x.mn x.mc) (by (first|(go_simp;done)|(simp [*,World.cell?_alloc_at,World.cell?_alloc_past,World.cell?_alloc_some,World.cell?_setCell_far];done)))))
  |(go_at_call 89;refine (H4.out _ (by refine Rows'.below hx.m (B:=w0.heap.size) ?_ (Nat.le_refl _);clear bw;(repeat first|exact bel0|assumption|refine bel1 ?_|refine bel2 ?_|refine bel3 ?_|refine belowT ?_ (by assumption)|refine bel5 ?_ (by simp;try omega)))).mono ?_;rintro e w4 ⟨⟨q,M',rfl,hm,hml',hmp,hmg,hmm⟩,hb4⟩;(have o0:=keepc hb4 (p:=⟨w.heap.size,0,none⟩) (u:=.slice x.h.d.za x.h.d.zn x.h.d.zc) (by (first|(go_simp;done)|(simp [*,World.cell?_alloc_at,World.cell?_alloc_past,World.cell?_alloc_some,World.cell?_setCell_far];done))));(have o1:=keepc hb4 (p:=⟨w.heap.size,1,none⟩) (u:=.slice x.h.d.ka x.h.d.kn x.h.d.kc) (by (first|(go_simp;done)|(simp [*,World.cell?_alloc_at,World.cell?_alloc_past,World.cell?_alloc_some,World.cell?_setCell_far];done))));(have o2:=keepc hb4 (p:=⟨w.heap.size,2,none⟩) (u:=.int .i64 x.h.d.b.h) (by (first|(go_simp;done)|(simp [*,World.cell?_alloc_at,World.cell?_alloc_past,World.cell?_alloc_some,World.cell?_setCell_far];done))));(have o3:=keepc hb4 (p:=⟨w.heap.size,3,none⟩) (u:=.int .i64 x.h.d.b.t) (by (first|(go_simp;done)|(simp [*,World.cell?_alloc_at,World.cell?_alloc_past,World.cell?_alloc_some,World.cell?_setCell_far];done))));(have o4:=keepc hb4 (p:=⟨w.heap.size,4,none⟩) (u:=.slice x.h.a x.h.n x.h.c) (by (first|(go_simp;done)|(simp [*,World.cell?_alloc_at,World.cell?_alloc_past,World.cell?_alloc_some,World.cell?_setCell_far];done))));(have o5:=keepc hb4 (p:=⟨w.heap.size,5,none⟩) (u:=.slice x.d.a x.d.n x.d.c) (by (first|(go_simp;done)|(simp [*,World.cell?_alloc_at,World.cell?_alloc_past,World.cell?_alloc_some,World.cell?_setCell_far];done))));(have o6:=keepc hb4 (p:=⟨w.heap.size,6,none⟩) (u:=.slice x.d.b x.d.m x.d.d) (by (first|(go_simp;done)|(simp [*,World.cell?_alloc_at,World.cell?_alloc_past,World.cell?_alloc_some,World.cell?_setCell_far];done))));(have o7:=keepc hb4 (p:=⟨w.heap.size,7,none⟩) (u:=.bool x.u) (by (first|(go_simp;done)|(simp [*,World.cell?_alloc_at,World.cell?_alloc_past,World.cell?_alloc_some,World.cell?_setCell_far];done))));(have o8:=keepc hb4 (p:=⟨w.heap.size,8,none⟩) (u:=.slice x.na x.nn x.nc) (by (first|(go_simp;done)|(simp [*,World.cell?_alloc_at,World.cell?_alloc_past,World.cell?_alloc_some,World.cell?_setCell_far];done))));(have o9:=keepc hb4 (p:=⟨w.heap.size,9,none⟩) (u:=.slice x.ma x.mn x.mc) (by (first|(go_simp;done)|(simp [*,World.cell?_alloc_at,World.cell?_alloc_past,World.cell?_alloc_some,World.cell?_setCell_far];done))));(have xR2:=xR.below (w':=w4) (by clear bw;(repeat first|exact bel0|assumption|refine bel1 ?_|refine bel2 ?_|refine bel3 ?_|refine belowT ?_ (by assumption)|refine bel5 ?_ (by simp;try omega))));(obtain ⟨e0,e1,e2,e3,e4,e5,e6,e7,e8,e9⟩:=Lay.ten (x:=WV.zero) xR2);(have ice:=xR2.ice)))
 have b12:Below w1.heap.size w1 w2:=by clear bw;(repeat first|exact bel0|assumption|refine bel1 ?_|refine bel2 ?_|refine bel3 ?_|refine belowT ?_ (by assumption)|refine bel5 ?_ (by simp;try omega))
 have b23:Below w2.heap.size w2 w3:=by clear bw;(repeat first|exact bel0|assumption|refine bel1 ?_|refine bel2 ?_|refine bel3 ?_|refine belowT ?_ (by assumption)|refine bel5 ?_ (by simp;try omega))
 have b34:Below w3.heap.size w3 w4:=by clear bw;(repeat first|exact bel0|assumption|refine bel1 ?_|refine bel2 ?_|refine bel3 ?_|refine belowT ?_ (by assumption)|refine bel5 ?_ (by simp;try omega))
 have b04:Below w0.heap.size w0 w4:=by clear bw b12 b23 b34;(repeat first|exact bel0|assumption|refine bel1 ?_|refine bel2 ?_|refine bel3 ?_|refine belowT ?_ (by assumption)|refine bel5 ?_ (by simp;try omega))
 have hs1:=hb1.size
 have hs2:=hb2.size
 have hs3:=hb3.size
 simp at hs1 hs2 hs3 hng hmg hhn hdn
 have hg3:=hn.lay.lt
 have bw4:=belowT bw b04
 have f1:=hh.off (R:=g) (by omega)
 have f2:=hh.off (R:=q) (by omega)
 have f3:=hd.off (R:=g) (by omega)
 have f4:=hd.off (R:=q) (by omega)
 have f5:=fun y hy=>NV.ok.off (hn.ok y hy) (R:=q) (by omega)
 replace hh:=hh.below (b12.trans ((b23.trans (b34.mono b23.size)).mono b12.size)) (Nat.le_refl _)
 replace hd:=hd.below (b23.trans (b34.mono b23.size))
 replace hn:=hn.below b34
 have hdn':=hdn.mono (B':=w.heap.size) (by omega)
 clear hb1 hb2 hb3 hb4 xR bw b12 b23 b34 b04 hx x0 H1 H2 H3 H4
 clear c0 c1 c2 c3 c4 c5 c6 c7 c8 c9
 dsimp only [WV.zero,HV.zero,DV.zero,KV.zero,zeroB] at e0 e1 e2 e3 e4 e5 e6 e7 e8 e9
 go_wp2
 obtain ⟨y,hy⟩:∃ y:WV,y=⟨h',d',x.u,some ⟨g,0,none⟩,x.nn,x.nn,N',some ⟨q,0,none⟩,x.mn,x.mn,M'⟩:=⟨_,rfl⟩
 have hbut:=putAll_but (w.heap.size + 1) y.cells w4 0
 have zB:=xR2.fill (vs:=y.cells) rfl
 have hn9:=hn.away (k:=w.heap.size + 1) y.cells 0 (by omega) (fun z hz=>handN.off (hnn z hz) (by omega))
 have hm9:=hm.away (k:=w.heap.size + 1) y.cells 0 (by omega) (fun z hz=>mailN.off (hmm z hz) (by omega))
 obtain ⟨w9,hw9⟩:∃ o,o=putAll w4 (w.heap.size + 1) 0 y.cells:=⟨_,rfl⟩
 rw [← hw9] at zB hbut hn9 hm9
 rw [hy] at hw9
 dsimp only [putAll,Nat.reduceAdd] at hw9
 rw [← hw9]
 clear hw9
 obtain ⟨z0,z1,z2,z3,z4,z5,z6,z7,z8,z9⟩:=zB.ten
 refine bodyPost_ret (v:=y.v) (by simp [results,Tryz.results63,go_sem,z0,z1,z2,z3,z4,z5,z6,z7,z8,z9]) rfl ⟨⟨y,g,q,rfl,?_⟩,bw4.trans (hbut.below (B:=w.heap.size) (by omega))⟩
 subst hy
 exact ⟨hh.but hbut.but (hhn _ (by omega)),hd.butO hbut.but (hdn.off (by omega)),hn9,hm9,⟨rfl,hnl'.symm,hnl'.symm⟩,⟨rfl,hml'.symm,hml'.symm⟩,⟨by omega,by omega⟩,⟨fun R hR=>hhn R (by omega),f1,f2⟩,⟨hdn',f3,f4⟩,fun z hz=>⟨hnn z hz,f5 z hz⟩,hmm,by simp [WV.p,hhp,hdp,hnp,hmp]⟩
end Go.Proofs.YtabafikicbkkdaaGreatDoor
