/- The contracts of plain.CopyHand; no condition but that the hand reads as data, and is no greater than a machine bears. -/
import Derived.Test.YtabafikicbkkdaaGreatDoorSU14
import Derived.Test.YtabafikicbkkdaaGreatDoorSU20
import Derived.Test.YtabafikicbkkdaaGreatDoorSU24
import Derived.Test.YtabafikicbkkdaaGreatDoorSU21
import Derived.Test.YtabafikicbkkdaaGreatDoorSU8
import Derived.Test.YtabafikicbkkdaaGreatDoorSU1
namespace Go.Proofs.YtabafikicbkkdaaGreatDoor
open Go.RowKit
set_option linter.unusedVariables false
set_option maxHeartbeats 8000000
set_option maxRecDepth 100000
set_option linter.unusedSimpArgs false
def ansK:Kin AV where
 k:=3
 cs:=AV.cells
 ok w x:=x.ok w
 off R x:=x.off R
 len _:=rfl
 one x:=x.cells_one
 below h _ hb hB:=Ints.below h hb hB
 but h hb ho:=AV.ok.but h hb ho
 far h hR:=AV.ok.off h hR
def ansN:NewK ansK where
 new B x:=x.new B
 off h hR:=h _ hR
 mono h hb:=AV.new.mono h hb
 zero:=AV.err 0
 zero_new B:=AV.err_new B 0
 zero_ok w:=AV.err_ok w 0
theorem AV.lay {w:World} {b o:Nat} {x:AV} (h:∀ j v,(ansK.cs x)[j]?=some v→w.cell? ⟨b,o + j,none⟩=some v):w.cell? ⟨b,o,none⟩=some (.int .i64 x.e)∧w.cell? ⟨b,o + 1,none⟩=some (.int .i64 x.t)∧w.cell? ⟨b,o + 2,none⟩=some (.slice x.a x.n x.c):=
 ⟨h 0 _ rfl,h 1 _ rfl,h 2 _ rfl⟩
theorem Answers.rows' {w:World} {a:Option Addr} {n c:Nat} {X:List AV} (h:Answers w a n c X):Rows' ansK w a n c X:=⟨h.len,h.le,h.max,h.nil,h.row,h.ok⟩
theorem pans_c (x:AV) (w:World) (h:x.ok w) (hn:x.n≤100000):Calls Tryz.prog 61 #[x.v] w (Copy1 ansK AV.v AV.p ansN x w):=
 (pwholeA_c x w h hn).mono fun e w' ⟨⟨q,h1,h2,h3,_⟩,h4⟩=>⟨⟨⟨x.e,x.t,some ⟨q,0,none⟩,x.n,x.n,x.d⟩,h1,h2,fun R hR=>.inr fun y e=>by cases e;simp;omega,rfl⟩,h4⟩
theorem panss_info:∃ i,Tryz.prog.info? 56=some i∧i.zero=some (.agg #[.int .i64 0,.int .i64 0,.slice none 0 0])∧i.size=3∧i.bytes≤1000:=by
 have h:(Tryz.prog.info? 56).map (fun i=>(i.zero,i.size,Nat.ble i.bytes 1000))=some (some (.agg #[.int .i64 0,.int .i64 0,.slice none 0 0]),3,true):=by kernel_rfl
 obtain ⟨i,hi,h⟩:=Option.map_eq_some_iff.1 h
 simp only [Prod.mk.injEq] at h
 exact ⟨i,hi,h.1,h.2.1,Nat.le_of_ble_eq_true h.2.2⟩
theorem panss_mk (n:Nat) (hn:n≤1000000) (w:World):(Instr.makeSlice 24 (.int .i64 (n:Int)) (.int .i64 (n:Int))).run Tryz.prog w=.ok (.slice (some ⟨w.heap.size,0,none⟩) n n) (w.alloc (.cells (ansK.cells (List.replicate n ansN.zero)).toArray 56)):=by
 obtain ⟨i,hi,hz,hs,hb⟩:=panss_info
 exact mkR ansK (P:=Tryz.prog) ansN.zero Tryz.underlying24 hi hz rfl rfl hs hb (by decide) n hn w
theorem panss_c (a:Option Addr) (n c:Nat) (X:List AV) (w:World) (h:Rows' ansK w a n c X) (hn:n≤1000000) (hF:∀ x∈X,∀ w':World,ansK.ok w' x→Calls Tryz.prog 61 #[x.v] w' (Copy1 ansK AV.v AV.p ansN x w')) :
  Calls Tryz.prog 114 #[.slice a n c,.func (Fn.func 61) #[] #[]] w (Copied ansK 56 AV.p ansN w n X):=by
 have hmk:=panss_mk n hn
 have HM:=hide (fun w'=>MineR.made ansK 56 ansN.zero ansN.zero_ok n w')
 generalize (ansK.cells (List.replicate n ansN.zero)).toArray=xs at *
 have hlen:=hide h.len
 have hmax:=h.max
 have hle:=h.le
 have HF:=hide hF
 clear hF
 go_enter Tryz.func114,Tryz.ntmps114
 go_wp2
 go_loopw [13] (fun i wr=>∃ wz:World,wz=wr∧∃ (j:Nat) (Y:List AV),j≤n∧i=.int .i64 (j:Nat)∧MineR ansK 56 wz w.heap.size Y∧Y.length=n∧(Y.take j).map AV.p=(X.take j).map AV.p∧(∀ y∈Y,ansN.new (w.heap.size + 1) y)∧Below w.heap.size w wz) (fun i _=>n - (intOf i).toNat)
 case atStart=>exact ⟨_,rfl,0,_,by omega,rfl,HM.out w,by simp,by simp,fun y hy=>by rw [List.eq_of_mem_replicate hy];exact ansN.zero_new _,by (repeat first|exact bel0|assumption|refine bel1 ?_|refine bel2 ?_|refine bel3 ?_|refine belowT ?_ (by assumption)|refine bel5 ?_ (by simp;try omega))⟩
 case round=>
  obtain ⟨wr,rfl,j,Y,hj,rfl,hm,hl,hp,hnw,hbr⟩:=hrel
  have HP:=hide hp
  have HL:=hide hl
  have HN:=hide hnw
  clear hp hl hnw hmk
  by_cases hlt:j < n
  ·obtain ⟨b,off,x,rfl,hx,hxk,hb,kx⟩:=h.at hlt
   have HX:=hide hx
   have HW:=hide (HF.out x (List.mem_of_getElem? hx))
   have hxr:=ansK.below hxk hbr (Nat.le_refl _)
   have LX:=AV.lay (b:=b) (o:=off + j * 3) (fun i v h=>keepc hbr (kx i v h))
   have hlt':(j:Int) < (n:Int):=by omega
   have HG:=hide hm.lay.lt
   clear hx kx hxk
   dsimp only [AV.v] at HW
   obtain ⟨c0,c1,c2⟩:=LX
   go_wp2_with fail
   refine (HW.out _ (ansK.below hxr (B:=wr.heap.size) (by (repeat first|exact bel0|assumption|refine bel1 ?_|refine bel2 ?_|refine bel3 ?_|refine belowT ?_ (by assumption)|refine bel5 ?_ (by simp;try omega))) (Nat.le_refl _))).mono ?_
   rintro e w2 ⟨⟨y,rfl,hyk,hyn,hyp⟩,hb2⟩
   have b2:Below wr.heap.size wr w2:=by (repeat first|exact bel0|assumption|refine bel1 ?_|refine bel2 ?_|refine bel3 ?_|refine belowT ?_ (by assumption)|refine bel5 ?_ (by simp;try omega))
   replace hm:=hm.below b2
   have hgl:=hm.lay.lt
   have hgs:=HG.out
   have bw2:=belowT hbr b2
   have hjY:j < Y.length:=by rw [HL.out];exact hlt
   simp only [World.size_alloc] at hyn
   clear hb2 b2 HW hxr c0 c1 c2
   obtain ⟨u0,y0⟩:∃ u,w2.cell? ⟨w.heap.size,j * 3,none⟩=some u:=hm.at (j:=0) hjY (by decide)
   have s0:=hm.lay.ice (j * 3)
   obtain ⟨u1,y1⟩:∃ u,w2.cell? ⟨w.heap.size,j * 3 + 1,none⟩=some u:=hm.at (j:=1) hjY (by decide)
   have s1:=hm.lay.ice (j * 3 + 1)
   obtain ⟨u2,y2⟩:∃ u,w2.cell? ⟨w.heap.size,j * 3 + 2,none⟩=some u:=hm.at (j:=2) hjY (by decide)
   have s2:=hm.lay.ice (j * 3 + 2)
   dsimp only [AV.v]
   go_wp2
   have hoff:∀ z∈Y,ansK.off w.heap.size z:=fun z hz=>ansN.off (HN.out z hz) (by omega)
   have hput:=hm.put hjY hyk hoff (ansN.off hyn (by omega))
   have bput:=(putAll_but w.heap.size (ansK.cs y) w2 (j * ansK.k)).below (B:=w.heap.size) (Nat.le_refl _)
   exact ⟨⟨_,rfl,j + 1,_,by omega,by go_num,hput,by rw [List.length_set];exact HL.out,take_setK HX.out hjY HP.out hyp,fun z hz=>by
    rcases List.mem_or_eq_of_mem_set hz with hz|rfl
    ·exact HN.out z hz
    ·exact ansN.mono hyn (by omega),bw2.trans bput⟩,by simp [intOf];omega⟩
  ·obtain rfl:j=n:=by omega
   go_wp2
   go_ret
   have hp:=HP.out
   rw [List.take_of_length_le (by rw [HL.out];omega),List.take_of_length_le (by rw [hlen.out];omega)] at hp
   exact ⟨⟨_,_,rfl,hm,HL.out,hp,Nat.le_refl _,HN.out⟩,hbr⟩
theorem phand_c (h:NV) (w:World) (hk:h.ok w) (hcn:h.cn≤100000) (hgn:h.gn≤1000000) (hxs:∀ x∈h.G,x.n≤100000) :
  Calls Tryz.prog 88 #[h.v] w fun e w'=>(∃ q g X',e=.returned (NV.v ⟨h.s,h.w,h.c,some ⟨q,0,none⟩,h.cn,h.cn,some ⟨g,0,none⟩,h.gn,h.gn,X'⟩)∧Ints w' (some ⟨q,0,none⟩) h.cn h.cn h.c.d∧w.heap.size≤q∧q < g∧MineA w' g X'∧X'.length=h.gn∧X'.map AV.p=h.G.map AV.p)∧Below w.heap.size w w':=by
 have HL:=hide (fun w' h'=>panss_c h.ga h.gn h.gc h.G w' h' hgn (fun x hx w'' h''=>pans_c x w'' h'' (hxs x hx)))
 obtain ⟨x0,x1,x2,bw⟩:=three_boxes w h.cells NV.zero.cells h.cells 62 62 62
 have hok:=hk.below bw (Nat.le_refl _)
 rw [show h.v=.agg h.cells.toArray from rfl] at *
 obtain ⟨s,v,⟨k,z,u,t,d⟩,ca,cn,cc,ga,gn,gc,G⟩:=h
 dsimp only [NV.cells,NV.zero,zeroC] at *
 go_enter Tryz.func88,Tryz.ntmps88
 go_upto_region 2 with fail
 generalize ((w.alloc (.cells [.int .i64 s,.bool v,.int .i64 k,.int .i64 z,.int .i64 u,.int .i64 t,.slice ca cn cc,.slice ga gn gc].toArray 62)).alloc (.cells [.int .i64 0,.bool false,.int .i64 0,.int .i64 0,.int .i64 0,.int .i64 0,.slice none 0 0,.slice none 0 0].toArray 62)).alloc (.cells [.int .i64 s,.bool v,.int .i64 k,.int .i64 z,.int .i64 u,.int .i64 t,.slice ca cn cc,.slice ga gn gc].toArray 62)=w1 at *
 obtain ⟨c0,c1,c2,c3,c4,c5,c6,c7⟩:=x0.eight
 go_wp2_with fail
 refine (pwholeC_c ca cn cc ⟨k,z,u,t,d⟩ _ hok.c (by omega)).mono ?_
 rintro e w2 ⟨⟨q,rfl,iq,hq,hq2⟩,hb2⟩
 have hqw:w.heap.size + 1 + 1 < q:=by have:=x2.lt;omega
 clear c0 c1 c2 c3 c4 c5 c6 c7 hq
 dsimp only [cmdV] at *
 replace x0:=x0.below hb2
 replace x1:=x1.below hb2
 replace x2:=x2.below hb2
 replace hok:=hok.below hb2 (Nat.le_refl _)
 replace bw:=belowT bw hb2
 clear hb2
 obtain ⟨e0,e1,e2,e3,e4,e5,e6,e7⟩:=x2.eight
 have f0:=x2.ice 0
 have f1:=x2.ice 1
 have f2:=x2.ice 2
 have f3:=x2.ice 3
 have f4:=x2.ice 4
 have f5:=x2.ice 5
 have f6:=x2.ice 6
 have f7:=x2.ice 7
 go_upto_region 3 with fail
 have hbut:=(((((ButI.refl (w.heap.size + 1 + 1) w2).step 2 (.int .i64 k)).step 3 (.int .i64 z)).step 4 (.int .i64 u)).step 5 (.int .i64 t)).step 6 (.slice (some ⟨q,0,none⟩) cn cn)
 have y2:Lay _ _ [.int .i64 s,.bool v,.int .i64 k,.int .i64 z,.int .i64 u,.int .i64 t,.slice (some ⟨q,0,none⟩) cn cn,.slice ga gn gc]:=((((x2.set 2 (.int .i64 k)).set 3 (.int .i64 z)).set 4 (.int .i64 u)).set 5 (.int .i64 t)).set 6 (.slice (some ⟨q,0,none⟩) cn cn)
 replace x0:=x0.butI hbut (by omega)
 replace x1:=x1.butI hbut (by omega)
 have hgo:∀ R,w.heap.size≤R→NV.off R ⟨s,v,⟨k,z,u,t,d⟩,ca,cn,cc,ga,gn,gc,G⟩:=fun R hR=>hk.off hR
 replace hok:=hok.but hbut.but (hgo _ (by omega))
 replace iq:=iq.but hbut.but (.inr fun x e=>by cases e;simp;omega)
 replace bw:=bw.trans (hbut.below (B:=w.heap.size) (by omega))
 have hsz:=hbut.but.size
 clear x2 e0 e1 e2 e3 e4 e5 e6 e7 f0 f1 f2 f3 f4 f5 f6 f7 hbut
 generalize ((((w2.setCell ⟨w.heap.size + 1 + 1,2,none⟩ (.int .i64 k)).setCell ⟨w.heap.size + 1 + 1,3,none⟩ (.int .i64 z)).setCell ⟨w.heap.size + 1 + 1,4,none⟩ (.int .i64 u)).setCell ⟨w.heap.size + 1 + 1,5,none⟩ (.int .i64 t)).setCell ⟨w.heap.size + 1 + 1,6,none⟩ (.slice (some ⟨q,0,none⟩) cn cn)=w3 at *
 have hqs:q < w3.heap.size:=by omega
 have h7:=x0.cell 7 _ rfl
 go_wp2_with fail
 refine (HL.out _ (Answers.rows' hok.g)).mono ?_
 rintro e w4 ⟨⟨g,X',rfl,hm0,hl,hp,hg,hyn⟩,hb4⟩
 have hgB:w.heap.size + 1 + 1 < g:=by have:=y2.lt;omega
 have hqg:q < g:=by omega
 replace x1:=x1.below hb4
 replace y2:=y2.below hb4
 replace iq:=iq.below hb4 (Nat.le_refl _)
 replace bw:=belowT bw hb4
 have hm:MineA w4 g X':=⟨hm0.lay,hm0.ok,hyn,hm0.row⟩
 clear h7 hb4 hm0 x0
 have n7:=y2.cell 7 _ rfl
 have m7:=y2.ice 7
 go_upto_region 4 with fail
 have c2:=(ButI.refl (w.heap.size + 1 + 1) w4).step 7 (.slice (some ⟨g,0,none⟩) gn gn)
 replace iq:=iq.but c2.but (.inr fun x e=>by cases e;simp;omega)
 replace x1:=x1.butI c2 (by omega)
 have x2:Lay _ _ [.int .i64 s,.bool v,.int .i64 k,.int .i64 z,.int .i64 u,.int .i64 t,.slice (some ⟨q,0,none⟩) cn cn,.slice (some ⟨g,0,none⟩) gn gn]:=y2.set 7 (.slice (some ⟨g,0,none⟩) gn gn)
 replace hm:=hm.far1 ⟨w.heap.size + 1 + 1,7,none⟩ (.slice (some ⟨g,0,none⟩) gn gn) (by simp;omega)
 replace bw:=bw.trans (c2.below (B:=w.heap.size) (by omega))
 generalize w4.setCell ⟨w.heap.size + 1 + 1,7,none⟩ (.slice (some ⟨g,0,none⟩) gn gn)=w5 at *
 clear c2 y2 n7 m7
 obtain ⟨e0,e1,e2,e3,e4,e5,e6,e7⟩:=x1.eight
 have f0:=x1.ice 0
 have f1:=x1.ice 1
 have f2:=x1.ice 2
 have f3:=x1.ice 3
 have f4:=x1.ice 4
 have f5:=x1.ice 5
 have f6:=x1.ice 6
 have f7:=x1.ice 7
 obtain ⟨a0,a1,a2,a3,a4,a5,a6,a7⟩:=x2.eight
 go_wp2
 have zB:=((((((((x1.set 0 (.int .i64 s)).set 1 (.bool v)).set 2 (.int .i64 k)).set 3 (.int .i64 z)).set 4 (.int .i64 u)).set 5 (.int .i64 t)).set 6 (.slice (some ⟨q,0,none⟩) cn cn)).set 7 (.slice (some ⟨g,0,none⟩) gn gn))
 have hbut:=(((((((((ButI.refl (w.heap.size + 1) w5).step 0 (.int .i64 s)).step 1 (.bool v)).step 2 (.int .i64 k)).step 3 (.int .i64 z)).step 4 (.int .i64 u)).step 5 (.int .i64 t)).step 6 (.slice (some ⟨q,0,none⟩) cn cn)).step 7 (.slice (some ⟨g,0,none⟩) gn gn))
 have hm9:=(((((((hm.far1 ⟨w.heap.size + 1,0,none⟩ (.int .i64 s) (by simp;omega)).far1 ⟨w.heap.size + 1,1,none⟩ (.bool v) (by simp;omega)).far1 ⟨w.heap.size + 1,2,none⟩ (.int .i64 k) (by simp;omega)).far1 ⟨w.heap.size + 1,3,none⟩ (.int .i64 z) (by simp;omega)).far1 ⟨w.heap.size + 1,4,none⟩ (.int .i64 u) (by simp;omega)).far1 ⟨w.heap.size + 1,5,none⟩ (.int .i64 t) (by simp;omega)).far1 ⟨w.heap.size + 1,6,none⟩ (.slice (some ⟨q,0,none⟩) cn cn) (by simp;omega)).far1 ⟨w.heap.size + 1,7,none⟩ (.slice (some ⟨g,0,none⟩) gn gn) (by simp;omega)
 generalize ((((((((w5.setCell ⟨w.heap.size + 1,0,none⟩ (.int .i64 s)).setCell ⟨w.heap.size + 1,1,none⟩ (.bool v)).setCell ⟨w.heap.size + 1,2,none⟩ (.int .i64 k)).setCell ⟨w.heap.size + 1,3,none⟩ (.int .i64 z)).setCell ⟨w.heap.size + 1,4,none⟩ (.int .i64 u)).setCell ⟨w.heap.size + 1,5,none⟩ (.int .i64 t)).setCell ⟨w.heap.size + 1,6,none⟩ (.slice (some ⟨q,0,none⟩) cn cn)).setCell ⟨w.heap.size + 1,7,none⟩ (.slice (some ⟨g,0,none⟩) gn gn))=w9 at *
 obtain ⟨r0,r1,r2,r3,r4,r5,r6,r7⟩:=zB.eight
 exact bodyPost_ret (v:=.agg #[.int .i64 s,.bool v,.int .i64 k,.int .i64 z,.int .i64 u,.int .i64 t,.slice (some ⟨q,0,none⟩) cn cn,.slice (some ⟨g,0,none⟩) gn gn]) (by simp [results,Tryz.results88,go_sem,r0,r1,r2,r3,r4,r5,r6,r7]) rfl
  ⟨⟨q,g,X',rfl,iq.but hbut.but (.inr fun x e=>by cases e;simp;omega),by omega,by omega,hm9,hl,hp⟩,bw.trans (hbut.below (B:=w.heap.size) (by omega))⟩
end Go.Proofs.YtabafikicbkkdaaGreatDoor
namespace Go.Proofs.YtabafikicbkkdaaGreatDoor
open Go.RowKit
set_option linter.unusedVariables false
set_option maxHeartbeats 8000000
set_option maxRecDepth 100000
set_option linter.unusedSimpArgs false
theorem infoU8:(Tryz.prog.info? 5).map (fun i=>(i.zero,i.size,i.bytes))=some (some (.int .u8 0),1,1):=by kernel_rfl
theorem sizeU8:(Tryz.prog.info? 5).map (·.size)=some 1:=by kernel_rfl
theorem Byts.of_row {w:World} {g:Nat} {l:List UInt8} {t:TypeId} {fr:Nat×Nat} (hg:w.heap[g]?=some (.cells (bytC l).toArray t fr)) (hmax:l.length≤9223372036854775807) {n:Nat} (hn:l.length=n):Byts w (some ⟨g,0,none⟩) n n l:=
 Cel.of_row hg (by rw [bytC_len];exact hmax) (by rw [bytC_len];exact hn)
theorem djoin_none (a:Option Addr) (n c:Nat) (l:List UInt8) (b:Option Addr) (d:Nat) (w:World) (h1:Byts w a n c l) (hnm:n≤1000000) :
  Calls Tryz.prog 55 #[.slice a n c,.slice b 0 d] w fun e w'=>(e=.returned (.slice (some ⟨w.heap.size,0,none⟩) n n)∧Byts w' (some ⟨w.heap.size,0,none⟩) n n l)∧Below w.heap.size w w':=by
 have hmk:=run_make_row' (P:=Tryz.prog) 34 5 (.int .u8 0) 1 Tryz.underlying34 infoU8 rfl .i64 .i64 n (by omega) (by omega)
 have hl1:=h1.len
 go_enter Tryz.func55,Tryz.ntmps55
 go_wp2_with fail
 obtain ⟨w2,r2,g2,b2⟩:=copy_run (P:=Tryz.prog) (w.alloc (.cells (madeCells #[.int .u8 0] n) 5)) 34 34 3 5 Tryz.underlying34 sizeU8 (some ⟨w.heap.size,0,none⟩) a n n n c w.heap.size 0
  (madeCells #[.int .u8 0] n).toList 5 (heap_new _ _) (bytC l) (by rw [bytC_len,hl1];exact (Nat.min_self n).symm) (fun hp=>⟨rfl,Cel.src (h1.below (B:=w.heap.size) (by (repeat first|exact bel0|assumption|refine bel1 ?_|refine bel2 ?_|refine bel3 ?_|refine belowT ?_ (by assumption)|refine bel5 ?_ (by simp;try omega))) (Nat.le_refl _)) (by rw [bytC_len,hl1] at hp;exact hp)⟩) (by simp [size_madeCells,bytC_len,hl1]) (bytC_one l)
 rw [r2]
 have G2:=hide g2
 clear g2 r2
 go_wp2_with fail
 rw [run_copy_none (P:=Tryz.prog) _ 34 34 3 5 _ _ _ _ _ _ Tryz.underlying34 sizeU8 (by first|rfl|simp)]
 go_wp2
 go_ret
 have g2:=G2.out
 rw [splice_one _ _ (by simp [size_madeCells,bytC_len,hl1])] at g2
 exact ⟨⟨rfl,Byts.of_row g2 (by rw [hl1];omega) hl1⟩,(belowA (Below.refl _ _) _).trans b2⟩
theorem djoin_some (a:Option Addr) (n c:Nat) (l:List UInt8) (b:Option Addr) (m d:Nat) (k:List UInt8) (w:World) (h1:Byts w a n c l) (h2:Byts w b m d k) (hnm:n + m≤1000000) (hm:0 < m) :
  Calls Tryz.prog 55 #[.slice a n c,.slice b m d] w fun e w'=>(e=.returned (.slice (some ⟨w.heap.size,0,none⟩) (n + m) (n + m))∧Byts w' (some ⟨w.heap.size,0,none⟩) (n + m) (n + m) (l++k))∧Below w.heap.size w w':=by
 have hmk:=run_make_row' (P:=Tryz.prog) 34 5 (.int .u8 0) 1 Tryz.underlying34 infoU8 rfl .i64 .i64 (n + m) (by omega) (by omega)
 rw [Int.natCast_add] at hmk
 have hl1:=h1.len
 have hl2:=h2.len
 go_enter Tryz.func55,Tryz.ntmps55
 go_wp2_with fail
 obtain ⟨w2,r2,g2,b2⟩:=copy_run (P:=Tryz.prog) (w.alloc (.cells (madeCells #[.int .u8 0] (n + m)) 5)) 34 34 3 5 Tryz.underlying34 sizeU8 (some ⟨w.heap.size,0,none⟩) a (n + m) (n + m) n c w.heap.size 0
  (madeCells #[.int .u8 0] (n + m)).toList 5 (heap_new _ _) (bytC l) (by rw [bytC_len,hl1];exact (Nat.min_eq_left (by omega)).symm) (fun hp=>⟨rfl,Cel.src (h1.below (B:=w.heap.size) (by (repeat first|exact bel0|assumption|refine bel1 ?_|refine bel2 ?_|refine bel3 ?_|refine belowT ?_ (by assumption)|refine bel5 ?_ (by simp;try omega))) (Nat.le_refl _)) (by rw [bytC_len,hl1] at hp;exact hp)⟩) (by simp [size_madeCells,bytC_len,hl1]) (bytC_one l)
 have bw2:Below w.heap.size w w2:=(belowA (Below.refl _ _) _).trans b2
 obtain ⟨w3,r3,g3,b3⟩:=copy_run (P:=Tryz.prog) w2 34 34 3 5 Tryz.underlying34 sizeU8 (some ⟨w.heap.size,n,none⟩) b m m m d w.heap.size n
  _ 5 g2 (bytC k) (by rw [bytC_len,hl2];exact (Nat.min_self m).symm) (fun hp=>⟨rfl,Cel.src (h2.below (B:=w.heap.size) bw2 (Nat.le_refl _)) hm⟩) (by rw [length_splice _ _ _ (by simp [size_madeCells,bytC_len,hl1])];simp [size_madeCells,bytC_len,hl2]) (bytC_one k)
 rw [r2]
 have G3:=hide g3
 have R3:=hide r3
 clear g2 r2 g3 r3
 have hm0:¬ m=0:=by omega
 go_wp2_with fail
 rw [R3.out]
 go_wp2
 go_ret
 have g3:=G3.out
 have hs:=splice_two (madeCells #[.int .u8 0] (n + m)).toList (bytC l) (bytC k) (by simp [size_madeCells,bytC_len,hl1,hl2])
 rw [bytC_len,hl1] at hs
 rw [hs,bytC_app] at g3
 exact ⟨⟨rfl,Byts.of_row g3 (by rw [List.length_append,hl1,hl2];omega) (by rw [List.length_append,hl1,hl2])⟩,bw2.trans b3⟩
theorem djoin_c (a:Option Addr) (n c:Nat) (l:List UInt8) (b:Option Addr) (m d:Nat) (k:List UInt8) (w:World) (h1:Byts w a n c l) (h2:Byts w b m d k) (hnm:n + m≤1000000) :
  Calls Tryz.prog 55 #[.slice a n c,.slice b m d] w fun e w'=>(e=.returned (.slice (some ⟨w.heap.size,0,none⟩) (n + m) (n + m))∧Byts w' (some ⟨w.heap.size,0,none⟩) (n + m) (n + m) (l++k))∧Below w.heap.size w w':=by
 rcases Nat.eq_zero_or_pos m with hm|hm
 ·subst hm
  have hk:=h2.len
  rw [List.length_eq_zero_iff] at hk
  subst hk
  rw [List.append_nil,Nat.add_zero]
  exact djoin_none a n c l b d w h1 (by omega)
 ·exact djoin_some a n c l b m d k w h1 h2 hnm hm
theorem dsize_c (a:Option Addr) (n c:Nat) (b:Option Addr) (m d:Nat) (w:World) (hn:n≤140737488355328) (hm:m≤140737488355328) :
  Calls Tryz.prog 73 #[.agg #[.slice a n c,.slice b m d]] w fun e w'=>e=.returned (.int .i64 ((n + m:Nat):Int))∧Below w.heap.size w w':=by
 go_enter Tryz.func73,Tryz.ntmps73
 go_wp2
 go_ret
 exact ⟨ret_int (by omega),by (repeat first|exact bel0|assumption|refine bel1 ?_|refine bel2 ?_|refine bel3 ?_|refine belowT ?_ (by assumption)|refine bel5 ?_ (by simp;try omega))⟩
end Go.Proofs.YtabafikicbkkdaaGreatDoor
