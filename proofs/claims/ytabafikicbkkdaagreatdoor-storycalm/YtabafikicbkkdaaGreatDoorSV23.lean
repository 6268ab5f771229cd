/- The contracts of plain.CopyHand; no condition but that the hand reads as data, and is no greater than a machine bears. -/
import Derived.Test.YtabafikicbkkdaaGreatDoorSV14
import Derived.Test.YtabafikicbkkdaaGreatDoorSV22
import Derived.Test.YtabafikicbkkdaaGreatDoorSV12
import Derived.Test.YtabafikicbkkdaaGreatDoorSV11
import Derived.Test.YtabafikicbkkdaaGreatDoorSV1
import Derived.Test.YtabafikicbkkdaaGreatDoorSV19
import Derived.Test.YtabafikicbkkdaaGreatDoorSV2
import Derived.Deep.RegionHeld3
import Derived.Test.YtabafikicbkkdaaGreatDoorSV4
namespace Go.Proofs.YtabafikicbkkdaaGreatDoor
open Go.RowKit
set_option linter.unusedVariables false
set_option maxHeartbeats 8000000
set_option maxRecDepth 100000
set_option linter.unusedSimpArgs false
def ansK:Kin AV where
 k:=3
 cs:=AV.cells
 ok w x:=x.ok w
 off R x:=x.off R
 len _:=rfl
 one x:=x.cells_one
 below h _ hb hB:=Ints.below h hb hB
 but h hb ho:=AV.ok.but h hb ho
 far h hR:=AV.ok.off h hR
def ansN:NewK ansK where
 new B x:=x.new B
 off h hR:=h _ hR
 mono h hb:=AV.new.mono h hb
 zero:=AV.err 0
 zero_new B:=AV.err_new B 0
 zero_ok w:=AV.err_ok w 0
theorem AV.lay {w:World} {b o:Nat} {x:AV} (h:∀ j v,(ansK.cs x)[j]?=some v→w.cell? ⟨b,o + j,none⟩=some v):w.cell? ⟨b,o,none⟩=some (.int .i64 x.e)∧w.cell? ⟨b,o + 1,none⟩=some (.int .i64 x.t)∧w.cell? ⟨b,o + 2,none⟩=some (.slice x.a x.n x.c):=
 ⟨h 0 _ rfl,h 1 _ rfl,h 2 _ rfl⟩
theorem Answers.rows' {w:World} {a:Option Addr} {n c:Nat} {X:List AV} (h:Answers w a n c X):Rows' ansK w a n c X:=⟨h.len,h.le,h.max,h.nil,h.row,h.ok⟩
theorem pans_c (x:AV) (w:World) (h:x.ok w) (hn:x.n≤100000):Calls Tryz.prog 61 #[x.v] w (Copy1 ansK AV.v AV.p ansN x w):=
 (pwholeA_c x w h hn).mono fun e w' ⟨⟨q,h1,h2,h3,_⟩,h4⟩=>⟨⟨⟨x.e,x.t,some ⟨q,0,none⟩,x.n,x.n,x.d⟩,h1,h2,fun R hR=>.inr fun y e=>by cases e;simp;omega,rfl⟩,h4⟩
theorem panss_info:∃ i,Tryz.prog.info? 56=some i∧i.zero=some (.agg #[.int .i64 0,.int .i64 0,.slice none 0 0])∧i.size=3∧i.bytes≤1000:=by
 have h:(Tryz.prog.info? 56).map (fun i=>(i.zero,i.size,Nat.ble i.bytes 1000))=some (some (.agg #[.int .i64 0,.int .i64 0,.slice none 0 0]),3,true):=by kernel_rfl
 obtain ⟨i,hi,h⟩:=Option.map_eq_some_iff.1 h
 simp only [Prod.mk.injEq] at h
 exact ⟨i,hi,h.1,h.2.1,Nat.le_of_ble_eq_true h.2.2⟩
theorem panss_mk (n:Nat) (hn:n≤1000000) (w:World):(Instr.makeSlice 24 (.int .i64 (n:Int)) (.int .i64 (n:Int))).run Tryz.prog w=.ok (.slice (some ⟨w.heap.size,0,none⟩) n n) (w.alloc (.cells (ansK.cells (List.replicate n ansN.zero)).toArray 56)):=by
 obtain ⟨i,hi,hz,hs,hb⟩:=panss_info
 exact mkR ansK (P:=Tryz.prog) ansN.zero Tryz.underlying24 hi hz rfl rfl hs hb (by decide) n hn w
theorem panss_c (a:Option Addr) (n c:Nat) (X:List AV) (w:World) (h:Rows' ansK w a n c X) (hn:n≤1000000) (hF:∀ x∈X,∀ w':World,ansK.ok w' x→Calls Tryz.prog 61 #[x.v] w' (Copy1 ansK AV.v AV.p ansN x w')) :
  Calls Tryz.prog 114 #[.slice a n c,.func (Fn.func 61) #[] #[]] w (Copied ansK 56 AV.p ansN w n X):=by
 have hmk:=panss_mk n hn
 have HM:=hide (fun w'=>MineR.made ansK 56 ansN.zero ansN.zero_ok n w')
 generalize (ansK.cells (List.replicate n ansN.zero)).toArray=xs at *
 have hlen:=hide h.len
 have hmax:=h.max
 have hle:=h.le
 have HF:=hide hF
 clear hF
 go_enter Tryz.func114,Tryz.ntmps114
 go_wp2
 go_loopw [13] (fun i wr=>∃ wz:World,wz=wr∧∃ (j:Nat) (Y:List AV),j≤n∧i=.int .i64 (j:Nat)∧MineR ansK 56 wz w.heap.size Y∧Y.length=n∧(Y.take j).map AV.p=(X.take j).map AV.p∧(∀ y∈Y,ansN.new (w.heap.size + 1) y)∧Below w.heap.size w wz) (fun i _=>n - (intOf i).toNat)
 case atStart=>exact ⟨_,rfl,0,_,by omega,rfl,HM.out w,by simp,by simp,fun y hy=>by rw [List.eq_of_mem_replicate hy];exact ansN.zero_new _,by (repeat first|exact bel0|assumption|refine bel1 ?_|refine bel2 ?_|refine bel3 ?_|refine belowT ?_ (by assumption)|refine bel5 ?_ (by simp;try omega))⟩
 case round=>
  obtain ⟨wr,rfl,j,Y,hj,rfl,hm,hl,hp,hnw,hbr⟩:=hrel
  have HP:=hide hp
  have HL:=hide hl
  have HN:=hide hnw
  clear hp hl hnw hmk
  by_cases hlt:j < n
  ·obtain ⟨b,off,x,rfl,hx,hxk,hb,kx⟩:=h.at hlt
   have HX:=hide hx
   have HW:=hide (HF.out x (List.mem_of_getElem? hx))
   have hxr:=ansK.below hxk hbr (Nat.le_refl _)
   have LX:=AV.lay (b:=b) (o:=off + j * 3) (fun i v h=>keepc hbr (kx i v h))
   have hlt':(j:Int) < (n:Int):=by omega
   have HG:=hide hm.lay.lt
   clear hx kx hxk
   dsimp only [AV.v] at HW
   obtain ⟨c0,c1,c2⟩:=LX
   go_wp2_with fail
   refine (HW.out _ (ansK.below hxr (B:=wr.heap.size) (by (repeat first|exact bel0|assumption|refine bel1 ?_|refine bel2 ?_|refine bel3 ?_|refine belowT ?_ (by assumption)|refine bel5 ?_ (by simp;try omega))) (Nat.le_refl _))).mono ?_
   rintro e w2 ⟨⟨y,rfl,hyk,hyn,hyp⟩,hb2⟩
   have b2:Below wr.heap.size wr w2:=by (repeat first|exact bel0|assumption|refine bel1 ?_|refine bel2 ?_|refine bel3 ?_|refine belowT ?_ (by assumption)|refine bel5 ?_ (by simp;try omega))
   replace hm:=hm.below b2
   have hgl:=hm.lay.lt
   have hgs:=HG.out
   have bw2:=belowT hbr b2
   have hjY:j < Y.length:=by rw [HL.out];exact hlt
   simp only [World.size_alloc] at hyn
   clear hb2 b2 HW hxr c0 c1 c2
   obtain ⟨u0,y0⟩:∃ u,w2.cell? ⟨w.heap.size,j * 3,none⟩=some u:=hm.at (j:=0) hjY (by decide)
   have s0:=hm.lay.ice (j * 3)
   obtain ⟨u1,y1⟩:∃ u,w2.cell? ⟨w.heap.size,j * 3 + 1,none⟩=some u:=hm.at (j:=1) hjY (by decide)
   have s1:=hm.lay.ice (j * 3 + 1)
   obtain ⟨u2,y2⟩:∃ u,w2.cell? ⟨w.heap.size,j * 3 + 2,none⟩=some u:=hm.at (j:=2) hjY (by decide)
   have s2:=hm.lay.ice (j * 3 + 2)
   dsimp only [AV.v]
   go_wp2
   have hoff:∀ z∈Y,ansK.off w.heap.size z:=fun z hz=>ansN.off (HN.out z hz) (by omega)
   have hput:=hm.put hjY hyk hoff (ansN.off hyn (by omega))
   have bput:=(putAll_but w.heap.size (ansK.cs y) w2 (j * ansK.k)).below (B:=w.heap.size) (Nat.le_refl _)
   exact ⟨⟨_,rfl,j + 1,_,by omega,by go_num,hput,by rw [List.length_set];exact HL.out,take_setK HX.out hjY HP.out hyp,fun z hz=>by
    rcases List.mem_or_eq_of_mem_set hz with hz|rfl
    ·exact HN.out z hz
    ·exact ansN.mono hyn (by omega),bw2.trans bput⟩,by simp [intOf];omega⟩
  ·obtain rfl:j=n:=by omega
   go_wp2
   go_ret
   have hp:=HP.out
   rw [List.take_of_length_le (by rw [HL.out];omega),List.take_of_length_le (by rw [hlen.out];omega)] at hp
   exact ⟨⟨_,_,rfl,hm,HL.out,hp,Nat.le_refl _,HN.out⟩,hbr⟩
theorem phand_c (h:NV) (w:World) (hk:h.ok w) (hcn:h.cn≤100000) (hgn:h.gn≤1000000) (hxs:∀ x∈h.G,x.n≤100000) :
  Calls Tryz.prog 88 #[h.v] w fun e w'=>(∃ q g X',e=.returned (NV.v ⟨h.s,h.w,h.c,some ⟨q,0,none⟩,h.cn,h.cn,some ⟨g,0,none⟩,h.gn,h.gn,X'⟩)∧Ints w' (some ⟨q,0,none⟩) h.cn h.cn h.c.d∧w.heap.size≤q∧q < g∧MineA w' g X'∧X'.length=h.gn∧X'.map AV.p=h.G.map AV.p)∧Below w.heap.size w w':=by
 have HL:=hide (fun w' h'=>panss_c h.ga h.gn h.gc h.G w' h' hgn (fun x hx w'' h''=>pans_c x w'' h'' (hxs x hx)))
 obtain ⟨x0,x1,x2,bw⟩:=three_boxes w h.cells NV.zero.cells h.cells 62 62 62
 have hok:=hk.below bw (Nat.le_refl _)
 rw [show h.v=.agg h.cells.toArray from rfl] at *
 obtain ⟨s,v,⟨k,z,u,t,d⟩,ca,cn,cc,ga,gn,gc,G⟩:=h
 dsimp only [NV.cells,NV.zero,zeroC] at *
 go_enter Tryz.func88,Tryz.ntmps88
 go_upto_region 2 with fail
 generalize ((w.alloc (.cells [.int .i64 s,.bool v,.int .i64 k,.int .i64 z,.int .i64 u,.int .i64 t,.slice ca cn cc,.slice ga gn gc].toArray 62)).alloc (.cells [.int .i64 0,.bool false,.int .i64 0,.int .i64 0,.int .i64 0,.int .i64 0,.slice none 0 0,.slice none 0 0].toArray 62)).alloc (.cells [.int .i64 s,.bool v,.int .i64 k,.int .i64 z,.int .i64 u,.int .i64 t,.slice ca cn cc,.slice ga gn gc].toArray 62)=w1 at *
 obtain ⟨c0,c1,c2,c3,c4,c5,c6,c7⟩:=x0.eight
 go_wp2_with fail
 refine (pwholeC_c ca cn cc ⟨k,z,u,t,d⟩ _ hok.c (by omega)).mono ?_
 rintro e w2 ⟨⟨q,rfl,iq,hq,hq2⟩,hb2⟩
 have hqw:w.heap.size + 1 + 1 < q:=by have:=x2.lt;omega
 clear c0 c1 c2 c3 c4 c5 c6 c7 hq
 dsimp only [cmdV] at *
 replace x0:=x0.below hb2
 replace x1:=x1.below hb2
 replace x2:=x2.below hb2
 replace hok:=hok.below hb2 (Nat.le_refl _)
 replace bw:=belowT bw hb2
 clear hb2
 obtain ⟨e0,e1,e2,e3,e4,e5,e6,e7⟩:=x2.eight
 have f0:=x2.ice 0
 have f1:=x2.ice 1
 have f2:=x2.ice 2
 have f3:=x2.ice 3
 have f4:=x2.ice 4
 have f5:=x2.ice 5
 have f6:=x2.ice 6
 have f7:=x2.ice 7
 go_upto_region 3 with fail
 have hbut:=(((((ButI.refl (w.heap.size + 1 + 1) w2).step 2 (.int .i64 k)).step 3 (.int .i64 z)).step 4 (.int .i64 u)).step 5 (.int .i64 t)).step 6 (.slice (some ⟨q,0,none⟩) cn cn)
 have y2:Lay _ _ [.int .i64 s,.bool v,.int .i64 k,.int .i64 z,.int .i64 u,.int .i64 t,.slice (some ⟨q,0,none⟩) cn cn,.slice ga gn gc]:=((((x2.set 2 (.int .i64 k)).set 3 (.int .i64 z)).set 4 (.int .i64 u)).set 5 (.int .i64 t)).set 6 (.slice (some ⟨q,0,none⟩) cn cn)
 replace x0:=x0.butI hbut (by omega)
 replace x1:=x1.butI hbut (by omega)
 have hgo:∀ R,w.heap.size≤R→NV.off R ⟨s,v,⟨k,z,u,t,d⟩,ca,cn,cc,ga,gn,gc,G⟩:=fun R hR=>hk.off hR
 replace hok:=hok.but hbut.but (hgo _ (by omega))
 replace iq:=iq.but hbut.but (.inr fun x e=>by cases e;simp;omega)
 replace bw:=bw.trans (hbut.below (B:=w.heap.size) (by omega))
 have hsz:=hbut.but.size
 clear x2 e0 e1 e2 e3 e4 e5 e6 e7 f0 f1 f2 f3 f4 f5 f6 f7 hbut
 generalize ((((w2.setCell ⟨w.heap.size + 1 + 1,2,none⟩ (.int .i64 k)).setCell ⟨w.heap.size + 1 + 1,3,none⟩ (.int .i64 z)).setCell ⟨w.heap.size + 1 + 1,4,none⟩ (.int .i64 u)).setCell ⟨w.heap.size + 1 + 1,5,none⟩ (.int .i64 t)).setCell ⟨w.heap.size + 1 + 1,6,none⟩ (.slice (some ⟨q,0,none⟩) cn cn)=w3 at *
 have hqs:q < w3.heap.size:=by omega
 have h7:=x0.cell 7 _ rfl
 go_wp2_with fail
 refine (HL.out _ (Answers.rows' hok.g)).mono ?_
 rintro e w4 ⟨⟨g,X',rfl,hm0,hl,hp,hg,hyn⟩,hb4⟩
 have hgB:w.heap.size + 1 + 1 < g:=by have:=y2.lt;omega
 have hqg:q < g:=by omega
 replace x1:=x1.below hb4
 replace y2:=y2.below hb4
 replace iq:=iq.below hb4 (Nat.le_refl _)
 replace bw:=belowT bw hb4
 have hm:MineA w4 g X':=⟨hm0.lay,hm0.ok,hyn,hm0.row⟩
 clear h7 hb4 hm0 x0
 have n7:=y2.cell 7 _ rfl
 have m7:=y2.ice 7
 go_upto_region 4 with fail
 have c2:=(ButI.refl (w.heap.size + 1 + 1) w4).step 7 (.slice (some ⟨g,0,none⟩) gn gn)
 replace iq:=iq.but c2.but (.inr fun x e=>by cases e;simp;omega)
 replace x1:=x1.butI c2 (by omega)
 have x2:Lay _ _ [.int .i64 s,.bool v,.int .i64 k,.int .i64 z,.int .i64 u,.int .i64 t,.slice (some ⟨q,0,none⟩) cn cn,.slice (some ⟨g,0,none⟩) gn gn]:=y2.set 7 (.slice (some ⟨g,0,none⟩) gn gn)
 replace hm:=hm.far1 ⟨w.heap.size + 1 + 1,7,none⟩ (.slice (some ⟨g,0,none⟩) gn gn) (by simp;omega)
 replace bw:=bw.trans (c2.below (B:=w.heap.size) (by omega))
 generalize w4.setCell ⟨w.heap.size + 1 + 1,7,none⟩ (.slice (some ⟨g,0,none⟩) gn gn)=w5 at *
 clear c2 y2 n7 m7
 obtain ⟨e0,e1,e2,e3,e4,e5,e6,e7⟩:=x1.eight
 have f0:=x1.ice 0
 have f1:=x1.ice 1
 have f2:=x1.ice 2
 have f3:=x1.ice 3
 have f4:=x1.ice 4
 have f5:=x1.ice 5
 have f6:=x1.ice 6
 have f7:=x1.ice 7
 obtain ⟨a0,a1,a2,a3,a4,a5,a6,a7⟩:=x2.eight
 go_wp2
 have zB:=((((((((x1.set 0 (.int .i64 s)).set 1 (.bool v)).set 2 (.int .i64 k)).set 3 (.int .i64 z)).set 4 (.int .i64 u)).set 5 (.int .i64 t)).set 6 (.slice (some ⟨q,0,none⟩) cn cn)).set 7 (.slice (some ⟨g,0,none⟩) gn gn))
 have hbut:=(((((((((ButI.refl (w.heap.size + 1) w5).step 0 (.int .i64 s)).step 1 (.bool v)).step 2 (.int .i64 k)).step 3 (.int .i64 z)).step 4 (.int .i64 u)).step 5 (.int .i64 t)).step 6 (.slice (some ⟨q,0,none⟩) cn cn)).step 7 (.slice (some ⟨g,0,none⟩) gn gn))
 have hm9:=(((((((hm.far1 ⟨w.heap.size + 1,0,none⟩ (.int .i64 s) (by simp;omega)).far1 ⟨w.heap.size + 1,1,none⟩ (.bool v) (by simp;omega)).far1 ⟨w.heap.size + 1,2,none⟩ (.int .i64 k) (by simp;omega)).far1 ⟨w.heap.size + 1,3,none⟩ (.int .i64 z) (by simp;omega)).far1 ⟨w.heap.size + 1,4,none⟩ (.int .i64 u) (by simp;omega)).far1 ⟨w.heap.size + 1,5,none⟩ (.int .i64 t) (by simp;omega)).far1 ⟨w.heap.size + 1,6,none⟩ (.slice (some ⟨q,0,none⟩) cn cn) (by simp;omega)).far1 ⟨w.heap.size + 1,7,none⟩ (.slice (some ⟨g,0,none⟩) gn gn) (by simp;omega)
 generalize ((((((((w5.setCell ⟨w.heap.size + 1,0,none⟩ (.int .i64 s)).setCell ⟨w.heap.size + 1,1,none⟩ (.bool v)).setCell ⟨w.heap.size + 1,2,none⟩ (.int .i64 k)).setCell ⟨w.heap.size + 1,3,none⟩ (.int .i64 z)).setCell ⟨w.heap.size + 1,4,none⟩ (.int .i64 u)).setCell ⟨w.heap.size + 1,5,none⟩ (.int .i64 t)).setCell ⟨w.heap.size + 1,6,none⟩ (.slice (some ⟨q,0,none⟩) cn cn)).setCell ⟨w.heap.size + 1,7,none⟩ (.slice (some ⟨g,0,none⟩) gn gn))=w9 at *
 obtain ⟨r0,r1,r2,r3,r4,r5,r6,r7⟩:=zB.eight
 exact bodyPost_ret (v:=.agg #[.int .i64 s,.bool v,.int .i64 k,.int .i64 z,.int .i64 u,.int .i64 t,.slice (some ⟨q,0,none⟩) cn cn,.slice (some ⟨g,0,none⟩) gn gn]) (by simp [results,Tryz.results88,go_sem,r0,r1,r2,r3,r4,r5,r6,r7]) rfl
  ⟨⟨q,g,X',rfl,iq.but hbut.but (.inr fun x e=>by cases e;simp;omega),by omega,by omega,hm9,hl,hp⟩,bw.trans (hbut.below (B:=w.heap.size) (by omega))⟩
end Go.Proofs.YtabafikicbkkdaaGreatDoor
namespace Go.Proofs.YtabafikicbkkdaaGreatDoor
open Go.RowKit
set_option linter.unusedVariables false
set_option maxHeartbeats 8000000
set_option maxRecDepth 100000
set_option linter.unusedSimpArgs false
end Go.Proofs.YtabafikicbkkdaaGreatDoor
namespace Go.Proofs.YtabafikicbkkdaaGreatDoor
open Go.RowKit
set_option linter.unusedVariables false
set_option maxHeartbeats 8000000
set_option maxRecDepth 100000
set_option linter.unusedSimpArgs false
def HandNew (r:PN×Int) (w:World) (e:Ending) (w':World):Prop:=
 (∃ h':NV,e=.returned (.tuple #[h'.v,.int .i64 r.2])∧h'.ok w'∧h'.new w.heap.size∧h'.p=r.1)∧Below w.heap.size w w'
end Go.Proofs.YtabafikicbkkdaaGreatDoor
namespace Go.Proofs.YtabafikicbkkdaaGreatDoor
open Go.RowKit
set_option linter.unusedVariables false
set_option maxHeartbeats 8000000
set_option maxRecDepth 100000
set_option linter.unusedSimpArgs false
end Go.Proofs.YtabafikicbkkdaaGreatDoor
namespace Go.Proofs.YtabafikicbkkdaaGreatDoor
open Go.RowKit
set_option linter.unusedVariables false
set_option maxHeartbeats 8000000
set_option maxRecDepth 100000
set_option linter.unusedSimpArgs false
theorem len_more (n:Nat) (s:Int) (hn:n≤9223372036854775807) (hs:inB s 0 40=true):∃ m:Int,IntKind.i64.wrap ((n:Int) + 1)=m∧(s !=m)=!decide (s=(n:Int) + 1):=by
 have hs':0≤s∧s≤40:=by simp [inB] at hs;omega
 by_cases h:n=9223372036854775807
 ·subst h
  refine ⟨-9223372036854775808,by decide,?_⟩
  have e1:(s !=-9223372036854775808)=true:=by simp;omega
  rw [e1,Bool.eq_iff_iff]
  simp
  omega
 ·refine ⟨(n:Int) + 1,IntWalk.i64_in _ ⟨by omega,by omega⟩,?_⟩
  rw [Bool.eq_iff_iff]
  simp
end Go.Proofs.YtabafikicbkkdaaGreatDoor
namespace Go.Proofs.YtabafikicbkkdaaGreatDoor
open Go.RowKit
set_option linter.unusedVariables false
set_option maxHeartbeats 8000000
set_option maxRecDepth 100000
set_option linter.unusedSimpArgs false
theorem jasked_c (h:NV) (gw:Int) (hgw:IntKind.i64.wrap ((h.gn:Int) + 1)=gw) (w:World):Calls Tryz.prog 72 #[h.v] w fun e w'=>e=.returned (.int .i64 (if h.w then gw else (h.gn:Int)))∧Below w.heap.size w w':=by
 have x0:=Lay.made w h.cells 62
 have bw:Below w.heap.size w (w.alloc (.cells h.cells.toArray 62)):=by (repeat first|exact bel0|assumption|refine bel1 ?_|refine bel2 ?_|refine bel3 ?_|refine belowT ?_ (by assumption)|refine bel5 ?_ (by simp;try omega))
 rw [show h.v=.agg h.cells.toArray from rfl] at *
 obtain ⟨s,v,⟨k,z,u,t,d⟩,ca,cn,cc,ga,gn,gc,G⟩:=h
 dsimp only [NV.cells] at *
 have c1:=x0.cell 1 _ rfl
 have c7:=x0.cell 7 _ rfl
 cases v
 ·go_enter Tryz.func72,Tryz.ntmps72
  go_wp2
  go_ret
  exact ⟨rfl,bw⟩
 ·go_enter Tryz.func72,Tryz.ntmps72
  go_wp2
  go_ret
  exact ⟨rfl,bw⟩
theorem JCheck_c (h:NV) (w:World) (hS:Shapes w) (hk:h.ok w):Calls Tryz.prog 52 #[h.v] w fun e w'=>e=.returned (.int .i64 (checkN h.p))∧Below w.heap.size w w':=by
 have HSC:=hide (fun w' (h1:Ints w' h.ca h.cn h.cc h.c.d)=>cmdSame_c h.ca none h.cn 0 h.cc 0 h.c zeroC w' h1 (Ints.nilSlice w'))
 have HCC:=hide (fun w' hS' (h1:Ints w' h.ca h.cn h.cc h.c.d)=>cmdCheck_c h.ca h.cn h.cc h.c w' hS' h1)
 have HC:Hid (checkN h.p=if inB h.s 0 40=false then 3 else if firstA (h.G.map AV.p)≠0 then firstA (h.G.map AV.p) else if formN h.p=false then 4 else if h.w then checkC h.c else 0):=hide rfl
 have HL:Hid ((h.G.map AV.p).length=h.gn):=hide (by rw [List.length_map];exact hk.g.len)
 have HF:Hid (formN h.p=if h.w then decide (h.s=(h.gn:Int) + 1) else decide (h.s=(h.gn:Int))&&sameC h.c zeroC):=hide (by
  unfold formN
  rw [← HL.out]
  rfl)
 have hmax:=hk.g.max
 have hle:=hk.g.le
 have x0:=Lay.made w h.cells 62
 have bw:Below w.heap.size w (w.alloc (.cells h.cells.toArray 62)):=by (repeat first|exact bel0|assumption|refine bel1 ?_|refine bel2 ?_|refine bel3 ?_|refine belowT ?_ (by assumption)|refine bel5 ?_ (by simp;try omega))
 have hok:=hk.below bw (Nat.le_refl _)
 generalize checkN _=r at *
 generalize formN _=fm at *
 generalize checkC _=cc0 at *
 generalize sameC _ _=sc at *
 rw [show h.v=.agg h.cells.toArray from rfl] at *
 obtain ⟨s,v,⟨k,z,u,t,d⟩,ca,cn,cc,ga,gn,gc,G⟩:=h
 dsimp only [NV.cells,cmdV,zeroC] at *
 have hSw:=hS.below bw
 cases hi:inB s 0 40
 ·have HI:=hide hi
  have c0:=x0.cell 0 _ rfl
  by_cases h0:s < 0
  ·clear hi
   go_enter Tryz.func52,Tryz.ntmps52
   go_wp2
   go_ret
   exact ⟨ret_int (by rw [HC.out,if_pos HI.out]),bw⟩
  ·have h4:(40:Int) < s:=by simp [inB] at hi;omega
   clear hi
   go_enter Tryz.func52,Tryz.ntmps52
   go_wp2
   go_ret
   exact ⟨ret_int (by rw [HC.out,if_pos HI.out]),bw⟩
 ·obtain ⟨gw,hgw,hcmp⟩:=len_more gn s (by omega) hi
  have HI:Hid (inB s 0 40=true):=hide hi
  have HCMP:=hide hcmp
  have h0:¬ s < 0:=by simp [inB] at hi;omega
  have h4:¬ (40:Int) < s:=by simp [inB] at hi;omega
  clear hi hcmp
  have c0:=x0.cell 0 _ rfl
  have c7:=x0.cell 7 _ rfl
  go_enter Tryz.func52,Tryz.ntmps52
  go_wp2_with fail
  generalize w.alloc (.cells #[.int .i64 s,.bool v,.int .i64 k,.int .i64 z,.int .i64 u,.int .i64 t,.slice ca cn cc,.slice ga gn gc] 62)=w1 at *
  clear c0 c7
  go_loopw [17] (fun i wr=>∃ j:Nat,j≤gn∧i=.int .i64 j∧firstA ((G.map AV.p).take j)=0∧Below w1.heap.size w1 wr) (fun i _=>gn - (intOf i).toNat)
  case atStart=>exact ⟨0,by omega,rfl,rfl,Below.refl _ _⟩
  case round=>
   obtain ⟨j,hj,rfl,hp,hbr⟩:=hrel
   have HP:=hide hp
   clear hp
   rename_i wr
   by_cases hlt:j < gn
   ·obtain ⟨b,off,y,rfl,hy,hyk,hblt,ky⟩:=hok.g.at hlt
    have iy:=AV.ok.below hyk hbr (Nat.le_refl _)
    have HS:=hide (fun w' h'=>DCheckAnswer_c y w' h')
    have hyp:(G.map AV.p)[j]?=some y.p:=by rw [List.getElem?_map,hy];rfl
    have HBAD:Hid (checkA y.p≠0→r=checkA y.p):=hide (fun e=>by
     have e1:=firstA_at hyp HP.out e
     rw [HC.out,if_neg (by simp [HI.out]),e1,if_pos e])
    have HNEXT:Hid (checkA y.p=0→firstA ((G.map AV.p).take (j + 1))=0):=hide (fun e=>firstA_step hyp HP.out e)
    clear hy hyp
    generalize checkA y.p=cl at *
    obtain ⟨e1,t1,a1,n1,c1,d1⟩:=y
    dsimp only [AV.v,AV.cells] at HS ky
    have x0':=keepc hbr (ky 0 _ rfl)
    have x1':=keepc hbr (ky 1 _ rfl)
    have x2':=keepc hbr (ky 2 _ rfl)
    rw [Nat.add_zero] at x0'
    clear ky
    have hlt':(j:Int) < (gn:Int):=by omega
    go_wp2_with fail
    refine (HS.out _ (AV.ok.below iy (B:=wr.heap.size) (by (repeat first|exact bel0|assumption|refine bel1 ?_|refine bel2 ?_|refine bel3 ?_|refine belowT ?_ (by assumption)|refine bel5 ?_ (by simp;try omega))) (Nat.le_refl _))).mono ?_
    rintro e w9 ⟨rfl,hb9⟩
    have b9:Below w1.heap.size w1 w9:=by (repeat first|exact bel0|assumption|refine bel1 ?_|refine bel2 ?_|refine bel3 ?_|refine belowT ?_ (by assumption)|refine bel5 ?_ (by simp;try omega))
    clear hb9
    cases h9:cl !=0
    ·go_wp2
     simp at h9
     exact ⟨⟨j + 1,by omega,by go_num,HNEXT.out h9,b9⟩,by simp [intOf];omega⟩
    ·go_wp2
     go_ret
     simp at h9
     exact ⟨ret_int (HBAD.out h9).symm,belowT bw b9⟩
   ·obtain rfl:j=gn:=by omega
    have hp:=HP.out
    rw [List.take_of_length_le (by rw [HL.out];omega)] at hp
    have HQ:Hid (r=if fm=false then 4 else if v then cc0 else 0):=hide (by rw [HC.out,if_neg (by simp [HI.out]),if_neg (by simp [hp])])
    clear hp
    have c0:=keepc hbr (x0.cell 0 _ rfl)
    have c1:=keepc hbr (x0.cell 1 _ rfl)
    have c2:=keepc hbr (x0.cell 2 _ rfl)
    have c3:=keepc hbr (x0.cell 3 _ rfl)
    have c4:=keepc hbr (x0.cell 4 _ rfl)
    have c5:=keepc hbr (x0.cell 5 _ rfl)
    have c6:=keepc hbr (x0.cell 6 _ rfl)
    have c7:=keepc hbr (x0.cell 7 _ rfl)
    replace hok:=hok.below hbr (Nat.le_refl _)
    replace bw:=belowT bw hbr
    replace hSw:=hSw.below hbr
    clear x0 hbr h0 h4
    have HASK:=hide (fun w'=>jasked_c ⟨s,v,⟨k,z,u,t,d⟩,ca,cn,cc,ga,j,gc,G⟩ gw hgw w')
    dsimp only [NV.v] at HASK
    obtain ⟨ak,hak⟩:∃ m:Int,(if v then gw else (j:Int))=m:=⟨_,rfl⟩
    rw [hak] at HASK
    have HAK:=hide hak
    have hci:=hok.c
    clear hgw hak
    go_upto_region 10 with fail
    go_region_held3 (fun w'=>w'.cell? ⟨w.heap.size,0,none⟩=some (.int .i64 s)∧w'.cell? ⟨w.heap.size,1,none⟩=some (.bool v)∧w'.cell? ⟨w.heap.size,2,none⟩=some (.int .i64 k)∧w'.cell? ⟨w.heap.size,3,none⟩=some (.int .i64 z)∧w'.cell? ⟨w.heap.size,4,none⟩=some (.int .i64 u)∧w'.cell? ⟨w.heap.size,5,none⟩=some (.int .i64 t)∧w'.cell? ⟨w.heap.size,6,none⟩=some (.slice ca cn cc)∧w'.cell? ⟨w.heap.size,7,none⟩=some (.slice ga j gc)) ((first|(go_simp;done)|(simp [*,World.cell?_alloc_at,World.cell?_alloc_past,World.cell?_alloc_some,World.cell?_setCell_far];done))) (first|(go_at_call 72;refine (HASK.out _).mono ?_;rintro e w5 ⟨rfl,hb5⟩;(have g0:=keepc hb5 (p:=⟨w.heap.size,0,none⟩) (u:=.int .i64 s) (by (first|(go_simp;done)|(simp [*,World.cell?_alloc_at,World.cell?_alloc_past,World.cell?_alloc_some,World.cell?_setCell_far];done))));(have g1:=keepc hb5 (p:=⟨w.heap.size,1,none⟩) (u:=.bool v) (by (first|(go_simp;done)|(simp [*,World.cell?_alloc_at,World.cell?_alloc_past,World.cell?_alloc_some,World.cell?_setCell_far];done))));(have g2:=keepc hb5 (p:=⟨w.heap.size,2,none⟩) (u:=.int .i64 k) (by (first|(go_simp;done)|(simp [*,World.cell?_alloc_at,World.cell?_alloc_past,World.cell?_alloc_some,World.cell?_setCell_far];done))));(have g3:=keepc hb5 (p:=⟨w.heap.size,3,none⟩) (u:=.int .i64 z) (by (first|(go_simp;done)|(simp [*,World.cell?_alloc_at,World.cell?_alloc_past,World.cell?_alloc_some,World.cell?_setCell_far];done))));(have g4:=keepc hb5 (p:=⟨w.heap.size,4,none⟩) (u:=.int .i64 u) (by (first|(go_simp;done)|(simp [*,World.cell?_alloc_at,World.cell?_alloc_past,World.cell?_alloc_some,World.cell?_setCell_far];done))));(have g5:=keepc hb5 (p:=⟨w.heap.size,5,none⟩) (u:=.int .i64 t) (by (first|(go_simp;done)|(simp [*,World.cell?_alloc_at,World.cell?_alloc_past,World.cell?_alloc_some,World.cell?_setCell_far];done))));(have g6:=keepc hb5 (p:=⟨w.heap.size,6,none⟩) (u:=.slice ca cn cc) (by (first|(go_simp;done)|(simp [*,World.cell?_alloc_at,World.cell?_alloc_past,World.cell?_alloc_some,World.cell?_setCell_far];done))));(have g7:=keepc hb5 (p:=⟨w.heap.size,7,none⟩) (u:=.slice ga j gc) (by (first|(go_simp;done)|(simp [*,World.cell?_alloc_at,World.cell?_alloc_past,World.cell?_alloc_some,World.cell?_setCell_far];done))))))
    have b5:Below wr.heap.size wr w5:=by (repeat first|exact bel0|assumption|refine bel1 ?_|refine bel2 ?_|refine bel3 ?_|refine belowT ?_ (by assumption)|refine bel5 ?_ (by simp;try omega))
    replace hci:=hci.below b5 (Nat.le_refl _)
    replace hSw:=hSw.below b5
    replace bw:=belowT bw b5
    clear b5 hb5 HASK c0 c1 c2 c3 c4 c5 c6 c7
    cases v
    ·obtain rfl:(j:Int)=ak:=HAK.out
     cases hs:s !=(j:Int)
     ·have hs':s=(j:Int):=by simpa using hs
      have HS':Hid (fm=sc):=hide (by rw [HF.out,if_neg (by simp)];simp [hs'])
      clear hs'
      go_wp2_with fail
      refine (HSC.out _ hci).mono ?_
      rintro e w9 ⟨rfl,hb9⟩
      cases sc
      ·go_wp2
       go_ret
       exact ⟨ret_int (by rw [HQ.out,HS'.out];rfl),belowT bw hb9⟩
      ·go_wp2
       go_ret
       exact ⟨ret_int (by rw [HQ.out,HS'.out];rfl),belowT bw hb9⟩
     ·have HS':Hid (fm=false):=hide (by rw [HF.out,if_neg (by simp)];simp at hs;simp [hs])
      go_wp2
      go_ret
      exact ⟨ret_int (by rw [HQ.out,HS'.out];rfl),bw⟩
    ·obtain rfl:gw=ak:=HAK.out
     cases hs:decide (s=(j:Int) + 1)
     ·have hs2:(s !=gw)=true:=by rw [HCMP.out,hs];rfl
      have HS':Hid (fm=false):=hide (by rw [HF.out,if_pos rfl];exact hs)
      clear hs
      go_wp2
      go_ret
      exact ⟨ret_int (by rw [HQ.out,HS'.out];rfl),bw⟩
     ·have hs2:(s !=gw)=false:=by rw [HCMP.out,hs];rfl
      have HS':Hid (fm=true):=hide (by rw [HF.out,if_pos rfl];exact hs)
      clear hs
      go_wp2_with fail
      refine (HCC.out _ hSw hci).mono ?_
      rintro e w9 ⟨rfl,hb9⟩
      go_wp2
      go_ret
      exact ⟨ret_int (by rw [HQ.out,HS'.out];rfl),belowT bw hb9⟩
end Go.Proofs.YtabafikicbkkdaaGreatDoor
namespace Go.Proofs.YtabafikicbkkdaaGreatDoor
open Go.RowKit
set_option linter.unusedVariables false
set_option maxHeartbeats 8000000
set_option maxRecDepth 100000
set_option linter.unusedSimpArgs false
theorem MV.ok.below {w w':World} {m:MV} (h:m.ok w) {B:Nat} (hb:Below B w w') (hB:w.heap.size≤B):m.ok w':=⟨h.c.below hb hB,AV.ok.below h.x hb hB⟩
theorem wwithin_c (lo hi:Int) (w:World):Calls Tryz.prog 69 #[.int .i64 lo,.int .i64 hi] w fun e w'=>∃ P Q,e=.returned (.func (Fn.func 97) #[] #[.pointer (some ⟨P,0,none⟩),.pointer (some ⟨Q,0,none⟩)])∧Lay w' P [.int .i64 lo]∧Lay w' Q [.int .i64 hi]∧Below w.heap.size w w':=by
 obtain ⟨x0,x1,bw⟩:=two_boxes w [.int .i64 lo] [.int .i64 hi] 3 3
 go_enter Tryz.func69,Tryz.ntmps69
 go_wp2
 go_ret
 exact ⟨_,_,rfl,x0,x1,bw⟩
theorem wwithin1_c (v lo hi:Int) (P Q:Nat) (w:World) (hP:Lay w P [.int .i64 lo]) (hQ:Lay w Q [.int .i64 hi]):Calls Tryz.prog 97 #[.int .i64 v,.pointer (some ⟨P,0,none⟩),.pointer (some ⟨Q,0,none⟩)] w fun e w'=>e=.returned (.bool (inB v lo hi))∧w'=w:=by
 have c0:=hP.cell 0 _ rfl
 have c1:=hQ.cell 0 _ rfl
 go_enter Tryz.func97,Tryz.ntmps97
 go_wp2
 all_goals (go_ret;exact ⟨ret_bool (by unfold inB;rw [Bool.eq_iff_iff];simp;try omega),rfl⟩)
theorem checkMail_c (m:MV) (w:World) (hE:Env w) (hm:m.ok w):Calls Tryz.prog 49 #[m.v] w fun e w'=>e=.returned (.int .i64 (checkM m.p))∧Below w.heap.size w w':=by
 have HC:Hid (checkM m.p=if inB m.w 0 2=false∨inB m.s 1 40=false then 3 else if m.b then (if sameC m.c zeroC=false then 4 else checkA m.x.p) else (if sameA m.x.p zeroA=false then 4 else checkC m.c)):=hide rfl
 have HSC:=hide (fun w' h'=>cmdSame_c m.ca none m.cn 0 m.cc 0 m.c zeroC w' h' (Ints.nilSlice w'))
 have HCC:=hide (fun w' hS' h'=>cmdCheck_c m.ca m.cn m.cc m.c w' hS' h')
 have HSA:=hide (fun w' h'=>psameA_c m.x (AV.err 0) w' h' (AV.err_ok w' 0))
 have HCA:=hide (fun w' h'=>DCheckAnswer_c m.x w' h')
 rw [show (AV.err 0).p=zeroA from rfl] at HSA
 have x0:=Lay.made w m.cells 103
 have bw:=belowA (Below.refl _ w) (.cells m.cells.toArray 103)
 replace hm:=hm.below bw (Nat.le_refl _)
 replace hE:=hE.below bw
 generalize checkM m.p=r at *
 generalize checkA m.x.p=ca at *
 generalize sameA m.x.p zeroA=sa at *
 generalize sameC m.c zeroC=sc at *
 generalize checkC m.c=cc at *
 dsimp only [MV.v,MV.cells,AV.v,AV.err,cmdV,zeroC] at *
 go_enter Tryz.func49,Tryz.ntmps49
 go_wp2_with fail
 generalize w.alloc (.cells [.bool m.b,.int .i64 m.w,.int .i64 m.s,.int .i64 m.c.k,.int .i64 m.c.z,.int .i64 m.c.n,.int .i64 m.c.at',.slice m.ca m.cn m.cc,.int .i64 m.x.e,.int .i64 m.x.t,.slice m.x.a m.x.n m.x.c].toArray 103)=w1 at *
 refine (wwithin_c 0 2 _).mono ?_
 rintro e w2 ⟨P1,Q1,rfl,p1,q1,hb2⟩
 replace x0:=x0.below hb2
 replace hm:=hm.below hb2 (Nat.le_refl _)
 replace hE:=hE.below hb2
 replace bw:=belowT bw hb2
 clear hb2
 go_wp2_with fail
 refine (wwithin_c 1 40 _).mono ?_
 rintro e w3 ⟨P2,Q2,rfl,p2,q2,hb2⟩
 replace x0:=x0.below hb2
 replace p1:=p1.below hb2
 replace q1:=q1.below hb2
 replace hm:=hm.below hb2 (Nat.le_refl _)
 replace hE:=hE.below hb2
 replace bw:=belowT bw hb2
 clear hb2
 have c0:=x0.cell 0 _ rfl
 have c1:=x0.cell 1 _ rfl
 have c2:=x0.cell 2 _ rfl
 have c3:=x0.cell 3 _ rfl
 have c4:=x0.cell 4 _ rfl
 have c5:=x0.cell 5 _ rfl
 have c6:=x0.cell 6 _ rfl
 have c7:=x0.cell 7 _ rfl
 have c8:=x0.cell 8 _ rfl
 have c9:=x0.cell 9 _ rfl
 have c10:=x0.cell 10 _ rfl
 go_wp2_with fail
 refine (wwithin1_c m.w 0 2 P1 Q1 _ p1 q1).mono ?_
 rintro e w4 ⟨rfl,rfl⟩
 cases h1:inB m.w 0 2
 ·go_wp2
  go_ret
  exact ⟨ret_int (by rw [HC.out,if_pos (.inl h1)]),bw⟩
 ·go_wp2_with fail
  refine (wwithin1_c m.s 1 40 P2 Q2 _ p2 q2).mono ?_
  rintro e w5 ⟨rfl,rfl⟩
  cases h2:inB m.s 1 40
  ·go_wp2
   go_ret
   exact ⟨ret_int (by rw [HC.out,if_pos (.inr h2)]),bw⟩
  ·rw [if_neg (by simp [h1,h2])] at HC
   clear p1 q1 p2 q2
   cases hb:m.b
   ·rw [hb] at HC c0
    go_wp2_with fail
    refine (HSA.out _ hm.x).mono ?_
    rintro e w6 ⟨rfl,hb6⟩
    replace x0:=x0.below hb6
    replace hm:=hm.below hb6 (Nat.le_refl _)
    replace hE:=hE.below hb6
    replace bw:=belowT bw hb6
    clear hb6 c0 c1 c2 c8 c9 c10
    have c3:=x0.cell 3 _ rfl
    have c4:=x0.cell 4 _ rfl
    have c5:=x0.cell 5 _ rfl
    have c6:=x0.cell 6 _ rfl
    have c7:=x0.cell 7 _ rfl
    cases sa
    ·go_wp2
     go_ret
     exact ⟨ret_int (by rw [HC.out];simp),bw⟩
    ·go_wp2_with fail
     refine (HCC.out _ hE.shp hm.c).mono ?_
     rintro e w7 ⟨rfl,hb7⟩
     go_wp2
     go_ret
     exact ⟨ret_int (by rw [HC.out];simp),belowT bw hb7⟩
   ·rw [hb] at HC c0
    go_wp2_with fail
    refine (HSC.out _ hm.c).mono ?_
    rintro e w6 ⟨rfl,hb6⟩
    replace x0:=x0.below hb6
    replace hm:=hm.below hb6 (Nat.le_refl _)
    replace bw:=belowT bw hb6
    clear hb6 c0 c1 c2 c3 c4 c5 c6 c7 c8 c9 c10
    have c8:=x0.cell 8 _ rfl
    have c9:=x0.cell 9 _ rfl
    have c10:=x0.cell 10 _ rfl
    cases sc
    ·go_wp2
     go_ret
     exact ⟨ret_int (by rw [HC.out];simp),bw⟩
    ·go_wp2_with fail
     refine (HCA.out _ hm.x).mono ?_
     rintro e w7 ⟨rfl,hb7⟩
     go_wp2
     go_ret
     exact ⟨ret_int (by rw [HC.out];simp),belowT bw hb7⟩
theorem firstMs_c (a:Option Addr) (n c:Nat) (X:List MV) (w:World) (hE:Env w) (h:Rows' mailK w a n c X) (hF:∀ x∈X,∀ w':World,Env w'→mailK.ok w' x→Calls Tryz.prog 49 #[x.v] w' fun e w''=>e=.returned (.int .i64 (checkM x.p))∧Below w'.heap.size w' w'') :
  Calls Tryz.prog 48 #[.slice a n c,.func (Fn.func 49) #[] #[]] w fun e w'=>e=.returned (.int .i64 (firstM (X.map MV.p)))∧Below w.heap.size w w':=by
 have hlen:=hide h.len
 have hmax:=h.max
 have hle:=h.le
 have HF:=hide hF
 clear hF
 go_enter Tryz.func48,Tryz.ntmps48
 go_wp2
 go_loopw [10] (fun i wr=>∃ wz:World,wz=wr∧∃ (j:Nat),j≤n∧i=.int .i64 (j:Nat)∧firstM (X.map MV.p)=firstM ((X.drop j).map MV.p)∧Below w.heap.size w wz) (fun i _=>n - (intOf i).toNat)
 case atStart=>exact ⟨_,rfl,0,by omega,rfl,rfl,Below.refl _ _⟩
 case round=>
  obtain ⟨wr,rfl,j,hj,rfl,hp,hbr⟩:=hrel
  have HP:=hide hp
  clear hp
  by_cases hlt:j < n
  ·obtain ⟨b,off,x,rfl,hx,hxk,hb,kx⟩:=h.at hlt
   have HX:Hid (firstM ((X.drop j).map MV.p)=if checkM x.p≠0 then checkM x.p else firstM ((X.drop (j + 1)).map MV.p)):=hide (by
    obtain ⟨g1,g2⟩:=List.getElem?_eq_some_iff.1 hx
    rw [List.drop_eq_getElem_cons g1,g2,List.map_cons]
    rfl)
   have HW:=hide (HF.out x (List.mem_of_getElem? hx))
   have hxr:=mailK.below hxk hbr (Nat.le_refl _)
   have LX:=MV.lay (b:=b) (o:=off + j * 11) (fun i v h=>keepc hbr (kx i v h))
   have hlt':(j:Int) < (n:Int):=by omega
   have hEr:=hE.below hbr
   clear hx kx hxk
   generalize checkM x.p=ck at *
   dsimp only [MV.v] at HW
   obtain ⟨c0,c1,c2,c3,c4,c5,c6,c7,c8,c9,c10⟩:=LX
   go_wp2_with fail
   refine (HW.out _ (hEr.below (by (repeat first|exact bel0|assumption|refine bel1 ?_|refine bel2 ?_|refine bel3 ?_|refine belowT ?_ (by assumption)|refine bel5 ?_ (by simp;try omega)))) (mailK.below hxr (B:=wr.heap.size) (by (repeat first|exact bel0|assumption|refine bel1 ?_|refine bel2 ?_|refine bel3 ?_|refine belowT ?_ (by assumption)|refine bel5 ?_ (by simp;try omega))) (Nat.le_refl _))).mono ?_
   rintro e w2 ⟨rfl,hb2⟩
   have b2:Below wr.heap.size wr w2:=by (repeat first|exact bel0|assumption|refine bel1 ?_|refine bel2 ?_|refine bel3 ?_|refine belowT ?_ (by assumption)|refine bel5 ?_ (by simp;try omega))
   have bw2:=belowT hbr b2
   clear hb2 b2 HW hxr hEr c0 c1 c2 c3 c4 c5 c6 c7 c8 c9 c10
   cases h0:ck !=0
   ·go_wp2
    exact ⟨⟨_,rfl,j + 1,by omega,by go_num,by rw [HP.out,HX.out,if_neg (by simpa using h0)],bw2⟩,by simp [intOf];omega⟩
   ·go_wp2
    go_ret
    exact ⟨ret_int (by rw [HP.out,HX.out,if_pos (by simpa using h0)]),bw2⟩
  ·obtain rfl:j=n:=by omega
   go_wp2
   go_ret
   exact ⟨ret_int (by rw [HP.out,List.drop_eq_nil_of_le (by rw [hlen.out];omega)];rfl),hbr⟩
theorem firstNs_c (a:Option Addr) (n c:Nat) (X:List NV) (w:World) (hE:Env w) (h:Rows' handK w a n c X) (hF:∀ x∈X,∀ w':World,Env w'→handK.ok w' x→Calls Tryz.prog 52 #[x.v] w' fun e w''=>e=.returned (.int .i64 (checkN x.p))∧Below w'.heap.size w' w'') :
  Calls Tryz.prog 51 #[.slice a n c,.func (Fn.func 52) #[] #[]] w fun e w'=>e=.returned (.int .i64 (firstN (X.map NV.p)))∧Below w.heap.size w w':=by
 have hlen:=hide h.len
 have hmax:=h.max
 have hle:=h.le
 have HF:=hide hF
 clear hF
 go_enter Tryz.func51,Tryz.ntmps51
 go_wp2
 go_loopw [10] (fun i wr=>∃ wz:World,wz=wr∧∃ (j:Nat),j≤n∧i=.int .i64 (j:Nat)∧firstN (X.map NV.p)=firstN ((X.drop j).map NV.p)∧Below w.heap.size w wz) (fun i _=>n - (intOf i).toNat)
 case atStart=>exact ⟨_,rfl,0,by omega,rfl,rfl,Below.refl _ _⟩
 case round=>
  obtain ⟨wr,rfl,j,hj,rfl,hp,hbr⟩:=hrel
  have HP:=hide hp
  clear hp
  by_cases hlt:j < n
  ·obtain ⟨b,off,x,rfl,hx,hxk,hb,kx⟩:=h.at hlt
   have HX:Hid (firstN ((X.drop j).map NV.p)=if checkN x.p≠0 then checkN x.p else firstN ((X.drop (j + 1)).map NV.p)):=hide (by
    obtain ⟨g1,g2⟩:=List.getElem?_eq_some_iff.1 hx
    rw [List.drop_eq_getElem_cons g1,g2,List.map_cons]
    rfl)
   have HW:=hide (HF.out x (List.mem_of_getElem? hx))
   have hxr:=handK.below hxk hbr (Nat.le_refl _)
   have LX:=NV.lay (b:=b) (o:=off + j * 8) (fun i v h=>keepc hbr (kx i v h))
   have hlt':(j:Int) < (n:Int):=by omega
   have hEr:=hE.below hbr
   clear hx kx hxk
   generalize checkN x.p=ck at *
   dsimp only [NV.v] at HW
   obtain ⟨c0,c1,c2,c3,c4,c5,c6,c7⟩:=LX
   go_wp2_with fail
   refine (HW.out _ (hEr.below (by (repeat first|exact bel0|assumption|refine bel1 ?_|refine bel2 ?_|refine bel3 ?_|refine belowT ?_ (by assumption)|refine bel5 ?_ (by simp;try omega)))) (handK.below hxr (B:=wr.heap.size) (by (repeat first|exact bel0|assumption|refine bel1 ?_|refine bel2 ?_|refine bel3 ?_|refine belowT ?_ (by assumption)|refine bel5 ?_ (by simp;try omega))) (Nat.le_refl _))).mono ?_
   rintro e w2 ⟨rfl,hb2⟩
   have b2:Below wr.heap.size wr w2:=by (repeat first|exact bel0|assumption|refine bel1 ?_|refine bel2 ?_|refine bel3 ?_|refine belowT ?_ (by assumption)|refine bel5 ?_ (by simp;try omega))
   have bw2:=belowT hbr b2
   clear hb2 b2 HW hxr hEr c0 c1 c2 c3 c4 c5 c6 c7
   cases h0:ck !=0
   ·go_wp2
    exact ⟨⟨_,rfl,j + 1,by omega,by go_num,by rw [HP.out,HX.out,if_neg (by simpa using h0)],bw2⟩,by simp [intOf];omega⟩
   ·go_wp2
    go_ret
    exact ⟨ret_int (by rw [HP.out,HX.out,if_pos (by simpa using h0)]),bw2⟩
  ·obtain rfl:j=n:=by omega
   go_wp2
   go_ret
   exact ⟨ret_int (by rw [HP.out,List.drop_eq_nil_of_le (by rw [hlen.out];omega)];rfl),hbr⟩
end Go.Proofs.YtabafikicbkkdaaGreatDoor
