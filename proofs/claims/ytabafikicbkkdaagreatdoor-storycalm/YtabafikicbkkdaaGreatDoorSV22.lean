/- The contract of plain.CopyDesk; no condition but that the desk reads as data, and is no greater than a machine bears; and what a right desk is. -/
import Derived.Test.YtabafikicbkkdaaGreatDoorSV14
import Derived.Test.YtabafikicbkkdaaGreatDoorSV21
import Derived.Deep.RegionHeld3
import Derived.Test.YtabafikicbkkdaaGreatDoorSV10
import Derived.Test.YtabafikicbkkdaaGreatDoorSV1
import Derived.Test.YtabafikicbkkdaaGreatDoorSV11
import Derived.Test.YtabafikicbkkdaaGreatDoorSV2
namespace Go.Proofs.YtabafikicbkkdaaGreatDoor
open Go.RowKit
set_option linter.unusedVariables false
set_option maxHeartbeats 4000000
set_option maxRecDepth 100000
set_option linter.unusedSimpArgs false
theorem pdesk_c (d:DV) (w:World) (h:d.ok w) (h1:d.zn≤1000000) (h2:∀ z∈d.Z,z.n≤100000) (h3:d.kn≤100000) :
  Calls Tryz.prog 81 #[d.v] w fun e w'=>(∃ d':DV,e=.returned d'.v∧d'.ok w'∧d'.new w.heap.size∧d'.p=d.p)∧Below w.heap.size w w':=by
 obtain ⟨za,zn,zc,Z,ka,kn,kc,bk,bh,bt⟩:=d
 obtain ⟨hz,hk⟩:=h
 dsimp only [DV.v,DV.p] at *
 obtain ⟨x0,xR,bw⟩:=two_boxes w [.slice za zn zc,.slice ka kn kc,.int .i64 bh,.int .i64 bt] [.slice none 0 0,.slice none 0 0,.int .i64 0,.int .i64 0] 30 30
 replace hz:=hz.below bw (Nat.le_refl _)
 replace hk:=hk.below bw (Nat.le_refl _)
 go_enter Tryz.func81,Tryz.ntmps81
 go_upto_region 1 with fail
 generalize (w.alloc (.cells [.slice za zn zc,.slice ka kn kc,.int .i64 bh,.int .i64 bt].toArray 30)).alloc (.cells [.slice none 0 0,.slice none 0 0,.int .i64 0,.int .i64 0].toArray 30)=w0 at *
 have c0:=x0.cell 0 _ rfl
 have c1:=x0.cell 1 _ rfl
 have c2:=x0.cell 2 _ rfl
 have c3:=x0.cell 3 _ rfl
 have hgl:=xR.lt
 go_region_held3 (fun w'=>w'.cell? ⟨w.heap.size,0,none⟩=some (.slice za zn zc)∧w'.cell? ⟨w.heap.size,1,none⟩=some (.slice ka kn kc)∧w'.cell? ⟨w.heap.size,2,none⟩=some (.int .i64 bh)∧w'.cell? ⟨w.heap.size,3,none⟩=some (.int .i64 bt)) ((first|(go_simp;done)|(simp [*,World.cell?_alloc_at,World.cell?_alloc_past,World.cell?_alloc_some,World.cell?_setCell_far];done))) (first
  |(go_at_call 108;refine (pcopyZones_c za zn zc Z _ (by refine Zones.below hz (B:=w0.heap.size) ?_ (Nat.le_refl _);clear bw;(repeat first|exact bel0|assumption|refine bel1 ?_|refine bel2 ?_|refine bel3 ?_|refine belowT ?_ (by assumption)|refine bel5 ?_ (by simp;try omega))) h1 h2).mono ?_;rintro e w1 ⟨⟨g,Y,rfl,hm,hl,hp,hg,hyn⟩,hb1⟩;(have g0:=keepc hb1 (p:=⟨w.heap.size,0,none⟩) (u:=.slice za zn zc) (by (first|(go_simp;done)|(simp [*,World.cell?_alloc_at,World.cell?_alloc_past,World.cell?_alloc_some,World.cell?_setCell_far];done))));(have g1:=keepc hb1 (p:=⟨w.heap.size,1,none⟩) (u:=.slice ka kn kc) (by (first|(go_simp;done)|(simp [*,World.cell?_alloc_at,World.cell?_alloc_past,World.cell?_alloc_some,World.cell?_setCell_far];done))));(have g2:=keepc hb1 (p:=⟨w.heap.size,2,none⟩) (u:=.int .i64 bh) (by (first|(go_simp;done)|(simp [*,World.cell?_alloc_at,World.cell?_alloc_past,World.cell?_alloc_some,World.cell?_setCell_far];done))));(have g3:=keepc hb1 (p:=⟨w.heap.size,3,none⟩) (u:=.int .i64 bt) (by (first|(go_simp;done)|(simp [*,World.cell?_alloc_at,World.cell?_alloc_past,World.cell?_alloc_some,World.cell?_setCell_far];done)))))
  |(go_at_call 109;refine (pbook_c ka kn kc ⟨bk,bh,bt⟩ _ (by refine Ints.below hk (B:=w0.heap.size) ?_ (Nat.le_refl _);clear bw;(repeat first|exact bel0|assumption|refine bel1 ?_|refine bel2 ?_|refine bel3 ?_|refine belowT ?_ (by assumption)|refine bel5 ?_ (by simp;try omega))) h3).mono ?_;rintro e w2 ⟨⟨q,rfl,iq,hq,lq⟩,hb2⟩;(dsimp only [bookV]);(have k0:=keepc hb2 (p:=⟨w.heap.size,0,none⟩) (u:=.slice za zn zc) (by (first|(go_simp;done)|(simp [*,World.cell?_alloc_at,World.cell?_alloc_past,World.cell?_alloc_some,World.cell?_setCell_far];done))));(have k1:=keepc hb2 (p:=⟨w.heap.size,1,none⟩) (u:=.slice ka kn kc) (by (first|(go_simp;done)|(simp [*,World.cell?_alloc_at,World.cell?_alloc_past,World.cell?_alloc_some,World.cell?_setCell_far];done))));(have k2:=keepc hb2 (p:=⟨w.heap.size,2,none⟩) (u:=.int .i64 bh) (by (first|(go_simp;done)|(simp [*,World.cell?_alloc_at,World.cell?_alloc_past,World.cell?_alloc_some,World.cell?_setCell_far];done))));(have k3:=keepc hb2 (p:=⟨w.heap.size,3,none⟩) (u:=.int .i64 bt) (by (first|(go_simp;done)|(simp [*,World.cell?_alloc_at,World.cell?_alloc_past,World.cell?_alloc_some,World.cell?_setCell_far];done))));(have xR2:=xR.below (w':=w2) (by clear bw;(repeat first|exact bel0|assumption|refine bel1 ?_|refine bel2 ?_|refine bel3 ?_|refine belowT ?_ (by assumption)|refine bel5 ?_ (by simp;try omega))));(have e0:=xR2.cell 0 _ rfl);(have e1:=xR2.cell 1 _ rfl);(have e2:=xR2.cell 2 _ rfl);(have e3:=xR2.cell 3 _ rfl);(have f0:=xR2.ice 0);(have f1:=xR2.ice 1);(have f2:=xR2.ice 2);(have f3:=xR2.ice 3)))
 have b12:Below w1.heap.size w1 w2:=by clear bw;(repeat first|exact bel0|assumption|refine bel1 ?_|refine bel2 ?_|refine bel3 ?_|refine belowT ?_ (by assumption)|refine bel5 ?_ (by simp;try omega))
 have b02:Below w0.heap.size w0 w2:=by clear bw b12;(repeat first|exact bel0|assumption|refine bel1 ?_|refine bel2 ?_|refine bel3 ?_|refine belowT ?_ (by assumption)|refine bel5 ?_ (by simp;try omega))
 have hq1:=hb2.size
 have hs1:=hb1.size
 simp at hq hg hq1 hs1
 have bw2:=belowT bw b02
 have hg1:=hm.lay.lt
 replace hm:=(hm.below b12).mine hl (by omega) hyn
 clear hb1 hb2 c0 c1 c2 c3 xR bw b12 b02 hz hk x0
 go_wp2
 have zB:=(((xR2.set 0 (.slice (some ⟨g,0,none⟩) zn zn)).set 1 (.slice (some ⟨q,0,none⟩) kn kn)).set 2 (.int .i64 bh)).set 3 (.int .i64 bt)
 have hbut:=((((ButI.refl (w.heap.size + 1) w2).step 0 (.slice (some ⟨g,0,none⟩) zn zn)).step 1 (.slice (some ⟨q,0,none⟩) kn kn)).step 2 (.int .i64 bh)).step 3 (.int .i64 bt)
 generalize (((w2.setCell ⟨w.heap.size + 1,0,none⟩ (.slice (some ⟨g,0,none⟩) zn zn)).setCell ⟨w.heap.size + 1,1,none⟩ (.slice (some ⟨q,0,none⟩) kn kn)).setCell ⟨w.heap.size + 1,2,none⟩ (.int .i64 bh)).setCell ⟨w.heap.size + 1,3,none⟩ (.int .i64 bt)=w9 at *
 have z0:=zB.cell 0 _ rfl
 have z1:=zB.cell 1 _ rfl
 have z2:=zB.cell 2 _ rfl
 have z3:=zB.cell 3 _ rfl
 have hoff:∀ R,R < g→(⟨some ⟨g,0,none⟩,zn,zn,Y,some ⟨q,0,none⟩,kn,kn,⟨bk,bh,bt⟩⟩:DV).off R:=fun R hR=>
  ⟨.inr fun x e=>by cases e;simp;omega,fun z hz=>zoneN.off (hyn z hz) (by omega),.inr fun x e=>by cases e;simp;omega⟩
 exact bodyPost_ret (v:=.agg #[.slice (some ⟨g,0,none⟩) zn zn,.slice (some ⟨q,0,none⟩) kn kn,.int .i64 bh,.int .i64 bt]) (by simp [results,Tryz.results81,go_sem,z0,z1,z2,z3]) rfl
  ⟨⟨⟨some ⟨g,0,none⟩,zn,zn,Y,some ⟨q,0,none⟩,kn,kn,⟨bk,bh,bt⟩⟩,rfl,DV.ok.but ⟨hm.zs,iq⟩ hbut.but (hoff _ (by omega)),fun R hR=>hoff R (by omega),by simp [hp]⟩,bw2.trans (hbut.below (B:=w.heap.size) (by omega))⟩
theorem desk_small {d:DV} {w:World} (h:d.ok w) (hd:checkD d.p=0):d.zn≤1000000∧(∀ z∈d.Z,z.n≤100000)∧d.kn≤100000:=by
 obtain ⟨hcz,hcb⟩:=checkD_ok hd
 obtain ⟨h4,_,_,_,_⟩:=zs_four h.z hcz
 have e:=h.k.len
 obtain ⟨x,y,z,hh⟩:=checkB_ok hcb
 have e2:d.b.k=[x,y,z]:=hh.1
 rw [e2] at e
 refine ⟨by omega,fun z hz=>?_,by simp at e;omega⟩
 have e8:=checkZs_few hcz z hz
 have:=(h.z.ok z hz).len
 omega
theorem dwhole_c (d:DV) (w:World) (h:d.ok w) (hd:checkD d.p=0) :
  Calls Tryz.prog 81 #[d.v] w fun e w'=>(∃ d':DV,e=.returned d'.v∧d'.ok w'∧d'.new w.heap.size∧d'.p=d.p)∧Below w.heap.size w w':=by
 obtain ⟨h1,h2,h3⟩:=desk_small h hd
 exact pdesk_c d w h h1 h2 h3
end Go.Proofs.YtabafikicbkkdaaGreatDoor
namespace Go.Proofs.YtabafikicbkkdaaGreatDoor
open Go.RowKit
set_option linter.unusedVariables false
set_option maxHeartbeats 4000000
set_option maxRecDepth 100000
set_option linter.unusedSimpArgs false
def lastK:Kin LV where
 k:=4
 cs:=LV.cells
 ok w y:=y.ok w
 off R y:=y.off R
 len _:=rfl
 one y:=y.cells_one
 below h _ hb hB:=LV.ok.below h hb hB
 but h hb ho:=LV.ok.but h hb ho
 far h hR:=LV.ok.off h hR
def lastN:NewK lastK where
 new B y:=∀ R,R < B→y.off R
 off h hR:=h _ hR
 mono h hb:=fun R hR=>h R (by omega)
 zero:=LV.zero
 zero_new _:=fun R _=>.inl rfl
 zero_ok w:=LV.zero_ok w
theorem LV.lay {w:World} {b o:Nat} {y:LV} (h:∀ j v,(lastK.cs y)[j]?=some v→w.cell? ⟨b,o + j,none⟩=some v):w.cell? ⟨b,o,none⟩=some (.int .i64 y.s)∧w.cell? ⟨b,o + 1,none⟩=some (.int .i64 y.x.e)∧w.cell? ⟨b,o + 2,none⟩=some (.int .i64 y.x.t)∧w.cell? ⟨b,o + 3,none⟩=some (.slice y.x.a y.x.n y.x.c):=
 ⟨h 0 _ rfl,h 1 _ rfl,h 2 _ rfl,h 3 _ rfl⟩
theorem Lasts.rows' {w:World} {a:Option Addr} {n c:Nat} {L:List LV} (h:Lasts w a n c L):Rows' lastK w a n c L:=⟨h.len,h.le,h.max,h.nil,h.row,h.ok⟩
theorem plast_c (y:LV) (w:World) (h:y.ok w) (hn:y.x.n≤100000):Calls Tryz.prog 83 #[y.v] w (Copy1 lastK LV.v LV.p lastN y w):=by
 obtain ⟨s,⟨ee,tt,a,n,c,l⟩⟩:=y
 have hI:Ints w a n c l:=h
 have HA:=hide (fun w' h'=>pwholeA_c ⟨ee,tt,a,n,c,l⟩ w' h' hn)
 dsimp only [LV.v,AV.v] at *
 have xR:=Lay.made1 w (.cells #[.int .i64 s,.int .i64 ee,.int .i64 tt,.slice a n c] 97) [.int .i64 0,.int .i64 0,.int .i64 0,.slice none 0 0] 97
 clear h
 go_enter Tryz.func83,Tryz.ntmps83
 go_upto_region 1 with fail
 go_region_held3 (fun w'=>w'.cell? ⟨w.heap.size,0,none⟩=some (.int .i64 s)∧w'.cell? ⟨w.heap.size,1,none⟩=some (.int .i64 ee)∧w'.cell? ⟨w.heap.size,2,none⟩=some (.int .i64 tt)∧w'.cell? ⟨w.heap.size,3,none⟩=some (.slice a n c)) ((first|(go_simp;done)|(simp [*,World.cell?_alloc_at,World.cell?_alloc_past,World.cell?_alloc_some,World.cell?_setCell_far];done))) (first|(go_at_call 61;refine (HA.out _ (by refine Ints.below hI (B:=w.heap.size) ?_ (Nat.le_refl _);(repeat first|exact bel0|assumption|refine bel1 ?_|refine bel2 ?_|refine bel3 ?_|refine belowT ?_ (by assumption)|refine bel5 ?_ (by simp;try omega)))).mono ?_;rintro e w1 ⟨⟨q,rfl,i1,hq,hq2⟩,hb1⟩;(have g0:=keepc hb1 (p:=⟨w.heap.size,0,none⟩) (u:=.int .i64 s) (by (first|(go_simp;done)|(simp [*,World.cell?_alloc_at,World.cell?_alloc_past,World.cell?_alloc_some,World.cell?_setCell_far];done))));(have g1:=keepc hb1 (p:=⟨w.heap.size,1,none⟩) (u:=.int .i64 ee) (by (first|(go_simp;done)|(simp [*,World.cell?_alloc_at,World.cell?_alloc_past,World.cell?_alloc_some,World.cell?_setCell_far];done))));(have g2:=keepc hb1 (p:=⟨w.heap.size,2,none⟩) (u:=.int .i64 tt) (by (first|(go_simp;done)|(simp [*,World.cell?_alloc_at,World.cell?_alloc_past,World.cell?_alloc_some,World.cell?_setCell_far];done))));(have g3:=keepc hb1 (p:=⟨w.heap.size,3,none⟩) (u:=.slice a n c) (by (first|(go_simp;done)|(simp [*,World.cell?_alloc_at,World.cell?_alloc_past,World.cell?_alloc_some,World.cell?_setCell_far];done))));(have xR1:=xR.below (w':=w1) (by (repeat first|exact bel0|assumption|refine bel1 ?_|refine bel2 ?_|refine bel3 ?_|refine belowT ?_ (by assumption)|refine bel5 ?_ (by simp;try omega))));(have e0:=xR1.cell 0 _ rfl);(have e1:=xR1.cell 1 _ rfl);(have e2:=xR1.cell 2 _ rfl);(have e3:=xR1.cell 3 _ rfl);(have f0:=xR1.ice 0);(have f1:=xR1.ice 1);(have f2:=xR1.ice 2);(have f3:=xR1.ice 3)))
 have bw:Below w.heap.size w w1:=by (repeat first|exact bel0|assumption|refine bel1 ?_|refine bel2 ?_|refine bel3 ?_|refine belowT ?_ (by assumption)|refine bel5 ?_ (by simp;try omega))
 simp at hq
 clear hb1 g0 g1 g2 g3 xR
 go_wp2
 have zB:=(((xR1.set 0 (.int .i64 s)).set 1 (.int .i64 ee)).set 2 (.int .i64 tt)).set 3 (.slice (some ⟨q,0,none⟩) n n)
 have hbut:=((((ButI.refl (w.heap.size + 1) w1).step 0 (.int .i64 s)).step 1 (.int .i64 ee)).step 2 (.int .i64 tt)).step 3 (.slice (some ⟨q,0,none⟩) n n)
 generalize (((w1.setCell ⟨w.heap.size + 1,0,none⟩ (.int .i64 s)).setCell ⟨w.heap.size + 1,1,none⟩ (.int .i64 ee)).setCell ⟨w.heap.size + 1,2,none⟩ (.int .i64 tt)).setCell ⟨w.heap.size + 1,3,none⟩ (.slice (some ⟨q,0,none⟩) n n)=w9 at *
 have z0:=zB.cell 0 _ rfl
 have z1:=zB.cell 1 _ rfl
 have z2:=zB.cell 2 _ rfl
 have z3:=zB.cell 3 _ rfl
 exact bodyPost_ret (v:=.agg #[.int .i64 s,.int .i64 ee,.int .i64 tt,.slice (some ⟨q,0,none⟩) n n]) (by simp [results,Tryz.results83,go_sem,z0,z1,z2,z3]) rfl
  ⟨⟨⟨s,⟨ee,tt,some ⟨q,0,none⟩,n,n,l⟩⟩,rfl,Ints.but i1 hbut.but (.inr fun x e=>by cases e;simp;omega),fun R hR=>.inr fun x e=>by cases e;simp;omega,rfl⟩,bw.trans (hbut.below (B:=w.heap.size) (by omega))⟩
theorem plasts_info:∃ i,Tryz.prog.info? 97=some i∧i.zero=some (.agg #[.int .i64 0,.int .i64 0,.int .i64 0,.slice none 0 0])∧i.size=4∧i.bytes≤1000:=by
 have h:(Tryz.prog.info? 97).map (fun i=>(i.zero,i.size,Nat.ble i.bytes 1000))=some (some (.agg #[.int .i64 0,.int .i64 0,.int .i64 0,.slice none 0 0]),4,true):=by kernel_rfl
 obtain ⟨i,hi,h⟩:=Option.map_eq_some_iff.1 h
 simp only [Prod.mk.injEq] at h
 exact ⟨i,hi,h.1,h.2.1,Nat.le_of_ble_eq_true h.2.2⟩
theorem plasts_mk (n:Nat) (hn:n≤1000000) (w:World):(Instr.makeSlice 31 (.int .i64 (n:Int)) (.int .i64 (n:Int))).run Tryz.prog w=.ok (.slice (some ⟨w.heap.size,0,none⟩) n n) (w.alloc (.cells (lastK.cells (List.replicate n lastN.zero)).toArray 97)):=by
 obtain ⟨i,hi,hz,hs,hb⟩:=plasts_info
 exact mkR lastK (P:=Tryz.prog) lastN.zero Tryz.underlying31 hi hz rfl rfl hs hb (by decide) n hn w
theorem plasts_c (a:Option Addr) (n c:Nat) (X:List LV) (w:World) (h:Rows' lastK w a n c X) (hn:n≤1000000) (hF:∀ x∈X,∀ w':World,lastK.ok w' x→Calls Tryz.prog 83 #[x.v] w' (Copy1 lastK LV.v LV.p lastN x w')) :
  Calls Tryz.prog 82 #[.slice a n c,.func (Fn.func 83) #[] #[]] w (Copied lastK 97 LV.p lastN w n X):=by
 have hmk:=plasts_mk n hn
 have HM:=hide (fun w'=>MineR.made lastK 97 lastN.zero lastN.zero_ok n w')
 generalize (lastK.cells (List.replicate n lastN.zero)).toArray=xs at *
 have hlen:=hide h.len
 have hmax:=h.max
 have hle:=h.le
 have HF:=hide hF
 clear hF
 go_enter Tryz.func82,Tryz.ntmps82
 go_wp2
 go_loopw [13] (fun i wr=>∃ wz:World,wz=wr∧∃ (j:Nat) (Y:List LV),j≤n∧i=.int .i64 (j:Nat)∧MineR lastK 97 wz w.heap.size Y∧Y.length=n∧(Y.take j).map LV.p=(X.take j).map LV.p∧(∀ y∈Y,lastN.new (w.heap.size + 1) y)∧Below w.heap.size w wz) (fun i _=>n - (intOf i).toNat)
 case atStart=>exact ⟨_,rfl,0,_,by omega,rfl,HM.out w,by simp,by simp,fun y hy=>by rw [List.eq_of_mem_replicate hy];exact lastN.zero_new _,by (repeat first|exact bel0|assumption|refine bel1 ?_|refine bel2 ?_|refine bel3 ?_|refine belowT ?_ (by assumption)|refine bel5 ?_ (by simp;try omega))⟩
 case round=>
  obtain ⟨wr,rfl,j,Y,hj,rfl,hm,hl,hp,hnw,hbr⟩:=hrel
  have HP:=hide hp
  have HL:=hide hl
  have HN:=hide hnw
  clear hp hl hnw hmk
  by_cases hlt:j < n
  ·obtain ⟨b,off,x,rfl,hx,hxk,hb,kx⟩:=h.at hlt
   have HX:=hide hx
   have HW:=hide (HF.out x (List.mem_of_getElem? hx))
   have hxr:=lastK.below hxk hbr (Nat.le_refl _)
   have LX:=LV.lay (b:=b) (o:=off + j * 4) (fun i v h=>keepc hbr (kx i v h))
   have hlt':(j:Int) < (n:Int):=by omega
   have HG:=hide hm.lay.lt
   clear hx kx hxk
   dsimp only [LV.v] at HW
   obtain ⟨c0,c1,c2,c3⟩:=LX
   go_wp2_with fail
   refine (HW.out _ (lastK.below hxr (B:=wr.heap.size) (by (repeat first|exact bel0|assumption|refine bel1 ?_|refine bel2 ?_|refine bel3 ?_|refine belowT ?_ (by assumption)|refine bel5 ?_ (by simp;try omega))) (Nat.le_refl _))).mono ?_
   rintro e w2 ⟨⟨y,rfl,hyk,hyn,hyp⟩,hb2⟩
   have b2:Below wr.heap.size wr w2:=by (repeat first|exact bel0|assumption|refine bel1 ?_|refine bel2 ?_|refine bel3 ?_|refine belowT ?_ (by assumption)|refine bel5 ?_ (by simp;try omega))
   replace hm:=hm.below b2
   have hgl:=hm.lay.lt
   have hgs:=HG.out
   have bw2:=belowT hbr b2
   have hjY:j < Y.length:=by rw [HL.out];exact hlt
   simp only [World.size_alloc] at hyn
   clear hb2 b2 HW hxr c0 c1 c2 c3
   obtain ⟨u0,y0⟩:∃ u,w2.cell? ⟨w.heap.size,j * 4,none⟩=some u:=hm.at (j:=0) hjY (by decide)
   have s0:=hm.lay.ice (j * 4)
   obtain ⟨u1,y1⟩:∃ u,w2.cell? ⟨w.heap.size,j * 4 + 1,none⟩=some u:=hm.at (j:=1) hjY (by decide)
   have s1:=hm.lay.ice (j * 4 + 1)
   obtain ⟨u2,y2⟩:∃ u,w2.cell? ⟨w.heap.size,j * 4 + 2,none⟩=some u:=hm.at (j:=2) hjY (by decide)
   have s2:=hm.lay.ice (j * 4 + 2)
   obtain ⟨u3,y3⟩:∃ u,w2.cell? ⟨w.heap.size,j * 4 + 3,none⟩=some u:=hm.at (j:=3) hjY (by decide)
   have s3:=hm.lay.ice (j * 4 + 3)
   dsimp only [LV.v]
   go_wp2
   have hoff:∀ z∈Y,lastK.off w.heap.size z:=fun z hz=>lastN.off (HN.out z hz) (by omega)
   have hput:=hm.put hjY hyk hoff (lastN.off hyn (by omega))
   have bput:=(putAll_but w.heap.size (lastK.cs y) w2 (j * lastK.k)).below (B:=w.heap.size) (Nat.le_refl _)
   exact ⟨⟨_,rfl,j + 1,_,by omega,by go_num,hput,by rw [List.length_set];exact HL.out,take_setK HX.out hjY HP.out hyp,fun z hz=>by
    rcases List.mem_or_eq_of_mem_set hz with hz|rfl
    ·exact HN.out z hz
    ·exact lastN.mono hyn (by omega),bw2.trans bput⟩,by simp [intOf];omega⟩
  ·obtain rfl:j=n:=by omega
   go_wp2
   go_ret
   have hp:=HP.out
   rw [List.take_of_length_le (by rw [HL.out];omega),List.take_of_length_le (by rw [hlen.out];omega)] at hp
   exact ⟨⟨_,_,rfl,hm,HL.out,hp,Nat.le_refl _,HN.out⟩,hbr⟩
theorem phall_c (h:HV) (w:World) (hk:h.ok w) (h1:h.d.zn≤1000000) (h2:∀ z∈h.d.Z,z.n≤100000) (h3:h.d.kn≤100000) (h4:h.n≤1000000) (h5:∀ y∈h.L,y.x.n≤100000) :
  Calls Tryz.prog 59 #[h.v] w fun e w'=>(∃ (d':DV) (g:Nat) (L':List LV),e=.returned (HV.v ⟨d',some ⟨g,0,none⟩,h.n,h.n,L'⟩)∧d'.ok w'∧MineR lastK 97 w' g L'∧L'.length=h.n∧d'.new w.heap.size∧d'.off g∧w.heap.size≤g∧d'.p=h.d.p∧L'.map LV.p=h.L.map LV.p∧∀ y∈L',lastN.new (g + 1) y)∧Below w.heap.size w w':=by
 obtain ⟨x0,xR,bw⟩:=two_boxes w h.cells [.slice none 0 0,.slice none 0 0,.int .i64 0,.int .i64 0,.slice none 0 0] 33 33
 replace hk:=hk.below bw (Nat.le_refl _)
 have HD:=hide (fun w' h'=>pdesk_c h.d w' h' h1 h2 h3)
 have HL:=hide (fun w' h'=>plasts_c h.a h.n h.c h.L w' h' h4 (fun x hx w'' h''=>plast_c x w'' h'' (h5 x hx)))
 dsimp only [HV.v,DV.v,HV.cells] at *
 go_enter Tryz.func59,Tryz.ntmps59
 go_upto_region 1 with fail
 generalize (w.alloc (.cells [.slice h.d.za h.d.zn h.d.zc,.slice h.d.ka h.d.kn h.d.kc,.int .i64 h.d.b.h,.int .i64 h.d.b.t,.slice h.a h.n h.c].toArray 33)).alloc (.cells [.slice none 0 0,.slice none 0 0,.int .i64 0,.int .i64 0,.slice none 0 0].toArray 33)=w0 at *
 have c0:=x0.cell 0 _ rfl
 have c1:=x0.cell 1 _ rfl
 have c2:=x0.cell 2 _ rfl
 have c3:=x0.cell 3 _ rfl
 have c4:=x0.cell 4 _ rfl
 have hgl:=xR.lt
 go_region_held3 (fun w'=>w'.cell? ⟨w.heap.size,0,none⟩=some (.slice h.d.za h.d.zn h.d.zc)∧w'.cell? ⟨w.heap.size,1,none⟩=some (.slice h.d.ka h.d.kn h.d.kc)∧w'.cell? ⟨w.heap.size,2,none⟩=some (.int .i64 h.d.b.h)∧w'.cell? ⟨w.heap.size,3,none⟩=some (.int .i64 h.d.b.t)∧w'.cell? ⟨w.heap.size,4,none⟩=some (.slice h.a h.n h.c)) ((first|(go_simp;done)|(simp [*,World.cell?_alloc_at,World.cell?_alloc_past,World.cell?_alloc_some,World.cell?_setCell_far];done))) (first
  |(go_at_call 81;refine (HD.out _ (by refine DV.ok.below hk.d (B:=w0.heap.size) ?_ (Nat.le_refl _);clear bw;(repeat first|exact bel0|assumption|refine bel1 ?_|refine bel2 ?_|refine bel3 ?_|refine belowT ?_ (by assumption)|refine bel5 ?_ (by simp;try omega)))).mono ?_;rintro e w1 ⟨⟨d',rfl,hd,hdn,hdp⟩,hb1⟩;(dsimp only [DV.v]);(have g0:=keepc hb1 (p:=⟨w.heap.size,0,none⟩) (u:=.slice h.d.za h.d.zn h.d.zc) (by (first|(go_simp;done)|(simp [*,World.cell?_alloc_at,World.cell?_alloc_past,World.cell?_alloc_some,World.cell?_setCell_far];done))));(have g1:=keepc hb1 (p:=⟨w.heap.size,1,none⟩) (u:=.slice h.d.ka h.d.kn h.d.kc) (by (first|(go_simp;done)|(simp [*,World.cell?_alloc_at,World.cell?_alloc_past,World.cell?_alloc_some,World.cell?_setCell_far];done))));(have g2:=keepc hb1 (p:=⟨w.heap.size,2,none⟩) (u:=.int .i64 h.d.b.h) (by (first|(go_simp;done)|(simp [*,World.cell?_alloc_at,World.cell?_alloc_past,World.cell?_alloc_some,World.cell?_setCell_far];done))));(have g3:=keepc hb1 (p:=⟨w.heap.size,3,none⟩) (u:=.int .i64 h.d.b.t) (by (first|(go_simp;done)|(simp [*,World.cell?_alloc_at,World.cell?_alloc_past,World.cell?_alloc_some,World.cell?_setCell_far];done))));(have g4:=keepc hb1 (p:=⟨w.heap.size,4,none⟩) (u:=.slice h.a h.n h.c) (by (first|(go_simp;done)|(simp [*,World.cell?_alloc_at,World.cell?_alloc_past,World.cell?_alloc_some,World.cell?_setCell_far];done)))))
  |(go_at_call 82;refine (HL.out _ (by refine Rows'.below (Lasts.rows' hk.l) (B:=w0.heap.size) ?_ (Nat.le_refl _);clear bw;(repeat first|exact bel0|assumption|refine bel1 ?_|refine bel2 ?_|refine bel3 ?_|refine belowT ?_ (by assumption)|refine bel5 ?_ (by simp;try omega)))).mono ?_;rintro e w2 ⟨⟨g,L',rfl,hm,hl,hp,hg,hyn⟩,hb2⟩;(have k0:=keepc hb2 (p:=⟨w.heap.size,0,none⟩) (u:=.slice h.d.za h.d.zn h.d.zc) (by (first|(go_simp;done)|(simp [*,World.cell?_alloc_at,World.cell?_alloc_past,World.cell?_alloc_some,World.cell?_setCell_far];done))));(have k1:=keepc hb2 (p:=⟨w.heap.size,1,none⟩) (u:=.slice h.d.ka h.d.kn h.d.kc) (by (first|(go_simp;done)|(simp [*,World.cell?_alloc_at,World.cell?_alloc_past,World.cell?_alloc_some,World.cell?_setCell_far];done))));(have k2:=keepc hb2 (p:=⟨w.heap.size,2,none⟩) (u:=.int .i64 h.d.b.h) (by (first|(go_simp;done)|(simp [*,World.cell?_alloc_at,World.cell?_alloc_past,World.cell?_alloc_some,World.cell?_setCell_far];done))));(have k3:=keepc hb2 (p:=⟨w.heap.size,3,none⟩) (u:=.int .i64 h.d.b.t) (by (first|(go_simp;done)|(simp [*,World.cell?_alloc_at,World.cell?_alloc_past,World.cell?_alloc_some,World.cell?_setCell_far];done))));(have k4:=keepc hb2 (p:=⟨w.heap.size,4,none⟩) (u:=.slice h.a h.n h.c) (by (first|(go_simp;done)|(simp [*,World.cell?_alloc_at,World.cell?_alloc_past,World.cell?_alloc_some,World.cell?_setCell_far];done))));(have xR2:=xR.below (w':=w2) (by clear bw;(repeat first|exact bel0|assumption|refine bel1 ?_|refine bel2 ?_|refine bel3 ?_|refine belowT ?_ (by assumption)|refine bel5 ?_ (by simp;try omega))));(have e0:=xR2.cell 0 _ rfl);(have e1:=xR2.cell 1 _ rfl);(have e2:=xR2.cell 2 _ rfl);(have e3:=xR2.cell 3 _ rfl);(have e4:=xR2.cell 4 _ rfl);(have f0:=xR2.ice 0);(have f1:=xR2.ice 1);(have f2:=xR2.ice 2);(have f3:=xR2.ice 3);(have f4:=xR2.ice 4)))
 have b12:Below w1.heap.size w1 w2:=by clear bw;(repeat first|exact bel0|assumption|refine bel1 ?_|refine bel2 ?_|refine bel3 ?_|refine belowT ?_ (by assumption)|refine bel5 ?_ (by simp;try omega))
 have b02:Below w0.heap.size w0 w2:=by clear bw b12;(repeat first|exact bel0|assumption|refine bel1 ?_|refine bel2 ?_|refine bel3 ?_|refine belowT ?_ (by assumption)|refine bel5 ?_ (by simp;try omega))
 have hs1:=hb1.size
 simp at hg hs1 hdn
 have hdg:=hd.off hg
 have bw2:=belowT bw b02
 replace hd:=hd.below b12 (Nat.le_refl _)
 clear hb1 hb2 c0 c1 c2 c3 c4 xR bw b12 b02 hk x0
 go_wp2
 have zB:=((((xR2.set 0 (.slice d'.za d'.zn d'.zc)).set 1 (.slice d'.ka d'.kn d'.kc)).set 2 (.int .i64 d'.b.h)).set 3 (.int .i64 d'.b.t)).set 4 (.slice (some ⟨g,0,none⟩) h.n h.n)
 have hbut:=(((((ButI.refl (w.heap.size + 1) w2).step 0 (.slice d'.za d'.zn d'.zc)).step 1 (.slice d'.ka d'.kn d'.kc)).step 2 (.int .i64 d'.b.h)).step 3 (.int .i64 d'.b.t)).step 4 (.slice (some ⟨g,0,none⟩) h.n h.n)
 have hbb:=hbut.but
 have hm9:=hm.away (k:=w.heap.size + 1) [.slice d'.za d'.zn d'.zc,.slice d'.ka d'.kn d'.kc,.int .i64 d'.b.h,.int .i64 d'.b.t,.slice (some ⟨g,0,none⟩) h.n h.n] 0 (by omega) (fun y hy=>lastN.off (hyn y hy) (by omega))
 dsimp only [putAll,Nat.reduceAdd] at hm9
 generalize ((((w2.setCell ⟨w.heap.size + 1,0,none⟩ (.slice d'.za d'.zn d'.zc)).setCell ⟨w.heap.size + 1,1,none⟩ (.slice d'.ka d'.kn d'.kc)).setCell ⟨w.heap.size + 1,2,none⟩ (.int .i64 d'.b.h)).setCell ⟨w.heap.size + 1,3,none⟩ (.int .i64 d'.b.t)).setCell ⟨w.heap.size + 1,4,none⟩ (.slice (some ⟨g,0,none⟩) h.n h.n)=w9 at *
 have z0:=zB.cell 0 _ rfl
 have z1:=zB.cell 1 _ rfl
 have z2:=zB.cell 2 _ rfl
 have z3:=zB.cell 3 _ rfl
 have z4:=zB.cell 4 _ rfl
 exact bodyPost_ret (v:=.agg #[.slice d'.za d'.zn d'.zc,.slice d'.ka d'.kn d'.kc,.int .i64 d'.b.h,.int .i64 d'.b.t,.slice (some ⟨g,0,none⟩) h.n h.n]) (by simp [results,Tryz.results59,go_sem,z0,z1,z2,z3,z4]) rfl
  ⟨⟨d',g,L',rfl,hd.but hbb (hdn _ (by omega)),hm9,hl,fun R hR=>hdn R (by omega),hdg,by omega,hdp,hp,hyn⟩,bw2.trans (hbut.below (B:=w.heap.size) (by omega))⟩
end Go.Proofs.YtabafikicbkkdaaGreatDoor
namespace Go.Proofs.YtabafikicbkkdaaGreatDoor
open Go.RowKit
set_option linter.unusedVariables false
set_option maxHeartbeats 4000000
set_option maxRecDepth 100000
set_option linter.unusedSimpArgs false
theorem pwholeC_c (a:Option Addr) (n c:Nat) (b:PC) (w:World) (h:Ints w a n c b.d) (hn:n≤100000) :
  Calls Tryz.prog 113 #[cmdV a n c b] w fun e w'=>(∃ q,e=.returned (cmdV (some ⟨q,0,none⟩) n n b)∧Ints w' (some ⟨q,0,none⟩) n n b.d∧w.heap.size≤q∧q < w'.heap.size)∧Below w.heap.size w w':=by
 obtain ⟨k,z,u,t,l⟩:=b
 unfold cmdV
 dsimp only at *
 obtain ⟨x0,x1,x2,bw⟩:=three_boxes w [.int .i64 k,.int .i64 z,.int .i64 u,.int .i64 t,.slice a n c] [.int .i64 0,.int .i64 0,.int .i64 0,.int .i64 0,.slice none 0 0] [.int .i64 k,.int .i64 z,.int .i64 u,.int .i64 t,.slice a n c] 50 50 50
 replace h:=h.below bw (Nat.le_refl _)
 go_enter Tryz.func113,Tryz.ntmps113
 go_upto_region 2 with fail
 generalize ((w.alloc (.cells [.int .i64 k,.int .i64 z,.int .i64 u,.int .i64 t,.slice a n c].toArray 50)).alloc (.cells [.int .i64 0,.int .i64 0,.int .i64 0,.int .i64 0,.slice none 0 0].toArray 50)).alloc (.cells [.int .i64 k,.int .i64 z,.int .i64 u,.int .i64 t,.slice a n c].toArray 50)=w1 at *
 have c4:=x0.cell 4 _ rfl
 go_wp2_with fail
 refine (plist_c a n c l _ h hn).mono ?_
 rintro e w2 ⟨⟨q,rfl,iq,hq,hq2⟩,hb2⟩
 have hqw:w.heap.size + 1 + 1 < q:=by have:=x2.lt;omega
 clear c4 hq x0
 replace x1:=x1.below hb2
 replace x2:=x2.below hb2
 replace bw:=belowT bw hb2
 clear hb2
 have e4:=x2.cell 4 _ rfl
 have f4:=x2.ice 4
 go_upto_region 3 with fail
 have hbu:=(ButI.refl (w.heap.size + 1 + 1) w2).step 4 (.slice (some ⟨q,0,none⟩) n n)
 have y2:Lay _ _ [.int .i64 k,.int .i64 z,.int .i64 u,.int .i64 t,.slice (some ⟨q,0,none⟩) n n]:=x2.set 4 (.slice (some ⟨q,0,none⟩) n n)
 have xR:=x1.butI hbu (by omega)
 replace iq:=iq.but hbu.but (.inr fun x e=>by cases e;simp;omega)
 replace bw:=bw.trans (hbu.below (B:=w.heap.size) (by omega))
 have hsz:=hbu.but.size
 clear e4 f4 x2 x1 hbu
 generalize w2.setCell ⟨w.heap.size + 1 + 1,4,none⟩ (.slice (some ⟨q,0,none⟩) n n)=w3 at *
 have a0:=y2.cell 0 _ rfl
 have a1:=y2.cell 1 _ rfl
 have a2:=y2.cell 2 _ rfl
 have a3:=y2.cell 3 _ rfl
 have a4:=y2.cell 4 _ rfl
 have e0:=xR.cell 0 _ rfl
 have e1:=xR.cell 1 _ rfl
 have e2:=xR.cell 2 _ rfl
 have e3:=xR.cell 3 _ rfl
 have e4:=xR.cell 4 _ rfl
 have f0:=xR.ice 0
 have f1:=xR.ice 1
 have f2:=xR.ice 2
 have f3:=xR.ice 3
 have f4:=xR.ice 4
 go_wp2
 have zB:=((((xR.set 0 (.int .i64 k)).set 1 (.int .i64 z)).set 2 (.int .i64 u)).set 3 (.int .i64 t)).set 4 (.slice (some ⟨q,0,none⟩) n n)
 have hbut:=(((((ButI.refl (w.heap.size + 1) w3).step 0 (.int .i64 k)).step 1 (.int .i64 z)).step 2 (.int .i64 u)).step 3 (.int .i64 t)).step 4 (.slice (some ⟨q,0,none⟩) n n)
 generalize ((((w3.setCell ⟨w.heap.size + 1,0,none⟩ (.int .i64 k)).setCell ⟨w.heap.size + 1,1,none⟩ (.int .i64 z)).setCell ⟨w.heap.size + 1,2,none⟩ (.int .i64 u)).setCell ⟨w.heap.size + 1,3,none⟩ (.int .i64 t)).setCell ⟨w.heap.size + 1,4,none⟩ (.slice (some ⟨q,0,none⟩) n n)=w9 at *
 have z0:=zB.cell 0 _ rfl
 have z1:=zB.cell 1 _ rfl
 have z2:=zB.cell 2 _ rfl
 have z3:=zB.cell 3 _ rfl
 have z4:=zB.cell 4 _ rfl
 exact bodyPost_ret (v:=.agg #[.int .i64 k,.int .i64 z,.int .i64 u,.int .i64 t,.slice (some ⟨q,0,none⟩) n n]) (by simp [results,Tryz.results113,go_sem,z0,z1,z2,z3,z4]) rfl
  ⟨⟨q,rfl,iq.but hbut.but (.inr fun x e=>by cases e;simp;omega),by omega,by have:=hbut.but.size;omega⟩,bw.trans (hbut.below (B:=w.heap.size) (by omega))⟩
end Go.Proofs.YtabafikicbkkdaaGreatDoor
namespace Go.Proofs.YtabafikicbkkdaaGreatDoor
open Go.RowKit
set_option linter.unusedVariables false
set_option maxHeartbeats 4000000
set_option maxRecDepth 100000
set_option linter.unusedSimpArgs false
structure MineA (w:World) (g:Nat) (X:List AV):Prop where
 lay:Lay w g (acells X)
 ok:∀ x∈X,x.ok w
 new:∀ x∈X,x.new (g + 1)
 row:∃ cur:Array Value,w.heap[g]?=some (.cells cur 56 (0,0))∧cur.size=X.length * 3
theorem MineA.below {w w':World} {g:Nat} {X:List AV} (h:MineA w g X) (hb:Below w.heap.size w w'):MineA w' g X:=
 ⟨h.lay.below hb,fun x hx=>AV.ok.below (h.ok x hx) hb (Nat.le_refl _),h.new,by obtain ⟨cur,e,k⟩:=h.row;exact ⟨cur,by rw [hb.block g h.lay.lt];exact e,k⟩⟩
theorem MineA.farB {w:World} {g:Nat} {X:List AV} (h:MineA w g X) (p:Addr) (v:Value) (hp:p.block≠g) (ho:∀ x∈X,x.off p.block):MineA (w.setCell p v) g X:=
 ⟨h.lay.far p v hp,fun x hx=>Ints.setOffA (h.ok x hx) p v (ho x hx),h.new,by obtain ⟨cur,e,k⟩:=h.row;exact ⟨cur,by rw [heap_setCell_other _ _ _ _ (fun e=>hp e.symm)];exact e,k⟩⟩
theorem MineA.far1 {w:World} {g:Nat} {X:List AV} (h:MineA w g X) (p:Addr) (v:Value) (hp:p.block < g):MineA (w.setCell p v) g X:=
 h.farB p v (by omega) (fun x hx=>h.new x hx p.block (by omega))
theorem acells_set:∀ (X:List AV) (i:Nat) (x:AV),i < X.length→(((acells X).set (i * 3) (.int .i64 x.e)).set (i * 3 + 1) (.int .i64 x.t)).set (i * 3 + 2) (.slice x.a x.n x.c)=acells (X.set i x)
 |[],i,x,h=>by simp at h
 |y :: X,0,x,_=>by simp [acells,AV.cells]
 |y :: X,i + 1,x,h=>by
  have ih:=acells_set X i x (by simpa using h)
  rw [List.set_cons_succ,acells_cons,acells_cons,← ih]
  simp only [AV.cells,List.cons_append,List.nil_append,show (i + 1) * 3=i * 3 + 1 + 1 + 1 by omega,show i * 3 + 1 + 1 + 1 + 1=(i * 3 + 1) + 1 + 1 + 1 by omega,show i * 3 + 1 + 1 + 1 + 2=(i * 3 + 2) + 1 + 1 + 1 by omega,List.set_cons_succ]
theorem MineA.set {w:World} {g:Nat} {X:List AV} (h:MineA w g X) {i:Nat} (hi:i < X.length) {x:AV} (hx:x.ok w) (hn:x.new (g + 1)) :
  MineA (((w.setCell ⟨g,i * 3,none⟩ (.int .i64 x.e)).setCell ⟨g,i * 3 + 1,none⟩ (.int .i64 x.t)).setCell ⟨g,i * 3 + 2,none⟩ (.slice x.a x.n x.c)) g (X.set i x):=by
 have hb:=(((But.refl g w).step (i * 3) (.int .i64 x.e)).step (i * 3 + 1) (.int .i64 x.t)).step (i * 3 + 2) (.slice x.a x.n x.c)
 refine ⟨by rw [← acells_set X i x hi];exact ((h.lay.set _ _).set _ _).set _ _,fun z hz=>?_,fun z hz=>?_,?_⟩
 ·rcases List.mem_or_eq_of_mem_set hz with hz|rfl
  ·exact AV.ok.but (h.ok z hz) hb (h.new z hz g (by omega))
  ·exact AV.ok.but hx hb (hn g (by omega))
 ·rcases List.mem_or_eq_of_mem_set hz with hz|rfl
  ·exact h.new z hz
  ·exact hn
 ·obtain ⟨cur,e,k⟩:=h.row
  exact ⟨_,heap_setCell_same _ _ _ _ _ _ (heap_setCell_same _ _ _ _ _ _ (heap_setCell_same _ _ _ _ _ _ e)),by simpa using k⟩
theorem MineA.own {w:World} {g:Nat} {X:List AV} (h:MineA w g X) (hm:X.length≤maxLen):OwnA w g (.slice (some ⟨g,0,none⟩) X.length X.length) X:=by
 obtain ⟨cur,e,k⟩:=h.row
 have hl:cur.toList=acells X:=by
  apply List.ext_getElem?
  intro i
  by_cases hi:i < (acells X).length
  ·obtain ⟨v,hv⟩:∃ v,(acells X)[i]?=some v:=⟨_,List.getElem?_eq_getElem hi⟩
   have:=h.lay.cell i v hv
   rw [cell_of_row w g _ _ _ _ e] at this
   rw [hv]
   simpa using this
  ·have h1:(acells X)[i]?=none:=List.getElem?_eq_none (by omega)
   have h2:cur.toList[i]?=none:=List.getElem?_eq_none (by rw [Array.length_toList,k];rw [acells_len] at hi;omega)
   rw [h1,h2]
 refine ⟨⟨by rw [acells_len],.inr ⟨g,X.length,cur,rfl,Nat.le_refl _,e,Nat.le_refl _,hm,k,?_⟩⟩,h.ok,fun x hx b hb=>?_⟩
 ·rw [hl,List.take_of_length_le (by rw [acells_len];omega)]
 ·obtain rfl:g=b:=by simpa [Value.ownBlock] using hb
  exact h.new x hx g (by omega)
theorem MineA.answers {w:World} {g:Nat} {X:List AV} (h:MineA w g X) {n:Nat} (hn:X.length=n) (hm:n≤9223372036854775807):Answers w (some ⟨g,0,none⟩) n n X:=by
 subst hn
 refine ⟨rfl,Nat.le_refl _,hm,fun e=>(by cases e),.inr ⟨g,0,rfl,h.lay.lt,fun i y hy j v hv=>?_⟩,h.ok⟩
 have:=h.lay.cell _ _ (acells_get X i y hy j v hv)
 simpa using this
theorem zeros_cells (n:Nat):∀ y∈List.replicate n (AV.err 0),y=AV.err 0:=fun y hy=>List.eq_of_mem_replicate hy
theorem MineA.zeros {w:World} {g n:Nat} (h:Lay w g (acells (List.replicate n (AV.err 0)))) (hr:∃ cur:Array Value,w.heap[g]?=some (.cells cur 56 (0,0))∧cur.size=n * 3):MineA w g (List.replicate n (AV.err 0)):=
 ⟨h,fun y hy=>by rw [zeros_cells n y hy];exact AV.err_ok w 0,fun y hy=>by rw [zeros_cells n y hy];exact fun R _=>.inl rfl,by rw [List.length_replicate];exact hr⟩
end Go.Proofs.YtabafikicbkkdaaGreatDoor
namespace Go.Proofs.YtabafikicbkkdaaGreatDoor
open Go.RowKit
set_option linter.unusedVariables false
set_option maxHeartbeats 4000000
set_option maxRecDepth 100000
set_option linter.unusedSimpArgs false
theorem Lay.eight {w:World} {B:Nat} {a b c d e f g h:Value} (x:Lay w B [a,b,c,d,e,f,g,h]):w.cell? ⟨B,0,none⟩=some a∧w.cell? ⟨B,1,none⟩=some b∧w.cell? ⟨B,2,none⟩=some c∧w.cell? ⟨B,3,none⟩=some d∧w.cell? ⟨B,4,none⟩=some e∧w.cell? ⟨B,5,none⟩=some f∧w.cell? ⟨B,6,none⟩=some g∧w.cell? ⟨B,7,none⟩=some h:=
 ⟨x.cell 0 _ rfl,x.cell 1 _ rfl,x.cell 2 _ rfl,x.cell 3 _ rfl,x.cell 4 _ rfl,x.cell 5 _ rfl,x.cell 6 _ rfl,x.cell 7 _ rfl⟩
end Go.Proofs.YtabafikicbkkdaaGreatDoor
