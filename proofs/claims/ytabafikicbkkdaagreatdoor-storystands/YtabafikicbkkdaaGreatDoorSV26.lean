/- The contract of hall.New; no condition. -/
import Derived.Test.YtabafikicbkkdaaGreatDoorSV10
import Derived.Test.YtabafikicbkkdaaGreatDoorSV19
import Derived.Test.YtabafikicbkkdaaGreatDoorSV25
import Derived.Test.YtabafikicbkkdaaGreatDoorSV14
import Derived.Test.YtabafikicbkkdaaGreatDoorSV12
import Derived.Test.YtabafikicbkkdaaGreatDoorSV23
import Derived.Deep.AppendLies
import Derived.Deep.RegionLaw
namespace Go.Proofs.YtabafikicbkkdaaGreatDoor
open Go.RowKit
set_option linter.unusedVariables false
set_option maxHeartbeats 8000000
set_option maxRecDepth 100000
set_option linter.unusedSimpArgs false
def zero3:List LV:=[LV.zero,LV.zero,LV.zero]
theorem zero3_mem {y:LV} (h:y∈zero3):y=LV.zero:=by simpa [zero3] using h
theorem zero3_ok (w:World):∀ y∈zero3,y.ok w:=fun y h=>by rw [zero3_mem h];exact LV.zero_ok w
theorem zero3_off (R:Nat):∀ y∈zero3,y.off R:=fun y h=>by rw [zero3_mem h];exact .inl rfl
theorem mkl3 (w:World):(Instr.makeSlice 31 (.int .i64 3) (.int .i64 3)).run Tryz.prog w=.ok (.slice (some ⟨w.heap.size,0,none⟩) 3 3) (w.alloc (.cells (lcells zero3).toArray 97)):=by kernel_rfl
theorem HNew_c (w:World):Calls Tryz.prog 35 #[] w fun e w'=>(∃ h:HV,e=.returned h.v∧h.ok w'∧h.new w.heap.size∧h.p=freshH)∧Below w.heap.size w w':=by
 have hmk:=mkl3
 generalize hxs:(lcells zero3).toArray=xs at *
 have xR:=Lay.made w [.slice none 0 0,.slice none 0 0,.int .i64 0,.int .i64 0,.slice none 0 0] 33
 have hL:∀ w':World,Lay (w'.alloc (.cells xs 97)) w'.heap.size (lcells zero3):=fun w'=>by rw [← hxs];exact Lay.made w' _ _
 have HL:=hide hL
 have XR:=hide xR
 clear hL xR hxs
 go_enter Tryz.func35,Tryz.ntmps35
 go_wp2_with fail
 go_region_with (first|(go_at_call 56;refine (DNew_c _).mono ?_;rintro e w1 ⟨⟨⟨za,zn,zc,Z,ka,kn,kc,b⟩,rfl,i1,fr,hp⟩,hb1⟩;(have xR1:=XR.out.below (w':=w1) (by (repeat first|exact bel0|assumption|refine bel1 ?_|refine bel2 ?_|refine bel3 ?_|refine belowT ?_ (by assumption)|refine bel5 ?_ (by simp;try omega))));(have e0:=xR1.cell 0 _ rfl);(have e1:=xR1.cell 1 _ rfl);(have e2:=xR1.cell 2 _ rfl);(have e3:=xR1.cell 3 _ rfl);(have e4:=xR1.cell 4 _ rfl);(have f0:=xR1.ice 0);(have f1:=xR1.ice 1);(have f2:=xR1.ice 2);(have f3:=xR1.ice 3);(have f4:=xR1.ice 4);(have hl1:=xR1.lt);(have hn1:w.heap.size≠w1.heap.size:=by omega);(have hn2:w1.heap.size≠w.heap.size:=by omega);(have p0:=past1 e0);(have p1:=past1 e1);(have p2:=past1 e2);(have p3:=past1 e3);(have p4:=past1 e4);(have r0:=pastf1 e0 f0);(have r1:=pastf1 e1 f1);(have r2:=pastf1 e2 f2);(have r3:=pastf1 e3 f3);(have r4:=pastf1 e4 f4);(have FR:=hide fr);(have HP:=hide hp);(clear fr hp);dsimp only [DV.v] at i1 ⊢))
 all_goals go_wp2
 ·have fr:=FR.out.mono (show w.heap.size + 1≤_ by simp)
  have bw:Below w.heap.size w w1:=by (repeat first|exact bel0|assumption|refine bel1 ?_|refine bel2 ?_|refine bel3 ?_|refine belowT ?_ (by assumption)|refine bel5 ?_ (by simp;try omega))
  have hs:(((((w1.setCell ⟨w.heap.size,0,none⟩ (.slice za zn zc)).setCell ⟨w.heap.size,1,none⟩ (.slice ka kn kc)).setCell ⟨w.heap.size,2,none⟩ (.int .i64 b.h)).setCell ⟨w.heap.size,3,none⟩ (.int .i64 b.t)).setCell ⟨w.heap.size,4,none⟩ (.slice (some ⟨w1.heap.size,0,none⟩) 3 3)).heap.size=w1.heap.size:=by simp [World.setCell]
  have zB:=((((xR1.set 0 (.slice za zn zc)).set 1 (.slice ka kn kc)).set 2 (.int .i64 b.h)).set 3 (.int .i64 b.t)).set 4 (.slice (some ⟨w1.heap.size,0,none⟩) 3 3)
  have hbut:=(((((ButI.refl (w.heap.size) w1).step 0 (.slice za zn zc)).step 1 (.slice ka kn kc)).step 2 (.int .i64 b.h)).step 3 (.int .i64 b.t)).step 4 (.slice (some ⟨w1.heap.size,0,none⟩) 3 3)
  generalize ((((w1.setCell ⟨w.heap.size,0,none⟩ (.slice za zn zc)).setCell ⟨w.heap.size,1,none⟩ (.slice ka kn kc)).setCell ⟨w.heap.size,2,none⟩ (.int .i64 b.h)).setCell ⟨w.heap.size,3,none⟩ (.int .i64 b.t)).setCell ⟨w.heap.size,4,none⟩ (.slice (some ⟨w1.heap.size,0,none⟩) 3 3)=w8 at *
  have z0:=zB.cell 0 _ rfl
  have z1:=zB.cell 1 _ rfl
  have z2:=zB.cell 2 _ rfl
  have z3:=zB.cell 3 _ rfl
  have z4:=zB.cell 4 _ rfl
  have i9:=DV.ok.but i1 hbut.but (fr _ (by omega))
  have hm:=HL.out w8
  rw [hs] at hm
  have bn:=belowA (Below.refl _ w8) (.cells xs 97)
  have zC:=zB.below bn
  have o9:HV.ok (w8.alloc (.cells xs 97)) ⟨⟨za,zn,zc,Z,ka,kn,kc,b⟩,some ⟨w1.heap.size,0,none⟩,3,3,zero3⟩:=⟨i9.below bn (Nat.le_refl _),Lasts.of_lay (n:=3) hm (zero3_ok _) rfl (by omega)⟩
  have b9:Below w.heap.size w (w8.alloc (.cells xs 97)):=belowT (bw.trans hbut.but.low) bn
  clear z0 z1 z2 z3 z4
  generalize w8.alloc (.cells xs 97)=w9 at *
  have z0:=zC.cell 0 _ rfl
  have z1:=zC.cell 1 _ rfl
  have z2:=zC.cell 2 _ rfl
  have z3:=zC.cell 3 _ rfl
  have z4:=zC.cell 4 _ rfl
  exact bodyPost_ret (v:=.agg #[.slice za zn zc,.slice ka kn kc,.int .i64 b.h,.int .i64 b.t,.slice (some ⟨w1.heap.size,0,none⟩) 3 3]) (by simp [results,Tryz.results35,go_sem,z0,z1,z2,z3,z4]) rfl
   ⟨⟨_,rfl,o9,fun R hR=>⟨fr R (by omega),.inr fun x e=>by cases e;simp;omega,zero3_off R⟩,by simp only [HV.p,HP.out];rfl⟩,b9⟩
 ·have hm:=HL.out (w.alloc (.cells #[.slice none 0 0,.slice none 0 0,.int .i64 0,.int .i64 0,.slice none 0 0] 33))
  simp only [World.size_alloc] at hm
  have hm1:=hm.below (w':=w1) (by (repeat first|exact bel0|assumption|refine bel1 ?_|refine bel2 ?_|refine bel3 ?_|refine belowT ?_ (by assumption)|refine bel5 ?_ (by simp;try omega)))
  have fr:=FR.out.mono (show w.heap.size + 1≤_ by simp)
  have hok:HV.ok w1 ⟨⟨za,zn,zc,Z,ka,kn,kc,b⟩,some ⟨w.heap.size + 1,0,none⟩,3,3,zero3⟩:=⟨i1,Lasts.of_lay (n:=3) hm1 (zero3_ok _) rfl (by omega)⟩
  have hoff:∀ R,R≤w.heap.size→HV.off R ⟨⟨za,zn,zc,Z,ka,kn,kc,b⟩,some ⟨w.heap.size + 1,0,none⟩,3,3,zero3⟩:=fun R hR=>⟨fr R (by omega),.inr fun x e=>by cases e;simp;omega,zero3_off R⟩
  have bw:Below w.heap.size w w1:=by (repeat first|exact bel0|assumption|refine bel1 ?_|refine bel2 ?_|refine bel3 ?_|refine belowT ?_ (by assumption)|refine bel5 ?_ (by simp;try omega))
  have zB:=((((xR1.set 0 (.slice za zn zc)).set 1 (.slice ka kn kc)).set 2 (.int .i64 b.h)).set 3 (.int .i64 b.t)).set 4 (.slice (some ⟨w.heap.size + 1,0,none⟩) 3 3)
  have hbut:=(((((ButI.refl (w.heap.size) w1).step 0 (.slice za zn zc)).step 1 (.slice ka kn kc)).step 2 (.int .i64 b.h)).step 3 (.int .i64 b.t)).step 4 (.slice (some ⟨w.heap.size + 1,0,none⟩) 3 3)
  generalize ((((w1.setCell ⟨w.heap.size,0,none⟩ (.slice za zn zc)).setCell ⟨w.heap.size,1,none⟩ (.slice ka kn kc)).setCell ⟨w.heap.size,2,none⟩ (.int .i64 b.h)).setCell ⟨w.heap.size,3,none⟩ (.int .i64 b.t)).setCell ⟨w.heap.size,4,none⟩ (.slice (some ⟨w.heap.size + 1,0,none⟩) 3 3)=w9 at *
  have z0:=zB.cell 0 _ rfl
  have z1:=zB.cell 1 _ rfl
  have z2:=zB.cell 2 _ rfl
  have z3:=zB.cell 3 _ rfl
  have z4:=zB.cell 4 _ rfl
  have o9:=hok.but hbut.but (hoff _ (Nat.le_refl _))
  exact bodyPost_ret (v:=.agg #[.slice za zn zc,.slice ka kn kc,.int .i64 b.h,.int .i64 b.t,.slice (some ⟨w.heap.size + 1,0,none⟩) 3 3]) (by simp [results,Tryz.results35,go_sem,z0,z1,z2,z3,z4]) rfl
   ⟨⟨_,rfl,o9,fun R hR=>hoff R (Nat.le_of_lt hR),by simp only [HV.p,HP.out];rfl⟩,bw.trans hbut.but.low⟩
end Go.Proofs.YtabafikicbkkdaaGreatDoor
namespace Go.Proofs.YtabafikicbkkdaaGreatDoor
open Go.RowKit
set_option linter.unusedVariables false
set_option maxHeartbeats 8000000
set_option maxRecDepth 100000
set_option linter.unusedSimpArgs false
theorem mkh3 (w:World):(Instr.makeSlice 37 (.int .i64 3) (.int .i64 3)).run Tryz.prog w=.ok (.slice (some ⟨w.heap.size,0,none⟩) 3 3) (w.alloc (.cells (handK.cells (List.replicate 3 NV.zero)).toArray 62)):=phands_mk 3 (by decide) w
theorem WNew_c (w:World):Calls Tryz.prog 32 #[] w fun e w'=>WorldOf freshW w e w':=by
 have hmk:=mkh3
 have HM:=hide (fun w'=>MineR.made handK 62 NV.zero NV.zero_ok 3 w')
 generalize (handK.cells (List.replicate 3 NV.zero)).toArray=xs at *
 have x1:=Lay.made w [.slice none 0 0,.slice none 0 0,.int .i64 0,.int .i64 0,.slice none 0 0,.slice none 0 0,.slice none 0 0,.bool false,.slice none 0 0,.slice none 0 0] 40
 have bw:=belowA (Below.refl _ w) (.cells [.slice none 0 0,.slice none 0 0,.int .i64 0,.int .i64 0,.slice none 0 0,.slice none 0 0,.slice none 0 0,.bool false,.slice none 0 0,.slice none 0 0].toArray 40)
 go_enter Tryz.func32,Tryz.ntmps32
 go_upto_region 1 with fail
 generalize w.alloc (.cells [.slice none 0 0,.slice none 0 0,.int .i64 0,.int .i64 0,.slice none 0 0,.slice none 0 0,.slice none 0 0,.bool false,.slice none 0 0,.slice none 0 0].toArray 40)=w1 at *
 have hB:=x1.lt
 go_region_with (first|(go_at_call 35;refine (HNew_c _).mono ?_;rintro e w2 ⟨⟨h,rfl,hk,hn,hp⟩,hb⟩;(dsimp only [HV.v]);(have xR:=x1.below (w':=w2) (by clear bw;(repeat first|exact bel0|assumption|refine bel1 ?_|refine bel2 ?_|refine bel3 ?_|refine belowT ?_ (by assumption)|refine bel5 ?_ (by simp;try omega))));(obtain ⟨e0,e1,e2,e3,e4,e5,e6,e7,e8,e9⟩:=Lay.ten (x:=WV.zero) xR);(have ice:=xR.ice);(dsimp only [WV.zero,HV.zero,DV.zero,KV.zero,zeroB] at e0 e1 e2 e3 e4 e5 e6 e7 e8 e9);(have hl2:=xR.lt);(have hn1:w.heap.size≠w2.heap.size:=by omega);(have hn2:w2.heap.size≠w.heap.size:=by omega);(have p0:=past1 e0);(have r0:=pastf1 e0 (ice 0));(have p1:=past1 e1);(have r1:=pastf1 e1 (ice 1));(have p2:=past1 e2);(have r2:=pastf1 e2 (ice 2));(have p3:=past1 e3);(have r3:=pastf1 e3 (ice 3));(have p4:=past1 e4);(have r4:=pastf1 e4 (ice 4));(have p5:=past1 e5);(have r5:=pastf1 e5 (ice 5));(have p6:=past1 e6);(have r6:=pastf1 e6 (ice 6));(have p7:=past1 e7);(have r7:=pastf1 e7 (ice 7));(have p8:=past1 e8);(have r8:=pastf1 e8 (ice 8));(have p9:=past1 e9);(have r9:=pastf1 e9 (ice 9))))
 all_goals go_wp2
 ·have bw2:Below w.heap.size w w2:=belowT bw (by clear bw;(repeat first|exact bel0|assumption|refine bel1 ?_|refine bel2 ?_|refine bel3 ?_|refine belowT ?_ (by assumption)|refine bel5 ?_ (by simp;try omega)))
  obtain ⟨y,hy⟩:∃ y:WV,y=⟨h,KV.zero,true,some ⟨w2.heap.size,0,none⟩,3,3,List.replicate 3 NV.zero,none,0,0,[]⟩:=⟨_,rfl⟩
  have hbut:=putAll_but w.heap.size y.cells w2 0
  have zB:=xR.fill (vs:=y.cells) rfl
  have hs:(putAll w2 w.heap.size 0 y.cells).heap.size=w2.heap.size:=by rw [hy];simp [putAll,World.setCell]
  have hh:=hk.but hbut.but (hn w.heap.size (by simp at *;omega))
  obtain ⟨w8,hw8⟩:∃ o,o=putAll w2 w.heap.size 0 y.cells:=⟨_,rfl⟩
  rw [← hw8] at zB hbut hs hh
  rw [hy] at hw8
  dsimp only [putAll,Nat.reduceAdd,KV.zero] at hw8
  rw [← hw8]
  have hm:=HM.out w8
  rw [hs] at hm
  have bn:=belowA (Below.refl _ w8) (.cells xs 62)
  have zC:=zB.below bn
  replace hh:=hh.below bn (Nat.le_refl _)
  clear hw8 p0 p1 p2 p3 p4 p5 p6 p7 p8 p9 r0 r1 r2 r3 r4 r5 r6 r7 r8 r9 e0 e1 e2 e3 e4 e5 e6 e7 e8 e9
  generalize w8.alloc (.cells xs 62)=w9 at *
  obtain ⟨z0,z1,z2,z3,z4,z5,z6,z7,z8,z9⟩:=zC.ten
  have b9:=belowT (bw2.trans (hbut.below (B:=w.heap.size) (Nat.le_refl _))) bn
  have hn':h.new w.heap.size:=hn.mono (by simp at *;omega)
  refine bodyPost_ret (v:=y.v) (by simp [results,Tryz.results32,go_sem,z0,z1,z2,z3,z4,z5,z6,z7,z8,z9]) rfl ⟨⟨y,rfl,?_,?_,?_,?_⟩,b9⟩
  all_goals subst hy
  ·exact ⟨hh,KV.zero_ok _,hm.rows rfl (show (3:Nat)≤9223372036854775807 by omega),Rows'.none _⟩
  ·exact ⟨by simp [KV.zero],by simp [KV.zero]⟩
  ·exact fun R hR=>⟨hn' R hR,⟨.inl rfl,.inl rfl⟩,⟨.inr fun x e=>by cases e;simp;omega,fun x hx=>by rw [List.eq_of_mem_replicate hx];exact NV.zero_off R⟩,⟨.inl rfl,fun x hx=>(by cases hx)⟩⟩
  ·simp [WV.p,hp,freshW,KV.zero,NV.zero_p,List.replicate]
 ·have hm0:=HM.out w1
  have bw2:Below w.heap.size w w2:=belowT bw (by clear bw;(repeat first|exact bel0|assumption|refine bel1 ?_|refine bel2 ?_|refine bel3 ?_|refine belowT ?_ (by assumption)|refine bel5 ?_ (by simp;try omega)))
  have hm:=hm0.below (w':=w2) (by clear bw bw2;(repeat first|exact bel0|assumption|refine bel1 ?_|refine bel2 ?_|refine bel3 ?_|refine belowT ?_ (by assumption)|refine bel5 ?_ (by simp;try omega)))
  obtain ⟨y,hy⟩:∃ y:WV,y=⟨h,KV.zero,true,some ⟨w1.heap.size,0,none⟩,3,3,List.replicate 3 NV.zero,none,0,0,[]⟩:=⟨_,rfl⟩
  have hbut:=putAll_but w.heap.size y.cells w2 0
  have zB:=xR.fill (vs:=y.cells) rfl
  have hs:(putAll w2 w.heap.size 0 y.cells).heap.size=w2.heap.size:=by rw [hy];simp [putAll,World.setCell]
  have hh:=hk.but hbut.but (hn w.heap.size (by simp at *;omega))
  have hm9:=hm.away (k:=w.heap.size) y.cells 0 (by omega) (fun z hz=>by rw [List.eq_of_mem_replicate hz];exact NV.zero_off _)
  obtain ⟨w9,hw9⟩:∃ o,o=putAll w2 w.heap.size 0 y.cells:=⟨_,rfl⟩
  rw [← hw9] at zB hbut hs hh hm9
  rw [hy] at hw9
  dsimp only [putAll,Nat.reduceAdd,KV.zero] at hw9
  rw [← hw9]
  clear hw9
  obtain ⟨z0,z1,z2,z3,z4,z5,z6,z7,z8,z9⟩:=zB.ten
  have b9:=bw2.trans (hbut.below (B:=w.heap.size) (Nat.le_refl _))
  have hn':h.new w.heap.size:=hn.mono (by simp at *;omega)
  refine bodyPost_ret (v:=y.v) (by simp [results,Tryz.results32,go_sem,z0,z1,z2,z3,z4,z5,z6,z7,z8,z9]) rfl ⟨⟨y,rfl,?_,?_,?_,?_⟩,b9⟩
  all_goals subst hy
  ·exact ⟨hh,KV.zero_ok _,hm9.rows rfl (show (3:Nat)≤9223372036854775807 by omega),Rows'.none _⟩
  ·exact ⟨by simp [KV.zero],by simp [KV.zero]⟩
  ·exact fun R hR=>⟨hn' R hR,⟨.inl rfl,.inl rfl⟩,⟨.inr fun x e=>by cases e;simp;omega,fun x hx=>by rw [List.eq_of_mem_replicate hx];exact NV.zero_off R⟩,⟨.inl rfl,fun x hx=>(by cases hx)⟩⟩
  ·simp [WV.p,hp,freshW,KV.zero,NV.zero_p,List.replicate]
end Go.Proofs.YtabafikicbkkdaaGreatDoor
namespace Go.Proofs.YtabafikicbkkdaaGreatDoor
open Go.RowKit
set_option linter.unusedVariables false
set_option maxHeartbeats 8000000
set_option maxRecDepth 100000
set_option linter.unusedSimpArgs false
abbrev Chg (k:Nat) (w w':World):Prop:=w.grownBy w' (some k)
theorem Chg.refl (k:Nat) (w:World):Chg k w w:=⟨rfl,rfl,rfl,Nat.le_refl _,fun _ _ _=>rfl⟩
theorem Chg.trans {k:Nat} {a b c:World} (h:Chg k a b) (j:Chg k b c):Chg k a c:=
 ⟨j.os.trans h.os,j.tape.trans h.tape,j.output.trans h.output,Nat.le_trans h.size j.size,fun i hi hk=>by rw [j.block i (Nat.lt_of_lt_of_le hi h.size) hk,h.block i hi hk]⟩
theorem Chg.of_below {k:Nat} {w w':World} (h:Below w.heap.size w w'):Chg k w w':=⟨h.os,h.tape,h.output,h.size,fun i hi _=>h.block i hi⟩
theorem Chg.of_grown {k:Nat} {w w':World} {r:Option Nat} (h:w.grownBy w' r) (hr:∀ j,r=some j→j=k):Chg k w w':=
 ⟨h.os,h.tape,h.output,h.size,fun i hi hk=>h.block i hi (fun e=>hk (by rw [hr i e.symm]))⟩
theorem Chg.set {k:Nat} {w w':World} (h:Chg k w w') (o:Nat) (v:Value):Chg k w (w'.setCell ⟨k,o,none⟩ v):=
 ⟨h.os,h.tape,h.output,by simpa [World.setCell] using h.size,fun i hi hk=>by rw [heap_setCell_other _ _ _ _ (fun e=>hk (by rw [e]))];exact h.block i hi hk⟩
theorem Chg.put {k:Nat} : ∀ (vs:List Value) {w w':World} (o:Nat),Chg k w w'→Chg k w (putAll w' k o vs)
 |[],_,_,_,h=>h
 |v :: r,_,_,o,h=>Chg.put r (o + 1) (h.set o v)
theorem Chg.side {B k:Nat} : ∀ (vs:List Value) {w w':World} (i:Nat),Chg B w w'→w.heap.size≤k→Chg B w (putAll w' k i vs)
 |[],_,_,_,h,_=>h
 |v :: r,w,w',i,h,hk=>Chg.side r (i + 1) (show Chg B w (w'.setCell ⟨k,i,none⟩ v) from ⟨h.os,h.tape,h.output,by simpa [World.setCell] using h.size,fun j hj hB=>by rw [heap_setCell_other _ _ _ _ (by show j≠k;omega)];exact h.block j hj hB⟩) hk
theorem Chg.below {k:Nat} {w w':World} (h:Chg k w w') {b:Nat} (hb:b≤k) (hs:b≤w.heap.size):Below b w w':=
 ⟨h.os,h.tape,h.output,h.size,fun i hi=>h.block i (by omega) (by simp;omega)⟩
theorem Lay.chg {w w':World} {B k:Nat} {vs:List Value} (h:Lay w B vs) (c:Chg k w w') (hk:B≠k):Lay w' B vs:=by
 have e:w'.heap[B]?=w.heap[B]?:=c.block B h.lt (by simp;omega)
 exact ⟨fun i v hv=>by
  have:=h.cell i v hv
  exact c.cell this (by simp;omega),fun i=>by have:=h.ice i;unfold World.frozen? at this ⊢;rw [e];exact this,Nat.lt_of_lt_of_le h.lt c.size⟩
theorem MineR.chg {α:Type} {K:Kin α} {t:TypeId} {w w':World} {g k:Nat} {X:List α} (h:MineR K t w g X) (c:Chg k w w') (hk:k≠g) (hle:k≤w.heap.size) (ho:∀ y∈X,K.off k y):MineR K t w' g X:=
 ⟨h.lay.chg c (fun e=>hk e.symm),fun y hy=>K.but (h.ok y hy) (grown_but' c rfl hle) (ho y hy),by obtain ⟨cur,e,z⟩:=h.row;exact ⟨cur,by rw [c.block g h.lay.lt (by simp;omega)];exact e,z⟩⟩
theorem OwnK.chg {α:Type} {K:Kin α} {t:TypeId} {w w':World} {b k:Nat} {v:Value} {X:List α} (h:OwnK K t w b v X) (c:Chg k w w') (hk:v.ownBlock≠some k) (hle:k≤w.heap.size) (ho:∀ y∈X,K.off k y):OwnK K t w' b v X:=
 ⟨h.own.kept c (.inr hk),fun y hy=>K.but (h.ok y hy) (grown_but' c rfl hle) (ho y hy),h.off⟩
theorem OwnK.mono {α:Type} {K:Kin α} {t:TypeId} {w:World} {b b':Nat} {v:Value} {X:List α} (h:OwnK K t w b v X) (hb:b'≤b):OwnK K t w b' v X:=
 ⟨⟨h.own.1,by
  rcases h.own.2 with hl|⟨g,cap,cur,h1,h2,h3⟩
  ·exact .inl hl
  ·exact .inr ⟨g,cap,cur,h1,Nat.le_trans hb h2,h3⟩⟩,h.ok,h.off⟩
structure Far (k:Nat) (x:WV):Prop where
 h:x.h.off k
 d:x.d.off k
 n:∀ y∈x.N,y.off k
 m:∀ y∈x.M,y.off k
abbrev WV.mb (x:WV):Option Nat:=(Value.slice x.ma x.mn x.mc).ownBlock
abbrev WV.ours (x:WV) (b B g k:Nat):Prop:=k < b∨k=B∨k=g∨x.mb=some k
structure OwnW (w:World) (b B g:Nat) (x:WV):Prop where
 lay:Lay w B x.cells
 h:x.h.ok w
 d:x.d.ok w
 n:MineR handK 62 w g x.N
 m:OwnK mailK 103 w b (.slice x.ma x.mn x.mc) x.M
 na:x.na=some ⟨g,0,none⟩∧x.nn=x.N.length∧x.nc=x.N.length
 mn:x.mn=x.M.length
 le:b≤B∧b≤g∧B≠g
 mB:∀ k,x.mb=some k→k≠B∧k≠g∧b≤k
 far:∀ k,x.ours b B g k→Far k x
theorem OwnW.lt {w:World} {b B g:Nat} {x:WV} (o:OwnW w b B g x) {k:Nat} (h:x.ours b B g k):k < w.heap.size:=by
 have h1:=o.lay.lt
 have h2:=o.n.lay.lt
 rcases h with h|h|h|h
 ·have:=o.le.1;omega
 ·omega
 ·omega
 ·exact (o.m.own.lt k h).2
theorem OwnW.below {w w':World} {b B g:Nat} {x:WV} (o:OwnW w b B g x) (hb:Below w.heap.size w w'):OwnW w' b B g x:=
 ⟨o.lay.below hb,o.h.below hb (Nat.le_refl _),o.d.belowB hb (Nat.le_refl _),o.n.below hb,o.m.below hb,o.na,o.mn,o.le,o.mB,o.far⟩
theorem OwnW.ok {w:World} {b B g:Nat} {x:WV} (o:OwnW w b B g x) (hN:x.N.length≤1000000):x.ok w:=by
 obtain ⟨a,c,e,hr,_⟩:=o.m.rows
 simp only [Value.slice.injEq] at e
 obtain ⟨e1,e2,e3⟩:=e
 refine ⟨o.h,o.d,?_,by rw [e1,e2,e3];exact hr⟩
 obtain ⟨n1,n2,n3⟩:=o.na
 rw [n1,n2,n3]
 exact o.n.rows rfl (by omega)
theorem OwnW.free {w:World} {b B g:Nat} {x:WV} (o:OwnW w b B g x) {k:Nat} (hk:w.heap.size≤k):k≠B∧k≠g∧x.mb≠some k∧Far k x:=
 ⟨fun e=>by have:=o.lay.lt;omega,fun e=>by have:=o.n.lay.lt;omega,fun e=>by have:=(o.m.own.lt k e).2;omega,o.h.off hk,o.d.off hk,fun y hy=>NV.ok.off (o.n.ok y hy) hk,fun y hy=>mailK.far (o.m.ok y hy) hk⟩
theorem OwnW.side {w:World} {b B g:Nat} {x:WV} (o:OwnW w b B g x) {k:Nat} (vs:List Value) (i:Nat) (hk:k≠B∧k≠g∧x.mb≠some k) (f:Far k x) (hlt:k≤w.heap.size):OwnW (putAll w k i vs) b B g x:=by
 have c:=Chg.put (k:=k) vs i (Chg.refl k w)
 exact ⟨o.lay.chg c (fun e=>hk.1 e.symm),o.h.but (grown_but' c rfl hlt) f.h,o.d.butO (grown_but' c rfl hlt) f.d,o.n.chg c hk.2.1 hlt f.n,o.m.chg c hk.2.2 hlt f.m,o.na,o.mn,o.le,o.mB,o.far⟩
theorem OwnW.new {w:World} {b B g:Nat} {x:WV} (o:OwnW w b B g x) {P:Nat→Prop} (h:∀ R,R < w.heap.size→P R):∀ k,x.ours b B g k→P k:=fun k hk=>h k (o.lt hk)
theorem OwnW.box {w:World} {b B g:Nat} {x y:WV} (o:OwnW w b B g x) {vs:List Value} {i:Nat} (e:setAll x.cells i vs=y.cells) (hN:y.N=x.N∧y.na=x.na∧y.nn=x.nn∧y.nc=x.nc) (hM:y.M=x.M∧y.ma=x.ma∧y.mn=x.mn∧y.mc=x.mc)
  (hh:y.h.ok w) (hd:y.d.ok w) (hf:∀ k,x.ours b B g k→y.h.off k∧y.d.off k):OwnW (putAll w B i vs) b B g y:=by
 obtain ⟨n1,n2,n3,n4⟩:=hN
 obtain ⟨m1,m2,m3,m4⟩:=hM
 have c:=Chg.put (k:=B) vs i (Chg.refl B w)
 have hB:=Nat.le_of_lt o.lay.lt
 have fB:=o.far B (.inr (.inl rfl))
 have gB:=hf B (.inr (.inl rfl))
 have hmb:y.mb=x.mb:=by simp only [WV.mb,m2,m3,m4]
 refine ⟨e ▸ putAll_lay vs i o.lay,hh.but (grown_but' c rfl hB) gB.1,hd.butO (grown_but' c rfl hB) gB.2,by rw [n1];exact o.n.chg c o.le.2.2 hB fB.n,?_,by rw [n1,n2,n3,n4];exact o.na,by rw [m1,m3];exact o.mn,o.le,by rw [hmb];exact o.mB,fun k hk=>?_⟩
 ·rw [m1,m2,m3,m4]
  exact o.m.chg c (fun e=>(o.mB B e).1 rfl) hB fB.m
 ·have hk':x.ours b B g k:=by rw [WV.ours,hmb] at hk;exact hk
  have f:=o.far k hk'
  exact ⟨(hf k hk').1,(hf k hk').2,by rw [n1];exact f.n,by rw [m1];exact f.m⟩
theorem OwnW.hand {w:World} {b B g:Nat} {x:WV} (o:OwnW w b B g x) {j:Nat} (hj:j < x.N.length) {y:NV} (hy:y.ok w) (hf:∀ k,x.ours b B g k→y.off k) :
  OwnW (putAll w g (j * 8) y.cells) b B g {x with N:=x.N.set j y}:=by
 have c:=Chg.put (k:=g) y.cells (j * 8) (Chg.refl g w)
 have hg:=Nat.le_of_lt o.n.lay.lt
 have fg:=o.far g (.inr (.inr (.inl rfl)))
 refine ⟨o.lay.chg c o.le.2.2,o.h.but (grown_but' c rfl hg) fg.h,o.d.butO (grown_but' c rfl hg) fg.d,o.n.put hj hy fg.n (hf g (.inr (.inr (.inl rfl)))),o.m.chg c (fun e=>(o.mB g e).2.1 rfl) hg fg.m,?_,o.mn,o.le,o.mB,fun k hk=>?_⟩
 ·obtain ⟨n1,n2,n3⟩:=o.na
  refine ⟨n1,?_,?_⟩
  ·show x.nn=(x.N.set j y).length
   rw [List.length_set];exact n2
  ·show x.nc=(x.N.set j y).length
   rw [List.length_set];exact n3
 ·have f:=o.far k hk
  refine ⟨f.h,f.d,fun z hz=>?_,f.m⟩
  rcases List.mem_or_eq_of_mem_set hz with hz|rfl
  ·exact f.n z hz
  ·exact hf k hk
theorem OwnW.mail {w w':World} {b B g k:Nat} {x:WV} (o:OwnW w b B g x) (c:Chg k w w') (hk:k≤w.heap.size∧k≠B∧k≠g∧Far k x) {a:Option Addr} {n cc:Nat} {M:List MV} (own:OwnK mailK 103 w' b (.slice a n cc) M) (hn:n=M.length)
  (hB:∀ j,(Value.slice a n cc).ownBlock=some j→j≠B∧j≠g∧b≤j∧x.h.off j∧x.d.off j∧∀ y∈x.N,y.off j) (hM:∀ j,(j < b∨j=B∨j=g∨(Value.slice a n cc).ownBlock=some j)→∀ y∈M,y.off j) :
  OwnW (w'.setCell ⟨B,9,none⟩ (.slice a n cc)) b B g {x with ma:=a,mn:=n,mc:=cc,M:=M}:=by
 obtain ⟨k1,k2,k3,fk⟩:=hk
 have l1:=o.lay.chg c k2.symm
 have c2:=(Chg.refl B w').set 9 (.slice a n cc)
 have hB':=Nat.le_of_lt l1.lt
 have fB:=o.far B (.inr (.inl rfl))
 have n1:=o.n.chg c k3 k1 fk.n
 refine ⟨l1.set 9 (.slice a n cc),(o.h.but (grown_but' c rfl k1) fk.h).but (grown_but' c2 rfl hB') fB.h,(o.d.butO (grown_but' c rfl k1) fk.d).butO (grown_but' c2 rfl hB') fB.d,n1.chg c2 o.le.2.2 hB' fB.n,own.chg c2 (fun e=>(hB B e).1 rfl) hB' (fun y hy=>hM B (.inr (.inl rfl)) y hy),o.na,hn,o.le,fun j hj=>⟨(hB j hj).1,(hB j hj).2.1,(hB j hj).2.2.1⟩,fun j hj=>?_⟩
 rcases hj with h|h|h|h
 ·have f:=o.far j (.inl h);exact ⟨f.h,f.d,f.n,hM j (.inl h)⟩
 ·have f:=o.far j (.inr (.inl h));exact ⟨f.h,f.d,f.n,hM j (.inr (.inl h))⟩
 ·have f:=o.far j (.inr (.inr (.inl h)));exact ⟨f.h,f.d,f.n,hM j (.inr (.inr (.inl h)))⟩
 ·obtain ⟨_,_,_,q1,q2,q3⟩:=hB j h
  exact ⟨q1,q2,q3,hM j (.inr (.inr (.inr h)))⟩
theorem OwnW.of_copy {w0 w:World} {x y:WV} {g q:Nat} (c:CopyW w0 w x y g q) (hM:y.M.length≤1000):OwnW (w.alloc (.cells y.cells.toArray 40)) w0.heap.size w.heap.size g y:=by
 have bw:=belowA (Below.refl _ w) (.cells y.cells.toArray 40)
 obtain ⟨m1,m2,m3⟩:=c.ma
 have hg:=c.n.lay.lt
 have hq:=c.m.lay.lt
 have own:=c.m.own (by simp only [maxLen];omega) (fun z hz=>c.mn z hz q (by omega))
 have hmb:y.mb=some q:=by simp [WV.mb,m1,Value.ownBlock]
 obtain ⟨g1,g2⟩:=c.gq
 refine ⟨Lay.made w _ _,c.h.below bw (Nat.le_refl _),c.d.belowB bw (Nat.le_refl _),c.n.below bw,?_,c.na,m2,⟨by omega,g1,by omega⟩,fun k hk=>?_,fun k hk=>?_⟩
 ·rw [m1,m2,m3]
  exact (own.below bw).mono (by omega)
 ·rw [hmb] at hk
  cases hk
  omega
 ·rcases hk with h|h|h|h
  ·exact ⟨c.hn.1 k h,c.dn.1.off h,fun z hz=>(c.nn z hz).1 k (by omega),fun z hz=>c.mn z hz k (by omega)⟩
  ·subst h
   exact ⟨c.h.off (Nat.le_refl _),c.d.off (Nat.le_refl _),fun z hz=>NV.ok.off (c.n.ok z hz) (Nat.le_refl _),fun z hz=>mailK.far (c.m.ok z hz) (Nat.le_refl _)⟩
  ·subst h
   exact ⟨c.hn.2.1,c.dn.2.1,fun z hz=>(c.nn z hz).1 k (by omega),fun z hz=>c.mn z hz k (by omega)⟩
  ·rw [hmb] at h
   cases h
   exact ⟨c.hn.2.2,c.dn.2.2,fun z hz=>(c.nn z hz).2,fun z hz=>c.mn z hz q (by omega)⟩
def WAct (b B g:Nat) (r:PW×Int) (e:Ending) (w':World):Prop:=e=.returned (.int .i64 r.2)∧(r.2=0→∃ y:WV,OwnW w' b B g y∧y.p=r.1)
end Go.Proofs.YtabafikicbkkdaaGreatDoor
namespace Go.Proofs.YtabafikicbkkdaaGreatDoor
open Go.RowKit
set_option linter.unusedVariables false
set_option maxHeartbeats 8000000
set_option maxRecDepth 100000
set_option linter.unusedSimpArgs false
theorem bel_of {w w1 w':World} {r:Option Nat} (hg:w1.grownBy w' r) (h:Below w.heap.size w w1):Below w.heap.size w w1:=h
theorem Lay.hp {w w':World} {B:Nat} {vs:List Value} (h:Lay w B vs) (e:w'.heap[B]?=w.heap[B]?) (hs:B < w'.heap.size):Lay w' B vs:=
 ⟨fun i v hv=>by have:=h.cell i v hv;unfold World.cell? at this ⊢;rw [e];exact this,fun i=>by have:=h.ice i;unfold World.frozen? at this ⊢;rw [e];exact this,hs⟩
theorem OwnW.send {w w1 w':World} {b B g:Nat} {x:WV} (o:OwnW w b B g x) {m:MV} (hm:m.ok w) (hf:∀ k,x.ours b B g k→m.off k) (hb:Below w.heap.size w w1) {k cap:Nat}
  (hown:w'.ownsRow b 103 11 (.slice (some ⟨k,0,none⟩) (x.mn + 1) cap) (x.mn + 1) (mailK.cells x.M++m.cells)) (hg:w1.grownBy w' x.mb) (hat:x.mb=some k∨k=w1.heap.size) :
  OwnW (w'.setCell ⟨B,9,none⟩ (.slice (some ⟨k,0,none⟩) (x.mn + 1) cap)) b B g {x with ma:=some ⟨k,0,none⟩,mn:=x.mn + 1,mc:=cap,M:=x.M++[m]}∧Below b w w'∧∀ j,j < w.heap.size→j≠B→x.mb≠some j→(w'.setCell ⟨B,9,none⟩ (.slice (some ⟨k,0,none⟩) (x.mn + 1) cap)).heap[j]?=w.heap[j]?:=by
 have o1:=o.below hb
 have hm1:=hm.below hb (Nat.le_refl _)
 have hmn:=o.mn
 have hs:=hb.size
 have own:=o1.m.snoc (x:=m) hm1 (fun j e=>hf j (.inr (.inr (.inr e)))) (by rw [← hmn];exact hown) hg hat
 rw [← hmn] at own
 have hlB:=o1.lay.lt
 have hlg:=o1.n.lay.lt
 have hle:=o.le
 have fk:k≤w1.heap.size∧k≠B∧k≠g∧b≤k∧Far k x:=by
  rcases hat with e|rfl
  ·have:=o1.lt (.inr (.inr (.inr e)))
   obtain ⟨h1,h2,h3⟩:=o.mB k e
   exact ⟨by omega,h1,h2,h3,o.far k (.inr (.inr (.inr e)))⟩
  ·exact ⟨Nat.le_refl _,by omega,by omega,by omega,o1.h.off (Nat.le_refl _),o1.d.off (Nat.le_refl _),fun z hz=>NV.ok.off (o1.n.ok z hz) (Nat.le_refl _),fun z hz=>mailK.far (o1.m.ok z hz) (Nat.le_refl _)⟩
 have hc:∃ j,Chg j w1 w'∧j≤w1.heap.size∧j≠B∧j≠g∧b≤j∧Far j x:=by
  cases e:x.mb with
  |some j=>
   rw [e] at hg
   have:=o1.lt (.inr (.inr (.inr e)))
   obtain ⟨h1,h2,h3⟩:=o.mB j e
   exact ⟨j,hg,by omega,h1,h2,h3,o.far j (.inr (.inr (.inr e)))⟩
  |none=>
   rw [e] at hg
   exact ⟨w1.heap.size,Chg.of_grown hg (fun j h=>by cases h),Nat.le_refl _,by omega,by omega,by omega,o1.h.off (Nat.le_refl _),o1.d.off (Nat.le_refl _),fun z hz=>NV.ok.off (o1.n.ok z hz) (Nat.le_refl _),fun z hz=>mailK.far (o1.m.ok z hz) (Nat.le_refl _)⟩
 obtain ⟨j,c,j1,j2,j3,j4,fj⟩:=hc
 obtain ⟨k1,k2,k3,k4,fx⟩:=fk
 have hmk:m.off k:=by
  rcases hat with e|rfl
  ·exact hf k (.inr (.inr (.inr e)))
  ·exact mailK.far hm1 (Nat.le_refl _)
 refine ⟨o1.mail c ⟨j1,j2,j3,fj⟩ own (by rw [List.length_append,hmn];rfl) (fun i e=>?_) (fun i e y hy=>?_),(hb.mono (by have:=o.lay.lt;omega)).trans (c.below j4 (by omega)),fun i hi hB hm=>by rw [heap_setCell_other _ _ _ _ (by exact hB),hg.block i (by omega) (fun e=>hm e.symm),hb.block i hi]⟩
 ·obtain rfl:k=i:=by simpa [Value.ownBlock] using e
  exact ⟨k2,k3,k4,fx.h,fx.d,fx.n⟩
 ·have e':x.ours b B g i∨i=k:=by
   rcases e with e|e|e|e
   ·exact .inl (.inl e)
   ·exact .inl (.inr (.inl e))
   ·exact .inl (.inr (.inr (.inl e)))
   ·exact .inr (by simpa [Value.ownBlock] using e.symm)
  rcases List.mem_append.1 hy with hy|hy
  ·rcases e' with e|rfl
   ·exact (o.far i e).m y hy
   ·exact fx.m y hy
  ·obtain rfl:y=m:=by simpa using hy
   rcases e' with e|rfl
   ·exact hf i e
   ·exact hmk
theorem send_c (b B g:Nat) (x:WV) (m:MV) (w:World) (o:OwnW w b B g x) (hm:m.ok w) (hf:∀ k,x.ours b B g k→m.off k) (h30:x.mn≤1000) :
  Calls Tryz.prog 116 #[.pointer (some ⟨B,0,none⟩),m.v] w fun e w'=>((∃ v,e=.returned v)∧∃ y:WV,OwnW w' b B g y∧y.p=postW x.p m.p)∧Below b w w'∧∀ j,j < w.heap.size→j≠B→x.mb≠some j→w'.heap[j]?=w.heap[j]?:=by
 have HP:Hid (x.p.m.length=x.mn):=hide (by rw [o.mn];simp [WV.p])
 have xm:=Lay.made w m.cells 103
 have bw:=belowA (Below.refl _ w) (.cells m.cells.toArray 103)
 have o1:=o.below bw
 have hb0:=o.le.1
 have hBl:=o.lay.lt
 obtain ⟨q0,q1,q2,q3,q4,q5,q6,q7,q8,q9⟩:=o.lay.ten
 have p9:=past1 q9
 have i9:=o1.lay.ice 9
 obtain ⟨ai,hi,hzz,hsz,hby⟩:=pmails_info
 have h63:x.mn + 1≤maxLen:=by simp only [maxLen];omega
 have h72:(x.mn + 1) * ai.bytes≤140737488355328:=Nat.le_trans (Nat.mul_le_mul (show x.mn + 1≤1001 by omega) hby) (by decide)
 have O:=hide o
 have HM:=hide hm
 have HFF:=hide hf
 clear hm hf
 dsimp only [MV.v,MV.cells] at *
 by_cases hlt:x.mn < 30
 ·have hlt':(x.mn:Int) < 30:=by omega
  have own:Hid (∀ w':World,Below (w.alloc (.cells [.bool m.b,.int .i64 m.w,.int .i64 m.s,.int .i64 m.c.k,.int .i64 m.c.z,.int .i64 m.c.n,.int .i64 m.c.at',.slice m.ca m.cn m.cc,.int .i64 m.x.e,.int .i64 m.x.t,.slice m.x.a m.x.n m.x.c].toArray 103)).heap.size (w.alloc (.cells [.bool m.b,.int .i64 m.w,.int .i64 m.s,.int .i64 m.c.k,.int .i64 m.c.z,.int .i64 m.c.n,.int .i64 m.c.at',.slice m.ca m.cn m.cc,.int .i64 m.x.e,.int .i64 m.x.t,.slice m.x.a m.x.n m.x.c].toArray 103)) w'→w'.ownsRow b 103 11 (.slice x.ma x.mn x.mc) x.mn (mailK.cells x.M)):=hide (fun w' hb'=>by
   have:=(o1.m.below hb').own
   rwa [← o.mn] at this)
  go_enter Tryz.func116,Tryz.ntmps116
  go_upto_region 2 with fail
  clear q0 q1 q2 q3 q4 q5 q6 q7 q8 q9
  generalize w.alloc (.cells [.bool m.b,.int .i64 m.w,.int .i64 m.s,.int .i64 m.c.k,.int .i64 m.c.z,.int .i64 m.c.n,.int .i64 m.c.at',.slice m.ca m.cn m.cc,.int .i64 m.x.e,.int .i64 m.x.t,.slice m.x.a m.x.n m.x.c].toArray 103)=w1 at *
  have hbs:b≤w1.heap.size:=by have:=o1.lay.lt;omega
  obtain ⟨c0,c1,c2,c3,c4,c5,c6,c7,c8,c9,c10⟩:=MV.lay (x:=m) (b:=w.heap.size) (o:=0) (w:=w1) (fun j v h=>by rw [Nat.zero_add];exact xm.cell j v h)
  simp only [Nat.zero_add] at c0 c1 c2 c3 c4 c5 c6 c7 c8 c9 c10
  obtain ⟨d0,d1,d2,d3,d4,d5,d6,d7,d8,d9⟩:=o1.lay.ten
  have P9:=past1 d9
  clear xm
  go_region_law (first
   |(refine step_append_lies _ rfl _ _ 38 rfl b 103 ai (.agg #[.bool false,.int .i64 0,.int .i64 0,.int .i64 0,.int .i64 0,.int .i64 0,.int .i64 0,.slice none 0 0,.int .i64 0,.int .i64 0,.slice none 0 0]) 11 ai.bytes Tryz.underlying38 hi hzz hsz rfl rfl (by decide) _ _ _ rfl (own.out _ (by (repeat first|exact bel0|assumption|refine bel1 ?_|refine bel2 ?_|refine bel3 ?_|refine belowT ?_ (by assumption)|refine bel5 ?_ (by simp;try omega)))) ⟨w1.heap.size,0,none⟩ 1 1 [.bool m.b,.int .i64 m.w,.int .i64 m.s,.int .i64 m.c.k,.int .i64 m.c.z,.int .i64 m.c.n,.int .i64 m.c.at',.slice m.ca m.cn m.cc,.int .i64 m.x.e,.int .i64 m.x.t,.slice m.x.a m.x.n m.x.c] rfl rfl (fun j u hu=>by rw [addr_add,Nat.zero_add];exact (Lay.made w1.drew [.bool m.b,.int .i64 m.w,.int .i64 m.s,.int .i64 m.c.k,.int .i64 m.c.z,.int .i64 m.c.n,.int .i64 m.c.at',.slice m.ca m.cn m.cc,.int .i64 m.x.e,.int .i64 m.x.t,.slice m.x.a m.x.n m.x.c] 103).cell j u hu) (mailK.one m) (by decide) h63 h72 (by first|exact hbs|(simp;omega)) _ rfl ?_;intro k cap w' hown hg hat hlt6;(have hbY:=bel_of hg (w:=w1) (by (repeat first|exact bel0|assumption|refine bel1 ?_|refine bel2 ?_|refine bel3 ?_|refine belowT ?_ (by assumption)|refine bel5 ?_ (by simp;try omega))));(have xB:=(o1.lay.below hbY).grownA hg (fun e=>(O.out.mB B e.symm).1 rfl));(have e9:=xB.cell 9 _ rfl);(have f9:=xB.ice 9))
   |(refine step_append_lies _ rfl _ _ 38 rfl b 103 ai (.agg #[.bool false,.int .i64 0,.int .i64 0,.int .i64 0,.int .i64 0,.int .i64 0,.int .i64 0,.slice none 0 0,.int .i64 0,.int .i64 0,.slice none 0 0]) 11 ai.bytes Tryz.underlying38 hi hzz hsz rfl rfl (by decide) _ _ _ rfl (own.out _ (by (repeat first|exact bel0|assumption|refine bel1 ?_|refine bel2 ?_|refine bel3 ?_|refine belowT ?_ (by assumption)|refine bel5 ?_ (by simp;try omega)))) ⟨w1.heap.size,0,none⟩ 1 1 [.bool m.b,.int .i64 m.w,.int .i64 m.s,.int .i64 m.c.k,.int .i64 m.c.z,.int .i64 m.c.n,.int .i64 m.c.at',.slice m.ca m.cn m.cc,.int .i64 m.x.e,.int .i64 m.x.t,.slice m.x.a m.x.n m.x.c] rfl rfl (fun j u hu=>by rw [addr_add,Nat.zero_add];exact (Lay.made w1 [.bool m.b,.int .i64 m.w,.int .i64 m.s,.int .i64 m.c.k,.int .i64 m.c.z,.int .i64 m.c.n,.int .i64 m.c.at',.slice m.ca m.cn m.cc,.int .i64 m.x.e,.int .i64 m.x.t,.slice m.x.a m.x.n m.x.c] 103).cell j u hu) (mailK.one m) (by decide) h63 h72 (by first|exact hbs|(simp;omega)) _ rfl ?_;intro k cap w' hown hg hat hlt6;(have hbY:=bel_of hg (w:=w1) (by (repeat first|exact bel0|assumption|refine bel1 ?_|refine bel2 ?_|refine bel3 ?_|refine belowT ?_ (by assumption)|refine bel5 ?_ (by simp;try omega))));(have xB:=(o1.lay.below hbY).grownA hg (fun e=>(O.out.mB B e.symm).1 rfl));(have e9:=xB.cell 9 _ rfl);(have f9:=xB.ice 9)))
  all_goals
   go_wp2
   go_end0
   obtain ⟨r1,r2,r3⟩:=O.out.send HM.out HFF.out (bw.trans (hbY.mono bw.size)) hown hg hat
   exact ⟨⟨⟨_,rfl⟩,_,r1,by unfold postW;rw [if_pos (by rw [HP.out];exact hlt)];simp [WV.p]⟩,r2.setCell hb0 _,r3⟩
 ·have hlt':¬ (x.mn:Int) < 30:=by omega
  go_enter Tryz.func116,Tryz.ntmps116
  go_wp2
  go_end0
  exact ⟨⟨⟨_,rfl⟩,x,o1,by unfold postW;rw [if_neg (by rw [HP.out];exact hlt)]⟩,bw.mono (by omega),fun j hj _ _=>bw.block j hj⟩
end Go.Proofs.YtabafikicbkkdaaGreatDoor
