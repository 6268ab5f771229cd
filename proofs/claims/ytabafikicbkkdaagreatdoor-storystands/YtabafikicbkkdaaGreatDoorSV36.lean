/- The contract of world.askHall; no condition but that the box holds a world of the call's own whose disk is right, and that the record reads as data. -/
import Derived.Test.YtabafikicbkkdaaGreatDoorSV32
import Derived.Test.YtabafikicbkkdaaGreatDoorSV35
import Derived.Test.YtabafikicbkkdaaGreatDoorSV11
import Derived.Deep.RegionHeld3
import Derived.Test.YtabafikicbkkdaaGreatDoorSV26
import Derived.Test.YtabafikicbkkdaaGreatDoorSV13
namespace Go.Proofs.YtabafikicbkkdaaGreatDoor
open Go.RowKit
set_option linter.unusedVariables false
set_option maxHeartbeats 8000000
set_option maxRecDepth 100000
set_option linter.unusedSimpArgs false
def askHallP (h:PH) (d:PK) (r:PR):(PH×PK)×PA×Int:=
 if (nextH h r).2.2≠0 then ((h,d),zeroA,(nextH h r).2.2)
 else if (lastH h r.w).s < r.s∧(downK d r).2≠0 then ((h,d),zeroA,(downK d r).2)
 else (((nextH h r).1,if (lastH h r.w).s < r.s then (downK d r).1 else d),(nextH h r).2.1,0)
def AskRes (b B g:Nat) (x:WV) (k:(PH×PK)×PA×Int) (e:Ending) (w':World):Prop:=
 ∃ (a':AV) (h':HV) (d':KV),e=.returned (.tuple #[a'.v,.int .i64 k.2.2])∧a'.ok w'∧(∀ k,x.ours b B g k→a'.off k)∧a'.p=k.2.1∧OwnW w' b B g {x with h:=h',d:=d'}∧h'.p=k.1.1∧d'.p=k.1.2
theorem AskRes.of {b B g:Nat} {x:WV} {k:(PH×PK)×PA×Int} {e:Ending} {w':World} (a':AV) (h':HV) (d':KV) (h1:e=.returned (.tuple #[a'.v,.int .i64 k.2.2])) (h2:a'.ok w') (h3:∀ k,x.ours b B g k→a'.off k) (h4:a'.p=k.2.1) (h5:OwnW w' b B g {x with h:=h',d:=d'}) (h6:h'.p=k.1.1) (h7:d'.p=k.1.2):AskRes b B g x k e w':=⟨a',h',d',h1,h2,h3,h4,h5,h6,h7⟩
theorem askHall_c (b B g:Nat) (x:WV) (r:RV) (w:World) (hE:Env w) (o:OwnW w b B g x) (hr:r.ok w) (hc:checkK x.d.p=0) :
  Calls Tryz.prog 140 #[.pointer (some ⟨B,0,none⟩),r.v] w fun e w'=>AskRes b B g x (askHallP x.h.p x.d.p r.p) e w'∧Chg B w w':=by
 have HN:=hide (fun w' hS hk h'=>Next_c x.h r w' hS hk h')
 have HW:=hide (fun w' hE h h'=>writeDown_c b B g x r w' hE h h' hc)
 have HC:Hid (askHallP x.h.p x.d.p r.p=if (nextH x.h.p r.p).2.2≠0 then ((x.h.p,x.d.p),zeroA,(nextH x.h.p r.p).2.2) else if (lastH x.h.p r.p.w).s < r.p.s∧(downK x.d.p r.p).2≠0 then ((x.h.p,x.d.p),zeroA,(downK x.d.p r.p).2) else (((nextH x.h.p r.p).1,if (lastH x.h.p r.p.w).s < r.p.s then (downK x.d.p r.p).1 else x.d.p),(nextH x.h.p r.p).2.1,0)):=hide rfl
 have HOK:=hide (fun k=>nextH_ok (h:=x.h.p) (r:=r.p) k)
 generalize askHallP x.h.p x.d.p r.p=cw at *
 generalize hnr:nextH x.h.p r.p=nr at *
 have HDR:Hid ((downK x.d.p r.p).2≠0→(downK x.d.p r.p).1=x.d.p):=hide (fun k=>by
  unfold downK at k ⊢
  split
  ·rfl
  ·rename_i q
   rw [if_neg q] at k
   split
   ·rfl
   ·rename_i q2
    rw [if_neg q2] at k
    exact absurd rfl k)
 generalize downK x.d.p r.p=dr at *
 clear hc
 have hBl0:=o.lay.lt
 have FRE:=hide (o.free (k:=w.heap.size + 1) (by omega))
 obtain ⟨x0,x1,bw⟩:=two_boxes w r.cells [.int .i64 0,.int .i64 0,.slice none 0 0] 52 56
 replace o:=o.below bw
 replace hr:=hr.below bw (Nat.le_refl _)
 replace hE:=hE.below bw
 have hh:=o.h
 have hbB:=o.le.1
 have hbs:b≤w.heap.size:=by omega
 dsimp only [RV.v,RV.cells,HV.v] at *
 go_enter Tryz.func140,Tryz.ntmps140
 go_upto_region 1 with fail
 generalize (w.alloc (.cells [.int .i64 r.p.w,.int .i64 r.p.s,.int .i64 r.p.c.k,.int .i64 r.p.c.z,.int .i64 r.p.c.n,.int .i64 r.p.c.at',.slice r.a r.n r.c].toArray 52)).alloc (.cells [.int .i64 0,.int .i64 0,.slice none 0 0].toArray 56)=w1 at *
 have c0:=x0.cell 0 _ rfl
 have c1:=x0.cell 1 _ rfl
 have c2:=x0.cell 2 _ rfl
 have c3:=x0.cell 3 _ rfl
 have c4:=x0.cell 4 _ rfl
 have c5:=x0.cell 5 _ rfl
 have c6:=x0.cell 6 _ rfl
 have d0:=o.lay.cell 0 _ rfl
 have d1:=o.lay.cell 1 _ rfl
 have d2:=o.lay.cell 2 _ rfl
 have d3:=o.lay.cell 3 _ rfl
 have d4:=o.lay.cell 4 _ rfl
 have HLT:=hide (fun k (q:x.ours b B g k)=>o.lt q)
 have hBl:=o.lay.lt
 have hwl:=x1.lt
 go_cut [6,7,8] (fun p q e wx=>∃ (N A:Nat) (h':HV) (a':AV),p=.pointer (some ⟨N,0,none⟩)∧q=.pointer (some ⟨A,0,none⟩)∧e=.int .i64 nr.2.2∧Lay wx N h'.cells∧Lay wx A [.int .i64 a'.e,.int .i64 a'.t,.slice a'.a a'.n a'.c]∧h'.ok wx∧a'.ok wx∧h'.new w1.heap.size∧a'.new w1.heap.size∧h'.p=nr.1∧a'.p=nr.2.1∧w1.heap.size≤N∧w1.heap.size≤A∧N≠A∧Below w1.heap.size w1 wx)
 case first=>
  go_region_held3 (fun w'=>w'.cell? ⟨B,0,none⟩=some (.slice x.h.d.za x.h.d.zn x.h.d.zc)∧w'.cell? ⟨B,1,none⟩=some (.slice x.h.d.ka x.h.d.kn x.h.d.kc)∧w'.cell? ⟨B,2,none⟩=some (.int .i64 x.h.d.b.h)∧w'.cell? ⟨B,3,none⟩=some (.int .i64 x.h.d.b.t)∧w'.cell? ⟨B,4,none⟩=some (.slice x.h.a x.h.n x.h.c)∧w'.cell? ⟨w.heap.size,0,none⟩=some (.int .i64 r.p.w)∧w'.cell? ⟨w.heap.size,1,none⟩=some (.int .i64 r.p.s)∧w'.cell? ⟨w.heap.size,2,none⟩=some (.int .i64 r.p.c.k)∧w'.cell? ⟨w.heap.size,3,none⟩=some (.int .i64 r.p.c.z)∧w'.cell? ⟨w.heap.size,4,none⟩=some (.int .i64 r.p.c.n)∧w'.cell? ⟨w.heap.size,5,none⟩=some (.int .i64 r.p.c.at')∧w'.cell? ⟨w.heap.size,6,none⟩=some (.slice r.a r.n r.c)) ((first|(go_simp;done)|(simp [*,World.cell?_alloc_at,World.cell?_alloc_past,World.cell?_alloc_some,World.cell?_setCell_far];done))) (first
   |(go_at_call 36;refine (HN.out _ (Env.below hE (by clear bw;(repeat first|exact bel0|assumption|refine bel1 ?_|refine bel2 ?_|refine bel3 ?_|refine belowT ?_ (by assumption)|refine bel5 ?_ (by simp;try omega)))).shp (by refine HV.ok.below hh (B:=w1.heap.size) ?_ (Nat.le_refl _);clear bw;(repeat first|exact bel0|assumption|refine bel1 ?_|refine bel2 ?_|refine bel3 ?_|refine belowT ?_ (by assumption)|refine bel5 ?_ (by simp;try omega))) (by refine RV.ok.below hr (B:=w1.heap.size) ?_ (Nat.le_refl _);clear bw;(repeat first|exact bel0|assumption|refine bel1 ?_|refine bel2 ?_|refine bel3 ?_|refine belowT ?_ (by assumption)|refine bel5 ?_ (by simp;try omega)))).mono ?_;rintro e wb ⟨⟨⟨⟨yz,yn,yc,Y,yk,ym,yl,yj,yh,yt⟩,yb,yo,yp,M⟩,⟨ae,at',aa,an,ac,ad⟩,rfl,ok2,oka2,new2,newa2,hp2,hpa2⟩,hb2⟩;dsimp only [HV.v,AV.v];(have bB:Below w1.heap.size w1 wb:=by clear bw;(repeat first|exact bel0|assumption|refine bel1 ?_|refine bel2 ?_|refine bel3 ?_|refine belowT ?_ (by assumption)|refine bel5 ?_ (by simp;try omega)));(have hsB:=bB.size);(first|((have xB:=Lay.below (Lay.drew (Lay.below (Lay.made w1 [.slice none 0 0,.slice none 0 0,.int .i64 0,.int .i64 0,.slice none 0 0] 33) (belowA (Below.refl _ _) (.cells [.int .i64 0,.int .i64 0,.slice none 0 0].toArray 56)))) hb2);(have xC:=Lay.below (Lay.drew (Lay.made1 w1 (.cells [.slice none 0 0,.slice none 0 0,.int .i64 0,.int .i64 0,.slice none 0 0].toArray 33) [.int .i64 0,.int .i64 0,.slice none 0 0] 56)) hb2))|((have xB:=Lay.below ((Lay.below (Lay.made w1 [.slice none 0 0,.slice none 0 0,.int .i64 0,.int .i64 0,.slice none 0 0] 33) (belowA (Below.refl _ _) (.cells [.int .i64 0,.int .i64 0,.slice none 0 0].toArray 56)))) hb2);(have xC:=Lay.below ((Lay.made1 w1 (.cells [.slice none 0 0,.slice none 0 0,.int .i64 0,.int .i64 0,.slice none 0 0].toArray 33) [.int .i64 0,.int .i64 0,.slice none 0 0] 56)) hb2))|((have xC:=Lay.below (Lay.drew (Lay.below (Lay.made w1 [.int .i64 0,.int .i64 0,.slice none 0 0] 56) (belowA (Below.refl _ _) (.cells [.slice none 0 0,.slice none 0 0,.int .i64 0,.int .i64 0,.slice none 0 0].toArray 33)))) hb2);(have xB:=Lay.below (Lay.drew (Lay.made1 w1 (.cells [.int .i64 0,.int .i64 0,.slice none 0 0].toArray 56) [.slice none 0 0,.slice none 0 0,.int .i64 0,.int .i64 0,.slice none 0 0] 33)) hb2))|((have xC:=Lay.below ((Lay.below (Lay.made w1 [.int .i64 0,.int .i64 0,.slice none 0 0] 56) (belowA (Below.refl _ _) (.cells [.slice none 0 0,.slice none 0 0,.int .i64 0,.int .i64 0,.slice none 0 0].toArray 33)))) hb2);(have xB:=Lay.below ((Lay.made1 w1 (.cells [.int .i64 0,.int .i64 0,.slice none 0 0].toArray 56) [.slice none 0 0,.slice none 0 0,.int .i64 0,.int .i64 0,.slice none 0 0] 33)) hb2))|((have xB:=Lay.below (Lay.drew (Lay.made w1 [.slice none 0 0,.slice none 0 0,.int .i64 0,.int .i64 0,.slice none 0 0] 33)) hb2))|((have xB:=Lay.below ((Lay.made w1 [.slice none 0 0,.slice none 0 0,.int .i64 0,.int .i64 0,.slice none 0 0] 33)) hb2))|((have xC:=Lay.below (Lay.drew (Lay.made w1 [.int .i64 0,.int .i64 0,.slice none 0 0] 56)) hb2))|((have xC:=Lay.below ((Lay.made w1 [.int .i64 0,.int .i64 0,.slice none 0 0] 56)) hb2))|(skip));(have p0:=keepc hb2 (p:=⟨B,0,none⟩) (u:=.slice x.h.d.za x.h.d.zn x.h.d.zc) (by (first|(go_simp;done)|(simp [*,World.cell?_alloc_at,World.cell?_alloc_past,World.cell?_alloc_some,World.cell?_setCell_far];done))));(have p1:=keepc hb2 (p:=⟨B,1,none⟩) (u:=.slice x.h.d.ka x.h.d.kn x.h.d.kc) (by (first|(go_simp;done)|(simp [*,World.cell?_alloc_at,World.cell?_alloc_past,World.cell?_alloc_some,World.cell?_setCell_far];done))));(have p2:=keepc hb2 (p:=⟨B,2,none⟩) (u:=.int .i64 x.h.d.b.h) (by (first|(go_simp;done)|(simp [*,World.cell?_alloc_at,World.cell?_alloc_past,World.cell?_alloc_some,World.cell?_setCell_far];done))));(have p3:=keepc hb2 (p:=⟨B,3,none⟩) (u:=.int .i64 x.h.d.b.t) (by (first|(go_simp;done)|(simp [*,World.cell?_alloc_at,World.cell?_alloc_past,World.cell?_alloc_some,World.cell?_setCell_far];done))));(have p4:=keepc hb2 (p:=⟨B,4,none⟩) (u:=.slice x.h.a x.h.n x.h.c) (by (first|(go_simp;done)|(simp [*,World.cell?_alloc_at,World.cell?_alloc_past,World.cell?_alloc_some,World.cell?_setCell_far];done))));(have p5:=keepc hb2 (p:=⟨w.heap.size,0,none⟩) (u:=.int .i64 r.p.w) (by (first|(go_simp;done)|(simp [*,World.cell?_alloc_at,World.cell?_alloc_past,World.cell?_alloc_some,World.cell?_setCell_far];done))));(have p6:=keepc hb2 (p:=⟨w.heap.size,1,none⟩) (u:=.int .i64 r.p.s) (by (first|(go_simp;done)|(simp [*,World.cell?_alloc_at,World.cell?_alloc_past,World.cell?_alloc_some,World.cell?_setCell_far];done))));(have p7:=keepc hb2 (p:=⟨w.heap.size,2,none⟩) (u:=.int .i64 r.p.c.k) (by (first|(go_simp;done)|(simp [*,World.cell?_alloc_at,World.cell?_alloc_past,World.cell?_alloc_some,World.cell?_setCell_far];done))));(have p8:=keepc hb2 (p:=⟨w.heap.size,3,none⟩) (u:=.int .i64 r.p.c.z) (by (first|(go_simp;done)|(simp [*,World.cell?_alloc_at,World.cell?_alloc_past,World.cell?_alloc_some,World.cell?_setCell_far];done))));(have p9:=keepc hb2 (p:=⟨w.heap.size,4,none⟩) (u:=.int .i64 r.p.c.n) (by (first|(go_simp;done)|(simp [*,World.cell?_alloc_at,World.cell?_alloc_past,World.cell?_alloc_some,World.cell?_setCell_far];done))));(have p10:=keepc hb2 (p:=⟨w.heap.size,5,none⟩) (u:=.int .i64 r.p.c.at') (by (first|(go_simp;done)|(simp [*,World.cell?_alloc_at,World.cell?_alloc_past,World.cell?_alloc_some,World.cell?_setCell_far];done))));(have p11:=keepc hb2 (p:=⟨w.heap.size,6,none⟩) (u:=.slice r.a r.n r.c) (by (first|(go_simp;done)|(simp [*,World.cell?_alloc_at,World.cell?_alloc_past,World.cell?_alloc_some,World.cell?_setCell_far];done))));(try have xBc0:=xB.cell 0 _ rfl);(try have xBi0:=xB.ice 0);(try have xBc1:=xB.cell 1 _ rfl);(try have xBi1:=xB.ice 1);(try have xBc2:=xB.cell 2 _ rfl);(try have xBi2:=xB.ice 2);(try have xBc3:=xB.cell 3 _ rfl);(try have xBi3:=xB.ice 3);(try have xBc4:=xB.cell 4 _ rfl);(try have xBi4:=xB.ice 4);(try have xCc0:=xC.cell 0 _ rfl);(try have xCi0:=xC.ice 0);(try have xCc1:=xC.cell 1 _ rfl);(try have xCi1:=xC.ice 1);(try have xCc2:=xC.cell 2 _ rfl);(try have xCi2:=xC.ice 2);(try have xBp0:=past1 xBc0);(try have xBq0:=pastf1 xBc0 xBi0);(try have xBp1:=past1 xBc1);(try have xBq1:=pastf1 xBc1 xBi1);(try have xBp2:=past1 xBc2);(try have xBq2:=pastf1 xBc2 xBi2);(try have xBp3:=past1 xBc3);(try have xBq3:=pastf1 xBc3 xBi3);(try have xBp4:=past1 xBc4);(try have xBq4:=pastf1 xBc4 xBi4);(try have xCp0:=past1 xCc0);(try have xCq0:=pastf1 xCc0 xCi0);(try have xCp1:=past1 xCc1);(try have xCq1:=pastf1 xCc1 xCi1);(try have xCp2:=past1 xCc2);(try have xCq2:=pastf1 xCc2 xCi2);(try have yC:=lay_pastH xB ⟨⟨yz,yn,yc,Y,yk,ym,yl,yj,yh,yt⟩,yb,yo,yp,M⟩ [.int .i64 0,.int .i64 0,.slice none 0 0] 56);(try dsimp only at yC);(try have yCc0:=yC.cell 0 _ rfl);(try have yCi0:=yC.ice 0);(try have yCc1:=yC.cell 1 _ rfl);(try have yCi1:=yC.ice 1);(try have yCc2:=yC.cell 2 _ rfl);(try have yCi2:=yC.ice 2);(try have yB:=lay_pastA xC ⟨ae,at',aa,an,ac,ad⟩ [.slice none 0 0,.slice none 0 0,.int .i64 0,.int .i64 0,.slice none 0 0] 33);(try dsimp only at yB);(try have yBc0:=yB.cell 0 _ rfl);(try have yBi0:=yB.ice 0);(try have yBc1:=yB.cell 1 _ rfl);(try have yBi1:=yB.ice 1);(try have yBc2:=yB.cell 2 _ rfl);(try have yBi2:=yB.ice 2);(try have yBc3:=yB.cell 3 _ rfl);(try have yBi3:=yB.ice 3);(try have yBc4:=yB.cell 4 _ rfl);(try have yBi4:=yB.ice 4);(try have nB1:=Nat.ne_of_lt xB.lt);(try have nB2:=(Nat.ne_of_lt xB.lt).symm);(try have nC1:=Nat.ne_of_lt xC.lt);(try have nC2:=(Nat.ne_of_lt xC.lt).symm);(have rr0:B≠w1.heap.size:=by omega);(have rr1:w1.heap.size≠B:=by omega);(have rr2:B≠w1.heap.size + 1:=by omega);(have rr3:w1.heap.size + 1≠B:=by omega);(have rr4:B≠wb.heap.size:=by omega);(have rr5:wb.heap.size≠B:=by omega);(have rr6:B≠wb.heap.size + 1:=by omega);(have rr7:wb.heap.size + 1≠B:=by omega);(have rr8:w.heap.size≠w1.heap.size:=by omega);(have rr9:w1.heap.size≠w.heap.size:=by omega);(have rr10:w.heap.size≠w1.heap.size + 1:=by omega);(have rr11:w1.heap.size + 1≠w.heap.size:=by omega);(have rr12:w.heap.size≠wb.heap.size:=by omega);(have rr13:wb.heap.size≠w.heap.size:=by omega);(have rr14:w.heap.size≠wb.heap.size + 1:=by omega);(have rr15:wb.heap.size + 1≠w.heap.size:=by omega)))
  all_goals
   go_wp2_with fail
   go_meet
  all_goals
   case rel=>
    have new2':=new2.mono (show w1.heap.size≤_ by simp;try omega)
    have newa2':=AV.new.mono newa2 (show w1.heap.size≤_ by simp;try omega)
    first
     |(have q:=twoH_bc (W:=w1) (d:=⟨⟨yz,yn,yc,Y,yk,ym,yl,yj,yh,yt⟩,yb,yo,yp,M⟩) (x:=⟨ae,at',aa,an,ac,ad⟩) xB xC (by first|omega|(simp;done)|(simp;omega)) (by first|omega|(simp;done)|(simp;omega)) (by first|omega|(simp;done)|(simp;omega)) ok2 oka2 (new2 _ (by first|omega|(simp;done)|(simp;omega))) (new2 _ (by first|omega|(simp;done)|(simp;omega))) (newa2 _ (by first|omega|(simp;done)|(simp;omega))) (newa2 _ (by first|omega|(simp;done)|(simp;omega))) bB;dsimp only at q;with_reducible exact ⟨_,_,⟨⟨yz,yn,yc,Y,yk,ym,yl,yj,yh,yt⟩,yb,yo,yp,M⟩,⟨ae,at',aa,an,ac,ad⟩,rfl,rfl,rfl,q.b,q.c,q.d,q.x,new2',newa2',hp2,hpa2,(by first|omega|(simp;done)|(simp;omega)),(by first|omega|(simp;done)|(simp;omega)),(by first|omega|(simp;done)|(simp;omega)),q.low⟩)
     |(have q:=twoH_cb (W:=w1) (d:=⟨⟨yz,yn,yc,Y,yk,ym,yl,yj,yh,yt⟩,yb,yo,yp,M⟩) (x:=⟨ae,at',aa,an,ac,ad⟩) xB xC (by first|omega|(simp;done)|(simp;omega)) (by first|omega|(simp;done)|(simp;omega)) (by first|omega|(simp;done)|(simp;omega)) ok2 oka2 (new2 _ (by first|omega|(simp;done)|(simp;omega))) (new2 _ (by first|omega|(simp;done)|(simp;omega))) (newa2 _ (by first|omega|(simp;done)|(simp;omega))) (newa2 _ (by first|omega|(simp;done)|(simp;omega))) bB;dsimp only at q;with_reducible exact ⟨_,_,⟨⟨yz,yn,yc,Y,yk,ym,yl,yj,yh,yt⟩,yb,yo,yp,M⟩,⟨ae,at',aa,an,ac,ad⟩,rfl,rfl,rfl,q.b,q.c,q.d,q.x,new2',newa2',hp2,hpa2,(by first|omega|(simp;done)|(simp;omega)),(by first|omega|(simp;done)|(simp;omega)),(by first|omega|(simp;done)|(simp;omega)),q.low⟩)
     |(have q:=twoH_b (W:=w1) (d:=⟨⟨yz,yn,yc,Y,yk,ym,yl,yj,yh,yt⟩,yb,yo,yp,M⟩) (x:=⟨ae,at',aa,an,ac,ad⟩) (t:=56) xB (by first|omega|(simp;done)|(simp;omega)) ok2 oka2 (new2 _ (by first|omega|(simp;done)|(simp;omega))) (newa2 _ (by first|omega|(simp;done)|(simp;omega))) bB;dsimp only at q;with_reducible exact ⟨_,_,⟨⟨yz,yn,yc,Y,yk,ym,yl,yj,yh,yt⟩,yb,yo,yp,M⟩,⟨ae,at',aa,an,ac,ad⟩,rfl,rfl,rfl,q.b,q.c,q.d,q.x,new2',newa2',hp2,hpa2,(by first|omega|(simp;done)|(simp;omega)),(by first|omega|(simp;done)|(simp;omega)),(by first|omega|(simp;done)|(simp;omega)),q.low⟩)
     |(have q:=twoH_c (W:=w1) (d:=⟨⟨yz,yn,yc,Y,yk,ym,yl,yj,yh,yt⟩,yb,yo,yp,M⟩) (x:=⟨ae,at',aa,an,ac,ad⟩) (t:=33) xC (by first|omega|(simp;done)|(simp;omega)) ok2 oka2 (new2 _ (by first|omega|(simp;done)|(simp;omega))) (newa2 _ (by first|omega|(simp;done)|(simp;omega))) bB;dsimp only at q;with_reducible exact ⟨_,_,⟨⟨yz,yn,yc,Y,yk,ym,yl,yj,yh,yt⟩,yb,yo,yp,M⟩,⟨ae,at',aa,an,ac,ad⟩,rfl,rfl,rfl,q.b,q.c,q.d,q.x,new2',newa2',hp2,hpa2,(by first|omega|(simp;done)|(simp;omega)),(by first|omega|(simp;done)|(simp;omega)),(by first|omega|(simp;done)|(simp;omega)),q.low⟩)
     |(have q:=twoH_bn (W:=w1) (d:=⟨⟨yz,yn,yc,Y,yk,ym,yl,yj,yh,yt⟩,yb,yo,yp,M⟩) (x:=⟨ae,at',aa,an,ac,ad⟩) (t:=56) xB (by first|omega|(simp;done)|(simp;omega)) ok2 oka2 (new2 _ (by first|omega|(simp;done)|(simp;omega))) (newa2 _ (by first|omega|(simp;done)|(simp;omega))) bB;dsimp only at q;with_reducible exact ⟨_,_,⟨⟨yz,yn,yc,Y,yk,ym,yl,yj,yh,yt⟩,yb,yo,yp,M⟩,⟨ae,at',aa,an,ac,ad⟩,rfl,rfl,rfl,q.b,q.c,q.d,q.x,new2',newa2',hp2,hpa2,(by first|omega|(simp;done)|(simp;omega)),(by first|omega|(simp;done)|(simp;omega)),(by first|omega|(simp;done)|(simp;omega)),q.low⟩)
     |(have q:=twoH_cn (W:=w1) (d:=⟨⟨yz,yn,yc,Y,yk,ym,yl,yj,yh,yt⟩,yb,yo,yp,M⟩) (x:=⟨ae,at',aa,an,ac,ad⟩) (t:=33) xC (by first|omega|(simp;done)|(simp;omega)) ok2 oka2 (new2 _ (by first|omega|(simp;done)|(simp;omega))) (newa2 _ (by first|omega|(simp;done)|(simp;omega))) bB;dsimp only at q;with_reducible exact ⟨_,_,⟨⟨yz,yn,yc,Y,yk,ym,yl,yj,yh,yt⟩,yb,yo,yp,M⟩,⟨ae,at',aa,an,ac,ad⟩,rfl,rfl,rfl,q.b,q.c,q.d,q.x,new2',newa2',hp2,hpa2,(by first|omega|(simp;done)|(simp;omega)),(by first|omega|(simp;done)|(simp;omega)),(by first|omega|(simp;done)|(simp;omega)),q.low⟩)
     |(have q:=twoH_dx (W:=w1) (d:=⟨⟨yz,yn,yc,Y,yk,ym,yl,yj,yh,yt⟩,yb,yo,yp,M⟩) (x:=⟨ae,at',aa,an,ac,ad⟩) (s:=33) (t:=56) ok2 oka2 bB;dsimp only at q;with_reducible exact ⟨_,_,⟨⟨yz,yn,yc,Y,yk,ym,yl,yj,yh,yt⟩,yb,yo,yp,M⟩,⟨ae,at',aa,an,ac,ad⟩,rfl,rfl,rfl,q.b,q.c,q.d,q.x,new2',newa2',hp2,hpa2,(by first|omega|(simp;done)|(simp;omega)),(by first|omega|(simp;done)|(simp;omega)),(by first|omega|(simp;done)|(simp;omega)),q.low⟩)
     |(have q:=twoH_xd (W:=w1) (d:=⟨⟨yz,yn,yc,Y,yk,ym,yl,yj,yh,yt⟩,yb,yo,yp,M⟩) (x:=⟨ae,at',aa,an,ac,ad⟩) (s:=56) (t:=33) ok2 oka2 bB;dsimp only at q;with_reducible exact ⟨_,_,⟨⟨yz,yn,yc,Y,yk,ym,yl,yj,yh,yt⟩,yb,yo,yp,M⟩,⟨ae,at',aa,an,ac,ad⟩,rfl,rfl,rfl,q.b,q.c,q.d,q.x,new2',newa2',hp2,hpa2,(by first|omega|(simp;done)|(simp;omega)),(by first|omega|(simp;done)|(simp;omega)),(by first|omega|(simp;done)|(simp;omega)),q.low⟩)
 case rest=>
 obtain ⟨N,A,h',a',rfl,rfl,rfl,xN,xA,hk,ha,hn,han,hp,hpa,hN1,hA1,hNA,b13⟩:=hcut
 generalize wc=w2 at *
 replace o:=o.below b13
 replace x0:=x0.below b13
 replace x1:=x1.below b13
 replace hr:=hr.below b13 (Nat.le_refl _)
 replace hE:=hE.below b13
 replace bw:=belowT bw b13
 clear b13 c0 c1 c2 c3 c4 c5 c6 d0 d1 d2 d3 d4 HN hh
 have FA:Hid (∀ k,x.ours b B g k→a'.off k):=hide (fun k q=>han k (HLT.out k q))
 have FH:Hid (∀ k,x.ours b B g k→h'.off k):=hide (fun k q=>hn k (HLT.out k q))
 have n1:N≠B:=by omega
 have n2:B≠N:=by omega
 have n3:A≠B:=by omega
 have n4:B≠A:=by omega
 have n5:B≠w.heap.size + 1:=by omega
 have n6:w.heap.size + 1≠B:=by omega
 have n7:B≠w.heap.size:=by omega
 have n8:w.heap.size≠B:=by omega
 have n9:A≠w.heap.size + 1:=by omega
 have n10:w.heap.size + 1≠A:=by omega
 cases h0:nr.2.2 !=0
 ·have h00:nr.2.2=0:=by simpa using h0
  rw [if_neg (by simpa using h0)] at HC
  obtain ⟨k1,k2,-⟩:=HOK.out h00
  obtain ⟨j,hj,hj3⟩:=rec_who k2
  obtain ⟨-,h3,-,-⟩:=hall_right o.h k1
  obtain ⟨lb,lo,y,ha3,hy,hyk,ky⟩:=o.h.l.at (i:=j) (by omega)
  have hls:(lastH x.h.p r.p.w).s=y.s:=by
   unfold lastH
   rw [hj,Int.toNat_natCast,show x.h.p.l=x.h.L.map LV.p from rfl,List.getD_eq_getElem?_getD,List.getElem?_map,hy]
   rfl
  rw [hls] at HC
  have y0:=ky 0 _ rfl
  rw [Nat.add_zero] at y0
  have hj0:(0:Int)≤(j:Int):=by omega
  have hj3':(j:Int) < 3:=by omega
  have d4:=o.lay.cell 4 _ rfl
  rw [ha3,h3] at d4
  have c0:=x0.cell 0 _ rfl
  have c1:=x0.cell 1 _ rfl
  rw [hj] at c0
  have HH:=hide h3
  have HA:=hide ha3
  have HJ:=hide hj
  clear h3 ha3 hj hyk ky hy k1 k2 HOK h00
  go_upto_region 4 with fail
  go_cut [36] (fun v wx=>v=.bool (decide (r.p.s > y.s))∧wx=w2.drew)
  case first=>
   go_region_held3 (fun w'=>w'.cell? ⟨w.heap.size,0,none⟩=some (.int .i64 j)∧w'.cell? ⟨w.heap.size,1,none⟩=some (.int .i64 r.p.s)∧w'.cell? ⟨B,4,none⟩=some (.slice (some ⟨lb,lo,none⟩) 3 x.h.c)∧w'.cell? ⟨lb,lo + j * 4,none⟩=some (.int .i64 y.s)) ((first|(go_simp;done)|(simp [*,World.cell?_alloc_at,World.cell?_alloc_past,World.cell?_alloc_some,World.cell?_setCell_far];done))) (fail)
   go_wp2_with fail
   go_meet
   case rel=>exact ⟨by rfl,by rfl⟩
  case rest=>
  obtain ⟨rfl,rfl⟩:=hcut
  have bd:Below w2.heap.size w2 w2.drew:=(Below.refl _ _).drew
  replace o:=o.below bd
  replace x0:=x0.below bd
  replace x1:=x1.below bd
  replace xN:=xN.below bd
  replace xA:=xA.below bd
  replace hr:=hr.below bd (Nat.le_refl _)
  replace hE:=hE.below bd
  replace hk:=hk.below bd (Nat.le_refl _)
  replace ha:=AV.ok.below ha bd (Nat.le_refl _)
  replace bw:=belowT bw bd
  clear bd c0 c1 y0 d4
  generalize w2.drew=w3 at *
  by_cases hlt:y.s < r.p.s
  ·have hlt':r.p.s > y.s:=hlt
   simp only [hlt,true_and,if_true] at HC
   have c0:=x0.cell 0 _ rfl
   have c1:=x0.cell 1 _ rfl
   have c2:=x0.cell 2 _ rfl
   have c3:=x0.cell 3 _ rfl
   have c4:=x0.cell 4 _ rfl
   have c5:=x0.cell 5 _ rfl
   have c6:=x0.cell 6 _ rfl
   go_upto_region 5 with fail
   go_cut [9] (fun v wx=>v=.int .i64 dr.2∧(∃ d':KV,OwnW wx b B g {x with d:=d'}∧d'.p=dr.1∧∀ k,k < w3.heap.size→x.d.off k→d'.off k)∧Chg B w3 wx)
   case first=>
    go_region_held3 (fun w'=>w'.cell? ⟨w.heap.size,0,none⟩=some (.int .i64 r.p.w)∧w'.cell? ⟨w.heap.size,1,none⟩=some (.int .i64 r.p.s)∧w'.cell? ⟨w.heap.size,2,none⟩=some (.int .i64 r.p.c.k)∧w'.cell? ⟨w.heap.size,3,none⟩=some (.int .i64 r.p.c.z)∧w'.cell? ⟨w.heap.size,4,none⟩=some (.int .i64 r.p.c.n)∧w'.cell? ⟨w.heap.size,5,none⟩=some (.int .i64 r.p.c.at')∧w'.cell? ⟨w.heap.size,6,none⟩=some (.slice r.a r.n r.c)) ((first|(go_simp;done)|(simp [*,World.cell?_alloc_at,World.cell?_alloc_past,World.cell?_alloc_some,World.cell?_setCell_far];done)))
     (first|(go_at_call 159;refine (HW.out _ (Env.below hE (by clear bw;(repeat first|exact bel0|assumption|refine bel1 ?_|refine bel2 ?_|refine bel3 ?_|refine belowT ?_ (by assumption)|refine bel5 ?_ (by simp;try omega)))) (OwnW.below o (by clear bw;(repeat first|exact bel0|assumption|refine bel1 ?_|refine bel2 ?_|refine bel3 ?_|refine belowT ?_ (by assumption)|refine bel5 ?_ (by simp;try omega)))) (by refine RV.ok.below hr (B:=w3.heap.size) ?_ (Nat.le_refl _);clear bw;(repeat first|exact bel0|assumption|refine bel1 ?_|refine bel2 ?_|refine bel3 ?_|refine belowT ?_ (by assumption)|refine bel5 ?_ (by simp;try omega)))).mono ?_;rintro e w4 ⟨⟨rfl,d',od,hdp,hdo⟩,hb⟩;(have cB:Chg B w3 w4:=Chg.trans (Chg.of_below (by clear bw;(repeat first|exact bel0|assumption|refine bel1 ?_|refine bel2 ?_|refine bel3 ?_|refine belowT ?_ (by assumption)|refine bel5 ?_ (by simp;try omega)))) hb);(have x4:=Lay.chg x0 cB n8);(have k0:=x4.cell 0 _ rfl);(have k1:=x4.cell 1 _ rfl);(have k2:=x4.cell 2 _ rfl);(have k3:=x4.cell 3 _ rfl);(have k4:=x4.cell 4 _ rfl);(have k5:=x4.cell 5 _ rfl);(have k6:=x4.cell 6 _ rfl)))
    go_wp2_with fail
    go_meet
    case rel=>exact ⟨by rfl,⟨d',od,hdp,fun k hk=>hdo k (by simpa using hk)⟩,cB⟩
   case rest=>
   obtain ⟨rfl,⟨d',od,hdp,hdo⟩,cB⟩:=hcut
   generalize wc=w5 at *
   have hR3:=x1.lt
   have hB3:B≤w3.heap.size:=Nat.le_of_lt o.lay.lt
   have x15:=x1.chg cB n6
   have xN5:=xN.chg cB n1
   have xA5:=xA.chg cB n3
   have hk5:=hk.but (grown_but' cB rfl hB3) (FH.out B (.inr (.inl rfl)))
   have ha5:=AV.ok.but ha (grown_but' cB rfl hB3) (FA.out B (.inr (.inl rfl)))
   have ch5:=(Chg.of_below (k:=B) bw).trans cB
   clear c0 c1 c2 c3 c4 c5 c6
   cases h1:dr.2 !=0
   ·rw [if_neg (by simpa using h1)] at HC
    obtain ⟨q0,q1,q2,q3,q4,q5,q6,q7,q8,q9⟩:=(od).lay.ten
    have iB:=(od).lay.ice
    have p0:=xN5.cell 0 _ rfl
    have p1:=xN5.cell 1 _ rfl
    have p2:=xN5.cell 2 _ rfl
    have p3:=xN5.cell 3 _ rfl
    have p4:=xN5.cell 4 _ rfl
    have a0:=xA5.cell 0 _ rfl
    have a1:=xA5.cell 1 _ rfl
    have a2:=xA5.cell 2 _ rfl
    have e0:=x15.cell 0 _ rfl
    have e1:=x15.cell 1 _ rfl
    have e2:=x15.cell 2 _ rfl
    have iR:=x15.ice
    have o1:=(od).box (vs:=h'.cells) (i:=0) (y:={x with h:=h',d:=d'}) rfl ⟨rfl,rfl,rfl,rfl⟩ ⟨rfl,rfl,rfl,rfl⟩ hk5 (od).d (fun k q=>⟨FH.out k q,((od).far k q).d⟩)
    have c1:=Chg.put (k:=B) h'.cells 0 (Chg.refl B w5)
    have ha1:=AV.ok.but ha5 (putAll_but B h'.cells w5 0).but (FA.out B (.inr (.inl rfl)))
    have xR1:=x15.butI (putAll_but B h'.cells w5 0) n6
    have fre:=FRE.out
    have o2:=o1.side (k:=w.heap.size + 1) [.int .i64 a'.e,.int .i64 a'.t,.slice a'.a a'.n a'.c] 0 ⟨fre.1,fre.2.1,fre.2.2.1⟩ ⟨hn _ (by omega),(hdo _ hR3 fre.2.2.2.d),fre.2.2.2.n,fre.2.2.2.m⟩ (Nat.le_of_lt xR1.lt)
    have ha2:=AV.ok.but ha1 (putAll_but (w.heap.size + 1) [.int .i64 a'.e,.int .i64 a'.t,.slice a'.a a'.n a'.c] (putAll w5 B 0 h'.cells) 0).but (han _ (by omega))
    have c2:=Chg.side (k:=w.heap.size + 1) [.int .i64 a'.e,.int .i64 a'.t,.slice a'.a a'.n a'.c] 0 ((ch5).trans c1) (by omega)
    have xR2:=xR1.fill (vs:=[.int .i64 a'.e,.int .i64 a'.t,.slice a'.a a'.n a'.c]) rfl
    dsimp only [putAll,Nat.reduceAdd,HV.cells] at o2 ha2 c2 xR2
    go_wp2
    have z0:=xR2.cell 0 _ rfl
    have z1:=xR2.cell 1 _ rfl
    have z2:=xR2.cell 2 _ rfl
    exact bodyPost_ret (v:=.tuple #[.agg #[.int .i64 a'.e,.int .i64 a'.t,.slice a'.a a'.n a'.c],.int .i64 0]) (by simp [results,Tryz.results140,go_sem,z0,z1,z2]) rfl
     ⟨AskRes.of a' h' d' (by rw [HC.out];rfl) ha2 FA.out (by rw [HC.out];exact hpa) o2 (by rw [HC.out];exact hp) (by first|(rw [HC.out];done)|(rw [HC.out];exact hdp)),c2⟩
   ·rw [if_pos (by simpa using h1)] at HC
    have hdx:=HDR.out (by simpa using h1)
    have e0:=x15.cell 0 _ rfl
    have e1:=x15.cell 1 _ rfl
    have e2:=x15.cell 2 _ rfl
    have iR:=x15.ice
    have fre:=FRE.out
    have o2:=(od).side (k:=w.heap.size + 1) [.int .i64 0,.int .i64 0,.slice none 0 0] 0 ⟨fre.1,fre.2.1,fre.2.2.1⟩ ⟨fre.2.2.2.h,(hdo _ hR3 fre.2.2.2.d),fre.2.2.2.n,fre.2.2.2.m⟩ (Nat.le_of_lt x15.lt)
    have c2:=Chg.side (k:=w.heap.size + 1) [.int .i64 0,.int .i64 0,.slice none 0 0] 0 (ch5) (by omega)
    have xR2:=x15.fill (vs:=[.int .i64 0,.int .i64 0,.slice none 0 0]) rfl
    dsimp only [putAll,Nat.reduceAdd] at o2 c2 xR2
    go_wp2
    have z0:=xR2.cell 0 _ rfl
    have z1:=xR2.cell 1 _ rfl
    have z2:=xR2.cell 2 _ rfl
    exact bodyPost_ret (v:=.tuple #[.agg #[.int .i64 0,.int .i64 0,.slice none 0 0],.int .i64 dr.2]) (by simp [results,Tryz.results140,go_sem,z0,z1,z2]) rfl
     ⟨AskRes.of (AV.err 0) x.h d' (by rw [HC.out];rfl) (AV.err_ok _ 0) (fun k _=>.inl rfl) (by rw [HC.out];rfl) o2 (by rw [HC.out]) (by first|(rw [HC.out];done)|(rw [HC.out];exact (hdp.trans hdx))),c2⟩
  ·have hlt':¬ r.p.s > y.s:=hlt
   simp only [hlt,false_and,if_false] at HC
   have ch3:=Chg.of_below (k:=B) bw
   obtain ⟨q0,q1,q2,q3,q4,q5,q6,q7,q8,q9⟩:=(o).lay.ten
   have iB:=(o).lay.ice
   have p0:=xN.cell 0 _ rfl
   have p1:=xN.cell 1 _ rfl
   have p2:=xN.cell 2 _ rfl
   have p3:=xN.cell 3 _ rfl
   have p4:=xN.cell 4 _ rfl
   have a0:=xA.cell 0 _ rfl
   have a1:=xA.cell 1 _ rfl
   have a2:=xA.cell 2 _ rfl
   have e0:=x1.cell 0 _ rfl
   have e1:=x1.cell 1 _ rfl
   have e2:=x1.cell 2 _ rfl
   have iR:=x1.ice
   have o1:=(o).box (vs:=h'.cells) (i:=0) (y:={x with h:=h',d:=x.d}) rfl ⟨rfl,rfl,rfl,rfl⟩ ⟨rfl,rfl,rfl,rfl⟩ hk (o).d (fun k q=>⟨FH.out k q,((o).far k q).d⟩)
   have c1:=Chg.put (k:=B) h'.cells 0 (Chg.refl B w3)
   have ha1:=AV.ok.but ha (putAll_but B h'.cells w3 0).but (FA.out B (.inr (.inl rfl)))
   have xR1:=x1.butI (putAll_but B h'.cells w3 0) n6
   have fre:=FRE.out
   have o2:=o1.side (k:=w.heap.size + 1) [.int .i64 a'.e,.int .i64 a'.t,.slice a'.a a'.n a'.c] 0 ⟨fre.1,fre.2.1,fre.2.2.1⟩ ⟨hn _ (by omega),fre.2.2.2.d,fre.2.2.2.n,fre.2.2.2.m⟩ (Nat.le_of_lt xR1.lt)
   have ha2:=AV.ok.but ha1 (putAll_but (w.heap.size + 1) [.int .i64 a'.e,.int .i64 a'.t,.slice a'.a a'.n a'.c] (putAll w3 B 0 h'.cells) 0).but (han _ (by omega))
   have c2:=Chg.side (k:=w.heap.size + 1) [.int .i64 a'.e,.int .i64 a'.t,.slice a'.a a'.n a'.c] 0 ((ch3).trans c1) (by omega)
   have xR2:=xR1.fill (vs:=[.int .i64 a'.e,.int .i64 a'.t,.slice a'.a a'.n a'.c]) rfl
   dsimp only [putAll,Nat.reduceAdd,HV.cells] at o2 ha2 c2 xR2
   go_wp2
   have z0:=xR2.cell 0 _ rfl
   have z1:=xR2.cell 1 _ rfl
   have z2:=xR2.cell 2 _ rfl
   exact bodyPost_ret (v:=.tuple #[.agg #[.int .i64 a'.e,.int .i64 a'.t,.slice a'.a a'.n a'.c],.int .i64 0]) (by simp [results,Tryz.results140,go_sem,z0,z1,z2]) rfl
    ⟨AskRes.of a' h' x.d (by rw [HC.out];rfl) ha2 FA.out (by rw [HC.out];exact hpa) o2 (by rw [HC.out];exact hp) (by first|(rw [HC.out];done)|(rw [HC.out];exact rfl)),c2⟩
 ·rw [if_pos (by simpa using h0)] at HC
  have ch2:=Chg.of_below (k:=B) bw
  have e0:=x1.cell 0 _ rfl
  have e1:=x1.cell 1 _ rfl
  have e2:=x1.cell 2 _ rfl
  have iR:=x1.ice
  have fre:=FRE.out
  have o2:=(o).side (k:=w.heap.size + 1) [.int .i64 0,.int .i64 0,.slice none 0 0] 0 ⟨fre.1,fre.2.1,fre.2.2.1⟩ ⟨fre.2.2.2.h,fre.2.2.2.d,fre.2.2.2.n,fre.2.2.2.m⟩ (Nat.le_of_lt x1.lt)
  have c2:=Chg.side (k:=w.heap.size + 1) [.int .i64 0,.int .i64 0,.slice none 0 0] 0 (ch2) (by omega)
  have xR2:=x1.fill (vs:=[.int .i64 0,.int .i64 0,.slice none 0 0]) rfl
  dsimp only [putAll,Nat.reduceAdd] at o2 c2 xR2
  go_wp2
  have z0:=xR2.cell 0 _ rfl
  have z1:=xR2.cell 1 _ rfl
  have z2:=xR2.cell 2 _ rfl
  exact bodyPost_ret (v:=.tuple #[.agg #[.int .i64 0,.int .i64 0,.slice none 0 0],.int .i64 nr.2.2]) (by simp [results,Tryz.results140,go_sem,z0,z1,z2]) rfl
   ⟨AskRes.of (AV.err 0) x.h x.d (by rw [HC.out];rfl) (AV.err_ok _ 0) (fun k _=>.inl rfl) (by rw [HC.out];rfl) o2 (by rw [HC.out]) (by first|(rw [HC.out];done)|(rw [HC.out];exact rfl)),c2⟩
end Go.Proofs.YtabafikicbkkdaaGreatDoor
namespace Go.Proofs.YtabafikicbkkdaaGreatDoor
open Go.RowKit
set_option linter.unusedVariables false
set_option maxHeartbeats 8000000
set_option maxRecDepth 100000
set_option linter.unusedSimpArgs false
theorem asked_eq (x:PW) (m:PM):askedW x m=if (askHallP x.h x.d ⟨m.w,m.s,m.c⟩).2.2=0 then postW {x with h:=(askHallP x.h x.d ⟨m.w,m.s,m.c⟩).1.1,d:=(askHallP x.h x.d ⟨m.w,m.s,m.c⟩).1.2} ⟨true,m.w,m.s,zeroC,(askHallP x.h x.d ⟨m.w,m.s,m.c⟩).2.1⟩ else x:=by
 unfold askedW askHallP downK
 by_cases h0:(nextH x.h ⟨m.w,m.s,m.c⟩).2.2=0
 ·have hn:=nextH_ok h0
  obtain ⟨-,-,h3⟩:=hn
  rcases h3 with ⟨e,q⟩|⟨e,q⟩
  ·have e':m.s=(lastH x.h m.w).s:=e
   have lt:¬ ((lastH x.h m.w).s < m.s):=by omega
   simp only [h0,ne_eq,not_true_eq_false,if_false,if_pos e',lt,false_and,if_true]
   rw [q]
  ·have e':¬ (m.s=(lastH x.h m.w).s):=by have:m.s=(lastH x.h m.w).s + 1:=e;omega
   have lt:(lastH x.h m.w).s < m.s:=by have:m.s=(lastH x.h m.w).s + 1:=e;omega
   simp only [h0,ne_eq,not_true_eq_false,if_false,if_neg e',lt,true_and,if_true]
   by_cases h1:(putK x.d ⟨m.w,m.s,m.c⟩).2=0
   ·by_cases h2:(syncK (putK x.d ⟨m.w,m.s,m.c⟩).1).2=0
    ·simp [h1,h2]
    ·simp [h1,h2]
   ·simp [h1]
 ·simp [h0]
theorem deliver_c (b B g:Nat) (x:WV) (m:MV) (w:World) (hE:Env w) (o:OwnW w b B g x) (hm:m.ok w) (hc:checkK x.d.p=0) (hb:m.b=false) (h30:x.mn≤1000) :
  Calls Tryz.prog 119 #[.pointer (some ⟨B,0,none⟩),m.v] w fun e w'=>WAct b B g (comesW x.p m.p) e w'∧Below b w w':=by
 have HK:=hide (fun w' hE h h'=>askHall_c b B g x ⟨⟨m.w,m.s,m.c⟩,m.ca,m.cn,m.cc⟩ w' hE h h' hc)
 have HC:Hid (comesW x.p m.p=if x.u=false then (zeroW,6) else (if (askHallP x.h.p x.d.p ⟨m.w,m.s,m.c⟩).2.2=0 then postW {x.p with h:=(askHallP x.h.p x.d.p ⟨m.w,m.s,m.c⟩).1.1,d:=(askHallP x.h.p x.d.p ⟨m.w,m.s,m.c⟩).1.2} ⟨true,m.w,m.s,zeroC,(askHallP x.h.p x.d.p ⟨m.w,m.s,m.c⟩).2.1⟩ else x.p,0)):=hide (by
  unfold comesW
  rw [show m.p.b=m.b from rfl,hb,if_neg (by simp),asked_eq]
  rfl)
 generalize comesW x.p m.p=cw at *
 have HAK:Hid ((askHallP x.h.p x.d.p ⟨m.w,m.s,m.c⟩).2.2≠0→(askHallP x.h.p x.d.p ⟨m.w,m.s,m.c⟩).1=(x.h.p,x.d.p)):=hide (fun k=>by
  unfold askHallP at k ⊢
  split
  ·rfl
  ·rename_i q
   rw [if_neg q] at k
   split
   ·rfl
   ·rename_i q2
    rw [if_neg q2] at k
    exact absurd rfl k)
 generalize askHallP x.h.p x.d.p _=ak at *
 replace hb:=hide hb
 have hBl0:=o.lay.lt
 have xm:=Lay.made w m.cells 103
 have bw:=belowA (Below.refl _ w) (.cells m.cells.toArray 103)
 replace o:=o.below bw
 replace hm:=hm.below bw (Nat.le_refl _)
 replace hE:=hE.below bw
 have hbB:=o.le.1
 have hbs:b≤w.heap.size:=by omega
 obtain ⟨c0,c1,c2,c3,c4,c5,c6,c7,c8,c9⟩:=o.lay.ten
 dsimp only [MV.v,MV.cells,RV.v] at *
 cases hu:x.u
 ·rw [hu] at HC c7
  rw [if_pos rfl] at HC
  go_enter Tryz.func119,Tryz.ntmps119
  go_wp2
  go_ret
  exact ⟨⟨by rw [HC.out];rfl,fun e=>by rw [HC.out] at e;exact absurd e (by decide)⟩,bw.mono hbs⟩
 ·rw [hu] at HC c7
  rw [if_neg (by simp)] at HC
  go_enter Tryz.func119,Tryz.ntmps119
  go_wp2_with fail
  generalize w.alloc (.cells [.bool m.b,.int .i64 m.w,.int .i64 m.s,.int .i64 m.c.k,.int .i64 m.c.z,.int .i64 m.c.n,.int .i64 m.c.at',.slice m.ca m.cn m.cc,.int .i64 m.x.e,.int .i64 m.x.t,.slice m.x.a m.x.n m.x.c].toArray 103)=w1 at *
  have hwl:=xm.lt
  refine (HK.out _ hE o hm.c).mono ?_
  rintro e w2 ⟨⟨a',h',d',rfl,ha,haf,hap,oo,hhp,hdp⟩,cB⟩
  have hB1:=Nat.le_of_lt o.lay.lt
  replace xm:=xm.chg cB (by omega)
  have ch:=(Chg.of_below (k:=B) bw).trans cB
  have bb:Below b w w2:=ch.below hbB hbs
  clear cB c0 c1 c2 c3 c4 c5 c6 c7 c8 c9 HK o hE
  dsimp only [AV.v]
  go_upto_region 4 with fail
  have bn:=belowA (Below.refl _ w2) (.cells [.int .i64 a'.e,.int .i64 a'.t,.slice a'.a a'.n a'.c].toArray 56)
  have xa:=Lay.made w2 [.int .i64 a'.e,.int .i64 a'.t,.slice a'.a a'.n a'.c] 56
  replace oo:=oo.below bn
  replace ha:=AV.ok.below ha bn (Nat.le_refl _)
  replace xm:=xm.below bn
  replace bb:=bb.trans (bn.mono (by have:=oo.lay.lt;have:=ch.size;omega))
  clear bn
  generalize w2.alloc (.cells [.int .i64 a'.e,.int .i64 a'.t,.slice a'.a a'.n a'.c].toArray 56)=w3 at *
  generalize w2.heap.size=A at *
  have c1:=xm.cell 1 _ rfl
  have c2:=xm.cell 2 _ rfl
  have a0:=xa.cell 0 _ rfl
  have a1:=xa.cell 1 _ rfl
  have a2:=xa.cell 2 _ rfl
  cases h0:ak.2.2==0
  ·rw [if_neg (by simpa using h0)] at HC
   go_wp2
   go_ret
   exact ⟨⟨by rw [HC.out];rfl,fun _=>⟨_,oo,by
    have e:=HAK.out (by simpa using h0)
    rw [HC.out]
    simp only [WV.p,hhp,hdp,e]⟩⟩,bb⟩
  ·rw [if_pos (by simpa using h0)] at HC
   have HS:=hide (fun w' h=>send_c b B g {x with h:=h',d:=d'} ⟨true,m.w,m.s,zeroC,none,0,0,a'⟩ w' h)
   dsimp only [MV.v,zeroC] at HS
   go_wp2_with fail
   refine (HS.out _ oo ⟨Ints.nilSlice _,ha⟩ (fun k q=>⟨.inl rfl,haf k q⟩) h30).mono ?_
   rintro e w4 ⟨⟨⟨v,rfl⟩,y,oy,hyp⟩,hb4,-⟩
   go_wp2
   go_ret
   exact ⟨⟨by rw [HC.out];rfl,fun _=>⟨y,oy,by rw [HC.out,hyp];simp only [MV.p,WV.p,hap,hhp,hdp];rfl⟩⟩,bb.trans hb4⟩
end Go.Proofs.YtabafikicbkkdaaGreatDoor
