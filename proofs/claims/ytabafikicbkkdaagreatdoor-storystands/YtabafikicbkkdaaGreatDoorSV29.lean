/- The contract of world.hear; no condition but that the box holds a world of the call's own, and that the mail comes from a hand that there is. -/
import Derived.Test.YtabafikicbkkdaaGreatDoorSV26
import Derived.Test.YtabafikicbkkdaaGreatDoorSV28
import Derived.Test.YtabafikicbkkdaaGreatDoorSV13
import Derived.Deep.RegionHeld3
import Derived.Test.YtabafikicbkkdaaGreatDoorSV22
namespace Go.Proofs.YtabafikicbkkdaaGreatDoor
open Go.RowKit
set_option linter.unusedVariables false
set_option maxHeartbeats 4000000
set_option maxRecDepth 100000
set_option linter.unusedSimpArgs false
theorem OwnW.nil {w:World} {b B g:Nat} {x:WV} (o:OwnW w b B g x):Lay w B [.slice x.h.d.za x.h.d.zn x.h.d.zc,.slice x.h.d.ka x.h.d.kn x.h.d.kc,.int .i64 x.h.d.b.h,.int .i64 x.h.d.b.t,.slice x.h.a x.h.n x.h.c,.slice x.d.a x.d.n x.d.c,.slice x.d.b x.d.m x.d.d,.bool x.u,.slice (some ⟨g,0,none⟩) x.N.length x.N.length,.slice x.ma x.mn x.mc]:=by
 have:=o.lay
 rw [show x.cells=[.slice x.h.d.za x.h.d.zn x.h.d.zc,.slice x.h.d.ka x.h.d.kn x.h.d.kc,.int .i64 x.h.d.b.h,.int .i64 x.h.d.b.t,.slice x.h.a x.h.n x.h.c,.slice x.d.a x.d.n x.d.c,.slice x.d.b x.d.m x.d.d,.bool x.u,.slice x.na x.nn x.nc,.slice x.ma x.mn x.mc] from rfl,o.na.1,o.na.2.1,o.na.2.2] at this
 exact this
theorem OwnW.at {w:World} {b B g:Nat} {x:WV} (o:OwnW w b B g x) {j:Nat} {y:NV} (hy:x.N[j]?=some y):y.ok w∧∀ i v,y.cells[i]?=some v→w.cell? ⟨g,j * 8 + i,none⟩=some v:=
 ⟨o.n.ok y (List.mem_of_getElem? hy),fun i v hv=>o.n.lay.cell _ _ (Kin.cells_get x.N j y hy i v hv)⟩
theorem handW_at {x:WV} {j:Nat} {y:NV} (hy:x.N[j]?=some y):handW x.p (j:Int)=y.p:=by
 unfold handW
 rw [show x.p.n=x.N.map NV.p from rfl,Int.toNat_natCast,List.getD_eq_getElem?_getD,List.getElem?_map,hy]
 rfl
theorem hear_c (b B g:Nat) (x:WV) (m:MV) (w:World) (hE:Env w) (o:OwnW w b B g x) (hm:m.ok w) (hN:x.N.length=3) (hw:0≤m.w∧m.w≤2) (hb:m.b=true) :
  Calls Tryz.prog 118 #[.pointer (some ⟨B,0,none⟩),m.v] w fun e w'=>WAct b B g (comesW x.p m.p) e w'∧Below b w w':=by
 obtain ⟨j,hj⟩:∃ j:Nat,m.w=j:=⟨m.w.toNat,by omega⟩
 have hj3:j < 3:=by omega
 obtain ⟨y,hy⟩:∃ y,x.N[j]?=some y:=⟨_,List.getElem?_eq_getElem (by omega)⟩
 have HJ:=hide (fun w' hS hk hx=>JHear_c y m.s m.x w' hS hk hx)
 have HC:Hid (comesW x.p m.p=if (hearN y.p m.s m.x.p).2≠0 then (zeroW,(hearN y.p m.s m.x.p).2) else (setW x.p j (hearN y.p m.s m.x.p).1,0)):=hide (by
  unfold comesW
  rw [show m.p.b=m.b from rfl,hb,if_pos rfl,show m.p.w=m.w from rfl,hj,handW_at hy]
  rfl)
 replace hb:=hide hb
 have hg0:=o.n.lay.lt
 have hbs:b≤w.heap.size:=by have:=o.lay.lt;have:=o.le.1;omega
 have xm:=Lay.made w m.cells 103
 have bw:=belowA (Below.refl _ w) (.cells m.cells.toArray 103)
 replace o:=o.below bw
 replace hm:=hm.below bw (Nat.le_refl _)
 replace hE:=hE.below bw
 dsimp only [MV.v,MV.cells] at *
 rw [hj] at xm bw o hm hE ⊢
 replace hj:=hide hj
 have hbB:=o.le.1
 have hbg:=o.le.2.1
 generalize comesW x.p m.p=cw at *
 generalize hearN y.p m.s m.x.p=r at *
 have ln:=o.nil
 rw [hN] at ln
 obtain ⟨yk,yc⟩:=o.at hy
 have HY:=hide hy
 clear hy
 dsimp only [MV.v,MV.cells,NV.v,AV.v] at *
 go_enter Tryz.func118,Tryz.ntmps118
 go_upto_region 1 with fail
 generalize w.alloc (.cells [.bool m.b,.int .i64 (j:Int),.int .i64 m.s,.int .i64 m.c.k,.int .i64 m.c.z,.int .i64 m.c.n,.int .i64 m.c.at',.slice m.ca m.cn m.cc,.int .i64 m.x.e,.int .i64 m.x.t,.slice m.x.a m.x.n m.x.c].toArray 103)=w1 at *
 have c0:=xm.cell 0 _ rfl
 have c1:=xm.cell 1 _ rfl
 have c2:=xm.cell 2 _ rfl
 have c8:=xm.cell 8 _ rfl
 have c9:=xm.cell 9 _ rfl
 have c10:=xm.cell 10 _ rfl
 have d8:=ln.cell 8 _ rfl
 obtain ⟨e0,e1,e2,e3,e4,e5,e6,e7⟩:=NV.lay (b:=g) (o:=j * 8) yc
 have hj0:(0:Int)≤(j:Int):=by omega
 have hj3':(j:Int) < 3:=by omega
 clear yc
 have HLT:=hide (fun k (q:x.ours b B g k)=>o.lt q)
 have q1:B≠g:=o.le.2.2
 have q2:g≠B:=fun e=>q1 e.symm
 have q3:g≠w.heap.size:=by omega
 have q4:w.heap.size≠g:=by omega
 have hBl:=o.lay.lt
 have hgl:=o.n.lay.lt
 have hwl:=xm.lt
 have n1:B≠w1.heap.size:=by omega
 have n2:g≠w1.heap.size:=by omega
 have n3:w.heap.size≠w1.heap.size:=by omega
 have n4:w1.heap.size≠B:=by omega
 have n5:w1.heap.size≠g:=by omega
 have n6:w1.heap.size≠w.heap.size:=by omega
 go_cut [5,6] (fun p e wx=>e=.int .i64 r.2∧∃ (N:Nat) (h':NV),p=.pointer (some ⟨N,0,none⟩)∧Lay wx N h'.cells∧h'.ok wx∧h'.new w1.heap.size∧h'.p=r.1∧w1.heap.size≤N∧Below w1.heap.size w1 wx)
 case first=>
  go_region_held3 (fun w'=>w'.cell? ⟨w.heap.size,0,none⟩=some (.bool m.b)∧w'.cell? ⟨w.heap.size,1,none⟩=some (.int .i64 j)∧w'.cell? ⟨w.heap.size,2,none⟩=some (.int .i64 m.s)∧w'.cell? ⟨w.heap.size,8,none⟩=some (.int .i64 m.x.e)∧w'.cell? ⟨w.heap.size,9,none⟩=some (.int .i64 m.x.t)∧w'.cell? ⟨w.heap.size,10,none⟩=some (.slice m.x.a m.x.n m.x.c)∧w'.cell? ⟨B,8,none⟩=some (.slice (some ⟨g,0,none⟩) 3 3)∧w'.cell? ⟨g,j * 8,none⟩=some (.int .i64 y.s)∧w'.cell? ⟨g,j * 8 + 1,none⟩=some (.bool y.w)∧w'.cell? ⟨g,j * 8 + 2,none⟩=some (.int .i64 y.c.k)∧w'.cell? ⟨g,j * 8 + 3,none⟩=some (.int .i64 y.c.z)∧w'.cell? ⟨g,j * 8 + 4,none⟩=some (.int .i64 y.c.n)∧w'.cell? ⟨g,j * 8 + 5,none⟩=some (.int .i64 y.c.at')∧w'.cell? ⟨g,j * 8 + 6,none⟩=some (.slice y.ca y.cn y.cc)∧w'.cell? ⟨g,j * 8 + 7,none⟩=some (.slice y.ga y.gn y.gc)) ((first|(go_simp;done)|(simp [*,World.cell?_alloc_at,World.cell?_alloc_past,World.cell?_alloc_some,World.cell?_setCell_far];done))) (first|(go_at_call 139;refine (HJ.out _ (Env.below hE (by clear bw;(repeat first|exact bel0|assumption|refine bel1 ?_|refine bel2 ?_|refine bel3 ?_|refine belowT ?_ (by assumption)|refine bel5 ?_ (by simp;try omega)))).shp (by refine NV.ok.below yk (B:=w1.heap.size) ?_ (Nat.le_refl _);clear bw;(repeat first|exact bel0|assumption|refine bel1 ?_|refine bel2 ?_|refine bel3 ?_|refine belowT ?_ (by assumption)|refine bel5 ?_ (by simp;try omega))) (by refine AV.ok.below hm.x (B:=w1.heap.size) ?_ (Nat.le_refl _);clear bw;(repeat first|exact bel0|assumption|refine bel1 ?_|refine bel2 ?_|refine bel3 ?_|refine belowT ?_ (by assumption)|refine bel5 ?_ (by simp;try omega)))).mono ?_;rintro e w2 ⟨⟨h',rfl,hk,hn,hp⟩,hb2⟩;(dsimp only [NV.v]);(have k0:=keepc hb2 (p:=⟨w.heap.size,0,none⟩) (u:=.bool m.b) (by (first|(go_simp;done)|(simp [*,World.cell?_alloc_at,World.cell?_alloc_past,World.cell?_alloc_some,World.cell?_setCell_far];done))));(have k1:=keepc hb2 (p:=⟨w.heap.size,1,none⟩) (u:=.int .i64 j) (by (first|(go_simp;done)|(simp [*,World.cell?_alloc_at,World.cell?_alloc_past,World.cell?_alloc_some,World.cell?_setCell_far];done))));(have k2:=keepc hb2 (p:=⟨w.heap.size,2,none⟩) (u:=.int .i64 m.s) (by (first|(go_simp;done)|(simp [*,World.cell?_alloc_at,World.cell?_alloc_past,World.cell?_alloc_some,World.cell?_setCell_far];done))));(have k3:=keepc hb2 (p:=⟨w.heap.size,8,none⟩) (u:=.int .i64 m.x.e) (by (first|(go_simp;done)|(simp [*,World.cell?_alloc_at,World.cell?_alloc_past,World.cell?_alloc_some,World.cell?_setCell_far];done))));(have k4:=keepc hb2 (p:=⟨w.heap.size,9,none⟩) (u:=.int .i64 m.x.t) (by (first|(go_simp;done)|(simp [*,World.cell?_alloc_at,World.cell?_alloc_past,World.cell?_alloc_some,World.cell?_setCell_far];done))));(have k5:=keepc hb2 (p:=⟨w.heap.size,10,none⟩) (u:=.slice m.x.a m.x.n m.x.c) (by (first|(go_simp;done)|(simp [*,World.cell?_alloc_at,World.cell?_alloc_past,World.cell?_alloc_some,World.cell?_setCell_far];done))));(have k6:=keepc hb2 (p:=⟨B,8,none⟩) (u:=.slice (some ⟨g,0,none⟩) 3 3) (by (first|(go_simp;done)|(simp [*,World.cell?_alloc_at,World.cell?_alloc_past,World.cell?_alloc_some,World.cell?_setCell_far];done))));(have k7:=keepc hb2 (p:=⟨g,j * 8,none⟩) (u:=.int .i64 y.s) (by (first|(go_simp;done)|(simp [*,World.cell?_alloc_at,World.cell?_alloc_past,World.cell?_alloc_some,World.cell?_setCell_far];done))));(have k8:=keepc hb2 (p:=⟨g,j * 8 + 1,none⟩) (u:=.bool y.w) (by (first|(go_simp;done)|(simp [*,World.cell?_alloc_at,World.cell?_alloc_past,World.cell?_alloc_some,World.cell?_setCell_far];done))));(have k9:=keepc hb2 (p:=⟨g,j * 8 + 2,none⟩) (u:=.int .i64 y.c.k) (by (first|(go_simp;done)|(simp [*,World.cell?_alloc_at,World.cell?_alloc_past,World.cell?_alloc_some,World.cell?_setCell_far];done))));(have k10:=keepc hb2 (p:=⟨g,j * 8 + 3,none⟩) (u:=.int .i64 y.c.z) (by (first|(go_simp;done)|(simp [*,World.cell?_alloc_at,World.cell?_alloc_past,World.cell?_alloc_some,World.cell?_setCell_far];done))));(have k11:=keepc hb2 (p:=⟨g,j * 8 + 4,none⟩) (u:=.int .i64 y.c.n) (by (first|(go_simp;done)|(simp [*,World.cell?_alloc_at,World.cell?_alloc_past,World.cell?_alloc_some,World.cell?_setCell_far];done))));(have k12:=keepc hb2 (p:=⟨g,j * 8 + 5,none⟩) (u:=.int .i64 y.c.at') (by (first|(go_simp;done)|(simp [*,World.cell?_alloc_at,World.cell?_alloc_past,World.cell?_alloc_some,World.cell?_setCell_far];done))));(have k13:=keepc hb2 (p:=⟨g,j * 8 + 6,none⟩) (u:=.slice y.ca y.cn y.cc) (by (first|(go_simp;done)|(simp [*,World.cell?_alloc_at,World.cell?_alloc_past,World.cell?_alloc_some,World.cell?_setCell_far];done))));(have k14:=keepc hb2 (p:=⟨g,j * 8 + 7,none⟩) (u:=.slice y.ga y.gn y.gc) (by (first|(go_simp;done)|(simp [*,World.cell?_alloc_at,World.cell?_alloc_past,World.cell?_alloc_some,World.cell?_setCell_far];done))));(have b12:Below w1.heap.size w1 w2:=by clear bw;(repeat first|exact bel0|assumption|refine bel1 ?_|refine bel2 ?_|refine bel3 ?_|refine belowT ?_ (by assumption)|refine bel5 ?_ (by simp;try omega)));(have s2:=b12.size);(have m1:B≠w2.heap.size:=by omega);(have m2:g≠w2.heap.size:=by omega);(have m3:w.heap.size≠w2.heap.size:=by omega);(have m4:w2.heap.size≠B:=by omega);(have m5:w2.heap.size≠g:=by omega);(have m6:w2.heap.size≠w.heap.size:=by omega);(first|(have xZ:=Lay.below (Lay.drew (Lay.made w1 [.int .i64 0,.bool false,.int .i64 0,.int .i64 0,.int .i64 0,.int .i64 0,.slice none 0 0,.slice none 0 0] 62)) hb2)|(have xZ:=Lay.below (Lay.made w1 [.int .i64 0,.bool false,.int .i64 0,.int .i64 0,.int .i64 0,.int .i64 0,.slice none 0 0,.slice none 0 0] 62) hb2)|skip);(try have xZc0:=xZ.cell 0 _ rfl);(try have xZc1:=xZ.cell 1 _ rfl);(try have xZc2:=xZ.cell 2 _ rfl);(try have xZc3:=xZ.cell 3 _ rfl);(try have xZc4:=xZ.cell 4 _ rfl);(try have xZc5:=xZ.cell 5 _ rfl);(try have xZc6:=xZ.cell 6 _ rfl);(try have xZc7:=xZ.cell 7 _ rfl);(try have xZi:=xZ.ice)))
  ·go_wp2_with fail
   go_meet
   case rel=>
    simp at hn
    have bn:=belowA (Below.refl _ w2) (.cells h'.cells.toArray 62)
    exact ⟨rfl,_,h',rfl,Lay.made w2 h'.cells 62,hk.below bn (Nat.le_refl _),hn.mono (by omega),hp,s2,belowT b12 bn⟩
  ·go_wp2_with fail
   go_meet
   case rel=>
    simp at hn
    have ly:=xZ.fill (vs:=h'.cells) rfl
    have bt:=putAll_but w1.heap.size h'.cells w2 0
    exact ⟨rfl,_,h',rfl,ly,hk.but bt.but (hn _ (by omega)),hn.mono (by omega),hp,Nat.le_refl _,b12.trans (bt.below (Nat.le_refl _))⟩
 case rest=>
 obtain ⟨rfl,N,h',rfl,xh,hk,hn,hp,hNs,b13⟩:=hcut
 generalize wc=w3 at *
 replace o:=o.below b13
 replace ln:=ln.below b13
 replace xm:=xm.below b13
 replace bw:=belowT bw b13
 have hN1:=xh.lt
 have q5:g≠N:=by omega
 have q6:N≠g:=by omega
 clear b13 c0 c1 c2 c8 c9 c10 d8 e0 e1 e2 e3 e4 e5 e6 e7 HJ hm yk hE
 dsimp only [NV.cells] at xh
 cases h0:r.2 !=0
 ·rw [if_neg (by simpa using h0)] at HC
  have c1:=xm.cell 1 _ rfl
  have d8:=ln.cell 8 _ rfl
  obtain ⟨e0,e1,e2,e3,e4,e5,e6,e7⟩:=xh.eight
  obtain ⟨u0,a0⟩:∃ u,w3.cell? ⟨g,j * 8,none⟩=some u:=o.n.at (j:=0) (by omega) (by decide)
  obtain ⟨u1,a1⟩:∃ u,w3.cell? ⟨g,j * 8 + 1,none⟩=some u:=o.n.at (j:=1) (by omega) (by decide)
  obtain ⟨u2,a2⟩:∃ u,w3.cell? ⟨g,j * 8 + 2,none⟩=some u:=o.n.at (j:=2) (by omega) (by decide)
  obtain ⟨u3,a3⟩:∃ u,w3.cell? ⟨g,j * 8 + 3,none⟩=some u:=o.n.at (j:=3) (by omega) (by decide)
  obtain ⟨u4,a4⟩:∃ u,w3.cell? ⟨g,j * 8 + 4,none⟩=some u:=o.n.at (j:=4) (by omega) (by decide)
  obtain ⟨u5,a5⟩:∃ u,w3.cell? ⟨g,j * 8 + 5,none⟩=some u:=o.n.at (j:=5) (by omega) (by decide)
  obtain ⟨u6,a6⟩:∃ u,w3.cell? ⟨g,j * 8 + 6,none⟩=some u:=o.n.at (j:=6) (by omega) (by decide)
  obtain ⟨u7,a7⟩:∃ u,w3.cell? ⟨g,j * 8 + 7,none⟩=some u:=o.n.at (j:=7) (by omega) (by decide)
  have ice:=o.n.lay.ice
  have O:=hide o
  have HFR:Hid (∀ k,x.ours b B g k→h'.off k):=hide (fun k q=>hn k (HLT.out k q))
  have oh:=(o.hand (j:=j) (by omega) hk HFR.out).below (Below.refl _ _).drew
  have ob:=((bw.mono hbs).trans ((putAll_but g h'.cells w3 (j * 8)).below hbg)).drew
  dsimp only [putAll,NV.cells,Nat.add_assoc,Nat.reduceAdd] at oh ob
  have OH:=hide oh
  have OB:=hide ob
  clear o xm ln xh oh ob bw
  go_upto_region 4 with fail
  go_region_held3 (fun w'=>w'.cell? ⟨w.heap.size,1,none⟩=some (.int .i64 j)∧w'.cell? ⟨B,8,none⟩=some (.slice (some ⟨g,0,none⟩) 3 3)∧w'.cell? ⟨N,0,none⟩=some (.int .i64 h'.s)∧w'.cell? ⟨N,1,none⟩=some (.bool h'.w)∧w'.cell? ⟨N,2,none⟩=some (.int .i64 h'.c.k)∧w'.cell? ⟨N,3,none⟩=some (.int .i64 h'.c.z)∧w'.cell? ⟨N,4,none⟩=some (.int .i64 h'.c.n)∧w'.cell? ⟨N,5,none⟩=some (.int .i64 h'.c.at')∧w'.cell? ⟨N,6,none⟩=some (.slice h'.ca h'.cn h'.cc)∧w'.cell? ⟨N,7,none⟩=some (.slice h'.ga h'.gn h'.gc)) ((first|(go_simp;done)|(simp [*,World.cell?_alloc_at,World.cell?_alloc_past,World.cell?_alloc_some,World.cell?_setCell_far];done))) (fail)
  go_wp2
  go_ret
  exact ⟨⟨by rw [HC.out];rfl,fun _=>⟨_,OH.out,by rw [HC.out];simp [WV.p,setW,List.map_set,hp]⟩⟩,OB.out⟩
 ·rw [if_pos (by simpa using h0)] at HC
  go_wp2
  go_ret
  exact ⟨⟨by rw [HC.out];rfl,fun e=>absurd (by rw [HC.out] at e;exact e) (by simpa using h0)⟩,bw.mono hbs⟩
end Go.Proofs.YtabafikicbkkdaaGreatDoor
namespace Go.Proofs.YtabafikicbkkdaaGreatDoor
open Go.RowKit
set_option linter.unusedVariables false
set_option maxHeartbeats 4000000
set_option maxRecDepth 100000
set_option linter.unusedSimpArgs false
theorem post_set {x:WV} {h':NV} {j q cn:Nat} {r:PN} (hp:h'.p=r):postW (WV.p {x with N:=x.N.set j h'}) (MV.p ⟨false,(j:Int),h'.s,h'.c,some ⟨q,0,none⟩,cn,cn,AV.err 0⟩)=postW (setW x.p (j:Int) r) ⟨false,(j:Int),r.s,r.c,zeroA⟩:=by
 subst hp
 simp [WV.p,setW,MV.p,NV.p,List.map_set,AV.err,AV.p,zeroA]
theorem post_again (x:PW) (y:NV) (j:Int) (q cn:Nat):postW x (MV.p ⟨false,j,y.s,y.c,some ⟨q,0,none⟩,cn,cn,AV.err 0⟩)=postW x ⟨false,j,y.p.s,y.p.c,zeroA⟩:=by
 simp [MV.p,NV.p,AV.err,AV.p,zeroA]
theorem bel_tr {b:Nat} {w w1 w2:World} (h:Below b w1 w2) (k:Below w.heap.size w w1) (hb:b≤w.heap.size):Below b w w2:=(k.mono hb).trans h
def askW (x:PW) (e:PX):PW×Int:=
 if inB e.w 0 2=false then (zeroW,5)
 else if e.k=1 then (if (askN (handW x e.w) e.c).2≠0 then (zeroW,(askN (handW x e.w) e.c).2)
  else (postW (setW x e.w (askN (handW x e.w) e.c).1) ⟨false,e.w,(askN (handW x e.w) e.c).1.s,(askN (handW x e.w) e.c).1.c,zeroA⟩,0))
 else (if (handW x e.w).w=false then (zeroW,6) else (postW x ⟨false,e.w,(handW x e.w).s,(handW x e.w).c,zeroA⟩,0))
theorem ask_c (b B g:Nat) (x:WV) (v:XV) (w:World) (hE:Env w) (o:OwnW w b B g x) (hv:v.ok w) (hr:checkW x.p=0) (hk:v.k=1∨v.k=2) :
  Calls Tryz.prog 93 #[.pointer (some ⟨B,0,none⟩),v.v] w fun e w'=>WAct b B g (askW x.p v.p) e w'∧Below b w w':=by
 obtain ⟨r1,r2,r3,r4,r5,r6,r7⟩:=checkW_ok hr
 have hN:x.N.length=3:=by rw [← r1];simp [WV.p]
 have hm30:x.mn≤30:=by rw [o.mn];rw [show x.p.m.length=x.M.length by simp [WV.p]] at r2;exact r2
 have HC:Hid (askW x.p v.p=if inB v.w 0 2=false then (zeroW,5)
 else if v.k=1 then (if (askN (handW x.p v.w) v.c).2≠0 then (zeroW,(askN (handW x.p v.w) v.c).2)
  else (postW (setW x.p v.w (askN (handW x.p v.w) v.c).1) ⟨false,v.w,(askN (handW x.p v.w) v.c).1.s,(askN (handW x.p v.w) v.c).1.c,zeroA⟩,0))
 else (if (handW x.p v.w).w=false then (zeroW,6) else (postW x.p ⟨false,v.w,(handW x.p v.w).s,(handW x.p v.w).c,zeroA⟩,0))):=hide rfl
 generalize askW x.p v.p=cw at *
 have hBl0:=o.lay.lt
 have hgl0:=o.n.lay.lt
 have HMB0:x.mb≠some w.heap.size:=fun e=>by have:=o.lt (.inr (.inr (.inr e)));omega
 have xv:=Lay.made w v.cells 75
 have bw:=belowA (Below.refl _ w) (.cells v.cells.toArray 75)
 replace o:=o.below bw
 replace hE:=hE.below bw
 replace hv:=Ints.below hv bw (Nat.le_refl _)
 have hbB:=o.le.1
 have hbg:=o.le.2.1
 have hbs:b≤w.heap.size:=by omega
 have HMBW:Hid (x.mb≠some w.heap.size):=hide HMB0
 have ln:=o.nil
 rw [hN] at ln
 have d8:=ln.cell 8 _ rfl
 replace hN:=hide hN
 dsimp only [XV.v,XV.cells] at *
 go_enter Tryz.func93,Tryz.ntmps93
 go_wp2_with fail
 generalize w.alloc (.cells [.int .i64 v.k,.int .i64 v.w,.int .i64 v.n,.int .i64 v.c.k,.int .i64 v.c.z,.int .i64 v.c.n,.int .i64 v.c.at',.slice v.ca v.cn v.cc].toArray 75)=w1 at *
 refine (wwithin_c 0 2 _).mono ?_
 rintro e w2 ⟨P1,Q1,rfl,p1,q1,hb2⟩
 have hwl:=xv.lt
 replace o:=o.below hb2
 replace ln:=ln.below hb2
 replace xv:=xv.below hb2
 replace hE:=hE.below hb2
 replace hv:=hv.below hb2 (Nat.le_refl _)
 replace bw:=belowT bw hb2
 clear hb2 d8
 have y0:=xv.cell 0 _ rfl
 have y1:=xv.cell 1 _ rfl
 go_wp2_with fail
 refine (wwithin1_c v.w 0 2 P1 Q1 _ p1 q1).mono ?_
 rintro e w2 ⟨rfl,rfl⟩
 clear p1 q1
 cases h1:inB v.w 0 2
 ·rw [if_pos h1] at HC
  go_wp2
  go_ret
  exact ⟨⟨by rw [HC.out];rfl,fun e=>by rw [HC.out] at e;exact absurd e (by decide)⟩,bw.mono hbs⟩
 ·rw [if_neg (by simp [h1])] at HC
  obtain ⟨j,hj⟩:∃ j:Nat,v.w=j:=⟨v.w.toNat,by simp [inB] at h1;omega⟩
  have hj3:j < 3:=by simp [inB] at h1;omega
  obtain ⟨y,hy⟩:∃ y,x.N[j]?=some y:=⟨_,List.getElem?_eq_getElem (by have:=hN.out;omega)⟩
  rw [hj,handW_at hy] at HC
  rw [hj] at y1
  obtain ⟨yk,yc⟩:=o.at hy
  have hcy:checkN y.p=0:=r7 y.p (by rw [show x.p.n=x.N.map NV.p from rfl];exact List.mem_map.2 ⟨y,List.mem_of_getElem? hy,rfl⟩)
  have d8:=ln.cell 8 _ rfl
  have hj0:(0:Int)≤(j:Int):=by omega
  have hj3':(j:Int) < 3:=by omega
  have HJ:=hide hj
  have HY:=hide hy
  clear hj hy h1 r1 r2 r3 r4 r5 r6 r7 hr
  go_upto_region 4 with fail
  go_cut [6] (fun p wx=>p=.pointer (some ⟨g,j * 8,none⟩)∧wx=w2.drew)
  case first=>
   go_region_held3 (fun w'=>w'.cell? ⟨w.heap.size,1,none⟩=some (.int .i64 j)∧w'.cell? ⟨B,8,none⟩=some (.slice (some ⟨g,0,none⟩) 3 3)) ((first|(go_simp;done)|(simp [*,World.cell?_alloc_at,World.cell?_alloc_past,World.cell?_alloc_some,World.cell?_setCell_far];done))) (fail)
   go_wp2_with fail
   go_meet
   case rel=>exact ⟨by rfl,by rfl⟩
  case rest=>
  obtain ⟨rfl,rfl⟩:=hcut
  have bd:Below w2.heap.size w2 w2.drew:=(Below.refl _ _).drew
  replace o:=o.below bd
  replace xv:=xv.below bd
  replace hE:=hE.below bd
  replace hv:=hv.below bd (Nat.le_refl _)
  replace bw:=belowT bw bd
  replace yk:=yk.below bd (Nat.le_refl _)
  clear bd y0 y1 d8 ln yc
  generalize w2.drew=w3 at *
  obtain ⟨-,yc⟩:=o.at HY.out
  have y0:=xv.cell 0 _ rfl
  have hcn:=(hand_small yk hcy).1
  rcases hk with h1|h2
  ·rw [if_pos h1] at HC
   rw [h1] at y0
   replace h1:=hide h1
   have HK:=hide (fun w' hS h h'=>JAsk_c y v.ca v.cn v.cc v.c w' hS h h')
   have HRI:=hide (fun k=>ask_right (h:=y.p) (c:=v.c) k)
   generalize askN y.p v.c=r at *
   have a3:=xv.cell 3 _ rfl
   have a4:=xv.cell 4 _ rfl
   have a5:=xv.cell 5 _ rfl
   have a6:=xv.cell 6 _ rfl
   have a7:=xv.cell 7 _ rfl
   obtain ⟨b0,b1,b2,b3,b4,b5,b6,b7⟩:=NV.lay (b:=g) (o:=j * 8) yc
   have HLT:=hide (fun k (q:x.ours b B g k)=>o.lt q)
   have hgl:=o.n.lay.lt
   have hvl:=xv.lt
   have n2:g≠w3.heap.size:=by omega
   have n3:w.heap.size≠w3.heap.size:=by omega
   have n5:w3.heap.size≠g:=by omega
   have n6:w3.heap.size≠w.heap.size:=by omega
   dsimp only [NV.v,cmdV] at HK
   go_upto_region 6 with fail
   go_cut [7,8] (fun p e wx=>e=.int .i64 r.2∧∃ (N:Nat) (h':NV),p=.pointer (some ⟨N,0,none⟩)∧Lay wx N h'.cells∧h'.ok wx∧h'.new w3.heap.size∧h'.p=r.1∧w3.heap.size≤N∧Below w3.heap.size w3 wx)
   case first=>
    go_region_held3 (fun w'=>w'.cell? ⟨w.heap.size,3,none⟩=some (.int .i64 v.c.k)∧w'.cell? ⟨w.heap.size,4,none⟩=some (.int .i64 v.c.z)∧w'.cell? ⟨w.heap.size,5,none⟩=some (.int .i64 v.c.n)∧w'.cell? ⟨w.heap.size,6,none⟩=some (.int .i64 v.c.at')∧w'.cell? ⟨w.heap.size,7,none⟩=some (.slice v.ca v.cn v.cc)∧w'.cell? ⟨g,j * 8,none⟩=some (.int .i64 y.s)∧w'.cell? ⟨g,j * 8 + 1,none⟩=some (.bool y.w)∧w'.cell? ⟨g,j * 8 + 2,none⟩=some (.int .i64 y.c.k)∧w'.cell? ⟨g,j * 8 + 3,none⟩=some (.int .i64 y.c.z)∧w'.cell? ⟨g,j * 8 + 4,none⟩=some (.int .i64 y.c.n)∧w'.cell? ⟨g,j * 8 + 5,none⟩=some (.int .i64 y.c.at')∧w'.cell? ⟨g,j * 8 + 6,none⟩=some (.slice y.ca y.cn y.cc)∧w'.cell? ⟨g,j * 8 + 7,none⟩=some (.slice y.ga y.gn y.gc)) ((first|(go_simp;done)|(simp [*,World.cell?_alloc_at,World.cell?_alloc_past,World.cell?_alloc_some,World.cell?_setCell_far];done))) (first|(go_at_call 115;refine (HK.out _ (Env.below hE (by clear bw;(repeat first|exact bel0|assumption|refine bel1 ?_|refine bel2 ?_|refine bel3 ?_|refine belowT ?_ (by assumption)|refine bel5 ?_ (by simp;try omega)))).shp (by refine NV.ok.below yk (B:=w3.heap.size) ?_ (Nat.le_refl _);clear bw;(repeat first|exact bel0|assumption|refine bel1 ?_|refine bel2 ?_|refine bel3 ?_|refine belowT ?_ (by assumption)|refine bel5 ?_ (by simp;try omega))) (by refine Ints.below hv (B:=w3.heap.size) ?_ (Nat.le_refl _);clear bw;(repeat first|exact bel0|assumption|refine bel1 ?_|refine bel2 ?_|refine bel3 ?_|refine belowT ?_ (by assumption)|refine bel5 ?_ (by simp;try omega)))).mono ?_;rintro e w4 ⟨⟨h',rfl,hk,hn,hp⟩,hb2⟩;(dsimp only [NV.v]);(have k0:=keepc hb2 (p:=⟨w.heap.size,3,none⟩) (u:=.int .i64 v.c.k) (by (first|(go_simp;done)|(simp [*,World.cell?_alloc_at,World.cell?_alloc_past,World.cell?_alloc_some,World.cell?_setCell_far];done))));(have k1:=keepc hb2 (p:=⟨w.heap.size,4,none⟩) (u:=.int .i64 v.c.z) (by (first|(go_simp;done)|(simp [*,World.cell?_alloc_at,World.cell?_alloc_past,World.cell?_alloc_some,World.cell?_setCell_far];done))));(have k2:=keepc hb2 (p:=⟨w.heap.size,5,none⟩) (u:=.int .i64 v.c.n) (by (first|(go_simp;done)|(simp [*,World.cell?_alloc_at,World.cell?_alloc_past,World.cell?_alloc_some,World.cell?_setCell_far];done))));(have k3:=keepc hb2 (p:=⟨w.heap.size,6,none⟩) (u:=.int .i64 v.c.at') (by (first|(go_simp;done)|(simp [*,World.cell?_alloc_at,World.cell?_alloc_past,World.cell?_alloc_some,World.cell?_setCell_far];done))));(have k4:=keepc hb2 (p:=⟨w.heap.size,7,none⟩) (u:=.slice v.ca v.cn v.cc) (by (first|(go_simp;done)|(simp [*,World.cell?_alloc_at,World.cell?_alloc_past,World.cell?_alloc_some,World.cell?_setCell_far];done))));(have k5:=keepc hb2 (p:=⟨g,j * 8,none⟩) (u:=.int .i64 y.s) (by (first|(go_simp;done)|(simp [*,World.cell?_alloc_at,World.cell?_alloc_past,World.cell?_alloc_some,World.cell?_setCell_far];done))));(have k6:=keepc hb2 (p:=⟨g,j * 8 + 1,none⟩) (u:=.bool y.w) (by (first|(go_simp;done)|(simp [*,World.cell?_alloc_at,World.cell?_alloc_past,World.cell?_alloc_some,World.cell?_setCell_far];done))));(have k7:=keepc hb2 (p:=⟨g,j * 8 + 2,none⟩) (u:=.int .i64 y.c.k) (by (first|(go_simp;done)|(simp [*,World.cell?_alloc_at,World.cell?_alloc_past,World.cell?_alloc_some,World.cell?_setCell_far];done))));(have k8:=keepc hb2 (p:=⟨g,j * 8 + 3,none⟩) (u:=.int .i64 y.c.z) (by (first|(go_simp;done)|(simp [*,World.cell?_alloc_at,World.cell?_alloc_past,World.cell?_alloc_some,World.cell?_setCell_far];done))));(have k9:=keepc hb2 (p:=⟨g,j * 8 + 4,none⟩) (u:=.int .i64 y.c.n) (by (first|(go_simp;done)|(simp [*,World.cell?_alloc_at,World.cell?_alloc_past,World.cell?_alloc_some,World.cell?_setCell_far];done))));(have k10:=keepc hb2 (p:=⟨g,j * 8 + 5,none⟩) (u:=.int .i64 y.c.at') (by (first|(go_simp;done)|(simp [*,World.cell?_alloc_at,World.cell?_alloc_past,World.cell?_alloc_some,World.cell?_setCell_far];done))));(have k11:=keepc hb2 (p:=⟨g,j * 8 + 6,none⟩) (u:=.slice y.ca y.cn y.cc) (by (first|(go_simp;done)|(simp [*,World.cell?_alloc_at,World.cell?_alloc_past,World.cell?_alloc_some,World.cell?_setCell_far];done))));(have k12:=keepc hb2 (p:=⟨g,j * 8 + 7,none⟩) (u:=.slice y.ga y.gn y.gc) (by (first|(go_simp;done)|(simp [*,World.cell?_alloc_at,World.cell?_alloc_past,World.cell?_alloc_some,World.cell?_setCell_far];done))));(have b12:Below w3.heap.size w3 w4:=by clear bw;(repeat first|exact bel0|assumption|refine bel1 ?_|refine bel2 ?_|refine bel3 ?_|refine belowT ?_ (by assumption)|refine bel5 ?_ (by simp;try omega)));(have s2:=b12.size);(have m2:g≠w4.heap.size:=by omega);(have m3:w.heap.size≠w4.heap.size:=by omega);(have m5:w4.heap.size≠g:=by omega);(have m6:w4.heap.size≠w.heap.size:=by omega);(first|(have xZ:=Lay.below (Lay.drew (Lay.made w3 [.int .i64 0,.bool false,.int .i64 0,.int .i64 0,.int .i64 0,.int .i64 0,.slice none 0 0,.slice none 0 0] 62)) hb2)|(have xZ:=Lay.below (Lay.made w3 [.int .i64 0,.bool false,.int .i64 0,.int .i64 0,.int .i64 0,.int .i64 0,.slice none 0 0,.slice none 0 0] 62) hb2)|skip);(try have xZc0:=xZ.cell 0 _ rfl);(try have xZc1:=xZ.cell 1 _ rfl);(try have xZc2:=xZ.cell 2 _ rfl);(try have xZc3:=xZ.cell 3 _ rfl);(try have xZc4:=xZ.cell 4 _ rfl);(try have xZc5:=xZ.cell 5 _ rfl);(try have xZc6:=xZ.cell 6 _ rfl);(try have xZc7:=xZ.cell 7 _ rfl);(try have xZi:=xZ.ice)))
    ·go_wp2_with fail
     go_meet
     case rel=>
      simp at hn
      have bn:=belowA (Below.refl _ w4) (.cells h'.cells.toArray 62)
      exact ⟨rfl,_,h',rfl,Lay.made w4 h'.cells 62,hk.below bn (Nat.le_refl _),hn.mono (by omega),hp,s2,belowT b12 bn⟩
    ·go_wp2_with fail
     go_meet
     case rel=>
      simp at hn
      have ly:=xZ.fill (vs:=h'.cells) rfl
      have bt:=putAll_but w3.heap.size h'.cells w4 0
      exact ⟨rfl,_,h',rfl,ly,hk.but bt.but (hn _ (by omega)),hn.mono (by omega),hp,Nat.le_refl _,b12.trans (bt.below (Nat.le_refl _))⟩
   case rest=>
   obtain ⟨rfl,N,h',rfl,xh,hk,hn,hp,hNs,b13⟩:=hcut
   generalize wc=w4 at *
   replace o:=o.below b13
   replace xv:=xv.below b13
   replace bw:=belowT bw b13
   have s34:=b13.size
   clear b13 a3 a4 a5 a6 a7 b0 b1 b2 b3 b4 b5 b6 b7 HK hv yk hE yc y0 n2 n3 n5 n6
   have hgN:g≠N:=by omega
   have hNg:N≠g:=by omega
   have hwg:w.heap.size≠g:=by omega
   have hgw:g≠w.heap.size:=by omega
   dsimp only [NV.cells] at xh
   cases h0:r.2 !=0
   ·have h00:r.2=0:=by simpa using h0
    rw [if_neg (by simpa using h0)] at HC
    obtain ⟨-,hch,-⟩:=HRI.out h00
    have hrw:Hid (h'.w=true):=hide (by
     have e:=congrArg PN.w (hp.trans (congrArg Prod.fst (HRI.out h00).1))
     exact e)
    have hch':checkN h'.p=0:=by rw [hp,(HRI.out h00).1];exact hch
    have hcn':=(hand_small hk hch').1
    clear h00 hch HRI
    obtain ⟨e0,e1,e2,e3,e4,e5,e6,e7⟩:=xh.eight
    have oh:=o.hand (j:=j) (by have:=hN.out;omega) hk (fun k q=>hn k (HLT.out k q))
    have bt:=putAll_but g h'.cells w4 (j * 8)
    have bb:=(bw.mono hbs).trans (bt.below hbg)
    have xv5:=xv.butI bt hwg
    have hyx:(x.N.set j h')[j]?=some h':=List.getElem?_set_self (by have:=hN.out;omega)
    obtain ⟨hk5,yc5⟩:=oh.at hyx
    obtain ⟨w5,hw5⟩:∃ o,o=putAll w4 g (j * 8) h'.cells:=⟨_,rfl⟩
    rw [← hw5] at oh bb xv5 hk5 yc5
    have i0:=o.n.lay.ice
    obtain ⟨z0,t0⟩:∃ u,w4.cell? ⟨g,j * 8,none⟩=some u:=o.n.at (j:=0) (by have:=hN.out;omega) (by decide)
    obtain ⟨z1,t1⟩:∃ u,w4.cell? ⟨g,j * 8 + 1,none⟩=some u:=o.n.at (j:=1) (by have:=hN.out;omega) (by decide)
    obtain ⟨z2,t2⟩:∃ u,w4.cell? ⟨g,j * 8 + 2,none⟩=some u:=o.n.at (j:=2) (by have:=hN.out;omega) (by decide)
    obtain ⟨z3,t3⟩:∃ u,w4.cell? ⟨g,j * 8 + 3,none⟩=some u:=o.n.at (j:=3) (by have:=hN.out;omega) (by decide)
    obtain ⟨z4,t4⟩:∃ u,w4.cell? ⟨g,j * 8 + 4,none⟩=some u:=o.n.at (j:=4) (by have:=hN.out;omega) (by decide)
    obtain ⟨z5,t5⟩:∃ u,w4.cell? ⟨g,j * 8 + 5,none⟩=some u:=o.n.at (j:=5) (by have:=hN.out;omega) (by decide)
    obtain ⟨z6,t6⟩:∃ u,w4.cell? ⟨g,j * 8 + 6,none⟩=some u:=o.n.at (j:=6) (by have:=hN.out;omega) (by decide)
    obtain ⟨z7,t7⟩:∃ u,w4.cell? ⟨g,j * 8 + 7,none⟩=some u:=o.n.at (j:=7) (by have:=hN.out;omega) (by decide)
    clear o xv xh bw
    go_upto_region 10 with fail
    dsimp only [putAll,NV.cells] at hw5
    simp only [Nat.add_assoc,Nat.reduceAdd] at hw5
    rw [← hw5]
    clear hw5 e0 e1 e2 e3 e4 e5 e6 e7 t0 t1 t2 t3 t4 t5 t6 t7 i0
    obtain ⟨u0,u1,u2,u3,u4,u5,u6,u7⟩:=NV.lay (b:=g) (o:=j * 8) yc5
    have v1:=xv5.cell 1 _ rfl
    rw [HJ.out] at v1
    have HCC:=hide (fun w' (hIy:Ints w' h'.ca h'.cn h'.cc h'.c.d)=>pwholeC_c h'.ca h'.cn h'.cc h'.c w' hIy (by omega))
    have HSD:=hide (fun q w' o' hm hf=>send_c b B g ({x with N:=x.N.set j h'}) ⟨false,(j:Int),h'.s,h'.c,some ⟨q,0,none⟩,h'.cn,h'.cn,AV.err 0⟩ w' o' hm hf (show x.mn≤1000 by omega))
    dsimp only [cmdV,MV.v,AV.err] at HCC HSD
    rw [hrw.out] at u1
    have f1:g≠B:=fun e=>(oh).le.2.2 e.symm
    have f2:WV.mb ({x with N:=x.N.set j h'})≠some g:=fun e=>((oh).mB g e).2.1 rfl
    have f3:w.heap.size≠B:=by omega
    have f4:WV.mb ({x with N:=x.N.set j h'})≠some w.heap.size:=HMBW.out
    have hlg:=(oh).n.lay.lt
    have hlv:=(xv5).lt
    have LY:=hide (show Lay w5 g (handK.cells (WV.N ({x with N:=x.N.set j h'}))) from (oh).n.lay)
    have LV:=hide xv5
    have OO:=hide (oh)
    have IY:=hide (hk5.c)
    go_upto_region 12 with fail
    go_region_held3 (fun w'=>w'.cell? ⟨w.heap.size,1,none⟩=some (.int .i64 j)∧w'.cell? ⟨g,j * 8,none⟩=some (.int .i64 h'.s)∧w'.cell? ⟨g,j * 8 + 2,none⟩=some (.int .i64 h'.c.k)∧w'.cell? ⟨g,j * 8 + 3,none⟩=some (.int .i64 h'.c.z)∧w'.cell? ⟨g,j * 8 + 4,none⟩=some (.int .i64 h'.c.n)∧w'.cell? ⟨g,j * 8 + 5,none⟩=some (.int .i64 h'.c.at')∧w'.cell? ⟨g,j * 8 + 6,none⟩=some (.slice h'.ca h'.cn h'.cc)) ((first|(go_simp;done)|(simp [*,World.cell?_alloc_at,World.cell?_alloc_past,World.cell?_alloc_some,World.cell?_setCell_far];done))) (first
     |(go_at_call 113;refine (HCC.out _ (by refine Ints.below IY.out (B:=(w5).heap.size) ?_ (Nat.le_refl _);(try clear bw);(repeat first|exact bel0|assumption|refine bel1 ?_|refine bel2 ?_|refine bel3 ?_|refine belowT ?_ (by assumption)|refine bel5 ?_ (by simp;try omega)))).mono ?_;rintro e w6 ⟨⟨q,rfl,iq,hq,hq2⟩,hb6⟩;(have b6:Below (w5).heap.size w5 w6:=by (try clear bw);(repeat first|exact bel0|assumption|refine bel1 ?_|refine bel2 ?_|refine bel3 ?_|refine belowT ?_ (by assumption)|refine bel5 ?_ (by simp;try omega)));(have t1:=keepc b6 v1);(have t2:=keepc b6 u0);(have t3:=keepc b6 u2);(have t4:=keepc b6 u3);(have t5:=keepc b6 u4);(have t6:=keepc b6 u5);(have t7:=keepc b6 u6))
     |(go_at_call 116;refine (HSD.out q _ (OwnW.below OO.out (by (try clear bw);(repeat first|exact bel0|assumption|refine bel1 ?_|refine bel2 ?_|refine bel3 ?_|refine belowT ?_ (by assumption)|refine bel5 ?_ (by simp;try omega)))) ⟨by refine Ints.below iq (B:=w6.heap.size) ?_ (Nat.le_refl _);(try clear bw);clear b6;(repeat first|exact bel0|assumption|refine bel1 ?_|refine bel2 ?_|refine bel3 ?_|refine belowT ?_ (by assumption)|refine bel5 ?_ (by simp;try omega)),AV.err_ok _ 0⟩ (fun k hk=>⟨.inr fun z e=>by cases e;have:=OO.out.lt hk;have:=b6.size;simp at hq ⊢;omega,.inl rfl⟩)).mono ?_;rintro e w7 ⟨⟨⟨vv,rfl⟩,z,oz,hzp⟩,hb7,hp7⟩;(have bb7:=bel_tr hb7 (w:=w5) (by (try clear bw);(repeat first|exact bel0|assumption|refine bel1 ?_|refine bel2 ?_|refine bel3 ?_|refine belowT ?_ (by assumption)|refine bel5 ?_ (by simp;try omega))) (by omega));(have s6:=b6.size);(have g7:=Lay.hp (LY.out.below (by (try clear bw);(repeat first|exact bel0|assumption|refine bel1 ?_|refine bel2 ?_|refine bel3 ?_|refine belowT ?_ (by assumption)|refine bel5 ?_ (by simp;try omega)))) (hp7 g (by first|omega|(simp;omega)) f1 f2) oz.n.lay.lt);(have x7:=Lay.hp (LV.out.below (by (try clear bw);(repeat first|exact bel0|assumption|refine bel1 ?_|refine bel2 ?_|refine bel3 ?_|refine belowT ?_ (by assumption)|refine bel5 ?_ (by simp;try omega)))) (hp7 w.heap.size (by first|omega|(simp;omega)) f3 f4) (by have:=bb7.size;omega));(have r1:=x7.cell 1 _ rfl);(rw [HJ.out] at r1);(obtain ⟨r2,r9,r3,r4,r5,r6,r7,r8⟩:=NV.lay (b:=g) (o:=j * 8) (fun i v hv=>g7.cell _ _ (Kin.cells_get _ j h' (hyx) i v hv)))))
    go_wp2
    go_ret
    exact ⟨⟨by rw [HC.out];rfl,fun _=>⟨z,oz,by rw [HC.out,hzp];(exact post_set hp)⟩⟩,(bb).trans bb7⟩
   ·rw [if_pos (by simpa using h0)] at HC
    go_wp2
    go_ret
    exact ⟨⟨by rw [HC.out];rfl,fun e=>absurd (by rw [HC.out] at e;exact e) (by simpa using h0)⟩,bw.mono hbs⟩
  ·rw [if_neg (by omega)] at HC
   rw [h2] at y0
   replace h2:=hide h2
   have y1':=yc 1 _ rfl
   cases hw:y.w
   ·rw [if_pos (show y.p.w=false from hw)] at HC
    rw [hw] at y1'
    go_wp2
    go_ret
    exact ⟨⟨by rw [HC.out];rfl,fun e=>by rw [HC.out] at e;exact absurd e (by decide)⟩,bw.mono hbs⟩
   ·rw [if_neg (by rw [show y.p.w=y.w from rfl,hw];simp)] at HC
    have hrw:=hide hw
    replace hw:=hide hw
    clear y1'
    have bb:=bw.mono hbs
    obtain ⟨u0,u1,u2,u3,u4,u5,u6,u7⟩:=NV.lay (b:=g) (o:=j * 8) yc
    have v1:=xv.cell 1 _ rfl
    rw [HJ.out] at v1
    have HCC:=hide (fun w' (hIy:Ints w' y.ca y.cn y.cc y.c.d)=>pwholeC_c y.ca y.cn y.cc y.c w' hIy (by omega))
    have HSD:=hide (fun q w' o' hm hf=>send_c b B g (x) ⟨false,(j:Int),y.s,y.c,some ⟨q,0,none⟩,y.cn,y.cn,AV.err 0⟩ w' o' hm hf (show x.mn≤1000 by omega))
    dsimp only [cmdV,MV.v,AV.err] at HCC HSD
    rw [hrw.out] at u1
    have f1:g≠B:=fun e=>(o).le.2.2 e.symm
    have f2:WV.mb (x)≠some g:=fun e=>((o).mB g e).2.1 rfl
    have f3:w.heap.size≠B:=by omega
    have f4:WV.mb (x)≠some w.heap.size:=HMBW.out
    have hlg:=(o).n.lay.lt
    have hlv:=(xv).lt
    have LY:=hide (show Lay w3 g (handK.cells (WV.N (x))) from (o).n.lay)
    have LV:=hide xv
    have OO:=hide (o)
    have IY:=hide (yk.c)
    go_upto_region 12 with fail
    go_region_held3 (fun w'=>w'.cell? ⟨w.heap.size,1,none⟩=some (.int .i64 j)∧w'.cell? ⟨g,j * 8,none⟩=some (.int .i64 y.s)∧w'.cell? ⟨g,j * 8 + 2,none⟩=some (.int .i64 y.c.k)∧w'.cell? ⟨g,j * 8 + 3,none⟩=some (.int .i64 y.c.z)∧w'.cell? ⟨g,j * 8 + 4,none⟩=some (.int .i64 y.c.n)∧w'.cell? ⟨g,j * 8 + 5,none⟩=some (.int .i64 y.c.at')∧w'.cell? ⟨g,j * 8 + 6,none⟩=some (.slice y.ca y.cn y.cc)) ((first|(go_simp;done)|(simp [*,World.cell?_alloc_at,World.cell?_alloc_past,World.cell?_alloc_some,World.cell?_setCell_far];done))) (first
     |(go_at_call 113;refine (HCC.out _ (by refine Ints.below IY.out (B:=(w3).heap.size) ?_ (Nat.le_refl _);(try clear bw);(repeat first|exact bel0|assumption|refine bel1 ?_|refine bel2 ?_|refine bel3 ?_|refine belowT ?_ (by assumption)|refine bel5 ?_ (by simp;try omega)))).mono ?_;rintro e w6 ⟨⟨q,rfl,iq,hq,hq2⟩,hb6⟩;(have b6:Below (w3).heap.size w3 w6:=by (try clear bw);(repeat first|exact bel0|assumption|refine bel1 ?_|refine bel2 ?_|refine bel3 ?_|refine belowT ?_ (by assumption)|refine bel5 ?_ (by simp;try omega)));(have t1:=keepc b6 v1);(have t2:=keepc b6 u0);(have t3:=keepc b6 u2);(have t4:=keepc b6 u3);(have t5:=keepc b6 u4);(have t6:=keepc b6 u5);(have t7:=keepc b6 u6))
     |(go_at_call 116;refine (HSD.out q _ (OwnW.below OO.out (by (try clear bw);(repeat first|exact bel0|assumption|refine bel1 ?_|refine bel2 ?_|refine bel3 ?_|refine belowT ?_ (by assumption)|refine bel5 ?_ (by simp;try omega)))) ⟨by refine Ints.below iq (B:=w6.heap.size) ?_ (Nat.le_refl _);(try clear bw);clear b6;(repeat first|exact bel0|assumption|refine bel1 ?_|refine bel2 ?_|refine bel3 ?_|refine belowT ?_ (by assumption)|refine bel5 ?_ (by simp;try omega)),AV.err_ok _ 0⟩ (fun k hk=>⟨.inr fun z e=>by cases e;have:=OO.out.lt hk;have:=b6.size;simp at hq ⊢;omega,.inl rfl⟩)).mono ?_;rintro e w7 ⟨⟨⟨vv,rfl⟩,z,oz,hzp⟩,hb7,hp7⟩;(have bb7:=bel_tr hb7 (w:=w3) (by (try clear bw);(repeat first|exact bel0|assumption|refine bel1 ?_|refine bel2 ?_|refine bel3 ?_|refine belowT ?_ (by assumption)|refine bel5 ?_ (by simp;try omega))) (by omega));(have s6:=b6.size);(have g7:=Lay.hp (LY.out.below (by (try clear bw);(repeat first|exact bel0|assumption|refine bel1 ?_|refine bel2 ?_|refine bel3 ?_|refine belowT ?_ (by assumption)|refine bel5 ?_ (by simp;try omega)))) (hp7 g (by first|omega|(simp;omega)) f1 f2) oz.n.lay.lt);(have x7:=Lay.hp (LV.out.below (by (try clear bw);(repeat first|exact bel0|assumption|refine bel1 ?_|refine bel2 ?_|refine bel3 ?_|refine belowT ?_ (by assumption)|refine bel5 ?_ (by simp;try omega)))) (hp7 w.heap.size (by first|omega|(simp;omega)) f3 f4) (by have:=bb7.size;omega));(have r1:=x7.cell 1 _ rfl);(rw [HJ.out] at r1);(obtain ⟨r2,r9,r3,r4,r5,r6,r7,r8⟩:=NV.lay (b:=g) (o:=j * 8) (fun i v hv=>g7.cell _ _ (Kin.cells_get _ j y (HY.out) i v hv)))))
    go_wp2
    go_ret
    exact ⟨⟨by rw [HC.out];rfl,fun _=>⟨z,oz,by rw [HC.out,hzp];(exact post_again _ _ _ _ _)⟩⟩,(bb).trans bb7⟩
end Go.Proofs.YtabafikicbkkdaaGreatDoor
