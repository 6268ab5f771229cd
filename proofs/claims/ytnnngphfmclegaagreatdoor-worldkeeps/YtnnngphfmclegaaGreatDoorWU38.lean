/- The contract of world.hear; no condition but that the box holds a world of the call's own, and that the mail comes from a hand that there is. -/
import Derived.Test.YtnnngphfmclegaaGreatDoorWU35
import Derived.Test.YtnnngphfmclegaaGreatDoorWU37
import Derived.Deep.RegionHeld3
namespace Go.Proofs.YtnnngphfmclegaaGreatDoor
open Go.RowKit
set_option linter.unusedVariables false
set_option maxHeartbeats 4000000
set_option maxRecDepth 100000
set_option linter.unusedSimpArgs false
theorem OwnW.nil {w:World} {b B g:Nat} {x:WV} (o:OwnW w b B g x):Lay w B [.slice x.h.d.za x.h.d.zn x.h.d.zc,.slice x.h.d.ka x.h.d.kn x.h.d.kc,.int .i64 x.h.d.b.h,.int .i64 x.h.d.b.t,.slice x.h.a x.h.n x.h.c,.slice x.d.a x.d.n x.d.c,.slice x.d.b x.d.m x.d.d,.bool x.u,.slice (some ⟨g,0,none⟩) x.N.length x.N.length,.slice x.ma x.mn x.mc]:=by
 have:=o.lay
 rw [show x.cells=[.slice x.h.d.za x.h.d.zn x.h.d.zc,.slice x.h.d.ka x.h.d.kn x.h.d.kc,.int .i64 x.h.d.b.h,.int .i64 x.h.d.b.t,.slice x.h.a x.h.n x.h.c,.slice x.d.a x.d.n x.d.c,.slice x.d.b x.d.m x.d.d,.bool x.u,.slice x.na x.nn x.nc,.slice x.ma x.mn x.mc] from rfl,o.na.1,o.na.2.1,o.na.2.2] at this
 exact this
theorem OwnW.at {w:World} {b B g:Nat} {x:WV} (o:OwnW w b B g x) {j:Nat} {y:NV} (hy:x.N[j]?=some y):y.ok w∧∀ i v,y.cells[i]?=some v→w.cell? ⟨g,j * 8 + i,none⟩=some v:=
 ⟨o.n.ok y (List.mem_of_getElem? hy),fun i v hv=>o.n.lay.cell _ _ (Kin.cells_get x.N j y hy i v hv)⟩
theorem handW_at {x:WV} {j:Nat} {y:NV} (hy:x.N[j]?=some y):handW x.p (j:Int)=y.p:=by
 unfold handW
 rw [show x.p.n=x.N.map NV.p from rfl,Int.toNat_natCast,List.getD_eq_getElem?_getD,List.getElem?_map,hy]
 rfl
theorem hear_c (b B g:Nat) (x:WV) (m:MV) (w:World) (hE:Env w) (o:OwnW w b B g x) (hm:m.ok w) (hN:x.N.length=3) (hw:0≤m.w∧m.w≤2) (hb:m.b=true) :
  Calls Tryz.prog 93 #[.pointer (some ⟨B,0,none⟩),m.v] w fun e w'=>WAct b B g (comesW x.p m.p) e w'∧Below b w w':=by
 obtain ⟨j,hj⟩:∃ j:Nat,m.w=j:=⟨m.w.toNat,by omega⟩
 have hj3:j < 3:=by omega
 obtain ⟨y,hy⟩:∃ y,x.N[j]?=some y:=⟨_,List.getElem?_eq_getElem (by omega)⟩
 have HJ:=hide (fun w' hS hk hx=>JHear_c y m.s m.x w' hS hk hx)
 have HC:Hid (comesW x.p m.p=if (hearN y.p m.s m.x.p).2≠0 then (zeroW,(hearN y.p m.s m.x.p).2) else (setW x.p j (hearN y.p m.s m.x.p).1,0)):=hide (by
  unfold comesW
  rw [show m.p.b=m.b from rfl,hb,if_pos rfl,show m.p.w=m.w from rfl,hj,handW_at hy]
  rfl)
 replace hb:=hide hb
 have hg0:=o.n.lay.lt
 have hbs:b≤w.heap.size:=by have:=o.lay.lt;have:=o.le.1;omega
 have xm:=Lay.made w m.cells 77
 have bw:=belowA (Below.refl _ w) (.cells m.cells.toArray 77)
 replace o:=o.below bw
 replace hm:=hm.below bw (Nat.le_refl _)
 replace hE:=hE.below bw
 dsimp only [MV.v,MV.cells] at *
 rw [hj] at xm bw o hm hE ⊢
 replace hj:=hide hj
 have hbB:=o.le.1
 have hbg:=o.le.2.1
 generalize comesW x.p m.p=cw at *
 generalize hearN y.p m.s m.x.p=r at *
 have ln:=o.nil
 rw [hN] at ln
 obtain ⟨yk,yc⟩:=o.at hy
 have HY:=hide hy
 clear hy
 dsimp only [MV.v,MV.cells,NV.v,AV.v] at *
 go_enter Tryz.func93,Tryz.ntmps93
 go_upto_region 1 with fail
 generalize w.alloc (.cells [.bool m.b,.int .i64 (j:Int),.int .i64 m.s,.int .i64 m.c.k,.int .i64 m.c.z,.int .i64 m.c.n,.int .i64 m.c.at',.slice m.ca m.cn m.cc,.int .i64 m.x.e,.int .i64 m.x.t,.slice m.x.a m.x.n m.x.c].toArray 77)=w1 at *
 have c0:=xm.cell 0 _ rfl
 have c1:=xm.cell 1 _ rfl
 have c2:=xm.cell 2 _ rfl
 have c8:=xm.cell 8 _ rfl
 have c9:=xm.cell 9 _ rfl
 have c10:=xm.cell 10 _ rfl
 have d8:=ln.cell 8 _ rfl
 obtain ⟨e0,e1,e2,e3,e4,e5,e6,e7⟩:=NV.lay (b:=g) (o:=j * 8) yc
 have hj0:(0:Int)≤(j:Int):=by omega
 have hj3':(j:Int) < 3:=by omega
 clear yc
 have HLT:=hide (fun k (q:x.ours b B g k)=>o.lt q)
 have q1:B≠g:=o.le.2.2
 have q2:g≠B:=fun e=>q1 e.symm
 have q3:g≠w.heap.size:=by omega
 have q4:w.heap.size≠g:=by omega
 have hBl:=o.lay.lt
 have hgl:=o.n.lay.lt
 have hwl:=xm.lt
 have n1:B≠w1.heap.size:=by omega
 have n2:g≠w1.heap.size:=by omega
 have n3:w.heap.size≠w1.heap.size:=by omega
 have n4:w1.heap.size≠B:=by omega
 have n5:w1.heap.size≠g:=by omega
 have n6:w1.heap.size≠w.heap.size:=by omega
 go_cut [5,6] (fun p e wx=>e=.int .i64 r.2∧∃ (N:Nat) (h':NV),p=.pointer (some ⟨N,0,none⟩)∧Lay wx N h'.cells∧h'.ok wx∧h'.new w1.heap.size∧h'.p=r.1∧w1.heap.size≤N∧Below w1.heap.size w1 wx)
 case first=>
  go_region_held3 (fun w'=>w'.cell? ⟨w.heap.size,0,none⟩=some (.bool m.b)∧w'.cell? ⟨w.heap.size,1,none⟩=some (.int .i64 j)∧w'.cell? ⟨w.heap.size,2,none⟩=some (.int .i64 m.s)∧w'.cell? ⟨w.heap.size,8,none⟩=some (.int .i64 m.x.e)∧w'.cell? ⟨w.heap.size,9,none⟩=some (.int .i64 m.x.t)∧w'.cell? ⟨w.heap.size,10,none⟩=some (.slice m.x.a m.x.n m.x.c)∧w'.cell? ⟨B,8,none⟩=some (.slice (some ⟨g,0,none⟩) 3 3)∧w'.cell? ⟨g,j * 8,none⟩=some (.int .i64 y.s)∧w'.cell? ⟨g,j * 8 + 1,none⟩=some (.bool y.w)∧w'.cell? ⟨g,j * 8 + 2,none⟩=some (.int .i64 y.c.k)∧w'.cell? ⟨g,j * 8 + 3,none⟩=some (.int .i64 y.c.z)∧w'.cell? ⟨g,j * 8 + 4,none⟩=some (.int .i64 y.c.n)∧w'.cell? ⟨g,j * 8 + 5,none⟩=some (.int .i64 y.c.at')∧w'.cell? ⟨g,j * 8 + 6,none⟩=some (.slice y.ca y.cn y.cc)∧w'.cell? ⟨g,j * 8 + 7,none⟩=some (.slice y.ga y.gn y.gc)) ((first|(go_simp;done)|(simp [*,World.cell?_alloc_at,World.cell?_alloc_past,World.cell?_alloc_some,World.cell?_setCell_far];done))) (first|(go_at_call 106;refine (HJ.out _ (Env.below hE (by clear bw;(repeat first|exact bel0|assumption|refine bel1 ?_|refine bel2 ?_|refine bel3 ?_|refine belowT ?_ (by assumption)|refine bel5 ?_ (by simp;try omega)))).shp (by refine NV.ok.below yk (B:=w1.heap.size) ?_ (Nat.le_refl _);clear bw;(repeat first|exact bel0|assumption|refine bel1 ?_|refine bel2 ?_|refine bel3 ?_|refine belowT ?_ (by assumption)|refine bel5 ?_ (by simp;try omega))) (by refine AV.ok.below hm.x (B:=w1.heap.size) ?_ (Nat.le_refl _);clear bw;(repeat first|exact bel0|assumption|refine bel1 ?_|refine bel2 ?_|refine bel3 ?_|refine belowT ?_ (by assumption)|refine bel5 ?_ (by simp;try omega)))).mono ?_;rintro e w2 ⟨⟨h',rfl,hk,hn,hp⟩,hb2⟩;(dsimp only [NV.v]);(have k0:=keepc hb2 (p:=⟨w.heap.size,0,none⟩) (u:=.bool m.b) (by (first|(go_simp;done)|(simp [*,World.cell?_alloc_at,World.cell?_alloc_past,World.cell?_alloc_some,World.cell?_setCell_far];done))));(have k1:=keepc hb2 (p:=⟨w.heap.size,1,none⟩) (u:=.int .i64 j) (by (first|(go_simp;done)|(simp [*,World.cell?_alloc_at,World.cell?_alloc_past,World.cell?_alloc_some,World.cell?_setCell_far];done))));(have k2:=keepc hb2 (p:=⟨w.heap.size,2,none⟩) (u:=.int .i64 m.s) (by (first|(go_simp;done)|(simp [*,World.cell?_alloc_at,World.cell?_alloc_past,World.cell?_alloc_some,World.cell?_setCell_far];done))));(have k3:=keepc hb2 (p:=⟨w.heap.size,8,none⟩) (u:=.int .i64 m.x.e) (by (first|(go_simp;done)|(simp [*,World.cell?_alloc_at,World.cell?_alloc_past,World.cell?_alloc_some,World.cell?_setCell_far];done))));(have k4:=keepc hb2 (p:=⟨w.heap.size,9,none⟩) (u:=.int .i64 m.x.t) (by (first|(go_simp;done)|(simp [*,World.cell?_alloc_at,World.cell?_alloc_past,World.cell?_alloc_some,World.cell?_setCell_far];done))));(have k5:=keepc hb2 (p:=⟨w.heap.size,10,none⟩) (u:=.slice m.x.a m.x.n m.x.c) (by (first|(go_simp;done)|(simp [*,World.cell?_alloc_at,World.cell?_alloc_past,World.cell?_alloc_some,World.cell?_setCell_far];done))));(have k6:=keepc hb2 (p:=⟨B,8,none⟩) (u:=.slice (some ⟨g,0,none⟩) 3 3) (by (first|(go_simp;done)|(simp [*,World.cell?_alloc_at,World.cell?_alloc_past,World.cell?_alloc_some,World.cell?_setCell_far];done))));(have k7:=keepc hb2 (p:=⟨g,j * 8,none⟩) (u:=.int .i64 y.s) (by (first|(go_simp;done)|(simp [*,World.cell?_alloc_at,World.cell?_alloc_past,World.cell?_alloc_some,World.cell?_setCell_far];done))));(have k8:=keepc hb2 (p:=⟨g,j * 8 + 1,none⟩) (u:=.bool y.w) (by (first|(go_simp;done)|(simp [*,World.cell?_alloc_at,World.cell?_alloc_past,World.cell?_alloc_some,World.cell?_setCell_far];done))));(have k9:=keepc hb2 (p:=⟨g,j * 8 + 2,none⟩) (u:=.int .i64 y.c.k) (by (first|(go_simp;done)|(simp [*,World.cell?_alloc_at,World.cell?_alloc_past,World.cell?_alloc_some,World.cell?_setCell_far];done))));(have k10:=keepc hb2 (p:=⟨g,j * 8 + 3,none⟩) (u:=.int .i64 y.c.z) (by (first|(go_simp;done)|(simp [*,World.cell?_alloc_at,World.cell?_alloc_past,World.cell?_alloc_some,World.cell?_setCell_far];done))));(have k11:=keepc hb2 (p:=⟨g,j * 8 + 4,none⟩) (u:=.int .i64 y.c.n) (by (first|(go_simp;done)|(simp [*,World.cell?_alloc_at,World.cell?_alloc_past,World.cell?_alloc_some,World.cell?_setCell_far];done))));(have k12:=keepc hb2 (p:=⟨g,j * 8 + 5,none⟩) (u:=.int .i64 y.c.at') (by (first|(go_simp;done)|(simp [*,World.cell?_alloc_at,World.cell?_alloc_past,World.cell?_alloc_some,World.cell?_setCell_far];done))));(have k13:=keepc hb2 (p:=⟨g,j * 8 + 6,none⟩) (u:=.slice y.ca y.cn y.cc) (by (first|(go_simp;done)|(simp [*,World.cell?_alloc_at,World.cell?_alloc_past,World.cell?_alloc_some,World.cell?_setCell_far];done))));(have k14:=keepc hb2 (p:=⟨g,j * 8 + 7,none⟩) (u:=.slice y.ga y.gn y.gc) (by (first|(go_simp;done)|(simp [*,World.cell?_alloc_at,World.cell?_alloc_past,World.cell?_alloc_some,World.cell?_setCell_far];done))));(have b12:Below w1.heap.size w1 w2:=by clear bw;(repeat first|exact bel0|assumption|refine bel1 ?_|refine bel2 ?_|refine bel3 ?_|refine belowT ?_ (by assumption)|refine bel5 ?_ (by simp;try omega)));(have s2:=b12.size);(have m1:B≠w2.heap.size:=by omega);(have m2:g≠w2.heap.size:=by omega);(have m3:w.heap.size≠w2.heap.size:=by omega);(have m4:w2.heap.size≠B:=by omega);(have m5:w2.heap.size≠g:=by omega);(have m6:w2.heap.size≠w.heap.size:=by omega);(first|(have xZ:=Lay.below (Lay.drew (Lay.made w1 [.int .i64 0,.bool false,.int .i64 0,.int .i64 0,.int .i64 0,.int .i64 0,.slice none 0 0,.slice none 0 0] 55)) hb2)|(have xZ:=Lay.below (Lay.made w1 [.int .i64 0,.bool false,.int .i64 0,.int .i64 0,.int .i64 0,.int .i64 0,.slice none 0 0,.slice none 0 0] 55) hb2)|skip);(try have xZc0:=xZ.cell 0 _ rfl);(try have xZc1:=xZ.cell 1 _ rfl);(try have xZc2:=xZ.cell 2 _ rfl);(try have xZc3:=xZ.cell 3 _ rfl);(try have xZc4:=xZ.cell 4 _ rfl);(try have xZc5:=xZ.cell 5 _ rfl);(try have xZc6:=xZ.cell 6 _ rfl);(try have xZc7:=xZ.cell 7 _ rfl);(try have xZi:=xZ.ice)))
  ·go_wp2_with fail
   go_meet
   case rel=>
    simp at hn
    have bn:=belowA (Below.refl _ w2) (.cells h'.cells.toArray 55)
    exact ⟨rfl,_,h',rfl,Lay.made w2 h'.cells 55,hk.below bn (Nat.le_refl _),hn.mono (by omega),hp,s2,belowT b12 bn⟩
  ·go_wp2_with fail
   go_meet
   case rel=>
    simp at hn
    have ly:=xZ.fill (vs:=h'.cells) rfl
    have bt:=putAll_but w1.heap.size h'.cells w2 0
    exact ⟨rfl,_,h',rfl,ly,hk.but bt.but (hn _ (by omega)),hn.mono (by omega),hp,Nat.le_refl _,b12.trans (bt.below (Nat.le_refl _))⟩
 case rest=>
 obtain ⟨rfl,N,h',rfl,xh,hk,hn,hp,hNs,b13⟩:=hcut
 generalize wc=w3 at *
 replace o:=o.below b13
 replace ln:=ln.below b13
 replace xm:=xm.below b13
 replace bw:=belowT bw b13
 have hN1:=xh.lt
 have q5:g≠N:=by omega
 have q6:N≠g:=by omega
 clear b13 c0 c1 c2 c8 c9 c10 d8 e0 e1 e2 e3 e4 e5 e6 e7 HJ hm yk hE
 dsimp only [NV.cells] at xh
 cases h0:r.2 !=0
 ·rw [if_neg (by simpa using h0)] at HC
  have c1:=xm.cell 1 _ rfl
  have d8:=ln.cell 8 _ rfl
  obtain ⟨e0,e1,e2,e3,e4,e5,e6,e7⟩:=xh.eight
  obtain ⟨u0,a0⟩:∃ u,w3.cell? ⟨g,j * 8,none⟩=some u:=o.n.at (j:=0) (by omega) (by decide)
  obtain ⟨u1,a1⟩:∃ u,w3.cell? ⟨g,j * 8 + 1,none⟩=some u:=o.n.at (j:=1) (by omega) (by decide)
  obtain ⟨u2,a2⟩:∃ u,w3.cell? ⟨g,j * 8 + 2,none⟩=some u:=o.n.at (j:=2) (by omega) (by decide)
  obtain ⟨u3,a3⟩:∃ u,w3.cell? ⟨g,j * 8 + 3,none⟩=some u:=o.n.at (j:=3) (by omega) (by decide)
  obtain ⟨u4,a4⟩:∃ u,w3.cell? ⟨g,j * 8 + 4,none⟩=some u:=o.n.at (j:=4) (by omega) (by decide)
  obtain ⟨u5,a5⟩:∃ u,w3.cell? ⟨g,j * 8 + 5,none⟩=some u:=o.n.at (j:=5) (by omega) (by decide)
  obtain ⟨u6,a6⟩:∃ u,w3.cell? ⟨g,j * 8 + 6,none⟩=some u:=o.n.at (j:=6) (by omega) (by decide)
  obtain ⟨u7,a7⟩:∃ u,w3.cell? ⟨g,j * 8 + 7,none⟩=some u:=o.n.at (j:=7) (by omega) (by decide)
  have ice:=o.n.lay.ice
  have O:=hide o
  have HFR:Hid (∀ k,x.ours b B g k→h'.off k):=hide (fun k q=>hn k (HLT.out k q))
  have oh:=(o.hand (j:=j) (by omega) hk HFR.out).below (Below.refl _ _).drew
  have ob:=((bw.mono hbs).trans ((putAll_but g h'.cells w3 (j * 8)).below hbg)).drew
  dsimp only [putAll,NV.cells,Nat.add_assoc,Nat.reduceAdd] at oh ob
  have OH:=hide oh
  have OB:=hide ob
  clear o xm ln xh oh ob bw
  go_upto_region 4 with fail
  go_region_held3 (fun w'=>w'.cell? ⟨w.heap.size,1,none⟩=some (.int .i64 j)∧w'.cell? ⟨B,8,none⟩=some (.slice (some ⟨g,0,none⟩) 3 3)∧w'.cell? ⟨N,0,none⟩=some (.int .i64 h'.s)∧w'.cell? ⟨N,1,none⟩=some (.bool h'.w)∧w'.cell? ⟨N,2,none⟩=some (.int .i64 h'.c.k)∧w'.cell? ⟨N,3,none⟩=some (.int .i64 h'.c.z)∧w'.cell? ⟨N,4,none⟩=some (.int .i64 h'.c.n)∧w'.cell? ⟨N,5,none⟩=some (.int .i64 h'.c.at')∧w'.cell? ⟨N,6,none⟩=some (.slice h'.ca h'.cn h'.cc)∧w'.cell? ⟨N,7,none⟩=some (.slice h'.ga h'.gn h'.gc)) ((first|(go_simp;done)|(simp [*,World.cell?_alloc_at,World.cell?_alloc_past,World.cell?_alloc_some,World.cell?_setCell_far];done))) (fail)
  go_wp2
  go_ret
  exact ⟨⟨by rw [HC.out];rfl,fun _=>⟨_,OH.out,by rw [HC.out];simp [WV.p,setW,List.map_set,hp]⟩⟩,OB.out⟩
 ·rw [if_pos (by simpa using h0)] at HC
  go_wp2
  go_ret
  exact ⟨⟨by rw [HC.out];rfl,fun e=>absurd (by rw [HC.out] at e;exact e) (by simpa using h0)⟩,bw.mono hbs⟩
end Go.Proofs.YtnnngphfmclegaaGreatDoor
namespace Go.Proofs.YtnnngphfmclegaaGreatDoor
open Go.RowKit
set_option linter.unusedVariables false
set_option maxHeartbeats 4000000
set_option maxRecDepth 100000
set_option linter.unusedSimpArgs false
theorem doW_right {x:PW} {e:PX} (k:(doW x e).2=0):checkW x=0∧doW x e=happenW x e:=by
 unfold doW at k ⊢
 split at k
 ·rename_i q;exact absurd k q
 ·rename_i q
  rw [if_neg q]
  exact ⟨by simpa using q,rfl⟩
theorem happen_cases {x:PW} {e:PX} (k:checkW x=0) (hk:(happenW x e).2=0) :
  (∃ m,(0≤e.n∧e.n.toNat < x.m.length)∧x.m[e.n.toNat]?=some m∧((e.k=5∧happenW x e=(goneW x e.n.toNat,0))∨(e.k=4∧happenW x e=comesW x m)∨(e.k=3∧happenW x e=comesW (goneW x e.n.toNat) m)))∨
  (e.k=6∧x.u=true∧happenW x e=({x with h:=freshH,u:=false},0))∨
  (e.k=7∧x.u=false∧(replayH (recK x.d).2.1).2=0∧happenW x e=({x with h:=(replayH (recK x.d).2.1).1,d:=(recK x.d).1,u:=true},0))∨
  (e.k=1∧(0≤e.w∧e.w≤2)∧(askN (handW x e.w) e.c).2=0∧happenW x e=(postW (setW x e.w (askN (handW x e.w) e.c).1) ⟨false,e.w,(askN (handW x e.w) e.c).1.s,(askN (handW x e.w) e.c).1.c,zeroA⟩,0))∨
  (e.k=2∧(0≤e.w∧e.w≤2)∧(handW x e.w).w=true∧happenW x e=(postW x ⟨false,e.w,(handW x e.w).s,(handW x e.w).c,zeroA⟩,0)):=by
 unfold happenW at hk ⊢
 by_cases c1:e.k=3∨e.k=4∨e.k=5
 ·rw [if_pos c1] at hk ⊢
  by_cases c2:e.n < 0∨(x.m.length:Int)≤e.n
  ·rw [if_pos c2] at hk
   cases hk
  ·rw [if_neg c2] at hk ⊢
   have hl:e.n.toNat < x.m.length:=by omega
   obtain ⟨m,hm⟩:∃ m,x.m[e.n.toNat]?=some m:=⟨_,List.getElem?_eq_getElem hl⟩
   rw [hm] at hk ⊢
   simp only at hk ⊢
   left
   refine ⟨m,⟨by omega,hl⟩,rfl,?_⟩
   rcases c1 with c|c|c
   ·exact .inr (.inr ⟨c,by rw [if_neg (by omega),if_neg (by omega)]⟩)
   ·exact .inr (.inl ⟨c,by rw [if_neg (by omega),if_pos c]⟩)
   ·exact .inl ⟨c,by rw [if_pos c]⟩
 ·rw [if_neg c1] at hk ⊢
  right
  by_cases c6:e.k=6
  ·rw [if_pos c6] at hk ⊢
   left
   split at hk
   ·cases hk
   ·rename_i q
    exact ⟨c6,by simpa using q,by rw [if_neg q]⟩
  ·rw [if_neg c6] at hk ⊢
   right
   by_cases c7:e.k=7
   ·rw [if_pos c7] at hk ⊢
    left
    split at hk
    ·cases hk
    ·rename_i q
     split at hk
     ·rename_i p;exact absurd hk p
     ·rename_i p
      exact ⟨c7,by simpa using q,by simpa using p,by rw [if_neg q,if_neg p]⟩
   ·rw [if_neg c7] at hk ⊢
    right
    by_cases ca:e.k=1
    ·rw [if_pos ca] at hk ⊢
     left
     split at hk
     ·cases hk
     ·rename_i q
      split at hk
      ·rename_i p;exact absurd hk p
      ·rename_i p
       exact ⟨ca,by simp [inB] at q;omega,by simpa using p,by rw [if_neg q,if_neg p]⟩
    ·rw [if_neg ca] at hk ⊢
     right
     by_cases cb:e.k=2
     ·rw [if_pos cb] at hk ⊢
      split at hk
      ·cases hk
      ·rename_i q
       split at hk
       ·cases hk
       ·rename_i p
        exact ⟨cb,by simp [inB] at q;omega,by simpa using p,by rw [if_neg q,if_neg p]⟩
     ·rw [if_neg cb] at hk
      cases hk
theorem boot_right {x:PW} (k:checkW x=0) (hr:(replayH (recK x.d).2.1).2=0):checkW {x with h:=(replayH (recK x.d).2.1).1,d:=(recK x.d).1,u:=true}=0:=by
 obtain ⟨h1,h2,h3,h4,h5,h6,h7⟩:=checkW_ok k
 obtain ⟨L,g1,g2,g3,-⟩:=recK_facts h4
 have l:=textL_len L g2
 rw [g1] at hr ⊢
 refine checkW_mk h1 h2 h3 (checkK_text g2 g3 (by simp;omega)) (fun _=>rfl) ?_ h7
 have e:recK (⟨textL L,[]⟩:PK)=(⟨textL L,[]⟩,L,0):=recK_again g2 g3
 simp only [logW,if_true,e]
 exact Prod.ext rfl hr
theorem ask_right {h:PN} {c:PC} (k:(askN h c).2=0):askN h c=(⟨h.s + 1,true,c,h.g⟩,0)∧checkN ⟨h.s + 1,true,c,h.g⟩=0∧h.w=false∧checkC c=0∧(0≤h.s∧h.s < 40):=by
 obtain ⟨a1,a2,a3,a4⟩:=ask_some k
 obtain ⟨e1,e2⟩:=ask_ok a1 a3 a2 a4
 exact ⟨e1,e2,a3,a2,(checkN_ok a1).1.1,a4⟩
theorem waits_facts {h:PN} (k:checkN h=0) (hw:h.w=true):(1≤h.s∧h.s≤40)∧h.s=h.g.length + 1∧checkC h.c=0:=by
 obtain ⟨h1,h2,h3,h4⟩:=checkN_ok k
 simp only [formN,hw,if_true,decide_eq_true_eq] at h3
 exact ⟨by omega,h3,h4 hw⟩
theorem world_keeps {x:PW} {e:PX} (k:(doW x e).2=0):checkW x=0∧checkW (doW x e).1=0∧(∃ j:Nat,∀ i,i≠j→(doW x e).1.n[i]?=x.n[i]?)∧
  (if e.k=3∨e.k=5 then x.m.length - 1 else x.m.length)≤(doW x e).1.m.length∧(doW x e).1.m.length≤(if e.k=3∨e.k=5 then x.m.length - 1 else x.m.length) + 1∧((doW x e).1.d.s=x.d.s∨e.k=3∨e.k=4∨e.k=7):=by
 obtain ⟨hx,he⟩:=doW_right k
 rw [he] at k ⊢
 refine ⟨hx,?_⟩
 obtain ⟨h1,h2,h3,h4,h5,h6,h7⟩:=checkW_ok hx
 rcases happen_cases hx k with ⟨m,⟨n1,n2⟩,hm,⟨c,q⟩|⟨c,q⟩|⟨c,q⟩⟩|⟨c,hu,q⟩|⟨c,hu,hr,q⟩|⟨c,hw,ha,q⟩|⟨c,hw,ha,q⟩
 ·rw [q]
  have hl:(goneW x e.n.toNat).m.length=x.m.length - 1:=by simp [goneW,List.length_eraseIdx,n2]
  rw [if_pos (.inr c)]
  exact ⟨gone_right hx _,⟨0,fun _ _=>rfl⟩,by rw [hl];exact Nat.le_refl _,by rw [hl];omega,.inl rfl⟩
 ·rw [q] at k ⊢
  rw [if_neg (by omega)]
  obtain ⟨p1,p2,p3,p4,_⟩:=comes_keeps hx (h3 m (List.mem_of_getElem? hm)) k
  exact ⟨p1,p2,p3,p4,.inr (.inr (.inl c))⟩
 ·rw [q] at k ⊢
  rw [if_pos (.inl c)]
  have hl:(goneW x e.n.toNat).m.length=x.m.length - 1:=by simp [goneW,List.length_eraseIdx,n2]
  obtain ⟨p1,p2,p3,p4,_⟩:=comes_keeps (gone_right hx e.n.toNat) (h3 m (List.mem_of_getElem? hm)) k
  rw [hl] at p3 p4
  exact ⟨p1,p2,p3,p4,.inr (.inl c)⟩
 ·rw [q,if_neg (by omega)]
  exact ⟨checkW_mk h1 h2 h3 h4 (fun e=>by cases e) rfl h7,⟨0,fun _ _=>rfl⟩,Nat.le_refl _,by simp only;omega,.inl rfl⟩
 ·rw [q,if_neg (by omega)]
  exact ⟨boot_right hx hr,⟨0,fun _ _=>rfl⟩,Nat.le_refl _,by simp only;omega,.inr (.inr (.inr c))⟩
 ·rw [q,if_neg (by omega)]
  obtain ⟨a1,a2,a3,a4,a5⟩:=ask_right ha
  have hs:=set_right hx (j:=e.w) a2
  rw [a1]
  obtain ⟨p1,p2,p3,p4,p5,p6,_⟩:=post_same (setW x e.w ⟨(handW x e.w).s + 1,true,e.c,(handW x e.w).g⟩) ⟨false,e.w,(handW x e.w).s + 1,e.c,zeroA⟩
  refine ⟨post_right hs (checkM_mk hw (by simp only;omega) (fun e=>by cases e) (fun _=>⟨rfl,a4⟩)),⟨e.w.toNat,fun i hi=>?_⟩,p5,p6,.inl (by rw [p2];rfl)⟩
  rw [p4]
  exact set_others x _ _ i hi
 ·rw [q,if_neg (by omega)]
  obtain ⟨w1,w2,w3⟩:=waits_facts (hand_mem hx hw).2 ha
  obtain ⟨p1,p2,p3,p4,p5,p6,_⟩:=post_same x ⟨false,e.w,(handW x e.w).s,(handW x e.w).c,zeroA⟩
  exact ⟨post_right hx (checkM_mk hw w1 (fun e=>by cases e) (fun _=>⟨rfl,w3⟩)),⟨0,fun _ _=>by rw [p4]⟩,p5,p6,.inl (by rw [p2])⟩
theorem world_twice {x:PW} {j:Int} (k:(doW x ⟨4,0,j,zeroC⟩).2=0):(doW (doW x ⟨4,0,j,zeroC⟩).1 ⟨4,0,j,zeroC⟩).2=0∧
  (doW (doW x ⟨4,0,j,zeroC⟩).1 ⟨4,0,j,zeroC⟩).1.h=(doW x ⟨4,0,j,zeroC⟩).1.h∧(doW (doW x ⟨4,0,j,zeroC⟩).1 ⟨4,0,j,zeroC⟩).1.d=(doW x ⟨4,0,j,zeroC⟩).1.d∧(doW (doW x ⟨4,0,j,zeroC⟩).1 ⟨4,0,j,zeroC⟩).1.n=(doW x ⟨4,0,j,zeroC⟩).1.n∧
  (doW (doW x ⟨4,0,j,zeroC⟩).1 ⟨4,0,j,zeroC⟩).1.m.length≤(doW x ⟨4,0,j,zeroC⟩).1.m.length + 1:=by
 have hy:=(world_keeps k).2.1
 obtain ⟨hx,he⟩:=doW_right k
 obtain ⟨h1,h2,h3,h4,h5,h6,h7⟩:=checkW_ok hx
 rw [he] at k hy ⊢
 rcases happen_cases hx k with ⟨m,⟨n1,n2⟩,hm,⟨c,q⟩|⟨c,q⟩|⟨c,q⟩⟩|⟨c,hu,q⟩|⟨c,hu,hr,q⟩|⟨c,hw,ha,q⟩|⟨c,hw,ha,q⟩
 ·simp at c
 ·rw [q] at k hy ⊢
  have hmr:=h3 m (List.mem_of_getElem? hm)
  have hmw:=(checkM_facts hmr).1
  have hms:=(checkM_facts hmr).2.1
  -- the second time
  have two:∀ y:PW,checkW y=0→y.m[j.toNat]?=some m→doW y ⟨4,0,j,zeroC⟩=comesW y m:=fun y ky hj=>by
   have:=(List.getElem?_eq_some_iff.1 hj).1
   unfold doW happenW
   simp only at n1
   rw [if_neg (by simp [ky]),if_pos (.inr (.inl rfl)),if_neg (by simp only;omega)]
   simp only [hj]
   rw [if_neg (by simp),if_pos trivial]
  unfold comesW at k hy ⊢
  cases hb:m.b with
  |true=>
   rw [hb,if_pos rfl] at k hy
   simp only [if_true]
   split at k
   ·rename_i p;exact absurd k p
   ·rename_i p
    rw [if_neg p] at hy ⊢
    have p':(hearN (handW x m.w) m.s m.a).2=0:=by simpa using p
    obtain ⟨r1,r2,r3⟩:=hear_right p'
    simp only at hy ⊢
    rw [two _ hy (by simpa [setW] using hm)]
    have hh:handW (setW x m.w (hearN (handW x m.w) m.s m.a).1) m.w=(hearN (handW x m.w) m.s m.a).1:=by
     have hl:m.w.toNat < x.n.length:=by omega
     simp [handW,setW,List.getD,hl]
    have again:hearN (hearN (handW x m.w) m.s m.a).1 m.s m.a=((hearN (handW x m.w) m.s m.a).1,0):=by
     by_cases c:(handW x m.w).w=false∨(handW x m.w).s≠m.s
     ·rw [hear_deaf r1 r2 c]
      exact hear_deaf r1 r2 c
     ·simp only [not_or,Bool.not_eq_false,Decidable.not_not] at c
      obtain ⟨c1,c2⟩:=c
      obtain ⟨e1,e2⟩:=hear_ok r1 c1 r2
      rw [← c2,e1]
      exact hear_deaf e2 r2 (.inl rfl)
    unfold comesW
    rw [hb,if_pos rfl,hh,again,if_neg (by simp)]
    refine ⟨?_,?_,?_,?_,?_⟩<;>simp [setW,List.set_set]
  |false=>
   rw [hb,if_neg (by simp)] at k hy
   simp only [Bool.false_eq_true,if_false]
   split at k
   ·cases k
   ·rename_i p
    rw [if_neg p] at hy ⊢
    have hu:x.u=true:=by simpa using p
    simp only at hy ⊢
    rcases asked_cases hx hu hb hmr with q|⟨q1,q2,q3⟩|⟨q1,q2,A,e1,e2,e3,e4,e5⟩
    ·rw [q]
     rw [two x hx hm]
     unfold comesW
     rw [hb,if_neg (by simp),if_neg p,q]
     simp
    ·rw [q3] at hy ⊢
     obtain ⟨p1,p2,p3,p4,p5,p6,p7⟩:=post_same x ⟨true,m.w,m.s,zeroC,(lastH x.h m.w).a⟩
     generalize postW x ⟨true,m.w,m.s,zeroC,(lastH x.h m.w).a⟩=y at *
     rw [two y hy (p7 _ _ hm)]
     unfold comesW
     rw [hb,if_neg (by simp),if_neg (by rw [p3];exact p)]
     rcases asked_cases hy (by rw [p3];exact hu) hb hmr with r|⟨r1,r2,r3⟩|⟨r1,r2,B,f1,f2,f3,f4,f5⟩
     ·rw [r];exact ⟨rfl,rfl,rfl,rfl,by simp⟩
     ·rw [r3]
      obtain ⟨s1,s2,s3,s4,s5,s6,s7⟩:=post_same y ⟨true,m.w,m.s,zeroC,(lastH y.h m.w).a⟩
      exact ⟨rfl,s1,s2,s4,s6⟩
     ·rw [p1] at r1
      omega
    ·rw [e5] at hy ⊢
     have hst:=next_stands q2
     obtain ⟨p1,p2,p3,p4,p5,p6,p7⟩:=post_same {x with h:=(nextH x.h ⟨m.w,m.s,m.c⟩).1,d:=⟨textL (A++[⟨m.w,m.s,m.c⟩]),[]⟩} ⟨true,m.w,m.s,zeroC,(nextH x.h ⟨m.w,m.s,m.c⟩).2.1⟩
     generalize postW {x with h:=(nextH x.h ⟨m.w,m.s,m.c⟩).1,d:=⟨textL (A++[⟨m.w,m.s,m.c⟩]),[]⟩} ⟨true,m.w,m.s,zeroC,(nextH x.h ⟨m.w,m.s,m.c⟩).2.1⟩=y at *
     simp only at p1 p2 p3 p4 p7 hst
     rw [two y hy (p7 _ _ hm)]
     unfold comesW
     rw [hb,if_neg (by simp),if_neg (by rw [p3];exact p)]
     rcases asked_cases hy (by rw [p3];exact hu) hb hmr with r|⟨r1,r2,r3⟩|⟨r1,r2,B,f1,f2,f3,f4,f5⟩
     ·rw [r];exact ⟨rfl,rfl,rfl,rfl,by simp⟩
     ·rw [r3]
      obtain ⟨s1,s2,s3,s4,s5,s6,s7⟩:=post_same y ⟨true,m.w,m.s,zeroC,(lastH y.h m.w).a⟩
      exact ⟨rfl,s1,s2,s4,s6⟩
     ·rw [p1,hst.2.2] at r1
      simp only at r1
      omega
 ·simp at c
 ·simp at c
 ·simp at c
 ·simp at c
 ·simp at c
end Go.Proofs.YtnnngphfmclegaaGreatDoor
