/- The contract of hand.Check; no condition but that the argument reads as data and the package's table is as its text lays it. -/
import Derived.Test.YtabafikicbkkdaaGreatDoorSU20
import Derived.Deep.RegionHeld3
import Derived.Test.YtabafikicbkkdaaGreatDoorSU2
import Derived.Test.YtabafikicbkkdaaGreatDoorSU12
import Derived.Test.YtabafikicbkkdaaGreatDoorSU14
import Derived.Test.YtabafikicbkkdaaGreatDoorSU4
namespace Go.Proofs.YtabafikicbkkdaaGreatDoor
open Go.RowKit
set_option linter.unusedVariables false
set_option maxHeartbeats 4000000
set_option maxRecDepth 100000
set_option linter.unusedSimpArgs false
theorem jasked_c (h:NV) (gw:Int) (hgw:IntKind.i64.wrap ((h.gn:Int) + 1)=gw) (w:World):Calls Tryz.prog 72 #[h.v] w fun e w'=>e=.returned (.int .i64 (if h.w then gw else (h.gn:Int)))∧Below w.heap.size w w':=by
 have x0:=Lay.made w h.cells 62
 have bw:Below w.heap.size w (w.alloc (.cells h.cells.toArray 62)):=by (repeat first|exact bel0|assumption|refine bel1 ?_|refine bel2 ?_|refine bel3 ?_|refine belowT ?_ (by assumption)|refine bel5 ?_ (by simp;try omega))
 rw [show h.v=.agg h.cells.toArray from rfl] at *
 obtain ⟨s,v,⟨k,z,u,t,d⟩,ca,cn,cc,ga,gn,gc,G⟩:=h
 dsimp only [NV.cells] at *
 have c1:=x0.cell 1 _ rfl
 have c7:=x0.cell 7 _ rfl
 cases v
 ·go_enter Tryz.func72,Tryz.ntmps72
  go_wp2
  go_ret
  exact ⟨rfl,bw⟩
 ·go_enter Tryz.func72,Tryz.ntmps72
  go_wp2
  go_ret
  exact ⟨rfl,bw⟩
theorem JCheck_c (h:NV) (w:World) (hS:Shapes w) (hk:h.ok w):Calls Tryz.prog 52 #[h.v] w fun e w'=>e=.returned (.int .i64 (checkN h.p))∧Below w.heap.size w w':=by
 have HSC:=hide (fun w' (h1:Ints w' h.ca h.cn h.cc h.c.d)=>cmdSame_c h.ca none h.cn 0 h.cc 0 h.c zeroC w' h1 (Ints.nilSlice w'))
 have HCC:=hide (fun w' hS' (h1:Ints w' h.ca h.cn h.cc h.c.d)=>cmdCheck_c h.ca h.cn h.cc h.c w' hS' h1)
 have HC:Hid (checkN h.p=if inB h.s 0 40=false then 3 else if firstA (h.G.map AV.p)≠0 then firstA (h.G.map AV.p) else if formN h.p=false then 4 else if h.w then checkC h.c else 0):=hide rfl
 have HL:Hid ((h.G.map AV.p).length=h.gn):=hide (by rw [List.length_map];exact hk.g.len)
 have HF:Hid (formN h.p=if h.w then decide (h.s=(h.gn:Int) + 1) else decide (h.s=(h.gn:Int))&&sameC h.c zeroC):=hide (by
  unfold formN
  rw [← HL.out]
  rfl)
 have hmax:=hk.g.max
 have hle:=hk.g.le
 have x0:=Lay.made w h.cells 62
 have bw:Below w.heap.size w (w.alloc (.cells h.cells.toArray 62)):=by (repeat first|exact bel0|assumption|refine bel1 ?_|refine bel2 ?_|refine bel3 ?_|refine belowT ?_ (by assumption)|refine bel5 ?_ (by simp;try omega))
 have hok:=hk.below bw (Nat.le_refl _)
 generalize checkN _=r at *
 generalize formN _=fm at *
 generalize checkC _=cc0 at *
 generalize sameC _ _=sc at *
 rw [show h.v=.agg h.cells.toArray from rfl] at *
 obtain ⟨s,v,⟨k,z,u,t,d⟩,ca,cn,cc,ga,gn,gc,G⟩:=h
 dsimp only [NV.cells,cmdV,zeroC] at *
 have hSw:=hS.below bw
 cases hi:inB s 0 40
 ·have HI:=hide hi
  have c0:=x0.cell 0 _ rfl
  by_cases h0:s < 0
  ·clear hi
   go_enter Tryz.func52,Tryz.ntmps52
   go_wp2
   go_ret
   exact ⟨ret_int (by rw [HC.out,if_pos HI.out]),bw⟩
  ·have h4:(40:Int) < s:=by simp [inB] at hi;omega
   clear hi
   go_enter Tryz.func52,Tryz.ntmps52
   go_wp2
   go_ret
   exact ⟨ret_int (by rw [HC.out,if_pos HI.out]),bw⟩
 ·obtain ⟨gw,hgw,hcmp⟩:=len_more gn s (by omega) hi
  have HI:Hid (inB s 0 40=true):=hide hi
  have HCMP:=hide hcmp
  have h0:¬ s < 0:=by simp [inB] at hi;omega
  have h4:¬ (40:Int) < s:=by simp [inB] at hi;omega
  clear hi hcmp
  have c0:=x0.cell 0 _ rfl
  have c7:=x0.cell 7 _ rfl
  go_enter Tryz.func52,Tryz.ntmps52
  go_wp2_with fail
  generalize w.alloc (.cells #[.int .i64 s,.bool v,.int .i64 k,.int .i64 z,.int .i64 u,.int .i64 t,.slice ca cn cc,.slice ga gn gc] 62)=w1 at *
  clear c0 c7
  go_loopw [17] (fun i wr=>∃ j:Nat,j≤gn∧i=.int .i64 j∧firstA ((G.map AV.p).take j)=0∧Below w1.heap.size w1 wr) (fun i _=>gn - (intOf i).toNat)
  case atStart=>exact ⟨0,by omega,rfl,rfl,Below.refl _ _⟩
  case round=>
   obtain ⟨j,hj,rfl,hp,hbr⟩:=hrel
   have HP:=hide hp
   clear hp
   rename_i wr
   by_cases hlt:j < gn
   ·obtain ⟨b,off,y,rfl,hy,hyk,hblt,ky⟩:=hok.g.at hlt
    have iy:=AV.ok.below hyk hbr (Nat.le_refl _)
    have HS:=hide (fun w' h'=>DCheckAnswer_c y w' h')
    have hyp:(G.map AV.p)[j]?=some y.p:=by rw [List.getElem?_map,hy];rfl
    have HBAD:Hid (checkA y.p≠0→r=checkA y.p):=hide (fun e=>by
     have e1:=firstA_at hyp HP.out e
     rw [HC.out,if_neg (by simp [HI.out]),e1,if_pos e])
    have HNEXT:Hid (checkA y.p=0→firstA ((G.map AV.p).take (j + 1))=0):=hide (fun e=>firstA_step hyp HP.out e)
    clear hy hyp
    generalize checkA y.p=cl at *
    obtain ⟨e1,t1,a1,n1,c1,d1⟩:=y
    dsimp only [AV.v,AV.cells] at HS ky
    have x0':=keepc hbr (ky 0 _ rfl)
    have x1':=keepc hbr (ky 1 _ rfl)
    have x2':=keepc hbr (ky 2 _ rfl)
    rw [Nat.add_zero] at x0'
    clear ky
    have hlt':(j:Int) < (gn:Int):=by omega
    go_wp2_with fail
    refine (HS.out _ (AV.ok.below iy (B:=wr.heap.size) (by (repeat first|exact bel0|assumption|refine bel1 ?_|refine bel2 ?_|refine bel3 ?_|refine belowT ?_ (by assumption)|refine bel5 ?_ (by simp;try omega))) (Nat.le_refl _))).mono ?_
    rintro e w9 ⟨rfl,hb9⟩
    have b9:Below w1.heap.size w1 w9:=by (repeat first|exact bel0|assumption|refine bel1 ?_|refine bel2 ?_|refine bel3 ?_|refine belowT ?_ (by assumption)|refine bel5 ?_ (by simp;try omega))
    clear hb9
    cases h9:cl !=0
    ·go_wp2
     simp at h9
     exact ⟨⟨j + 1,by omega,by go_num,HNEXT.out h9,b9⟩,by simp [intOf];omega⟩
    ·go_wp2
     go_ret
     simp at h9
     exact ⟨ret_int (HBAD.out h9).symm,belowT bw b9⟩
   ·obtain rfl:j=gn:=by omega
    have hp:=HP.out
    rw [List.take_of_length_le (by rw [HL.out];omega)] at hp
    have HQ:Hid (r=if fm=false then 4 else if v then cc0 else 0):=hide (by rw [HC.out,if_neg (by simp [HI.out]),if_neg (by simp [hp])])
    clear hp
    have c0:=keepc hbr (x0.cell 0 _ rfl)
    have c1:=keepc hbr (x0.cell 1 _ rfl)
    have c2:=keepc hbr (x0.cell 2 _ rfl)
    have c3:=keepc hbr (x0.cell 3 _ rfl)
    have c4:=keepc hbr (x0.cell 4 _ rfl)
    have c5:=keepc hbr (x0.cell 5 _ rfl)
    have c6:=keepc hbr (x0.cell 6 _ rfl)
    have c7:=keepc hbr (x0.cell 7 _ rfl)
    replace hok:=hok.below hbr (Nat.le_refl _)
    replace bw:=belowT bw hbr
    replace hSw:=hSw.below hbr
    clear x0 hbr h0 h4
    have HASK:=hide (fun w'=>jasked_c ⟨s,v,⟨k,z,u,t,d⟩,ca,cn,cc,ga,j,gc,G⟩ gw hgw w')
    dsimp only [NV.v] at HASK
    obtain ⟨ak,hak⟩:∃ m:Int,(if v then gw else (j:Int))=m:=⟨_,rfl⟩
    rw [hak] at HASK
    have HAK:=hide hak
    have hci:=hok.c
    clear hgw hak
    go_upto_region 10 with fail
    go_region_held3 (fun w'=>w'.cell? ⟨w.heap.size,0,none⟩=some (.int .i64 s)∧w'.cell? ⟨w.heap.size,1,none⟩=some (.bool v)∧w'.cell? ⟨w.heap.size,2,none⟩=some (.int .i64 k)∧w'.cell? ⟨w.heap.size,3,none⟩=some (.int .i64 z)∧w'.cell? ⟨w.heap.size,4,none⟩=some (.int .i64 u)∧w'.cell? ⟨w.heap.size,5,none⟩=some (.int .i64 t)∧w'.cell? ⟨w.heap.size,6,none⟩=some (.slice ca cn cc)∧w'.cell? ⟨w.heap.size,7,none⟩=some (.slice ga j gc)) ((first|(go_simp;done)|(simp [*,World.cell?_alloc_at,World.cell?_alloc_past,World.cell?_alloc_some,World.cell?_setCell_far];done))) (first|(go_at_call 72;refine (HASK.out _).mono ?_;rintro e w5 ⟨rfl,hb5⟩;(have g0:=keepc hb5 (p:=⟨w.heap.size,0,none⟩) (u:=.int .i64 s) (by (first|(go_simp;done)|(simp [*,World.cell?_alloc_at,World.cell?_alloc_past,World.cell?_alloc_some,World.cell?_setCell_far];done))));(have g1:=keepc hb5 (p:=⟨w.heap.size,1,none⟩) (u:=.bool v) (by (first|(go_simp;done)|(simp [*,World.cell?_alloc_at,World.cell?_alloc_past,World.cell?_alloc_some,World.cell?_setCell_far];done))));(have g2:=keepc hb5 (p:=⟨w.heap.size,2,none⟩) (u:=.int .i64 k) (by (first|(go_simp;done)|(simp [*,World.cell?_alloc_at,World.cell?_alloc_past,World.cell?_alloc_some,World.cell?_setCell_far];done))));(have g3:=keepc hb5 (p:=⟨w.heap.size,3,none⟩) (u:=.int .i64 z) (by (first|(go_simp;done)|(simp [*,World.cell?_alloc_at,World.cell?_alloc_past,World.cell?_alloc_some,World.cell?_setCell_far];done))));(have g4:=keepc hb5 (p:=⟨w.heap.size,4,none⟩) (u:=.int .i64 u) (by (first|(go_simp;done)|(simp [*,World.cell?_alloc_at,World.cell?_alloc_past,World.cell?_alloc_some,World.cell?_setCell_far];done))));(have g5:=keepc hb5 (p:=⟨w.heap.size,5,none⟩) (u:=.int .i64 t) (by (first|(go_simp;done)|(simp [*,World.cell?_alloc_at,World.cell?_alloc_past,World.cell?_alloc_some,World.cell?_setCell_far];done))));(have g6:=keepc hb5 (p:=⟨w.heap.size,6,none⟩) (u:=.slice ca cn cc) (by (first|(go_simp;done)|(simp [*,World.cell?_alloc_at,World.cell?_alloc_past,World.cell?_alloc_some,World.cell?_setCell_far];done))));(have g7:=keepc hb5 (p:=⟨w.heap.size,7,none⟩) (u:=.slice ga j gc) (by (first|(go_simp;done)|(simp [*,World.cell?_alloc_at,World.cell?_alloc_past,World.cell?_alloc_some,World.cell?_setCell_far];done))))))
    have b5:Below wr.heap.size wr w5:=by (repeat first|exact bel0|assumption|refine bel1 ?_|refine bel2 ?_|refine bel3 ?_|refine belowT ?_ (by assumption)|refine bel5 ?_ (by simp;try omega))
    replace hci:=hci.below b5 (Nat.le_refl _)
    replace hSw:=hSw.below b5
    replace bw:=belowT bw b5
    clear b5 hb5 HASK c0 c1 c2 c3 c4 c5 c6 c7
    cases v
    ·obtain rfl:(j:Int)=ak:=HAK.out
     cases hs:s !=(j:Int)
     ·have hs':s=(j:Int):=by simpa using hs
      have HS':Hid (fm=sc):=hide (by rw [HF.out,if_neg (by simp)];simp [hs'])
      clear hs'
      go_wp2_with fail
      refine (HSC.out _ hci).mono ?_
      rintro e w9 ⟨rfl,hb9⟩
      cases sc
      ·go_wp2
       go_ret
       exact ⟨ret_int (by rw [HQ.out,HS'.out];rfl),belowT bw hb9⟩
      ·go_wp2
       go_ret
       exact ⟨ret_int (by rw [HQ.out,HS'.out];rfl),belowT bw hb9⟩
     ·have HS':Hid (fm=false):=hide (by rw [HF.out,if_neg (by simp)];simp at hs;simp [hs])
      go_wp2
      go_ret
      exact ⟨ret_int (by rw [HQ.out,HS'.out];rfl),bw⟩
    ·obtain rfl:gw=ak:=HAK.out
     cases hs:decide (s=(j:Int) + 1)
     ·have hs2:(s !=gw)=true:=by rw [HCMP.out,hs];rfl
      have HS':Hid (fm=false):=hide (by rw [HF.out,if_pos rfl];exact hs)
      clear hs
      go_wp2
      go_ret
      exact ⟨ret_int (by rw [HQ.out,HS'.out];rfl),bw⟩
     ·have hs2:(s !=gw)=false:=by rw [HCMP.out,hs];rfl
      have HS':Hid (fm=true):=hide (by rw [HF.out,if_pos rfl];exact hs)
      clear hs
      go_wp2_with fail
      refine (HCC.out _ hSw hci).mono ?_
      rintro e w9 ⟨rfl,hb9⟩
      go_wp2
      go_ret
      exact ⟨ret_int (by rw [HQ.out,HS'.out];rfl),belowT bw hb9⟩
end Go.Proofs.YtabafikicbkkdaaGreatDoor
namespace Go.Proofs.YtabafikicbkkdaaGreatDoor
open Go.RowKit
set_option linter.unusedVariables false
set_option maxHeartbeats 4000000
set_option maxRecDepth 100000
set_option linter.unusedSimpArgs false
theorem Lay.eight {w:World} {B:Nat} {a b c d e f g h:Value} (x:Lay w B [a,b,c,d,e,f,g,h]):w.cell? ⟨B,0,none⟩=some a∧w.cell? ⟨B,1,none⟩=some b∧w.cell? ⟨B,2,none⟩=some c∧w.cell? ⟨B,3,none⟩=some d∧w.cell? ⟨B,4,none⟩=some e∧w.cell? ⟨B,5,none⟩=some f∧w.cell? ⟨B,6,none⟩=some g∧w.cell? ⟨B,7,none⟩=some h:=
 ⟨x.cell 0 _ rfl,x.cell 1 _ rfl,x.cell 2 _ rfl,x.cell 3 _ rfl,x.cell 4 _ rfl,x.cell 5 _ rfl,x.cell 6 _ rfl,x.cell 7 _ rfl⟩
end Go.Proofs.YtabafikicbkkdaaGreatDoor
namespace Go.Proofs.YtabafikicbkkdaaGreatDoor
open Go.RowKit
set_option linter.unusedVariables false
set_option maxHeartbeats 4000000
set_option maxRecDepth 100000
set_option linter.unusedSimpArgs false
theorem MV.ok.below {w w':World} {m:MV} (h:m.ok w) {B:Nat} (hb:Below B w w') (hB:w.heap.size≤B):m.ok w':=⟨h.c.below hb hB,AV.ok.below h.x hb hB⟩
theorem wwithin_c (lo hi:Int) (w:World):Calls Tryz.prog 69 #[.int .i64 lo,.int .i64 hi] w fun e w'=>∃ P Q,e=.returned (.func (Fn.func 97) #[] #[.pointer (some ⟨P,0,none⟩),.pointer (some ⟨Q,0,none⟩)])∧Lay w' P [.int .i64 lo]∧Lay w' Q [.int .i64 hi]∧Below w.heap.size w w':=by
 obtain ⟨x0,x1,bw⟩:=two_boxes w [.int .i64 lo] [.int .i64 hi] 3 3
 go_enter Tryz.func69,Tryz.ntmps69
 go_wp2
 go_ret
 exact ⟨_,_,rfl,x0,x1,bw⟩
theorem wwithin1_c (v lo hi:Int) (P Q:Nat) (w:World) (hP:Lay w P [.int .i64 lo]) (hQ:Lay w Q [.int .i64 hi]):Calls Tryz.prog 97 #[.int .i64 v,.pointer (some ⟨P,0,none⟩),.pointer (some ⟨Q,0,none⟩)] w fun e w'=>e=.returned (.bool (inB v lo hi))∧w'=w:=by
 have c0:=hP.cell 0 _ rfl
 have c1:=hQ.cell 0 _ rfl
 go_enter Tryz.func97,Tryz.ntmps97
 go_wp2
 all_goals (go_ret;exact ⟨ret_bool (by unfold inB;rw [Bool.eq_iff_iff];simp;try omega),rfl⟩)
theorem checkMail_c (m:MV) (w:World) (hE:Env w) (hm:m.ok w):Calls Tryz.prog 49 #[m.v] w fun e w'=>e=.returned (.int .i64 (checkM m.p))∧Below w.heap.size w w':=by
 have HC:Hid (checkM m.p=if inB m.w 0 2=false∨inB m.s 1 40=false then 3 else if m.b then (if sameC m.c zeroC=false then 4 else checkA m.x.p) else (if sameA m.x.p zeroA=false then 4 else checkC m.c)):=hide rfl
 have HSC:=hide (fun w' h'=>cmdSame_c m.ca none m.cn 0 m.cc 0 m.c zeroC w' h' (Ints.nilSlice w'))
 have HCC:=hide (fun w' hS' h'=>cmdCheck_c m.ca m.cn m.cc m.c w' hS' h')
 have HSA:=hide (fun w' h'=>psameA_c m.x (AV.err 0) w' h' (AV.err_ok w' 0))
 have HCA:=hide (fun w' h'=>DCheckAnswer_c m.x w' h')
 rw [show (AV.err 0).p=zeroA from rfl] at HSA
 have x0:=Lay.made w m.cells 103
 have bw:=belowA (Below.refl _ w) (.cells m.cells.toArray 103)
 replace hm:=hm.below bw (Nat.le_refl _)
 replace hE:=hE.below bw
 generalize checkM m.p=r at *
 generalize checkA m.x.p=ca at *
 generalize sameA m.x.p zeroA=sa at *
 generalize sameC m.c zeroC=sc at *
 generalize checkC m.c=cc at *
 dsimp only [MV.v,MV.cells,AV.v,AV.err,cmdV,zeroC] at *
 go_enter Tryz.func49,Tryz.ntmps49
 go_wp2_with fail
 generalize w.alloc (.cells [.bool m.b,.int .i64 m.w,.int .i64 m.s,.int .i64 m.c.k,.int .i64 m.c.z,.int .i64 m.c.n,.int .i64 m.c.at',.slice m.ca m.cn m.cc,.int .i64 m.x.e,.int .i64 m.x.t,.slice m.x.a m.x.n m.x.c].toArray 103)=w1 at *
 refine (wwithin_c 0 2 _).mono ?_
 rintro e w2 ⟨P1,Q1,rfl,p1,q1,hb2⟩
 replace x0:=x0.below hb2
 replace hm:=hm.below hb2 (Nat.le_refl _)
 replace hE:=hE.below hb2
 replace bw:=belowT bw hb2
 clear hb2
 go_wp2_with fail
 refine (wwithin_c 1 40 _).mono ?_
 rintro e w3 ⟨P2,Q2,rfl,p2,q2,hb2⟩
 replace x0:=x0.below hb2
 replace p1:=p1.below hb2
 replace q1:=q1.below hb2
 replace hm:=hm.below hb2 (Nat.le_refl _)
 replace hE:=hE.below hb2
 replace bw:=belowT bw hb2
 clear hb2
 have c0:=x0.cell 0 _ rfl
 have c1:=x0.cell 1 _ rfl
 have c2:=x0.cell 2 _ rfl
 have c3:=x0.cell 3 _ rfl
 have c4:=x0.cell 4 _ rfl
 have c5:=x0.cell 5 _ rfl
 have c6:=x0.cell 6 _ rfl
 have c7:=x0.cell 7 _ rfl
 have c8:=x0.cell 8 _ rfl
 have c9:=x0.cell 9 _ rfl
 have c10:=x0.cell 10 _ rfl
 go_wp2_with fail
 refine (wwithin1_c m.w 0 2 P1 Q1 _ p1 q1).mono ?_
 rintro e w4 ⟨rfl,rfl⟩
 cases h1:inB m.w 0 2
 ·go_wp2
  go_ret
  exact ⟨ret_int (by rw [HC.out,if_pos (.inl h1)]),bw⟩
 ·go_wp2_with fail
  refine (wwithin1_c m.s 1 40 P2 Q2 _ p2 q2).mono ?_
  rintro e w5 ⟨rfl,rfl⟩
  cases h2:inB m.s 1 40
  ·go_wp2
   go_ret
   exact ⟨ret_int (by rw [HC.out,if_pos (.inr h2)]),bw⟩
  ·rw [if_neg (by simp [h1,h2])] at HC
   clear p1 q1 p2 q2
   cases hb:m.b
   ·rw [hb] at HC c0
    go_wp2_with fail
    refine (HSA.out _ hm.x).mono ?_
    rintro e w6 ⟨rfl,hb6⟩
    replace x0:=x0.below hb6
    replace hm:=hm.below hb6 (Nat.le_refl _)
    replace hE:=hE.below hb6
    replace bw:=belowT bw hb6
    clear hb6 c0 c1 c2 c8 c9 c10
    have c3:=x0.cell 3 _ rfl
    have c4:=x0.cell 4 _ rfl
    have c5:=x0.cell 5 _ rfl
    have c6:=x0.cell 6 _ rfl
    have c7:=x0.cell 7 _ rfl
    cases sa
    ·go_wp2
     go_ret
     exact ⟨ret_int (by rw [HC.out];simp),bw⟩
    ·go_wp2_with fail
     refine (HCC.out _ hE.shp hm.c).mono ?_
     rintro e w7 ⟨rfl,hb7⟩
     go_wp2
     go_ret
     exact ⟨ret_int (by rw [HC.out];simp),belowT bw hb7⟩
   ·rw [hb] at HC c0
    go_wp2_with fail
    refine (HSC.out _ hm.c).mono ?_
    rintro e w6 ⟨rfl,hb6⟩
    replace x0:=x0.below hb6
    replace hm:=hm.below hb6 (Nat.le_refl _)
    replace bw:=belowT bw hb6
    clear hb6 c0 c1 c2 c3 c4 c5 c6 c7 c8 c9 c10
    have c8:=x0.cell 8 _ rfl
    have c9:=x0.cell 9 _ rfl
    have c10:=x0.cell 10 _ rfl
    cases sc
    ·go_wp2
     go_ret
     exact ⟨ret_int (by rw [HC.out];simp),bw⟩
    ·go_wp2_with fail
     refine (HCA.out _ hm.x).mono ?_
     rintro e w7 ⟨rfl,hb7⟩
     go_wp2
     go_ret
     exact ⟨ret_int (by rw [HC.out];simp),belowT bw hb7⟩
theorem firstMs_c (a:Option Addr) (n c:Nat) (X:List MV) (w:World) (hE:Env w) (h:Rows' mailK w a n c X) (hF:∀ x∈X,∀ w':World,Env w'→mailK.ok w' x→Calls Tryz.prog 49 #[x.v] w' fun e w''=>e=.returned (.int .i64 (checkM x.p))∧Below w'.heap.size w' w'') :
  Calls Tryz.prog 48 #[.slice a n c,.func (Fn.func 49) #[] #[]] w fun e w'=>e=.returned (.int .i64 (firstM (X.map MV.p)))∧Below w.heap.size w w':=by
 have hlen:=hide h.len
 have hmax:=h.max
 have hle:=h.le
 have HF:=hide hF
 clear hF
 go_enter Tryz.func48,Tryz.ntmps48
 go_wp2
 go_loopw [10] (fun i wr=>∃ wz:World,wz=wr∧∃ (j:Nat),j≤n∧i=.int .i64 (j:Nat)∧firstM (X.map MV.p)=firstM ((X.drop j).map MV.p)∧Below w.heap.size w wz) (fun i _=>n - (intOf i).toNat)
 case atStart=>exact ⟨_,rfl,0,by omega,rfl,rfl,Below.refl _ _⟩
 case round=>
  obtain ⟨wr,rfl,j,hj,rfl,hp,hbr⟩:=hrel
  have HP:=hide hp
  clear hp
  by_cases hlt:j < n
  ·obtain ⟨b,off,x,rfl,hx,hxk,hb,kx⟩:=h.at hlt
   have HX:Hid (firstM ((X.drop j).map MV.p)=if checkM x.p≠0 then checkM x.p else firstM ((X.drop (j + 1)).map MV.p)):=hide (by
    obtain ⟨g1,g2⟩:=List.getElem?_eq_some_iff.1 hx
    rw [List.drop_eq_getElem_cons g1,g2,List.map_cons]
    rfl)
   have HW:=hide (HF.out x (List.mem_of_getElem? hx))
   have hxr:=mailK.below hxk hbr (Nat.le_refl _)
   have LX:=MV.lay (b:=b) (o:=off + j * 11) (fun i v h=>keepc hbr (kx i v h))
   have hlt':(j:Int) < (n:Int):=by omega
   have hEr:=hE.below hbr
   clear hx kx hxk
   generalize checkM x.p=ck at *
   dsimp only [MV.v] at HW
   obtain ⟨c0,c1,c2,c3,c4,c5,c6,c7,c8,c9,c10⟩:=LX
   go_wp2_with fail
   refine (HW.out _ (hEr.below (by (repeat first|exact bel0|assumption|refine bel1 ?_|refine bel2 ?_|refine bel3 ?_|refine belowT ?_ (by assumption)|refine bel5 ?_ (by simp;try omega)))) (mailK.below hxr (B:=wr.heap.size) (by (repeat first|exact bel0|assumption|refine bel1 ?_|refine bel2 ?_|refine bel3 ?_|refine belowT ?_ (by assumption)|refine bel5 ?_ (by simp;try omega))) (Nat.le_refl _))).mono ?_
   rintro e w2 ⟨rfl,hb2⟩
   have b2:Below wr.heap.size wr w2:=by (repeat first|exact bel0|assumption|refine bel1 ?_|refine bel2 ?_|refine bel3 ?_|refine belowT ?_ (by assumption)|refine bel5 ?_ (by simp;try omega))
   have bw2:=belowT hbr b2
   clear hb2 b2 HW hxr hEr c0 c1 c2 c3 c4 c5 c6 c7 c8 c9 c10
   cases h0:ck !=0
   ·go_wp2
    exact ⟨⟨_,rfl,j + 1,by omega,by go_num,by rw [HP.out,HX.out,if_neg (by simpa using h0)],bw2⟩,by simp [intOf];omega⟩
   ·go_wp2
    go_ret
    exact ⟨ret_int (by rw [HP.out,HX.out,if_pos (by simpa using h0)]),bw2⟩
  ·obtain rfl:j=n:=by omega
   go_wp2
   go_ret
   exact ⟨ret_int (by rw [HP.out,List.drop_eq_nil_of_le (by rw [hlen.out];omega)];rfl),hbr⟩
theorem firstNs_c (a:Option Addr) (n c:Nat) (X:List NV) (w:World) (hE:Env w) (h:Rows' handK w a n c X) (hF:∀ x∈X,∀ w':World,Env w'→handK.ok w' x→Calls Tryz.prog 52 #[x.v] w' fun e w''=>e=.returned (.int .i64 (checkN x.p))∧Below w'.heap.size w' w'') :
  Calls Tryz.prog 51 #[.slice a n c,.func (Fn.func 52) #[] #[]] w fun e w'=>e=.returned (.int .i64 (firstN (X.map NV.p)))∧Below w.heap.size w w':=by
 have hlen:=hide h.len
 have hmax:=h.max
 have hle:=h.le
 have HF:=hide hF
 clear hF
 go_enter Tryz.func51,Tryz.ntmps51
 go_wp2
 go_loopw [10] (fun i wr=>∃ wz:World,wz=wr∧∃ (j:Nat),j≤n∧i=.int .i64 (j:Nat)∧firstN (X.map NV.p)=firstN ((X.drop j).map NV.p)∧Below w.heap.size w wz) (fun i _=>n - (intOf i).toNat)
 case atStart=>exact ⟨_,rfl,0,by omega,rfl,rfl,Below.refl _ _⟩
 case round=>
  obtain ⟨wr,rfl,j,hj,rfl,hp,hbr⟩:=hrel
  have HP:=hide hp
  clear hp
  by_cases hlt:j < n
  ·obtain ⟨b,off,x,rfl,hx,hxk,hb,kx⟩:=h.at hlt
   have HX:Hid (firstN ((X.drop j).map NV.p)=if checkN x.p≠0 then checkN x.p else firstN ((X.drop (j + 1)).map NV.p)):=hide (by
    obtain ⟨g1,g2⟩:=List.getElem?_eq_some_iff.1 hx
    rw [List.drop_eq_getElem_cons g1,g2,List.map_cons]
    rfl)
   have HW:=hide (HF.out x (List.mem_of_getElem? hx))
   have hxr:=handK.below hxk hbr (Nat.le_refl _)
   have LX:=NV.lay (b:=b) (o:=off + j * 8) (fun i v h=>keepc hbr (kx i v h))
   have hlt':(j:Int) < (n:Int):=by omega
   have hEr:=hE.below hbr
   clear hx kx hxk
   generalize checkN x.p=ck at *
   dsimp only [NV.v] at HW
   obtain ⟨c0,c1,c2,c3,c4,c5,c6,c7⟩:=LX
   go_wp2_with fail
   refine (HW.out _ (hEr.below (by (repeat first|exact bel0|assumption|refine bel1 ?_|refine bel2 ?_|refine bel3 ?_|refine belowT ?_ (by assumption)|refine bel5 ?_ (by simp;try omega)))) (handK.below hxr (B:=wr.heap.size) (by (repeat first|exact bel0|assumption|refine bel1 ?_|refine bel2 ?_|refine bel3 ?_|refine belowT ?_ (by assumption)|refine bel5 ?_ (by simp;try omega))) (Nat.le_refl _))).mono ?_
   rintro e w2 ⟨rfl,hb2⟩
   have b2:Below wr.heap.size wr w2:=by (repeat first|exact bel0|assumption|refine bel1 ?_|refine bel2 ?_|refine bel3 ?_|refine belowT ?_ (by assumption)|refine bel5 ?_ (by simp;try omega))
   have bw2:=belowT hbr b2
   clear hb2 b2 HW hxr hEr c0 c1 c2 c3 c4 c5 c6 c7
   cases h0:ck !=0
   ·go_wp2
    exact ⟨⟨_,rfl,j + 1,by omega,by go_num,by rw [HP.out,HX.out,if_neg (by simpa using h0)],bw2⟩,by simp [intOf];omega⟩
   ·go_wp2
    go_ret
    exact ⟨ret_int (by rw [HP.out,HX.out,if_pos (by simpa using h0)]),bw2⟩
  ·obtain rfl:j=n:=by omega
   go_wp2
   go_ret
   exact ⟨ret_int (by rw [HP.out,List.drop_eq_nil_of_le (by rw [hlen.out];omega)];rfl),hbr⟩
end Go.Proofs.YtabafikicbkkdaaGreatDoor
