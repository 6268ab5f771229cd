/- The contracts of hall.Check and of the question that behind makes; no condition but that the arguments read as data, and where a right hall is said so. -/
import Derived.Test.YtabafikicbkkdaaGreatDoorSV32
import Derived.Test.YtabafikicbkkdaaGreatDoorSV2
import Derived.Test.YtabafikicbkkdaaGreatDoorSV26
import Derived.Test.YtabafikicbkkdaaGreatDoorSV22
import Derived.Test.YtabafikicbkkdaaGreatDoorSV10
import Derived.Deep.RegionHeld3
import Derived.Test.YtabafikicbkkdaaGreatDoorSV11
namespace Go.Proofs.YtabafikicbkkdaaGreatDoor
open Go.RowKit
set_option linter.unusedVariables false
set_option maxHeartbeats 4000000
set_option maxRecDepth 100000
set_option linter.unusedSimpArgs false
theorem HCheck_c (h:HV) (w:World) (hk:h.ok w):Calls Tryz.prog 78 #[h.v] w fun e w'=>e=.returned (.int .i64 (checkH h.p))∧Below w.heap.size w w':=by
 obtain ⟨d,a,n,c,L⟩:=h
 obtain ⟨hd,hl⟩:=hk
 have HD:=hide (fun w' (h':d.ok w')=>DCheck_c d w' h')
 have HC:Hid (checkH ⟨d.p,L.map LV.p⟩=if checkD d.p≠0 then checkD d.p else if (L.map LV.p).length≠3 then 4 else firstL (L.map LV.p)):=hide rfl
 have HL:Hid ((L.map LV.p).length=n):=hide (by rw [List.length_map];exact hl.len)
 rw [HL.out] at HC
 obtain ⟨za,zn,zc,Z,ka,kn,kc,bk,bh,bt⟩:=d
 dsimp only [HV.v,HV.p,DV.v] at *
 generalize checkD _=cd at *
 generalize hr:checkH _=r at *
 clear hr
 have hmax:=hl.max
 have hle:=hl.le
 go_enter Tryz.func78,Tryz.ntmps78
 go_wp2_with fail
 refine (HD.out _ (hd.below (B:=w.heap.size) (by (repeat first|exact bel0|assumption|refine bel1 ?_|refine bel2 ?_|refine bel3 ?_|refine belowT ?_ (by assumption)|refine bel5 ?_ (by simp;try omega))) (Nat.le_refl _))).mono ?_
 rintro e w1 ⟨rfl,hb1⟩
 have c4:=keepc hb1 (p:=⟨w.heap.size,4,none⟩) (u:=.slice a n c) (by go_simp)
 have bw:Below w.heap.size w w1:=by (repeat first|exact bel0|assumption|refine bel1 ?_|refine bel2 ?_|refine bel3 ?_|refine belowT ?_ (by assumption)|refine bel5 ?_ (by simp;try omega))
 clear hb1
 cases h0:cd !=0
 ·by_cases h3:n=3
  ·subst h3
   obtain ⟨b,off,rfl,hlt,hrow⟩:=hl.row.resolve_left (by omega)
   go_wp2_with fail
   go_loopw [20] (fun i wr=>∃ k:Nat,k≤3∧i=.int .i64 k∧firstL ((L.map LV.p).take k)=0∧Below w.heap.size w wr) (fun i _=>3 - (intOf i).toNat)
   case atStart=>exact ⟨0,by omega,rfl,rfl,bw⟩
   case round=>
    clear bw c4
    obtain ⟨k,hk,rfl,hp,hbr⟩:=hrel
    have HP:=hide hp
    clear hp
    rename_i wr
    by_cases hlt3:k < 3
    ·obtain ⟨y,hy⟩:∃ z,L[k]?=some z:=⟨L[k]'(by rw [hl.len];exact hlt3),by simp⟩
     have iy:=LV.ok.below (hl.ok y (List.mem_of_getElem? hy)) hbr (Nat.le_refl _)
     have HS:=hide (fun w' h'=>hcheckLast_c y w' h')
     have HY:Hid ((L.map LV.p)[k]?=some y.p):=hide (by rw [List.getElem?_map,hy];rfl)
     have ky:=hrow k y hy
     clear hy
     generalize hcl:checkL y.p=cl at *
     have HCL:=hide hcl
     clear hcl
     obtain ⟨s1,⟨e1,t1,a1,n1,c1,d1⟩⟩:=y
     dsimp only [LV.v] at HS
     have x0:=keepc hbr (ky 0 _ rfl)
     have x1:=keepc hbr (ky 1 _ rfl)
     have x2:=keepc hbr (ky 2 _ rfl)
     have x3:=keepc hbr (ky 3 _ rfl)
     rw [Nat.add_zero] at x0
     clear ky
     have hlt':(k:Int) < 3:=by omega
     go_wp2_with fail
     refine (HS.out _ (LV.ok.below iy (B:=wr.heap.size) (by (repeat first|exact bel0|assumption|refine bel1 ?_|refine bel2 ?_|refine bel3 ?_|refine belowT ?_ (by assumption)|refine bel5 ?_ (by simp;try omega))) (Nat.le_refl _))).mono ?_
     rintro e w9 ⟨rfl,hb9⟩
     have b9:Below w.heap.size w w9:=by (repeat first|exact bel0|assumption|refine bel1 ?_|refine bel2 ?_|refine bel3 ?_|refine belowT ?_ (by assumption)|refine bel5 ?_ (by simp;try omega))
     clear hb9
     cases h9:cl !=0
     ·go_wp2
      simp at h9
      exact ⟨⟨k + 1,by omega,by go_num,firstL_step HY.out HP.out (by rw [HCL.out];exact h9),b9⟩,by simp [intOf];omega⟩
     ·go_wp2
      go_ret
      simp at h9 h0
      exact ⟨ret_int (by rw [HC.out,if_neg (by simp [h0]),if_neg (by simp),firstL_at HY.out HP.out (by rw [HCL.out];exact h9),HCL.out]),b9⟩
    ·obtain rfl:k=3:=by omega
     have hp:=HP.out
     rw [List.take_of_length_le (by rw [HL.out];omega)] at hp
     have HQ:=hide hp
     clear hp
     go_wp2
     go_ret
     simp at h0
     exact ⟨ret_int (by rw [HC.out,if_neg (by simp [h0]),if_neg (by simp),HQ.out]),hbr⟩
  ·have h3':((n:Int) !=3)=true:=by simp;omega
   go_wp2
   go_ret
   simp at h0
   exact ⟨ret_int (by rw [HC.out,if_neg (by simp [h0]),if_pos h3]),bw⟩
 ·go_wp2
  go_ret
  simp at h0
  exact ⟨ret_int (by rw [HC.out,if_pos h0]),bw⟩
theorem behind_c (h:HV) (m:Int) (w:World):Calls Tryz.prog 58 #[h.v,.int .i64 m] w fun e w'=>
  e=.returned (.func (Fn.func 80) #[] #[.pointer (some ⟨w.heap.size,0,none⟩),.pointer (some ⟨w.heap.size + 1,0,none⟩)])∧Lay w' w.heap.size h.cells∧Lay w' (w.heap.size + 1) [.int .i64 m]∧Below w.heap.size w w':=by
 obtain ⟨⟨za,zn,zc,Z,ka,kn,kc,bk,bh,bt⟩,a,n,c,L⟩:=h
 dsimp only [HV.v,HV.cells]
 go_enter Tryz.func58,Tryz.ntmps58
 go_wp2
 go_ret
 exact ⟨rfl,(Lay.made w _ 33).below (belowA (Below.refl _ _) _),Lay.made1 w _ [.int .i64 m] 3,by (repeat first|exact bel0|assumption|refine bel1 ?_|refine bel2 ?_|refine bel3 ?_|refine belowT ?_ (by assumption)|refine bel5 ?_ (by simp;try omega))⟩
theorem behind1_c (h:HV) (r:RV) (m:Int) (G M j:Nat) (w:World) (hk:h.ok w) (hG:Lay w G h.cells) (hM:Lay w M [.int .i64 m]) (h3:h.n=3) (hj:r.p.w=(j:Int)) (hj3:j < 3) (hm:0≤m∧m≤1) (hs:∀ y∈h.L,0≤y.s∧y.s≤40) :
  Calls Tryz.prog 80 #[r.v,.pointer (some ⟨G,0,none⟩),.pointer (some ⟨M,0,none⟩)] w fun e w'=>e=.returned (.bool (r.p.s==(lastH h.p j).s + m))∧Below w.heap.size w w':=by
 obtain ⟨b,off,y,ha,hy,_,hc⟩:=hk.l.at (i:=j) (by omega)
 have hys:=hs y (List.mem_of_getElem? hy)
 have HL:Hid (lastH h.p j=y.p):=hide (by simp [lastH,HV.p,List.getD,hy])
 have c0:=past1 (hc 0 _ rfl)
 rw [Nat.add_zero] at c0
 have g4:=past1 (hG.cell 4 _ rfl)
 have m0:=past1 (hM.cell 0 _ rfl)
 have hw:IntKind.i64.wrap (y.s + m)=y.s + m:=IntWalk.i64_in _ (by omega)
 clear hc
 rw [HL.out]
 obtain ⟨⟨q,s,⟨k1,z1,u1,t1,d1⟩⟩,ra,rn,rc⟩:=r
 dsimp only at hj
 subst hj
 obtain ⟨⟨za,zn,zc,Z,ka,kn,kc,bk,bh,bt⟩,a,n,c,L⟩:=h
 dsimp only [RV.v,LV.p] at *
 subst ha h3
 obtain ⟨ys,yx⟩:=y
 dsimp only at *
 have hj':(j:Int) < 3:=by omega
 have hj0:¬ ((j:Int) < 0):=by omega
 go_enter Tryz.func80,Tryz.ntmps80
 go_upto_region 1 with fail
 go_region
 go_wp2
 go_ret
 exact ⟨rfl,by (repeat first|exact bel0|assumption|refine bel1 ?_|refine bel2 ?_|refine bel3 ?_|refine belowT ?_ (by assumption)|refine bel5 ?_ (by simp;try omega))⟩
end Go.Proofs.YtabafikicbkkdaaGreatDoor
namespace Go.Proofs.YtabafikicbkkdaaGreatDoor
open Go.RowKit
set_option linter.unusedVariables false
set_option maxHeartbeats 4000000
set_option maxRecDepth 100000
set_option linter.unusedSimpArgs false
def LV.from (B:Nat) (y:LV):Prop:=∀ R,R < B→y.off R
theorem LV.from.off {B R:Nat} {y:LV} (h:y.from B) (hR:R < B):y.off R:=h R hR
theorem LV.from.mono {B B':Nat} {y:LV} (h:y.from B) (hb:B'≤B):y.from B':=fun R hR=>h R (by omega)
structure MineL (w:World) (g:Nat) (L:List LV):Prop where
 lay:Lay w g (lcells L)
 ok:∀ y∈L,y.ok w
 new:∀ y∈L,y.from (g + 1)
theorem MineL.below {w w':World} {g:Nat} {L:List LV} (h:MineL w g L) (hb:Below w.heap.size w w'):MineL w' g L:=⟨h.lay.below hb,fun y hy=>(h.ok y hy).below hb (Nat.le_refl _),h.new⟩
theorem MineL.far {w:World} {g:Nat} {L:List LV} (h:MineL w g L) {w':World} {R:Nat} (hb:ButI R w w') (hR:R < g):MineL w' g L:=
 ⟨h.lay.butI hb (by omega),fun y hy=>(h.ok y hy).but hb.but ((h.new y hy).off (by omega)),h.new⟩
theorem MineL.set {w:World} {g:Nat} {L:List LV} (h:MineL w g L) {i:Nat} (hi:i < L.length) {y:LV} (hy:y.ok w) (hn:y.from (g + 1)) :
  MineL ((((w.setCell ⟨g,i * 4,none⟩ (.int .i64 y.s)).setCell ⟨g,i * 4 + 1,none⟩ (.int .i64 y.x.e)).setCell ⟨g,i * 4 + 2,none⟩ (.int .i64 y.x.t)).setCell ⟨g,i * 4 + 3,none⟩ (.slice y.x.a y.x.n y.x.c)) g (L.set i y):=by
 have hb:=((((But.refl g w).step (i * 4) (.int .i64 y.s)).step (i * 4 + 1) (.int .i64 y.x.e)).step (i * 4 + 2) (.int .i64 y.x.t)).step (i * 4 + 3) (.slice y.x.a y.x.n y.x.c)
 refine ⟨by rw [← lcells_set L i y hi];exact (((h.lay.set _ _).set _ _).set _ _).set _ _,fun z hz=>?_,fun z hz=>?_⟩
 ·rcases List.mem_or_eq_of_mem_set hz with hz|rfl
  ·exact (h.ok z hz).but hb ((h.new z hz).off (by omega))
  ·exact hy.but hb (hn.off (by omega))
 ·rcases List.mem_or_eq_of_mem_set hz with hz|rfl
  ·exact h.new z hz
  ·exact hn
theorem MineL.lasts {w:World} {g:Nat} {L:List LV} (h:MineL w g L) {n:Nat} (hn:L.length=n) (hm:n≤9223372036854775807):Lasts w (some ⟨g,0,none⟩) n n L:=Lasts.of_lay h.lay h.ok hn hm
theorem hall_right {h:HV} {w:World} (hk:h.ok w) (hc:checkH h.p=0):checkD h.d.p=0∧h.n=3∧(∀ y∈h.L,(0≤y.s∧y.s≤40)∧y.x.n≤8)∧h.d.kn=3:=by
 obtain ⟨h1,h2,h3⟩:=checkH_ok hc
 have h1':checkD h.d.p=0:=h1
 refine ⟨h1',?_,fun y hy=>?_,?_⟩
 ·have:=hk.l.len
  simp only [HV.p,List.length_map] at h2
  omega
 ·obtain ⟨g1,_,g3,_⟩:=checkL_facts (h3 y.p (by simp only [HV.p];exact List.mem_map.2 ⟨y,hy,rfl⟩))
  have e:=(hk.l.ok y hy).len
  exact ⟨g1,by rw [← e];exact g3⟩
 ·have e:=hk.d.k.len
  obtain ⟨x,y,z,hh⟩:=checkB_ok (checkD_ok h1').2
  have e2:=hh.1
  dsimp only [DV.p] at e2
  rw [e2] at e
  simpa using e.symm
theorem hwhole_c (h:HV) (w:World) (hk:h.ok w) (hc:checkH h.p=0) :
  Calls Tryz.prog 59 #[h.v] w fun e w'=>(∃ (d':DV) (g:Nat) (L':List LV),e=.returned (HV.v ⟨d',some ⟨g,0,none⟩,3,3,L'⟩)∧d'.ok w'∧MineL w' g L'∧L'.length=3∧d'.new w.heap.size∧d'.off g∧w.heap.size≤g∧d'.p=h.d.p∧L'.map LV.p=h.L.map LV.p)∧Below w.heap.size w w':=by
 obtain ⟨hcd,hn3,hys,hkn⟩:=hall_right hk hc
 obtain ⟨h1,h2,h3⟩:=desk_small hk.d hcd
 refine (phall_c h w hk h1 h2 h3 (by omega) (fun y hy=>by have:=(hys y hy).2;omega)).mono ?_
 rintro e w' ⟨⟨d',g,L',rfl,k1,k2,k3,k4,k5,k6,k7,k8,k9⟩,k10⟩
 rw [hn3] at k3 ⊢
 exact ⟨⟨d',g,L',rfl,k1,⟨k2.lay,k2.ok,k9⟩,k3,k4,k5,k6,k7,k8⟩,k10⟩
end Go.Proofs.YtabafikicbkkdaaGreatDoor
namespace Go.Proofs.YtabafikicbkkdaaGreatDoor
open Go.RowKit
set_option linter.unusedVariables false
set_option maxHeartbeats 4000000
set_option maxRecDepth 100000
set_option linter.unusedSimpArgs false
def nextE (h:PH) (r:PR):Int:=if checkH h≠0 then checkH h else if checkR r≠0 then checkR r else if r.s=(lastH h r.w).s∨r.s=(lastH h r.w).s + 1 then 0 else 6
theorem nextE_eq (h:PH) (r:PR):(nextH h r).2.2=nextE h r:=by
 unfold nextH nextE
 split
 ·rfl
 ·split
  ·rfl
  ·split
   ·rename_i e;rw [if_pos (.inl e)]
   ·rename_i e
    split
    ·rename_i f
     rw [if_neg (by rintro (q|q);exact e q;exact f q)]
    ·rename_i f
     rw [if_pos (.inr (by simpa using f))]
theorem checkNext_c (h:HV) (r:RV) (w:World) (hS:Shapes w) (hk:h.ok w) (hr:r.ok w):Calls Tryz.prog 57 #[h.v,r.v] w fun e w'=>e=.returned (.int .i64 (nextE h.p r.p))∧Below w.heap.size w w':=by
 have H1:=hide (fun w' (h':h.ok w')=>HCheck_c h w' h')
 have H2:=hide (fun w' (hS':Shapes w') (h':r.ok w')=>NCheck_c r w' hS' h')
 have HE:Hid (nextE h.p r.p=if checkH h.p≠0 then checkH h.p else if checkR r.p≠0 then checkR r.p else if r.p.s=(lastH h.p r.p.w).s∨r.p.s=(lastH h.p r.p.w).s + 1 then 0 else 6):=hide rfl
 have HR:Hid (checkH h.p=0→h.n=3∧∀ y∈h.L,0≤y.s∧y.s≤40):=hide (fun hc=>⟨(hall_right hk hc).2.1,fun y hy=>((hall_right hk hc).2.2.1 y hy).1⟩)
 have HW:Hid (checkR r.p=0→∃ j:Nat,r.p.w=j∧j < 3):=hide rec_who
 have H5:=hide (fun m w'=>behind_c h m w')
 have H6:=hide (fun m G M j w'=>behind1_c h r m G M j w')
 have hkr:=And.intro hk hr
 have HK:=hide hkr
 clear hkr hk hr
 generalize nextE h.p r.p=ne at *
 generalize checkH h.p=ch at *
 generalize checkR r.p=cr at *
 have xh:=(Lay.made w h.cells 33).below (belowA (Below.refl _ _) (.cells r.cells.toArray 52))
 have xr:=Lay.made1 w (.cells h.cells.toArray 33) r.cells 52
 have bw:Below w.heap.size w ((w.alloc (.cells h.cells.toArray 33)).alloc (.cells r.cells.toArray 52)):=by (repeat first|exact bel0|assumption|refine bel1 ?_|refine bel2 ?_|refine bel3 ?_|refine belowT ?_ (by assumption)|refine bel5 ?_ (by simp;try omega))
 have hok:=HK.out.1.below bw (Nat.le_refl _)
 have hrk:=RV.ok.below HK.out.2 bw (Nat.le_refl _)
 have hSw:=hS.below bw
 rw [show h.v=.agg h.cells.toArray from rfl,show r.v=.agg r.cells.toArray from rfl] at *
 obtain ⟨⟨za,zn,zc,Z,ka,kn,kc,bk,bh,bt⟩,a,n,c,L⟩:=h
 obtain ⟨⟨rq,rs,⟨k1,z1,u1,t1,d1⟩⟩,ra,rn,rc⟩:=r
 dsimp only [HV.cells,RV.cells] at *
 go_enter Tryz.func57,Tryz.ntmps57
 go_wp2_with fail
 refine (H1.out _ hok).mono ?_
 rintro e w1 ⟨rfl,hb1⟩
 replace xh:=xh.below hb1
 replace xr:=xr.below hb1
 replace hok:=hok.below hb1 (Nat.le_refl _)
 replace hrk:=RV.ok.below hrk hb1 (Nat.le_refl _)
 replace hSw:=hSw.below hb1
 replace bw:=belowT bw hb1
 clear hb1
 have r0:=xr.cell 0 _ rfl
 have r1:=xr.cell 1 _ rfl
 have r2:=xr.cell 2 _ rfl
 have r3:=xr.cell 3 _ rfl
 have r4:=xr.cell 4 _ rfl
 have r5:=xr.cell 5 _ rfl
 have r6:=xr.cell 6 _ rfl
 cases h0:ch !=0
 ·go_wp2_with fail
  refine (H2.out _ hSw hrk).mono ?_
  rintro e w2 ⟨rfl,hb2⟩
  replace xh:=xh.below hb2
  replace xr:=xr.below hb2
  replace hok:=hok.below hb2 (Nat.le_refl _)
  replace bw:=belowT bw hb2
  clear hb2 r0 r1 r2 r3 r4 r5 r6 hrk hSw
  cases h9:cr !=0
  ·have e0:ch=0:=by simpa using h0
   have e9:cr=0:=by simpa using h9
   obtain ⟨h3,hs⟩:=HR.out e0
   obtain ⟨j,hj,hj3⟩:=HW.out e9
   have hcs:Hid (∀ m G M (w':World),HV.ok w' ⟨⟨za,zn,zc,Z,ka,kn,kc,bk,bh,bt⟩,a,n,c,L⟩→Lay w' G [.slice za zn zc,.slice ka kn kc,.int .i64 bh,.int .i64 bt,.slice a n c]→Lay w' M [.int .i64 m]→0≤m∧m≤1→Calls Tryz.prog 80 #[.agg #[.int .i64 rq,.int .i64 rs,.int .i64 k1,.int .i64 z1,.int .i64 u1,.int .i64 t1,.slice ra rn rc],.pointer (some ⟨G,0,none⟩),.pointer (some ⟨M,0,none⟩)] w' fun e w''=>e=.returned (.bool (rs==(lastH (HV.p ⟨⟨za,zn,zc,Z,ka,kn,kc,bk,bh,bt⟩,a,n,c,L⟩) rq).s + m))∧Below w'.heap.size w' w''):=hide (fun m G M w' h' hG hM hm=>by
    have:=H6.out m G M j w' h' hG hM h3 hj hj3 hm hs
    rw [← hj] at this
    exact this)
   have HE2:Hid (ne=if rs=(lastH (HV.p ⟨⟨za,zn,zc,Z,ka,kn,kc,bk,bh,bt⟩,a,n,c,L⟩) rq).s∨rs=(lastH (HV.p ⟨⟨za,zn,zc,Z,ka,kn,kc,bk,bh,bt⟩,a,n,c,L⟩) rq).s + 1 then 0 else 6):=hide (by rw [HE.out,if_neg (by simp [e0]),if_neg (by simp [e9])])
   generalize (lastH _ rq).s=ls at *
   clear HE HR HW H6 hs h3 hj hj3 e0 e9
   have q0:=xh.cell 0 _ rfl
   have q1:=xh.cell 1 _ rfl
   have q2:=xh.cell 2 _ rfl
   have q3:=xh.cell 3 _ rfl
   have q4:=xh.cell 4 _ rfl
   have mk1:Hid (n=n):=hide rfl
   go_upto_region 7 with fail
   go_cut [7,8] (fun v7 v8 wx=>∃ G0 M0 G1 M1,v7=.func (Fn.func 80) #[] #[.pointer (some ⟨G0,0,none⟩),.pointer (some ⟨M0,0,none⟩)]∧v8=.func (Fn.func 80) #[] #[.pointer (some ⟨G1,0,none⟩),.pointer (some ⟨M1,0,none⟩)]∧Lay wx G0 [.slice za zn zc,.slice ka kn kc,.int .i64 bh,.int .i64 bt,.slice a n c]∧Lay wx M0 [.int .i64 0]∧Lay wx G1 [.slice za zn zc,.slice ka kn kc,.int .i64 bh,.int .i64 bt,.slice a n c]∧Lay wx M1 [.int .i64 1]∧Below w2.heap.size w2 wx)
   case first=>
    go_region_held3 (fun w'=>w'.cell? ⟨w.heap.size,0,none⟩=some (.slice za zn zc)∧w'.cell? ⟨w.heap.size,1,none⟩=some (.slice ka kn kc)∧w'.cell? ⟨w.heap.size,2,none⟩=some (.int .i64 bh)∧w'.cell? ⟨w.heap.size,3,none⟩=some (.int .i64 bt)∧w'.cell? ⟨w.heap.size,4,none⟩=some (.slice a n c)) ((first|(go_simp;done)|(simp [*,World.cell?_alloc_at,World.cell?_alloc_past,World.cell?_alloc_some,World.cell?_setCell_far];done))) (first|(go_at_call 58;clear mk1;refine (H5.out _ _).mono ?_;rintro e wa ⟨rfl,l0,l1,hba⟩;(have g0:=keepc hba (p:=⟨w.heap.size,0,none⟩) (u:=.slice za zn zc) (by (first|(go_simp;done)|(simp [*,World.cell?_alloc_at,World.cell?_alloc_past,World.cell?_alloc_some,World.cell?_setCell_far];done))));(have g1:=keepc hba (p:=⟨w.heap.size,1,none⟩) (u:=.slice ka kn kc) (by (first|(go_simp;done)|(simp [*,World.cell?_alloc_at,World.cell?_alloc_past,World.cell?_alloc_some,World.cell?_setCell_far];done))));(have g2:=keepc hba (p:=⟨w.heap.size,2,none⟩) (u:=.int .i64 bh) (by (first|(go_simp;done)|(simp [*,World.cell?_alloc_at,World.cell?_alloc_past,World.cell?_alloc_some,World.cell?_setCell_far];done))));(have g3:=keepc hba (p:=⟨w.heap.size,3,none⟩) (u:=.int .i64 bt) (by (first|(go_simp;done)|(simp [*,World.cell?_alloc_at,World.cell?_alloc_past,World.cell?_alloc_some,World.cell?_setCell_far];done))));(have g4:=keepc hba (p:=⟨w.heap.size,4,none⟩) (u:=.slice a n c) (by (first|(go_simp;done)|(simp [*,World.cell?_alloc_at,World.cell?_alloc_past,World.cell?_alloc_some,World.cell?_setCell_far];done)))))|(go_at_call 58;refine (H5.out _ _).mono ?_;rintro e wb ⟨rfl,l2,l3,hbb⟩;(have p0:=keepc hbb (p:=⟨w.heap.size,0,none⟩) (u:=.slice za zn zc) (by (first|(go_simp;done)|(simp [*,World.cell?_alloc_at,World.cell?_alloc_past,World.cell?_alloc_some,World.cell?_setCell_far];done))));(have p1:=keepc hbb (p:=⟨w.heap.size,1,none⟩) (u:=.slice ka kn kc) (by (first|(go_simp;done)|(simp [*,World.cell?_alloc_at,World.cell?_alloc_past,World.cell?_alloc_some,World.cell?_setCell_far];done))));(have p2:=keepc hbb (p:=⟨w.heap.size,2,none⟩) (u:=.int .i64 bh) (by (first|(go_simp;done)|(simp [*,World.cell?_alloc_at,World.cell?_alloc_past,World.cell?_alloc_some,World.cell?_setCell_far];done))));(have p3:=keepc hbb (p:=⟨w.heap.size,3,none⟩) (u:=.int .i64 bt) (by (first|(go_simp;done)|(simp [*,World.cell?_alloc_at,World.cell?_alloc_past,World.cell?_alloc_some,World.cell?_setCell_far];done))));(have p4:=keepc hbb (p:=⟨w.heap.size,4,none⟩) (u:=.slice a n c) (by (first|(go_simp;done)|(simp [*,World.cell?_alloc_at,World.cell?_alloc_past,World.cell?_alloc_some,World.cell?_setCell_far];done))));(have l4:=l0.below hbb);(have l5:=l1.below hbb)))
    all_goals
     go_wp2_with fail
     go_meet
    all_goals
     case rel=>
      first
       |exact ⟨_,_,_,_,rfl,rfl,l4,l5,l2,l3,by (repeat first|exact bel0|assumption|refine bel1 ?_|refine bel2 ?_|refine bel3 ?_|refine belowT ?_ (by assumption)|refine bel5 ?_ (by simp;try omega))⟩
       |exact ⟨_,_,_,_,rfl,rfl,l2,l3,l4,l5,by (repeat first|exact bel0|assumption|refine bel1 ?_|refine bel2 ?_|refine bel3 ?_|refine belowT ?_ (by assumption)|refine bel5 ?_ (by simp;try omega))⟩
   case rest=>
    obtain ⟨G0,M0,G1,M1,rfl,rfl,l0,l1,l2,l3,bx⟩:=hcut
    rename_i wx
    replace xr:=xr.below bx
    replace hok:=hok.below bx (Nat.le_refl _)
    replace bw:=belowT bw bx
    clear bx q0 q1 q2 q3 q4 mk1
    have r0:=xr.cell 0 _ rfl
    have r1:=xr.cell 1 _ rfl
    have r2:=xr.cell 2 _ rfl
    have r3:=xr.cell 3 _ rfl
    have r4:=xr.cell 4 _ rfl
    have r5:=xr.cell 5 _ rfl
    have r6:=xr.cell 6 _ rfl
    go_wp2_with fail
    refine (hcs.out 0 G0 M0 _ hok l0 l1 (by omega)).mono ?_
    rintro e w3 ⟨rfl,hb3⟩
    replace xr:=xr.below hb3
    replace hok:=hok.below hb3 (Nat.le_refl _)
    replace bw:=belowT bw hb3
    replace l2:=l2.below hb3
    replace l3:=l3.below hb3
    clear hb3 r0 r1 r2 r3 r4 r5 r6
    have r0:=xr.cell 0 _ rfl
    have r1:=xr.cell 1 _ rfl
    have r2:=xr.cell 2 _ rfl
    have r3:=xr.cell 3 _ rfl
    have r4:=xr.cell 4 _ rfl
    have r5:=xr.cell 5 _ rfl
    have r6:=xr.cell 6 _ rfl
    cases b0:rs==ls + 0
    ·have B0:Hid (¬ rs=ls):=hide (by simpa using b0)
     go_wp2_with fail
     refine (hcs.out 1 G1 M1 _ hok l2 l3 (by omega)).mono ?_
     rintro e w4 ⟨rfl,hb4⟩
     replace bw:=belowT bw hb4
     clear hb4
     cases b1:rs==ls + 1
     ·have B1:Hid (¬ rs=ls + 1):=hide (by simpa using b1)
      go_wp2
      go_ret
      exact ⟨ret_int (by rw [HE2.out,if_neg (by rintro (q|q);exact B0.out q;exact B1.out q)]),bw⟩
     ·have B1:Hid (rs=ls + 1):=hide (by simpa using b1)
      go_wp2
      go_ret
      exact ⟨ret_int (by rw [HE2.out,if_pos (.inr B1.out)]),bw⟩
    ·have B0:Hid (rs=ls):=hide (by simpa using b0)
     go_wp2
     go_ret
     exact ⟨ret_int (by rw [HE2.out,if_pos (.inl B0.out)]),bw⟩
  ·go_wp2
   go_ret
   simp at h0 h9
   exact ⟨ret_int (by rw [HE.out,if_neg (by simp [h0]),if_pos (by simp [h9])]),bw⟩
 ·go_wp2
  go_ret
  simp at h0
  exact ⟨ret_int (by rw [HE.out,if_pos (by simp [h0])]),bw⟩
end Go.Proofs.YtabafikicbkkdaaGreatDoor
namespace Go.Proofs.YtabafikicbkkdaaGreatDoor
open Go.RowKit
set_option linter.unusedVariables false
set_option maxHeartbeats 4000000
set_option maxRecDepth 100000
set_option linter.unusedSimpArgs false
def Nexts (r:PH×PA×Int) (w:World) (e:Ending) (w':World):Prop:=
 (∃ (h':HV) (a':AV),e=.returned (.tuple #[h'.v,a'.v,.int .i64 r.2.2])∧h'.ok w'∧a'.ok w'∧h'.new w.heap.size∧a'.new w.heap.size∧h'.p=r.1∧a'.p=r.2.1)∧Below w.heap.size w w'
theorem next_boxes (w:World) (H R:List Value) (th tr ta:TypeId) :
  Lay ((((w.alloc (.cells H.toArray th)).alloc (.cells R.toArray tr)).alloc (.cells #[.slice none 0 0,.slice none 0 0,.int .i64 0,.int .i64 0,.slice none 0 0] th)).alloc (.cells #[.int .i64 0,.int .i64 0,.slice none 0 0] ta)) w.heap.size H∧
  Lay ((((w.alloc (.cells H.toArray th)).alloc (.cells R.toArray tr)).alloc (.cells #[.slice none 0 0,.slice none 0 0,.int .i64 0,.int .i64 0,.slice none 0 0] th)).alloc (.cells #[.int .i64 0,.int .i64 0,.slice none 0 0] ta)) (w.heap.size + 1) R∧
  Lay ((((w.alloc (.cells H.toArray th)).alloc (.cells R.toArray tr)).alloc (.cells #[.slice none 0 0,.slice none 0 0,.int .i64 0,.int .i64 0,.slice none 0 0] th)).alloc (.cells #[.int .i64 0,.int .i64 0,.slice none 0 0] ta)) (w.heap.size + 1 + 1) [.slice none 0 0,.slice none 0 0,.int .i64 0,.int .i64 0,.slice none 0 0]∧
  Lay ((((w.alloc (.cells H.toArray th)).alloc (.cells R.toArray tr)).alloc (.cells #[.slice none 0 0,.slice none 0 0,.int .i64 0,.int .i64 0,.slice none 0 0] th)).alloc (.cells #[.int .i64 0,.int .i64 0,.slice none 0 0] ta)) (w.heap.size + 1 + 1 + 1) [.int .i64 0,.int .i64 0,.slice none 0 0]∧
  Below w.heap.size w ((((w.alloc (.cells H.toArray th)).alloc (.cells R.toArray tr)).alloc (.cells #[.slice none 0 0,.slice none 0 0,.int .i64 0,.int .i64 0,.slice none 0 0] th)).alloc (.cells #[.int .i64 0,.int .i64 0,.slice none 0 0] ta)):=by
 have h0:=((Lay.made w H th).below (belowA (Below.refl _ _) (.cells R.toArray tr))).below (belowA (belowA (Below.refl _ _) (.cells #[.slice none 0 0,.slice none 0 0,.int .i64 0,.int .i64 0,.slice none 0 0] th)) (.cells #[.int .i64 0,.int .i64 0,.slice none 0 0] ta))
 have h1:=(Lay.made1 w (.cells H.toArray th) R tr).below (belowA (belowA (Below.refl _ _) (.cells #[.slice none 0 0,.slice none 0 0,.int .i64 0,.int .i64 0,.slice none 0 0] th)) (.cells #[.int .i64 0,.int .i64 0,.slice none 0 0] ta))
 have h2:=(Lay.made1 (w.alloc (.cells H.toArray th)) (.cells R.toArray tr) [.slice none 0 0,.slice none 0 0,.int .i64 0,.int .i64 0,.slice none 0 0] th).below (belowA (Below.refl _ _) (.cells #[.int .i64 0,.int .i64 0,.slice none 0 0] ta))
 have h3:=Lay.made1 ((w.alloc (.cells H.toArray th)).alloc (.cells R.toArray tr)) (.cells #[.slice none 0 0,.slice none 0 0,.int .i64 0,.int .i64 0,.slice none 0 0] th) [.int .i64 0,.int .i64 0,.slice none 0 0] ta
 simp only [World.size_alloc] at h2 h3
 exact ⟨h0,h1,h2,h3,by (repeat first|exact bel0|assumption|refine bel1 ?_|refine bel2 ?_|refine bel3 ?_|refine belowT ?_ (by assumption)|refine bel5 ?_ (by simp;try omega))⟩
theorem Next_bad (h:HV) (r:RV) (w:World) (hS:Shapes w) (hk:h.ok w) (hr:r.ok w) (hbad:nextE h.p r.p≠0):Calls Tryz.prog 36 #[h.v,r.v] w fun e w'=>Nexts (zeroH,zeroA,nextE h.p r.p) w e w':=by
 have H1:=hide (fun w' (hS':Shapes w') (h':h.ok w') (k':r.ok w')=>checkNext_c h r w' hS' h' k')
 have hne:(nextE h.p r.p !=0)=true:=by simpa using hbad
 obtain ⟨x0,x1,x2,x3,bw⟩:=next_boxes w h.cells r.cells 33 52 56
 have hok:=hk.below bw (Nat.le_refl _)
 have hrk:=RV.ok.below hr bw (Nat.le_refl _)
 have hSw:=hS.below bw
 clear hbad
 generalize nextE h.p r.p=ne at *
 rw [show h.v=.agg h.cells.toArray from rfl,show r.v=.agg r.cells.toArray from rfl] at *
 obtain ⟨⟨za,zn,zc,Z,ka,kn,kc,bk,bh,bt⟩,a,n,c,L⟩:=h
 obtain ⟨⟨rq,rs,⟨k1,z1,u1,t1,d1⟩⟩,ra,rn,rc⟩:=r
 dsimp only [HV.cells,RV.cells] at *
 go_enter Tryz.func36,Tryz.ntmps36
 go_wp2_with fail
 refine (H1.out _ hSw hok hrk).mono ?_
 rintro e w1 ⟨rfl,hb1⟩
 replace x2:=x2.below hb1
 replace x3:=x3.below hb1
 replace bw:=belowT bw hb1
 clear hb1 x0 x1 hok hrk hSw
 have e0:=x2.cell 0 _ rfl
 have e1:=x2.cell 1 _ rfl
 have e2:=x2.cell 2 _ rfl
 have e3:=x2.cell 3 _ rfl
 have e4:=x2.cell 4 _ rfl
 have f0:=x2.ice 0
 have f1:=x2.ice 1
 have f2:=x2.ice 2
 have f3:=x2.ice 3
 have f4:=x2.ice 4
 have g0:=x3.cell 0 _ rfl
 have g1:=x3.cell 1 _ rfl
 have g2:=x3.cell 2 _ rfl
 have k0:=x3.ice 0
 have k1:=x3.ice 1
 have k2:=x3.ice 2
 go_wp2
 have zB:=((((x2.set 0 (.slice none 0 0)).set 1 (.slice none 0 0)).set 2 (.int .i64 0)).set 3 (.int .i64 0)).set 4 (.slice none 0 0)
 have hbut:=(((((ButI.refl (w.heap.size + 1 + 1) w1).step 0 (.slice none 0 0)).step 1 (.slice none 0 0)).step 2 (.int .i64 0)).step 3 (.int .i64 0)).step 4 (.slice none 0 0)
 generalize ((((w1.setCell ⟨w.heap.size + 1 + 1,0,none⟩ (.slice none 0 0)).setCell ⟨w.heap.size + 1 + 1,1,none⟩ (.slice none 0 0)).setCell ⟨w.heap.size + 1 + 1,2,none⟩ (.int .i64 0)).setCell ⟨w.heap.size + 1 + 1,3,none⟩ (.int .i64 0)).setCell ⟨w.heap.size + 1 + 1,4,none⟩ (.slice none 0 0)=w2 at *
 have z0:=zB.cell 0 _ rfl
 have z1:=zB.cell 1 _ rfl
 have z2:=zB.cell 2 _ rfl
 have z3:=zB.cell 3 _ rfl
 have z4:=zB.cell 4 _ rfl
 replace x3:=x3.butI hbut (by omega)
 have b2:=bw.trans (hbut.below (B:=w.heap.size) (by omega))
 clear z0 z1 z2 z3 z4 hbut
 have zA:=((x3.set 0 (.int .i64 0)).set 1 (.int .i64 0)).set 2 (.slice none 0 0)
 have hbu:=(((ButI.refl (w.heap.size + 1 + 1 + 1) w2).step 0 (.int .i64 0)).step 1 (.int .i64 0)).step 2 (.slice none 0 0)
 replace zB:=zB.butI hbu (by omega)
 generalize ((w2.setCell ⟨w.heap.size + 1 + 1 + 1,0,none⟩ (.int .i64 0)).setCell ⟨w.heap.size + 1 + 1 + 1,1,none⟩ (.int .i64 0)).setCell ⟨w.heap.size + 1 + 1 + 1,2,none⟩ (.slice none 0 0)=w3 at *
 have z0:=zB.cell 0 _ rfl
 have z1:=zB.cell 1 _ rfl
 have z2:=zB.cell 2 _ rfl
 have z3:=zB.cell 3 _ rfl
 have z4:=zB.cell 4 _ rfl
 have v0:=zA.cell 0 _ rfl
 have v1:=zA.cell 1 _ rfl
 have v2:=zA.cell 2 _ rfl
 exact bodyPost_ret (v:=.tuple #[.agg #[.slice none 0 0,.slice none 0 0,.int .i64 0,.int .i64 0,.slice none 0 0],.agg #[.int .i64 0,.int .i64 0,.slice none 0 0],.int .i64 ne]) (by simp [results,Tryz.results36,go_sem,z0,z1,z2,z3,z4,v0,v1,v2]) rfl
  ⟨⟨HV.zero,AV.err 0,rfl,HV.zero_ok _,AV.err_ok _ _,HV.zero_new _,AV.err_new _ _,rfl,rfl⟩,b2.trans (hbu.below (B:=w.heap.size) (by omega))⟩
end Go.Proofs.YtabafikicbkkdaaGreatDoor
namespace Go.Proofs.YtabafikicbkkdaaGreatDoor
open Go.RowKit
set_option linter.unusedVariables false
set_option maxHeartbeats 4000000
set_option maxRecDepth 100000
set_option linter.unusedSimpArgs false
structure ButJ (G g:Nat) (w w':World):Prop where
 low:∀ n,n≤G→n≤g→Below n w w'
 size:w.heap.size≤w'.heap.size
 cell:∀ q:Addr,q.block < w.heap.size→q.block≠G→q.block≠g→w'.cell? q=w.cell? q
 ice:∀ q:Addr,q.block < w.heap.size→w'.frozen? q=w.frozen? q
theorem ButJ.of_below {G g:Nat} {w w':World} (h:Below w.heap.size w w') (hG:G≤w.heap.size):ButJ G g w w':=⟨fun n h1 _=>h.mono (by omega),h.size,fun q hq _ _=>h.cell hq,fun q hq=>h.frozen hq⟩
theorem ButJ.left {G g:Nat} {w a b:World} (h:ButJ G g w a) (k:ButI G a b):ButJ G g w b:=
 ⟨fun n h1 h2=>(h.low n h1 h2).trans (k.but.low.mono h1),Nat.le_trans h.size k.but.size,fun q hq h1 h2=>by rw [k.but.cell q (Nat.lt_of_lt_of_le hq h.size) h1,h.cell q hq h1 h2],fun q hq=>by rw [k.ice q (Nat.lt_of_lt_of_le hq h.size),h.ice q hq]⟩
theorem ButJ.right {G g:Nat} {w a b:World} (h:ButJ G g w a) (k:ButI g a b):ButJ G g w b:=
 ⟨fun n h1 h2=>(h.low n h1 h2).trans (k.but.low.mono h2),Nat.le_trans h.size k.but.size,fun q hq h1 h2=>by rw [k.but.cell q (Nat.lt_of_lt_of_le hq h.size) h2,h.cell q hq h1 h2],fun q hq=>by rw [k.ice q (Nat.lt_of_lt_of_le hq h.size),h.ice q hq]⟩
theorem Lay.butJ {w w':World} {B G g:Nat} {vs:List Value} (h:Lay w B vs) (hb:ButJ G g w w') (h1:B≠G) (h2:B≠g):Lay w' B vs:=
 ⟨fun i v hv=>by rw [hb.cell _ h.lt h1 h2];exact h.cell i v hv,fun i=>by rw [hb.ice _ h.lt];exact h.ice i,Nat.lt_of_lt_of_le h.lt hb.size⟩
end Go.Proofs.YtabafikicbkkdaaGreatDoor
namespace Go.Proofs.YtabafikicbkkdaaGreatDoor
open Go.RowKit
set_option linter.unusedVariables false
set_option maxHeartbeats 4000000
set_option maxRecDepth 100000
set_option linter.unusedSimpArgs false
theorem Lay.made2 (w:World) (o p:Obj) (vs:List Value) (t:TypeId):Lay (((w.alloc o).alloc p).alloc (.cells vs.toArray t (0,0))) (w.heap.size + 1 + 1) vs:=by
 have h:=Lay.made ((w.alloc o).alloc p) vs t
 simpa only [World.size_alloc] using h
structure Two (W w:World) (B C:Nat) (d:DV) (x:AV):Prop where
 b:Lay w B d.cells
 c:Lay w C [.int .i64 x.e,.int .i64 x.t,.slice x.a x.n x.c]
 d:d.ok w
 x:x.ok w
 low:Below W.heap.size W w
theorem laidB {w:World} {B:Nat} (d:DV) (xB:Lay w B [.slice none 0 0,.slice none 0 0,.int .i64 0,.int .i64 0]):Lay (((((w).setCell ⟨B,0,none⟩ (.slice d.za d.zn d.zc)).setCell ⟨B,1,none⟩ (.slice d.ka d.kn d.kc)).setCell ⟨B,2,none⟩ (.int .i64 d.b.h)).setCell ⟨B,3,none⟩ (.int .i64 d.b.t)) B d.cells∧ButI B w (((((w).setCell ⟨B,0,none⟩ (.slice d.za d.zn d.zc)).setCell ⟨B,1,none⟩ (.slice d.ka d.kn d.kc)).setCell ⟨B,2,none⟩ (.int .i64 d.b.h)).setCell ⟨B,3,none⟩ (.int .i64 d.b.t)):=⟨(((xB.set 0 _).set 1 _).set 2 _).set 3 _,((((ButI.refl B w).step 0 _).step 1 _).step 2 _).step 3 _⟩
theorem laidC {w:World} {C:Nat} (x:AV) (xC:Lay w C [.int .i64 0,.int .i64 0,.slice none 0 0]):Lay ((((w).setCell ⟨C,0,none⟩ (.int .i64 x.e)).setCell ⟨C,1,none⟩ (.int .i64 x.t)).setCell ⟨C,2,none⟩ (.slice x.a x.n x.c)) C [.int .i64 x.e,.int .i64 x.t,.slice x.a x.n x.c]∧ButI C w ((((w).setCell ⟨C,0,none⟩ (.int .i64 x.e)).setCell ⟨C,1,none⟩ (.int .i64 x.t)).setCell ⟨C,2,none⟩ (.slice x.a x.n x.c)):=⟨((xC.set 0 _).set 1 _).set 2 _,(((ButI.refl C w).step 0 _).step 1 _).step 2 _⟩
theorem sizeB (w:World) (B:Nat) (d:DV):(((((w).setCell ⟨B,0,none⟩ (.slice d.za d.zn d.zc)).setCell ⟨B,1,none⟩ (.slice d.ka d.kn d.kc)).setCell ⟨B,2,none⟩ (.int .i64 d.b.h)).setCell ⟨B,3,none⟩ (.int .i64 d.b.t)).heap.size=w.heap.size:=by simp [World.setCell]
theorem sizeC (w:World) (C:Nat) (x:AV):((((w).setCell ⟨C,0,none⟩ (.int .i64 x.e)).setCell ⟨C,1,none⟩ (.int .i64 x.t)).setCell ⟨C,2,none⟩ (.slice x.a x.n x.c)).heap.size=w.heap.size:=by simp [World.setCell]
theorem two_bc {W w:World} {B C:Nat} {d:DV} {x:AV} (xB:Lay w B [.slice none 0 0,.slice none 0 0,.int .i64 0,.int .i64 0]) (xC:Lay w C [.int .i64 0,.int .i64 0,.slice none 0 0]) (hne:B≠C) (hB:W.heap.size≤B) (hC:W.heap.size≤C) (od:d.ok w) (ox:x.ok w) (dB:d.off B) (dC:d.off C) (aB:x.off B) (aC:x.off C) (low:Below W.heap.size W w):Two W ((((((((w).setCell ⟨B,0,none⟩ (.slice d.za d.zn d.zc)).setCell ⟨B,1,none⟩ (.slice d.ka d.kn d.kc)).setCell ⟨B,2,none⟩ (.int .i64 d.b.h)).setCell ⟨B,3,none⟩ (.int .i64 d.b.t)).setCell ⟨C,0,none⟩ (.int .i64 x.e)).setCell ⟨C,1,none⟩ (.int .i64 x.t)).setCell ⟨C,2,none⟩ (.slice x.a x.n x.c)) B C d x:=by
 obtain ⟨h1,k1⟩:=laidB d xB
 have xC':=xC.butI k1 (Ne.symm hne)
 have o1:=od.but k1.but dB
 have a1:=AV.ok.but ox k1.but aB
 have l1:=low.trans (k1.below hB)
 generalize ((((w).setCell ⟨B,0,none⟩ (.slice d.za d.zn d.zc)).setCell ⟨B,1,none⟩ (.slice d.ka d.kn d.kc)).setCell ⟨B,2,none⟩ (.int .i64 d.b.h)).setCell ⟨B,3,none⟩ (.int .i64 d.b.t)=w' at *
 obtain ⟨h2,k2⟩:=laidC x xC'
 exact ⟨h1.butI k2 hne,h2,o1.but k2.but dC,AV.ok.but a1 k2.but aC,l1.trans (k2.below hC)⟩
theorem two_cb {W w:World} {B C:Nat} {d:DV} {x:AV} (xB:Lay w B [.slice none 0 0,.slice none 0 0,.int .i64 0,.int .i64 0]) (xC:Lay w C [.int .i64 0,.int .i64 0,.slice none 0 0]) (hne:B≠C) (hB:W.heap.size≤B) (hC:W.heap.size≤C) (od:d.ok w) (ox:x.ok w) (dB:d.off B) (dC:d.off C) (aB:x.off B) (aC:x.off C) (low:Below W.heap.size W w):Two W ((((((((w).setCell ⟨C,0,none⟩ (.int .i64 x.e)).setCell ⟨C,1,none⟩ (.int .i64 x.t)).setCell ⟨C,2,none⟩ (.slice x.a x.n x.c)).setCell ⟨B,0,none⟩ (.slice d.za d.zn d.zc)).setCell ⟨B,1,none⟩ (.slice d.ka d.kn d.kc)).setCell ⟨B,2,none⟩ (.int .i64 d.b.h)).setCell ⟨B,3,none⟩ (.int .i64 d.b.t)) B C d x:=by
 obtain ⟨h1,k1⟩:=laidC x xC
 have xB':=xB.butI k1 hne
 have o1:=od.but k1.but dC
 have a1:=AV.ok.but ox k1.but aC
 have l1:=low.trans (k1.below hC)
 generalize (((w).setCell ⟨C,0,none⟩ (.int .i64 x.e)).setCell ⟨C,1,none⟩ (.int .i64 x.t)).setCell ⟨C,2,none⟩ (.slice x.a x.n x.c)=w' at *
 obtain ⟨h2,k2⟩:=laidB d xB'
 exact ⟨h2,h1.butI k2 (Ne.symm hne),o1.but k2.but dB,AV.ok.but a1 k2.but aB,l1.trans (k2.below hB)⟩
theorem two_b {W w:World} {B:Nat} {d:DV} {x:AV} {t:TypeId} (xB:Lay w B [.slice none 0 0,.slice none 0 0,.int .i64 0,.int .i64 0]) (hB:W.heap.size≤B) (od:d.ok w) (ox:x.ok w) (dB:d.off B) (aB:x.off B) (low:Below W.heap.size W w):Two W ((((((w).setCell ⟨B,0,none⟩ (.slice d.za d.zn d.zc)).setCell ⟨B,1,none⟩ (.slice d.ka d.kn d.kc)).setCell ⟨B,2,none⟩ (.int .i64 d.b.h)).setCell ⟨B,3,none⟩ (.int .i64 d.b.t)).alloc (.cells #[.int .i64 x.e,.int .i64 x.t,.slice x.a x.n x.c] t)) B w.heap.size d x:=by
 obtain ⟨h1,k1⟩:=laidB d xB
 have hs:=sizeB w B d
 have o1:=od.but k1.but dB
 have a1:=AV.ok.but ox k1.but aB
 have l1:=low.trans (k1.below hB)
 generalize ((((w).setCell ⟨B,0,none⟩ (.slice d.za d.zn d.zc)).setCell ⟨B,1,none⟩ (.slice d.ka d.kn d.kc)).setCell ⟨B,2,none⟩ (.int .i64 d.b.h)).setCell ⟨B,3,none⟩ (.int .i64 d.b.t)=w' at *
 have hn:=belowA (Below.refl _ w') (.cells #[.int .i64 x.e,.int .i64 x.t,.slice x.a x.n x.c] t)
 have hm:=Lay.made w' [.int .i64 x.e,.int .i64 x.t,.slice x.a x.n x.c] t
 rw [hs] at hm
 exact ⟨h1.below hn,hm,o1.below hn (Nat.le_refl _),AV.ok.below a1 hn (Nat.le_refl _),belowT l1 hn⟩
theorem two_c {W w:World} {C:Nat} {d:DV} {x:AV} {t:TypeId} (xC:Lay w C [.int .i64 0,.int .i64 0,.slice none 0 0]) (hC:W.heap.size≤C) (od:d.ok w) (ox:x.ok w) (dC:d.off C) (aC:x.off C) (low:Below W.heap.size W w):Two W (((((w).setCell ⟨C,0,none⟩ (.int .i64 x.e)).setCell ⟨C,1,none⟩ (.int .i64 x.t)).setCell ⟨C,2,none⟩ (.slice x.a x.n x.c)).alloc (.cells #[.slice d.za d.zn d.zc,.slice d.ka d.kn d.kc,.int .i64 d.b.h,.int .i64 d.b.t] t)) w.heap.size C d x:=by
 obtain ⟨h1,k1⟩:=laidC x xC
 have hs:=sizeC w C x
 have o1:=od.but k1.but dC
 have a1:=AV.ok.but ox k1.but aC
 have l1:=low.trans (k1.below hC)
 generalize (((w).setCell ⟨C,0,none⟩ (.int .i64 x.e)).setCell ⟨C,1,none⟩ (.int .i64 x.t)).setCell ⟨C,2,none⟩ (.slice x.a x.n x.c)=w' at *
 have hn:=belowA (Below.refl _ w') (.cells #[.slice d.za d.zn d.zc,.slice d.ka d.kn d.kc,.int .i64 d.b.h,.int .i64 d.b.t] t)
 have hm:=Lay.made w' [.slice d.za d.zn d.zc,.slice d.ka d.kn d.kc,.int .i64 d.b.h,.int .i64 d.b.t] t
 rw [hs] at hm
 exact ⟨hm,h1.below hn,o1.below hn (Nat.le_refl _),AV.ok.below a1 hn (Nat.le_refl _),belowT l1 hn⟩
theorem two_dx {W w:World} {d:DV} {x:AV} {s t:TypeId} (od:d.ok w) (ox:x.ok w) (low:Below W.heap.size W w):Two W ((w.alloc (.cells #[.slice d.za d.zn d.zc,.slice d.ka d.kn d.kc,.int .i64 d.b.h,.int .i64 d.b.t] s)).alloc (.cells #[.int .i64 x.e,.int .i64 x.t,.slice x.a x.n x.c] t)) w.heap.size (w.heap.size + 1) d x:=by
 have hn:=belowA (belowA (Below.refl w.heap.size w) (.cells #[.slice d.za d.zn d.zc,.slice d.ka d.kn d.kc,.int .i64 d.b.h,.int .i64 d.b.t] s)) (.cells #[.int .i64 x.e,.int .i64 x.t,.slice x.a x.n x.c] t)
 exact ⟨(Lay.made w [.slice d.za d.zn d.zc,.slice d.ka d.kn d.kc,.int .i64 d.b.h,.int .i64 d.b.t] s).below (belowA (Below.refl _ _) _),Lay.made1 w _ [.int .i64 x.e,.int .i64 x.t,.slice x.a x.n x.c] t,od.below hn (Nat.le_refl _),AV.ok.below ox hn (Nat.le_refl _),belowT low hn⟩
theorem two_xd {W w:World} {d:DV} {x:AV} {s t:TypeId} (od:d.ok w) (ox:x.ok w) (low:Below W.heap.size W w):Two W ((w.alloc (.cells #[.int .i64 x.e,.int .i64 x.t,.slice x.a x.n x.c] s)).alloc (.cells #[.slice d.za d.zn d.zc,.slice d.ka d.kn d.kc,.int .i64 d.b.h,.int .i64 d.b.t] t)) (w.heap.size + 1) w.heap.size d x:=by
 have hn:=belowA (belowA (Below.refl w.heap.size w) (.cells #[.int .i64 x.e,.int .i64 x.t,.slice x.a x.n x.c] s)) (.cells #[.slice d.za d.zn d.zc,.slice d.ka d.kn d.kc,.int .i64 d.b.h,.int .i64 d.b.t] t)
 exact ⟨Lay.made1 w _ [.slice d.za d.zn d.zc,.slice d.ka d.kn d.kc,.int .i64 d.b.h,.int .i64 d.b.t] t,(Lay.made w [.int .i64 x.e,.int .i64 x.t,.slice x.a x.n x.c] s).below (belowA (Below.refl _ _) _),od.below hn (Nat.le_refl _),AV.ok.below ox hn (Nat.le_refl _),belowT low hn⟩
theorem lay_pastB (w:World) (B:Nat) (d:DV) (vs:List Value) (t:TypeId):Lay ((((((w).setCell ⟨B,0,none⟩ (.slice d.za d.zn d.zc)).setCell ⟨B,1,none⟩ (.slice d.ka d.kn d.kc)).setCell ⟨B,2,none⟩ (.int .i64 d.b.h)).setCell ⟨B,3,none⟩ (.int .i64 d.b.t)).alloc (.cells vs.toArray t)) w.heap.size vs:=by
 have h:=Lay.made (((((w).setCell ⟨B,0,none⟩ (.slice d.za d.zn d.zc)).setCell ⟨B,1,none⟩ (.slice d.ka d.kn d.kc)).setCell ⟨B,2,none⟩ (.int .i64 d.b.h)).setCell ⟨B,3,none⟩ (.int .i64 d.b.t)) vs t
 rw [sizeB] at h
 exact h
theorem lay_pastC (w:World) (C:Nat) (x:AV) (vs:List Value) (t:TypeId):Lay (((((w).setCell ⟨C,0,none⟩ (.int .i64 x.e)).setCell ⟨C,1,none⟩ (.int .i64 x.t)).setCell ⟨C,2,none⟩ (.slice x.a x.n x.c)).alloc (.cells vs.toArray t)) w.heap.size vs:=by
 have h:=Lay.made ((((w).setCell ⟨C,0,none⟩ (.int .i64 x.e)).setCell ⟨C,1,none⟩ (.int .i64 x.t)).setCell ⟨C,2,none⟩ (.slice x.a x.n x.c)) vs t
 rw [sizeC] at h
 exact h
end Go.Proofs.YtabafikicbkkdaaGreatDoor
