/- The contract of desk's write; no condition but that the box holds a right desk whose lists lie elsewhere, and that the data reads as a list. -/
import Derived.Test.YtabafikicbkkdaaGreatDoorSV20
import Derived.Deep.RegionHeld3
import Derived.Deep.DeepCutAuto
import Derived.Test.YtabafikicbkkdaaGreatDoorSV10
namespace Go.Proofs.YtabafikicbkkdaaGreatDoor
open Go.RowKit
set_option linter.unusedVariables false
set_option maxHeartbeats 4000000
set_option maxRecDepth 100000
set_option linter.unusedSimpArgs false
def Worked (B:Nat) (d:DV) (r:PD×PA) (w:World) (e:Ending) (w':World):Prop:=
 (∃ (d':DV) (a':AV),e=.returned a'.v∧DBox w' B d'∧(∀ R,R < w.heap.size→d.off R→d'.off R)∧a'.ok w'∧a'.new w.heap.size∧d'.p=r.1∧a'.p=r.2)∧ButI B w w'
theorem DBox.butI {w w':World} {B R:Nat} {d:DV} (h:DBox w B d) (hb:ButI R w w') (hR:B≠R) (ho:d.off R):DBox w' B d:=⟨h.lay.butI hb hR,h.ok.but hb.but ho,h.off⟩
def lateB (P:List PZ) (x:PC):Bool:=x.k==6&&(inB x.z 0 3&&x.at' !=((at' P x.z).2.length:Int))
theorem writeD_late {d:PD} {x:PC} (h:lateB d.P x=true):writeD d x=(d,errA 6):=by
 simp [lateB] at h
 simp [writeD,h]
theorem writeD_not {d:PD} {x:PC} (h:lateB d.P x=false):writeD d x=if (writeP d.P x.z x.d).2.2≠0 then (d,errA (writeP d.P x.z x.d).2.2) else (⟨(writeP d.P x.z x.d).1,d.b⟩,⟨0,(writeP d.P x.z x.d).2.1,[]⟩):=by
 have hn:¬ (x.k=6∧inB x.z 0 3=true∧x.at'≠(at' d.P x.z).2.length):=fun hh=>by simp [lateB,hh] at h
 simp only [writeD]
 rw [if_neg hn]
theorem dwrite_c (B:Nat) (d:DV) (ca:Option Addr) (cn cc:Nat) (x:PC) (w:World) (h:DBox w B d) (hx:Ints w ca cn cc x.d) (hz:checkZs d.p.P=0) :
  Calls Tryz.prog 136 #[.pointer (some ⟨B,0,none⟩),cmdV ca cn cc x] w fun e w'=>Worked B d (writeD d.p x) w e w':=by
 obtain ⟨za,zn,zc,Z,ka,kn,kc,b⟩:=d
 obtain ⟨xk,xz,xn,xt,xd⟩:=x
 have HW:=hide (fun w' h' i'=>YWrite_f za zn zc Z xz ca cn cc xd w' h' i')
 have hlt:=h.lay.lt
 have y0:=h.lay.cell 0 _ rfl
 have HL:=hide (fun hh=>writeD_late (d:=⟨Z.map ZV.p,b⟩) (x:=⟨xk,xz,xn,xt,xd⟩) hh)
 have HN:=hide (fun hh=>writeD_not (d:=⟨Z.map ZV.p,b⟩) (x:=⟨xk,xz,xn,xt,xd⟩) hh)
 have HB:Hid (lateB (Z.map ZV.p) ⟨xk,xz,xn,xt,xd⟩=(xk==6&&(inB xz 0 3&&xt !=((at' (Z.map ZV.p) xz).2.length:Int)))):=hide rfl
 unfold cmdV
 dsimp only [DV.p] at *
 obtain ⟨h4,zb,off,rfl,hr⟩:=zs_four h.ok.z hz
 dsimp only at h4
 subst h4
 have xR:=Lay.made1 w (.cells #[.int .i64 xk,.int .i64 xz,.int .i64 xn,.int .i64 xt,.slice ca cn cc] 50) [.int .i64 0,.int .i64 0,.slice none 0 0] 56
 have bw:Below w.heap.size w ((w.alloc (.cells #[.int .i64 xk,.int .i64 xz,.int .i64 xn,.int .i64 xt,.slice ca cn cc] 50)).alloc (.cells #[.int .i64 0,.int .i64 0,.slice none 0 0] 56)):=by (repeat first|exact bel0|assumption|refine bel1 ?_|refine bel2 ?_|refine bel3 ?_|refine belowT ?_ (by assumption)|refine bel5 ?_ (by simp;try omega))
 replace y0:=past2 y0
 generalize hlb:lateB (Z.map ZV.p) ⟨xk,xz,xn,xt,xd⟩=lb at *
 go_enter Tryz.func136,Tryz.ntmps136
 go_upto_region 1 with fail
 go_cut [34] (fun v wx=>v=.bool lb∧Below ((w.alloc (.cells #[.int .i64 xk,.int .i64 xz,.int .i64 xn,.int .i64 xt,.slice ca cn cc] 50)).alloc (.cells #[.int .i64 0,.int .i64 0,.slice none 0 0] 56)).heap.size ((w.alloc (.cells #[.int .i64 xk,.int .i64 xz,.int .i64 xn,.int .i64 xt,.slice ca cn cc] 50)).alloc (.cells #[.int .i64 0,.int .i64 0,.slice none 0 0] 56)) wx)
 case first=>
  cases hk:xk==6
  ·go_quiet (fail)
   go_wp2_with fail
   go_meet
   case rel=>exact ⟨by rw [HB.out,hk];rfl,by (repeat first|exact bel0|assumption|refine bel1 ?_|refine bel2 ?_|refine bel3 ?_|refine belowT ?_ (by assumption)|refine bel5 ?_ (by simp;try omega))⟩
  ·cases hin:inB xz 0 3
   ·have HZ:Hid (∀ w',Calls Tryz.prog 154 #[.slice (some ⟨zb,off,none⟩) 4 zc,.int .i64 xz] w' fun e w''=>e=.returned (.bool false)∧w''=w'):=hide (fun w'=>by
     have q:=hasZone_c (some ⟨zb,off,none⟩) 4 zc xz w' (by omega)
     rw [show inB xz 0 (((4:Nat):Int) - 1)=false from hin] at q
     exact q)
    go_quiet (first|(go_at_call 154;exact Calls.quiet_of_same (HZ.out _)))
    go_wp2_with fail
    go_meet
    case rel=>exact ⟨by rw [HB.out,hk,hin];rfl,by (repeat first|exact bel0|assumption|refine bel1 ?_|refine bel2 ?_|refine bel3 ?_|refine belowT ?_ (by assumption)|refine bel5 ?_ (by simp;try omega))⟩
   ·have HZ:Hid (∀ w',Calls Tryz.prog 154 #[.slice (some ⟨zb,off,none⟩) 4 zc,.int .i64 xz] w' fun e w''=>e=.returned (.bool true)∧w''=w'):=hide (fun w'=>by
     have q:=hasZone_c (some ⟨zb,off,none⟩) 4 zc xz w' (by omega)
     rw [show inB xz 0 (((4:Nat):Int) - 1)=true from hin] at q
     exact q)
    have hj:0≤xz∧xz≤3:=by simp [inB] at hin;omega
    obtain ⟨j,rfl⟩:=Int.eq_ofNat_of_zero_le hj.1
    have hj4:(j:Int) < 4:=by omega
    obtain ⟨z,hzz⟩:∃ z,Z[j]?=some z:=⟨Z[j]'(by rw [h.ok.z.len];dsimp only;omega),by simp⟩
    obtain ⟨u0,u1⟩:=hr j z hzz
    have iz:=h.ok.z.ok z (List.mem_of_getElem? hzz)
    have zl:=hide iz.len
    have zm:=iz.max
    have ze:=iz.le
    have HA:=hide (show at' (Z.map ZV.p) (j:Int)=z.p by simp [at',List.getD,hzz])
    replace u0:=past2 u0
    replace u1:=past2 u1
    cases hne:xt !=(z.n:Int)
    all_goals
     go_quiet (first|(go_at_call 154;exact Calls.quiet_of_same (HZ.out _)))
     go_wp2_with fail
     go_meet
     case rel=>exact ⟨by rw [HB.out,hk,hin,HA.out];simp only [ZV.p];rw [zl.out,hne];rfl,by (repeat first|exact bel0|assumption|refine bel1 ?_|refine bel2 ?_|refine bel3 ?_|refine belowT ?_ (by assumption)|refine bel5 ?_ (by simp;try omega))⟩
 case rest=>
  obtain ⟨rfl,hbc⟩:=hcut
  replace xR:=xR.below hbc
  replace bw:=belowT bw hbc
  have h1:=h.below bw
  have hx1:=hx.below bw (Nat.le_refl _)
  have k0:=keepc hbc (p:=⟨w.heap.size,0,none⟩) (u:=.int .i64 xk) (by go_simp)
  have k1:=keepc hbc (p:=⟨w.heap.size,1,none⟩) (u:=.int .i64 xz) (by go_simp)
  have k2:=keepc hbc (p:=⟨w.heap.size,2,none⟩) (u:=.int .i64 xn) (by go_simp)
  have k3:=keepc hbc (p:=⟨w.heap.size,3,none⟩) (u:=.int .i64 xt) (by go_simp)
  have k4:=keepc hbc (p:=⟨w.heap.size,4,none⟩) (u:=.slice ca cn cc) (by go_simp)
  replace y0:=keepc hbc (y0 _ _)
  have hs:=hbc.size
  simp at hs
  clear hbc hr
  have hoR:∀ R,w.heap.size≤R→DV.off R ⟨some ⟨zb,off,none⟩,4,zc,Z,ka,kn,kc,b⟩:=fun R hR=>h.ok.off hR
  cases lb
  ·have HN2:=hide (HN.out rfl)
   clear hlb HL HN HB
   go_upto_region 3 with fail
   go_region_held3 (fun w'=>w'.cell? ⟨B,0,none⟩=some (.slice (some ⟨zb,off,none⟩) 4 zc)∧w'.cell? ⟨w.heap.size,0,none⟩=some (.int .i64 xk)∧w'.cell? ⟨w.heap.size,1,none⟩=some (.int .i64 xz)∧w'.cell? ⟨w.heap.size,2,none⟩=some (.int .i64 xn)∧w'.cell? ⟨w.heap.size,3,none⟩=some (.int .i64 xt)∧w'.cell? ⟨w.heap.size,4,none⟩=some (.slice ca cn cc)) ((first|(go_simp;done)|(simp [*,World.cell?_alloc_at,World.cell?_alloc_past,World.cell?_alloc_some,World.cell?_setCell_far];done))) (first|(go_at_call 156;refine (HW.out _ (by refine Zones.below h1.ok.z (B:=wc.heap.size) ?_ (Nat.le_refl _);(repeat first|exact bel0|assumption|refine bel1 ?_|refine bel2 ?_|refine bel3 ?_|refine belowT ?_ (by assumption)|refine bel5 ?_ (by simp;try omega))) (by refine Ints.below hx1 (B:=wc.heap.size) ?_ (Nat.le_refl _);(repeat first|exact bel0|assumption|refine bel1 ?_|refine bel2 ?_|refine bel3 ?_|refine belowT ?_ (by assumption)|refine bel5 ?_ (by simp;try omega)))).mono ?_;rintro e w1 ⟨⟨a1,n1,c1,Z1,rfl,i1,nz,p1⟩,hb1⟩;(have g0:=keepc hb1 (p:=⟨B,0,none⟩) (u:=.slice (some ⟨zb,off,none⟩) 4 zc) (by (first|(go_simp;done)|(simp [*,World.cell?_alloc_at,World.cell?_alloc_past,World.cell?_alloc_some,World.cell?_setCell_far];done))));(have g1:=keepc hb1 (p:=⟨w.heap.size,0,none⟩) (u:=.int .i64 xk) (by (first|(go_simp;done)|(simp [*,World.cell?_alloc_at,World.cell?_alloc_past,World.cell?_alloc_some,World.cell?_setCell_far];done))));(have g2:=keepc hb1 (p:=⟨w.heap.size,1,none⟩) (u:=.int .i64 xz) (by (first|(go_simp;done)|(simp [*,World.cell?_alloc_at,World.cell?_alloc_past,World.cell?_alloc_some,World.cell?_setCell_far];done))));(have g3:=keepc hb1 (p:=⟨w.heap.size,2,none⟩) (u:=.int .i64 xn) (by (first|(go_simp;done)|(simp [*,World.cell?_alloc_at,World.cell?_alloc_past,World.cell?_alloc_some,World.cell?_setCell_far];done))));(have g4:=keepc hb1 (p:=⟨w.heap.size,3,none⟩) (u:=.int .i64 xt) (by (first|(go_simp;done)|(simp [*,World.cell?_alloc_at,World.cell?_alloc_past,World.cell?_alloc_some,World.cell?_setCell_far];done))));(have g5:=keepc hb1 (p:=⟨w.heap.size,4,none⟩) (u:=.slice ca cn cc) (by (first|(go_simp;done)|(simp [*,World.cell?_alloc_at,World.cell?_alloc_past,World.cell?_alloc_some,World.cell?_setCell_far];done))))))
   have bc1:Below wc.heap.size wc w1:=by (repeat first|exact bel0|assumption|refine bel1 ?_|refine bel2 ?_|refine bel3 ?_|refine belowT ?_ (by assumption)|refine bel5 ?_ (by simp;try omega))
   have bw1:=belowT bw bc1
   replace xR:=xR.below bc1
   replace h1:=h1.below bc1
   have P1:=hide p1
   have hs1:=hb1.size
   have N1:=hide (show NewZ (w.heap.size + 1 + 1) a1 Z1 from ⟨fun x e=>Nat.le_trans hs (nz.1 x e),nz.2.mono hs⟩)
   clear p1 nz hb1 y0 k0 k1 k2 k3 k4 bc1
   have q0:=h1.lay.cell 0 _ rfl
   have q1:=h1.lay.ice 0
   have e0:=xR.cell 0 _ rfl
   have e1:=xR.cell 1 _ rfl
   have e2:=xR.cell 2 _ rfl
   have f0:=xR.ice 0
   have f1:=xR.ice 1
   have f2:=xR.ice 2
   generalize hfn:writeP (Z.map ZV.p) xz xd=r at *
   obtain ⟨rP,rt,re⟩:=r
   have HF:=hide hfn
   clear hfn
   dsimp only at *
   by_cases he:re=0
   ·subst he
    have h2:=h1.zones i1 N1.out (by omega)
    dsimp only at h2
    have xR2:=xR.far ⟨B,0,none⟩ (.slice a1 n1 c1) (by simp;omega)
    have b2:=(ButI.of_below (g:=B) bw1 (by omega)).step 0 (.slice a1 n1 c1)
    have hBR:B≠w.heap.size + 1:=by omega
    have hRB:w.heap.size + 1≠B:=by omega
    go_wp2
    have hnew:∀ R,R < w.heap.size→DV.off R ⟨some ⟨zb,off,none⟩,4,zc,Z,ka,kn,kc,b⟩→DV.off R ⟨a1,n1,c1,Z1,ka,kn,kc,b⟩:=fun R hR hd=>DV.off_zones hd N1.out (by omega)
    have hoff:DV.off (w.heap.size + 1) ⟨a1,n1,c1,Z1,ka,kn,kc,b⟩:=⟨.inr fun x e=>by have:=N1.out.1 x e;omega,fun z hz=>.inr fun x e=>by have:=N1.out.2 z hz x e;omega,(hoR _ (by omega)).k⟩
    generalize w1.setCell ⟨B,0,none⟩ (.slice a1 n1 c1)=w2 at *
    have xR:=xR2
    have zB:=((xR.set 0 (.int .i64 (0))).set 1 (.int .i64 (rt))).set 2 (.slice none 0 0)
    have hbut:=(((ButI.refl (w.heap.size + 1) (w2)).step 0 (.int .i64 (0))).step 1 (.int .i64 (rt))).step 2 (.slice none 0 0)
    generalize (((w2).setCell ⟨w.heap.size + 1,0,none⟩ (.int .i64 (0))).setCell ⟨w.heap.size + 1,1,none⟩ (.int .i64 (rt))).setCell ⟨w.heap.size + 1,2,none⟩ (.slice none 0 0)=w9 at *
    have z0:=zB.cell 0 _ rfl
    have z1:=zB.cell 1 _ rfl
    have z2:=zB.cell 2 _ rfl
    exact bodyPost_ret (v:=.agg #[.int .i64 0,.int .i64 rt,.slice none 0 0]) (by simp [results,Tryz.results136,go_sem,z0,z1,z2]) rfl
     ⟨⟨⟨a1,n1,c1,Z1,ka,kn,kc,b⟩,⟨0,rt,none,0,0,[]⟩,rfl,h2.butI hbut hBR hoff,hnew,Ints.nilSlice _,fun R _=>.inl rfl,by rw [HN2.out];simp [DV.p,P1.out],by rw [HN2.out];rfl⟩,b2.own hbut (by omega) (by omega)⟩
   ·have he':(re !=0)=true:=by simpa using he
    have HE:=hide he
    have hBR:B≠w.heap.size + 1:=by omega
    clear he
    go_wp2
    have zB:=((xR.set 0 (.int .i64 (re))).set 1 (.int .i64 (0))).set 2 (.slice none 0 0)
    have hbut:=(((ButI.refl (w.heap.size + 1) (w1)).step 0 (.int .i64 (re))).step 1 (.int .i64 (0))).step 2 (.slice none 0 0)
    generalize (((w1).setCell ⟨w.heap.size + 1,0,none⟩ (.int .i64 (re))).setCell ⟨w.heap.size + 1,1,none⟩ (.int .i64 (0))).setCell ⟨w.heap.size + 1,2,none⟩ (.slice none 0 0)=w9 at *
    have z0:=zB.cell 0 _ rfl
    have z1:=zB.cell 1 _ rfl
    have z2:=zB.cell 2 _ rfl
    exact bodyPost_ret (v:=.agg #[.int .i64 re,.int .i64 0,.slice none 0 0]) (by simp [results,Tryz.results136,go_sem,z0,z1,z2]) rfl
     ⟨⟨⟨some ⟨zb,off,none⟩,4,zc,Z,ka,kn,kc,b⟩,AV.err re,rfl,h1.butI hbut hBR (hoR _ (by omega)),fun N _ hd=>hd,AV.err_ok _ _,AV.err_new _ _,by rw [HN2.out];simp [HE.out,DV.p],by rw [HN2.out];simp [HE.out,AV.err_p]⟩,(ButI.of_below (g:=B) bw1 (by omega)).own hbut (by omega) (by omega)⟩
  ·have HL2:=hide (HL.out rfl)
   clear hlb HL HN HB
   have e0:=xR.cell 0 _ rfl
   have e1:=xR.cell 1 _ rfl
   have e2:=xR.cell 2 _ rfl
   have f0:=xR.ice 0
   have f1:=xR.ice 1
   have f2:=xR.ice 2
   go_wp2
   have zB:=((xR.set 0 (.int .i64 (6))).set 1 (.int .i64 (0))).set 2 (.slice none 0 0)
   have hbut:=(((ButI.refl (w.heap.size + 1) (wc)).step 0 (.int .i64 (6))).step 1 (.int .i64 (0))).step 2 (.slice none 0 0)
   generalize (((wc).setCell ⟨w.heap.size + 1,0,none⟩ (.int .i64 (6))).setCell ⟨w.heap.size + 1,1,none⟩ (.int .i64 (0))).setCell ⟨w.heap.size + 1,2,none⟩ (.slice none 0 0)=w9 at *
   have z0:=zB.cell 0 _ rfl
   have z1:=zB.cell 1 _ rfl
   have z2:=zB.cell 2 _ rfl
   exact bodyPost_ret (v:=.agg #[.int .i64 6,.int .i64 0,.slice none 0 0]) (by simp [results,Tryz.results136,go_sem,z0,z1,z2]) rfl
    ⟨⟨⟨some ⟨zb,off,none⟩,4,zc,Z,ka,kn,kc,b⟩,AV.err 6,rfl,h1.butI hbut (by omega) (hoR _ (by omega)),fun N _ hd=>hd,AV.err_ok _ _,AV.err_new _ _,by rw [HL2.out];rfl,by rw [HL2.out];rfl⟩,(ButI.of_below (g:=B) bw (by omega)).own hbut (by omega) (by omega)⟩
end Go.Proofs.YtabafikicbkkdaaGreatDoor
namespace Go.Proofs.YtabafikicbkkdaaGreatDoor
open Go.RowKit
set_option linter.unusedVariables false
set_option maxHeartbeats 4000000
set_option maxRecDepth 100000
set_option linter.unusedSimpArgs false
theorem work_c (B:Nat) (d:DV) (j:Nat) (ca:Option Addr) (cn cc:Nat) (x:PC) (w:World) (h:DBox w B d) (hx:Ints w ca cn cc x.d) (hd:checkD d.p=0) (hj:j < 3) (hk:1≤x.k∧x.k≤12) :
  Calls Tryz.prog 111 #[.pointer (some ⟨B,0,none⟩),.int .i64 j,cmdV ca cn cc x] w fun e w'=>Worked B d (doneD d.p j x) w e w':=by
 obtain ⟨za,zn,zc,Z,ka,kn,kc,bk,bh,bt⟩:=d
 obtain ⟨xk,xz,xn,xt,xd⟩:=x
 obtain ⟨hz,hb⟩:=checkD_ok hd
 have HM:=hide (may_ok hb hj (xk !=7))
 have G1:=hide (fun w' h'=>reserve_c B ⟨za,zn,zc,Z,ka,kn,kc,bk,bh,bt⟩ j ca cn cc ⟨xk,xz,xn,xt,xd⟩ w' h')
 have G2:=hide (fun w' h'=>dmay_c ka kn kc ⟨bk,bh,bt⟩ j ca cn cc ⟨xk,xz,xn,xt,xd⟩ w' h')
 have G3:=hide (fun w' h'=>dread_c za zn zc Z ca cn cc ⟨xk,xz,xn,xt,xd⟩ w' h' hz)
 have G4:=hide (fun w' h' i'=>dwrite_c B ⟨za,zn,zc,Z,ka,kn,kc,bk,bh,bt⟩ ca cn cc ⟨xk,xz,xn,xt,xd⟩ w' h' i' hz)
 have G5:=hide (fun w' h'=>turn_c B ⟨za,zn,zc,Z,ka,kn,kc,bk,bh,bt⟩ ca cn cc ⟨xk,xz,xn,xt,xd⟩ w' h')
 have hlt:=h.lay.lt
 have y0:=h.lay.cell 0 _ rfl
 have y1:=h.lay.cell 1 _ rfl
 have y2:=h.lay.cell 2 _ rfl
 have y3:=h.lay.cell 3 _ rfl
 unfold cmdV bookV at *
 dsimp only [DV.p] at *
 obtain ⟨hk1,hk2⟩:=hk
 have HD:Hid (doneD ⟨Z.map ZV.p,⟨bk,bh,bt⟩⟩ j ⟨xk,xz,xn,xt,xd⟩=if 8≤xk then (if (bookDo ⟨bk,bh,bt⟩ j ⟨xk,xz,xn,xt,xd⟩).2≠0 then (⟨Z.map ZV.p,⟨bk,bh,bt⟩⟩,errA (bookDo ⟨bk,bh,bt⟩ j ⟨xk,xz,xn,xt,xd⟩).2) else (⟨Z.map ZV.p,(bookDo ⟨bk,bh,bt⟩ j ⟨xk,xz,xn,xt,xd⟩).1⟩,zeroA))
   else if mightB ⟨bk,bh,bt⟩ j (xk !=7)=false then (⟨Z.map ZV.p,⟨bk,bh,bt⟩⟩,errA 8)
   else if xk=7 then (⟨Z.map ZV.p,⟨bk,bh,bt⟩⟩,readD (Z.map ZV.p) ⟨xk,xz,xn,xt,xd⟩)
   else if xk=5∨xk=6 then writeD ⟨Z.map ZV.p,⟨bk,bh,bt⟩⟩ ⟨xk,xz,xn,xt,xd⟩
   else if (zoneDo (Z.map ZV.p) ⟨xk,xz,xn,xt,xd⟩).2≠0 then (⟨Z.map ZV.p,⟨bk,bh,bt⟩⟩,errA (zoneDo (Z.map ZV.p) ⟨xk,xz,xn,xt,xd⟩).2) else (⟨(zoneDo (Z.map ZV.p) ⟨xk,xz,xn,xt,xd⟩).1,⟨bk,bh,bt⟩⟩,zeroA)):=hide rfl
 have HBD:Hid (bookedD ⟨Z.map ZV.p,⟨bk,bh,bt⟩⟩ j ⟨xk,xz,xn,xt,xd⟩=if (bookDo ⟨bk,bh,bt⟩ j ⟨xk,xz,xn,xt,xd⟩).2=0 then ⟨Z.map ZV.p,(bookDo ⟨bk,bh,bt⟩ j ⟨xk,xz,xn,xt,xd⟩).1⟩ else ⟨Z.map ZV.p,⟨bk,bh,bt⟩⟩):=hide rfl
 have HZD:Hid (zoned ⟨Z.map ZV.p,⟨bk,bh,bt⟩⟩ ⟨xk,xz,xn,xt,xd⟩=if (zoneDo (Z.map ZV.p) ⟨xk,xz,xn,xt,xd⟩).2=0 then ⟨(zoneDo (Z.map ZV.p) ⟨xk,xz,xn,xt,xd⟩).1,⟨bk,bh,bt⟩⟩ else ⟨Z.map ZV.p,⟨bk,bh,bt⟩⟩):=hide rfl
 have xR:=Lay.made1 w (.cells #[.int .i64 xk,.int .i64 xz,.int .i64 xn,.int .i64 xt,.slice ca cn cc] 50) [.int .i64 0,.int .i64 0,.slice none 0 0] 56
 have bw:Below w.heap.size w ((w.alloc (.cells #[.int .i64 xk,.int .i64 xz,.int .i64 xn,.int .i64 xt,.slice ca cn cc] 50)).alloc (.cells #[.int .i64 0,.int .i64 0,.slice none 0 0] 56)):=by (repeat first|exact bel0|assumption|refine bel1 ?_|refine bel2 ?_|refine bel3 ?_|refine belowT ?_ (by assumption)|refine bel5 ?_ (by simp;try omega))
 have hoR:∀ R,w.heap.size≤R→DV.off R ⟨za,zn,zc,Z,ka,kn,kc,bk,bh,bt⟩:=fun R hR=>h.ok.off hR
 have hBR:B≠w.heap.size + 1:=by omega
 by_cases h8:8≤xk
 ·have hcs:(xk==8)=true∨((xk==8)=false∧(xk==9)=true)∨((xk==8)=false∧(xk==9)=false∧(xk==10)=true)∨((xk==8)=false∧(xk==9)=false∧(xk==10)=false∧(xk==11)=true)∨((xk==8)=false∧(xk==9)=false∧(xk==10)=false∧(xk==11)=false∧(xk==12)=true):=by simp;omega
  have H8:=hide h8
  clear h8 hk1 hk2
  rcases hcs with t1|⟨t1,t2⟩|⟨t1,t2,t3⟩|⟨t1,t2,t3,t4⟩|⟨t1,t2,t3,t4,t5⟩
  all_goals
   go_enter Tryz.func111,Tryz.ntmps111
   go_wp2_with fail
   refine (G1.out _ (h.below bw)).mono ?_
   rintro e w1 ⟨⟨rfl,d',h1,hn,hp⟩,hb1⟩
   replace xR:=xR.butI hb1 (by omega)
   have b1:=(ButI.of_below (g:=B) bw (by omega)).trans hb1
   simp only [World.size_alloc] at hn
   have HNW:=hide (show ∀ R,R < w.heap.size→DV.off R ⟨za,zn,zc,Z,ka,kn,kc,bk,bh,bt⟩→d'.off R from fun R hR=>hn R (by omega))
   have hoff:=hn (w.heap.size + 1) (by omega) (hoR _ (by omega))
   rw [HBD.out] at hp
   have HP:=hide hp
   clear hn hp hb1
   have e0:=xR.cell 0 _ rfl
   have e1:=xR.cell 1 _ rfl
   have e2:=xR.cell 2 _ rfl
   have f0:=xR.ice 0
   have f1:=xR.ice 1
   have f2:=xR.ice 2
   generalize hfn:bookDo ⟨bk,bh,bt⟩ j ⟨xk,xz,xn,xt,xd⟩=r at *
   obtain ⟨rb,re⟩:=r
   clear hfn
   dsimp only at *
   go_wp2
   have zB:=((xR.set 0 (.int .i64 (re))).set 1 (.int .i64 (0))).set 2 (.slice none 0 0)
   have hbut:=(((ButI.refl (w.heap.size + 1) (w1)).step 0 (.int .i64 (re))).step 1 (.int .i64 (0))).step 2 (.slice none 0 0)
   generalize (((w1).setCell ⟨w.heap.size + 1,0,none⟩ (.int .i64 (re))).setCell ⟨w.heap.size + 1,1,none⟩ (.int .i64 (0))).setCell ⟨w.heap.size + 1,2,none⟩ (.slice none 0 0)=w9 at *
   have z0:=zB.cell 0 _ rfl
   have z1:=zB.cell 1 _ rfl
   have z2:=zB.cell 2 _ rfl
   refine bodyPost_ret (v:=.agg #[.int .i64 re,.int .i64 0,.slice none 0 0]) (by simp [results,Tryz.results111,go_sem,z0,z1,z2]) rfl
    ⟨⟨d',AV.err re,rfl,h1.butI hbut hBR hoff,HNW.out,AV.err_ok _ _,AV.err_new _ _,?_,?_⟩,b1.own hbut (by omega) (by omega)⟩
   ·rw [HD.out,if_pos (show 8≤xk by have:=H8.out;omega),show d'.p=_ from HP.out]
    by_cases he:re=0<;>simp [he]
   ·rw [HD.out,if_pos (by have:=H8.out;omega),AV.err_p]
    by_cases he:re=0<;>simp [he,errA,zeroA]
 ·have t1:(xk==8)=false:=by simp;omega
  have t2:(xk==9)=false:=by simp;omega
  have t3:(xk==10)=false:=by simp;omega
  have t4:(xk==11)=false:=by simp;omega
  have t5:(xk==12)=false:=by simp;omega
  have H8:=hide h8
  have hk7:xk≤7:=by omega
  clear h8 hk2
  have hoB:=h.off
  replace y0:=past2 y0
  replace y1:=past2 y1
  replace y2:=past2 y2
  replace y3:=past2 y3
  go_enter Tryz.func111,Tryz.ntmps111
  go_wp2_with fail
  go_cut [27] (fun v wx=>v=.bool (!mightB ⟨bk,bh,bt⟩ j (xk !=7))∧Below ((w.alloc (.cells #[.int .i64 xk,.int .i64 xz,.int .i64 xn,.int .i64 xt,.slice ca cn cc] 50)).alloc (.cells #[.int .i64 0,.int .i64 0,.slice none 0 0] 56)).heap.size ((w.alloc (.cells #[.int .i64 xk,.int .i64 xz,.int .i64 xn,.int .i64 xt,.slice ca cn cc] 50)).alloc (.cells #[.int .i64 0,.int .i64 0,.slice none 0 0] 56)) wx)
  case first=>
   go_region_held3 (fun w'=>w'.cell? ⟨B,1,none⟩=some (.slice ka kn kc)∧w'.cell? ⟨B,2,none⟩=some (.int .i64 bh)∧w'.cell? ⟨B,3,none⟩=some (.int .i64 bt)∧w'.cell? ⟨w.heap.size,0,none⟩=some (.int .i64 xk)∧w'.cell? ⟨w.heap.size,1,none⟩=some (.int .i64 xz)∧w'.cell? ⟨w.heap.size,2,none⟩=some (.int .i64 xn)∧w'.cell? ⟨w.heap.size,3,none⟩=some (.int .i64 xt)∧w'.cell? ⟨w.heap.size,4,none⟩=some (.slice ca cn cc)) ((first|(go_simp;done)|(simp [*,World.cell?_alloc_at,World.cell?_alloc_past,World.cell?_alloc_some,World.cell?_setCell_far];done))) (first|(go_at_call 134;refine (G2.out _ (by refine Ints.below h.ok.k (B:=w.heap.size) ?_ (Nat.le_refl _);(repeat first|exact bel0|assumption|refine bel1 ?_|refine bel2 ?_|refine bel3 ?_|refine belowT ?_ (by assumption)|refine bel5 ?_ (by simp;try omega)))).mono ?_;rintro e w1 ⟨rfl,hb1⟩;rw [HM.out];(have g0:=keepc hb1 (p:=⟨B,1,none⟩) (u:=.slice ka kn kc) (by (first|(go_simp;done)|(simp [*,World.cell?_alloc_at,World.cell?_alloc_past,World.cell?_alloc_some,World.cell?_setCell_far];done))));(have g1:=keepc hb1 (p:=⟨B,2,none⟩) (u:=.int .i64 bh) (by (first|(go_simp;done)|(simp [*,World.cell?_alloc_at,World.cell?_alloc_past,World.cell?_alloc_some,World.cell?_setCell_far];done))));(have g2:=keepc hb1 (p:=⟨B,3,none⟩) (u:=.int .i64 bt) (by (first|(go_simp;done)|(simp [*,World.cell?_alloc_at,World.cell?_alloc_past,World.cell?_alloc_some,World.cell?_setCell_far];done))));(have g3:=keepc hb1 (p:=⟨w.heap.size,0,none⟩) (u:=.int .i64 xk) (by (first|(go_simp;done)|(simp [*,World.cell?_alloc_at,World.cell?_alloc_past,World.cell?_alloc_some,World.cell?_setCell_far];done))));(have g4:=keepc hb1 (p:=⟨w.heap.size,1,none⟩) (u:=.int .i64 xz) (by (first|(go_simp;done)|(simp [*,World.cell?_alloc_at,World.cell?_alloc_past,World.cell?_alloc_some,World.cell?_setCell_far];done))));(have g5:=keepc hb1 (p:=⟨w.heap.size,2,none⟩) (u:=.int .i64 xn) (by (first|(go_simp;done)|(simp [*,World.cell?_alloc_at,World.cell?_alloc_past,World.cell?_alloc_some,World.cell?_setCell_far];done))));(have g6:=keepc hb1 (p:=⟨w.heap.size,3,none⟩) (u:=.int .i64 xt) (by (first|(go_simp;done)|(simp [*,World.cell?_alloc_at,World.cell?_alloc_past,World.cell?_alloc_some,World.cell?_setCell_far];done))));(have g7:=keepc hb1 (p:=⟨w.heap.size,4,none⟩) (u:=.slice ca cn cc) (by (first|(go_simp;done)|(simp [*,World.cell?_alloc_at,World.cell?_alloc_past,World.cell?_alloc_some,World.cell?_setCell_far];done))))))
   go_wp2_with fail
   go_meet
   case rel=>exact ⟨rfl,by (repeat first|exact bel0|assumption|refine bel1 ?_|refine bel2 ?_|refine bel3 ?_|refine belowT ?_ (by assumption)|refine bel5 ?_ (by simp;try omega))⟩
  case rest=>
   obtain ⟨rfl,hbc⟩:=hcut
   replace xR:=xR.below hbc
   replace bw:=belowT bw hbc
   have h1:=h.below bw
   have hx1:=hx.below bw (Nat.le_refl _)
   have k0:=keepc hbc (p:=⟨w.heap.size,0,none⟩) (u:=.int .i64 xk) (by go_simp)
   have k1:=keepc hbc (p:=⟨w.heap.size,1,none⟩) (u:=.int .i64 xz) (by go_simp)
   have k2:=keepc hbc (p:=⟨w.heap.size,2,none⟩) (u:=.int .i64 xn) (by go_simp)
   have k3:=keepc hbc (p:=⟨w.heap.size,3,none⟩) (u:=.int .i64 xt) (by go_simp)
   have k4:=keepc hbc (p:=⟨w.heap.size,4,none⟩) (u:=.slice ca cn cc) (by go_simp)
   replace y0:=keepc hbc (y0 _ _)
   have hs:=hbc.size
   simp only [World.size_alloc] at hs
   clear hbc y1 y2 y3
   have e0:=xR.cell 0 _ rfl
   have e1:=xR.cell 1 _ rfl
   have e2:=xR.cell 2 _ rfl
   have f0:=xR.ice 0
   have f1:=xR.ice 1
   have f2:=xR.ice 2
   have bB:=ButI.of_below (g:=B) bw (by omega)
   cases hm:mightB ⟨bk,bh,bt⟩ j (xk !=7)
   ·have HMB:=hide hm
    clear hm
    go_wp2
    have zB:=((xR.set 0 (.int .i64 (8))).set 1 (.int .i64 (0))).set 2 (.slice none 0 0)
    have hbut:=(((ButI.refl (w.heap.size + 1) (wc)).step 0 (.int .i64 (8))).step 1 (.int .i64 (0))).step 2 (.slice none 0 0)
    generalize (((wc).setCell ⟨w.heap.size + 1,0,none⟩ (.int .i64 (8))).setCell ⟨w.heap.size + 1,1,none⟩ (.int .i64 (0))).setCell ⟨w.heap.size + 1,2,none⟩ (.slice none 0 0)=w9 at *
    have z0:=zB.cell 0 _ rfl
    have z1:=zB.cell 1 _ rfl
    have z2:=zB.cell 2 _ rfl
    refine bodyPost_ret (v:=.agg #[.int .i64 8,.int .i64 0,.slice none 0 0]) (by simp [results,Tryz.results111,go_sem,z0,z1,z2]) rfl
     ⟨⟨_,AV.err 8,rfl,h1.butI hbut hBR (hoR _ (by omega)),fun R _ ho=>ho,AV.err_ok _ _,AV.err_new _ _,?_,?_⟩,bB.own hbut (by omega) (by omega)⟩
    ·rw [HD.out,if_neg (by have:=H8.out;omega),if_pos HMB.out]
     rfl
    ·rw [HD.out,if_neg (by have:=H8.out;omega),if_pos HMB.out]
     rfl
   ·have HMB:=hide (show ¬ mightB ⟨bk,bh,bt⟩ j (xk !=7)=false by rw [hm];simp)
    clear hm
    by_cases h7:xk=7
    ·have t7:(xk==7)=true:=by simpa using h7
     have HR:=hide (show doneD ⟨Z.map ZV.p,⟨bk,bh,bt⟩⟩ j ⟨xk,xz,xn,xt,xd⟩=(⟨Z.map ZV.p,⟨bk,bh,bt⟩⟩,readD (Z.map ZV.p) ⟨xk,xz,xn,xt,xd⟩) by rw [HD.out,if_neg (by have:=H8.out;omega),if_neg HMB.out,if_pos h7])
     clear h7 HD
     go_upto_region 12 with fail
     go_cut [6] (fun v wx=>v=.pointer (some ⟨w.heap.size + 1,0,none⟩)∧∃ y:AV,y.ok wx∧y.new w.heap.size∧y.p=readD (Z.map ZV.p) ⟨xk,xz,xn,xt,xd⟩∧Lay wx (w.heap.size + 1) [.int .i64 y.e,.int .i64 y.t,.slice y.a y.n y.c]∧DBox wx B ⟨za,zn,zc,Z,ka,kn,kc,bk,bh,bt⟩∧ButI B w wx)
     case first=>
      go_region_held3 (fun w'=>w'.cell? ⟨B,0,none⟩=some (.slice za zn zc)∧w'.cell? ⟨w.heap.size,0,none⟩=some (.int .i64 xk)∧w'.cell? ⟨w.heap.size,1,none⟩=some (.int .i64 xz)∧w'.cell? ⟨w.heap.size,2,none⟩=some (.int .i64 xn)∧w'.cell? ⟨w.heap.size,3,none⟩=some (.int .i64 xt)∧w'.cell? ⟨w.heap.size,4,none⟩=some (.slice ca cn cc)) ((first|(go_simp;done)|(simp [*,World.cell?_alloc_at,World.cell?_alloc_past,World.cell?_alloc_some,World.cell?_setCell_far];done))) (first|(go_at_call 135;refine (G3.out _ (by refine Zones.below h1.ok.z (B:=wc.heap.size) ?_ (Nat.le_refl _);(repeat first|exact bel0|assumption|refine bel1 ?_|refine bel2 ?_|refine bel3 ?_|refine belowT ?_ (by assumption)|refine bel5 ?_ (by simp;try omega)))).mono ?_;rintro e w1 ⟨⟨⟨ye,yt,ya,yn,yc,yd⟩,rfl,yok,ynew,yp⟩,hb1⟩;(have g0:=keepc hb1 (p:=⟨B,0,none⟩) (u:=.slice za zn zc) (by (first|(go_simp;done)|(simp [*,World.cell?_alloc_at,World.cell?_alloc_past,World.cell?_alloc_some,World.cell?_setCell_far];done))));(have g1:=keepc hb1 (p:=⟨w.heap.size,0,none⟩) (u:=.int .i64 xk) (by (first|(go_simp;done)|(simp [*,World.cell?_alloc_at,World.cell?_alloc_past,World.cell?_alloc_some,World.cell?_setCell_far];done))));(have g2:=keepc hb1 (p:=⟨w.heap.size,1,none⟩) (u:=.int .i64 xz) (by (first|(go_simp;done)|(simp [*,World.cell?_alloc_at,World.cell?_alloc_past,World.cell?_alloc_some,World.cell?_setCell_far];done))));(have g3:=keepc hb1 (p:=⟨w.heap.size,2,none⟩) (u:=.int .i64 xn) (by (first|(go_simp;done)|(simp [*,World.cell?_alloc_at,World.cell?_alloc_past,World.cell?_alloc_some,World.cell?_setCell_far];done))));(have g4:=keepc hb1 (p:=⟨w.heap.size,3,none⟩) (u:=.int .i64 xt) (by (first|(go_simp;done)|(simp [*,World.cell?_alloc_at,World.cell?_alloc_past,World.cell?_alloc_some,World.cell?_setCell_far];done))));(have g5:=keepc hb1 (p:=⟨w.heap.size,4,none⟩) (u:=.slice ca cn cc) (by (first|(go_simp;done)|(simp [*,World.cell?_alloc_at,World.cell?_alloc_past,World.cell?_alloc_some,World.cell?_setCell_far];done))));(have xR1:=xR.below (w':=w1) (by (repeat first|exact bel0|assumption|refine bel1 ?_|refine bel2 ?_|refine bel3 ?_|refine belowT ?_ (by assumption)|refine bel5 ?_ (by simp;try omega))));(have e0:=xR1.cell 0 _ rfl);(have e1:=xR1.cell 1 _ rfl);(have e2:=xR1.cell 2 _ rfl);(have f0:=xR1.ice 0);(have f1:=xR1.ice 1);(have f2:=xR1.ice 2);unfold AV.v;dsimp only))
      have bc1:Below wc.heap.size wc w1:=by (repeat first|exact bel0|assumption|refine bel1 ?_|refine bel2 ?_|refine bel3 ?_|refine belowT ?_ (by assumption)|refine bel5 ?_ (by simp;try omega))
      have hs1:=hb1.size
      go_wp2_with fail
      go_meet
      case rel=>
       have zB:=((xR1.set 0 (.int .i64 ye)).set 1 (.int .i64 yt)).set 2 (.slice ya yn yc)
       have hbut:=(((ButI.refl (w.heap.size + 1) w1).step 0 (.int .i64 ye)).step 1 (.int .i64 yt)).step 2 (.slice ya yn yc)
       exact ⟨rfl,⟨ye,yt,ya,yn,yc,yd⟩,AV.ok.but yok hbut.but (ynew _ (by first|exact hs|(simp;exact hs)|(simp;omega))),AV.new.mono ynew (by first|omega|(simp;omega)),yp,zB,(h1.below bc1).butI hbut hBR (hoR _ (by omega)),(bB.trans (ButI.of_below bc1 (by omega))).own hbut (by omega) (by omega)⟩
     case rest=>
      obtain ⟨rfl,y,yok,ynew,yp,zB,hbx,hbt⟩:=hcut
      have z0:=zB.cell 0 _ rfl
      have z1:=zB.cell 1 _ rfl
      have z2:=zB.cell 2 _ rfl
      have YP:=hide yp
      clear yp
      go_wp2
      exact bodyPost_ret (v:=y.v) (by simp [results,Tryz.results111,go_sem,AV.v,z0,z1,z2]) rfl
       ⟨⟨_,y,rfl,hbx,fun R _ ho=>ho,yok,ynew,by rw [HR.out];rfl,by rw [HR.out,YP.out]⟩,hbt⟩
    ·have t7:(xk==7)=false:=by simpa using h7
     by_cases h56:xk=5∨xk=6
     ·have HR:=hide (show doneD ⟨Z.map ZV.p,⟨bk,bh,bt⟩⟩ j ⟨xk,xz,xn,xt,xd⟩=writeD ⟨Z.map ZV.p,⟨bk,bh,bt⟩⟩ ⟨xk,xz,xn,xt,xd⟩ by rw [HD.out,if_neg (by have:=H8.out;omega),if_neg HMB.out,if_neg h7,if_pos h56])
      have hcs:(xk==5)=true∨(xk==5)=false∧(xk==6)=true:=by simp;omega
      clear h7 h56 HD
      rcases hcs with u1|⟨u1,u2⟩
      all_goals
       go_wp2_with fail
       refine (G4.out _ h1 hx1).mono ?_
       rintro e w1 ⟨⟨d',⟨ye,yt,ya,yn,yc,yd⟩,rfl,h2,hn,yok,ynew,dp,yp⟩,hb1⟩
       replace xR:=xR.butI hb1 (by omega)
       have b1:=bB.trans hb1
       have HNW:=hide (show ∀ R,R < w.heap.size→DV.off R ⟨za,zn,zc,Z,ka,kn,kc,bk,bh,bt⟩→d'.off R from fun R hR=>hn R (by omega))
       have hoff:=hn (w.heap.size + 1) (by omega) (hoR _ (by omega))
       have DPH:=hide dp
       have YPH:=hide yp
       clear hn dp yp hb1 e0 e1 e2 f0 f1 f2
       unfold AV.v
       dsimp only
       have e0:=xR.cell 0 _ rfl
       have e1:=xR.cell 1 _ rfl
       have e2:=xR.cell 2 _ rfl
       have f0:=xR.ice 0
       have f1:=xR.ice 1
       have f2:=xR.ice 2
       go_wp2
       have zB:=((xR.set 0 (.int .i64 (ye))).set 1 (.int .i64 (yt))).set 2 (.slice ya yn yc)
       have hbut:=(((ButI.refl (w.heap.size + 1) (w1)).step 0 (.int .i64 (ye))).step 1 (.int .i64 (yt))).step 2 (.slice ya yn yc)
       generalize (((w1).setCell ⟨w.heap.size + 1,0,none⟩ (.int .i64 (ye))).setCell ⟨w.heap.size + 1,1,none⟩ (.int .i64 (yt))).setCell ⟨w.heap.size + 1,2,none⟩ (.slice ya yn yc)=w9 at *
       have z0:=zB.cell 0 _ rfl
       have z1:=zB.cell 1 _ rfl
       have z2:=zB.cell 2 _ rfl
       exact bodyPost_ret (v:=.agg #[.int .i64 ye,.int .i64 yt,.slice ya yn yc]) (by simp [results,Tryz.results111,go_sem,z0,z1,z2]) rfl
        ⟨⟨d',⟨ye,yt,ya,yn,yc,yd⟩,rfl,h2.butI hbut hBR hoff,HNW.out,AV.ok.but yok hbut.but (ynew _ (by omega)),AV.new.mono ynew (by omega),by rw [HR.out];exact DPH.out,by rw [HR.out];exact YPH.out⟩,b1.own hbut (by omega) (by omega)⟩
     ·have HR:=hide (show doneD ⟨Z.map ZV.p,⟨bk,bh,bt⟩⟩ j ⟨xk,xz,xn,xt,xd⟩=if (zoneDo (Z.map ZV.p) ⟨xk,xz,xn,xt,xd⟩).2≠0 then (⟨Z.map ZV.p,⟨bk,bh,bt⟩⟩,errA (zoneDo (Z.map ZV.p) ⟨xk,xz,xn,xt,xd⟩).2) else (⟨(zoneDo (Z.map ZV.p) ⟨xk,xz,xn,xt,xd⟩).1,⟨bk,bh,bt⟩⟩,zeroA) by rw [HD.out,if_neg (by have:=H8.out;omega),if_neg HMB.out,if_neg h7,if_neg h56])
      have u1:(xk==5)=false:=by simp;omega
      have u2:(xk==6)=false:=by simp;omega
      clear h7 h56 HD
      go_wp2_with fail
      refine (G5.out _ h1).mono ?_
      rintro e w1 ⟨⟨rfl,d',h2,hn,hp⟩,hb1⟩
      replace xR:=xR.butI hb1 (by omega)
      have b1:=bB.trans hb1
      have HNW:=hide (show ∀ R,R < w.heap.size→DV.off R ⟨za,zn,zc,Z,ka,kn,kc,bk,bh,bt⟩→d'.off R from fun R hR=>hn R (by omega))
      have hoff:=hn (w.heap.size + 1) (by omega) (hoR _ (by omega))
      rw [HZD.out] at hp
      have HP:=hide hp
      clear hn hp hb1 e0 e1 e2 f0 f1 f2
      have e0:=xR.cell 0 _ rfl
      have e1:=xR.cell 1 _ rfl
      have e2:=xR.cell 2 _ rfl
      have f0:=xR.ice 0
      have f1:=xR.ice 1
      have f2:=xR.ice 2
      generalize hfn:zoneDo (Z.map ZV.p) ⟨xk,xz,xn,xt,xd⟩=r at *
      obtain ⟨rb,re⟩:=r
      clear hfn
      dsimp only at *
      go_wp2
      have zB:=((xR.set 0 (.int .i64 (re))).set 1 (.int .i64 (0))).set 2 (.slice none 0 0)
      have hbut:=(((ButI.refl (w.heap.size + 1) (w1)).step 0 (.int .i64 (re))).step 1 (.int .i64 (0))).step 2 (.slice none 0 0)
      generalize (((w1).setCell ⟨w.heap.size + 1,0,none⟩ (.int .i64 (re))).setCell ⟨w.heap.size + 1,1,none⟩ (.int .i64 (0))).setCell ⟨w.heap.size + 1,2,none⟩ (.slice none 0 0)=w9 at *
      have z0:=zB.cell 0 _ rfl
      have z1:=zB.cell 1 _ rfl
      have z2:=zB.cell 2 _ rfl
      refine bodyPost_ret (v:=.agg #[.int .i64 re,.int .i64 0,.slice none 0 0]) (by simp [results,Tryz.results111,go_sem,z0,z1,z2]) rfl
       ⟨⟨d',AV.err re,rfl,h2.butI hbut hBR hoff,HNW.out,AV.err_ok _ _,AV.err_new _ _,?_,?_⟩,b1.own hbut (by omega) (by omega)⟩
      ·rw [show d'.p=_ from HP.out,HR.out]
       by_cases he:re=0<;>simp [he]
      ·rw [HR.out,AV.err_p]
       by_cases he:re=0<;>simp [he,errA,zeroA]
end Go.Proofs.YtabafikicbkkdaaGreatDoor
