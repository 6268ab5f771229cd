/- The contracts of hall's copy of an answer, and of checkLast; no condition but that the arguments read as data. -/
import Derived.Test.YtabafikicbkkdaaGreatDoorSU11
import Derived.Test.YtabafikicbkkdaaGreatDoorSU20
import Derived.Deep.RegionHeld3
import Derived.Test.YtabafikicbkkdaaGreatDoorSU17
import Derived.Test.YtabafikicbkkdaaGreatDoorSU2
import Derived.Test.YtabafikicbkkdaaGreatDoorSU24
import Derived.Test.YtabafikicbkkdaaGreatDoorSU10
namespace Go.Proofs.YtabafikicbkkdaaGreatDoor
open Go.RowKit
set_option linter.unusedVariables false
set_option maxHeartbeats 4000000
set_option maxRecDepth 100000
set_option linter.unusedSimpArgs false
theorem hwholeA_c (x:AV) (w:World) (h:x.ok w) (hn:x.n≤100000) :
  Calls Tryz.prog 61 #[x.v] w fun e w'=>(∃ q,e=.returned (.agg #[.int .i64 x.e,.int .i64 x.t,.slice (some ⟨q,0,none⟩) x.n x.n])∧Ints w' (some ⟨q,0,none⟩) x.n x.n x.d∧w.heap.size≤q)∧Below w.heap.size w w':=
 (pwholeA_c x w h hn).mono fun e w' ⟨⟨q,h1,h2,h3,_⟩,h4⟩=>⟨⟨q,h1,h2,h3⟩,h4⟩
theorem hcheckLast_c (y:LV) (w:World) (h:y.ok w):Calls Tryz.prog 106 #[y.v] w fun e w'=>e=.returned (.int .i64 (checkL y.p))∧Below w.heap.size w w':=by
 obtain ⟨s,⟨ee,tt,a,n,c,l⟩⟩:=y
 have hI:Ints w a n c l:=h
 have HA:Hid (∀ w':World,Ints w' a n c l→Calls Tryz.prog 70 #[.agg #[.int .i64 ee,.int .i64 tt,.slice a n c]] w' fun e w''=>e=.returned (.int .i64 (checkA ⟨ee,tt,l⟩))∧Below w'.heap.size w' w''):=hide (fun w' h'=>DCheckAnswer_c ⟨ee,tt,a,n,c,l⟩ w' h')
 have HS:Hid (∀ w':World,Ints w' a n c l→Calls Tryz.prog 44 #[.agg #[.int .i64 ee,.int .i64 tt,.slice a n c],.agg #[.int .i64 0,.int .i64 0,.slice none 0 0]] w' fun e w''=>e=.returned (.bool (sameA ⟨ee,tt,l⟩ zeroA))∧Below w'.heap.size w' w''):=hide (fun w' h'=>psameA_c ⟨ee,tt,a,n,c,l⟩ (AV.err 0) w' h' (AV.err_ok w' 0))
 have HC:Hid (checkL (LV.p ⟨s,⟨ee,tt,a,n,c,l⟩⟩)=if inB s 0 40=false then 3 else if checkA ⟨ee,tt,l⟩≠0 then checkA ⟨ee,tt,l⟩ else if s=0∧sameA ⟨ee,tt,l⟩ zeroA=false then 4 else 0):=hide rfl
 generalize checkL _=r at *
 generalize checkA _=ca at *
 generalize sameA _ _=sa at *
 dsimp only [LV.v] at *
 clear h
 rcases (by omega:s < 0∨(0≤s∧40 < s)∨(0≤s∧s≤40)) with h1|⟨h0,h1⟩|⟨h0,h1⟩
 ·have HB:Hid (inB s 0 40=false):=hide (by simp [inB];omega)
  go_enter Tryz.func106,Tryz.ntmps106
  go_wp2
  go_ret
  exact ⟨ret_int (by rw [HC.out,if_pos HB.out]),by (repeat first|exact bel0|assumption|refine bel1 ?_|refine bel2 ?_|refine bel3 ?_|refine belowT ?_ (by assumption)|refine bel5 ?_ (by simp;try omega))⟩
 ·have HB:Hid (inB s 0 40=false):=hide (by simp [inB];omega)
  go_enter Tryz.func106,Tryz.ntmps106
  go_wp2
  go_ret
  exact ⟨ret_int (by rw [HC.out,if_pos HB.out]),by (repeat first|exact bel0|assumption|refine bel1 ?_|refine bel2 ?_|refine bel3 ?_|refine belowT ?_ (by assumption)|refine bel5 ?_ (by simp;try omega))⟩
 ·have HB:Hid (¬ (inB s 0 40=false)):=hide (by simp [inB];omega)
  go_enter Tryz.func106,Tryz.ntmps106
  go_wp2_with fail
  refine (HA.out _ (hI.below (B:=w.heap.size) (by (repeat first|exact bel0|assumption|refine bel1 ?_|refine bel2 ?_|refine bel3 ?_|refine belowT ?_ (by assumption)|refine bel5 ?_ (by simp;try omega))) (Nat.le_refl _))).mono ?_
  rintro e w1 ⟨rfl,hb1⟩
  have c1:=keepc hb1 (p:=⟨w.heap.size,0,none⟩) (u:=.int .i64 s) (by go_simp)
  have c2:=keepc hb1 (p:=⟨w.heap.size,1,none⟩) (u:=.int .i64 ee) (by go_simp)
  have c3:=keepc hb1 (p:=⟨w.heap.size,2,none⟩) (u:=.int .i64 tt) (by go_simp)
  have c4:=keepc hb1 (p:=⟨w.heap.size,3,none⟩) (u:=.slice a n c) (by go_simp)
  have bw:Below w.heap.size w w1:=by (repeat first|exact bel0|assumption|refine bel1 ?_|refine bel2 ?_|refine bel3 ?_|refine belowT ?_ (by assumption)|refine bel5 ?_ (by simp;try omega))
  clear hb1
  cases e1:ca !=0
  ·cases e2:s==0
   ·go_wp2
    go_ret
    exact ⟨ret_int (by simp at e1 e2;rw [HC.out,if_neg HB.out,if_neg (by simp [e1]),if_neg (by simp [e2])]),bw⟩
   ·go_wp2_with fail
    refine (HS.out _ (hI.below (B:=w.heap.size) (by (repeat first|exact bel0|assumption|refine bel1 ?_|refine bel2 ?_|refine bel3 ?_|refine belowT ?_ (by assumption)|refine bel5 ?_ (by simp;try omega))) (Nat.le_refl _))).mono ?_
    rintro e w2 ⟨rfl,hb2⟩
    have bw2:Below w.heap.size w w2:=by (repeat first|exact bel0|assumption|refine bel1 ?_|refine bel2 ?_|refine bel3 ?_|refine belowT ?_ (by assumption)|refine bel5 ?_ (by simp;try omega))
    clear hb2
    cases sa
    ·go_wp2
     go_ret
     exact ⟨ret_int (by simp at e1 e2;rw [HC.out,if_neg HB.out,if_neg (by simp [e1]),if_pos (by simp [e2])]),bw2⟩
    ·go_wp2
     go_ret
     exact ⟨ret_int (by simp at e1 e2;rw [HC.out,if_neg HB.out,if_neg (by simp [e1]),if_neg (by simp)]),bw2⟩
  ·go_wp2
   go_ret
   exact ⟨ret_int (by simp at e1;rw [HC.out,if_neg HB.out,if_pos (by simp [e1])]),bw⟩
end Go.Proofs.YtabafikicbkkdaaGreatDoor
namespace Go.Proofs.YtabafikicbkkdaaGreatDoor
open Go.RowKit
set_option linter.unusedVariables false
set_option maxHeartbeats 4000000
set_option maxRecDepth 100000
set_option linter.unusedSimpArgs false
theorem sameL_eq (x y:PL):sameL x y=(x.s==y.s&&sameA x.a y.a):=by
 have e:decide (x.s=y.s)=(x.s==y.s):=by rw [Bool.eq_iff_iff];simp
 unfold sameL
 rw [e]
theorem hsame1_c (x y:LV) (w:World) (hx:x.ok w) (hy:y.ok w):Calls Tryz.prog 43 #[x.v,y.v] w fun e w'=>e=.returned (.bool (sameL x.p y.p))∧Below w.heap.size w w':=by
 have HA:=hide (fun w' (h1:x.x.ok w') (h2:y.x.ok w')=>psameA_c x.x y.x w' h1 h2)
 have HS:Hid (sameL x.p y.p=(x.s==y.s&&sameA x.x.p y.x.p)):=hide (sameL_eq x.p y.p)
 obtain ⟨s1,⟨e1,t1,a1,n1,c1,l1⟩⟩:=x
 obtain ⟨s2,⟨e2,t2,a2,n2,c2,l2⟩⟩:=y
 generalize sameL _ _=r at *
 generalize sameA _ _=sa at *
 dsimp only [LV.v,AV.v] at *
 cases he:s1==s2
 ·go_enter Tryz.func43,Tryz.ntmps43
  go_wp2
  go_ret
  exact ⟨ret_bool (by rw [HS.out,he];rfl),by (repeat first|exact bel0|assumption|refine bel1 ?_|refine bel2 ?_|refine bel3 ?_|refine belowT ?_ (by assumption)|refine bel5 ?_ (by simp;try omega))⟩
 ·go_enter Tryz.func43,Tryz.ntmps43
  go_wp2_with fail
  refine (HA.out _ (AV.ok.below hx (B:=w.heap.size) (by (repeat first|exact bel0|assumption|refine bel1 ?_|refine bel2 ?_|refine bel3 ?_|refine belowT ?_ (by assumption)|refine bel5 ?_ (by simp;try omega))) (Nat.le_refl _)) (AV.ok.below hy (B:=w.heap.size) (by (repeat first|exact bel0|assumption|refine bel1 ?_|refine bel2 ?_|refine bel3 ?_|refine belowT ?_ (by assumption)|refine bel5 ?_ (by simp;try omega))) (Nat.le_refl _))).mono ?_
  rintro e w1 ⟨rfl,hb1⟩
  go_wp2
  go_ret
  exact ⟨ret_bool (by rw [HS.out,he];rfl),by (repeat first|exact bel0|assumption|refine bel1 ?_|refine bel2 ?_|refine bel3 ?_|refine belowT ?_ (by assumption)|refine bel5 ?_ (by simp;try omega))⟩
theorem EqL_some (b1 o1 m1 b2 o2 m2 n:Nat) (X Y:List LV) (w:World) (h1:Lasts w (some ⟨b1,o1,none⟩) n m1 X) (h2:Lasts w (some ⟨b2,o2,none⟩) n m2 Y)
  (hr1:∀ i x,X[i]?=some x→∀ j v,x.cells[j]?=some v→w.cell? ⟨b1,o1 + i * 4 + j,none⟩=some v)
  (hr2:∀ i x,Y[i]?=some x→∀ j v,x.cells[j]?=some v→w.cell? ⟨b2,o2 + i * 4 + j,none⟩=some v) :
  Calls Tryz.prog 42 #[.slice (some ⟨b1,o1,none⟩) n m1,.slice (some ⟨b2,o2,none⟩) n m2,.func (Fn.func 43) #[] #[]] w fun e w'=>e=.returned (.bool (sameLs (X.map LV.p) (Y.map LV.p)))∧Below w.heap.size w w':=by
 have hlen1:=hide h1.len
 have hlen2:=hide h2.len
 have hmax:=h1.max
 have hle:=h1.le
 go_enter Tryz.func42,Tryz.ntmps42
 go_wp2
 go_loopw [17] (fun i wr=>∃ k:Nat,k≤n∧i=.int .i64 k∧(X.take k).map LV.p=(Y.take k).map LV.p∧Below w.heap.size w wr) (fun i _=>n - (intOf i).toNat)
 case atStart=>exact ⟨0,by omega,rfl,by simp,Below.refl _ _⟩
 case round=>
  obtain ⟨k,hk,rfl,hp,hbr⟩:=hrel
  have HP:=hide hp
  clear hp
  rename_i wr
  by_cases hlt:k < n
  ·obtain ⟨x,hx⟩:∃ z,X[k]?=some z:=⟨X[k]'(by rw [hlen1.out];exact hlt),by simp⟩
   obtain ⟨y,hy⟩:∃ z,Y[k]?=some z:=⟨Y[k]'(by rw [hlen2.out];exact hlt),by simp⟩
   have ix:=LV.ok.below (h1.ok x (List.mem_of_getElem? hx)) hbr (Nat.le_refl _)
   have iy:=LV.ok.below (h2.ok y (List.mem_of_getElem? hy)) hbr (Nat.le_refl _)
   have HZ:=hide hx
   have HY:=hide hy
   have HS:=hide (fun w' h k=>hsame1_c x y w' h k)
   have HT:Hid (sameL x.p y.p=true→x.p=y.p):=hide (sameL_iff _ _).1
   have HF:Hid (sameL x.p y.p=false→x.p≠y.p):=hide (fun h e=>by rw [(sameL_iff _ _).2 e] at h;cases h)
   have kx:=hr1 k x hx
   have ky:=hr2 k y hy
   clear hx hy
   generalize hsm:sameL x.p y.p=sm at *
   clear hsm
   obtain ⟨s1,⟨e1,t1,a1,n1,c1,d1⟩⟩:=x
   obtain ⟨s2,⟨e2,t2,a2,n2,c2,d2⟩⟩:=y
   dsimp only [LV.v] at HS
   have x0:=keepc hbr (kx 0 _ rfl)
   have x1:=keepc hbr (kx 1 _ rfl)
   have x2:=keepc hbr (kx 2 _ rfl)
   have x3:=keepc hbr (kx 3 _ rfl)
   have y0:=past1 (keepc hbr (ky 0 _ rfl))
   have y1:=past1 (keepc hbr (ky 1 _ rfl))
   have y2:=past1 (keepc hbr (ky 2 _ rfl))
   have y3:=past1 (keepc hbr (ky 3 _ rfl))
   rw [Nat.add_zero] at x0 y0
   clear kx ky
   have hlt':(k:Int) < (n:Int):=by omega
   go_wp2_with fail
   refine (HS.out _ (LV.ok.below ix (B:=wr.heap.size) (by (repeat first|exact bel0|assumption|refine bel1 ?_|refine bel2 ?_|refine bel3 ?_|refine belowT ?_ (by assumption)|refine bel5 ?_ (by simp;try omega))) (Nat.le_refl _)) (LV.ok.below iy (B:=wr.heap.size) (by (repeat first|exact bel0|assumption|refine bel1 ?_|refine bel2 ?_|refine bel3 ?_|refine belowT ?_ (by assumption)|refine bel5 ?_ (by simp;try omega))) (Nat.le_refl _))).mono ?_
   rintro e w9 ⟨rfl,hb9⟩
   have b9:Below w.heap.size w w9:=by (repeat first|exact bel0|assumption|refine bel1 ?_|refine bel2 ?_|refine bel3 ?_|refine belowT ?_ (by assumption)|refine bel5 ?_ (by simp;try omega))
   clear hb9
   cases sm
   ·have HNE:=hide (HF.out rfl)
    clear HF HT
    go_wp2
    go_ret
    refine ⟨ret_bool (sameLs_f fun e=>?_).symm,b9⟩
    have:=congrArg (fun L=>L[k]?) e
    simp only [List.getElem?_map,HZ.out,HY.out,Option.map_some,Option.some.injEq] at this
    exact HNE.out this
   ·have HEQ:=hide (HT.out rfl)
    clear HF HT
    go_wp2
    have e:=HEQ.out
    refine ⟨⟨k + 1,by omega,by go_num,?_,b9⟩,by simp [intOf];omega⟩
    obtain ⟨g1,g2⟩:=List.getElem?_eq_some_iff.1 HZ.out
    obtain ⟨g3,g4⟩:=List.getElem?_eq_some_iff.1 HY.out
    rw [List.take_succ_eq_append_getElem g1,List.take_succ_eq_append_getElem g3,List.map_append,List.map_append,HP.out,g2,g4]
    simpa using e
  ·obtain rfl:k=n:=by omega
   go_wp2
   go_ret
   have hp:=HP.out
   rw [List.take_of_length_le (by rw [hlen1.out];omega),List.take_of_length_le (by rw [hlen2.out];omega)] at hp
   exact ⟨ret_bool (sameLs_t hp).symm,hbr⟩
theorem EqL_ne (a1 a2:Option Addr) (n1 n2 c1 c2:Nat) (fv:Value) (w:World) (hne:n1≠n2) (hm1:n1≤9223372036854775807) (hm2:n2≤9223372036854775807) :
  Calls Tryz.prog 42 #[.slice a1 n1 c1,.slice a2 n2 c2,fv] w fun e w'=>e=.returned (.bool false)∧w'=w:=by
 have hb:((n1:Int) !=(n2:Int))=true:=by simp;omega
 go_enter Tryz.func42,Tryz.ntmps42
 go_wp2
 go_ret
 exact ⟨rfl,rfl⟩
theorem EqL_zero (a1 a2:Option Addr) (c1 c2:Nat) (fv:Value) (w:World) :
  Calls Tryz.prog 42 #[.slice a1 0 c1,.slice a2 0 c2,fv] w fun e w'=>e=.returned (.bool true)∧w'=w:=by
 go_enter Tryz.func42,Tryz.ntmps42
 go_wp2
 refine wp_loop_rounds 1 ?_
 rw [rounds_succ]
 go_wp2
 go_ret
 exact ⟨rfl,rfl⟩
theorem EqL_c (a1 a2:Option Addr) (n1 n2 c1 c2:Nat) (X Y:List LV) (w:World) (h1:Lasts w a1 n1 c1 X) (h2:Lasts w a2 n2 c2 Y) :
  Calls Tryz.prog 42 #[.slice a1 n1 c1,.slice a2 n2 c2,.func (Fn.func 43) #[] #[]] w fun e w'=>e=.returned (.bool (sameLs (X.map LV.p) (Y.map LV.p)))∧Below w.heap.size w w':=by
 by_cases hn:n1=n2
 ·subst hn
  by_cases h0:n1=0
  ·subst h0
   have e1:=h1.len
   have e2:=h2.len
   rw [List.length_eq_zero_iff] at e1 e2
   subst e1 e2
   refine (EqL_zero a1 a2 c1 c2 _ w).mono ?_
   rintro e w' ⟨rfl,rfl⟩
   exact ⟨rfl,Below.refl _ _⟩
  ·rcases h1.row with h|⟨b1,o1,rfl,_,hr1⟩
   ·omega
   ·rcases h2.row with h|⟨b2,o2,rfl,_,hr2⟩
    ·omega
    ·exact EqL_some b1 o1 c1 b2 o2 c2 n1 X Y w h1 h2 hr1 hr2
 ·have m1:=h1.max
  have m2:=h2.max
  have q1:=h1.le
  have q2:=h2.le
  refine (EqL_ne a1 a2 n1 n2 c1 c2 _ w hn (by omega) (by omega)).mono ?_
  rintro e w' ⟨rfl,rfl⟩
  refine ⟨ret_bool (sameLs_f fun e=>hn ?_).symm,Below.refl _ _⟩
  have:=congrArg List.length e
  rw [List.length_map,List.length_map,h1.len,h2.len] at this
  exact this
theorem HSame_c (h f:HV) (w:World) (hk:h.ok w) (hf:f.ok w):Calls Tryz.prog 20 #[h.v,f.v] w fun e w'=>e=.returned (.bool (sameH h.p f.p))∧Below w.heap.size w w':=by
 have HD:=hide (fun w' (h1:h.d.ok w') (h2:f.d.ok w')=>DSame_c h.d f.d w' h1 h2)
 have HL:=hide (fun w' h1 h2=>EqL_c h.a f.a h.n f.n h.c f.c h.L f.L w' h1 h2)
 have HS:Hid (sameH h.p f.p=(sameD h.d.p f.d.p&&sameLs (h.L.map LV.p) (f.L.map LV.p))):=hide rfl
 obtain ⟨x0,x1,bw⟩:=two_boxes w h.cells f.cells 33 33
 have hok:=hk.below bw (Nat.le_refl _)
 have fok:=hf.below bw (Nat.le_refl _)
 generalize sameH _ _=r at *
 generalize sameD _ _=sd at *
 generalize sameLs _ _=sl at *
 rw [show h.v=.agg h.cells.toArray from rfl,show f.v=.agg f.cells.toArray from rfl] at *
 obtain ⟨⟨za,zn,zc,Z,ka,kn,kc,bk,bh,bt⟩,a,n,c,L⟩:=h
 obtain ⟨⟨ya,yn,yc,Y,la,ln,lc,fk,fh,ft⟩,b,m,d,M⟩:=f
 dsimp only [HV.cells,DV.v] at *
 go_enter Tryz.func20,Tryz.ntmps20
 go_wp2_with fail
 refine (HD.out _ hok.d fok.d).mono ?_
 rintro e w1 ⟨rfl,hb1⟩
 have c1:=keepc hb1 (x0.cell 4 _ rfl)
 have c2:=keepc hb1 (x1.cell 4 _ rfl)
 replace hok:=hok.below hb1 (Nat.le_refl _)
 replace fok:=fok.below hb1 (Nat.le_refl _)
 replace bw:=belowT bw hb1
 clear hb1 x0 x1
 cases sd
 ·go_wp2
  go_ret
  exact ⟨ret_bool (by rw [HS.out];rfl),bw⟩
 ·go_wp2_with fail
  refine (HL.out _ hok.l fok.l).mono ?_
  rintro e w2 ⟨rfl,hb2⟩
  go_wp2
  go_ret
  exact ⟨ret_bool (by rw [HS.out];simp),belowT bw hb2⟩
end Go.Proofs.YtabafikicbkkdaaGreatDoor
namespace Go.Proofs.YtabafikicbkkdaaGreatDoor
open Go.RowKit
set_option linter.unusedVariables false
set_option maxHeartbeats 4000000
set_option maxRecDepth 100000
set_option linter.unusedSimpArgs false
theorem HCheck_c (h:HV) (w:World) (hk:h.ok w):Calls Tryz.prog 78 #[h.v] w fun e w'=>e=.returned (.int .i64 (checkH h.p))∧Below w.heap.size w w':=by
 obtain ⟨d,a,n,c,L⟩:=h
 obtain ⟨hd,hl⟩:=hk
 have HD:=hide (fun w' (h':d.ok w')=>DCheck_c d w' h')
 have HC:Hid (checkH ⟨d.p,L.map LV.p⟩=if checkD d.p≠0 then checkD d.p else if (L.map LV.p).length≠3 then 4 else firstL (L.map LV.p)):=hide rfl
 have HL:Hid ((L.map LV.p).length=n):=hide (by rw [List.length_map];exact hl.len)
 rw [HL.out] at HC
 obtain ⟨za,zn,zc,Z,ka,kn,kc,bk,bh,bt⟩:=d
 dsimp only [HV.v,HV.p,DV.v] at *
 generalize checkD _=cd at *
 generalize hr:checkH _=r at *
 clear hr
 have hmax:=hl.max
 have hle:=hl.le
 go_enter Tryz.func78,Tryz.ntmps78
 go_wp2_with fail
 refine (HD.out _ (hd.below (B:=w.heap.size) (by (repeat first|exact bel0|assumption|refine bel1 ?_|refine bel2 ?_|refine bel3 ?_|refine belowT ?_ (by assumption)|refine bel5 ?_ (by simp;try omega))) (Nat.le_refl _))).mono ?_
 rintro e w1 ⟨rfl,hb1⟩
 have c4:=keepc hb1 (p:=⟨w.heap.size,4,none⟩) (u:=.slice a n c) (by go_simp)
 have bw:Below w.heap.size w w1:=by (repeat first|exact bel0|assumption|refine bel1 ?_|refine bel2 ?_|refine bel3 ?_|refine belowT ?_ (by assumption)|refine bel5 ?_ (by simp;try omega))
 clear hb1
 cases h0:cd !=0
 ·by_cases h3:n=3
  ·subst h3
   obtain ⟨b,off,rfl,hlt,hrow⟩:=hl.row.resolve_left (by omega)
   go_wp2_with fail
   go_loopw [20] (fun i wr=>∃ k:Nat,k≤3∧i=.int .i64 k∧firstL ((L.map LV.p).take k)=0∧Below w.heap.size w wr) (fun i _=>3 - (intOf i).toNat)
   case atStart=>exact ⟨0,by omega,rfl,rfl,bw⟩
   case round=>
    clear bw c4
    obtain ⟨k,hk,rfl,hp,hbr⟩:=hrel
    have HP:=hide hp
    clear hp
    rename_i wr
    by_cases hlt3:k < 3
    ·obtain ⟨y,hy⟩:∃ z,L[k]?=some z:=⟨L[k]'(by rw [hl.len];exact hlt3),by simp⟩
     have iy:=LV.ok.below (hl.ok y (List.mem_of_getElem? hy)) hbr (Nat.le_refl _)
     have HS:=hide (fun w' h'=>hcheckLast_c y w' h')
     have HY:Hid ((L.map LV.p)[k]?=some y.p):=hide (by rw [List.getElem?_map,hy];rfl)
     have ky:=hrow k y hy
     clear hy
     generalize hcl:checkL y.p=cl at *
     have HCL:=hide hcl
     clear hcl
     obtain ⟨s1,⟨e1,t1,a1,n1,c1,d1⟩⟩:=y
     dsimp only [LV.v] at HS
     have x0:=keepc hbr (ky 0 _ rfl)
     have x1:=keepc hbr (ky 1 _ rfl)
     have x2:=keepc hbr (ky 2 _ rfl)
     have x3:=keepc hbr (ky 3 _ rfl)
     rw [Nat.add_zero] at x0
     clear ky
     have hlt':(k:Int) < 3:=by omega
     go_wp2_with fail
     refine (HS.out _ (LV.ok.below iy (B:=wr.heap.size) (by (repeat first|exact bel0|assumption|refine bel1 ?_|refine bel2 ?_|refine bel3 ?_|refine belowT ?_ (by assumption)|refine bel5 ?_ (by simp;try omega))) (Nat.le_refl _))).mono ?_
     rintro e w9 ⟨rfl,hb9⟩
     have b9:Below w.heap.size w w9:=by (repeat first|exact bel0|assumption|refine bel1 ?_|refine bel2 ?_|refine bel3 ?_|refine belowT ?_ (by assumption)|refine bel5 ?_ (by simp;try omega))
     clear hb9
     cases h9:cl !=0
     ·go_wp2
      simp at h9
      exact ⟨⟨k + 1,by omega,by go_num,firstL_step HY.out HP.out (by rw [HCL.out];exact h9),b9⟩,by simp [intOf];omega⟩
     ·go_wp2
      go_ret
      simp at h9 h0
      exact ⟨ret_int (by rw [HC.out,if_neg (by simp [h0]),if_neg (by simp),firstL_at HY.out HP.out (by rw [HCL.out];exact h9),HCL.out]),b9⟩
    ·obtain rfl:k=3:=by omega
     have hp:=HP.out
     rw [List.take_of_length_le (by rw [HL.out];omega)] at hp
     have HQ:=hide hp
     clear hp
     go_wp2
     go_ret
     simp at h0
     exact ⟨ret_int (by rw [HC.out,if_neg (by simp [h0]),if_neg (by simp),HQ.out]),hbr⟩
  ·have h3':((n:Int) !=3)=true:=by simp;omega
   go_wp2
   go_ret
   simp at h0
   exact ⟨ret_int (by rw [HC.out,if_neg (by simp [h0]),if_pos h3]),bw⟩
 ·go_wp2
  go_ret
  simp at h0
  exact ⟨ret_int (by rw [HC.out,if_pos h0]),bw⟩
theorem behind_c (h:HV) (m:Int) (w:World):Calls Tryz.prog 58 #[h.v,.int .i64 m] w fun e w'=>
  e=.returned (.func (Fn.func 80) #[] #[.pointer (some ⟨w.heap.size,0,none⟩),.pointer (some ⟨w.heap.size + 1,0,none⟩)])∧Lay w' w.heap.size h.cells∧Lay w' (w.heap.size + 1) [.int .i64 m]∧Below w.heap.size w w':=by
 obtain ⟨⟨za,zn,zc,Z,ka,kn,kc,bk,bh,bt⟩,a,n,c,L⟩:=h
 dsimp only [HV.v,HV.cells]
 go_enter Tryz.func58,Tryz.ntmps58
 go_wp2
 go_ret
 exact ⟨rfl,(Lay.made w _ 33).below (belowA (Below.refl _ _) _),Lay.made1 w _ [.int .i64 m] 3,by (repeat first|exact bel0|assumption|refine bel1 ?_|refine bel2 ?_|refine bel3 ?_|refine belowT ?_ (by assumption)|refine bel5 ?_ (by simp;try omega))⟩
theorem behind1_c (h:HV) (r:RV) (m:Int) (G M j:Nat) (w:World) (hk:h.ok w) (hG:Lay w G h.cells) (hM:Lay w M [.int .i64 m]) (h3:h.n=3) (hj:r.p.w=(j:Int)) (hj3:j < 3) (hm:0≤m∧m≤1) (hs:∀ y∈h.L,0≤y.s∧y.s≤40) :
  Calls Tryz.prog 80 #[r.v,.pointer (some ⟨G,0,none⟩),.pointer (some ⟨M,0,none⟩)] w fun e w'=>e=.returned (.bool (r.p.s==(lastH h.p j).s + m))∧Below w.heap.size w w':=by
 obtain ⟨b,off,y,ha,hy,_,hc⟩:=hk.l.at (i:=j) (by omega)
 have hys:=hs y (List.mem_of_getElem? hy)
 have HL:Hid (lastH h.p j=y.p):=hide (by simp [lastH,HV.p,List.getD,hy])
 have c0:=past1 (hc 0 _ rfl)
 rw [Nat.add_zero] at c0
 have g4:=past1 (hG.cell 4 _ rfl)
 have m0:=past1 (hM.cell 0 _ rfl)
 have hw:IntKind.i64.wrap (y.s + m)=y.s + m:=IntWalk.i64_in _ (by omega)
 clear hc
 rw [HL.out]
 obtain ⟨⟨q,s,⟨k1,z1,u1,t1,d1⟩⟩,ra,rn,rc⟩:=r
 dsimp only at hj
 subst hj
 obtain ⟨⟨za,zn,zc,Z,ka,kn,kc,bk,bh,bt⟩,a,n,c,L⟩:=h
 dsimp only [RV.v,LV.p] at *
 subst ha h3
 obtain ⟨ys,yx⟩:=y
 dsimp only at *
 have hj':(j:Int) < 3:=by omega
 have hj0:¬ ((j:Int) < 0):=by omega
 go_enter Tryz.func80,Tryz.ntmps80
 go_upto_region 1 with fail
 go_region
 go_wp2
 go_ret
 exact ⟨rfl,by (repeat first|exact bel0|assumption|refine bel1 ?_|refine bel2 ?_|refine bel3 ?_|refine belowT ?_ (by assumption)|refine bel5 ?_ (by simp;try omega))⟩
end Go.Proofs.YtabafikicbkkdaaGreatDoor
namespace Go.Proofs.YtabafikicbkkdaaGreatDoor
open Go.RowKit
set_option linter.unusedVariables false
set_option maxHeartbeats 4000000
set_option maxRecDepth 100000
set_option linter.unusedSimpArgs false
def zero3:List LV:=[LV.zero,LV.zero,LV.zero]
theorem zero3_mem {y:LV} (h:y∈zero3):y=LV.zero:=by simpa [zero3] using h
theorem zero3_ok (w:World):∀ y∈zero3,y.ok w:=fun y h=>by rw [zero3_mem h];exact LV.zero_ok w
theorem zero3_off (R:Nat):∀ y∈zero3,y.off R:=fun y h=>by rw [zero3_mem h];exact .inl rfl
theorem mkl3 (w:World):(Instr.makeSlice 31 (.int .i64 3) (.int .i64 3)).run Tryz.prog w=.ok (.slice (some ⟨w.heap.size,0,none⟩) 3 3) (w.alloc (.cells (lcells zero3).toArray 97)):=by kernel_rfl
theorem HNew_c (w:World):Calls Tryz.prog 35 #[] w fun e w'=>(∃ h:HV,e=.returned h.v∧h.ok w'∧h.new w.heap.size∧h.p=freshH)∧Below w.heap.size w w':=by
 have hmk:=mkl3
 generalize hxs:(lcells zero3).toArray=xs at *
 have xR:=Lay.made w [.slice none 0 0,.slice none 0 0,.int .i64 0,.int .i64 0,.slice none 0 0] 33
 have hL:∀ w':World,Lay (w'.alloc (.cells xs 97)) w'.heap.size (lcells zero3):=fun w'=>by rw [← hxs];exact Lay.made w' _ _
 have HL:=hide hL
 have XR:=hide xR
 clear hL xR hxs
 go_enter Tryz.func35,Tryz.ntmps35
 go_wp2_with fail
 go_region_with (first|(go_at_call 56;refine (DNew_c _).mono ?_;rintro e w1 ⟨⟨⟨za,zn,zc,Z,ka,kn,kc,b⟩,rfl,i1,fr,hp⟩,hb1⟩;(have xR1:=XR.out.below (w':=w1) (by (repeat first|exact bel0|assumption|refine bel1 ?_|refine bel2 ?_|refine bel3 ?_|refine belowT ?_ (by assumption)|refine bel5 ?_ (by simp;try omega))));(have e0:=xR1.cell 0 _ rfl);(have e1:=xR1.cell 1 _ rfl);(have e2:=xR1.cell 2 _ rfl);(have e3:=xR1.cell 3 _ rfl);(have e4:=xR1.cell 4 _ rfl);(have f0:=xR1.ice 0);(have f1:=xR1.ice 1);(have f2:=xR1.ice 2);(have f3:=xR1.ice 3);(have f4:=xR1.ice 4);(have hl1:=xR1.lt);(have hn1:w.heap.size≠w1.heap.size:=by omega);(have hn2:w1.heap.size≠w.heap.size:=by omega);(have p0:=past1 e0);(have p1:=past1 e1);(have p2:=past1 e2);(have p3:=past1 e3);(have p4:=past1 e4);(have r0:=pastf1 e0 f0);(have r1:=pastf1 e1 f1);(have r2:=pastf1 e2 f2);(have r3:=pastf1 e3 f3);(have r4:=pastf1 e4 f4);(have FR:=hide fr);(have HP:=hide hp);(clear fr hp);dsimp only [DV.v] at i1 ⊢))
 all_goals go_wp2
 ·have fr:=FR.out.mono (show w.heap.size + 1≤_ by simp)
  have bw:Below w.heap.size w w1:=by (repeat first|exact bel0|assumption|refine bel1 ?_|refine bel2 ?_|refine bel3 ?_|refine belowT ?_ (by assumption)|refine bel5 ?_ (by simp;try omega))
  have hs:(((((w1.setCell ⟨w.heap.size,0,none⟩ (.slice za zn zc)).setCell ⟨w.heap.size,1,none⟩ (.slice ka kn kc)).setCell ⟨w.heap.size,2,none⟩ (.int .i64 b.h)).setCell ⟨w.heap.size,3,none⟩ (.int .i64 b.t)).setCell ⟨w.heap.size,4,none⟩ (.slice (some ⟨w1.heap.size,0,none⟩) 3 3)).heap.size=w1.heap.size:=by simp [World.setCell]
  have zB:=((((xR1.set 0 (.slice za zn zc)).set 1 (.slice ka kn kc)).set 2 (.int .i64 b.h)).set 3 (.int .i64 b.t)).set 4 (.slice (some ⟨w1.heap.size,0,none⟩) 3 3)
  have hbut:=(((((ButI.refl (w.heap.size) w1).step 0 (.slice za zn zc)).step 1 (.slice ka kn kc)).step 2 (.int .i64 b.h)).step 3 (.int .i64 b.t)).step 4 (.slice (some ⟨w1.heap.size,0,none⟩) 3 3)
  generalize ((((w1.setCell ⟨w.heap.size,0,none⟩ (.slice za zn zc)).setCell ⟨w.heap.size,1,none⟩ (.slice ka kn kc)).setCell ⟨w.heap.size,2,none⟩ (.int .i64 b.h)).setCell ⟨w.heap.size,3,none⟩ (.int .i64 b.t)).setCell ⟨w.heap.size,4,none⟩ (.slice (some ⟨w1.heap.size,0,none⟩) 3 3)=w8 at *
  have z0:=zB.cell 0 _ rfl
  have z1:=zB.cell 1 _ rfl
  have z2:=zB.cell 2 _ rfl
  have z3:=zB.cell 3 _ rfl
  have z4:=zB.cell 4 _ rfl
  have i9:=DV.ok.but i1 hbut.but (fr _ (by omega))
  have hm:=HL.out w8
  rw [hs] at hm
  have bn:=belowA (Below.refl _ w8) (.cells xs 97)
  have zC:=zB.below bn
  have o9:HV.ok (w8.alloc (.cells xs 97)) ⟨⟨za,zn,zc,Z,ka,kn,kc,b⟩,some ⟨w1.heap.size,0,none⟩,3,3,zero3⟩:=⟨i9.below bn (Nat.le_refl _),Lasts.of_lay (n:=3) hm (zero3_ok _) rfl (by omega)⟩
  have b9:Below w.heap.size w (w8.alloc (.cells xs 97)):=belowT (bw.trans hbut.but.low) bn
  clear z0 z1 z2 z3 z4
  generalize w8.alloc (.cells xs 97)=w9 at *
  have z0:=zC.cell 0 _ rfl
  have z1:=zC.cell 1 _ rfl
  have z2:=zC.cell 2 _ rfl
  have z3:=zC.cell 3 _ rfl
  have z4:=zC.cell 4 _ rfl
  exact bodyPost_ret (v:=.agg #[.slice za zn zc,.slice ka kn kc,.int .i64 b.h,.int .i64 b.t,.slice (some ⟨w1.heap.size,0,none⟩) 3 3]) (by simp [results,Tryz.results35,go_sem,z0,z1,z2,z3,z4]) rfl
   ⟨⟨_,rfl,o9,fun R hR=>⟨fr R (by omega),.inr fun x e=>by cases e;simp;omega,zero3_off R⟩,by simp only [HV.p,HP.out];rfl⟩,b9⟩
 ·have hm:=HL.out (w.alloc (.cells #[.slice none 0 0,.slice none 0 0,.int .i64 0,.int .i64 0,.slice none 0 0] 33))
  simp only [World.size_alloc] at hm
  have hm1:=hm.below (w':=w1) (by (repeat first|exact bel0|assumption|refine bel1 ?_|refine bel2 ?_|refine bel3 ?_|refine belowT ?_ (by assumption)|refine bel5 ?_ (by simp;try omega)))
  have fr:=FR.out.mono (show w.heap.size + 1≤_ by simp)
  have hok:HV.ok w1 ⟨⟨za,zn,zc,Z,ka,kn,kc,b⟩,some ⟨w.heap.size + 1,0,none⟩,3,3,zero3⟩:=⟨i1,Lasts.of_lay (n:=3) hm1 (zero3_ok _) rfl (by omega)⟩
  have hoff:∀ R,R≤w.heap.size→HV.off R ⟨⟨za,zn,zc,Z,ka,kn,kc,b⟩,some ⟨w.heap.size + 1,0,none⟩,3,3,zero3⟩:=fun R hR=>⟨fr R (by omega),.inr fun x e=>by cases e;simp;omega,zero3_off R⟩
  have bw:Below w.heap.size w w1:=by (repeat first|exact bel0|assumption|refine bel1 ?_|refine bel2 ?_|refine bel3 ?_|refine belowT ?_ (by assumption)|refine bel5 ?_ (by simp;try omega))
  have zB:=((((xR1.set 0 (.slice za zn zc)).set 1 (.slice ka kn kc)).set 2 (.int .i64 b.h)).set 3 (.int .i64 b.t)).set 4 (.slice (some ⟨w.heap.size + 1,0,none⟩) 3 3)
  have hbut:=(((((ButI.refl (w.heap.size) w1).step 0 (.slice za zn zc)).step 1 (.slice ka kn kc)).step 2 (.int .i64 b.h)).step 3 (.int .i64 b.t)).step 4 (.slice (some ⟨w.heap.size + 1,0,none⟩) 3 3)
  generalize ((((w1.setCell ⟨w.heap.size,0,none⟩ (.slice za zn zc)).setCell ⟨w.heap.size,1,none⟩ (.slice ka kn kc)).setCell ⟨w.heap.size,2,none⟩ (.int .i64 b.h)).setCell ⟨w.heap.size,3,none⟩ (.int .i64 b.t)).setCell ⟨w.heap.size,4,none⟩ (.slice (some ⟨w.heap.size + 1,0,none⟩) 3 3)=w9 at *
  have z0:=zB.cell 0 _ rfl
  have z1:=zB.cell 1 _ rfl
  have z2:=zB.cell 2 _ rfl
  have z3:=zB.cell 3 _ rfl
  have z4:=zB.cell 4 _ rfl
  have o9:=hok.but hbut.but (hoff _ (Nat.le_refl _))
  exact bodyPost_ret (v:=.agg #[.slice za zn zc,.slice ka kn kc,.int .i64 b.h,.int .i64 b.t,.slice (some ⟨w.heap.size + 1,0,none⟩) 3 3]) (by simp [results,Tryz.results35,go_sem,z0,z1,z2,z3,z4]) rfl
   ⟨⟨_,rfl,o9,fun R hR=>hoff R (Nat.le_of_lt hR),by simp only [HV.p,HP.out];rfl⟩,bw.trans hbut.but.low⟩
end Go.Proofs.YtabafikicbkkdaaGreatDoor
namespace Go.Proofs.YtabafikicbkkdaaGreatDoor
open Go.RowKit
set_option linter.unusedVariables false
set_option maxHeartbeats 4000000
set_option maxRecDepth 100000
set_option linter.unusedSimpArgs false
def LV.from (B:Nat) (y:LV):Prop:=∀ R,R < B→y.off R
theorem LV.from.off {B R:Nat} {y:LV} (h:y.from B) (hR:R < B):y.off R:=h R hR
theorem LV.from.mono {B B':Nat} {y:LV} (h:y.from B) (hb:B'≤B):y.from B':=fun R hR=>h R (by omega)
structure MineL (w:World) (g:Nat) (L:List LV):Prop where
 lay:Lay w g (lcells L)
 ok:∀ y∈L,y.ok w
 new:∀ y∈L,y.from (g + 1)
theorem MineL.below {w w':World} {g:Nat} {L:List LV} (h:MineL w g L) (hb:Below w.heap.size w w'):MineL w' g L:=⟨h.lay.below hb,fun y hy=>(h.ok y hy).below hb (Nat.le_refl _),h.new⟩
theorem MineL.far {w:World} {g:Nat} {L:List LV} (h:MineL w g L) {w':World} {R:Nat} (hb:ButI R w w') (hR:R < g):MineL w' g L:=
 ⟨h.lay.butI hb (by omega),fun y hy=>(h.ok y hy).but hb.but ((h.new y hy).off (by omega)),h.new⟩
theorem MineL.set {w:World} {g:Nat} {L:List LV} (h:MineL w g L) {i:Nat} (hi:i < L.length) {y:LV} (hy:y.ok w) (hn:y.from (g + 1)) :
  MineL ((((w.setCell ⟨g,i * 4,none⟩ (.int .i64 y.s)).setCell ⟨g,i * 4 + 1,none⟩ (.int .i64 y.x.e)).setCell ⟨g,i * 4 + 2,none⟩ (.int .i64 y.x.t)).setCell ⟨g,i * 4 + 3,none⟩ (.slice y.x.a y.x.n y.x.c)) g (L.set i y):=by
 have hb:=((((But.refl g w).step (i * 4) (.int .i64 y.s)).step (i * 4 + 1) (.int .i64 y.x.e)).step (i * 4 + 2) (.int .i64 y.x.t)).step (i * 4 + 3) (.slice y.x.a y.x.n y.x.c)
 refine ⟨by rw [← lcells_set L i y hi];exact (((h.lay.set _ _).set _ _).set _ _).set _ _,fun z hz=>?_,fun z hz=>?_⟩
 ·rcases List.mem_or_eq_of_mem_set hz with hz|rfl
  ·exact (h.ok z hz).but hb ((h.new z hz).off (by omega))
  ·exact hy.but hb (hn.off (by omega))
 ·rcases List.mem_or_eq_of_mem_set hz with hz|rfl
  ·exact h.new z hz
  ·exact hn
theorem MineL.lasts {w:World} {g:Nat} {L:List LV} (h:MineL w g L) {n:Nat} (hn:L.length=n) (hm:n≤9223372036854775807):Lasts w (some ⟨g,0,none⟩) n n L:=Lasts.of_lay h.lay h.ok hn hm
theorem hall_right {h:HV} {w:World} (hk:h.ok w) (hc:checkH h.p=0):checkD h.d.p=0∧h.n=3∧(∀ y∈h.L,(0≤y.s∧y.s≤40)∧y.x.n≤8)∧h.d.kn=3:=by
 obtain ⟨h1,h2,h3⟩:=checkH_ok hc
 have h1':checkD h.d.p=0:=h1
 refine ⟨h1',?_,fun y hy=>?_,?_⟩
 ·have:=hk.l.len
  simp only [HV.p,List.length_map] at h2
  omega
 ·obtain ⟨g1,_,g3,_⟩:=checkL_facts (h3 y.p (by simp only [HV.p];exact List.mem_map.2 ⟨y,hy,rfl⟩))
  have e:=(hk.l.ok y hy).len
  exact ⟨g1,by rw [← e];exact g3⟩
 ·have e:=hk.d.k.len
  obtain ⟨x,y,z,hh⟩:=checkB_ok (checkD_ok h1').2
  have e2:=hh.1
  dsimp only [DV.p] at e2
  rw [e2] at e
  simpa using e.symm
theorem hwhole_c (h:HV) (w:World) (hk:h.ok w) (hc:checkH h.p=0) :
  Calls Tryz.prog 59 #[h.v] w fun e w'=>(∃ (d':DV) (g:Nat) (L':List LV),e=.returned (HV.v ⟨d',some ⟨g,0,none⟩,3,3,L'⟩)∧d'.ok w'∧MineL w' g L'∧L'.length=3∧d'.new w.heap.size∧d'.off g∧w.heap.size≤g∧d'.p=h.d.p∧L'.map LV.p=h.L.map LV.p)∧Below w.heap.size w w':=by
 obtain ⟨hcd,hn3,hys,hkn⟩:=hall_right hk hc
 obtain ⟨h1,h2,h3⟩:=desk_small hk.d hcd
 refine (phall_c h w hk h1 h2 h3 (by omega) (fun y hy=>by have:=(hys y hy).2;omega)).mono ?_
 rintro e w' ⟨⟨d',g,L',rfl,k1,k2,k3,k4,k5,k6,k7,k8,k9⟩,k10⟩
 rw [hn3] at k3 ⊢
 exact ⟨⟨d',g,L',rfl,k1,⟨k2.lay,k2.ok,k9⟩,k3,k4,k5,k6,k7,k8⟩,k10⟩
end Go.Proofs.YtabafikicbkkdaaGreatDoor
