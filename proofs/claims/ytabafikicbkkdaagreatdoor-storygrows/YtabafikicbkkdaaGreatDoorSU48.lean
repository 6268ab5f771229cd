/- The law's own closure of StoryGrows, which keeps what it saw; no condition but that the world reads as data and was reached from a new one, the package-level variables are as their texts lay them, and its disk is no greater than a machine bears. -/
import Derived.Test.YtabafikicbkkdaaGreatDoorSU35
import Derived.Test.YtabafikicbkkdaaGreatDoorSU46
import Derived.Test.YtabafikicbkkdaaGreatDoorSU47
import Derived.Test.YtabafikicbkkdaaGreatDoorSU36
import Derived.Deep.RegionHeld3
import Derived.Test.YtabafikicbkkdaaGreatDoorSU14
namespace Go.Proofs.YtabafikicbkkdaaGreatDoor
open Go.RowKit
set_option linter.unusedVariables false
set_option maxHeartbeats 4000000
set_option maxRecDepth 100000
set_option linter.unusedSimpArgs false
theorem EqAL_some (b1 o1 m1 b2 o2 m2 n:Nat) (X Y:List AV) (w:World) (h1:Answers w (some ⟨b1,o1,none⟩) n m1 X) (h2:Answers w (some ⟨b2,o2,none⟩) n m2 Y)
  (hr1:∀ i x,X[i]?=some x→∀ j v,x.cells[j]?=some v→w.cell? ⟨b1,o1 + i * 3 + j,none⟩=some v)
  (hr2:∀ i x,Y[i]?=some x→∀ j v,x.cells[j]?=some v→w.cell? ⟨b2,o2 + i * 3 + j,none⟩=some v) :
  Calls Tryz.prog 14 #[.slice (some ⟨b1,o1,none⟩) n m1,.slice (some ⟨b2,o2,none⟩) n m2,.func (Fn.func 15) #[] #[]] w fun e w'=>e=.returned (.bool (sameAs (X.map AV.p) (Y.map AV.p)))∧Below w.heap.size w w':=by
 have hlen1:=hide h1.len
 have hlen2:=hide h2.len
 have hmax:=h1.max
 have hle:=h1.le
 go_enter Tryz.func14,Tryz.ntmps14
 go_wp2
 go_loopw [17] (fun i wr=>∃ k:Nat,k≤n∧i=.int .i64 k∧(X.take k).map AV.p=(Y.take k).map AV.p∧Below w.heap.size w wr) (fun i _=>n - (intOf i).toNat)
 case atStart=>exact ⟨0,by omega,rfl,by simp,Below.refl _ _⟩
 case round=>
  obtain ⟨k,hk,rfl,hp,hbr⟩:=hrel
  have HP:=hide hp
  clear hp
  rename_i wr
  by_cases hlt:k < n
  ·obtain ⟨x,hx⟩:∃ z,X[k]?=some z:=⟨X[k]'(by rw [hlen1.out];exact hlt),by simp⟩
   obtain ⟨y,hy⟩:∃ z,Y[k]?=some z:=⟨Y[k]'(by rw [hlen2.out];exact hlt),by simp⟩
   have ix:=AV.ok.below (h1.ok x (List.mem_of_getElem? hx)) hbr (Nat.le_refl _)
   have iy:=AV.ok.below (h2.ok y (List.mem_of_getElem? hy)) hbr (Nat.le_refl _)
   have HZ:=hide hx
   have HY:=hide hy
   have HS:=hide (fun w' h k=>lsameA_c x y w' h k)
   have HT:Hid (sameA x.p y.p=true→x.p=y.p):=hide (sameA_iff _ _).1
   have HF:Hid (sameA x.p y.p=false→x.p≠y.p):=hide (fun h e=>by rw [(sameA_iff _ _).2 e] at h;cases h)
   have kx:=hr1 k x hx
   have ky:=hr2 k y hy
   clear hx hy
   generalize hsm:sameA x.p y.p=sm at *
   clear hsm
   obtain ⟨e1,t1,a1,n1,c1,d1⟩:=x
   obtain ⟨e2,t2,a2,n2,c2,d2⟩:=y
   dsimp only [AV.v] at HS
   have x0:=keepc hbr (kx 0 _ rfl)
   have x1:=keepc hbr (kx 1 _ rfl)
   have x2:=keepc hbr (kx 2 _ rfl)
   have y0:=past1 (keepc hbr (ky 0 _ rfl))
   have y1:=past1 (keepc hbr (ky 1 _ rfl))
   have y2:=past1 (keepc hbr (ky 2 _ rfl))
   rw [Nat.add_zero] at x0 y0
   clear kx ky
   have hlt':(k:Int) < (n:Int):=by omega
   go_wp2_with fail
   refine (HS.out _ (AV.ok.below ix (B:=wr.heap.size) (by (repeat first|exact bel0|assumption|refine bel1 ?_|refine bel2 ?_|refine bel3 ?_|refine belowT ?_ (by assumption)|refine bel5 ?_ (by simp;try omega))) (Nat.le_refl _)) (AV.ok.below iy (B:=wr.heap.size) (by (repeat first|exact bel0|assumption|refine bel1 ?_|refine bel2 ?_|refine bel3 ?_|refine belowT ?_ (by assumption)|refine bel5 ?_ (by simp;try omega))) (Nat.le_refl _))).mono ?_
   rintro e w9 ⟨rfl,hb9⟩
   have b9:Below w.heap.size w w9:=by (repeat first|exact bel0|assumption|refine bel1 ?_|refine bel2 ?_|refine bel3 ?_|refine belowT ?_ (by assumption)|refine bel5 ?_ (by simp;try omega))
   clear hb9
   cases sm
   ·have HNE:=hide (HF.out rfl)
    clear HF HT
    go_wp2
    go_ret
    refine ⟨ret_bool (sameAs_f fun e=>?_).symm,b9⟩
    have:=congrArg (fun L=>L[k]?) e
    simp only [List.getElem?_map,HZ.out,HY.out,Option.map_some,Option.some.injEq] at this
    exact HNE.out this
   ·have HEQ:=hide (HT.out rfl)
    clear HF HT
    go_wp2
    have e:=HEQ.out
    refine ⟨⟨k + 1,by omega,by go_num,?_,b9⟩,by simp [intOf];omega⟩
    obtain ⟨g1,g2⟩:=List.getElem?_eq_some_iff.1 HZ.out
    obtain ⟨g3,g4⟩:=List.getElem?_eq_some_iff.1 HY.out
    rw [List.take_succ_eq_append_getElem g1,List.take_succ_eq_append_getElem g3,List.map_append,List.map_append,HP.out,g2,g4]
    simpa using e
  ·obtain rfl:k=n:=by omega
   go_wp2
   go_ret
   have hp:=HP.out
   rw [List.take_of_length_le (by rw [hlen1.out];omega),List.take_of_length_le (by rw [hlen2.out];omega)] at hp
   exact ⟨ret_bool (sameAs_t hp).symm,hbr⟩
theorem EqAL_ne (a1 a2:Option Addr) (n1 n2 c1 c2:Nat) (fv:Value) (w:World) (hne:n1≠n2) (hm1:n1≤9223372036854775807) (hm2:n2≤9223372036854775807) :
  Calls Tryz.prog 14 #[.slice a1 n1 c1,.slice a2 n2 c2,fv] w fun e w'=>e=.returned (.bool false)∧w'=w:=by
 have hb:((n1:Int) !=(n2:Int))=true:=by simp;omega
 go_enter Tryz.func14,Tryz.ntmps14
 go_wp2
 go_ret
 exact ⟨rfl,rfl⟩
theorem EqAL_zero (a1 a2:Option Addr) (c1 c2:Nat) (fv:Value) (w:World) :
  Calls Tryz.prog 14 #[.slice a1 0 c1,.slice a2 0 c2,fv] w fun e w'=>e=.returned (.bool true)∧w'=w:=by
 go_enter Tryz.func14,Tryz.ntmps14
 go_wp2
 refine wp_loop_rounds 1 ?_
 rw [rounds_succ]
 go_wp2
 go_ret
 exact ⟨rfl,rfl⟩
theorem EqAL_c (a1 a2:Option Addr) (n1 n2 c1 c2:Nat) (X Y:List AV) (w:World) (h1:Answers w a1 n1 c1 X) (h2:Answers w a2 n2 c2 Y) :
  Calls Tryz.prog 14 #[.slice a1 n1 c1,.slice a2 n2 c2,.func (Fn.func 15) #[] #[]] w fun e w'=>e=.returned (.bool (sameAs (X.map AV.p) (Y.map AV.p)))∧Below w.heap.size w w':=by
 by_cases hn:n1=n2
 ·subst hn
  by_cases h0:n1=0
  ·subst h0
   have e1:=h1.len
   have e2:=h2.len
   rw [List.length_eq_zero_iff] at e1 e2
   subst e1 e2
   refine (EqAL_zero a1 a2 c1 c2 _ w).mono ?_
   rintro e w' ⟨rfl,rfl⟩
   exact ⟨rfl,Below.refl _ _⟩
  ·rcases h1.row with h|⟨b1,o1,rfl,_,hr1⟩
   ·omega
   ·rcases h2.row with h|⟨b2,o2,rfl,_,hr2⟩
    ·omega
    ·exact EqAL_some b1 o1 c1 b2 o2 c2 n1 X Y w h1 h2 hr1 hr2
 ·have m1:=h1.max
  have m2:=h2.max
  have q1:=h1.le
  have q2:=h2.le
  refine (EqAL_ne a1 a2 n1 n2 c1 c2 _ w hn (by omega) (by omega)).mono ?_
  rintro e w' ⟨rfl,rfl⟩
  refine ⟨ret_bool (sameAs_f fun e=>hn ?_).symm,Below.refl _ _⟩
  have:=congrArg List.length e
  rw [List.length_map,List.length_map,h1.len,h2.len] at this
  exact this
theorem Rows'.answers {w:World} {a:Option Addr} {n c:Nat} {X:List AV} (h:Rows' ansK w a n c X):Answers w a n c X:=⟨h.len,h.le,h.max,h.nil,h.row,h.ok⟩
def Keepsake (a b k:Nat) (w:World) (A:List PR) (T:List PA):Prop:=
 ∃ (B:Nat) (wa:Option Addr) (wn wc:Nat) (X:List RV) (ta:Option Addr) (tn tc:Nat) (Y:List AV),k < B∧a≠k∧b≠k∧Lay w a [.slice wa wn wc]∧Lay w b [.slice ta tn tc]∧Recs w wa wn wc X∧FreshR B wa X∧X.map RV.p=A∧Rows' ansK w ta tn tc Y∧(∀ R,R < B→OffR ansK R ta tn Y)∧Y.map AV.p=T
theorem Keepsake.below {a b k:Nat} {w w':World} {A:List PR} {T:List PA} (h:Keepsake a b k w A T) (hb:Below w.heap.size w w'):Keepsake a b k w' A T:=by
 obtain ⟨B,wa,wn,wc,X,ta,tn,tc,Y,h1,h2,h3,h4,h5,h6,h7,h8,h9,h10,h11⟩:=h
 exact ⟨B,wa,wn,wc,X,ta,tn,tc,Y,h1,h2,h3,h4.below hb,h5.below hb,h6.below hb (Nat.le_refl _),h7,h8,h9.below hb (Nat.le_refl _),h10,h11⟩
theorem Keepsake.but {a b k:Nat} {w w':World} {A:List PR} {T:List PA} (h:Keepsake a b k w A T) (hb:ButI k w w'):Keepsake a b k w' A T:=by
 obtain ⟨B,wa,wn,wc,X,ta,tn,tc,Y,h1,h2,h3,h4,h5,h6,h7,h8,h9,h10,h11⟩:=h
 exact ⟨B,wa,wn,wc,X,ta,tn,tc,Y,h1,h2,h3,h4.butI hb h2,h5.butI hb h3,h6.but hb.but h7 h1,h7,h8,h9.but hb.but (h10 k h1),h10,h11⟩
theorem Keepsake.nil {a b k:Nat} {w:World} (ha:a≠k) (hb:b≠k) (h1:Lay w a [.slice none 0 0]) (h2:Lay w b [.slice none 0 0]):Keepsake a b k w [] []:=
 ⟨k + 1,none,0,0,[],none,0,0,[],by omega,ha,hb,h1,h2,Recs.nilSlice w,FreshR.nil _,rfl,Rows'.none w,fun R _=>⟨.inl rfl,fun x hx=>(by cases hx)⟩,rfl⟩
theorem Grows.takes {A A':List PR} {T T':List PA} (g:Grows A T A' T'):A'.take A.length=A∧T'.take T.length=T∧A.length≤A'.length∧T.length≤T'.length:=by
 rcases g with ⟨rfl,rfl⟩|⟨r,a,rfl,rfl⟩
 ·simp
 ·simp
theorem sameRs_self (A:List PR):sameRs A A=true:=(sameRs_iff A A).2 rfl
theorem sameAs_self (A:List PA):sameAs A A=true:=sameAs_t rfl
theorem sgrows_c (a b k:Nat) (x:WV) (w:World) (hE:Env w) (hk:x.ok w) (hs:x.sm) {A A':List PR} {H':PH} {T T':List PA} (hab:a≠b) (hlt:a < w.heap.size∧b < w.heap.size) (hkw:k < w.heap.size) (hI:Keepsake a b k w A T) (hsg:Saga x.p A' H' T') (hg:Grows A T A' T'):Calls Tryz.prog 9 #[x.v,.pointer (some ⟨a,0,none⟩),.pointer (some ⟨b,0,none⟩)] w fun e w'=>e=.returned (.bool true)∧Keepsake a b k w' A' T'∧∃ w1 w2,Below w.heap.size w w1∧ButI a w1 w2∧ButI b w2 w':=by
 have HDN:=hide (fun w' h1 h2=>Done_w x w' h1 h2 hs)
 have HTL:=hide (fun w' h1 h2=>Told_w x w' h1 h2 hs)
 rw [hsg.doneS] at HDN
 rw [hsg.toldS] at HTL
 obtain ⟨g1,g2,g3,g4⟩:=hg.takes
 have hA80:=hsg.len
 have hT80:T'.length≤80:=by rw [hsg.log.len];exact hA80
 clear hsg hg
 have x0:=Lay.made w x.cells 40
 have bw:=belowA (Below.refl _ w) (.cells x.cells.toArray 40)
 obtain ⟨B,wa,wn,wc,X,ta,tn,tc,Y,i1,i2,i3,i4,i5,i6,i7,i8,i9,i10,i11⟩:=hI.below bw
 clear hI i1 i7 i10
 replace hk:=hk.below bw (Nat.le_refl _)
 replace hE:=hE.below bw
 go_enter Tryz.func9,Tryz.ntmps9
 go_wp2_with fail
 generalize w.alloc (.cells x.cells.toArray 40)=w1 at *
 refine (HDN.out _ hE hk).mono ?_
 rintro e w2 ⟨⟨na,nn,nc,X',rfl,hX,fX,pX⟩,hb⟩
 have f1:=fX.mono (show w.heap.size≤_ from bw.size)
 replace x0:=x0.below hb
 replace hk:=hk.below hb (Nat.le_refl _)
 replace hE:=hE.below hb
 replace i4:=i4.below hb
 replace i5:=i5.below hb
 replace i6:=i6.below hb (Nat.le_refl _)
 replace i9:=i9.below hb (Nat.le_refl _)
 replace bw:=belowT bw hb
 clear hb HDN fX
 obtain ⟨q0,q1,q2,q3,q4,q5,q6,q7,q8,q9⟩:=x0.ten
 go_wp2_with fail
 refine (HTL.out _ hE hk).mono ?_
 rintro e w3 ⟨⟨ua,un,uc,Y',rfl,hY,oY,pY⟩,hb⟩
 have o1:∀ R,R < w.heap.size→OffR ansK R ua un Y':=fun R hR=>oY R (Nat.lt_of_lt_of_le hR bw.size)
 replace hX:=hX.below hb (Nat.le_refl _)
 replace i4:=i4.below hb
 replace i5:=i5.below hb
 replace i6:=i6.below hb (Nat.le_refl _)
 replace i9:=i9.below hb (Nat.le_refl _)
 replace bw:=belowT bw hb
 clear hb HTL hE hk x0 q0 q1 q2 q3 q4 q5 q6 q7 q8 q9 oY
 dsimp only at pX pY
 have e1:X'.length=nn:=hX.len
 have e2:X.length=wn:=i6.len
 have e3:Y'.length=un:=hY.len
 have e4:Y.length=tn:=i9.len
 have e5:A'.length=nn:=by rw [← pX,List.length_map,e1]
 have e6:A.length=wn:=by rw [← i8,List.length_map,e2]
 have e7:T'.length=un:=by rw [← pY,List.length_map,e3]
 have e8:T.length=tn:=by rw [← i11,List.length_map,e4]
 have hX1:=hX.take (show wn≤nn by omega)
 have hY1:=hY.take (show tn≤un by omega)
 have HR:=hide (fun w' h1 h2=>EqR_c na wa wn wn nc wc (X'.take wn) X w' h1 h2)
 have HA:=hide (fun w' h1 h2=>EqAL_c ua ta tn tn uc tc (Y'.take tn) Y w' h1 h2)
 rw [List.map_take,pX,i8,← e6,g1,e6,sameRs_self] at HR
 rw [List.map_take,pY,i11,← e8,g2,e8,sameAs_self] at HA
 have k0:(0:Int)≤(wn:Int):=by omega
 have hle:=hX.le
 have hmx:=hX.max
 have hle2:=hY.le
 have hmx2:=hY.max
 have k1:(wn:Int)≤(nc:Int):=by omega
 have k2:wn≤nc:=by omega
 have k3:¬ ((wn:Int) < 0):=by omega
 have k4:¬ ((nc:Int) < (wn:Int)):=by omega
 have k5:decide (nn < wn)=false:=decide_eq_false (by omega)
 have j0:(0:Int)≤(tn:Int):=by omega
 have j1:(tn:Int)≤(uc:Int):=by omega
 have j2:tn≤uc:=by omega
 have j3:¬ ((tn:Int) < 0):=by omega
 have j4:¬ ((uc:Int) < (tn:Int)):=by omega
 have c1:=i4.cell 0 _ rfl
 have c2:=i5.cell 0 _ rfl
 have hY1':=hY1.answers
 have i9':=i9.answers
 have hka:k < w3.heap.size:=Nat.lt_of_lt_of_le hkw bw.size
 clear e1 e2 e3 e4 e5 e6 e7 e8 g1 g2 g3 g4 i8 i11 hY1 i9
 go_upto_region 3 with fail
 go_cut [49] (fun v wx=>v=.bool false∧Below w3.heap.size w3 wx)
 case first=>
  go_region_held3 (fun w'=>w'.cell? ⟨a,0,none⟩=some (.slice wa wn wc)∧w'.cell? ⟨b,0,none⟩=some (.slice ta tn tc)) ((first|(go_simp;done)|(simp [*,World.cell?_alloc_at,World.cell?_alloc_past,World.cell?_alloc_some,World.cell?_setCell_far];done))) (first
   |(go_at_call 12;refine (HR.out _ (by refine hX1.below (B:=w3.heap.size) ?_ (Nat.le_refl _);(repeat first|exact bel0|assumption|refine bel1 ?_|refine bel2 ?_|refine bel3 ?_|refine belowT ?_ (by assumption)|refine bel5 ?_ (by simp;try omega))) (by refine i6.below (B:=w3.heap.size) ?_ (Nat.le_refl _);(repeat first|exact bel0|assumption|refine bel1 ?_|refine bel2 ?_|refine bel3 ?_|refine belowT ?_ (by assumption)|refine bel5 ?_ (by simp;try omega)))).mono ?_;rintro e w4 ⟨rfl,hb4⟩;(have m0:=keepc hb4 (p:=⟨a,0,none⟩) (u:=.slice wa wn wc) (by (first|(go_simp;done)|(simp [*,World.cell?_alloc_at,World.cell?_alloc_past,World.cell?_alloc_some,World.cell?_setCell_far];done))));(have m1:=keepc hb4 (p:=⟨b,0,none⟩) (u:=.slice ta tn tc) (by (first|(go_simp;done)|(simp [*,World.cell?_alloc_at,World.cell?_alloc_past,World.cell?_alloc_some,World.cell?_setCell_far];done)))))
   |(go_at_call 14;refine (HA.out _ (by refine hY1'.below (B:=w3.heap.size) ?_ (Nat.le_refl _);(repeat first|exact bel0|assumption|refine bel1 ?_|refine bel2 ?_|refine bel3 ?_|refine belowT ?_ (by assumption)|refine bel5 ?_ (by simp;try omega))) (by refine i9'.below (B:=w3.heap.size) ?_ (Nat.le_refl _);(repeat first|exact bel0|assumption|refine bel1 ?_|refine bel2 ?_|refine bel3 ?_|refine belowT ?_ (by assumption)|refine bel5 ?_ (by simp;try omega)))).mono ?_;rintro e w5 ⟨rfl,hb5⟩;(have n0:=keepc hb5 (p:=⟨a,0,none⟩) (u:=.slice wa wn wc) (by (first|(go_simp;done)|(simp [*,World.cell?_alloc_at,World.cell?_alloc_past,World.cell?_alloc_some,World.cell?_setCell_far];done))));(have n1:=keepc hb5 (p:=⟨b,0,none⟩) (u:=.slice ta tn tc) (by (first|(go_simp;done)|(simp [*,World.cell?_alloc_at,World.cell?_alloc_past,World.cell?_alloc_some,World.cell?_setCell_far];done))))))
  go_wp2_with fail
  go_meet
  case rel=>exact ⟨rfl,by clear bw;(repeat first|exact bel0|assumption|refine bel1 ?_|refine bel2 ?_|refine bel3 ?_|refine belowT ?_ (by assumption)|refine bel5 ?_ (by simp;try omega))⟩
 case rest=>
  obtain ⟨rfl,hb⟩:=hcut
  generalize wc=w6 at *
  replace hX:=hX.below hb (Nat.le_refl _)
  replace hY:=hY.below hb (Nat.le_refl _)
  replace i4:=i4.below hb
  replace i5:=i5.below hb
  replace bw:=belowT bw hb
  have c1:=i4.cell 0 _ rfl
  have c2:=i5.cell 0 _ rfl
  have d1:=i4.ice 0
  have d2:=i5.ice 0
  have la:=i4.lt
  have lb:=i5.lt
  have hba:b≠a:=fun e=>hab e.symm
  have bA:=(ButI.refl a w6).step 0 (.slice na nn nc)
  have xA:=i4.set 0 (.slice na nn nc)
  have xB:=i5.butI bA hba
  have hX7:=hX.but bA.but f1 (show a < w.heap.size from hlt.1)
  have hY7:=hY.but bA.but (o1 a hlt.1)
  generalize hw7:w6.setCell ⟨a,0,none⟩ (.slice na nn nc)=w7 at *
  have bB:=(ButI.refl b w7).step 0 (.slice ua un uc)
  have yA:=xA.butI bB hab
  have yB:=xB.set 0 (.slice ua un uc)
  have hX8:=hX7.but bB.but f1 (show b < w.heap.size from hlt.2)
  have hY8:=hY7.but bB.but (o1 b hlt.2)
  have HW7:=hide hw7
  clear i4 i5 hX hY hX7 hY7 hw7
  go_wp2
  go_ret
  rw [HW7.out]
  exact ⟨rfl,⟨w.heap.size,na,nn,nc,X',ua,un,uc,Y',hkw,i2,i3,yA,yB,hX8,f1,pX,hY8,o1,pY⟩,w6,w7,bw,bA,bB⟩
end Go.Proofs.YtabafikicbkkdaaGreatDoor
namespace Go.Proofs.YtabafikicbkkdaaGreatDoor
open Go.RowKit
set_option linter.unusedVariables false
set_option maxHeartbeats 4000000
set_option maxRecDepth 100000
set_option linter.unusedSimpArgs false
theorem playedGrows_c (a b:Nat) (la:Option Addr) (ln lc:Nat) (L:List XV) (u w:World) (Inv:Nat→World→List PR→List PA→Prop) (hE:Env u) (hL:Rows' hapK u la ln lc L) (hu:Below u.heap.size u w)
  (h0:∀ k w',w.heap.size≤k→Below w.heap.size w w'→Inv k w' [] [])
  (h1:∀ k w' w'' A T,Inv k w' A T→Below w'.heap.size w' w''→Inv k w'' A T)
  (h2:∀ k w' w'' A T,w.heap.size≤k→Inv k w' A T→ButI k w' w''→Inv k w'' A T)
  (hF:∀ (k:Nat) (x:WV) w' A T A' H' T',w.heap.size≤k→k < w'.heap.size→Inv k w' A T→Env w'→x.ok w'→x.sm→Saga x.p A' H' T'→Grows A T A' T'→Calls Tryz.prog 9 #[x.v,.pointer (some ⟨a,0,none⟩),.pointer (some ⟨b,0,none⟩)] w' fun e w''=>e=.returned (.bool true)∧Inv k w'' A' T'∧Hops u.heap.size w.heap.size w' w'') :
  Calls Tryz.prog 8 #[.slice la ln lc,.func (Fn.func 9) #[] #[.pointer (some ⟨a,0,none⟩),.pointer (some ⟨b,0,none⟩)]] w fun e w'=>(∃ (x:WV) (A:List PR) (H:PH) (T:List PA),e=.returned (.tuple #[x.v,.bool true])∧x.ok w'∧x.sm∧x.new w.heap.size∧Saga x.p A H T)∧Below u.heap.size w w':=by
 have hlm:=hL.max
 have hll:=hL.le
 have hLl:=hL.len
 have huw:=hu.size
 obtain ⟨mm,hmm⟩:∃ mm:Nat,min ln 90=mm:=⟨_,rfl⟩
 have hm1:mm≤ln:=by omega
 have hmi:min (ln:Int) 90=(mm:Int):=by omega
 have hj0:(0:Int)≤(mm:Int):=by omega
 have hj1:(mm:Int)≤(lc:Int):=by omega
 have hj2:mm≤lc:=by omega
 have hj3:¬ ((mm:Int) < 0):=by omega
 have hj4:¬ ((lc:Int) < (mm:Int)):=by omega
 have H0:=hide h0
 have H1:=hide h1
 have H2:=hide h2
 have HF:=hide hF
 clear h0 h1 h2 hF
 have xR:=Lay.made w [.slice none 0 0,.slice none 0 0,.int .i64 0,.int .i64 0,.slice none 0 0,.slice none 0 0,.slice none 0 0,.bool false,.slice none 0 0,.slice none 0 0] 40
 have bw:=belowA (Below.refl _ w) (.cells [.slice none 0 0,.slice none 0 0,.int .i64 0,.int .i64 0,.slice none 0 0,.slice none 0 0,.slice none 0 0,.bool false,.slice none 0 0,.slice none 0 0].toArray 40)
 go_enter Tryz.func8,Tryz.ntmps8
 go_wp2_with fail
 generalize w.alloc (.cells [.slice none 0 0,.slice none 0 0,.int .i64 0,.int .i64 0,.slice none 0 0,.slice none 0 0,.slice none 0 0,.bool false,.slice none 0 0,.slice none 0 0].toArray 40)=w1 at *
 refine (WNew_c _).mono ?_
 rintro e w2 ⟨⟨y,rfl,oky,smy,ny,py⟩,hb⟩
 have hl1:=xR.lt
 replace xR:=xR.below hb
 replace bw:=belowT bw hb
 replace ny:=ny.mono (show w.heap.size + 1≤_ by omega)
 clear hb
 have hs2:=bw.size
 dsimp only [WV.v]
 go_upto_region 2 with fail
 have okW:=oky.off (Nat.le_refl _)
 have hNl:=xR.lt
 have Nx:=Lay.made w2 y.cells 40
 have bn:=belowA (Below.refl _ w2) (.cells y.cells.toArray 40)
 replace xR:=xR.below bn
 replace oky:=oky.below bn (Nat.le_refl _)
 replace bw:=belowT bw bn
 clear bn
 generalize w2.alloc (.cells y.cells.toArray 40)=w3 at *
 generalize w2.heap.size=N at *
 have hNw:w.heap.size < N:=hNl
 have hI:=H0.out N _ (by omega) bw
 have hsg:Saga y.p [] freshH []:=by rw [py];exact Saga.fresh
 clear py hs2 hl1
 replace bw:Below u.heap.size w w3:=bw.mono huw
 go_wp2_with fail
 go_loopw [18] (fun i wr=>∃ wz:World,wz=wr∧∃ (j:Nat) (x:WV) (A:List PR) (H:PH) (T:List PA),j≤mm∧i=.int .i64 (j:Nat)∧Lay wz N x.cells∧x.ok wz∧x.sm∧x.new (w.heap.size + 1)∧x.off N∧Saga x.p A H T∧Inv N wz A T∧Lay wz w.heap.size [.slice none 0 0,.slice none 0 0,.int .i64 0,.int .i64 0,.slice none 0 0,.slice none 0 0,.slice none 0 0,.bool false,.slice none 0 0,.slice none 0 0]∧Below u.heap.size w wz) (fun i _=>mm - (intOf i).toNat)
 case atStart=>exact ⟨_,rfl,0,y,[],freshH,[],by omega,rfl,Nx,oky,smy,ny,okW,hsg,hI,xR,bw⟩
 case round=>
  clear Nx oky smy ny okW hsg hI xR bw
  obtain ⟨wr,rfl,j,x,A,H,T,hj,rfl,lz,okz,smz,nz,oz,hsg,hI,xR,bw⟩:=hrel
  have hs0:=bw.size
  have HSG:=hide hsg
  have HI:=hide hI
  clear hsg hI
  by_cases hlt:j < mm
  ·obtain ⟨b,off,v,rfl,hv,hvk,hbl,kv⟩:=hL.at (show j < ln by omega)
   have buw:=hu.trans bw
   obtain ⟨y0,y1,y2,y3,y4,y5,y6,y7⟩:=XV.lay (b:=b) (o:=off + j * 8) (fun i z h=>(by rw [buw.cell (p:=⟨b,_,none⟩) hbl];exact kv i z h:wr.cell? ⟨b,off + j * 8 + i,none⟩=some z))
   have HDO:=hide (fun w' h1 h2 h3=>WDo_c x v w' h1 h2 smz h3)
   have HST:=hide (fun k=>HSG.out.step (e:=v.p) k)
   have HNX:=hide hvk
   generalize doW x.p v.p=dw at *
   have hlt':(j:Int) < (mm:Int):=by omega
   clear hv kv hvk
   go_upto_region 5 with fail
   have bn:=belowA (Below.refl _ wr) (.cells [.int .i64 v.k,.int .i64 v.w,.int .i64 v.n,.int .i64 v.c.k,.int .i64 v.c.z,.int .i64 v.c.n,.int .i64 v.c.at',.slice v.ca v.cn v.cc].toArray 75)
   have xv:=Lay.made wr [.int .i64 v.k,.int .i64 v.w,.int .i64 v.n,.int .i64 v.c.k,.int .i64 v.c.z,.int .i64 v.c.n,.int .i64 v.c.at',.slice v.ca v.cn v.cc] 75
   replace lz:=lz.below bn
   replace okz:=okz.below bn (Nat.le_refl _)
   replace xR:=xR.below bn
   replace HI:=hide (H1.out _ _ _ _ _ HI.out bn)
   replace bw:=bw.trans (bn.mono (show u.heap.size≤wr.heap.size by omega))
   have s5:=bn.size
   clear bn y0 y1 y2 y3 y4 y5 y6 y7
   generalize wr.alloc (.cells [.int .i64 v.k,.int .i64 v.w,.int .i64 v.n,.int .i64 v.c.k,.int .i64 v.c.z,.int .i64 v.c.n,.int .i64 v.c.at',.slice v.ca v.cn v.cc].toArray 75)=w5 at *
   have hT:=xv.lt
   generalize wr.heap.size=T1 at *
   have buw5:=hu.trans bw
   have hvk5:=Ints.below HNX.out buw5 (Nat.le_refl _)
   have hE5:=hE.below buw5
   obtain ⟨q0,q1,q2,q3,q4,q5,q6,q7,q8,q9⟩:=lz.ten
   have v0:=xv.cell 0 _ rfl
   have v1:=xv.cell 1 _ rfl
   have v2:=xv.cell 2 _ rfl
   have v3:=xv.cell 3 _ rfl
   have v4:=xv.cell 4 _ rfl
   have v5:=xv.cell 5 _ rfl
   have v6:=xv.cell 6 _ rfl
   have v7:=xv.cell 7 _ rfl
   have hN5:=lz.lt
   dsimp only [XV.v] at HDO
   go_wp2_with fail
   refine (HDO.out _ hE5 okz hvk5).mono ?_
   rintro e w6 ⟨⟨z,rfl,okn,smn,nn,pn⟩,hb⟩
   have s56:=hb.size
   replace lz:=lz.below hb
   replace okz:=okz.below hb (Nat.le_refl _)
   replace xR:=xR.below hb
   replace HI:=hide (H1.out _ _ _ _ _ HI.out hb)
   replace bw:=bw.trans (hb.mono (show u.heap.size≤w5.heap.size by omega))
   clear hb q0 q1 q2 q3 q4 q5 q6 q7 q8 q9 v0 v1 v2 v3 v4 v5 v6 v7 xv hE5 hvk5 HDO HNX buw5 buw
   dsimp only [WV.v]
   go_upto_region 6 with fail
   have bn:=belowA (Below.refl _ w6) (.cells z.cells.toArray 40)
   have xz:=Lay.made w6 z.cells 40
   replace lz:=lz.below bn
   replace okz:=okz.below bn (Nat.le_refl _)
   replace okn:=okn.below bn (Nat.le_refl _)
   replace xR:=xR.below bn
   replace HI:=hide (H1.out _ _ _ _ _ HI.out bn)
   replace bw:=bw.trans (bn.mono (show u.heap.size≤w6.heap.size by omega))
   have s67:=bn.size
   clear bn
   generalize w6.alloc (.cells z.cells.toArray 40)=w7 at *
   have hT2:=xz.lt
   generalize w6.heap.size=T2 at *
   cases h0:dw.2==0
   ·go_wp2
    exact ⟨⟨_,rfl,j + 1,x,A,H,T,by omega,by go_num,lz,okz,smz,nz,oz,HSG.out,HI.out,xR,bw⟩,by simp [intOf];omega⟩
   ·obtain ⟨A',H',T',hsg',hgr⟩:=HST.out (by simpa using h0)
    rw [← pn] at hsg'
    have HS':=hide hsg'
    have HG:=hide hgr
    clear hsg' hgr pn HST HSG
    obtain ⟨q0,q1,q2,q3,q4,q5,q6,q7,q8,q9⟩:=lz.ten
    obtain ⟨t0,t1,t2,t3,t4,t5,t6,t7,t8,t9⟩:=xz.ten
    have li:=lz.ice
    have hNT:N≠T2:=by omega
    have hTN:T2≠N:=by omega
    have hnN:=nn N (by omega)
    have nw8:z.new (w.heap.size + 1):=nn.mono (by omega)
    have bN:=putAll_but N z.cells w7 0
    have l8:=lz.fill (vs:=z.cells) rfl
    have o8:=okn.but bN.but hnN
    have r8:=xR.butI bN (show w.heap.size≠N by omega)
    have b8:=bw.trans (bN.below (B:=u.heap.size) (show u.heap.size≤N by omega))
    have s8:=bN.but.size
    have i8:=hide (H2.out _ _ _ _ _ (show w.heap.size≤N by omega) HI.out bN)
    obtain ⟨w8,hw8⟩:∃ o,o=putAll w7 N 0 z.cells:=⟨_,rfl⟩
    rw [← hw8] at l8 o8 r8 b8 s8 i8
    go_upto_region 8 with fail
    dsimp only [putAll,Nat.reduceAdd] at hw8
    rw [← hw8]
    clear hw8 q0 q1 q2 q3 q4 q5 q6 q7 q8 q9 t0 t1 t2 t3 t4 t5 t6 t7 t8 t9 li bN lz xR bw xz okz okn HI hNT hTN
    have hN8:=l8.lt
    have HC:=hide (HF.out N z w8 A T A' H' T' (by omega) hN8 i8.out (hE.below (hu.trans b8)) o8 smn HS'.out HG.out)
    dsimp only [WV.v] at HC
    obtain ⟨q0,q1,q2,q3,q4,q5,q6,q7,q8,q9⟩:=l8.ten
    go_wp2_with fail
    refine HC.out.mono ?_
    rintro e w9 ⟨rfl,i9,hop⟩
    have l9:=hop.lay l8 (by omega)
    have o9:=hop.world o8 (nw8.mono (by omega))
    have r9:=hop.lay r8 (Nat.le_refl _)
    have b9:=b8.trans (hop.keep (by omega))
    have I9:=hide i9
    clear q0 q1 q2 q3 q4 q5 q6 q7 q8 q9 hop l8 o8 r8 b8 i8 i9 HC
    go_wp2
    exact ⟨⟨_,rfl,j + 1,z,A',H',T',by omega,by go_num,l9,o9,smn,nw8,hnN,HS'.out,I9.out,r9,b9⟩,by simp [intOf];omega⟩
  ·obtain rfl:j=mm:=by omega
   obtain ⟨q0,q1,q2,q3,q4,q5,q6,q7,q8,q9⟩:=lz.ten
   obtain ⟨e0,e1,e2,e3,e4,e5,e6,e7,e8,e9⟩:=Lay.ten (x:=WV.zero) xR
   have ice:=xR.ice
   dsimp only [WV.zero,HV.zero,DV.zero,KV.zero,zeroB] at e0 e1 e2 e3 e4 e5 e6 e7 e8 e9
   have bt:=putAll_but w.heap.size x.cells wr 0
   have ok9:=okz.but bt.but (nz _ (by omega))
   have zB:=xR.fill (vs:=x.cells) rfl
   have b9:=bw.trans (bt.below (B:=u.heap.size) huw)
   dsimp only [putAll,Nat.reduceAdd] at ok9 zB b9
   clear okz bt lz xR bw HI
   go_wp2
   obtain ⟨z0,z1,z2,z3,z4,z5,z6,z7,z8,z9⟩:=zB.ten
   exact bodyPost_ret (v:=.tuple #[x.v,.bool true]) (by simp [results,Tryz.results8,go_sem,z0,z1,z2,z3,z4,z5,z6,z7,z8,z9]) rfl
    ⟨⟨x,A,H,T,rfl,ok9,smz,nz.mono (by omega),HSG.out⟩,b9⟩
theorem StoryGrows_c (la:Option Addr) (ln lc:Nat) (L:List XV) (w:World) (hE:Env w) (hL:Rows' hapK w la ln lc L):Calls Tryz.prog 3 #[.slice la ln lc] w fun e w'=>e=.returned (.bool true)∧Below w.heap.size w w':=by
 obtain ⟨xa,xb,bw⟩:=two_boxes w [.slice none 0 0] [.slice none 0 0] 23 24
 go_enter Tryz.func3,Tryz.ntmps3
 go_wp2_with fail
 generalize hw2:(w.alloc (.cells [.slice none 0 0].toArray 23)).alloc (.cells [.slice none 0 0].toArray 24)=w2 at *
 have hs2:w2.heap.size=w.heap.size + 1 + 1:=by rw [← hw2];simp
 have HS2:=hide hs2
 clear hw2
 have HP:=hide (playedGrows_c w.heap.size (w.heap.size + 1) la ln lc L w w2 (fun k=>Keepsake w.heap.size (w.heap.size + 1) k) hE hL bw
  (fun k w' h hb=>Keepsake.nil (by omega) (by omega) (xa.below hb) (xb.below hb))
  (fun k w' w'' A T h hb=>h.below hb)
  (fun k w' w'' A T hk h hb=>h.but hb)
  (fun k x w' A T A' H' T' hk hlt hi hE' hx hs hg hgr=>(sgrows_c w.heap.size (w.heap.size + 1) k x w' hE' hx hs (by omega) (by omega) hlt hi hg hgr).mono fun e w'' ⟨h1,h2,u1,u2,b1,b2,b3⟩=>⟨h1,h2,((Hops.low b1).hop b2 (Nat.le_refl _) (by omega)).hop b3 (by omega) (by omega)⟩))
 clear hs2
 refine HP.out.mono ?_
 rintro e w3 ⟨⟨x,A,H,T,rfl,-,-,-,-⟩,hb⟩
 replace bw:=bw.trans hb
 dsimp only [WV.v]
 replace hE:=hE.below bw
 go_upto_region 4 with fail
 have Bx:=Lay.made w3 x.cells 40
 have bn:=belowA (Below.refl _ w3) (.cells x.cells.toArray 40)
 generalize w3.heap.size=B at Bx
 generalize w3.alloc (.cells x.cells.toArray 40)=w4 at *
 replace hE:=hE.below bn
 replace bw:=belowT bw bn
 clear bn Bx
 go_wp2_with fail
 refine (told_w _ hE).mono ?_
 rintro e w5 ⟨rfl,hb⟩
 replace bw:=belowT bw hb
 go_wp2
 go_ret
 exact ⟨rfl,bw⟩
end Go.Proofs.YtabafikicbkkdaaGreatDoor
