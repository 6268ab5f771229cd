/- The contracts of package book; no condition but that the keys read as a list. -/
import Derived.Test.YtabafikicbkkdaaGreatDoorSV18
import Derived.Test.YtabafikicbkkdaaGreatDoorSV10
import Derived.Test.YtabafikicbkkdaaGreatDoorSV16
import Derived.Test.YtabafikicbkkdaaGreatDoorSV2
import Derived.Deep.RegionHeld3
namespace Go.Proofs.YtabafikicbkkdaaGreatDoor
open Go.RowKit
set_option linter.unusedVariables false
set_option maxHeartbeats 2000000
set_option maxRecDepth 100000
set_option linter.unusedSimpArgs false
theorem hand_nat {b:PB} {who:Int} (hp:preB b who=0):∃ k:Nat,k < 3∧who=k:=by
 rcases (preB_ok hp).2 with rfl|rfl|rfl
 ·exact ⟨0,by omega,rfl⟩
 ·exact ⟨1,by omega,rfl⟩
 ·exact ⟨2,by omega,rfl⟩
theorem BRegister_c (a:Option Addr) (n c:Nat) (b:PB) (who key:Int) (w:World) (h:Ints w a n c b.k) :
  Calls Tryz.prog 172 #[bookV a n c b,.int .i64 who,.int .i64 key] w fun e w'=>(∃ a' n' c',e=.returned (.tuple #[bookV a' n' c' (registerB b who key).1,.int .i64 (registerB b who key).2])∧Ints w' a' n' c' (registerB b who key).1.k∧∀ x,a'=some x→w.heap.size≤x.block)∧Below w.heap.size w w':=by
 by_cases hp:preB b who=0
 ·cases hk:inB key 0 9
  ·exact BRegister_rng a n c b who key w h hp hk
  ·obtain ⟨rfl,g,off,rfl,hc⟩:=key_cell h hp
   obtain ⟨k,hk3,rfl⟩:=hand_nat hp
   exact BRegister_good g off c b k key w h hp hk3 hk
 ·exact BRegister_bad a n c b who key w h hp
theorem BReserve_c (a:Option Addr) (n c:Nat) (b:PB) (who key:Int) (w:World) (h:Ints w a n c b.k) :
  Calls Tryz.prog 173 #[bookV a n c b,.int .i64 who,.int .i64 key] w fun e w'=>(∃ a' n' c',e=.returned (.tuple #[bookV a' n' c' (reserveB b who key).1,.int .i64 (reserveB b who key).2])∧Ints w' a' n' c' (reserveB b who key).1.k∧∀ x,a'=some x→w.heap.size≤x.block)∧Below w.heap.size w w':=by
 by_cases hp:preB b who=0
 ·cases hk:inB key 1 4
  ·exact BReserve_rng a n c b who key w h hp hk
  ·obtain ⟨rfl,g,off,rfl,hc⟩:=key_cell h hp
   obtain ⟨k,hk3,rfl⟩:=hand_nat hp
   exact BReserve_good g off c b k key w h hp hk3 hk _ rfl (by simpa using hc)
 ·exact BReserve_bad a n c b who key w h hp
theorem BPreempt_c (a:Option Addr) (n c:Nat) (b:PB) (who key:Int) (w:World) (h:Ints w a n c b.k) :
  Calls Tryz.prog 175 #[bookV a n c b,.int .i64 who,.int .i64 key] w fun e w'=>(∃ a' n' c',e=.returned (.tuple #[bookV a' n' c' (preemptB b who key).1,.int .i64 (preemptB b who key).2])∧Ints w' a' n' c' (preemptB b who key).1.k∧∀ x,a'=some x→w.heap.size≤x.block)∧Below w.heap.size w w':=by
 by_cases hp:preB b who=0
 ·cases hk:inB key 1 9
  ·exact BPreempt_rng a n c b who key w h hp hk
  ·obtain ⟨rfl,g,off,rfl,hc⟩:=key_cell h hp
   obtain ⟨k,hk3,rfl⟩:=hand_nat hp
   exact BPreempt_good g off c b k key w h hp hk3 hk _ rfl (by simpa using hc)
 ·exact BPreempt_bad a n c b who key w h hp
theorem regE_pre {b:PB} {who:Int} (h:regE b who=0):preB b who=0:=by
 unfold regE at h
 split at h
 ·exact h
 ·rename_i h1
  exact Decidable.not_not.1 h1
theorem BRelease_c (a:Option Addr) (n c:Nat) (b:PB) (who:Int) (w:World) (h:Ints w a n c b.k) :
  Calls Tryz.prog 174 #[bookV a n c b,.int .i64 who] w fun e w'=>(∃ a' n' c',e=.returned (.tuple #[bookV a' n' c' (releaseB b who).1,.int .i64 (releaseB b who).2])∧Ints w' a' n' c' (releaseB b who).1.k∧∀ x,a'=some x→w.heap.size≤x.block)∧Below w.heap.size w w':=by
 by_cases hp:regE b who=0
 ·obtain ⟨rfl,g,off,rfl,hc⟩:=key_cell h (regE_pre hp)
  exact BRelease_good g off c b who w h hp
 ·exact BRelease_bad a n c b who w h hp
theorem BClear_c (a:Option Addr) (n c:Nat) (b:PB) (who:Int) (w:World) (h:Ints w a n c b.k) :
  Calls Tryz.prog 176 #[bookV a n c b,.int .i64 who] w fun e w'=>(∃ a' n' c',e=.returned (.tuple #[bookV a' n' c' (clearB b who).1,.int .i64 (clearB b who).2])∧Ints w' a' n' c' (clearB b who).1.k∧∀ x,a'=some x→w.heap.size≤x.block)∧Below w.heap.size w w':=by
 by_cases hp:regE b who=0
 ·obtain ⟨rfl,g,off,rfl,hc⟩:=key_cell h (regE_pre hp)
  exact BClear_good g off c b who w h hp
 ·exact BClear_bad a n c b who w h hp
theorem BMay_c (a:Option Addr) (n c:Nat) (b:PB) (who:Int) (wr:Bool) (w:World) (h:Ints w a n c b.k) :
  Calls Tryz.prog 23 #[bookV a n c b,.int .i64 who,.bool wr] w fun e w'=>e=.returned (.tuple #[.bool (mayB b who wr).1,.int .i64 (mayB b who wr).2])∧Below w.heap.size w w':=by
 by_cases hp:preB b who=0
 ·obtain ⟨rfl,g,off,rfl,hc⟩:=key_cell h hp
  obtain ⟨k,hk3,rfl⟩:=hand_nat hp
  have hm:mayB b k wr=(mightB b k wr,0):=by simp [mayB,hp]
  rw [hm]
  exact BMay_good g off c b k wr w h hp hk3 _ rfl (by simpa using hc)
 ·have hm:mayB b who wr=(false,preB b who):=by simp [mayB,hp]
  rw [hm]
  exact BMay_bad a n c b who wr w h hp
end Go.Proofs.YtabafikicbkkdaaGreatDoor
namespace Go.Proofs.YtabafikicbkkdaaGreatDoor
open Go.RowKit
set_option linter.unusedVariables false
set_option maxHeartbeats 2000000
set_option maxRecDepth 100000
set_option linter.unusedSimpArgs false
theorem dwithin_c (n a b:Int) (w:World):Calls Tryz.prog 98 #[.int .i64 n,.int .i64 a,.int .i64 b] w fun e w'=>e=.returned (.bool (inB n a b))∧w'=w:=by
 go_enter Tryz.func98,Tryz.ntmps98
 go_wp2
 all_goals (go_ret;exact ⟨ret_bool (by unfold inB;rw [Bool.eq_iff_iff];simp;try omega),rfl⟩)
theorem hasZone_c (a:Option Addr) (n c:Nat) (k:Int) (w:World) (hm:n≤9223372036854775807) :
  Calls Tryz.prog 154 #[.slice a n c,.int .i64 k] w fun e w'=>e=.returned (.bool (inB k 0 ((n:Int) - 1)))∧w'=w:=by
 go_enter Tryz.func154,Tryz.ntmps154
 go_wp2_with (go_at_call 98;refine (dwithin_c _ _ _ _).mono ?_;rintro e w' ⟨rfl,rfl⟩)
 go_ret
 exact ⟨rfl,rfl⟩
theorem DCheck_c (d:DV) (w:World) (h:d.ok w):Calls Tryz.prog 105 #[d.v] w fun e w'=>e=.returned (.int .i64 (checkD d.p))∧Below w.heap.size w w':=by
 obtain ⟨za,zn,zc,Z,ka,kn,kc,b⟩:=d
 obtain ⟨hz,hk⟩:=h
 dsimp only [DV.v,DV.p] at *
 have HC:Hid (checkD ⟨Z.map ZV.p,b⟩=if checkZs (Z.map ZV.p)≠0 then checkZs (Z.map ZV.p) else checkB b):=hide rfl
 go_enter Tryz.func105,Tryz.ntmps105
 go_wp2_with fail
 refine (YCheck_c za zn zc Z _ (hz.below (B:=w.heap.size) (by (repeat first|exact bel0|assumption|refine bel1 ?_|refine bel2 ?_|refine bel3 ?_|refine belowT ?_ (by assumption)|refine bel5 ?_ (by simp;try omega))) (Nat.le_refl _))).mono ?_
 rintro e w1 ⟨rfl,hb1⟩
 have c1:=keepc hb1 (p:=⟨w.heap.size,1,none⟩) (u:=.slice ka kn kc) (by go_simp)
 have c2:=keepc hb1 (p:=⟨w.heap.size,2,none⟩) (u:=.int .i64 b.h) (by go_simp)
 have c3:=keepc hb1 (p:=⟨w.heap.size,3,none⟩) (u:=.int .i64 b.t) (by go_simp)
 have bw:Below w.heap.size w w1:=by (repeat first|exact bel0|assumption|refine bel1 ?_|refine bel2 ?_|refine bel3 ?_|refine belowT ?_ (by assumption)|refine bel5 ?_ (by simp;try omega))
 clear hb1
 generalize hx:checkZs (Z.map ZV.p)=x at *
 clear hx
 cases h0:x !=0
 ·go_wp2_with fail
  refine (BCheck_c ka kn kc b _ (hk.below bw (Nat.le_refl _))).mono ?_
  rintro e w2 ⟨rfl,hb2⟩
  go_wp2
  go_ret
  exact ⟨ret_int (by rw [HC.out];simp at h0;simp [h0]),by (repeat first|exact bel0|assumption|refine bel1 ?_|refine bel2 ?_|refine bel3 ?_|refine belowT ?_ (by assumption)|refine bel5 ?_ (by simp;try omega))⟩
 ·go_wp2
  go_ret
  exact ⟨ret_int (by rw [HC.out];simp at h0;simp [h0]),bw⟩
theorem DSame_c (d f:DV) (w:World) (h:d.ok w) (k:f.ok w):Calls Tryz.prog 41 #[d.v,f.v] w fun e w'=>e=.returned (.bool (sameD d.p f.p))∧Below w.heap.size w w':=by
 obtain ⟨za,zn,zc,Z,ka,kn,kc,b⟩:=d
 obtain ⟨ya,yn,yc,Y,la,ln,lc,f⟩:=f
 obtain ⟨hz,hk⟩:=h
 obtain ⟨hy,hl⟩:=k
 dsimp only [DV.v,DV.p] at *
 have HS:Hid (sameD ⟨Z.map ZV.p,b⟩ ⟨Y.map ZV.p,f⟩=(decide (Z.map ZV.p=Y.map ZV.p)&&sameB b f)):=hide rfl
 go_enter Tryz.func41,Tryz.ntmps41
 go_wp2_with fail
 refine (YSame_c za ya zn yn zc yc Z Y _ (hz.below (B:=w.heap.size) (by (repeat first|exact bel0|assumption|refine bel1 ?_|refine bel2 ?_|refine bel3 ?_|refine belowT ?_ (by assumption)|refine bel5 ?_ (by simp;try omega))) (Nat.le_refl _)) (hy.below (B:=w.heap.size) (by (repeat first|exact bel0|assumption|refine bel1 ?_|refine bel2 ?_|refine bel3 ?_|refine belowT ?_ (by assumption)|refine bel5 ?_ (by simp;try omega))) (Nat.le_refl _))).mono ?_
 rintro e w1 ⟨rfl,hb1⟩
 have c1:=keepc hb1 (p:=⟨w.heap.size,1,none⟩) (u:=.slice ka kn kc) (by go_simp)
 have c2:=keepc hb1 (p:=⟨w.heap.size,2,none⟩) (u:=.int .i64 b.h) (by go_simp)
 have c3:=keepc hb1 (p:=⟨w.heap.size,3,none⟩) (u:=.int .i64 b.t) (by go_simp)
 have d1:=keepc hb1 (p:=⟨w.heap.size + 1,1,none⟩) (u:=.slice la ln lc) (by go_simp)
 have d2:=keepc hb1 (p:=⟨w.heap.size + 1,2,none⟩) (u:=.int .i64 f.h) (by go_simp)
 have d3:=keepc hb1 (p:=⟨w.heap.size + 1,3,none⟩) (u:=.int .i64 f.t) (by go_simp)
 have bw:Below w.heap.size w w1:=by (repeat first|exact bel0|assumption|refine bel1 ?_|refine bel2 ?_|refine bel3 ?_|refine belowT ?_ (by assumption)|refine bel5 ?_ (by simp;try omega))
 clear hb1
 generalize decide (Z.map ZV.p=Y.map ZV.p)=x at *
 cases x
 ·go_wp2
  go_ret
  exact ⟨ret_bool (by rw [HS.out];rfl),bw⟩
 ·go_wp2_with fail
  refine (BSame_c ka la kn ln kc lc b f _ (hk.below bw (Nat.le_refl _)) (hl.below bw (Nat.le_refl _))).mono ?_
  rintro e w2 ⟨rfl,hb2⟩
  go_wp2
  go_ret
  exact ⟨ret_bool (by rw [HS.out];simp),by (repeat first|exact bel0|assumption|refine bel1 ?_|refine bel2 ?_|refine bel3 ?_|refine belowT ?_ (by assumption)|refine bel5 ?_ (by simp;try omega))⟩
theorem DNew_c (w:World):Calls Tryz.prog 56 #[] w fun e w'=>(∃ d:DV,e=.returned d.v∧d.ok w'∧d.new w.heap.size∧d.p=freshD)∧Below w.heap.size w w':=by
 go_enter Tryz.func56,Tryz.ntmps56
 have xR:=Lay.made w [.slice none 0 0,.slice none 0 0,.int .i64 0,.int .i64 0] 30
 have bw:Below w.heap.size w (w.alloc (.cells [.slice none 0 0,.slice none 0 0,.int .i64 0,.int .i64 0].toArray 30)):=by (repeat first|exact bel0|assumption|refine bel1 ?_|refine bel2 ?_|refine bel3 ?_|refine belowT ?_ (by assumption)|refine bel5 ?_ (by simp;try omega))
 go_wp2_with fail
 refine (YNew_f _).mono ?_
 rintro e w1 ⟨⟨a1,c1,Z1,rfl,i1,n1,p1⟩,hb1⟩
 have P1:=hide p1
 replace xR:=xR.below hb1
 replace bw:=belowT bw hb1
 simp at n1
 have N1:=hide n1
 clear p1 n1 hb1
 go_wp2_with fail
 refine (BNew_c _).mono ?_
 rintro e w2 ⟨⟨a2,c2,rfl,i2,f2⟩,hb2⟩
 have hs1:=bw.size
 have hlt:=xR.lt
 have F2:=hide f2
 replace xR:=xR.below hb2
 replace bw:=belowT bw hb2
 replace i1:=i1.below hb2 (Nat.le_refl _)
 clear f2 hb2
 simp only [bookV,freshB] at i2 ⊢
 have e0:=xR.cell 0 _ rfl
 have e1:=xR.cell 1 _ rfl
 have e2:=xR.cell 2 _ rfl
 have e3:=xR.cell 3 _ rfl
 have f0:=xR.ice 0
 have f1:=xR.ice 1
 have f2:=xR.ice 2
 have f3:=xR.ice 3
 go_wp2
 have hoff:∀ R,R≤w.heap.size→(⟨a1,4,c1,Z1,a2,3,c2,freshB⟩:DV).off R:=fun R hR=>
  ⟨.inr fun x e=>by have:=N1.out.1 x e;omega,fun z hz=>.inr fun x e=>by have:=N1.out.2 z hz x e;omega,.inr fun x e=>by have:=F2.out x e;omega⟩
 have hok:(⟨a1,4,c1,Z1,a2,3,c2,freshB⟩:DV).ok w2:=⟨i1,i2⟩
 have zB:=(((xR.set 0 (.slice a1 4 c1)).set 1 (.slice a2 3 c2)).set 2 (.int .i64 (-1))).set 3 (.int .i64 0)
 have hbut:=((((But.refl w.heap.size w2).step 0 (.slice a1 4 c1)).step 1 (.slice a2 3 c2)).step 2 (.int .i64 (-1))).step 3 (.int .i64 0)
 have bw9:=bw.trans hbut.low
 have hok9:=hok.but hbut (hoff _ (Nat.le_refl _))
 generalize (((w2.setCell ⟨w.heap.size,0,none⟩ (.slice a1 4 c1)).setCell ⟨w.heap.size,1,none⟩ (.slice a2 3 c2)).setCell ⟨w.heap.size,2,none⟩ (.int .i64 (-1))).setCell ⟨w.heap.size,3,none⟩ (.int .i64 0)=w9 at *
 have z0:=zB.cell 0 _ rfl
 have z1:=zB.cell 1 _ rfl
 have z2:=zB.cell 2 _ rfl
 have z3:=zB.cell 3 _ rfl
 exact bodyPost_ret (v:=.agg #[.slice a1 4 c1,.slice a2 3 c2,.int .i64 (-1),.int .i64 0]) (by simp [results,Tryz.results56,go_sem,z0,z1,z2,z3]) rfl
  ⟨⟨⟨a1,4,c1,Z1,a2,3,c2,freshB⟩,rfl,hok9,fun R hR=>hoff R (Nat.le_of_lt hR),by simp [DV.p,P1.out,freshD]⟩,bw9⟩
end Go.Proofs.YtabafikicbkkdaaGreatDoor
namespace Go.Proofs.YtabafikicbkkdaaGreatDoor
open Go.RowKit
set_option linter.unusedVariables false
set_option maxHeartbeats 2000000
set_option maxRecDepth 100000
set_option linter.unusedSimpArgs false
theorem DCheckAnswer_c (x:AV) (w:World) (h:x.ok w):Calls Tryz.prog 70 #[x.v] w fun e w'=>e=.returned (.int .i64 (checkA x.p))∧Below w.heap.size w w':=by
 obtain ⟨ee,tt,a,n,c,l⟩:=x
 have hI:Ints w a n c l:=h
 dsimp only [AV.v,AV.p]
 have hlen:=hI.len
 have hmax:=hI.max
 have hle:=hI.le
 rcases (by omega:ee < 0∨(0≤ee∧9 < ee)∨(0≤ee∧ee≤9)) with h1|⟨h0,h1⟩|⟨h0,h1⟩
 ·have HC:Hid (checkA ⟨ee,tt,l⟩=3):=hide (by unfold checkA;exact if_pos (.inl (by simp [outB];omega)))
  go_enter Tryz.func70,Tryz.ntmps70
  go_wp2
  go_ret
  exact ⟨ret_int HC.out.symm,by (repeat first|exact bel0|assumption|refine bel1 ?_|refine bel2 ?_|refine bel3 ?_|refine belowT ?_ (by assumption)|refine bel5 ?_ (by simp;try omega))⟩
 ·have HC:Hid (checkA ⟨ee,tt,l⟩=3):=hide (by unfold checkA;exact if_pos (.inl (by simp [outB];omega)))
  go_enter Tryz.func70,Tryz.ntmps70
  go_wp2
  go_ret
  exact ⟨ret_int HC.out.symm,by (repeat first|exact bel0|assumption|refine bel1 ?_|refine bel2 ?_|refine bel3 ?_|refine belowT ?_ (by assumption)|refine bel5 ?_ (by simp;try omega))⟩
 ·cases ht:inB tt 0 7
  ·have HC:Hid (checkA ⟨ee,tt,l⟩=3):=hide (by unfold checkA;exact if_pos (.inr (by rw [inB_outB] at ht;simpa using ht)))
   have HT:=hide ht
   clear ht
   go_enter Tryz.func70,Tryz.ntmps70
   go_wp2_with (go_at_call 98;refine (dwithin_c _ _ _ _).mono ?_;rintro e w1 ⟨rfl,rfl⟩;rw [HT.out])
   go_ret
   exact ⟨ret_int HC.out.symm,by (repeat first|exact bel0|assumption|refine bel1 ?_|refine bel2 ?_|refine bel3 ?_|refine belowT ?_ (by assumption)|refine bel5 ?_ (by simp;try omega))⟩
  ·have HC:Hid (checkA ⟨ee,tt,l⟩=if 8 < l.length then 2 else if l.any (outB 0 999) then 3 else if ee≠0∧(tt≠0∨l≠[]) then 4 else 0):=hide (by
    unfold checkA
    exact if_neg (by rw [inB_outB] at ht;simp only [Bool.not_eq_true'] at ht;rw [ht];simp [outB];omega))
   have HT:=hide ht
   clear ht
   by_cases h8:8 < n
   ·have h8':(8:Int) < (n:Int):=by omega
    go_enter Tryz.func70,Tryz.ntmps70
    go_wp2_with (go_at_call 98;refine (dwithin_c _ _ _ _).mono ?_;rintro e w1 ⟨rfl,rfl⟩;rw [HT.out])
    go_ret
    exact ⟨ret_int (by rw [HC.out,hlen,if_pos h8]),by (repeat first|exact bel0|assumption|refine bel1 ?_|refine bel2 ?_|refine bel3 ?_|refine belowT ?_ (by assumption)|refine bel5 ?_ (by simp;try omega))⟩
   ·have h8':¬ (8:Int) < (n:Int):=by omega
    go_enter Tryz.func70,Tryz.ntmps70
    go_wp2_with (go_at_call 98;refine (dwithin_c _ _ _ _).mono ?_;rintro e w1 ⟨rfl,rfl⟩;rw [HT.out])
    go_loop [26] (fun i=>∃ k:Nat,k≤n∧i=.int .i64 k∧(l.take k).any (outB 0 999)=false) (fun i=>n - (intOf i).toNat)
    case atStart=>exact ⟨0,by omega,rfl,by simp⟩
    case round=>
     obtain ⟨k,hk,rfl,hno⟩:=hrel
     have HN:=hide hno
     clear hno
     by_cases hlt:k < n
     ·have hlt':(k:Int) < (n:Int):=by omega
      rcases hI.row with h00|⟨b1,o1,rfl,_,hr1⟩
      ·omega
      ·have hi1:=past1 (hr1 k hlt)
       generalize hx:l.getD k 0=x at hi1
       have HX:=hide hx
       clear hx hr1
       cases hin:inB x 0 999
       ·have HIN:=hide hin
        clear hin
        go_wp2_with (go_at_call 98;refine (dwithin_c _ _ _ _).mono ?_;rintro e w1 ⟨rfl,rfl⟩;rw [HIN.out])
        go_ret
        refine ⟨ret_int ?_,by (repeat first|exact bel0|assumption|refine bel1 ?_|refine bel2 ?_|refine bel3 ?_|refine belowT ?_ (by assumption)|refine bel5 ?_ (by simp;try omega))⟩
        have hin:=HIN.out
        rw [inB_outB] at hin
        rw [HC.out,hlen,if_neg h8,any_of_getD _ l k (by omega) (by rw [HX.out];simpa using hin)]
        rfl
       ·have HIN:=hide hin
        clear hin
        go_wp2_with (go_at_call 98;refine (dwithin_c _ _ _ _).mono ?_;rintro e w1 ⟨rfl,rfl⟩;rw [HIN.out])
        have hin:=HIN.out
        rw [inB_outB] at hin
        exact ⟨⟨k + 1,by omega,by go_num,any_take_step _ l k (by omega) HN.out (by rw [HX.out];simpa using hin)⟩,by simp [intOf];omega⟩
     ·obtain rfl:k=n:=by omega
      have hno:=HN.out
      rw [List.take_of_length_le (by omega)] at hno
      have HN2:=hide hno
      clear hno HN
      cases e0:ee !=0
      ·go_wp2
       go_ret
       exact ⟨ret_int (by simp at e0;rw [HC.out,hlen,if_neg h8,HN2.out];simp [e0]),by (repeat first|exact bel0|assumption|refine bel1 ?_|refine bel2 ?_|refine bel3 ?_|refine belowT ?_ (by assumption)|refine bel5 ?_ (by simp;try omega))⟩
      ·cases t0:tt !=0
       ·by_cases hk0:0 < k
        ·have hk0':(0:Int) < (k:Int):=by omega
         go_wp2
         go_ret
         have hl:l≠[]:=fun e=>by rw [e] at hlen;simp at hlen;omega
         exact ⟨ret_int (by simp at e0;rw [HC.out,hlen,if_neg h8,HN2.out];simp [e0,hl]),by (repeat first|exact bel0|assumption|refine bel1 ?_|refine bel2 ?_|refine bel3 ?_|refine belowT ?_ (by assumption)|refine bel5 ?_ (by simp;try omega))⟩
        ·have hk0':¬ (0:Int) < (k:Int):=by omega
         go_wp2
         go_ret
         have hl:l=[]:=List.eq_nil_of_length_eq_zero (by omega)
         exact ⟨ret_int (by simp at t0;rw [HC.out,hlen,if_neg h8,HN2.out];simp [t0,hl]),by (repeat first|exact bel0|assumption|refine bel1 ?_|refine bel2 ?_|refine bel3 ?_|refine belowT ?_ (by assumption)|refine bel5 ?_ (by simp;try omega))⟩
       ·go_wp2
        go_ret
        exact ⟨ret_int (by simp at e0 t0;rw [HC.out,hlen,if_neg h8,HN2.out];simp [e0,t0]),by (repeat first|exact bel0|assumption|refine bel1 ?_|refine bel2 ?_|refine bel3 ?_|refine belowT ?_ (by assumption)|refine bel5 ?_ (by simp;try omega))⟩
theorem DCheckDo_c (d:DV) (who:Int) (a:Option Addr) (m c:Nat) (x:PC) (w:World) (hS:Shapes w) (h:d.ok w) (hx:Ints w a m c x.d) :
  Calls Tryz.prog 110 #[d.v,.int .i64 who,cmdV a m c x] w fun e w'=>e=.returned (.int .i64 (doE d.p who x))∧Below w.heap.size w w':=by
 have HD:=fun w' (hw:d.ok w')=>DCheck_c d w' hw
 have HQ:=fun w' hS' hx'=>cmdCheck_c a m c x w' hS' hx'
 have HC:Hid (doE d.p who x=if checkD d.p≠0 then checkD d.p else if inB who 0 2=false then 5 else checkC x):=hide rfl
 obtain ⟨za,zn,zc,Z,ka,kn,kc,b⟩:=d
 obtain ⟨xk,xz,xn,xt,xd⟩:=x
 dsimp only [DV.v,cmdV] at *
 have H1:=hide HD
 have H2:=hide HQ
 clear HD HQ
 go_enter Tryz.func110,Tryz.ntmps110
 go_wp2_with fail
 refine (H1.out _ (h.below (B:=w.heap.size) (by (repeat first|exact bel0|assumption|refine bel1 ?_|refine bel2 ?_|refine bel3 ?_|refine belowT ?_ (by assumption)|refine bel5 ?_ (by simp;try omega))) (Nat.le_refl _))).mono ?_
 rintro e w1 ⟨rfl,hb1⟩
 have c0:=keepc hb1 (p:=⟨w.heap.size + 1,0,none⟩) (u:=.int .i64 xk) (by go_simp)
 have c1:=keepc hb1 (p:=⟨w.heap.size + 1,1,none⟩) (u:=.int .i64 xz) (by go_simp)
 have c2:=keepc hb1 (p:=⟨w.heap.size + 1,2,none⟩) (u:=.int .i64 xn) (by go_simp)
 have c3:=keepc hb1 (p:=⟨w.heap.size + 1,3,none⟩) (u:=.int .i64 xt) (by go_simp)
 have c4:=keepc hb1 (p:=⟨w.heap.size + 1,4,none⟩) (u:=.slice a m c) (by go_simp)
 have bw:Below w.heap.size w w1:=by (repeat first|exact bel0|assumption|refine bel1 ?_|refine bel2 ?_|refine bel3 ?_|refine belowT ?_ (by assumption)|refine bel5 ?_ (by simp;try omega))
 clear hb1
 generalize checkD _=x at *
 cases h0:x !=0
 ·cases hw:inB who 0 2
  ·have HW:=hide hw
   clear hw
   go_wp2_with (go_at_call 98;refine (dwithin_c _ _ _ _).mono ?_;rintro e w1 ⟨rfl,rfl⟩;rw [HW.out])
   go_ret
   exact ⟨ret_int (by rw [HC.out,HW.out];simp at h0;simp [h0]),bw⟩
  ·have HW:=hide hw
   clear hw
   go_wp2_with (first|(go_at_call 98;refine (dwithin_c _ _ _ _).mono ?_;rintro e w1 ⟨rfl,rfl⟩;rw [HW.out]))
   refine (H2.out _ (hS.below bw) (hx.below bw (Nat.le_refl _))).mono ?_
   rintro e w2 ⟨rfl,hb2⟩
   go_wp2
   go_ret
   exact ⟨ret_int (by rw [HC.out,HW.out];simp at h0;simp [h0]),by (repeat first|exact bel0|assumption|refine bel1 ?_|refine bel2 ?_|refine bel3 ?_|refine belowT ?_ (by assumption)|refine bel5 ?_ (by simp;try omega))⟩
 ·go_wp2
  go_ret
  exact ⟨ret_int (by rw [HC.out];simp at h0;simp [h0]),bw⟩
theorem turned_c (a:Option Addr) (n c:Nat) (Z:List ZV) (ca:Option Addr) (cn cc:Nat) (x:PC) (w:World) (h:Zones w a n c Z) :
  Calls Tryz.prog 157 #[.slice a n c,cmdV ca cn cc x] w fun e w'=>(∃ a' n' c' Z',e=.returned (.tuple #[.slice a' n' c',.int .i64 (zoneDo (Z.map ZV.p) x).2])∧Zones w' a' n' c' Z'∧NewZ w.heap.size a' Z'∧Z'.map ZV.p=(zoneDo (Z.map ZV.p) x).1)∧Below w.heap.size w w':=by
 obtain ⟨xk,xz,xn,xt,xd⟩:=x
 unfold cmdV
 dsimp only
 by_cases h1:xk=1
 ·subst h1
  rw [show zoneDo (Z.map ZV.p) ⟨1,xz,xn,xt,xd⟩=holdP (Z.map ZV.p) xz from rfl]
  go_enter Tryz.func157,Tryz.ntmps157
  go_wp2_with fail
  refine (YHold_f a n c Z xz _ (h.below (B:=w.heap.size) (by (repeat first|exact bel0|assumption|refine bel1 ?_|refine bel2 ?_|refine bel3 ?_|refine belowT ?_ (by assumption)|refine bel5 ?_ (by simp;try omega))) (Nat.le_refl _))).mono ?_
  rintro e w1 ⟨⟨a1,n1,c1,Z1,rfl,i1,nz,p1⟩,hb1⟩
  have P1:=hide p1
  have N1:=hide (show NewZ w.heap.size a1 Z1 from ⟨fun x e=>Nat.le_trans (by simp) (nz.1 x e),nz.2.mono (by simp)⟩)
  clear p1 nz
  go_wp2
  go_ret2
  exact ⟨⟨a1,n1,c1,Z1,rfl,i1,N1.out,P1.out⟩,by (repeat first|exact bel0|assumption|refine bel1 ?_|refine bel2 ?_|refine bel3 ?_|refine belowT ?_ (by assumption)|refine bel5 ?_ (by simp;try omega))⟩
 ·have t1:(xk==1)=false:=by simpa using h1
  by_cases h2:xk=2
  ·subst h2
   rw [show zoneDo (Z.map ZV.p) ⟨2,xz,xn,xt,xd⟩=closeP (Z.map ZV.p) xz from rfl]
   go_enter Tryz.func157,Tryz.ntmps157
   go_wp2_with fail
   refine (YClose_f a n c Z xz _ (h.below (B:=w.heap.size) (by (repeat first|exact bel0|assumption|refine bel1 ?_|refine bel2 ?_|refine bel3 ?_|refine belowT ?_ (by assumption)|refine bel5 ?_ (by simp;try omega))) (Nat.le_refl _))).mono ?_
   rintro e w1 ⟨⟨a1,n1,c1,Z1,rfl,i1,nz,p1⟩,hb1⟩
   have P1:=hide p1
   have N1:=hide (show NewZ w.heap.size a1 Z1 from ⟨fun x e=>Nat.le_trans (by simp) (nz.1 x e),nz.2.mono (by simp)⟩)
   clear p1 nz
   go_wp2
   go_ret2
   exact ⟨⟨a1,n1,c1,Z1,rfl,i1,N1.out,P1.out⟩,by (repeat first|exact bel0|assumption|refine bel1 ?_|refine bel2 ?_|refine bel3 ?_|refine belowT ?_ (by assumption)|refine bel5 ?_ (by simp;try omega))⟩
  ·have t2:(xk==2)=false:=by simpa using h2
   by_cases h3:xk=3
   ·subst h3
    rw [show zoneDo (Z.map ZV.p) ⟨3,xz,xn,xt,xd⟩=finishP (Z.map ZV.p) xz from rfl]
    go_enter Tryz.func157,Tryz.ntmps157
    go_wp2_with fail
    refine (YFinish_f a n c Z xz _ (h.below (B:=w.heap.size) (by (repeat first|exact bel0|assumption|refine bel1 ?_|refine bel2 ?_|refine bel3 ?_|refine belowT ?_ (by assumption)|refine bel5 ?_ (by simp;try omega))) (Nat.le_refl _))).mono ?_
    rintro e w1 ⟨⟨a1,n1,c1,Z1,rfl,i1,nz,p1⟩,hb1⟩
    have P1:=hide p1
    have N1:=hide (show NewZ w.heap.size a1 Z1 from ⟨fun x e=>Nat.le_trans (by simp) (nz.1 x e),nz.2.mono (by simp)⟩)
    clear p1 nz
    go_wp2
    go_ret2
    exact ⟨⟨a1,n1,c1,Z1,rfl,i1,N1.out,P1.out⟩,by (repeat first|exact bel0|assumption|refine bel1 ?_|refine bel2 ?_|refine bel3 ?_|refine belowT ?_ (by assumption)|refine bel5 ?_ (by simp;try omega))⟩
   ·have t3:(xk==3)=false:=by simpa using h3
    rw [show zoneDo (Z.map ZV.p) ⟨xk,xz,xn,xt,xd⟩=resetP (Z.map ZV.p) xz by simp [zoneDo,h1,h2,h3]]
    clear h1 h2 h3
    go_enter Tryz.func157,Tryz.ntmps157
    go_wp2_with fail
    refine (YReset_f a n c Z xz _ (h.below (B:=w.heap.size) (by (repeat first|exact bel0|assumption|refine bel1 ?_|refine bel2 ?_|refine bel3 ?_|refine belowT ?_ (by assumption)|refine bel5 ?_ (by simp;try omega))) (Nat.le_refl _))).mono ?_
    rintro e w1 ⟨⟨a1,n1,c1,Z1,rfl,i1,nz,p1⟩,hb1⟩
    have P1:=hide p1
    have N1:=hide (show NewZ w.heap.size a1 Z1 from ⟨fun x e=>Nat.le_trans (by simp) (nz.1 x e),nz.2.mono (by simp)⟩)
    clear p1 nz
    go_wp2
    go_ret2
    exact ⟨⟨a1,n1,c1,Z1,rfl,i1,N1.out,P1.out⟩,by (repeat first|exact bel0|assumption|refine bel1 ?_|refine bel2 ?_|refine bel3 ?_|refine belowT ?_ (by assumption)|refine bel5 ?_ (by simp;try omega))⟩
theorem dmay_c (a:Option Addr) (n c:Nat) (b:PB) (who:Int) (ca:Option Addr) (cn cc:Nat) (x:PC) (w:World) (h:Ints w a n c b.k) :
  Calls Tryz.prog 134 #[bookV a n c b,.int .i64 who,cmdV ca cn cc x] w fun e w'=>e=.returned (.bool (mayB b who (x.k !=7)).1)∧Below w.heap.size w w':=by
 obtain ⟨xk,xz,xn,xt,xd⟩:=x
 have HM:=hide (fun w' h'=>BMay_c a n c b who (xk !=7) w' h')
 unfold cmdV
 unfold bookV at *
 dsimp only
 generalize hm:mayB b who (xk !=7)=mb at *
 clear hm
 go_enter Tryz.func134,Tryz.ntmps134
 go_wp2_with fail
 refine (HM.out _ (h.below (B:=w.heap.size) (by (repeat first|exact bel0|assumption|refine bel1 ?_|refine bel2 ?_|refine bel3 ?_|refine belowT ?_ (by assumption)|refine bel5 ?_ (by simp;try omega))) (Nat.le_refl _))).mono ?_
 rintro e w1 ⟨rfl,hb1⟩
 go_wp2
 go_ret
 exact ⟨rfl,by (repeat first|exact bel0|assumption|refine bel1 ?_|refine bel2 ?_|refine bel3 ?_|refine belowT ?_ (by assumption)|refine bel5 ?_ (by simp;try omega))⟩
end Go.Proofs.YtabafikicbkkdaaGreatDoor
