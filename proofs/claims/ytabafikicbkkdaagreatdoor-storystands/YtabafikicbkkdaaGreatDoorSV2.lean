/- The contracts of package cmd's small functions: singles, outside, ContainsFunc, fits, Same; no condition but that the data reads as a list. -/
import Derived.Test.YtabafikicbkkdaaGreatDoorSV1
import Derived.Deep.Light
import Derived.Deep.RegionHeld3
import Derived.Deep.Strs
namespace Go.Proofs.YtabafikicbkkdaaGreatDoor
open Go.RowKit
set_option linter.unusedVariables false
set_option maxHeartbeats 4000000
set_option maxRecDepth 100000
set_option linter.unusedSimpArgs false
theorem cmdOutside_c (v:Int) (w:World):Calls Tryz.prog 101 #[.int .i64 v] w fun e w'=>e=.returned (.bool (outB 0 999 v))∧w'=w:=by
 go_enter Tryz.func101,Tryz.ntmps101
 go_wp2
 all_goals (go_ret;exact ⟨ret_bool (by unfold outB;simp_all),rfl⟩)
theorem singles_c (a:Option Addr) (m c:Nat) (k z n t:Int) (w:World) :
  Calls Tryz.prog 62 #[.agg #[.int .i64 k,.int .i64 z,.int .i64 n,.int .i64 t,.slice a m c]] w fun e w'=>e=.returned (.agg #[.int .i64 z,.int .i64 t,.int .i64 n])∧Below w.heap.size w w':=by
 go_enter Tryz.func62,Tryz.ntmps62
 go_wp2
 refine bodyPost_ret (v:=.agg #[.int .i64 z,.int .i64 t,.int .i64 n]) (by simp [results,Tryz.results62,go_sem]) rfl ⟨rfl,?_⟩
 (repeat first|exact bel0|assumption|refine bel1 ?_|refine bel2 ?_|refine bel3 ?_|refine belowT ?_ (by assumption)|refine bel5 ?_ (by simp;try omega))
theorem cmdIndexFunc_some (b1 o1 n1 c1:Nat) (l1:List Int) (w:World) (hl1:l1.length=n1) (hm1:n1≤9223372036854775807)
  (hr1:∀ i,i < n1→w.cell? ⟨b1,o1 + i,none⟩=some (.int .i64 (l1.getD i 0))) :
  Calls Tryz.prog 120 #[.slice (some ⟨b1,o1,none⟩) n1 c1,.func (Fn.func 101) #[] #[]] w
   fun e w'=>(∃ r,e=.returned (.int .i64 r)∧decide (0≤r)=l1.any (outB 0 999))∧w'=w:=by
 go_enter Tryz.func120,Tryz.ntmps120
 go_wp2
 go_loop [8] (fun i=>∃ k:Nat,k≤n1∧i=.int .i64 k∧(l1.take k).any (outB 0 999)=false) (fun i=>n1 - (intOf i).toNat)
 case atStart=>exact ⟨0,by omega,rfl,by simp⟩
 case round=>
  obtain ⟨k,hk,rfl,ht⟩:=hrel
  by_cases hlt:k < n1
  ·have hi1:=hr1 k hlt
   have hlt':(k:Int) < (n1:Int):=by omega
   have HT:=hide ht
   clear ht hr1
   generalize hx:l1.getD k 0=x at hi1
   have HX:=hide hx
   clear hx
   go_wp2_with (go_at_call 101;refine (cmdOutside_c x _).mono ?_;rintro e w' ⟨rfl,rfl⟩)
   ·rename_i hxy
    go_ret
    exact ⟨⟨k,rfl,by rw [any_of_getD _ l1 k (by omega) (by rw [HX.out];exact hxy)];simp⟩,rfl⟩
   ·rename_i hxy
    exact ⟨⟨k + 1,by omega,by go_num,any_take_step _ l1 k (by omega) HT.out (by rw [HX.out];exact hxy)⟩,by simp [intOf];omega⟩
  ·go_wp2
   go_ret
   rw [List.take_of_length_le (by omega)] at ht
   exact ⟨⟨-1,rfl,by rw [ht];rfl⟩,rfl⟩
theorem cmdIndexFunc_none (a1:Option Addr) (c1:Nat) (w:World) :
  Calls Tryz.prog 120 #[.slice a1 0 c1,.func (Fn.func 101) #[] #[]] w
   fun e w'=>(∃ r,e=.returned (.int .i64 r)∧decide (0≤r)=false)∧w'=w:=by
 go_enter Tryz.func120,Tryz.ntmps120
 go_wp2
 refine wp_loop_rounds 1 ?_;rw [rounds_succ]
 go_wp2
 go_ret
 exact ⟨⟨-1,rfl,rfl⟩,rfl⟩
theorem cmdContainsFunc_c (a1:Option Addr) (n1 c1:Nat) (l1:List Int) (w:World) (h1:Ints w a1 n1 c1 l1) :
  Calls Tryz.prog 100 #[.slice a1 n1 c1,.func (Fn.func 101) #[] #[]] w
   fun e w'=>e=.returned (.bool (l1.any (outB 0 999)))∧w'=w:=by
 have hI:Calls Tryz.prog 120 #[.slice a1 n1 c1,.func (Fn.func 101) #[] #[]] w
   fun e w'=>(∃ r,e=.returned (.int .i64 r)∧decide (0≤r)=l1.any (outB 0 999))∧w'=w:=by
  obtain ⟨hl1,hc1,hm1,hn1,hr1,hw1⟩:=h1
  rcases hr1 with h0|⟨b1,o1,rfl,_,hr1⟩
  ·subst h0
   rw [List.length_eq_zero_iff] at hl1
   subst hl1
   exact cmdIndexFunc_none a1 c1 w
  ·exact cmdIndexFunc_some b1 o1 n1 c1 l1 w hl1 (by omega) hr1
 have HI:=hide hI
 clear hI
 go_enter Tryz.func100,Tryz.ntmps100
 go_wp2_with fail
 refine HI.out.mono ?_
 rintro e w' ⟨⟨r,rfl,hr⟩,rfl⟩
 have HR:=hide hr
 clear hr
 go_wp2
 go_ret
 exact ⟨ret_bool HR.out,rfl⟩
def fitsC (z t n:Int) (d:List Int) (hz ha hn hd:Bool):Bool:=!((z !=0&&!hz) || (t !=0&&!ha) || (n !=0&&!hn))&&(hd==decide (d≠[]))
theorem cmdFits_c (a:Option Addr) (m c:Nat) (k z n t:Int) (d:List Int) (hz ha hn hd:Bool) (w:World) (h:Ints w a m c d) :
  Calls Tryz.prog 99 #[cmdV a m c ⟨k,z,n,t,d⟩,.agg #[.bool hz,.bool ha,.bool hn,.bool hd]] w fun e w'=>e=.returned (.bool (fitsC z t n d hz ha hn hd))∧Below w.heap.size w w':=by
 have hlen:=h.len
 have hmax:=h.max
 have hle:=h.le
 have i0:∀ w:World,(Instr.index 119 (.agg #[.int .i64 z,.int .i64 t,.int .i64 n]) (.int .i64 0)).run Tryz.prog w=.ok (.int .i64 z) w:=fun w=>by kernel_rfl
 have i1:∀ w:World,(Instr.index 119 (.agg #[.int .i64 z,.int .i64 t,.int .i64 n]) (.int .i64 1)).run Tryz.prog w=.ok (.int .i64 t) w:=fun w=>by kernel_rfl
 have i2:∀ w:World,(Instr.index 119 (.agg #[.int .i64 z,.int .i64 t,.int .i64 n]) (.int .i64 2)).run Tryz.prog w=.ok (.int .i64 n) w:=fun w=>by kernel_rfl
 unfold cmdV
 go_enter Tryz.func99,Tryz.ntmps99
 go_wp2_with fail
 refine (singles_c _ _ _ _ _ _ _ _).mono ?_
 rintro e w1 ⟨rfl,hb1⟩
 have bw:Below w.heap.size w w1:=by (repeat first|exact bel0|assumption|refine bel1 ?_|refine bel2 ?_|refine bel3 ?_|refine belowT ?_ (by assumption)|refine bel5 ?_ (by simp;try omega))
 have b4:=keepc hb1 (p:=⟨w.heap.size,4,none⟩) (u:=.slice a m c) (by go_simp)
 have c0:=keepc hb1 (p:=⟨w.heap.size + 1,0,none⟩) (u:=.bool hz) (by go_simp)
 have c1:=keepc hb1 (p:=⟨w.heap.size + 1,1,none⟩) (u:=.bool ha) (by go_simp)
 have c2:=keepc hb1 (p:=⟨w.heap.size + 1,2,none⟩) (u:=.bool hn) (by go_simp)
 have c3:=keepc hb1 (p:=⟨w.heap.size + 1,3,none⟩) (u:=.bool hd) (by go_simp)
 clear hb1
 have hd0:decide (0 < (m:Int))=decide (d≠[]):=by
  rw [Bool.eq_iff_iff]
  simp
  rw [← hlen,List.length_pos_iff]
 have HF:Hid (fitsC z t n d hz ha hn hd=(!((z !=0&&!hz) || (t !=0&&!ha) || (n !=0&&!hn))&&(hd==decide (d≠[])))):=hide rfl
 generalize decide (d≠[])=dd at hd0 HF
 clear hlen hmax hle h
 go_wp2
 go_loop [9] (fun x=>∃ i:Nat,i≤3∧x=.int .i64 i∧((0 < i→(z !=0&&!hz)=false)∧(1 < i→(t !=0&&!ha)=false)∧(2 < i→(n !=0&&!hn)=false))) (fun x=>3 - (intOf x).toNat)
 case atStart=>exact ⟨0,by omega,rfl,⟨by omega,by omega,by omega⟩⟩
 case round=>
  obtain ⟨i,hi,rfl,hno⟩:=hrel
  have HNO:=hide hno
  clear hno
  rcases (by omega:i=0∨i=1∨i=2∨i=3) with rfl|rfl|rfl|rfl
  ·cases hq:z !=0<;>cases hz
   all_goals go_wp2
   ·exact ⟨⟨1,by omega,by go_num,⟨fun _=>by simp [hq],by omega,by omega⟩⟩,by simp [intOf]⟩
   ·exact ⟨⟨1,by omega,by go_num,⟨fun _=>by simp [hq],by omega,by omega⟩⟩,by simp [intOf]⟩
   ·go_ret
    exact ⟨ret_bool (by rw [HF.out,hq];simp),bw⟩
   ·exact ⟨⟨1,by omega,by go_num,⟨fun _=>by simp [hq],by omega,by omega⟩⟩,by simp [intOf]⟩
  ·cases hq:t !=0<;>cases ha
   all_goals go_wp2
   ·exact ⟨⟨2,by omega,by go_num,⟨fun _=>HNO.out.1 (by omega),fun _=>by simp [hq],by omega⟩⟩,by simp [intOf]⟩
   ·exact ⟨⟨2,by omega,by go_num,⟨fun _=>HNO.out.1 (by omega),fun _=>by simp [hq],by omega⟩⟩,by simp [intOf]⟩
   ·go_ret
    exact ⟨ret_bool (by rw [HF.out,hq];simp),bw⟩
   ·exact ⟨⟨2,by omega,by go_num,⟨fun _=>HNO.out.1 (by omega),fun _=>by simp [hq],by omega⟩⟩,by simp [intOf]⟩
  ·cases hq:n !=0<;>cases hn
   all_goals go_wp2
   ·exact ⟨⟨3,by omega,by go_num,⟨fun _=>HNO.out.1 (by omega),fun _=>HNO.out.2.1 (by omega),fun _=>by simp [hq]⟩⟩,by simp [intOf]⟩
   ·exact ⟨⟨3,by omega,by go_num,⟨fun _=>HNO.out.1 (by omega),fun _=>HNO.out.2.1 (by omega),fun _=>by simp [hq]⟩⟩,by simp [intOf]⟩
   ·go_ret
    exact ⟨ret_bool (by rw [HF.out,hq];simp),bw⟩
   ·exact ⟨⟨3,by omega,by go_num,⟨fun _=>HNO.out.1 (by omega),fun _=>HNO.out.2.1 (by omega),fun _=>by simp [hq]⟩⟩,by simp [intOf]⟩
  ·go_wp2
   go_ret
   refine ⟨ret_bool ?_,bw⟩
   rw [HF.out,HNO.out.1 (by omega),HNO.out.2.1 (by omega),HNO.out.2.2 (by omega)]
   have hm:decide (0 < m)=dd:=by simpa using hd0
   rw [hm]
   simp
theorem eqArr (a b c x y z:Int) (w:World):(Op.equalIn 10000 119 (.agg #[.int .i64 a,.int .i64 b,.int .i64 c]) (.agg #[.int .i64 x,.int .i64 y,.int .i64 z])).run Tryz.prog w=.ok (a==x&&(b==y&&c==z)) w:=by
 have u3:=Tryz.underlying3
 have a3:=Tryz.isAgg3
 have z3:=Tryz.sizeOf3
 rw [show (10000:Nat)=9999 + 1 from rfl,Op.equalIn]
 simp only [Sem.run_bind,run_underlying Tryz.underlying119,Result.andThen_ok]
 simp only [Std.Legacy.Range.forIn_eq_forIn_range',Std.Legacy.Range.size,Nat.sub_zero,Nat.add_sub_cancel,Nat.div_one,List.range'_succ,List.range'_zero,List.forIn_cons,List.forIn_nil]
 go_simp
 by_cases h1:a=x<;>by_cases h2:b=y<;>by_cases h3:c=z<;>simp [h1,h2,h3]
theorem cmdSame_c (a1 a2:Option Addr) (n1 n2 c1 c2:Nat) (b1 b2:PC) (w:World) (h1:Ints w a1 n1 c1 b1.d) (h2:Ints w a2 n2 c2 b2.d) :
  Calls Tryz.prog 37 #[cmdV a1 n1 c1 b1,cmdV a2 n2 c2 b2] w fun e w'=>e=.returned (.bool (sameC b1 b2))∧Below w.heap.size w w':=by
 obtain ⟨k1,z1,m1,t1,d1⟩:=b1
 obtain ⟨k2,z2,m2,t2,d2⟩:=b2
 dsimp only at *
 unfold cmdV at *
 have HS:Hid (sameC ⟨k1,z1,m1,t1,d1⟩ ⟨k2,z2,m2,t2,d2⟩=(k1==k2&&(z1==z2&&(t1==t2&&m1==m2))&&decide (d1=d2))):=hide (by
  rw [Bool.eq_iff_iff]
  simp [sameC,and_assoc])
 have HE:Hid (∀ w':World,(Op.equalIn 10000 119 (.agg #[.int .i64 z1,.int .i64 t1,.int .i64 m1]) (.agg #[.int .i64 z2,.int .i64 t2,.int .i64 m2])).run Tryz.prog w'=.ok (z1==z2&&(t1==t2&&m1==m2)) w'):=hide (fun w'=>eqArr z1 t1 m1 z2 t2 m2 w')
 generalize (z1==z2&&(t1==t2&&m1==m2))=ee at HS HE
 go_enter Tryz.func37,Tryz.ntmps37
 have he:=HE.out
 cases e1:k1==k2
 ·go_wp2
  go_quiet (fail)
  go_wp2
  go_ret
  exact ⟨ret_bool (by rw [HS.out,e1];rfl),by (repeat first|exact bel0|assumption|refine bel1 ?_|refine bel2 ?_|refine bel3 ?_|refine belowT ?_ (by assumption)|refine bel5 ?_ (by simp;try omega))⟩
 ·cases ee
  ·go_wp2
   first
    |(go_region_with (first|(go_at_call 62;refine (singles_c _ _ _ _ _ _ _ _).mono ?_;rintro e w9 ⟨rfl,hb9⟩;(have f0:=keepc hb9 (p:=⟨w.heap.size,0,none⟩) (u:=.int .i64 k1) (by (first|(go_simp;done)|(simp [*,World.cell?_alloc_at,World.cell?_alloc_past,World.cell?_alloc_some,World.cell?_setCell_far];done))));(have f1:=keepc hb9 (p:=⟨w.heap.size,1,none⟩) (u:=.int .i64 z1) (by (first|(go_simp;done)|(simp [*,World.cell?_alloc_at,World.cell?_alloc_past,World.cell?_alloc_some,World.cell?_setCell_far];done))));(have f2:=keepc hb9 (p:=⟨w.heap.size,2,none⟩) (u:=.int .i64 m1) (by (first|(go_simp;done)|(simp [*,World.cell?_alloc_at,World.cell?_alloc_past,World.cell?_alloc_some,World.cell?_setCell_far];done))));(have f3:=keepc hb9 (p:=⟨w.heap.size,3,none⟩) (u:=.int .i64 t1) (by (first|(go_simp;done)|(simp [*,World.cell?_alloc_at,World.cell?_alloc_past,World.cell?_alloc_some,World.cell?_setCell_far];done))));(have f4:=keepc hb9 (p:=⟨w.heap.size,4,none⟩) (u:=.slice a1 n1 c1) (by (first|(go_simp;done)|(simp [*,World.cell?_alloc_at,World.cell?_alloc_past,World.cell?_alloc_some,World.cell?_setCell_far];done))));(have f5:=keepc hb9 (p:=⟨w.heap.size + 1,0,none⟩) (u:=.int .i64 k2) (by (first|(go_simp;done)|(simp [*,World.cell?_alloc_at,World.cell?_alloc_past,World.cell?_alloc_some,World.cell?_setCell_far];done))));(have f6:=keepc hb9 (p:=⟨w.heap.size + 1,1,none⟩) (u:=.int .i64 z2) (by (first|(go_simp;done)|(simp [*,World.cell?_alloc_at,World.cell?_alloc_past,World.cell?_alloc_some,World.cell?_setCell_far];done))));(have f7:=keepc hb9 (p:=⟨w.heap.size + 1,2,none⟩) (u:=.int .i64 m2) (by (first|(go_simp;done)|(simp [*,World.cell?_alloc_at,World.cell?_alloc_past,World.cell?_alloc_some,World.cell?_setCell_far];done))));(have f8:=keepc hb9 (p:=⟨w.heap.size + 1,3,none⟩) (u:=.int .i64 t2) (by (first|(go_simp;done)|(simp [*,World.cell?_alloc_at,World.cell?_alloc_past,World.cell?_alloc_some,World.cell?_setCell_far];done))));(have f9:=keepc hb9 (p:=⟨w.heap.size + 1,4,none⟩) (u:=.slice a2 n2 c2) (by (first|(go_simp;done)|(simp [*,World.cell?_alloc_at,World.cell?_alloc_past,World.cell?_alloc_some,World.cell?_setCell_far];done)))))))
    |fail
   all_goals go_wp2
   all_goals go_ret
   all_goals exact ⟨ret_bool (by rw [HS.out,e1];rfl),by (repeat first|exact bel0|assumption|refine bel1 ?_|refine bel2 ?_|refine bel3 ?_|refine belowT ?_ (by assumption)|refine bel5 ?_ (by simp;try omega))⟩
  ·go_wp2
   go_region_held3 (fun w'=>w'.cell? ⟨w.heap.size,0,none⟩=some (.int .i64 k1)∧w'.cell? ⟨w.heap.size,1,none⟩=some (.int .i64 z1)∧w'.cell? ⟨w.heap.size,2,none⟩=some (.int .i64 m1)∧w'.cell? ⟨w.heap.size,3,none⟩=some (.int .i64 t1)∧w'.cell? ⟨w.heap.size,4,none⟩=some (.slice a1 n1 c1)∧w'.cell? ⟨w.heap.size + 1,0,none⟩=some (.int .i64 k2)∧w'.cell? ⟨w.heap.size + 1,1,none⟩=some (.int .i64 z2)∧w'.cell? ⟨w.heap.size + 1,2,none⟩=some (.int .i64 m2)∧w'.cell? ⟨w.heap.size + 1,3,none⟩=some (.int .i64 t2)∧w'.cell? ⟨w.heap.size + 1,4,none⟩=some (.slice a2 n2 c2)) ((first|(go_simp;done)|(simp [*,World.cell?_alloc_at,World.cell?_alloc_past,World.cell?_alloc_some,World.cell?_setCell_far];done))) (first|(go_at_call 62;refine (singles_c _ _ _ _ _ _ _ _).mono ?_;rintro e w9 ⟨rfl,hb9⟩;(have f0:=keepc hb9 (p:=⟨w.heap.size,0,none⟩) (u:=.int .i64 k1) (by (first|(go_simp;done)|(simp [*,World.cell?_alloc_at,World.cell?_alloc_past,World.cell?_alloc_some,World.cell?_setCell_far];done))));(have f1:=keepc hb9 (p:=⟨w.heap.size,1,none⟩) (u:=.int .i64 z1) (by (first|(go_simp;done)|(simp [*,World.cell?_alloc_at,World.cell?_alloc_past,World.cell?_alloc_some,World.cell?_setCell_far];done))));(have f2:=keepc hb9 (p:=⟨w.heap.size,2,none⟩) (u:=.int .i64 m1) (by (first|(go_simp;done)|(simp [*,World.cell?_alloc_at,World.cell?_alloc_past,World.cell?_alloc_some,World.cell?_setCell_far];done))));(have f3:=keepc hb9 (p:=⟨w.heap.size,3,none⟩) (u:=.int .i64 t1) (by (first|(go_simp;done)|(simp [*,World.cell?_alloc_at,World.cell?_alloc_past,World.cell?_alloc_some,World.cell?_setCell_far];done))));(have f4:=keepc hb9 (p:=⟨w.heap.size,4,none⟩) (u:=.slice a1 n1 c1) (by (first|(go_simp;done)|(simp [*,World.cell?_alloc_at,World.cell?_alloc_past,World.cell?_alloc_some,World.cell?_setCell_far];done))));(have f5:=keepc hb9 (p:=⟨w.heap.size + 1,0,none⟩) (u:=.int .i64 k2) (by (first|(go_simp;done)|(simp [*,World.cell?_alloc_at,World.cell?_alloc_past,World.cell?_alloc_some,World.cell?_setCell_far];done))));(have f6:=keepc hb9 (p:=⟨w.heap.size + 1,1,none⟩) (u:=.int .i64 z2) (by (first|(go_simp;done)|(simp [*,World.cell?_alloc_at,World.cell?_alloc_past,World.cell?_alloc_some,World.cell?_setCell_far];done))));(have f7:=keepc hb9 (p:=⟨w.heap.size + 1,2,none⟩) (u:=.int .i64 m2) (by (first|(go_simp;done)|(simp [*,World.cell?_alloc_at,World.cell?_alloc_past,World.cell?_alloc_some,World.cell?_setCell_far];done))));(have f8:=keepc hb9 (p:=⟨w.heap.size + 1,3,none⟩) (u:=.int .i64 t2) (by (first|(go_simp;done)|(simp [*,World.cell?_alloc_at,World.cell?_alloc_past,World.cell?_alloc_some,World.cell?_setCell_far];done))));(have f9:=keepc hb9 (p:=⟨w.heap.size + 1,4,none⟩) (u:=.slice a2 n2 c2) (by (first|(go_simp;done)|(simp [*,World.cell?_alloc_at,World.cell?_alloc_past,World.cell?_alloc_some,World.cell?_setCell_far];done)))))|(go_at_call 21;refine (Equal_c a1 a2 n1 n2 c1 c2 d1 d2 _ (by refine Ints.below h1 (B:=w.heap.size) ?_ (Nat.le_refl _);(repeat first|exact bel0|assumption|refine bel1 ?_|refine bel2 ?_|refine bel3 ?_|refine belowT ?_ (by assumption)|refine bel5 ?_ (by simp;try omega))) (by refine Ints.below h2 (B:=w.heap.size) ?_ (Nat.le_refl _);(repeat first|exact bel0|assumption|refine bel1 ?_|refine bel2 ?_|refine bel3 ?_|refine belowT ?_ (by assumption)|refine bel5 ?_ (by simp;try omega)))).mono ?_;rintro e w' ⟨rfl,q,rfl⟩))
   go_wp2
   go_ret
   exact ⟨ret_bool (by rw [HS.out,e1];rfl),by (repeat first|exact bel0|assumption|refine bel1 ?_|refine bel2 ?_|refine bel3 ?_|refine belowT ?_ (by assumption)|refine bel5 ?_ (by simp;try omega))⟩
end Go.Proofs.YtabafikicbkkdaaGreatDoor
namespace Go.Proofs.YtabafikicbkkdaaGreatDoor
open Go.RowKit
set_option linter.unusedVariables false
set_option maxHeartbeats 4000000
set_option maxRecDepth 100000
set_option linter.unusedSimpArgs false
theorem cmdContainsFunc_three (g:Nat) (x y z:Int) (w:World) (h0:w.cell? ⟨g,0,none⟩=some (.int .i64 x)) (h1:w.cell? ⟨g,1,none⟩=some (.int .i64 y)) (h2:w.cell? ⟨g,2,none⟩=some (.int .i64 z)) :
  Calls Tryz.prog 100 #[.slice (some ⟨g,0,none⟩) 3 3,.func (Fn.func 101) #[] #[]] w
   fun e w'=>e=.returned (.bool ([x,y,z].any (outB 0 999)))∧w'=w:=by
 have HI:=hide (cmdIndexFunc_some g 0 3 3 [x,y,z] w rfl (by decide) (fun i hi=>by
  rcases (by omega:i=0∨i=1∨i=2) with rfl|rfl|rfl<;>assumption))
 go_enter Tryz.func100,Tryz.ntmps100
 go_wp2_with fail
 refine HI.out.mono ?_
 rintro e w' ⟨⟨r,rfl,hr⟩,rfl⟩
 have HR:=hide hr
 clear hr
 go_wp2
 go_ret
 exact ⟨ret_bool HR.out,rfl⟩
theorem checkC_fits (k z n t:Int) (d:List Int):checkC ⟨k,z,n,t,d⟩=if outB 1 12 k then 4 else if fitsC z t n d (hasZ k) (hasA k) (hasN k) (hasD k)=false then 4 else if 8 < d.length then 2 else if [z,t,n].any (outB 0 999) || d.any (outB 0 999) then 3 else 0:=by
 unfold checkC fitsC
 dsimp only
 split
 ·rfl
 ·rename_i ho
  cases hz:hasZ k<;>cases ha:hasA k<;>cases hn:hasN k<;>cases hd:hasD k<;>by_cases hzz:z=0<;>by_cases htt:t=0<;>by_cases hnn:n=0<;>by_cases hdd:d=[]<;>simp [hzz,htt,hnn,hdd,or_assoc]
theorem Check_out (a:Option Addr) (m c:Nat) (k z n t:Int) (d:List Int) (w:World) (h:Ints w a m c d) (hk:outB 1 12 k=true) :
  Calls Tryz.prog 71 #[cmdV a m c ⟨k,z,n,t,d⟩] w fun e w'=>e=.returned (.int .i64 (checkC ⟨k,z,n,t,d⟩))∧Below w.heap.size w w':=by
 unfold cmdV
 have HK:Hid (checkC ⟨k,z,n,t,d⟩=4):=hide (by rw [checkC_fits,if_pos hk])
 by_cases h1:k < 1
 ·clear hk
  go_enter Tryz.func71,Tryz.ntmps71
  go_wp2
  go_ret
  exact ⟨ret_int HK.out.symm,by (repeat first|exact bel0|assumption|refine bel1 ?_|refine bel2 ?_|refine bel3 ?_|refine belowT ?_ (by assumption)|refine bel5 ?_ (by simp;try omega))⟩
 ·have h2:13≤k:=by simp [outB] at hk;omega
  clear hk
  go_enter Tryz.func71,Tryz.ntmps71
  go_wp2
  go_ret
  exact ⟨ret_int HK.out.symm,by (repeat first|exact bel0|assumption|refine bel1 ?_|refine bel2 ?_|refine bel3 ?_|refine belowT ?_ (by assumption)|refine bel5 ?_ (by simp;try omega))⟩
theorem Check_in (a:Option Addr) (m c:Nat) (k:Nat) (z n t:Int) (d:List Int) (w:World) (hS:Shapes w) (h:Ints w a m c d) (hk1:1≤k) (hk2:k≤12) :
  Calls Tryz.prog 71 #[cmdV a m c ⟨k,z,n,t,d⟩] w fun e w'=>e=.returned (.int .i64 (checkC ⟨k,z,n,t,d⟩))∧Below w.heap.size w w':=by
 have hlen:=h.len
 have hmax:=h.max
 have hle:=h.le
 have s1:=hS.hz k hk2
 have s2:w.cell? ⟨0,k * 5 + 1 + 1,none⟩=some (.bool (hasA k)):=hS.ha k hk2
 have s3:w.cell? ⟨0,k * 5 + 1 + 2,none⟩=some (.bool (hasN k)):=hS.hn k hk2
 have s4:w.cell? ⟨0,k * 5 + 1 + 3,none⟩=some (.bool (hasD k)):=hS.hd k hk2
 have HF:=fun hz ha hn hd w' h'=>cmdFits_c a m c k z n t d hz ha hn hd w' h'
 have HK:Hid (checkC ⟨k,z,n,t,d⟩=if fitsC z t n d (hasZ k) (hasA k) (hasN k) (hasD k)=false then 4 else if 8 < d.length then 2 else if [z,t,n].any (outB 0 999) || d.any (outB 0 999) then 3 else 0):=hide (by rw [checkC_fits,if_neg (by simp [outB];omega)])
 unfold cmdV at *
 have k1:(1:Int)≤(k:Int):=by omega
 have k2:(k:Int) < 13:=by omega
 have k0:(0:Int)≤(k:Int):=by omega
 clear hS
 generalize hasZ k=hz at *
 generalize hasA k=ha at *
 generalize hasN k=hn at *
 generalize hasD k=hd at *
 replace s1:=fun o=>past1 s1 o
 replace s2:=fun o=>past1 s2 o
 replace s3:=fun o=>past1 s3 o
 replace s4:=fun o=>past1 s4 o
 go_enter Tryz.func71,Tryz.ntmps71
 go_wp2
 go_region_held3 (fun w'=>w'.cell? ⟨w.heap.size,0,none⟩=some (.int .i64 k)∧w'.cell? ⟨w.heap.size,1,none⟩=some (.int .i64 z)∧w'.cell? ⟨w.heap.size,2,none⟩=some (.int .i64 n)∧w'.cell? ⟨w.heap.size,3,none⟩=some (.int .i64 t)∧w'.cell? ⟨w.heap.size,4,none⟩=some (.slice a m c)∧w'.cell? ⟨0,k * 5 + 1,none⟩=some (.bool hz)∧w'.cell? ⟨0,k * 5 + 1 + 1,none⟩=some (.bool ha)∧w'.cell? ⟨0,k * 5 + 1 + 2,none⟩=some (.bool hn)∧w'.cell? ⟨0,k * 5 + 1 + 3,none⟩=some (.bool hd)) ((first|(go_simp;done)|(simp [*,World.cell?_alloc_at,World.cell?_alloc_past,World.cell?_alloc_some,World.cell?_setCell_far];done))) (first|(go_at_call 99;refine (HF _ _ _ _ _ (by refine Ints.below h (B:=w.heap.size) ?_ (Nat.le_refl _);(repeat first|exact bel0|assumption|refine bel1 ?_|refine bel2 ?_|refine bel3 ?_|refine belowT ?_ (by assumption)|refine bel5 ?_ (by simp;try omega)))).mono ?_;rintro e w9 ⟨rfl,hb9⟩;(have f0:=keepc hb9 (p:=⟨w.heap.size,0,none⟩) (u:=.int .i64 k) (by (first|(go_simp;done)|(simp [*,World.cell?_alloc_at,World.cell?_alloc_past,World.cell?_alloc_some,World.cell?_setCell_far];done))));(have f1:=keepc hb9 (p:=⟨w.heap.size,1,none⟩) (u:=.int .i64 z) (by (first|(go_simp;done)|(simp [*,World.cell?_alloc_at,World.cell?_alloc_past,World.cell?_alloc_some,World.cell?_setCell_far];done))));(have f2:=keepc hb9 (p:=⟨w.heap.size,2,none⟩) (u:=.int .i64 n) (by (first|(go_simp;done)|(simp [*,World.cell?_alloc_at,World.cell?_alloc_past,World.cell?_alloc_some,World.cell?_setCell_far];done))));(have f3:=keepc hb9 (p:=⟨w.heap.size,3,none⟩) (u:=.int .i64 t) (by (first|(go_simp;done)|(simp [*,World.cell?_alloc_at,World.cell?_alloc_past,World.cell?_alloc_some,World.cell?_setCell_far];done))));(have f4:=keepc hb9 (p:=⟨w.heap.size,4,none⟩) (u:=.slice a m c) (by (first|(go_simp;done)|(simp [*,World.cell?_alloc_at,World.cell?_alloc_past,World.cell?_alloc_some,World.cell?_setCell_far];done))));(have f5:=keepc hb9 (p:=⟨0,k * 5 + 1,none⟩) (u:=.bool hz) (by (first|(go_simp;done)|(simp [*,World.cell?_alloc_at,World.cell?_alloc_past,World.cell?_alloc_some,World.cell?_setCell_far];done))));(have f6:=keepc hb9 (p:=⟨0,k * 5 + 1 + 1,none⟩) (u:=.bool ha) (by (first|(go_simp;done)|(simp [*,World.cell?_alloc_at,World.cell?_alloc_past,World.cell?_alloc_some,World.cell?_setCell_far];done))));(have f7:=keepc hb9 (p:=⟨0,k * 5 + 1 + 2,none⟩) (u:=.bool hn) (by (first|(go_simp;done)|(simp [*,World.cell?_alloc_at,World.cell?_alloc_past,World.cell?_alloc_some,World.cell?_setCell_far];done))));(have f8:=keepc hb9 (p:=⟨0,k * 5 + 1 + 3,none⟩) (u:=.bool hd) (by (first|(go_simp;done)|(simp [*,World.cell?_alloc_at,World.cell?_alloc_past,World.cell?_alloc_some,World.cell?_setCell_far];done))))))
 have bw:Below w.heap.size w w9:=by (repeat first|exact bel0|assumption|refine bel1 ?_|refine bel2 ?_|refine bel3 ?_|refine belowT ?_ (by assumption)|refine bel5 ?_ (by simp;try omega))
 replace h:=h.below bw (Nat.le_refl _)
 clear hb9 f5 f6 f7 f8 s1 s2 s3 s4 HF
 cases hf:fitsC z t n d hz ha hn hd
 ·go_wp2
  go_ret
  exact ⟨ret_int (by rw [HK.out,hf];rfl),bw⟩
 ·by_cases h8:8 < m
  ·have h8':(8:Int) < (m:Int):=by omega
   go_wp2
   go_ret
   exact ⟨ret_int (by rw [HK.out,hf,hlen,if_neg (by simp),if_pos h8]),bw⟩
  ·have h8':¬ (8:Int) < (m:Int):=by omega
   go_wp2_with fail
   refine (singles_c _ _ _ _ _ _ _ _).mono ?_
   rintro e w1 ⟨rfl,hb1⟩
   replace bw:Below w.heap.size w w1:=by (repeat first|exact bel0|assumption|refine bel1 ?_|refine bel2 ?_|refine bel3 ?_|refine belowT ?_ (by assumption)|refine bel5 ?_ (by simp;try omega))
   replace h:=h.below hb1 (Nat.le_refl _)
   have b4:=fun o=>past1 (keepc hb1 f4) o
   clear hb1 f0 f1 f2 f3 f4
   have H3:=fun w' h0 h1 h2=>cmdContainsFunc_three w1.heap.size z t n w' h0 h1 h2
   generalize [z,t,n].any (outB 0 999)=b3 at HK H3
   go_wp2_with fail
   refine (H3 _ (by go_simp) (by go_simp) (by go_simp)).mono ?_
   rintro e w' ⟨rfl,rfl⟩
   cases b3
   ·go_wp2_with fail
    refine (cmdContainsFunc_c a m c d _ (by refine Ints.below h (B:=w1.heap.size) ?_ (Nat.le_refl _);(repeat first|exact bel0|assumption|refine bel1 ?_|refine bel2 ?_|refine bel3 ?_|refine belowT ?_ (by assumption)|refine bel5 ?_ (by simp;try omega)))).mono ?_
    rintro e w' ⟨rfl,rfl⟩
    cases hda:d.any (outB 0 999)
    all_goals
     go_wp2
     go_ret
     exact ⟨ret_int (by rw [HK.out,hf,hlen,if_neg (by simp),if_neg h8,hda];rfl),by (repeat first|exact bel0|assumption|refine bel1 ?_|refine bel2 ?_|refine bel3 ?_|refine belowT ?_ (by assumption)|refine bel5 ?_ (by simp;try omega))⟩
   ·go_wp2
    go_ret
    exact ⟨ret_int (by rw [HK.out,hf,hlen,if_neg (by simp),if_neg h8];rfl),by (repeat first|exact bel0|assumption|refine bel1 ?_|refine bel2 ?_|refine bel3 ?_|refine belowT ?_ (by assumption)|refine bel5 ?_ (by simp;try omega))⟩
theorem cmdCheck_c (a:Option Addr) (m c:Nat) (b:PC) (w:World) (hS:Shapes w) (h:Ints w a m c b.d) :
  Calls Tryz.prog 71 #[cmdV a m c b] w fun e w'=>e=.returned (.int .i64 (checkC b))∧Below w.heap.size w w':=by
 obtain ⟨k,z,n,t,d⟩:=b
 cases hk:outB 1 12 k
 ·obtain ⟨i,rfl⟩:∃ i:Nat,k=i:=⟨k.toNat,by simp [outB] at hk;omega⟩
  simp [outB] at hk
  exact Check_in a m c i z n t d w hS h (by omega) (by omega)
 ·exact Check_out a m c k z n t d w h hk
end Go.Proofs.YtabafikicbkkdaaGreatDoor
namespace Go.Proofs.YtabafikicbkkdaaGreatDoor
open Go.RowKit
set_option linter.unusedVariables false
set_option maxHeartbeats 4000000
set_option maxRecDepth 100000
set_option linter.unusedSimpArgs false
structure But (g:Nat) (w w':World):Prop where
 low:Below g w w'
 size:w.heap.size≤w'.heap.size
 cell:∀ q:Addr,q.block < w.heap.size→q.block≠g→w'.cell? q=w.cell? q
theorem But.refl (g:Nat) (w:World):But g w w:=⟨Below.refl _ _,Nat.le_refl _,fun _ _ _=>rfl⟩
theorem But.trans {g:Nat} {a b c:World} (h:But g a b) (k:But g b c):But g a c:=
 ⟨h.low.trans k.low,Nat.le_trans h.size k.size,fun q hq hg=>by rw [k.cell q (Nat.lt_of_lt_of_le hq h.size) hg,h.cell q hq hg]⟩
theorem But.of_below {g:Nat} {w w':World} (h:Below w.heap.size w w') (hg:g≤w.heap.size):But g w w':=
 ⟨h.mono hg,h.size,fun q hq _=>h.cell hq⟩
theorem But.of_put {g j:Nat} {w w':World} {v:Value} (h:Put w w' ⟨g,j,none⟩ v):But g w w':=
 ⟨h.below,Nat.le_of_eq h.size.symm,fun q _ hg=>h.other q (fun e=>hg (by rw [e]))⟩
theorem But.of_set {g j:Nat} {w:World} {u:Value} (h:w.cell? ⟨g,j,none⟩=some u) (v:Value):But g w (w.setCell ⟨g,j,none⟩ v):=But.of_put ((Put.refl h).set v)
theorem Ints.but {w w':World} {g:Nat} {a:Option Addr} {n c:Nat} {l:List Int} (h:Ints w a n c l) (hb:But g w w') (hne:n=0∨∀ x,a=some x→x.block≠g):Ints w' a n c l:=by
 refine ⟨h.len,h.le,h.max,h.nil,?_,h.wf⟩
 rcases hne with h0|hne
 ·exact .inl h0
 ·rcases h.row with h0|⟨b,off,ha,hlt,hc⟩
  ·exact .inl h0
  ·refine .inr ⟨b,off,ha,Nat.lt_of_lt_of_le hlt hb.size,fun i hi=>?_⟩
   rw [hb.cell ⟨b,off + i,none⟩ hlt (by have:=hne _ ha;exact this)];exact hc i hi
theorem keepb {g:Nat} {w w':World} (hb:But g w w') {p:Addr} {u:Value} (h:w.cell? p=some u) (hg:p.block≠g):w'.cell? p=some u:=by
 rw [hb.cell p (World.block_lt_of_cell? w p h) hg];exact h
theorem But.step {g:Nat} {w w':World} (h:But g w w') (j:Nat) (v:Value):But g w (w'.setCell ⟨g,j,none⟩ v):=
 ⟨h.low.setCell (Nat.le_refl _) v,by simpa [World.setCell] using h.size,fun q hq hg=>by rw [World.cell?_setCell_other _ _ _ _ (fun e=>hg (by rw [← e]))];exact h.cell q hq hg⟩
structure Lay (w:World) (B:Nat) (vs:List Value):Prop where
 cell:∀ i v,vs[i]?=some v→w.cell? ⟨B,i,none⟩=some v
 ice:∀ i,w.frozen? ⟨B,i,none⟩=false
 lt:B < w.heap.size
theorem Lay.below {w w':World} {B:Nat} {vs:List Value} (h:Lay w B vs) (hb:Below w.heap.size w w'):Lay w' B vs:=
 ⟨fun i v hv=>keepc hb (h.cell i v hv),fun i=>by rw [hb.frozen (by exact h.lt)];exact h.ice i,Nat.lt_of_lt_of_le h.lt hb.size⟩
theorem Lay.made (w:World) (vs:List Value) (t:TypeId):Lay (w.alloc (.cells vs.toArray t (0,0))) w.heap.size vs:=
 ⟨fun i v hv=>by rw [cell_of_row _ _ _ _ _ _ (heap_new w _)];simpa using hv,fun i=>by unfold World.frozen?;rw [show (w.alloc (.cells vs.toArray t (0,0))).heap[(⟨w.heap.size,i,none⟩:Addr).block]?=_ from heap_new w _];simp,by simp⟩
theorem Lay.drew {w:World} {B:Nat} {vs:List Value} (h:Lay w B vs):Lay w.drew B vs:=⟨h.cell,h.ice,h.lt⟩
theorem Lay.made1 (w:World) (o:Obj) (vs:List Value) (t:TypeId):Lay ((w.alloc o).alloc (.cells vs.toArray t (0,0))) (w.heap.size + 1) vs:=by
 have h:=Lay.made (w.alloc o) vs t
 simpa only [World.size_alloc] using h
theorem Lay.but {w w':World} {B g:Nat} {vs:List Value} (h:Lay w B vs) (hb:But g w w') (hi:∀ q:Addr,q.block < w.heap.size→w'.frozen? q=w.frozen? q) (hg:B≠g):Lay w' B vs:=
 ⟨fun i v hv=>keepb hb (h.cell i v hv) hg,fun i=>by rw [hi _ h.lt];exact h.ice i,Nat.lt_of_lt_of_le h.lt hb.size⟩
theorem Lay.set {w:World} {B:Nat} {vs:List Value} (h:Lay w B vs) (i:Nat) (v:Value):Lay (w.setCell ⟨B,i,none⟩ v) B (vs.set i v):=by
 refine ⟨fun j u hu=>?_,fun j=>by rw [World.frozen?_setCell];exact h.ice j,by simpa [World.setCell] using h.lt⟩
 by_cases e:i=j
 ·subst e
  have hi:i < vs.length:=by have:=(List.getElem?_eq_some_iff.1 hu).1;simpa using this
  rw [List.getElem?_set_self hi] at hu
  cases hu
  exact World.cell?_setCell_same _ _ _ (h.cell i vs[i] (by simp [hi]))
 ·rw [List.getElem?_set_ne e] at hu
  rw [World.cell?_setCell_other _ _ _ _ (by simp [e])]
  exact h.cell j u hu
theorem Lay.far {w:World} {B:Nat} {vs:List Value} (h:Lay w B vs) (p:Addr) (v:Value) (hp:p.block≠B):Lay (w.setCell p v) B vs:=
 ⟨fun i u hu=>by rw [World.cell?_setCell_other _ _ _ _ (fun e=>hp (by rw [e]))];exact h.cell i u hu,fun i=>by rw [World.frozen?_setCell];exact h.ice i,by simpa [World.setCell] using h.lt⟩
theorem Ints.offs {w:World} {a:Option Addr} {n c:Nat} {l:List Int} (h:Ints w a n c l) {R:Nat} (hR:w.heap.size≤R):n=0∨∀ x,a=some x→x.block≠R:=by
 rcases h.row with h0|⟨b,off,ha,hlt,_⟩
 ·exact .inl h0
 ·exact .inr fun x e=>by rw [ha] at e;cases e;simp;omega
structure ButI (g:Nat) (w w':World):Prop where
 but:But g w w'
 ice:∀ q:Addr,q.block < w.heap.size→w'.frozen? q=w.frozen? q
theorem ButI.refl (g:Nat) (w:World):ButI g w w:=⟨But.refl g w,fun _ _=>rfl⟩
theorem ButI.trans {g:Nat} {a b c:World} (h:ButI g a b) (k:ButI g b c):ButI g a c:=⟨h.but.trans k.but,fun q hq=>by rw [k.ice q (Nat.lt_of_lt_of_le hq h.but.size),h.ice q hq]⟩
theorem ButI.step {g:Nat} {w w':World} (h:ButI g w w') (j:Nat) (v:Value):ButI g w (w'.setCell ⟨g,j,none⟩ v):=⟨h.but.step j v,fun q hq=>by rw [World.frozen?_setCell];exact h.ice q hq⟩
theorem ButI.of_below {g:Nat} {w w':World} (h:Below w.heap.size w w') (hg:g≤w.heap.size):ButI g w w':=⟨But.of_below h hg,fun q hq=>h.frozen hq⟩
theorem ButI.below {g:Nat} {w w':World} (h:ButI g w w') {B:Nat} (hB:B≤g):Below B w w':=h.but.low.mono hB
theorem Lay.butI {w w':World} {B g:Nat} {vs:List Value} (h:Lay w B vs) (hb:ButI g w w') (hg:B≠g):Lay w' B vs:=h.but hb.but hb.ice hg
theorem ButI.own {g R:Nat} {w a b:World} (h:ButI g w a) (k:ButI R a b) (hR:w.heap.size≤R) (hg:g≤w.heap.size):ButI g w b:=by
 refine ⟨⟨h.but.low.trans (k.but.low.mono (by omega)),Nat.le_trans h.but.size k.but.size,fun q hq hne=>?_⟩,fun q hq=>?_⟩
 ·rw [k.but.cell q (Nat.lt_of_lt_of_le hq h.but.size) (by omega),h.but.cell q hq hne]
 ·rw [k.ice q (Nat.lt_of_lt_of_le hq h.but.size),h.ice q hq]
end Go.Proofs.YtabafikicbkkdaaGreatDoor
namespace Go.Proofs.YtabafikicbkkdaaGreatDoor
open Go.RowKit
set_option linter.unusedVariables false
set_option maxHeartbeats 4000000
set_option maxRecDepth 100000
set_option linter.unusedSimpArgs false
structure RV where
 p:PR
 a:Option Addr
 n:Nat
 c:Nat
def RV.v (x:RV):Value:=.agg #[.int .i64 x.p.w,.int .i64 x.p.s,.int .i64 x.p.c.k,.int .i64 x.p.c.z,.int .i64 x.p.c.n,.int .i64 x.p.c.at',.slice x.a x.n x.c]
def RV.ok (w:World) (x:RV):Prop:=Ints w x.a x.n x.c x.p.c.d
def RV.zero:RV:=⟨zeroR,none,0,0⟩
theorem RV.ok.below {w w':World} {x:RV} (h:x.ok w) {B:Nat} (hb:Below B w w') (hB:w.heap.size≤B):x.ok w':=Ints.below h hb hB
theorem RV.zero_ok (w:World):RV.zero.ok w:=Ints.nilSlice w
theorem RV.zero_p:RV.zero.p=zeroR:=rfl
def RV.off (R:Nat) (x:RV):Prop:=x.n=0∨∀ y,x.a=some y→y.block≠R
theorem RV.ok.but {w w':World} {g:Nat} {x:RV} (h:x.ok w) (hb:But g w w') (ho:x.off g):x.ok w':=Ints.but h hb ho
theorem RV.ok.off {w:World} {x:RV} (h:x.ok w) {R:Nat} (hR:w.heap.size≤R):x.off R:=Ints.offs h hR
def RV.cells (x:RV):List Value:=[.int .i64 x.p.w,.int .i64 x.p.s,.int .i64 x.p.c.k,.int .i64 x.p.c.z,.int .i64 x.p.c.n,.int .i64 x.p.c.at',.slice x.a x.n x.c]
theorem nwithin_c (n a b:Int) (w:World):Calls Tryz.prog 107 #[.int .i64 n,.int .i64 a,.int .i64 b] w fun e w'=>e=.returned (.bool (inB n a b))∧w'=w:=by
 go_enter Tryz.func107,Tryz.ntmps107
 go_wp2
 all_goals (go_ret;exact ⟨ret_bool (by unfold inB;rw [Bool.eq_iff_iff];simp;try omega),rfl⟩)
theorem NCheck_c (x:RV) (w:World) (hS:Shapes w) (h:x.ok w):Calls Tryz.prog 79 #[x.v] w fun e w'=>e=.returned (.int .i64 (checkR x.p))∧Below w.heap.size w w':=by
 obtain ⟨⟨q,s,⟨k,z,m,t,d⟩⟩,a,n,c⟩:=x
 dsimp only [RV.v,RV.ok] at *
 have HC:=hide (fun w' hS h'=>cmdCheck_c a n c ⟨k,z,m,t,d⟩ w' hS h')
 have HK:Hid (checkR ⟨q,s,⟨k,z,m,t,d⟩⟩=if inB q 0 2=false∨inB s 1 40=false then 3 else checkC ⟨k,z,m,t,d⟩):=hide rfl
 unfold cmdV at HC
 dsimp only at HC
 go_enter Tryz.func79,Tryz.ntmps79
 go_wp2_with fail
 refine (nwithin_c _ _ _ _).mono ?_
 rintro e w1 ⟨rfl,rfl⟩
 cases h1:inB q 0 2
 ·go_wp2
  go_ret
  exact ⟨ret_int (by rw [HK.out];simp [h1]),by (repeat first|exact bel0|assumption|refine bel1 ?_|refine bel2 ?_|refine bel3 ?_|refine belowT ?_ (by assumption)|refine bel5 ?_ (by simp;try omega))⟩
 ·go_wp2_with fail
  refine (nwithin_c _ _ _ _).mono ?_
  rintro e w1 ⟨rfl,rfl⟩
  cases h2:inB s 1 40
  ·go_wp2
   go_ret
   exact ⟨ret_int (by rw [HK.out];simp [h2]),by (repeat first|exact bel0|assumption|refine bel1 ?_|refine bel2 ?_|refine bel3 ?_|refine belowT ?_ (by assumption)|refine bel5 ?_ (by simp;try omega))⟩
  ·go_wp2_with fail
   refine (HC.out _ (hS.below (by (repeat first|exact bel0|assumption|refine bel1 ?_|refine bel2 ?_|refine bel3 ?_|refine belowT ?_ (by assumption)|refine bel5 ?_ (by simp;try omega)))) (h.below (B:=w.heap.size) (by (repeat first|exact bel0|assumption|refine bel1 ?_|refine bel2 ?_|refine bel3 ?_|refine belowT ?_ (by assumption)|refine bel5 ?_ (by simp;try omega))) (Nat.le_refl _))).mono ?_
   rintro e w3 ⟨rfl,hb3⟩
   go_wp2
   go_ret
   exact ⟨ret_int (by rw [HK.out];simp [h1,h2]),by (repeat first|exact bel0|assumption|refine bel1 ?_|refine bel2 ?_|refine bel3 ?_|refine belowT ?_ (by assumption)|refine bel5 ?_ (by simp;try omega))⟩
end Go.Proofs.YtabafikicbkkdaaGreatDoor
namespace Go.Proofs.YtabafikicbkkdaaGreatDoor
open Go.ChangeShapes Go.WideShapes Go.ChangeAt Go.RowKit Go.Joins Go.ChangeMaps
set_option linter.unusedVariables false
set_option maxHeartbeats 4000000
set_option maxRecDepth 100000
set_option linter.unusedSimpArgs false
theorem cmd_of {H:Type} {enc:TypeId×Value→H} {W:World} {fuel:Nat} {cs:List Value} {y:DataW H×List MemPlace}
  (h:DataW.trod enc Tryz.prog W 0 (fun _=>true) true fuel 50 cs=some y):∃ a n c,∃ b:PC,cs=[.int .i64 b.k,.int .i64 b.z,.int .i64 b.n,.int .i64 b.at',.slice a n c]∧Ints W a n c b.d:=by
 obtain ⟨xs,n,_,_,hl,hlen,hfs⟩:=DataW.trod_struct Tryz.underlying50 h
 rw [cellsCmd] at hl
 obtain ⟨v0,v1,v2,v3,v4,rfl⟩:=list5 hl
 obtain ⟨y0,y1,y2,y3,y4,rfl⟩:=list5 hlen
 have g0:=hfs 0 _ rfl
 have g1:=hfs 1 _ rfl
 have g2:=hfs 2 _ rfl
 have g3:=hfs 3 _ rfl
 have g4:=hfs 4 _ rfl
 have c3:Tryz.prog.cellsOf 3=1:=by kernel_rfl
 have c22:Tryz.prog.cellsOf 26=1:=by kernel_rfl
 simp [c3,c22] at g0 g1 g2 g3 g4
 obtain ⟨k,e0,_,_⟩:=DataW.trod_int Tryz.underlying3 g0
 obtain ⟨z,e1,_,_⟩:=DataW.trod_int Tryz.underlying3 g1
 obtain ⟨nn,e2,_,_⟩:=DataW.trod_int Tryz.underlying3 g2
 obtain ⟨t,e3,_,_⟩:=DataW.trod_int Tryz.underlying3 g3
 simp at e0 e1 e2 e3
 subst e0 e1 e2 e3
 obtain ⟨a,n,c,l,rfl,hi⟩:=ints_of g4
 exact ⟨a,n,c,⟨k,z,nn,t,l⟩,rfl,hi⟩
end Go.Proofs.YtabafikicbkkdaaGreatDoor
