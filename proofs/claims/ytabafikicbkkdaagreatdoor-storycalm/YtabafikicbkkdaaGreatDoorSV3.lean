/- The contracts of zone.Check, zone.Same and of the document's own answers to them; no condition but that the zone reads as its state and list. -/
import Derived.Test.YtabafikicbkkdaaGreatDoorSV1
import Derived.Deep.RegionHeld3
import Derived.Deep.Light
import Derived.Laws.CopyOwn
import Derived.Deep.OwnRows
import Derived.KernelRfl
import Derived.Lib.AppendZeros
import Derived.Test.YtabafikicbkkdaaGreatDoorSV2
import Derived.Deep.AppendLies
namespace Go.Proofs.YtabafikicbkkdaaGreatDoor
open Go.RowKit
set_option linter.unusedVariables false
set_option maxHeartbeats 1000000
set_option maxRecDepth 100000
set_option linter.unusedSimpArgs false
def checkZ (s:Int) (l:List Int):Int:=
 if outB 0 4 s then 4 else if 8 < l.length then 2 else if l.any (outB 0 999) then 3 else if fitsB s l.length then 0 else 4
theorem checkZ_1 {s:Int} {l:List Int} (h1:outB 0 4 s=true):4=checkZ s l:=by simp [checkZ,h1]
theorem checkZ_2 {s:Int} {l:List Int} (h1:outB 0 4 s=false) (h2:8 < l.length):2=checkZ s l:=by simp [checkZ,h1,h2]
theorem checkZ_3 {s:Int} {l:List Int} (h1:outB 0 4 s=false) (h2:¬ 8 < l.length) (h3:l.any (outB 0 999)=true):3=checkZ s l:=by simp only [checkZ,h1,h2,h3];simp
theorem checkZ_4 {s:Int} {l:List Int} (h1:outB 0 4 s=false) (h2:¬ 8 < l.length) (h3:l.any (outB 0 999)=false) (h4:fitsB s l.length=false):4=checkZ s l:=by simp only [checkZ,h1,h2,h3,h4];simp
theorem checkZ_0 {s:Int} {l:List Int} (h1:outB 0 4 s=false) (h2:¬ 8 < l.length) (h3:l.any (outB 0 999)=false) (h4:fitsB s l.length=true):0=checkZ s l:=by simp only [checkZ,h1,h2,h3,h4];simp
theorem inB_outB (x a b:Int):inB x a b=!outB a b x:=by unfold inB outB;rw [Bool.eq_iff_iff];simp
theorem Check_c (s:Int) (a:Option Addr) (n c:Nat) (l:List Int) (w:World) (h:Ints w a n c l) :
  Calls Tryz.prog 150 #[.agg #[.int .i64 s,.slice a n c]] w fun e w'=>e=.returned (.int .i64 (checkZ s l))∧Below w.heap.size w w':=by
 have hlen:=hide h.len
 have hmax:=h.max
 have hle:=h.le
 go_enter Tryz.func150,Tryz.ntmps150
 go_wp2
 go_region_held3 (fun w'=>w'.cell? ⟨w.heap.size,0,none⟩=some (.int .i64 s)∧w'.cell? ⟨w.heap.size,1,none⟩=some (.slice a n c)) (go_keep)
  (first|(go_at_call 168;refine (outside_c _ _ _).mono ?_;rintro e w' ⟨rfl,rfl⟩)|(go_at_call 200;refine (outside1_c _ 0 4 _ _ _ ?hg ?hh).mono ?hm;(case hg=>(first|(go_simp;done)|(simp [*,World.cell?_alloc_at,World.cell?_alloc_past,World.cell?_alloc_some,World.cell?_setCell_far];done)));(case hh=>(first|(go_simp;done)|(simp [*,World.cell?_alloc_at,World.cell?_alloc_past,World.cell?_alloc_some,World.cell?_setCell_far];done)));rintro e w' ⟨rfl,rfl⟩))
 go_wp2
 ·go_ret
  exact ⟨ret_int (checkZ_1 ‹_›),by (repeat first|exact bel0|assumption|refine bel1 ?_|refine bel2 ?_|refine bel3 ?_|refine belowT ?_ (by assumption)|refine bel5 ?_ (by simp;try omega))⟩
 ·have hl:=hlen.out
  go_ret
  exact ⟨ret_int (checkZ_2 ‹_› (by omega)),by (repeat first|exact bel0|assumption|refine bel1 ?_|refine bel2 ?_|refine bel3 ?_|refine belowT ?_ (by assumption)|refine bel5 ?_ (by simp;try omega))⟩
 ·go_region_held3 (fun w'=>w'.cell? ⟨w.heap.size,0,none⟩=some (.int .i64 s)∧w'.cell? ⟨w.heap.size,1,none⟩=some (.slice a n c)) (first|(go_simp;done)|(simp [*,World.cell?_alloc_at,World.cell?_alloc_past,World.cell?_alloc_some,World.cell?_setCell_far];done))
   (first|(go_at_call 168;refine (outside_c _ _ _).mono ?_;rintro e w' ⟨rfl,rfl⟩)|(go_at_call 100;refine (ContainsFunc_c a n c l 0 999 _ _ _ ?hi2 ?hg2 ?hh2).mono ?hm2;(case hi2=>refine h.below (B:=w.heap.size) ?_ (Nat.le_refl _);(repeat first|exact bel0|assumption|refine bel1 ?_|refine bel2 ?_|refine bel3 ?_|refine belowT ?_ (by assumption)|refine bel5 ?_ (by simp;try omega)));(case hg2=>(first|(go_simp;done)|(simp [*,World.cell?_alloc_at,World.cell?_alloc_past,World.cell?_alloc_some,World.cell?_setCell_far];done)));(case hh2=>(first|(go_simp;done)|(simp [*,World.cell?_alloc_at,World.cell?_alloc_past,World.cell?_alloc_some,World.cell?_setCell_far];done)));rintro e w' ⟨rfl,rfl⟩))
  go_wp2_with (go_at_call 169;refine (fits_c _ _ _).mono ?_;rintro e w' ⟨rfl,rfl⟩)
  ·have hl:=hlen.out
   go_ret
   exact ⟨ret_int (checkZ_3 ‹_› (by omega) ‹_›),by (repeat first|exact bel0|assumption|refine bel1 ?_|refine bel2 ?_|refine bel3 ?_|refine belowT ?_ (by assumption)|refine bel5 ?_ (by simp;try omega))⟩
  ·have hl:=hlen.out
   go_ret
   exact ⟨ret_int (checkZ_4 ‹_› (by omega) ‹_› (by rw [hl];simpa using ‹(!fitsB s n)=true›)),by (repeat first|exact bel0|assumption|refine bel1 ?_|refine bel2 ?_|refine bel3 ?_|refine belowT ?_ (by assumption)|refine bel5 ?_ (by simp;try omega))⟩
  ·have hl:=hlen.out
   go_ret
   exact ⟨ret_int (checkZ_0 ‹_› (by omega) ‹_› (by rw [hl];simpa using ‹(!fitsB s n)=false›)),by (repeat first|exact bel0|assumption|refine bel1 ?_|refine bel2 ?_|refine bel3 ?_|refine belowT ?_ (by assumption)|refine bel5 ?_ (by simp;try omega))⟩
theorem Same_c (s t:Int) (a b:Option Addr) (n c m d:Nat) (l k:List Int) (w:World) (h1:Ints w a n c l) (h2:Ints w b m d k) :
  Calls Tryz.prog 91 #[.agg #[.int .i64 s,.slice a n c],.agg #[.int .i64 t,.slice b m d]] w fun e w'=>e=.returned (.bool (decide (s=t∧l=k)))∧Below w.heap.size w w':=by
 by_cases hst:s=t
 ·have hb:(s==t)=true:=by simp [hst]
  have HST:=hide hst
  clear hst
  go_enter Tryz.func91,Tryz.ntmps91
  go_wp2_with (go_at_call 21;refine (Equal_c a b n m c d l k _ ?h1 ?h2).mono ?hm;(case h1=>refine h1.below (B:=w.heap.size) ?_ (Nat.le_refl _);(repeat first|exact bel0|assumption|refine bel1 ?_|refine bel2 ?_|refine bel3 ?_|refine belowT ?_ (by assumption)|refine bel5 ?_ (by simp;try omega)));(case h2=>refine h2.below (B:=w.heap.size) ?_ (Nat.le_refl _);(repeat first|exact bel0|assumption|refine bel1 ?_|refine bel2 ?_|refine bel3 ?_|refine belowT ?_ (by assumption)|refine bel5 ?_ (by simp;try omega)));rintro e w' ⟨rfl,q,rfl⟩)
  go_ret
  exact ⟨ret_bool (by simp [HST.out]),by (repeat first|exact bel0|assumption|refine bel1 ?_|refine bel2 ?_|refine bel3 ?_|refine belowT ?_ (by assumption)|refine bel5 ?_ (by simp;try omega))⟩
 ·have hb:(s==t)=false:=by simp [hst]
  have HST:=hide hst
  clear hst
  go_enter Tryz.func91,Tryz.ntmps91
  go_wp2
  go_ret
  exact ⟨ret_bool (by simp [HST.out]),by (repeat first|exact bel0|assumption|refine bel1 ?_|refine bel2 ?_|refine bel3 ?_|refine belowT ?_ (by assumption)|refine bel5 ?_ (by simp;try omega))⟩
end Go.Proofs.YtabafikicbkkdaaGreatDoor
namespace Go.Proofs.YtabafikicbkkdaaGreatDoor
open Go.RowKit
set_option linter.unusedVariables false
set_option maxHeartbeats 1000000
set_option maxRecDepth 100000
set_option linter.unusedSimpArgs false
def writeE (s:Int) (l k:List Int):Int:=
 if checkZ s l≠0 then checkZ s l else if outB 1 8 k.length then 2 else if k.any (outB 0 999) then 3 else if s=4∨8 < l.length + k.length then 7 else 0
theorem checkZ_len {s:Int} {l:List Int} (h:checkZ s l=0):0≤s∧s≤4∧l.length≤8∧l.any (outB 0 999)=false∧fitsB s l.length=true:=by
 unfold checkZ at h
 by_cases h1:outB 0 4 s=true
 ·simp [h1] at h
 ·have h5:0≤s∧s≤4:=by simp [outB] at h1;omega
  by_cases h2:8 < l.length
  ·simp [h1,h2] at h
  ·by_cases h3:l.any (outB 0 999)=true
   ·simp only [h1,h2,h3] at h;simp at h
   ·by_cases h4:fitsB s l.length=true
    ·exact ⟨h5.1,h5.2,by omega,by simpa using h3,h4⟩
    ·simp only [h1,h2,h3,h4] at h;simp at h
theorem writeE_eq {s:Int} {l k:List Int} {n m:Nat} {x:Int} (hx:checkZ s l=x) (g1:l.length=n) (g2:k.length=m) :
  writeE s l k=if (x !=0)=true then x else if outB 1 8 m=true then 2 else if k.any (outB 0 999)=true then 3 else if s=4∨8 < wrap64 ((n:Int) + m) then 7 else 0:=by
 unfold writeE
 rw [g1,g2]
 by_cases h0:x=0
 ·have hz:=checkZ_len (hx.trans h0)
  by_cases h1:outB 1 8 m=true
  ·simp [hx,h0,h1]
  ·have hm:m≤8:=by simp [outB] at h1;omega
   rw [IntWalk.wrap64_in ((n:Int) + m) (by omega)]
   have e:(8 < n + m)=((8:Int) < (n:Int) + (m:Int)):=by apply propext;omega
   simp only [hx,h0,h1,e]
   simp
 ·simp [hx,h0]
theorem checkWrite_c (s:Int) (a:Option Addr) (n c:Nat) (l:List Int) (b:Option Addr) (m d:Nat) (k:List Int) (w:World) (h1:Ints w a n c l) (h2:Ints w b m d k) :
  Calls Tryz.prog 206 #[.agg #[.int .i64 s,.slice a n c],.slice b m d] w fun e w'=>e=.returned (.int .i64 (writeE s l k))∧Below w.heap.size w w':=by
 have hl1:=hide h1.len
 have hl2:=hide h2.len
 have hm1:=h1.max
 have hm2:=h2.max
 have hc1:=h1.le
 have hc2:=h2.le
 go_enter Tryz.func206,Tryz.ntmps206
 go_wp2_with fail
 refine (Check_c s a n c l _ ?hi).mono ?hm
 case hi=>refine h1.below (B:=w.heap.size) ?_ (Nat.le_refl _);(repeat first|exact bel0|assumption|refine bel1 ?_|refine bel2 ?_|refine bel3 ?_|refine belowT ?_ (by assumption)|refine bel5 ?_ (by simp;try omega))
 rintro e w1 ⟨rfl,hb1⟩
 have c0:w1.cell? ⟨w.heap.size,0,none⟩=some (.int .i64 s):=by rw [hb1.cell (by simp)];go_simp
 have c1:w1.cell? ⟨w.heap.size,1,none⟩=some (.slice a n c):=by rw [hb1.cell (by simp)];go_simp
 have z1:w.heap.size < w1.heap.size:=by have:=hb1.size;simp at this;omega
 have c04:=past4 c0
 have c14:=past4 c1
 generalize hchk:checkZ s l=x
 have HCHK:=hide hchk
 clear hchk
 go_wp2_with (first|(go_at_call 168;refine (outside_c _ _ _).mono ?_;rintro e w' ⟨rfl,rfl⟩)|(go_at_call 200;refine (outside1_c _ 1 8 _ _ _ ?hg1 ?hh1).mono ?hm1;(case hg1=>(first|(go_simp;done)|(simp [*,World.cell?_alloc_at,World.cell?_alloc_past,World.cell?_alloc_some,World.cell?_setCell_far];done)));(case hh1=>(first|(go_simp;done)|(simp [*,World.cell?_alloc_at,World.cell?_alloc_past,World.cell?_alloc_some,World.cell?_setCell_far];done)));rintro e w' ⟨rfl,rfl⟩)|(go_at_call 100;refine (ContainsFunc_c b m d k 0 999 _ _ _ ?hi2 ?hg2 ?hh2).mono ?hm2;(case hi2=>refine h2.below (B:=w.heap.size) ?_ (Nat.le_refl _);(repeat first|exact bel0|assumption|refine bel1 ?_|refine bel2 ?_|refine bel3 ?_|refine belowT ?_ (by assumption)|refine bel5 ?_ (by simp;try omega)));(case hg2=>(first|(go_simp;done)|(simp [*,World.cell?_alloc_at,World.cell?_alloc_past,World.cell?_alloc_some,World.cell?_setCell_far];done)));(case hh2=>(first|(go_simp;done)|(simp [*,World.cell?_alloc_at,World.cell?_alloc_past,World.cell?_alloc_some,World.cell?_setCell_far];done)));rintro e w' ⟨rfl,rfl⟩))
 all_goals
  have hw:=writeE_eq HCHK.out hl1.out hl2.out
  go_ret
  refine ⟨ret_int ?_,by (repeat first|exact bel0|assumption|refine bel1 ?_|refine bel2 ?_|refine bel3 ?_|refine belowT ?_ (by assumption)|refine bel5 ?_ (by simp;try omega))⟩
  go_light
  rw [hw]
  clear hw hl1 hl2 h1 h2 HCHK
  generalize k.any (outB 0 999)=A at *
  generalize outB 1 8 (m:Int)=B at *
  (repeat' split)<;>first|rfl|(exfalso;simp_all;done)|(exfalso;simp_all;omega)|(exfalso;omega)
theorem infoInt:(Tryz.prog.info? 3).map (fun i=>(i.zero,i.size,i.bytes))=some (some (.int .i64 0),1,8):=by kernel_rfl
theorem sizeInt:(Tryz.prog.info? 3).map (·.size)=some 1:=by kernel_rfl
theorem join_none (a:Option Addr) (n c:Nat) (l:List Int) (b:Option Addr) (d:Nat) (w:World) (h1:Ints w a n c l) (hnm:n≤1000000) :
  Calls Tryz.prog 178 #[.slice a n c,.slice b 0 d] w fun e w'=>(e=.returned (.slice (some ⟨w.heap.size,0,none⟩) n n)∧Ints w' (some ⟨w.heap.size,0,none⟩) n n l)∧Below w.heap.size w w':=by
 have hmk:=run_make_row' (P:=Tryz.prog) 26 3 (.int .i64 0) 8 Tryz.underlying26 infoInt rfl .i64 .i64 n (by omega) (by omega)
 go_enter Tryz.func178,Tryz.ntmps178
 go_wp2_with fail
 obtain ⟨w2,r2,g2,b2⟩:=copy_run (P:=Tryz.prog) (w.alloc (.cells (madeCells #[.int .i64 0] n) 3)) 26 26 3 3 Tryz.underlying26 sizeInt (some ⟨w.heap.size,0,none⟩) a n n n c w.heap.size 0
  (madeCells #[.int .i64 0] n).toList 3 (heap_new _ _) (cellsOf l) (by rw [cellsOf_len,h1.len];exact (Nat.min_self n).symm) (fun hp=>⟨rfl,(h1.below (B:=w.heap.size) (by (repeat first|exact bel0|assumption|refine bel1 ?_|refine bel2 ?_|refine bel3 ?_|refine belowT ?_ (by assumption)|refine bel5 ?_ (by simp;try omega))) (Nat.le_refl _)).src (by rw [cellsOf_len,h1.len] at hp;exact hp)⟩) (by simp [size_madeCells,cellsOf_len,h1.len]) (cellsOf_one l)
 rw [r2]
 have G2:=hide g2
 clear g2 r2
 go_wp2_with fail
 rw [run_copy_none (P:=Tryz.prog) _ 26 26 3 3 _ _ _ _ _ _ Tryz.underlying26 sizeInt (by first|rfl|simp)]
 go_wp2
 go_ret
 have g2:=G2.out
 rw [splice_one _ _ (by simp [size_madeCells,cellsOf_len,h1.len])] at g2
 exact ⟨⟨rfl,Ints.of_row g2 (by rw [h1.len];omega) h1.wf h1.len⟩,(belowA (Below.refl _ _) _).trans b2⟩
theorem join_some (a:Option Addr) (n c:Nat) (l:List Int) (b:Option Addr) (m d:Nat) (k:List Int) (w:World) (h1:Ints w a n c l) (h2:Ints w b m d k) (hnm:n + m≤1000000) (hm:0 < m) :
  Calls Tryz.prog 178 #[.slice a n c,.slice b m d] w fun e w'=>(e=.returned (.slice (some ⟨w.heap.size,0,none⟩) (n + m) (n + m))∧Ints w' (some ⟨w.heap.size,0,none⟩) (n + m) (n + m) (l++k))∧Below w.heap.size w w':=by
 have hmk:=run_make_row' (P:=Tryz.prog) 26 3 (.int .i64 0) 8 Tryz.underlying26 infoInt rfl .i64 .i64 (n + m) (by omega) (by omega)
 rw [Int.natCast_add] at hmk
 go_enter Tryz.func178,Tryz.ntmps178
 go_wp2_with fail
 obtain ⟨w2,r2,g2,b2⟩:=copy_run (P:=Tryz.prog) (w.alloc (.cells (madeCells #[.int .i64 0] (n + m)) 3)) 26 26 3 3 Tryz.underlying26 sizeInt (some ⟨w.heap.size,0,none⟩) a (n + m) (n + m) n c w.heap.size 0
  (madeCells #[.int .i64 0] (n + m)).toList 3 (heap_new _ _) (cellsOf l) (by rw [cellsOf_len,h1.len];exact (Nat.min_eq_left (by omega)).symm) (fun hp=>⟨rfl,(h1.below (B:=w.heap.size) (by (repeat first|exact bel0|assumption|refine bel1 ?_|refine bel2 ?_|refine bel3 ?_|refine belowT ?_ (by assumption)|refine bel5 ?_ (by simp;try omega))) (Nat.le_refl _)).src (by rw [cellsOf_len,h1.len] at hp;exact hp)⟩) (by simp [size_madeCells,cellsOf_len,h1.len]) (cellsOf_one l)
 have bw2:Below w.heap.size w w2:=(belowA (Below.refl _ _) _).trans b2
 obtain ⟨w3,r3,g3,b3⟩:=copy_run (P:=Tryz.prog) w2 26 26 3 3 Tryz.underlying26 sizeInt (some ⟨w.heap.size,n,none⟩) b m m m d w.heap.size n
  _ 3 g2 (cellsOf k) (by rw [cellsOf_len,h2.len];exact (Nat.min_self m).symm) (fun hp=>⟨rfl,(h2.below (B:=w.heap.size) bw2 (Nat.le_refl _)).src hm⟩) (by rw [length_splice _ _ _ (by simp [size_madeCells,cellsOf_len,h1.len])];simp [size_madeCells,cellsOf_len,h2.len]) (cellsOf_one k)
 rw [r2]
 have G3:=hide g3
 have R3:=hide r3
 clear g2 r2 g3 r3
 have hm0:¬ m=0:=by omega
 go_wp2_with fail
 rw [R3.out]
 go_wp2
 go_ret
 have g3:=G3.out
 have hs:=splice_two (madeCells #[.int .i64 0] (n + m)).toList (cellsOf l) (cellsOf k) (by simp [size_madeCells,cellsOf_len,h1.len,h2.len])
 rw [cellsOf_len,h1.len] at hs
 rw [hs,cellsOf_app] at g3
 exact ⟨⟨rfl,Ints.of_row g3 (by rw [List.length_append,h1.len,h2.len];omega) (h1.app_wf h2) (by rw [List.length_append,h1.len,h2.len])⟩,bw2.trans b3⟩
theorem join_c (a:Option Addr) (n c:Nat) (l:List Int) (b:Option Addr) (m d:Nat) (k:List Int) (w:World) (h1:Ints w a n c l) (h2:Ints w b m d k) (hnm:n + m≤1000000) :
  Calls Tryz.prog 178 #[.slice a n c,.slice b m d] w fun e w'=>(e=.returned (.slice (some ⟨w.heap.size,0,none⟩) (n + m) (n + m))∧Ints w' (some ⟨w.heap.size,0,none⟩) (n + m) (n + m) (l++k))∧Below w.heap.size w w':=by
 rcases Nat.eq_zero_or_pos m with hm|hm
 ·subst hm
  have hk:=h2.len
  rw [List.length_eq_zero_iff] at hk
  subst hk
  rw [List.append_nil,Nat.add_zero]
  exact join_none a n c l b d w h1 (by omega)
 ·exact join_some a n c l b m d k w h1 h2 hnm hm
end Go.Proofs.YtabafikicbkkdaaGreatDoor
namespace Go.Proofs.YtabafikicbkkdaaGreatDoor
open Go.RowKit
set_option linter.unusedVariables false
set_option maxHeartbeats 1000000
set_option maxRecDepth 100000
set_option linter.unusedSimpArgs false
theorem intInfo:∃ i,Tryz.prog.info? 3=some i∧i.zero=some (.int .i64 0)∧i.size=1∧i.bytes=8:=by
 obtain ⟨i,hi,h⟩:=Option.map_eq_some_iff.1 infoInt
 simp only [Prod.mk.injEq] at h
 exact ⟨i,hi,h.1,h.2.1,h.2.2⟩
def OwnI (w:World) (base:Nat) (v:Value) (l:List Int):Prop:=w.ownsRow base 3 1 v l.length (cellsOf l)
theorem OwnI.ints {w:World} {base:Nat} {v:Value} {l:List Int} (h:OwnI w base v l) (hwf:∀ x∈l,-9223372036854775808≤x∧x≤9223372036854775807) :
  ∃ a c,v=.slice a l.length c∧Ints w a l.length c l∧∀ x,a=some x→base≤x.block:=by
 obtain ⟨hlen,h⟩:=h
 rcases h with ⟨rfl,h0⟩|⟨g,cap,cur,rfl,hb,hg,hn,hm,hs,hc⟩
 ·rw [List.length_eq_zero_iff] at h0
  subst h0
  exact ⟨none,0,rfl,Ints.nilSlice w,fun x h=>by cases h⟩
 ·refine ⟨_,cap,rfl,?_,fun x h=>by cases h;exact hb⟩
  refine ⟨rfl,hn,by simp [maxLen] at hm;omega,fun e=>(by cases e),.inr ⟨g,0,rfl,(Array.getElem?_eq_some_iff.1 hg).1,fun i hi=>?_⟩,hwf⟩
  rw [cell_of_row w g _ _ _ _ hg,Nat.zero_add]
  have:=congrArg (fun L=>L[i]?) hc
  simp only [Nat.mul_one,List.getElem?_take,hi,if_true] at this
  rw [cellsOf_get l i hi] at this
  simpa using this
theorem OwnI.base {w:World} {base q n cap:Nat} {l:List Int} (h:OwnI w base (.slice (some ⟨q,0,none⟩) n cap) l):base≤q:=by
 obtain ⟨_,h⟩:=h
 rcases h with ⟨e,_⟩|⟨g,cap,cur,e,hb,_⟩
 ·cases e
 ·cases e;exact hb
theorem nil_own (w:World) (base:Nat):OwnI w base (.slice none 0 0) []:=⟨rfl,.inl ⟨rfl,rfl⟩⟩
end Go.Proofs.YtabafikicbkkdaaGreatDoor
namespace Go.Proofs.YtabafikicbkkdaaGreatDoor
open Go.RowKit
set_option linter.unusedVariables false
set_option maxHeartbeats 1000000
set_option maxRecDepth 100000
set_option linter.unusedSimpArgs false
def rcells (X:List RV):List Value:=X.flatMap RV.cells
theorem rcells_cons (x:RV) (X:List RV):rcells (x :: X)=x.cells++rcells X:=by simp [rcells]
theorem rcells_snoc (X:List RV) (x:RV):rcells (X++[x])=rcells X++x.cells:=by simp [rcells]
theorem RV.cells_len (x:RV):x.cells.length=7:=rfl
theorem rcells_get:∀ (X:List RV) (i:Nat) (x:RV),X[i]?=some x→∀ j v,x.cells[j]?=some v→(rcells X)[i * 7 + j]?=some v
 |[],i,x,h,_,_,_=>by simp at h
 |y :: X,0,x,h,j,v,hv=>by
  have hj:j < 7:=(List.getElem?_eq_some_iff.1 hv).1
  simp at h
  subst h
  rw [rcells_cons,List.getElem?_append_left (by rw [RV.cells_len];omega)]
  simpa using hv
 |y :: X,i + 1,x,h,j,v,hv=>by
  rw [rcells_cons,List.getElem?_append_right (by rw [RV.cells_len];omega),RV.cells_len,show (i + 1) * 7 + j - 7=i * 7 + j by omega]
  exact rcells_get X i x (by simpa using h) j v hv
theorem RV.cells_one (x:RV):∀ v∈x.cells,v.oneCell'=true:=by
 intro v hx
 simp only [RV.cells,List.mem_cons,List.not_mem_nil,or_false] at hx
 rcases hx with rfl|rfl|rfl|rfl|rfl|rfl|rfl<;>rfl
structure Recs (w:World) (a:Option Addr) (n c:Nat) (X:List RV):Prop where
 len:X.length=n
 le:n≤c
 max:c≤9223372036854775807
 nil:a=none→c=0
 row:n=0∨∃ b off,a=some ⟨b,off,none⟩∧b < w.heap.size∧∀ i x,X[i]?=some x→∀ j v,x.cells[j]?=some v→w.cell? ⟨b,off + i * 7 + j,none⟩=some v
 ok:∀ x∈X,x.ok w
theorem Recs.below {w w':World} {a:Option Addr} {n c:Nat} {X:List RV} (h:Recs w a n c X) {B:Nat} (hb:Below B w w') (hB:w.heap.size≤B):Recs w' a n c X:=by
 refine ⟨h.len,h.le,h.max,h.nil,?_,fun x hx=>(h.ok x hx).below hb hB⟩
 rcases h.row with h0|⟨b,off,ha,hlt,hc⟩
 ·exact .inl h0
 ·refine .inr ⟨b,off,ha,Nat.lt_of_lt_of_le hlt hb.size,fun i x hx j v hv=>?_⟩
  rw [hb.cell (p:=⟨b,off + i * 7 + j,none⟩) (Nat.lt_of_lt_of_le hlt hB)]
  exact hc i x hx j v hv
theorem Recs.nilSlice (w:World):Recs w none 0 0 []:=⟨rfl,Nat.le_refl _,by omega,fun _=>rfl,.inl rfl,by simp⟩
theorem Recs.take {w:World} {a:Option Addr} {n c:Nat} {X:List RV} (h:Recs w a n c X) {k:Nat} (hk:k≤n):Recs w a k c (X.take k):=by
 refine ⟨by rw [List.length_take,h.len];omega,Nat.le_trans hk h.le,h.max,h.nil,?_,fun x hx=>h.ok x (List.mem_of_mem_take hx)⟩
 rcases h.row with h0|⟨b,off,ha,hlt,hc⟩
 ·exact .inl (by omega)
 ·refine .inr ⟨b,off,ha,hlt,fun i x hx=>hc i x ?_⟩
  have hi:=(List.getElem?_eq_some_iff.1 hx).1
  rw [List.length_take] at hi
  rwa [List.getElem?_take_of_lt (by omega)] at hx
structure FreshR (B:Nat) (a:Option Addr) (X:List RV):Prop where
 a:∀ y,a=some y→B≤y.block
 d:∀ x∈X,∀ y,x.a=some y→B≤y.block
theorem FreshR.mono {B B':Nat} {a:Option Addr} {X:List RV} (h:FreshR B a X) (hB:B'≤B):FreshR B' a X:=⟨fun y e=>Nat.le_trans hB (h.a y e),fun x hx y e=>Nat.le_trans hB (h.d x hx y e)⟩
theorem FreshR.nil (B:Nat):FreshR B none []:=⟨fun y e=>(by cases e),fun x hx=>(by cases hx)⟩
theorem Recs.but {w w':World} {g:Nat} {a:Option Addr} {n c:Nat} {X:List RV} (h:Recs w a n c X) (hb:But g w w') {B:Nat} (hn:FreshR B a X) (hg:g < B):Recs w' a n c X:=by
 refine ⟨h.len,h.le,h.max,h.nil,?_,fun x hx=>(h.ok x hx).but hb (.inr fun y e=>by have:=hn.d x hx y e;omega)⟩
 rcases h.row with h0|⟨b,off,ha,hlt,hc⟩
 ·exact .inl h0
 ·refine .inr ⟨b,off,ha,Nat.lt_of_lt_of_le hlt hb.size,fun i x hx j v hv=>?_⟩
  have:=hn.a _ ha
  simp at this
  rw [hb.cell ⟨b,off + i * 7 + j,none⟩ hlt (by simp;omega)]
  exact hc i x hx j v hv
theorem Ints.grown {w w':World} {row:Option Nat} {a:Option Addr} {n c:Nat} {l:List Int} (h:Ints w a n c l) (hg:w.grownBy w' row) (hne:n=0∨∀ x,a=some x→some x.block≠row):Ints w' a n c l:=by
 refine ⟨h.len,h.le,h.max,h.nil,?_,h.wf⟩
 rcases hne with h0|hne
 ·exact .inl h0
 ·rcases h.row with h0|⟨b,off,ha,hlt,hc⟩
  ·exact .inl h0
  ·exact .inr ⟨b,off,ha,Nat.lt_of_lt_of_le hlt hg.size,fun i hi=>hg.cell (hc i hi) (by have:=hne _ ha;exact this)⟩
structure OwnR (w:World) (base:Nat) (v:Value) (X:List RV):Prop where
 own:w.ownsRow base 52 7 v X.length (rcells X)
 ok:∀ x∈X,x.ok w
 off:∀ x∈X,∀ g,v.ownBlock=some g→x.off g
theorem OwnR.nil (w:World) (base:Nat):OwnR w base (.slice none 0 0) []:=⟨World.ownsRow_nil w base _ 7,by simp,by simp⟩
def FromD (B:Nat) (X:List RV):Prop:=∀ x∈X,∀ y,x.a=some y→B≤y.block
theorem FromD.nil (B:Nat):FromD B []:=fun x hx=>by cases hx
theorem FromD.snoc {B:Nat} {X:List RV} {x:RV} (h:FromD B X) (hx:∀ y,x.a=some y→B≤y.block):FromD B (X++[x]):=by
 intro y hy
 rcases List.mem_append.1 hy with hy|hy
 ·exact h y hy
 ·obtain rfl:y=x:=by simpa using hy
  exact hx
theorem FromD.mono {B B':Nat} {X:List RV} (h:FromD B X) (hB:B'≤B):FromD B' X:=fun x hx y e=>Nat.le_trans hB (h x hx y e)
theorem grown_below {w w':World} (hb:Below w.heap.size w w'):w.grownBy w' none:=⟨hb.os,hb.tape,hb.output,hb.size,fun k hk _=>hb.block k hk⟩
theorem OwnR.below {w w':World} {base:Nat} {v:Value} {X:List RV} (h:OwnR w base v X) (hb:Below w.heap.size w w'):OwnR w' base v X:=
 ⟨h.own.kept (grown_below hb) (by cases v.ownBlock<;>simp),fun x hx=>(h.ok x hx).below hb (Nat.le_refl _),h.off⟩
theorem OwnR.mono {w:World} {base base':Nat} {v:Value} {X:List RV} (h:OwnR w base v X) (hb:base'≤base):OwnR w base' v X:=by
 refine ⟨⟨h.own.1,?_⟩,h.ok,h.off⟩
 rcases h.own.2 with h|⟨g,cap,cur,e,hg,r⟩
 ·exact .inl h
 ·exact .inr ⟨g,cap,cur,e,Nat.le_trans hb hg,r⟩
theorem OwnR.recs {w:World} {base:Nat} {v:Value} {X:List RV} (h:OwnR w base v X):∃ a c,v=.slice a X.length c∧Recs w a X.length c X∧∀ y,a=some y→base≤y.block:=by
 rcases h.own.2 with ⟨rfl,h0⟩|⟨g,cap,cur,rfl,hb,hg,hn,hm,hs,hc⟩
 ·rw [List.length_eq_zero_iff] at h0
  subst h0
  exact ⟨none,0,rfl,Recs.nilSlice w,fun y e=>by cases e⟩
 ·refine ⟨_,cap,rfl,?_,fun x e=>by cases e;exact hb⟩
  refine ⟨rfl,hn,by simp [maxLen] at hm;omega,fun e=>(by cases e),.inr ⟨g,0,rfl,(Array.getElem?_eq_some_iff.1 hg).1,fun i x hx j v hv=>?_⟩,h.ok⟩
  have hj:j < 7:=(List.getElem?_eq_some_iff.1 hv).1
  have hi:=(List.getElem?_eq_some_iff.1 hx).1
  have hr:=rcells_get X i x hx j v hv
  rw [← hc,List.getElem?_take,if_pos (by omega)] at hr
  rw [cell_of_row w g _ _ _ _ hg,Nat.zero_add]
  simpa using hr
theorem OwnR.snoc {w w':World} {base:Nat} {v:Value} {X:List RV} {x:RV} {g cap:Nat} (h:OwnR w base v X) (hx:x.ok w) (ho:∀ g,v.ownBlock=some g→x.off g)
  (hown:w'.ownsRow base 52 7 (.slice (some ⟨g,0,none⟩) (X.length + 1) cap) (X.length + 1) (rcells X++x.cells)) (hg:w.grownBy w' v.ownBlock) (hat:v.ownBlock=some g∨g=w.heap.size) :
  OwnR w' base (.slice (some ⟨g,0,none⟩) (X.length + 1) cap) (X++[x]):=by
 have all:∀ y∈X++[x],y.ok w∧(∀ k,v.ownBlock=some k→y.off k):=by
  intro y hy
  rcases List.mem_append.1 hy with hy|hy
  ·exact ⟨h.ok y hy,h.off y hy⟩
  ·obtain rfl:y=x:=by simpa using hy
   exact ⟨hx,ho⟩
 refine ⟨by rw [List.length_append,rcells_snoc];exact hown,fun y hy=>?_,fun y hy k e=>?_⟩
 ·obtain ⟨h1,h2⟩:=all y hy
  refine Ints.grown h1 hg ?_
  cases e:v.ownBlock with
  |none=>exact .inr fun z _ q=>by cases q
  |some k=>
   rcases h2 k e with h0|h0
   ·exact .inl h0
   ·exact .inr fun z hz q=>h0 z hz (by cases q;rfl)
 ·obtain ⟨h1,h2⟩:=all y hy
  obtain rfl:g=k:=by simpa [Value.ownBlock] using e
  rcases hat with hat|rfl
  ·exact h2 _ hat
  ·exact h1.off (Nat.le_refl _)
theorem OwnR.apart {w:World} {base:Nat} {v:Value} {X:List RV} (h:OwnR w base v X) {x:RV} {B:Nat} (hB:w.heap.size≤B) (hn:∀ y,x.a=some y→B≤y.block):∀ g,v.ownBlock=some g→x.off g:=by
 intro g e
 have:=(h.own.lt g e).2
 exact .inr fun y hy=>by have:=hn y hy;omega
end Go.Proofs.YtabafikicbkkdaaGreatDoor
namespace Go.Proofs.YtabafikicbkkdaaGreatDoor
open Go.ChangeShapes Go.WideShapes Go.ChangeAt Go.RowKit Go.Joins Go.ChangeMaps
set_option linter.unusedVariables false
set_option maxHeartbeats 1000000
set_option maxRecDepth 100000
set_option linter.unusedSimpArgs false
end Go.Proofs.YtabafikicbkkdaaGreatDoor
