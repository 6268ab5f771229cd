/- The contracts of disk.join and disk.size; no condition but that the bytes are read, and on their number. -/
import Derived.Test.YtabafikicbkkdaaGreatDoorSV8
import Derived.Test.YtabafikicbkkdaaGreatDoorSV1
namespace Go.Proofs.YtabafikicbkkdaaGreatDoor
open Go.RowKit
set_option linter.unusedVariables false
set_option maxHeartbeats 1000000
set_option maxRecDepth 100000
set_option linter.unusedSimpArgs false
theorem infoU8:(Tryz.prog.info? 5).map (fun i=>(i.zero,i.size,i.bytes))=some (some (.int .u8 0),1,1):=by kernel_rfl
theorem sizeU8:(Tryz.prog.info? 5).map (·.size)=some 1:=by kernel_rfl
theorem Byts.of_row {w:World} {g:Nat} {l:List UInt8} {t:TypeId} {fr:Nat×Nat} (hg:w.heap[g]?=some (.cells (bytC l).toArray t fr)) (hmax:l.length≤9223372036854775807) {n:Nat} (hn:l.length=n):Byts w (some ⟨g,0,none⟩) n n l:=
 Cel.of_row hg (by rw [bytC_len];exact hmax) (by rw [bytC_len];exact hn)
theorem djoin_none (a:Option Addr) (n c:Nat) (l:List UInt8) (b:Option Addr) (d:Nat) (w:World) (h1:Byts w a n c l) (hnm:n≤1000000) :
  Calls Tryz.prog 55 #[.slice a n c,.slice b 0 d] w fun e w'=>(e=.returned (.slice (some ⟨w.heap.size,0,none⟩) n n)∧Byts w' (some ⟨w.heap.size,0,none⟩) n n l)∧Below w.heap.size w w':=by
 have hmk:=run_make_row' (P:=Tryz.prog) 34 5 (.int .u8 0) 1 Tryz.underlying34 infoU8 rfl .i64 .i64 n (by omega) (by omega)
 have hl1:=h1.len
 go_enter Tryz.func55,Tryz.ntmps55
 go_wp2_with fail
 obtain ⟨w2,r2,g2,b2⟩:=copy_run (P:=Tryz.prog) (w.alloc (.cells (madeCells #[.int .u8 0] n) 5)) 34 34 3 5 Tryz.underlying34 sizeU8 (some ⟨w.heap.size,0,none⟩) a n n n c w.heap.size 0
  (madeCells #[.int .u8 0] n).toList 5 (heap_new _ _) (bytC l) (by rw [bytC_len,hl1];exact (Nat.min_self n).symm) (fun hp=>⟨rfl,Cel.src (h1.below (B:=w.heap.size) (by (repeat first|exact bel0|assumption|refine bel1 ?_|refine bel2 ?_|refine bel3 ?_|refine belowT ?_ (by assumption)|refine bel5 ?_ (by simp;try omega))) (Nat.le_refl _)) (by rw [bytC_len,hl1] at hp;exact hp)⟩) (by simp [size_madeCells,bytC_len,hl1]) (bytC_one l)
 rw [r2]
 have G2:=hide g2
 clear g2 r2
 go_wp2_with fail
 rw [run_copy_none (P:=Tryz.prog) _ 34 34 3 5 _ _ _ _ _ _ Tryz.underlying34 sizeU8 (by first|rfl|simp)]
 go_wp2
 go_ret
 have g2:=G2.out
 rw [splice_one _ _ (by simp [size_madeCells,bytC_len,hl1])] at g2
 exact ⟨⟨rfl,Byts.of_row g2 (by rw [hl1];omega) hl1⟩,(belowA (Below.refl _ _) _).trans b2⟩
theorem djoin_some (a:Option Addr) (n c:Nat) (l:List UInt8) (b:Option Addr) (m d:Nat) (k:List UInt8) (w:World) (h1:Byts w a n c l) (h2:Byts w b m d k) (hnm:n + m≤1000000) (hm:0 < m) :
  Calls Tryz.prog 55 #[.slice a n c,.slice b m d] w fun e w'=>(e=.returned (.slice (some ⟨w.heap.size,0,none⟩) (n + m) (n + m))∧Byts w' (some ⟨w.heap.size,0,none⟩) (n + m) (n + m) (l++k))∧Below w.heap.size w w':=by
 have hmk:=run_make_row' (P:=Tryz.prog) 34 5 (.int .u8 0) 1 Tryz.underlying34 infoU8 rfl .i64 .i64 (n + m) (by omega) (by omega)
 rw [Int.natCast_add] at hmk
 have hl1:=h1.len
 have hl2:=h2.len
 go_enter Tryz.func55,Tryz.ntmps55
 go_wp2_with fail
 obtain ⟨w2,r2,g2,b2⟩:=copy_run (P:=Tryz.prog) (w.alloc (.cells (madeCells #[.int .u8 0] (n + m)) 5)) 34 34 3 5 Tryz.underlying34 sizeU8 (some ⟨w.heap.size,0,none⟩) a (n + m) (n + m) n c w.heap.size 0
  (madeCells #[.int .u8 0] (n + m)).toList 5 (heap_new _ _) (bytC l) (by rw [bytC_len,hl1];exact (Nat.min_eq_left (by omega)).symm) (fun hp=>⟨rfl,Cel.src (h1.below (B:=w.heap.size) (by (repeat first|exact bel0|assumption|refine bel1 ?_|refine bel2 ?_|refine bel3 ?_|refine belowT ?_ (by assumption)|refine bel5 ?_ (by simp;try omega))) (Nat.le_refl _)) (by rw [bytC_len,hl1] at hp;exact hp)⟩) (by simp [size_madeCells,bytC_len,hl1]) (bytC_one l)
 have bw2:Below w.heap.size w w2:=(belowA (Below.refl _ _) _).trans b2
 obtain ⟨w3,r3,g3,b3⟩:=copy_run (P:=Tryz.prog) w2 34 34 3 5 Tryz.underlying34 sizeU8 (some ⟨w.heap.size,n,none⟩) b m m m d w.heap.size n
  _ 5 g2 (bytC k) (by rw [bytC_len,hl2];exact (Nat.min_self m).symm) (fun hp=>⟨rfl,Cel.src (h2.below (B:=w.heap.size) bw2 (Nat.le_refl _)) hm⟩) (by rw [length_splice _ _ _ (by simp [size_madeCells,bytC_len,hl1])];simp [size_madeCells,bytC_len,hl2]) (bytC_one k)
 rw [r2]
 have G3:=hide g3
 have R3:=hide r3
 clear g2 r2 g3 r3
 have hm0:¬ m=0:=by omega
 go_wp2_with fail
 rw [R3.out]
 go_wp2
 go_ret
 have g3:=G3.out
 have hs:=splice_two (madeCells #[.int .u8 0] (n + m)).toList (bytC l) (bytC k) (by simp [size_madeCells,bytC_len,hl1,hl2])
 rw [bytC_len,hl1] at hs
 rw [hs,bytC_app] at g3
 exact ⟨⟨rfl,Byts.of_row g3 (by rw [List.length_append,hl1,hl2];omega) (by rw [List.length_append,hl1,hl2])⟩,bw2.trans b3⟩
theorem djoin_c (a:Option Addr) (n c:Nat) (l:List UInt8) (b:Option Addr) (m d:Nat) (k:List UInt8) (w:World) (h1:Byts w a n c l) (h2:Byts w b m d k) (hnm:n + m≤1000000) :
  Calls Tryz.prog 55 #[.slice a n c,.slice b m d] w fun e w'=>(e=.returned (.slice (some ⟨w.heap.size,0,none⟩) (n + m) (n + m))∧Byts w' (some ⟨w.heap.size,0,none⟩) (n + m) (n + m) (l++k))∧Below w.heap.size w w':=by
 rcases Nat.eq_zero_or_pos m with hm|hm
 ·subst hm
  have hk:=h2.len
  rw [List.length_eq_zero_iff] at hk
  subst hk
  rw [List.append_nil,Nat.add_zero]
  exact djoin_none a n c l b d w h1 (by omega)
 ·exact djoin_some a n c l b m d k w h1 h2 hnm hm
theorem dsize_c (a:Option Addr) (n c:Nat) (b:Option Addr) (m d:Nat) (w:World) (hn:n≤140737488355328) (hm:m≤140737488355328) :
  Calls Tryz.prog 73 #[.agg #[.slice a n c,.slice b m d]] w fun e w'=>e=.returned (.int .i64 ((n + m:Nat):Int))∧Below w.heap.size w w':=by
 go_enter Tryz.func73,Tryz.ntmps73
 go_wp2
 go_ret
 exact ⟨ret_int (by omega),by (repeat first|exact bel0|assumption|refine bel1 ?_|refine bel2 ?_|refine bel3 ?_|refine belowT ?_ (by assumption)|refine bel5 ?_ (by simp;try omega))⟩
end Go.Proofs.YtabafikicbkkdaaGreatDoor
