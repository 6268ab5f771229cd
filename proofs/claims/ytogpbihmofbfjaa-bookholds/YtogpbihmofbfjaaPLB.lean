/- The contract of plain.CopyBook; no condition but that the keys read as data, and are no more than a machine bears. -/
import Derived.Test.YtogpbihmofbfjaaPL0
import Derived.Test.YtogpbihmofbfjaaK0
import Derived.Test.YtogpbihmofbfjaaTB3
namespace Go.Proofs.Ytogpbihmofbfjaa
open Go.RowKit
set_option linter.unusedVariables false
set_option maxRecDepth 100000
set_option linter.unusedSimpArgs false

set_option maxHeartbeats 2000000 in
theorem pbook_c (a : Option Addr) (n c : Nat) (b : PB) (w : World) (h : Ints w a n c b.k) (hn : n ≤ 100000) :
    Calls Try.prog 24 #[bookV a n c b] w fun e w' => (∃ q, e = .returned (bookV (some ⟨q, 0, none⟩) n n b) ∧ Ints w' (some ⟨q, 0, none⟩) n n b.k ∧ w.heap.size ≤ q ∧ Lay w' q (cellsOf b.k)) ∧ Below w.heap.size w w' := by
  obtain ⟨l, hh, tt⟩ := b
  unfold bookV
  dsimp only at *
  obtain ⟨x0, x1, x2, bw⟩ := three_boxes w [.slice a n c, .int .i64 hh, .int .i64 tt] [.slice none 0 0, .int .i64 0, .int .i64 0] [.slice a n c, .int .i64 hh, .int .i64 tt] 24 24 24
  replace h := h.below bw (Nat.le_refl _)
  go_enter Try.func24, Try.ntmps24
  go_upto_region 2 with fail
  generalize ((w.alloc (.cells [.slice a n c, .int .i64 hh, .int .i64 tt].toArray 24)).alloc (.cells [.slice none 0 0, .int .i64 0, .int .i64 0].toArray 24)).alloc (.cells [.slice a n c, .int .i64 hh, .int .i64 tt].toArray 24) = w1 at *
  have c0 := x0.cell 0 _ rfl
  go_wp2_with fail
  refine (plistL_c a n c l _ h hn).mono ?_
  rintro e w2 ⟨⟨q, rfl, iq, hq, lq⟩, hb2⟩
  have hqw : w.heap.size + 1 + 1 < q := by have := x2.lt; omega
  clear c0 hq x0
  replace x1 := x1.below hb2
  replace x2 := x2.below hb2
  replace bw := belowT bw hb2
  clear hb2
  have e0 := x2.cell 0 _ rfl
  have f0 := x2.ice 0
  go_upto_region 3 with fail
  have hbu := (ButI.refl (w.heap.size + 1 + 1) w2).step 0 (.slice (some ⟨q, 0, none⟩) n n)
  have y2 : Lay _ _ [.slice (some ⟨q, 0, none⟩) n n, .int .i64 hh, .int .i64 tt] := x2.set 0 (.slice (some ⟨q, 0, none⟩) n n)
  have xR := x1.butI hbu (by omega)
  replace lq := lq.butI hbu (by omega)
  replace iq := iq.but hbu.but (.inr fun x e => by cases e; simp; omega)
  replace bw := bw.trans (hbu.below (B := w.heap.size) (by omega))
  clear e0 f0 x2 x1 hbu
  generalize w2.setCell ⟨w.heap.size + 1 + 1, 0, none⟩ (.slice (some ⟨q, 0, none⟩) n n) = w3 at *
  have a0 := y2.cell 0 _ rfl
  have a1 := y2.cell 1 _ rfl
  have a2 := y2.cell 2 _ rfl
  have e0 := xR.cell 0 _ rfl
  have e1 := xR.cell 1 _ rfl
  have e2 := xR.cell 2 _ rfl
  have f0 := xR.ice 0
  have f1 := xR.ice 1
  have f2 := xR.ice 2
  go_wp2
  have zB := ((xR.set 0 (.slice (some ⟨q, 0, none⟩) n n)).set 1 (.int .i64 hh)).set 2 (.int .i64 tt)
  have hbut := (((ButI.refl (w.heap.size + 1) w3).step 0 (.slice (some ⟨q, 0, none⟩) n n)).step 1 (.int .i64 hh)).step 2 (.int .i64 tt)
  generalize ((w3.setCell ⟨w.heap.size + 1, 0, none⟩ (.slice (some ⟨q, 0, none⟩) n n)).setCell ⟨w.heap.size + 1, 1, none⟩ (.int .i64 hh)).setCell ⟨w.heap.size + 1, 2, none⟩ (.int .i64 tt) = w9 at *
  have z0 := zB.cell 0 _ rfl
  have z1 := zB.cell 1 _ rfl
  have z2 := zB.cell 2 _ rfl
  exact bodyPost_ret (v := .agg #[.slice (some ⟨q, 0, none⟩) n n, .int .i64 hh, .int .i64 tt]) (by simp [results, Try.results24, go_sem, z0, z1, z2]) rfl
    ⟨⟨q, rfl, iq.but hbut.but (.inr fun x e => by cases e; simp; omega), by omega, lq.butI hbut (by omega)⟩, bw.trans (hbut.below (B := w.heap.size) (by omega))⟩

end Go.Proofs.Ytogpbihmofbfjaa
