/- Zones in memory of the call's own: they are read, and one of them is set; no condition but what the predicate says. -/
import Derived.Test.YtaambknbbhjdnaaC0
import Derived.Test.YtaambknbbhjdnaaB1
namespace Go.Proofs.Ytaambknbbhjdnaa
open Go.RowKit
set_option linter.unusedVariables false
set_option maxRecDepth 100000
set_option linter.unusedSimpArgs false

/-- The zone's blocks don't lie in block g. -/
def ZV.off (g : Nat) (z : ZV) : Prop := z.n = 0 ∨ ∀ x, z.a = some x → x.block ≠ g

/-- Zones in block g, which is the call's own. -/
structure Mine (w : World) (base g n c : Nat) (Z : List ZV) : Prop where
  zs : Zones w (some ⟨g, 0, none⟩) n c Z
  base : base ≤ g
  lt : g < w.heap.size
  cells : ∀ i z, Z[i]? = some z → w.cell? ⟨g, i * 2, none⟩ = some (.int .i64 z.s) ∧ w.cell? ⟨g, i * 2 + 1, none⟩ = some (.slice z.a z.n z.c)
  soft : ∀ j, j < n * 2 → w.frozen? ⟨g, j, none⟩ = false
  off : ∀ z ∈ Z, z.off g

theorem Ints.setCell' {w : World} {a : Option Addr} {n c : Nat} {l : List Int} (h : Ints w a n c l) (p : Addr) (v : Value) (hne : n = 0 ∨ ∀ x, a = some x → x.block ≠ p.block) : Ints (w.setCell p v) a n c l := by
  rcases hne with h0 | hne
  · exact ⟨h.len, h.le, h.max, h.nil, .inl h0, h.wf⟩
  · exact h.setCell p v hne

theorem Mine.below {w w' : World} {base g n c : Nat} {Z : List ZV} (h : Mine w base g n c Z) (hb : Below w.heap.size w w') : Mine w' base g n c Z := by
  refine ⟨h.zs.below hb (Nat.le_refl _), h.base, Nat.lt_of_lt_of_le h.lt hb.size, fun i z hz => ?_, fun j hj => ?_, h.off⟩
  · rw [hb.cell (p := ⟨g, i * 2, none⟩) h.lt, hb.cell (p := ⟨g, i * 2 + 1, none⟩) h.lt]
    exact h.cells i z hz
  · rw [hb.frozen (p := ⟨g, j, none⟩) h.lt]
    exact h.soft j hj

theorem Mine.set {w : World} {base g n c : Nat} {Z : List ZV} (h : Mine w base g n c Z) (i : Nat) (hi : i < n) (z : ZV) (hz : z.ok w) (ho : z.off g) :
    Mine ((w.setCell ⟨g, i * 2, none⟩ (.int .i64 z.s)).setCell ⟨g, i * 2 + 1, none⟩ (.slice z.a z.n z.c)) base g n c (Z.set i z) := by
  have hlen := h.zs.len
  obtain ⟨y, hy⟩ : ∃ y, Z[i]? = some y := ⟨Z[i]'(by omega), by simp⟩
  obtain ⟨y0, y1⟩ := h.cells i y hy
  have hc : ∀ j u, (Z.set i z)[j]? = some u → ((w.setCell ⟨g, i * 2, none⟩ (.int .i64 z.s)).setCell ⟨g, i * 2 + 1, none⟩ (.slice z.a z.n z.c)).cell? ⟨g, j * 2, none⟩ = some (.int .i64 u.s) ∧ ((w.setCell ⟨g, i * 2, none⟩ (.int .i64 z.s)).setCell ⟨g, i * 2 + 1, none⟩ (.slice z.a z.n z.c)).cell? ⟨g, j * 2 + 1, none⟩ = some (.slice u.a u.n u.c) := by
    intro j u hu
    by_cases hij : i = j
    · subst hij
      rw [List.getElem?_set_self (by omega)] at hu
      cases hu
      refine ⟨?_, ?_⟩
      · rw [World.cell?_setCell_other _ _ _ _ (by simp)]
        exact World.cell?_setCell_same _ _ _ y0
      · exact World.cell?_setCell_same _ _ _ (by rw [World.cell?_setCell_other _ _ _ _ (by simp)]; exact y1)
    · rw [List.getElem?_set_ne hij] at hu
      obtain ⟨u0, u1⟩ := h.cells j u hu
      refine ⟨?_, ?_⟩
      · rw [World.cell?_setCell_other _ _ _ _ (by (first | (simp; done) | (simp; omega))), World.cell?_setCell_other _ _ _ _ (by (first | (simp; done) | (simp; omega)))]
        exact u0
      · rw [World.cell?_setCell_other _ _ _ _ (by (first | (simp; done) | (simp; omega))), World.cell?_setCell_other _ _ _ _ (by (first | (simp; done) | (simp; omega)))]
        exact u1
  have hoff : ∀ u ∈ Z.set i z, u.off g := fun u hu => by
    rcases List.mem_or_eq_of_mem_set hu with hu | rfl
    · exact h.off u hu
    · exact ho
  have hok : ∀ u ∈ Z.set i z, u.ok ((w.setCell ⟨g, i * 2, none⟩ (.int .i64 z.s)).setCell ⟨g, i * 2 + 1, none⟩ (.slice z.a z.n z.c)) := fun u hu => by
    have hw : u.ok w := by
      rcases List.mem_or_eq_of_mem_set hu with hu | rfl
      · exact h.zs.ok u hu
      · exact hz
    exact (Ints.setCell' hw ⟨g, i * 2, none⟩ _ (hoff u hu)).setCell' ⟨g, i * 2 + 1, none⟩ _ (hoff u hu)
  refine ⟨⟨by simp [hlen], h.zs.le, h.zs.max, fun e => (by cases e), .inr ⟨g, 0, rfl, by simpa [World.setCell] using h.lt, fun j u hu => by simpa using hc j u hu⟩, hok⟩, h.base, by simpa [World.setCell] using h.lt, hc, fun j hj => ?_, hoff⟩
  rw [World.frozen?_setCell, World.frozen?_setCell]
  exact h.soft j hj

theorem Mine.mono {w : World} {base base' g n c : Nat} {Z : List ZV} (h : Mine w base g n c Z) (hb : base' ≤ base) : Mine w base' g n c Z := ⟨h.zs, Nat.le_trans hb h.base, h.lt, h.cells, h.soft, h.off⟩

/-- The cells of zones. -/
def zcells : List ZV → List Value
  | [] => []
  | z :: r => .int .i64 z.s :: .slice z.a z.n z.c :: zcells r
theorem zcells_len (Z : List ZV) : (zcells Z).length = Z.length * 2 := by
  induction Z with
  | nil => rfl
  | cons z r ih => simp [zcells, ih]; omega
theorem zcells_get (Z : List ZV) : ∀ i z, Z[i]? = some z → (zcells Z)[i * 2]? = some (.int .i64 z.s) ∧ (zcells Z)[i * 2 + 1]? = some (.slice z.a z.n z.c) := by
  induction Z with
  | nil => intro i z h; simp at h
  | cons y r ih =>
    intro i z h
    cases i with
    | zero => simp at h; subst h; simp [zcells]
    | succ i =>
      simp at h
      have := ih i z h
      simp [zcells, show (i + 1) * 2 = i * 2 + 1 + 1 by omega]
      exact this
theorem zcells_one (Z : List ZV) : ∀ v ∈ zcells Z, v.oneCell' = true := by
  induction Z with
  | nil => simp [zcells]
  | cons z r ih =>
    intro v hv
    simp [zcells] at hv
    rcases hv with rfl | rfl | hv
    · rfl
    · rfl
    · exact ih v hv

theorem frozen_row {w : World} {g j : Nat} {cs : Array Value} {t : TypeId} (h : w.heap[g]? = some (.cells cs t (0, 0))) : w.frozen? ⟨g, j, none⟩ = false := by
  simp [World.frozen?, h]

/-- An owned row of zones. -/
theorem Mine.of_own {w : World} {base g n c : Nat} {Z : List ZV} (h : w.ownsRow base 37 2 (.slice (some ⟨g, 0, none⟩) n c) n (zcells Z)) (hl : Z.length = n) (hok : ∀ z ∈ Z, z.ok w) (hoff : ∀ z ∈ Z, z.off g) : Mine w base g n c Z := by
  obtain ⟨_, h⟩ := h
  rcases h with ⟨e, _⟩ | ⟨g', cap, cur, e, hb, hg, hn, hm, hs, hc⟩
  · cases e
  · cases e
    have hcell : ∀ i z, Z[i]? = some z → w.cell? ⟨g, i * 2, none⟩ = some (.int .i64 z.s) ∧ w.cell? ⟨g, i * 2 + 1, none⟩ = some (.slice z.a z.n z.c) := by
      intro i z hz
      have hi : i < n := by rw [← hl]; exact (List.getElem?_eq_some_iff.1 hz).1
      obtain ⟨z0, z1⟩ := zcells_get Z i z hz
      rw [← hc, List.getElem?_take, if_pos (by omega)] at z0 z1
      rw [cell_of_row w g _ _ _ _ hg, cell_of_row w g _ _ _ _ hg]
      exact ⟨by simpa using z0, by simpa using z1⟩
    have hlt := (Array.getElem?_eq_some_iff.1 hg).1
    exact ⟨⟨hl, hn, by simp [maxLen] at hm; omega, fun e => (by cases e), .inr ⟨g, 0, rfl, hlt, fun i z hz => by simpa using hcell i z hz⟩, hok⟩, hb, hlt, hcell, fun j _ => frozen_row hg, hoff⟩

theorem zcells_src {w : World} {b off : Nat} {Z : List ZV} (hr : ∀ i z, Z[i]? = some z → w.cell? ⟨b, off + i * 2, none⟩ = some (.int .i64 z.s) ∧ w.cell? ⟨b, off + i * 2 + 1, none⟩ = some (.slice z.a z.n z.c)) :
    ∀ j u, (zcells Z)[j]? = some u → w.cell? ((⟨b, off, none⟩ : Addr).add j) = some u := by
  intro j u hu
  have hj : j < Z.length * 2 := by rw [← zcells_len]; exact (List.getElem?_eq_some_iff.1 hu).1
  obtain ⟨z, hz⟩ : ∃ z, Z[j / 2]? = some z := ⟨Z[j / 2]'(by omega), by simp⟩
  obtain ⟨g0, g1⟩ := zcells_get Z (j / 2) z hz
  obtain ⟨r0, r1⟩ := hr (j / 2) z hz
  rw [addr_add]
  rcases Nat.mod_two_eq_zero_or_one j with h | h
  · rw [show j / 2 * 2 = j by omega] at g0 r0
    rw [g0] at hu
    cases hu
    exact r0
  · rw [show j / 2 * 2 + 1 = j by omega] at g1
    rw [show off + j / 2 * 2 + 1 = off + j by omega] at r1
    rw [g1] at hu
    cases hu
    exact r1

theorem ZV.off_new {w : World} {z : ZV} (h : z.ok w) {g : Nat} (hg : w.heap.size ≤ g) : z.off g := by
  rcases h.row with h0 | ⟨b, off, ha, hlt, _⟩
  · exact .inl h0
  · refine .inr fun x e => ?_
    rw [ha] at e
    cases e
    simp
    omega

end Go.Proofs.Ytaambknbbhjdnaa
