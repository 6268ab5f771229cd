/- Zones in memory of the call's own: they are read, and one of them is set; no condition but what the predicate says. -/
import Derived.Test.YtenmamcaldabdaaGreatDoorHallSaysG2
import Derived.Test.YtenmamcaldabdaaGreatDoorHallSaysG3
import Derived.Test.YtenmamcaldabdaaGreatDoorHallSaysG5
namespace Go.Proofs.YtenmamcaldabdaaGreatDoor
open Go.RowKit
set_option linter.unusedVariables false
set_option maxRecDepth 100000
set_option linter.unusedSimpArgs false

/-- The zone's blocks don't lie in block g. -/
def ZV.off (g : Nat) (z : ZV) : Prop := z.n = 0 ∨ ∀ x, z.a = some x → x.block ≠ g

/-- Zones in block g, which is the call's own. -/
structure Mine (w : World) (base g n c : Nat) (Z : List ZV) : Prop where
  zs : Zones w (some ⟨g, 0, none⟩) n c Z
  base : base ≤ g
  lt : g < w.heap.size
  cells : ∀ i z, Z[i]? = some z → w.cell? ⟨g, i * 2, none⟩ = some (.int .i64 z.s) ∧ w.cell? ⟨g, i * 2 + 1, none⟩ = some (.slice z.a z.n z.c)
  soft : ∀ j, j < n * 2 → w.frozen? ⟨g, j, none⟩ = false
  off : ∀ z ∈ Z, z.off g

theorem Ints.setCell' {w : World} {a : Option Addr} {n c : Nat} {l : List Int} (h : Ints w a n c l) (p : Addr) (v : Value) (hne : n = 0 ∨ ∀ x, a = some x → x.block ≠ p.block) : Ints (w.setCell p v) a n c l := by
  rcases hne with h0 | hne
  · exact ⟨h.len, h.le, h.max, h.nil, .inl h0, h.wf⟩
  · exact h.setCell p v hne

theorem Mine.below {w w' : World} {base g n c : Nat} {Z : List ZV} (h : Mine w base g n c Z) (hb : Below w.heap.size w w') : Mine w' base g n c Z := by
  refine ⟨h.zs.below hb (Nat.le_refl _), h.base, Nat.lt_of_lt_of_le h.lt hb.size, fun i z hz => ?_, fun j hj => ?_, h.off⟩
  · rw [hb.cell (p := ⟨g, i * 2, none⟩) h.lt, hb.cell (p := ⟨g, i * 2 + 1, none⟩) h.lt]
    exact h.cells i z hz
  · rw [hb.frozen (p := ⟨g, j, none⟩) h.lt]
    exact h.soft j hj

theorem Mine.set {w : World} {base g n c : Nat} {Z : List ZV} (h : Mine w base g n c Z) (i : Nat) (hi : i < n) (z : ZV) (hz : z.ok w) (ho : z.off g) :
    Mine ((w.setCell ⟨g, i * 2, none⟩ (.int .i64 z.s)).setCell ⟨g, i * 2 + 1, none⟩ (.slice z.a z.n z.c)) base g n c (Z.set i z) := by
  have hlen := h.zs.len
  obtain ⟨y, hy⟩ : ∃ y, Z[i]? = some y := ⟨Z[i]'(by omega), by simp⟩
  obtain ⟨y0, y1⟩ := h.cells i y hy
  have hc : ∀ j u, (Z.set i z)[j]? = some u → ((w.setCell ⟨g, i * 2, none⟩ (.int .i64 z.s)).setCell ⟨g, i * 2 + 1, none⟩ (.slice z.a z.n z.c)).cell? ⟨g, j * 2, none⟩ = some (.int .i64 u.s) ∧ ((w.setCell ⟨g, i * 2, none⟩ (.int .i64 z.s)).setCell ⟨g, i * 2 + 1, none⟩ (.slice z.a z.n z.c)).cell? ⟨g, j * 2 + 1, none⟩ = some (.slice u.a u.n u.c) := by
    intro j u hu
    by_cases hij : i = j
    · subst hij
      rw [List.getElem?_set_self (by omega)] at hu
      cases hu
      refine ⟨?_, ?_⟩
      · rw [World.cell?_setCell_other _ _ _ _ (by simp)]
        exact World.cell?_setCell_same _ _ _ y0
      · exact World.cell?_setCell_same _ _ _ (by rw [World.cell?_setCell_other _ _ _ _ (by simp)]; exact y1)
    · rw [List.getElem?_set_ne hij] at hu
      obtain ⟨u0, u1⟩ := h.cells j u hu
      refine ⟨?_, ?_⟩
      · rw [World.cell?_setCell_other _ _ _ _ (by (first | (simp; done) | (simp; omega))), World.cell?_setCell_other _ _ _ _ (by (first | (simp; done) | (simp; omega)))]
        exact u0
      · rw [World.cell?_setCell_other _ _ _ _ (by (first | (simp; done) | (simp; omega))), World.cell?_setCell_other _ _ _ _ (by (first | (simp; done) | (simp; omega)))]
        exact u1
  have hoff : ∀ u ∈ Z.set i z, u.off g := fun u hu => by
    rcases List.mem_or_eq_of_mem_set hu with hu | rfl
    · exact h.off u hu
    · exact ho
  have hok : ∀ u ∈ Z.set i z, u.ok ((w.setCell ⟨g, i * 2, none⟩ (.int .i64 z.s)).setCell ⟨g, i * 2 + 1, none⟩ (.slice z.a z.n z.c)) := fun u hu => by
    have hw : u.ok w := by
      rcases List.mem_or_eq_of_mem_set hu with hu | rfl
      · exact h.zs.ok u hu
      · exact hz
    exact (Ints.setCell' hw ⟨g, i * 2, none⟩ _ (hoff u hu)).setCell' ⟨g, i * 2 + 1, none⟩ _ (hoff u hu)
  refine ⟨⟨by simp [hlen], h.zs.le, h.zs.max, fun e => (by cases e), .inr ⟨g, 0, rfl, by simpa [World.setCell] using h.lt, fun j u hu => by simpa using hc j u hu⟩, hok⟩, h.base, by simpa [World.setCell] using h.lt, hc, fun j hj => ?_, hoff⟩
  rw [World.frozen?_setCell, World.frozen?_setCell]
  exact h.soft j hj

theorem Mine.mono {w : World} {base base' g n c : Nat} {Z : List ZV} (h : Mine w base g n c Z) (hb : base' ≤ base) : Mine w base' g n c Z := ⟨h.zs, Nat.le_trans hb h.base, h.lt, h.cells, h.soft, h.off⟩

/-- The cells of zones. -/
def zcells : List ZV → List Value
  | [] => []
  | z :: r => .int .i64 z.s :: .slice z.a z.n z.c :: zcells r
theorem zcells_len (Z : List ZV) : (zcells Z).length = Z.length * 2 := by
  induction Z with
  | nil => rfl
  | cons z r ih => simp [zcells, ih]; omega
theorem zcells_get (Z : List ZV) : ∀ i z, Z[i]? = some z → (zcells Z)[i * 2]? = some (.int .i64 z.s) ∧ (zcells Z)[i * 2 + 1]? = some (.slice z.a z.n z.c) := by
  induction Z with
  | nil => intro i z h; simp at h
  | cons y r ih =>
    intro i z h
    cases i with
    | zero => simp at h; subst h; simp [zcells]
    | succ i =>
      simp at h
      have := ih i z h
      simp [zcells, show (i + 1) * 2 = i * 2 + 1 + 1 by omega]
      exact this
theorem zcells_one (Z : List ZV) : ∀ v ∈ zcells Z, v.oneCell' = true := by
  induction Z with
  | nil => simp [zcells]
  | cons z r ih =>
    intro v hv
    simp [zcells] at hv
    rcases hv with rfl | rfl | hv
    · rfl
    · rfl
    · exact ih v hv

theorem frozen_row {w : World} {g j : Nat} {cs : Array Value} {t : TypeId} (h : w.heap[g]? = some (.cells cs t (0, 0))) : w.frozen? ⟨g, j, none⟩ = false := by
  simp [World.frozen?, h]

/-- An owned row of zones. -/
theorem Mine.of_own {w : World} {base g n c : Nat} {Z : List ZV} (h : w.ownsRow base 76 2 (.slice (some ⟨g, 0, none⟩) n c) n (zcells Z)) (hl : Z.length = n) (hok : ∀ z ∈ Z, z.ok w) (hoff : ∀ z ∈ Z, z.off g) : Mine w base g n c Z := by
  obtain ⟨_, h⟩ := h
  rcases h with ⟨e, _⟩ | ⟨g', cap, cur, e, hb, hg, hn, hm, hs, hc⟩
  · cases e
  · cases e
    have hcell : ∀ i z, Z[i]? = some z → w.cell? ⟨g, i * 2, none⟩ = some (.int .i64 z.s) ∧ w.cell? ⟨g, i * 2 + 1, none⟩ = some (.slice z.a z.n z.c) := by
      intro i z hz
      have hi : i < n := by rw [← hl]; exact (List.getElem?_eq_some_iff.1 hz).1
      obtain ⟨z0, z1⟩ := zcells_get Z i z hz
      rw [← hc, List.getElem?_take, if_pos (by omega)] at z0 z1
      rw [cell_of_row w g _ _ _ _ hg, cell_of_row w g _ _ _ _ hg]
      exact ⟨by simpa using z0, by simpa using z1⟩
    have hlt := (Array.getElem?_eq_some_iff.1 hg).1
    exact ⟨⟨hl, hn, by simp [maxLen] at hm; omega, fun e => (by cases e), .inr ⟨g, 0, rfl, hlt, fun i z hz => by simpa using hcell i z hz⟩, hok⟩, hb, hlt, hcell, fun j _ => frozen_row hg, hoff⟩

theorem zcells_src {w : World} {b off : Nat} {Z : List ZV} (hr : ∀ i z, Z[i]? = some z → w.cell? ⟨b, off + i * 2, none⟩ = some (.int .i64 z.s) ∧ w.cell? ⟨b, off + i * 2 + 1, none⟩ = some (.slice z.a z.n z.c)) :
    ∀ j u, (zcells Z)[j]? = some u → w.cell? ((⟨b, off, none⟩ : Addr).add j) = some u := by
  intro j u hu
  have hj : j < Z.length * 2 := by rw [← zcells_len]; exact (List.getElem?_eq_some_iff.1 hu).1
  obtain ⟨z, hz⟩ : ∃ z, Z[j / 2]? = some z := ⟨Z[j / 2]'(by omega), by simp⟩
  obtain ⟨g0, g1⟩ := zcells_get Z (j / 2) z hz
  obtain ⟨r0, r1⟩ := hr (j / 2) z hz
  rw [addr_add]
  rcases Nat.mod_two_eq_zero_or_one j with h | h
  · rw [show j / 2 * 2 = j by omega] at g0 r0
    rw [g0] at hu
    cases hu
    exact r0
  · rw [show j / 2 * 2 + 1 = j by omega] at g1
    rw [show off + j / 2 * 2 + 1 = off + j by omega] at r1
    rw [g1] at hu
    cases hu
    exact r1

theorem ZV.off_new {w : World} {z : ZV} (h : z.ok w) {g : Nat} (hg : w.heap.size ≤ g) : z.off g := by
  rcases h.row with h0 | ⟨b, off, ha, hlt, _⟩
  · exact .inl h0
  · refine .inr fun x e => ?_
    rw [ha] at e
    cases e
    simp
    omega

end Go.Proofs.YtenmamcaldabdaaGreatDoor

/- The contracts of slices.Clone at zones and of the document's own shut; no condition but that the slice reads as the zones. -/
namespace Go.Proofs.YtenmamcaldabdaaGreatDoor
open Go.RowKit
set_option linter.unusedVariables false
set_option maxRecDepth 100000
set_option linter.unusedSimpArgs false

theorem infoZone : ∃ i, Tryz.prog.info? 76 = some i ∧ i.zero = some (.agg #[.int .i64 0, .slice none 0 0]) ∧ i.size = 2 ∧ i.bytes = 32 := by
  have h : (Tryz.prog.info? 76).map (fun i => (i.zero, i.size, i.bytes)) = some (some (.agg #[.int .i64 0, .slice none 0 0]), 2, 32) := by kernel_rfl
  obtain ⟨i, hi, h⟩ := Option.map_eq_some_iff.1 h
  simp only [Prod.mk.injEq] at h
  exact ⟨i, hi, h.1, h.2.1, h.2.2⟩

set_option maxHeartbeats 2000000 in
theorem CloneZ_c (b off c : Nat) (n : Nat) (Z : List ZV) (w : World) (h : Zones w (some ⟨b, off, none⟩) n c Z) (hn : 0 < n) (hn2 : n ≤ 1000000)
    (hr : ∀ i z, Z[i]? = some z → w.cell? ⟨b, off + i * 2, none⟩ = some (.int .i64 z.s) ∧ w.cell? ⟨b, off + i * 2 + 1, none⟩ = some (.slice z.a z.n z.c)) :
    Calls Tryz.prog 120 #[.slice (some ⟨b, off, none⟩) n c] w fun e w' => (∃ g cap, e = .returned (.slice (some ⟨g, 0, none⟩) n cap) ∧ Mine w' w.heap.size g n cap Z) ∧ Below w.heap.size w w' := by
  obtain ⟨i, hi, hz, hs, hb⟩ := infoZone
  have hnil := fun (W : World) (x : Addr) => Lib.run_eql_slice_nil (P := Tryz.prog) W 22 76 (some x) n c 0 0 Tryz.underlying22
  go_enter Tryz.func120, Tryz.ntmps120
  go_wp2_with (at_builtin; refine wpList_append_own _ rfl _ _ 22 rfl w.heap.size 76 i (.agg #[.int .i64 0, .slice none 0 0]) 2 32 Tryz.underlying22 hi hz hs hb rfl (by decide) _ 0 [] rfl ?ho ⟨b, off, none⟩ n c (zcells Z) rfl ?h1 ?h2 (zcells_one Z) ?h3 ?h4 ?h5 ?h6)
  case ho => exact ⟨rfl, .inr ⟨w.heap.size, 0, #[], rfl, Nat.le_refl _, heap_new w _, Nat.le_refl _, Nat.zero_le _, rfl, by simp⟩⟩
  case h1 => rw [zcells_len, h.len]
  case h2 => exact zcells_src (fun i z hz => ⟨past1 (hr i z hz).1 _, past1 (hr i z hz).2 _⟩)
  case h3 => simp [maxLen]; omega
  case h4 => omega
  case h5 => simp
  case h6 =>
    intro v' w' ho hg hne
    have hv : ∃ g cap, v' = .slice (some ⟨g, 0, none⟩) n cap ∧ w.heap.size ≤ g := by
      rcases ho.2 with ⟨e, _⟩ | ⟨g, cap, cur, e, hb, _⟩
      · exact absurd e hne
      · exact ⟨g, cap, e, hb⟩
    obtain ⟨g, cap, rfl, hgb⟩ := hv
    have hb' : Below w.heap.size w w' := (belowA (Below.refl _ _) _).grown hg (by simp) (by intro k e; simp [Value.ownBlock] at e; omega)
    have hm : Mine w' w.heap.size g n cap Z := Mine.of_own ho h.len (fun z hz => (h.ok z hz).below hb' (Nat.le_refl _)) (fun z hz => ZV.off_new (h.ok z hz) hgb)
    clear ho hg hne
    go_wp2
    go_ret
    exact ⟨⟨g, cap, rfl, hm⟩, hb'⟩

/-- A zone that is shut, plain. -/
def shutP (z : Int × List Int) : Int × List Int := if z.2 = [] then (0, []) else (3, z.2)
/-- .. and as a value. -/
def ZV.shut (z : ZV) : ZV := if z.l = [] then ⟨0, none, 0, 0, []⟩ else ⟨3, z.a, z.n, z.c, z.l⟩
theorem ZV.shut_p (z : ZV) : z.shut.p = shutP z.p := by unfold ZV.shut shutP ZV.p; split <;> rfl
theorem ZV.shut_ok {w : World} {z : ZV} (h : z.ok w) : z.shut.ok w := by
  unfold ZV.shut
  split
  · exact Ints.nilSlice w
  · exact h
theorem ZV.shut_off {g : Nat} {z : ZV} (h : z.off g) : z.shut.off g := by
  unfold ZV.shut
  split
  · exact .inl rfl
  · exact h

set_option maxHeartbeats 1000000 in
theorem shutR_c (z : ZV) (w : World) (h : z.ok w) :
    Calls Tryz.prog 117 #[.agg #[.int .i64 z.s, .slice z.a z.n z.c]] w fun e w' => e = .returned (.agg #[.int .i64 z.shut.s, .slice z.shut.a z.shut.n z.shut.c]) ∧ Below w.heap.size w w' := by
  have hl := h.len
  have hm := h.max
  have hle := h.le
  by_cases h0 : z.l = []
  · have hn : ((z.n : Int) == 0) = true := by rw [h0] at hl; simp at hl; simp; omega
    have hs : z.shut = ⟨0, none, 0, 0, []⟩ := by simp [ZV.shut, h0]
    have HS := hide hs
    clear hs h0 hl
    go_enter Tryz.func117, Tryz.ntmps117
    go_wp2
    refine bodyPost_ret (v := .agg #[.int .i64 0, .slice none 0 0]) (by simp [results, Tryz.results117, go_sem]) rfl ⟨by rw [HS.out], ?_⟩
    (repeat (first | exact Below.refl _ _ | assumption | refine Below.drew ?_ | refine below_drewN ?_ _ | refine belowA ?_ _ | refine belowT ?_ (by assumption) | refine Below.setCell ?_ (by first | (simp; done) | (simp; omega)) _))
  · have hn : ((z.n : Int) == 0) = false := by
      have : z.l.length ≠ 0 := fun e => h0 (List.length_eq_zero_iff.1 e)
      simp; omega
    have hs : z.shut = ⟨3, z.a, z.n, z.c, z.l⟩ := by simp [ZV.shut, h0]
    have HS := hide hs
    clear hs h0 hl
    go_enter Tryz.func117, Tryz.ntmps117
    go_wp2
    refine bodyPost_ret (v := .agg #[.int .i64 3, .slice z.a z.n z.c]) (by simp [results, Tryz.results117, go_sem]) rfl ⟨by rw [HS.out], ?_⟩
    (repeat (first | exact Below.refl _ _ | assumption | refine Below.drew ?_ | refine below_drewN ?_ _ | refine belowA ?_ _ | refine belowT ?_ (by assumption) | refine Below.setCell ?_ (by first | (simp; done) | (simp; omega)) _))

end Go.Proofs.YtenmamcaldabdaaGreatDoor

/- The contract of the document's own roomFor; no condition but that the slice reads as four zones, and that the number is one of theirs. -/
namespace Go.Proofs.YtenmamcaldabdaaGreatDoor
open Go.RowKit
set_option linter.unusedVariables false
set_option maxRecDepth 100000
set_option linter.unusedSimpArgs false

/-- The first zone that is Open. -/
def fopen (Z : List ZV) : Option Nat := Z.findIdx? fun z => z.s == 1
/-- The zones when there is room for one of state s; none: there is none. -/
def roomZ (Z : List ZV) (s : Int) : Option (List ZV) :=
  if isO s then some Z
  else if s = 4 ∨ s = 0 ∧ 3 ≤ cnt isA Z then none
  else if cnt isO Z < 2 then some Z
  else match fopen Z with
    | none => none
    | some i => some (Z.modify i ZV.shut)

theorem fopen_some {Z : List ZV} {i : Nat} (h : fopen Z = some i) : ∃ z, Z[i]? = some z ∧ z.s = 1 ∧ ∀ (j : Nat) (y : ZV), j < i → Z[j]? = some y → y.s ≠ 1 := by
  unfold fopen at h
  rw [List.findIdx?_eq_some_iff_getElem] at h
  obtain ⟨hi, h1, h2⟩ := h
  refine ⟨Z[i], by simp [hi], by simpa using h1, fun j y hj hy => ?_⟩
  have := h2 j hj
  obtain ⟨hjl, rfl⟩ := List.getElem?_eq_some_iff.1 hy
  simpa using this
theorem fopen_none {Z : List ZV} (h : fopen Z = none) : ∀ (j : Nat) (y : ZV), Z[j]? = some y → y.s ≠ 1 := by
  unfold fopen at h
  rw [List.findIdx?_eq_none_iff] at h
  intro j y hy
  simpa using h y (List.mem_of_getElem? hy)
theorem modify_set {Z : List ZV} {i : Nat} {z : ZV} (h : Z[i]? = some z) : Z.modify i ZV.shut = Z.set i z.shut := by
  obtain ⟨hi, rfl⟩ := List.getElem?_eq_some_iff.1 h
  apply List.ext_getElem?
  intro j
  by_cases e : i = j
  · subst e; simp [List.getElem?_modify, hi]
  · simp [List.getElem?_modify, List.getElem?_set, e]

theorem roomZ_1 {Z : List ZV} {s : Int} (h : s = 1 ∨ s = 2) : roomZ Z s = some Z := by
  have : isO s = true := by rcases h with rfl | rfl <;> rfl
  simp [roomZ, this]
theorem roomZ_2 {Z : List ZV} {s : Int} (h : ¬ (s = 1 ∨ s = 2)) (h2 : s = 4 ∨ s = 0 ∧ 3 ≤ cnt isA Z) : roomZ Z s = none := by
  have : isO s = false := by simp [isO]; omega
  simp [roomZ, this, h2]
theorem roomZ_3 {Z : List ZV} {s : Int} (h : ¬ (s = 1 ∨ s = 2)) (h2 : ¬ (s = 4 ∨ s = 0 ∧ 3 ≤ cnt isA Z)) (h3 : cnt isO Z < 2) : roomZ Z s = some Z := by
  have : isO s = false := by simp [isO]; omega
  simp [roomZ, this, h2, h3]
theorem roomZ_4 {Z : List ZV} {s : Int} (h : ¬ (s = 1 ∨ s = 2)) (h2 : ¬ (s = 4 ∨ s = 0 ∧ 3 ≤ cnt isA Z)) (h3 : ¬ cnt isO Z < 2) (hf : fopen Z = none) : roomZ Z s = none := by
  have : isO s = false := by simp [isO]; omega
  simp [roomZ, this, h2, h3, hf]
theorem roomZ_5 {Z : List ZV} {s : Int} (h : ¬ (s = 1 ∨ s = 2)) (h2 : ¬ (s = 4 ∨ s = 0 ∧ 3 ≤ cnt isA Z)) (h3 : ¬ cnt isO Z < 2) {i : Nat} {z : ZV} (hf : fopen Z = some i) (hz : Z[i]? = some z) : roomZ Z s = some (Z.set i z.shut) := by
  have : isO s = false := by simp [isO]; omega
  simp [roomZ, this, h2, h3, hf, modify_set hz]

set_option maxHeartbeats 4000000 in
theorem roomFor_c (b off c : Nat) (Z : List ZV) (k : Nat) (y : ZV) (w : World) (h : Zones w (some ⟨b, off, none⟩) 4 c Z) (hk : k < 4) (hy : Z[k]? = some y)
    (hr : ∀ i z, Z[i]? = some z → w.cell? ⟨b, off + i * 2, none⟩ = some (.int .i64 z.s) ∧ w.cell? ⟨b, off + i * 2 + 1, none⟩ = some (.slice z.a z.n z.c)) :
    Calls Tryz.prog 119 #[.slice (some ⟨b, off, none⟩) 4 c, .int .i64 k] w fun e w' =>
      ((roomZ Z y.s = none ∧ e = .returned (.tuple #[.slice none 0 0, .int .i64 7])) ∨ (∃ Z' g cap, roomZ Z y.s = some Z' ∧ e = .returned (.tuple #[.slice (some ⟨g, 0, none⟩) 4 cap, .int .i64 0]) ∧ Mine w' w.heap.size g 4 cap Z')) ∧ Below w.heap.size w w' := by
  have hlen := hide h.len
  have hk' : (k : Int) < 4 := by omega
  have q1 := cnt_le isO Z
  have q2 := cnt_le isA Z
  rw [h.len] at q1 q2
  have HY := hide hy
  go_enter Tryz.func119, Tryz.ntmps119
  go_wp2_with fail
  refine (CloneZ_c b off c 4 Z _ h (by omega) (by omega) hr).mono ?_
  rintro e w1 ⟨⟨g, cap, rfl, hm⟩, hb1⟩
  go_wp2_with fail
  refine (opened_c _ 4 cap Z _ hm.zs (by omega)).mono ?_
  rintro e w2 ⟨rfl, hb2⟩
  have hm2 := hm.below hb2
  have bw2 := belowT hb1 hb2
  obtain ⟨c0, c1⟩ := hm2.cells k y hy
  clear hb1 hb2 hm hy
  go_wp2
  · go_ret2
    exact ⟨.inr ⟨Z, g, cap, roomZ_1 (.inl ‹_›), rfl, hm2⟩, bw2⟩
  · have hs : y.s = 1 ∨ y.s = 2 := by simpa using ‹(y.s == 1) = true ∨ (y.s == 2) = true›
    go_ret2
    exact ⟨.inr ⟨Z, g, cap, roomZ_1 hs, rfl, hm2⟩, bw2⟩
  · rename_i h1 h2 _ h3
    go_ret2
    exact ⟨.inl ⟨roomZ_2 (by simp at h1 h2; omega) (by simp at h3; omega), rfl⟩, bw2⟩
  · rename_i h1 h2 _ h3 h4
    go_ret2
    exact ⟨.inl ⟨roomZ_2 (by omega) (by omega), rfl⟩, bw2⟩
  · rename_i h1 h2 h3 h4 h5 h6
    go_ret2
    exact ⟨.inr ⟨Z, g, cap, roomZ_3 (by omega) (by omega) (by omega), rfl, hm2⟩, bw2⟩
  · have hno : ¬ (y.s = 1 ∨ y.s = 2) := by have := ‹(y.s == 1) = false ∧ (y.s == 2) = false›; simp at this; omega
    have hno4 : ¬ y.s = 4 := by simpa using ‹(y.s == 4) = false›
    have hno2 : ¬ (y.s = 4 ∨ y.s = 0 ∧ 3 ≤ cnt isA Z) := by have := ‹(cnt isA Z : Int) < 3›; omega
    have hno3 : ¬ cnt isO Z < 2 := by have := ‹(2 : Int) ≤ (cnt isO Z : Int)›; omega
    cases hf : fopen Z with
    | none =>
      have HN := hide (fopen_none hf)
      have HR := hide (roomZ_4 hno hno2 hno3 hf)
      clear hf hno2 hno3 hno hno4
      go_loopw [46] (fun i wr => ∃ j : Nat, j ≤ 4 ∧ i = .int .i64 j ∧ Below w2.heap.size w2 wr) (fun i _ => 4 - (intOf i).toNat)
      case atStart => exact ⟨0, by omega, rfl, Below.refl _ _⟩
      case round =>
        obtain ⟨j, hj, rfl, hbr⟩ := hrel
        by_cases hlt : j < 4
        · obtain ⟨z, hz⟩ : ∃ z, Z[j]? = some z := ⟨Z[j]'(by rw [hlen.out]; exact hlt), by simp⟩
          obtain ⟨e0, e1⟩ := (hm2.below hbr).cells j z hz
          have hne : (z.s == 1) = false := by simpa using HN.out j z hz
          have hlt' : (j : Int) < 4 := by omega
          clear hz
          go_wp2
          exact ⟨⟨j + 1, by omega, by go_num, by (repeat (first | exact Below.refl _ _ | assumption | refine Below.drew ?_ | refine below_drewN ?_ _ | refine belowA ?_ _ | refine belowT ?_ (by assumption) | refine Below.setCell ?_ (by first | (simp; done) | (simp; omega)) _))⟩, by simp [intOf]; omega⟩
        · obtain rfl : j = 4 := by omega
          go_wp2
          go_ret2
          exact ⟨.inl ⟨HR.out, rfl⟩, by (repeat (first | exact Below.refl _ _ | assumption | refine Below.drew ?_ | refine below_drewN ?_ _ | refine belowA ?_ _ | refine belowT ?_ (by assumption) | refine Below.setCell ?_ (by first | (simp; done) | (simp; omega)) _))⟩
    | some i =>
      obtain ⟨z, hz, hz1, hbef⟩ := fopen_some hf
      have hi4 : i < 4 := by rw [← hlen.out]; exact (List.getElem?_eq_some_iff.1 hz).1
      have HN := hide hbef
      have HR := hide (roomZ_5 hno hno2 hno3 hf hz)
      have HZ := hide hz
      have hzb : (z.s == 1) = true := by simpa using hz1
      have hzok := hm2.zs.ok z (List.mem_of_getElem? hz)
      have hzoff := hm2.off z (List.mem_of_getElem? hz)
      clear hf hno2 hno3 hno hno4 hz hz1 hbef
      go_loopw [46] (fun x wr => ∃ j : Nat, j ≤ i ∧ x = .int .i64 j ∧ Below w2.heap.size w2 wr) (fun x _ => 4 - (intOf x).toNat)
      case atStart => exact ⟨0, by omega, rfl, Below.refl _ _⟩
      case round =>
        obtain ⟨j, hj, rfl, hbr⟩ := hrel
        rename_i wr
        have hlt' : (j : Int) < 4 := by omega
        by_cases hlt : j < i
        · obtain ⟨u, hu⟩ : ∃ z, Z[j]? = some z := ⟨Z[j]'(by rw [hlen.out]; omega), by simp⟩
          obtain ⟨e0, e1⟩ := (hm2.below hbr).cells j u hu
          have hne : (u.s == 1) = false := by simpa using HN.out j u hlt hu
          clear hu
          go_wp2
          exact ⟨⟨j + 1, by omega, by go_num, by (repeat (first | exact Below.refl _ _ | assumption | refine Below.drew ?_ | refine below_drewN ?_ _ | refine belowA ?_ _ | refine belowT ?_ (by assumption) | refine Below.setCell ?_ (by first | (simp; done) | (simp; omega)) _))⟩, by simp [intOf]; omega⟩
        · obtain rfl : j = i := by omega
          have hm3 := hm2.below hbr
          obtain ⟨e0, e1⟩ := hm3.cells j z HZ.out
          have hok3 : z.ok wr := hzok.below hbr (Nat.le_refl _)
          have hs0 := hm3.soft (j * 2) (by omega)
          have hs1 := hm3.soft (j * 2 + 1) (by omega)
          go_wp2_with fail
          refine (shutR_c z _ (Ints.below hok3 (B := wr.heap.size) (by (repeat (first | exact Below.refl _ _ | assumption | refine Below.drew ?_ | refine below_drewN ?_ _ | refine belowA ?_ _ | refine belowT ?_ (by assumption) | refine Below.setCell ?_ (by first | (simp; done) | (simp; omega)) _))) (Nat.le_refl _))).mono ?_
          rintro e w4 ⟨rfl, hb4⟩
          have hb5 : Below wr.heap.size wr w4 := by (repeat (first | exact Below.refl _ _ | assumption | refine Below.drew ?_ | refine below_drewN ?_ _ | refine belowA ?_ _ | refine belowT ?_ (by assumption) | refine Below.setCell ?_ (by first | (simp; done) | (simp; omega)) _))
          have hm4 := hm3.below hb5
          have g0 := keepc hb5 e0
          have g1 := keepc hb5 e1
          have t0 := keepf hb5 e0 hs0
          have t1 := keepf hb5 e1 hs1
          have hset := hm4.set j (by omega) z.shut (ZV.shut_ok (Ints.below hok3 hb5 (Nat.le_refl _))) (ZV.shut_off hzoff)
          have bw5 : Below w.heap.size w w4 := belowT (belowT bw2 hbr) hb5
          have hgb := hm4.base
          go_wp2
          go_ret2
          exact ⟨.inr ⟨_, g, cap, HR.out, rfl, hset⟩, by (repeat (first | exact Below.refl _ _ | assumption | refine Below.drew ?_ | refine below_drewN ?_ _ | refine belowA ?_ _ | refine belowT ?_ (by assumption) | refine Below.setCell ?_ (by first | (simp; done) | (simp; omega)) _))⟩
  · rename_i h1 h2 h3 h4 h5
    go_ret2
    exact ⟨.inr ⟨Z, g, cap, roomZ_3 (by simp at h2; omega) (by simp at h3; omega) (by omega), rfl, hm2⟩, bw2⟩
  · have hno : ¬ (y.s = 1 ∨ y.s = 2) := by have := ‹(y.s == 1) = false ∧ (y.s == 2) = false›; simp at this; omega
    have hno4 : ¬ y.s = 4 := by simpa using ‹(y.s == 4) = false›
    have hno2 : ¬ (y.s = 4 ∨ y.s = 0 ∧ 3 ≤ cnt isA Z) := by have := ‹¬ y.s = 0›; omega
    have hno3 : ¬ cnt isO Z < 2 := by have := ‹(2 : Int) ≤ (cnt isO Z : Int)›; omega
    cases hf : fopen Z with
    | none =>
      have HN := hide (fopen_none hf)
      have HR := hide (roomZ_4 hno hno2 hno3 hf)
      clear hf hno2 hno3 hno hno4
      go_loopw [46] (fun i wr => ∃ j : Nat, j ≤ 4 ∧ i = .int .i64 j ∧ Below w2.heap.size w2 wr) (fun i _ => 4 - (intOf i).toNat)
      case atStart => exact ⟨0, by omega, rfl, Below.refl _ _⟩
      case round =>
        obtain ⟨j, hj, rfl, hbr⟩ := hrel
        by_cases hlt : j < 4
        · obtain ⟨z, hz⟩ : ∃ z, Z[j]? = some z := ⟨Z[j]'(by rw [hlen.out]; exact hlt), by simp⟩
          obtain ⟨e0, e1⟩ := (hm2.below hbr).cells j z hz
          have hne : (z.s == 1) = false := by simpa using HN.out j z hz
          have hlt' : (j : Int) < 4 := by omega
          clear hz
          go_wp2
          exact ⟨⟨j + 1, by omega, by go_num, by (repeat (first | exact Below.refl _ _ | assumption | refine Below.drew ?_ | refine below_drewN ?_ _ | refine belowA ?_ _ | refine belowT ?_ (by assumption) | refine Below.setCell ?_ (by first | (simp; done) | (simp; omega)) _))⟩, by simp [intOf]; omega⟩
        · obtain rfl : j = 4 := by omega
          go_wp2
          go_ret2
          exact ⟨.inl ⟨HR.out, rfl⟩, by (repeat (first | exact Below.refl _ _ | assumption | refine Below.drew ?_ | refine below_drewN ?_ _ | refine belowA ?_ _ | refine belowT ?_ (by assumption) | refine Below.setCell ?_ (by first | (simp; done) | (simp; omega)) _))⟩
    | some i =>
      obtain ⟨z, hz, hz1, hbef⟩ := fopen_some hf
      have hi4 : i < 4 := by rw [← hlen.out]; exact (List.getElem?_eq_some_iff.1 hz).1
      have HN := hide hbef
      have HR := hide (roomZ_5 hno hno2 hno3 hf hz)
      have HZ := hide hz
      have hzb : (z.s == 1) = true := by simpa using hz1
      have hzok := hm2.zs.ok z (List.mem_of_getElem? hz)
      have hzoff := hm2.off z (List.mem_of_getElem? hz)
      clear hf hno2 hno3 hno hno4 hz hz1 hbef
      go_loopw [46] (fun x wr => ∃ j : Nat, j ≤ i ∧ x = .int .i64 j ∧ Below w2.heap.size w2 wr) (fun x _ => 4 - (intOf x).toNat)
      case atStart => exact ⟨0, by omega, rfl, Below.refl _ _⟩
      case round =>
        obtain ⟨j, hj, rfl, hbr⟩ := hrel
        rename_i wr
        have hlt' : (j : Int) < 4 := by omega
        by_cases hlt : j < i
        · obtain ⟨u, hu⟩ : ∃ z, Z[j]? = some z := ⟨Z[j]'(by rw [hlen.out]; omega), by simp⟩
          obtain ⟨e0, e1⟩ := (hm2.below hbr).cells j u hu
          have hne : (u.s == 1) = false := by simpa using HN.out j u hlt hu
          clear hu
          go_wp2
          exact ⟨⟨j + 1, by omega, by go_num, by (repeat (first | exact Below.refl _ _ | assumption | refine Below.drew ?_ | refine below_drewN ?_ _ | refine belowA ?_ _ | refine belowT ?_ (by assumption) | refine Below.setCell ?_ (by first | (simp; done) | (simp; omega)) _))⟩, by simp [intOf]; omega⟩
        · obtain rfl : j = i := by omega
          have hm3 := hm2.below hbr
          obtain ⟨e0, e1⟩ := hm3.cells j z HZ.out
          have hok3 : z.ok wr := hzok.below hbr (Nat.le_refl _)
          have hs0 := hm3.soft (j * 2) (by omega)
          have hs1 := hm3.soft (j * 2 + 1) (by omega)
          go_wp2_with fail
          refine (shutR_c z _ (Ints.below hok3 (B := wr.heap.size) (by (repeat (first | exact Below.refl _ _ | assumption | refine Below.drew ?_ | refine below_drewN ?_ _ | refine belowA ?_ _ | refine belowT ?_ (by assumption) | refine Below.setCell ?_ (by first | (simp; done) | (simp; omega)) _))) (Nat.le_refl _))).mono ?_
          rintro e w4 ⟨rfl, hb4⟩
          have hb5 : Below wr.heap.size wr w4 := by (repeat (first | exact Below.refl _ _ | assumption | refine Below.drew ?_ | refine below_drewN ?_ _ | refine belowA ?_ _ | refine belowT ?_ (by assumption) | refine Below.setCell ?_ (by first | (simp; done) | (simp; omega)) _))
          have hm4 := hm3.below hb5
          have g0 := keepc hb5 e0
          have g1 := keepc hb5 e1
          have t0 := keepf hb5 e0 hs0
          have t1 := keepf hb5 e1 hs1
          have hset := hm4.set j (by omega) z.shut (ZV.shut_ok (Ints.below hok3 hb5 (Nat.le_refl _))) (ZV.shut_off hzoff)
          have bw5 : Below w.heap.size w w4 := belowT (belowT bw2 hbr) hb5
          have hgb := hm4.base
          go_wp2
          go_ret2
          exact ⟨.inr ⟨_, g, cap, HR.out, rfl, hset⟩, by (repeat (first | exact Below.refl _ _ | assumption | refine Below.drew ?_ | refine below_drewN ?_ _ | refine belowA ?_ _ | refine belowT ?_ (by assumption) | refine Below.setCell ?_ (by first | (simp; done) | (simp; omega)) _))⟩

end Go.Proofs.YtenmamcaldabdaaGreatDoor
