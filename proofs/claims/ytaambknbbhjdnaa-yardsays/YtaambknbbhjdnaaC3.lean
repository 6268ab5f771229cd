/- The contracts of slices.Clone at zones and of the document's own shut; no condition but that the slice reads as the zones. -/
import Derived.Test.YtaambknbbhjdnaaC1
import Derived.Test.YtaambknbbhjdnaaC2
namespace Go.Proofs.Ytaambknbbhjdnaa
open Go.RowKit
set_option linter.unusedVariables false
set_option maxRecDepth 100000
set_option linter.unusedSimpArgs false

theorem infoZone : ∃ i, Try.prog.info? 37 = some i ∧ i.zero = some (.agg #[.int .i64 0, .slice none 0 0]) ∧ i.size = 2 ∧ i.bytes = 32 := by
  have h : (Try.prog.info? 37).map (fun i => (i.zero, i.size, i.bytes)) = some (some (.agg #[.int .i64 0, .slice none 0 0]), 2, 32) := by kernel_rfl
  obtain ⟨i, hi, h⟩ := Option.map_eq_some_iff.1 h
  simp only [Prod.mk.injEq] at h
  exact ⟨i, hi, h.1, h.2.1, h.2.2⟩

set_option maxHeartbeats 2000000 in
theorem CloneZ_c (b off c : Nat) (n : Nat) (Z : List ZV) (w : World) (h : Zones w (some ⟨b, off, none⟩) n c Z) (hn : 0 < n) (hn2 : n ≤ 1000000)
    (hr : ∀ i z, Z[i]? = some z → w.cell? ⟨b, off + i * 2, none⟩ = some (.int .i64 z.s) ∧ w.cell? ⟨b, off + i * 2 + 1, none⟩ = some (.slice z.a z.n z.c)) :
    Calls Try.prog 33 #[.slice (some ⟨b, off, none⟩) n c] w fun e w' => (∃ g cap, e = .returned (.slice (some ⟨g, 0, none⟩) n cap) ∧ Mine w' w.heap.size g n cap Z) ∧ Below w.heap.size w w' := by
  obtain ⟨i, hi, hz, hs, hb⟩ := infoZone
  have hnil := fun (W : World) (x : Addr) => Lib.run_eql_slice_nil (P := Try.prog) W 22 37 (some x) n c 0 0 Try.underlying22
  go_enter Try.func33, Try.ntmps33
  go_wp2_with (at_builtin; refine wpList_append_own _ rfl _ _ 22 rfl w.heap.size 37 i (.agg #[.int .i64 0, .slice none 0 0]) 2 32 Try.underlying22 hi hz hs hb rfl (by decide) _ 0 [] rfl ?ho ⟨b, off, none⟩ n c (zcells Z) rfl ?h1 ?h2 (zcells_one Z) ?h3 ?h4 ?h5 ?h6)
  case ho => exact ⟨rfl, .inr ⟨w.heap.size, 0, #[], rfl, Nat.le_refl _, heap_new w _, Nat.le_refl _, Nat.zero_le _, rfl, by simp⟩⟩
  case h1 => rw [zcells_len, h.len]
  case h2 => exact zcells_src (fun i z hz => ⟨past1 (hr i z hz).1 _, past1 (hr i z hz).2 _⟩)
  case h3 => simp [maxLen]; omega
  case h4 => omega
  case h5 => simp
  case h6 =>
    intro v' w' ho hg hne
    have hv : ∃ g cap, v' = .slice (some ⟨g, 0, none⟩) n cap ∧ w.heap.size ≤ g := by
      rcases ho.2 with ⟨e, _⟩ | ⟨g, cap, cur, e, hb, _⟩
      · exact absurd e hne
      · exact ⟨g, cap, e, hb⟩
    obtain ⟨g, cap, rfl, hgb⟩ := hv
    have hb' : Below w.heap.size w w' := (belowA (Below.refl _ _) _).grown hg (by simp) (by intro k e; simp [Value.ownBlock] at e; omega)
    have hm : Mine w' w.heap.size g n cap Z := Mine.of_own ho h.len (fun z hz => (h.ok z hz).below hb' (Nat.le_refl _)) (fun z hz => ZV.off_new (h.ok z hz) hgb)
    clear ho hg hne
    go_wp2
    go_ret
    exact ⟨⟨g, cap, rfl, hm⟩, hb'⟩

/-- A zone that is shut, plain. -/
def shutP (z : Int × List Int) : Int × List Int := if z.2 = [] then (0, []) else (3, z.2)
/-- .. and as a value. -/
def ZV.shut (z : ZV) : ZV := if z.l = [] then ⟨0, none, 0, 0, []⟩ else ⟨3, z.a, z.n, z.c, z.l⟩
theorem ZV.shut_p (z : ZV) : z.shut.p = shutP z.p := by unfold ZV.shut shutP ZV.p; split <;> rfl
theorem ZV.shut_ok {w : World} {z : ZV} (h : z.ok w) : z.shut.ok w := by
  unfold ZV.shut
  split
  · exact Ints.nilSlice w
  · exact h
theorem ZV.shut_off {g : Nat} {z : ZV} (h : z.off g) : z.shut.off g := by
  unfold ZV.shut
  split
  · exact .inl rfl
  · exact h

set_option maxHeartbeats 1000000 in
theorem shutR_c (z : ZV) (w : World) (h : z.ok w) :
    Calls Try.prog 30 #[.agg #[.int .i64 z.s, .slice z.a z.n z.c]] w fun e w' => e = .returned (.agg #[.int .i64 z.shut.s, .slice z.shut.a z.shut.n z.shut.c]) ∧ Below w.heap.size w w' := by
  have hl := h.len
  have hm := h.max
  have hle := h.le
  by_cases h0 : z.l = []
  · have hn : ((z.n : Int) == 0) = true := by rw [h0] at hl; simp at hl; simp; omega
    have hs : z.shut = ⟨0, none, 0, 0, []⟩ := by simp [ZV.shut, h0]
    have HS := hide hs
    clear hs h0 hl
    go_enter Try.func30, Try.ntmps30
    go_wp2
    refine bodyPost_ret (v := .agg #[.int .i64 0, .slice none 0 0]) (by simp [results, Try.results30, go_sem]) rfl ⟨by rw [HS.out], ?_⟩
    (repeat first | exact bel0 | assumption | refine bel1 ?_ | refine bel2 ?_ | refine bel3 ?_ | refine belowT ?_ (by assumption) | refine bel5 ?_ (by simp; try omega))
  · have hn : ((z.n : Int) == 0) = false := by
      have : z.l.length ≠ 0 := fun e => h0 (List.length_eq_zero_iff.1 e)
      simp; omega
    have hs : z.shut = ⟨3, z.a, z.n, z.c, z.l⟩ := by simp [ZV.shut, h0]
    have HS := hide hs
    clear hs h0 hl
    go_enter Try.func30, Try.ntmps30
    go_wp2
    refine bodyPost_ret (v := .agg #[.int .i64 3, .slice z.a z.n z.c]) (by simp [results, Try.results30, go_sem]) rfl ⟨by rw [HS.out], ?_⟩
    (repeat first | exact bel0 | assumption | refine bel1 ?_ | refine bel2 ?_ | refine bel3 ?_ | refine belowT ?_ (by assumption) | refine bel5 ?_ (by simp; try omega))

end Go.Proofs.Ytaambknbbhjdnaa
