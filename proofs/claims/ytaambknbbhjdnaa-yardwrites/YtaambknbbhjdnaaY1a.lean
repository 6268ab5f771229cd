/- Zones of the call's own of which a cell changes, and what stays as it was; plain mathematics, no condition. -/
import Derived.Test.YtaambknbbhjdnaaD1
import Derived.Test.YtaambknbbhjdnaaLY
namespace Go.Proofs.Ytaambknbbhjdnaa
open Go.RowKit
set_option linter.unusedVariables false
set_option maxRecDepth 100000
set_option linter.unusedSimpArgs false

/-- A zone of another state. -/
def ZV.to (s : Int) (z : ZV) : ZV := ⟨s, z.a, z.n, z.c, z.l⟩

/-- The zones' blocks all lie from B on. -/
def NewL (B : Nat) (Z : List ZV) : Prop := ∀ z ∈ Z, ∀ x, z.a = some x → B ≤ x.block
theorem NewL.set {B : Nat} {Z : List ZV} (h : NewL B Z) (i : Nat) {u : ZV} (hu : ∀ x, u.a = some x → B ≤ x.block) : NewL B (Z.set i u) := fun z hz => by
  rcases List.mem_or_eq_of_mem_set hz with hz | rfl
  · exact h z hz
  · exact hu
theorem NewL.at {B : Nat} {Z : List ZV} (h : NewL B Z) {i : Nat} {z : ZV} (hz : Z[i]? = some z) : ∀ x, z.a = some x → B ≤ x.block := h z (List.mem_of_getElem? hz)
theorem NewL.to {B : Nat} {Z : List ZV} (h : NewL B Z) {i : Nat} {z : ZV} (hz : Z[i]? = some z) (s : Int) : NewL B (Z.set i (z.to s)) := h.set i (u := z.to s) (fun x e => h.at hz x e)
theorem NewL.mono {B B' : Nat} {Z : List ZV} (h : NewL B Z) (hb : B' ≤ B) : NewL B' Z := fun z hz x e => Nat.le_trans hb (h z hz x e)
theorem NewL.nil (B : Nat) : NewL B [] := fun z hz => by cases hz

theorem Mine.put {w w' : World} {base g n c : Nat} {Z : List ZV} (h : Mine w base g n c Z) {i : Nat} {z : ZV} (hz : Z[i]? = some z) {s : Int} (hp : Put w w' ⟨g, i * 2, none⟩ (.int .i64 s)) :
    Mine w' base g n c (Z.set i (z.to s)) := by
  have hlen := h.zs.len
  have hi : i < Z.length := (List.getElem?_eq_some_iff.1 hz).1
  obtain ⟨y0, y1⟩ := h.cells i z hz
  have hc : ∀ j u, (Z.set i (z.to s))[j]? = some u → w'.cell? ⟨g, j * 2, none⟩ = some (.int .i64 u.s) ∧ w'.cell? ⟨g, j * 2 + 1, none⟩ = some (.slice u.a u.n u.c) := by
    intro j u hu
    by_cases hij : i = j
    · subst hij
      rw [List.getElem?_set_self hi] at hu
      cases hu
      exact ⟨hp.here, by rw [hp.other _ (by simp)]; exact y1⟩
    · rw [List.getElem?_set_ne hij] at hu
      obtain ⟨u0, u1⟩ := h.cells j u hu
      refine ⟨?_, ?_⟩
      · rw [hp.other _ (by (first | (simp; done) | (simp; omega)))]; exact u0
      · rw [hp.other _ (by (first | (simp; done) | (simp; omega)))]; exact u1
  have hoff : ∀ u ∈ Z.set i (z.to s), u.off g := fun u hu => by
    rcases List.mem_or_eq_of_mem_set hu with hu | rfl
    · exact h.off u hu
    · exact h.off z (List.mem_of_getElem? hz)
  have hok : ∀ u ∈ Z.set i (z.to s), u.ok w' := fun u hu => by
    have hw : u.ok w := by
      rcases List.mem_or_eq_of_mem_set hu with hu | rfl
      · exact h.zs.ok u hu
      · exact h.zs.ok z (List.mem_of_getElem? hz)
    exact Ints.but hw (But.of_put hp) (hoff u hu)
  refine ⟨⟨by simp [hlen], h.zs.le, h.zs.max, fun e => (by cases e), .inr ⟨g, 0, rfl, by rw [hp.size]; exact h.lt, fun j u hu => by simpa using hc j u hu⟩, hok⟩, h.base, by rw [hp.size]; exact h.lt, hc, fun j hj => ?_, hoff⟩
  rw [hp.ice]
  exact h.soft j hj

/-- One zone is set, in whatever way; what else lies in the block stays. -/
theorem Mine.upd {w w' : World} {base g n c : Nat} {Z : List ZV} (h : Mine w base g n c Z) (i : Nat) (hi : i < n) (z : ZV) (hz : z.ok w') (ho : z.off g) (hb : But g w w')
    (c0 : w'.cell? ⟨g, i * 2, none⟩ = some (.int .i64 z.s)) (c1 : w'.cell? ⟨g, i * 2 + 1, none⟩ = some (.slice z.a z.n z.c))
    (hc : ∀ j, j ≠ i * 2 → j ≠ i * 2 + 1 → w'.cell? ⟨g, j, none⟩ = w.cell? ⟨g, j, none⟩) (hf : ∀ j, w'.frozen? ⟨g, j, none⟩ = w.frozen? ⟨g, j, none⟩) : Mine w' base g n c (Z.set i z) := by
  have hlen := h.zs.len
  have hcell : ∀ j u, (Z.set i z)[j]? = some u → w'.cell? ⟨g, j * 2, none⟩ = some (.int .i64 u.s) ∧ w'.cell? ⟨g, j * 2 + 1, none⟩ = some (.slice u.a u.n u.c) := by
    intro j u hu
    by_cases hij : i = j
    · subst hij
      rw [List.getElem?_set_self (by omega)] at hu
      cases hu
      exact ⟨c0, c1⟩
    · rw [List.getElem?_set_ne hij] at hu
      obtain ⟨u0, u1⟩ := h.cells j u hu
      rw [hc _ (by omega) (by omega), hc _ (by omega) (by omega)]
      exact ⟨u0, u1⟩
  have hoff : ∀ u ∈ Z.set i z, u.off g := fun u hu => by
    rcases List.mem_or_eq_of_mem_set hu with hu | rfl
    · exact h.off u hu
    · exact ho
  have hok : ∀ u ∈ Z.set i z, u.ok w' := fun u hu => by
    rcases List.mem_or_eq_of_mem_set hu with hu | rfl
    · exact Ints.but (h.zs.ok u hu) hb (h.off u hu)
    · exact hz
  have hlt : g < w'.heap.size := Nat.lt_of_lt_of_le h.lt hb.size
  refine ⟨⟨by simp [hlen], h.zs.le, h.zs.max, fun e => (by cases e), .inr ⟨g, 0, rfl, hlt, fun j u hu => by simpa using hcell j u hu⟩, hok⟩, h.base, hlt, hcell, fun j hj => ?_, hoff⟩
  rw [hf]
  exact h.soft j hj

theorem Mine.but {w : World} {base g n c : Nat} {Z : List ZV} (h : Mine w base g n c Z) {w' : World} (hb : Below w.heap.size w w') : But g w w' := But.of_below hb (Nat.le_of_lt h.lt)

theorem set_to_p (Z : List ZV) (i : Nat) (z : ZV) (s : Int) : (Z.set i (z.to s)).map ZV.p = (Z.map ZV.p).set i (s, z.l) := by rw [set_p]; rfl

/-- What shutting makes of a zone's state. -/
def shutS (l : List Int) : Int := if l = [] then 0 else 3
theorem shutS_p (z : ZV) : (shutS z.l, z.l) = shutP z.p := by
  unfold shutS shutP ZV.p
  split
  · rename_i h; simp [h]
  · rfl

end Go.Proofs.Ytaambknbbhjdnaa
