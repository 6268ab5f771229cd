/- What the yard's calls answer, plain; and the document's own OnZones gives just that; no condition but that the slices read as zones and data. -/
import Derived.Test.YtmjcoehllinoeacDoorC8
namespace Go.Proofs.YtmjcoehllinoeacDoor
open Go.RowKit
set_option linter.unusedVariables false
set_option maxRecDepth 100000
set_option linter.unusedSimpArgs false

/-- A zone as plain data: state, blocks. -/
abbrev PZ := Int × List Int

def fopenP (P : List PZ) : Option Nat := P.findIdx? fun z => z.1 == 1
def roomP (P : List PZ) (s : Int) : Option (List PZ) :=
  if isO s then some P
  else if s = 4 ∨ s = 0 ∧ 3 ≤ cntP isA P then none
  else if cntP isO P < 2 then some P
  else match fopenP P with
    | none => none
    | some i => some (P.modify i shutP)
/-- What is wrong first: the zones, or the number. -/
def pre (P : List PZ) (k : Int) : Int := if checkZs P ≠ 0 then checkZs P else if inB k 0 3 then 0 else 5
def at' (P : List PZ) (k : Int) : PZ := P.getD k.toNat (0, [])
def holdP (P : List PZ) (k : Int) : List PZ × Int :=
  if pre P k ≠ 0 then ([], pre P k) else match roomP P (at' P k).1 with
    | none => ([], 7)
    | some Q => (Q.set k.toNat (2, (at' P k).2), 0)
def closeP (P : List PZ) (k : Int) : List PZ × Int :=
  if pre P k ≠ 0 then ([], pre P k) else if isO (at' P k).1 then (P.set k.toNat (shutP (at' P k)), 0) else ([], 6)
def finishP (P : List PZ) (k : Int) : List PZ × Int :=
  if pre P k ≠ 0 then ([], pre P k) else (P.set k.toNat (4, (at' P k).2), 0)
def resetP (P : List PZ) (k : Int) : List PZ × Int :=
  if pre P k ≠ 0 then ([], pre P k) else (P.set k.toNat (0, []), 0)
def writeP (P : List PZ) (k : Int) (data : List Int) : List PZ × Int × Int :=
  if pre P k ≠ 0 then ([], 0, pre P k)
  else if writeE (at' P k).1 (at' P k).2 data ≠ 0 then ([], 0, writeE (at' P k).1 (at' P k).2 data)
  else match roomP P (at' P k).1 with
    | none => ([], 0, 7)
    | some Q => (Q.set k.toNat (wS (at' P k).1 (at' P k).2 data, wL (at' P k).1 (at' P k).2 data), ((at' P k).2.length : Int), 0)

theorem fopen_p (Z : List ZV) : fopen Z = fopenP (Z.map ZV.p) := by
  unfold fopen fopenP
  rw [List.findIdx?_map]
  rfl
theorem modify_p (Z : List ZV) (i : Nat) : (Z.modify i ZV.shut).map ZV.p = (Z.map ZV.p).modify i shutP := by
  apply List.ext_getElem?
  intro j
  simp only [List.getElem?_map, List.getElem?_modify]
  cases Z[j]? with
  | none => simp
  | some z =>
    by_cases e : i = j
    · simp [e, ZV.shut_p]
    · simp [e]
theorem room_p (Z : List ZV) (s : Int) : (roomZ Z s).map (List.map ZV.p) = roomP (Z.map ZV.p) s := by
  unfold roomZ roomP
  rw [← cnt_map, ← cnt_map, ← fopen_p]
  split
  · rfl
  · split
    · rfl
    · split
      · rfl
      · cases fopen Z with
        | none => rfl
        | some i => simp [modify_p]
theorem room_none {Z : List ZV} {s : Int} (h : roomZ Z s = none) : roomP (Z.map ZV.p) s = none := by rw [← room_p, h]; rfl
theorem room_some {Z Z' : List ZV} {s : Int} (h : roomZ Z s = some Z') : roomP (Z.map ZV.p) s = some (Z'.map ZV.p) := by rw [← room_p, h]; rfl

/-- What is known of zones and a number with which nothing is wrong. -/
theorem pre_ok {w : World} {a : Option Addr} {n c : Nat} {Z : List ZV} (h : Zones w a n c Z) {k : Int} (hp : pre (Z.map ZV.p) k = 0) :
    checkZs (Z.map ZV.p) = 0 ∧ ∃ (j b off : Nat) (z : ZV), k = j ∧ j < 4 ∧ n = 4 ∧ a = some ⟨b, off, none⟩ ∧ Z[j]? = some z ∧ at' (Z.map ZV.p) k = z.p ∧
      ∀ i z, Z[i]? = some z → w.cell? ⟨b, off + i * 2, none⟩ = some (.int .i64 z.s) ∧ w.cell? ⟨b, off + i * 2 + 1, none⟩ = some (.slice z.a z.n z.c) := by
  unfold pre at hp
  by_cases hc : checkZs (Z.map ZV.p) = 0
  · simp [hc] at hp
    obtain ⟨h4, b, off, ha, hr⟩ := zs_four h hc
    have hk : 0 ≤ k ∧ k ≤ 3 := by simp [inB] at hp; omega
    obtain ⟨j, rfl⟩ := Int.eq_ofNat_of_zero_le hk.1
    have hj : j < Z.length := by rw [h.len]; omega
    refine ⟨hc, j, b, off, Z[j], rfl, by omega, h4, ha, by simp, ?_, hr⟩
    simp [at', List.getD, hj]
  · simp [hc] at hp

theorem set_p (Z : List ZV) (j : Nat) (u : ZV) : (Z.set j u).map ZV.p = (Z.map ZV.p).set j u.p := by rw [List.map_set]

/-- Zones of the call's own, or nothing. -/
theorem zs_nil (w : World) : Zones w none 0 0 [] := ⟨rfl, Nat.le_refl _, by omega, fun _ => rfl, .inl rfl, by simp⟩

/-- Of a block that was there, and in which none of the zones' blocks lie, neither the new list nor its zones' blocks are. -/
def Avoid (w : World) (Z : List ZV) (a' : Option Addr) (Z' : List ZV) : Prop := ∀ R, R < w.heap.size → (∀ z ∈ Z, z.off R) → (∀ x, a' = some x → x.block ≠ R) ∧ ∀ z ∈ Z', z.off R
theorem Avoid.none (w : World) (Z : List ZV) : Avoid w Z none [] := fun R _ _ => ⟨fun x e => (by cases e), fun z hz => by cases hz⟩
theorem Avoid.mk {w : World} {Z Z' : List ZV} {g : Nat} (hg : w.heap.size ≤ g) (h : ∀ R, R < w.heap.size → (∀ z ∈ Z, z.off R) → ∀ z ∈ Z', z.off R) : Avoid w Z (some ⟨g, 0, Option.none⟩) Z' :=
  fun R hR ho => ⟨fun x e => by cases e; simp; omega, h R hR ho⟩
theorem off_set {Z : List ZV} {R : Nat} (h : ∀ z ∈ Z, z.off R) (j : Nat) {u : ZV} (hu : u.off R) : ∀ z ∈ Z.set j u, z.off R := fun z hz => by
  rcases List.mem_or_eq_of_mem_set hz with hz | rfl
  · exact h z hz
  · exact hu
theorem off_room {Z Z' : List ZV} {s : Int} (hr : roomZ Z s = some Z') {R : Nat} (h : ∀ z ∈ Z, z.off R) : ∀ z ∈ Z', z.off R := by
  unfold roomZ at hr
  split at hr
  · cases hr; exact h
  · split at hr
    · cases hr
    · split at hr
      · cases hr; exact h
      · cases hf : fopen Z with
        | none => rw [hf] at hr; cases hr
        | some i =>
          rw [hf] at hr
          cases hr
          obtain ⟨z, hz, _, _⟩ := fopen_some hf
          rw [modify_set hz]
          exact off_set h i (ZV.shut_off (h z (List.mem_of_getElem? hz)))

end Go.Proofs.YtmjcoehllinoeacDoor
