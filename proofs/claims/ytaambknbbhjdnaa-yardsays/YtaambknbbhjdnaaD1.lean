/- What the yard's calls answer, plain; and the document's own OnZones gives just that; no condition but that the slices read as zones and data. -/
import Derived.Test.YtaambknbbhjdnaaC8
namespace Go.Proofs.Ytaambknbbhjdnaa
open Go.RowKit
set_option linter.unusedVariables false
set_option maxRecDepth 100000
set_option linter.unusedSimpArgs false

/-- A zone as plain data: state, blocks. -/
abbrev PZ := Int × List Int

def fopenP (P : List PZ) : Option Nat := P.findIdx? fun z => z.1 == 1
def roomP (P : List PZ) (s : Int) : Option (List PZ) :=
  if isO s then some P
  else if s = 4 ∨ s = 0 ∧ 3 ≤ cntP isA P then none
  else if cntP isO P < 2 then some P
  else match fopenP P with
    | none => none
    | some i => some (P.modify i shutP)
/-- What is wrong first: the zones, or the number. -/
def pre (P : List PZ) (k : Int) : Int := if checkZs P ≠ 0 then checkZs P else if inB k 0 3 then 0 else 5
def at' (P : List PZ) (k : Int) : PZ := P.getD k.toNat (0, [])
def holdP (P : List PZ) (k : Int) : List PZ × Int :=
  if pre P k ≠ 0 then ([], pre P k) else match roomP P (at' P k).1 with
    | none => ([], 7)
    | some Q => (Q.set k.toNat (2, (at' P k).2), 0)
def closeP (P : List PZ) (k : Int) : List PZ × Int :=
  if pre P k ≠ 0 then ([], pre P k) else if isO (at' P k).1 then (P.set k.toNat (shutP (at' P k)), 0) else ([], 6)
def finishP (P : List PZ) (k : Int) : List PZ × Int :=
  if pre P k ≠ 0 then ([], pre P k) else (P.set k.toNat (4, (at' P k).2), 0)
def resetP (P : List PZ) (k : Int) : List PZ × Int :=
  if pre P k ≠ 0 then ([], pre P k) else (P.set k.toNat (0, []), 0)
def writeP (P : List PZ) (k : Int) (data : List Int) : List PZ × Int × Int :=
  if pre P k ≠ 0 then ([], 0, pre P k)
  else if writeE (at' P k).1 (at' P k).2 data ≠ 0 then ([], 0, writeE (at' P k).1 (at' P k).2 data)
  else match roomP P (at' P k).1 with
    | none => ([], 0, 7)
    | some Q => (Q.set k.toNat (wS (at' P k).1 (at' P k).2 data, wL (at' P k).1 (at' P k).2 data), ((at' P k).2.length : Int), 0)

theorem fopen_p (Z : List ZV) : fopen Z = fopenP (Z.map ZV.p) := by
  unfold fopen fopenP
  rw [List.findIdx?_map]
  rfl
theorem modify_p (Z : List ZV) (i : Nat) : (Z.modify i ZV.shut).map ZV.p = (Z.map ZV.p).modify i shutP := by
  apply List.ext_getElem?
  intro j
  simp only [List.getElem?_map, List.getElem?_modify]
  cases Z[j]? with
  | none => simp
  | some z =>
    by_cases e : i = j
    · simp [e, ZV.shut_p]
    · simp [e]
theorem room_p (Z : List ZV) (s : Int) : (roomZ Z s).map (List.map ZV.p) = roomP (Z.map ZV.p) s := by
  unfold roomZ roomP
  rw [← cnt_map, ← cnt_map, ← fopen_p]
  split
  · rfl
  · split
    · rfl
    · split
      · rfl
      · cases fopen Z with
        | none => rfl
        | some i => simp [modify_p]
theorem room_none {Z : List ZV} {s : Int} (h : roomZ Z s = none) : roomP (Z.map ZV.p) s = none := by rw [← room_p, h]; rfl
theorem room_some {Z Z' : List ZV} {s : Int} (h : roomZ Z s = some Z') : roomP (Z.map ZV.p) s = some (Z'.map ZV.p) := by rw [← room_p, h]; rfl

/-- What is known of zones and a number with which nothing is wrong. -/
theorem pre_ok {w : World} {a : Option Addr} {n c : Nat} {Z : List ZV} (h : Zones w a n c Z) {k : Int} (hp : pre (Z.map ZV.p) k = 0) :
    checkZs (Z.map ZV.p) = 0 ∧ ∃ (j b off : Nat) (z : ZV), k = j ∧ j < 4 ∧ n = 4 ∧ a = some ⟨b, off, none⟩ ∧ Z[j]? = some z ∧ at' (Z.map ZV.p) k = z.p ∧
      ∀ i z, Z[i]? = some z → w.cell? ⟨b, off + i * 2, none⟩ = some (.int .i64 z.s) ∧ w.cell? ⟨b, off + i * 2 + 1, none⟩ = some (.slice z.a z.n z.c) := by
  unfold pre at hp
  by_cases hc : checkZs (Z.map ZV.p) = 0
  · simp [hc] at hp
    obtain ⟨h4, b, off, ha, hr⟩ := zs_four h hc
    have hk : 0 ≤ k ∧ k ≤ 3 := by simp [inB] at hp; omega
    obtain ⟨j, rfl⟩ := Int.eq_ofNat_of_zero_le hk.1
    have hj : j < Z.length := by rw [h.len]; omega
    refine ⟨hc, j, b, off, Z[j], rfl, by omega, h4, ha, by simp, ?_, hr⟩
    simp [at', List.getD, hj]
  · simp [hc] at hp

theorem set_p (Z : List ZV) (j : Nat) (u : ZV) : (Z.set j u).map ZV.p = (Z.map ZV.p).set j u.p := by rw [List.map_set]

/-- Zones of the call's own, or nothing. -/
theorem zs_nil (w : World) : Zones w none 0 0 [] := ⟨rfl, Nat.le_refl _, by omega, fun _ => rfl, .inl rfl, by simp⟩

theorem OnZ_pre (kd : Int) (a : Option Addr) (n c : Nat) (Z : List ZV) (k : Int) (b : Option Addr) (m d : Nat) (w : World) (h : Zones w a n c Z) (hp : pre (Z.map ZV.p) k ≠ 0) :
    Calls Try.prog 12 #[.slice a n c, .int .i64 kd, .int .i64 k, .slice b m d] w fun e w' => e = .returned (.tuple #[.slice none 0 0, .int .i64 0, .int .i64 (pre (Z.map ZV.p) k)]) ∧ Below w.heap.size w w' := by
  by_cases hc : checkZs (Z.map ZV.p) = 0
  · have hk : inB k 0 3 = false := by
      cases hk : inB k 0 3
      · rfl
      · exact absurd (by simp [pre, hc, hk]) hp
    rw [show pre (Z.map ZV.p) k = 5 by simp [pre, hc, hk]]
    exact OnZ_who kd a n c Z k b m d w h hc hk
  · rw [show pre (Z.map ZV.p) k = checkZs (Z.map ZV.p) by simp [pre, hc]]
    exact OnZ_bad kd a n c Z k b m d w h hc

/-- Of a block that was there, and in which none of the zones' blocks lie, neither the new list nor its zones' blocks are. -/
def Avoid (w : World) (Z : List ZV) (a' : Option Addr) (Z' : List ZV) : Prop := ∀ R, R < w.heap.size → (∀ z ∈ Z, z.off R) → (∀ x, a' = some x → x.block ≠ R) ∧ ∀ z ∈ Z', z.off R
theorem Avoid.none (w : World) (Z : List ZV) : Avoid w Z none [] := fun R _ _ => ⟨fun x e => (by cases e), fun z hz => by cases hz⟩
theorem Avoid.mk {w : World} {Z Z' : List ZV} {g : Nat} (hg : w.heap.size ≤ g) (h : ∀ R, R < w.heap.size → (∀ z ∈ Z, z.off R) → ∀ z ∈ Z', z.off R) : Avoid w Z (some ⟨g, 0, Option.none⟩) Z' :=
  fun R hR ho => ⟨fun x e => by cases e; simp; omega, h R hR ho⟩
theorem off_set {Z : List ZV} {R : Nat} (h : ∀ z ∈ Z, z.off R) (j : Nat) {u : ZV} (hu : u.off R) : ∀ z ∈ Z.set j u, z.off R := fun z hz => by
  rcases List.mem_or_eq_of_mem_set hz with hz | rfl
  · exact h z hz
  · exact hu
theorem off_room {Z Z' : List ZV} {s : Int} (hr : roomZ Z s = some Z') {R : Nat} (h : ∀ z ∈ Z, z.off R) : ∀ z ∈ Z', z.off R := by
  unfold roomZ at hr
  split at hr
  · cases hr; exact h
  · split at hr
    · cases hr
    · split at hr
      · cases hr; exact h
      · cases hf : fopen Z with
        | none => rw [hf] at hr; cases hr
        | some i =>
          rw [hf] at hr
          cases hr
          obtain ⟨z, hz, _, _⟩ := fopen_some hf
          rw [modify_set hz]
          exact off_set h i (ZV.shut_off (h z (List.mem_of_getElem? hz)))

theorem OnZ_hold_f (a : Option Addr) (n c : Nat) (Z : List ZV) (k : Int) (bd : Option Addr) (m d : Nat) (w : World) (h : Zones w a n c Z) :
    Calls Try.prog 12 #[.slice a n c, .int .i64 1, .int .i64 k, .slice bd m d] w fun e w' => (∃ a' n' c' Z', e = .returned (.tuple #[.slice a' n' c', .int .i64 0, .int .i64 (holdP (Z.map ZV.p) k).2]) ∧ Zones w' a' n' c' Z' ∧ Avoid w Z a' Z' ∧ Z'.map ZV.p = (holdP (Z.map ZV.p) k).1) ∧ Below w.heap.size w w' := by
  by_cases hp : pre (Z.map ZV.p) k = 0
  · obtain ⟨hc, j, b, off, z, rfl, hj, rfl, rfl, hz, hat, hr⟩ := pre_ok h hp
    refine (OnZ_open b off c Z j z bd m d w h hc hj hz hr).mono ?_
    rintro e w' ⟨⟨hrz, rfl⟩ | ⟨Z', g, cap, hrz, rfl, hm⟩, hb⟩
    · rw [show holdP (Z.map ZV.p) j = ([], 7) by simp [holdP, hp, hat, room_none hrz, ZV.p]]
      exact ⟨⟨none, 0, 0, [], rfl, zs_nil _, Avoid.none _ _, rfl⟩, hb⟩
    · rw [show holdP (Z.map ZV.p) j = ((Z'.map ZV.p).set j (2, z.l), 0) by simp [holdP, hp, hat, room_some hrz, ZV.p]]
      exact ⟨⟨_, 4, cap, _, rfl, hm.zs, Avoid.mk hm.base fun R _ ho => off_set (off_room hrz ho) j (u := ⟨2, z.a, z.n, z.c, z.l⟩) (ho z (List.mem_of_getElem? hz)), set_p _ _ _⟩, hb⟩
  · refine (OnZ_pre 1 a n c Z k bd m d w h hp).mono ?_
    rintro e w' ⟨rfl, hb⟩
    rw [show holdP (Z.map ZV.p) k = ([], pre (Z.map ZV.p) k) by simp [holdP, hp]]
    exact ⟨⟨none, 0, 0, [], rfl, zs_nil _, Avoid.none _ _, rfl⟩, hb⟩

theorem OnZ_close_f (a : Option Addr) (n c : Nat) (Z : List ZV) (k : Int) (bd : Option Addr) (m d : Nat) (w : World) (h : Zones w a n c Z) :
    Calls Try.prog 12 #[.slice a n c, .int .i64 2, .int .i64 k, .slice bd m d] w fun e w' => (∃ a' n' c' Z', e = .returned (.tuple #[.slice a' n' c', .int .i64 0, .int .i64 (closeP (Z.map ZV.p) k).2]) ∧ Zones w' a' n' c' Z' ∧ Avoid w Z a' Z' ∧ Z'.map ZV.p = (closeP (Z.map ZV.p) k).1) ∧ Below w.heap.size w w' := by
  by_cases hp : pre (Z.map ZV.p) k = 0
  · obtain ⟨hc, j, b, off, z, rfl, hj, rfl, rfl, hz, hat, hr⟩ := pre_ok h hp
    cases hs : isO z.s
    · refine (OnZ_close_no b off c Z j z bd m d w h hc hj hz hs hr).mono ?_
      rintro e w' ⟨rfl, hb⟩
      rw [show closeP (Z.map ZV.p) j = ([], 6) by simp [closeP, hp, hat, hs, ZV.p]]
      exact ⟨⟨none, 0, 0, [], rfl, zs_nil _, Avoid.none _ _, rfl⟩, hb⟩
    · refine (OnZ_close b off c Z j z bd m d w h hc hj hz hs hr).mono ?_
      rintro e w' ⟨⟨g, cap, rfl, hm⟩, hb⟩
      rw [show closeP (Z.map ZV.p) j = ((Z.map ZV.p).set j (shutP z.p), 0) by simp [closeP, hp, hat, show isO z.p.1 = true from hs]]
      exact ⟨⟨_, 4, cap, _, rfl, hm.zs, Avoid.mk hm.base fun R _ ho => off_set ho j (ZV.shut_off (ho z (List.mem_of_getElem? hz))), by rw [set_p, ZV.shut_p]⟩, hb⟩
  · refine (OnZ_pre 2 a n c Z k bd m d w h hp).mono ?_
    rintro e w' ⟨rfl, hb⟩
    rw [show closeP (Z.map ZV.p) k = ([], pre (Z.map ZV.p) k) by simp [closeP, hp]]
    exact ⟨⟨none, 0, 0, [], rfl, zs_nil _, Avoid.none _ _, rfl⟩, hb⟩

theorem OnZ_finish_f (a : Option Addr) (n c : Nat) (Z : List ZV) (k : Int) (bd : Option Addr) (m d : Nat) (w : World) (h : Zones w a n c Z) :
    Calls Try.prog 12 #[.slice a n c, .int .i64 3, .int .i64 k, .slice bd m d] w fun e w' => (∃ a' n' c' Z', e = .returned (.tuple #[.slice a' n' c', .int .i64 0, .int .i64 (finishP (Z.map ZV.p) k).2]) ∧ Zones w' a' n' c' Z' ∧ Avoid w Z a' Z' ∧ Z'.map ZV.p = (finishP (Z.map ZV.p) k).1) ∧ Below w.heap.size w w' := by
  by_cases hp : pre (Z.map ZV.p) k = 0
  · obtain ⟨hc, j, b, off, z, rfl, hj, rfl, rfl, hz, hat, hr⟩ := pre_ok h hp
    refine (OnZ_finish b off c Z j z bd m d w h hc hj hz hr).mono ?_
    rintro e w' ⟨⟨g, cap, rfl, hm⟩, hb⟩
    rw [show finishP (Z.map ZV.p) j = ((Z.map ZV.p).set j (4, z.l), 0) by simp [finishP, hp, hat, ZV.p]]
    exact ⟨⟨_, 4, cap, _, rfl, hm.zs, Avoid.mk hm.base fun R _ ho => off_set ho j (u := ⟨4, z.a, z.n, z.c, z.l⟩) (ho z (List.mem_of_getElem? hz)), set_p _ _ _⟩, hb⟩
  · refine (OnZ_pre 3 a n c Z k bd m d w h hp).mono ?_
    rintro e w' ⟨rfl, hb⟩
    rw [show finishP (Z.map ZV.p) k = ([], pre (Z.map ZV.p) k) by simp [finishP, hp]]
    exact ⟨⟨none, 0, 0, [], rfl, zs_nil _, Avoid.none _ _, rfl⟩, hb⟩

theorem OnZ_reset_f (a : Option Addr) (n c : Nat) (Z : List ZV) (k : Int) (bd : Option Addr) (m d : Nat) (w : World) (h : Zones w a n c Z) :
    Calls Try.prog 12 #[.slice a n c, .int .i64 4, .int .i64 k, .slice bd m d] w fun e w' => (∃ a' n' c' Z', e = .returned (.tuple #[.slice a' n' c', .int .i64 0, .int .i64 (resetP (Z.map ZV.p) k).2]) ∧ Zones w' a' n' c' Z' ∧ Avoid w Z a' Z' ∧ Z'.map ZV.p = (resetP (Z.map ZV.p) k).1) ∧ Below w.heap.size w w' := by
  by_cases hp : pre (Z.map ZV.p) k = 0
  · obtain ⟨hc, j, b, off, z, rfl, hj, rfl, rfl, hz, hat, hr⟩ := pre_ok h hp
    refine (OnZ_reset b off c Z j z bd m d w h hc hj hz hr).mono ?_
    rintro e w' ⟨⟨g, cap, rfl, hm⟩, hb⟩
    rw [show resetP (Z.map ZV.p) j = ((Z.map ZV.p).set j (0, []), 0) by simp [resetP, hp]]
    exact ⟨⟨_, 4, cap, _, rfl, hm.zs, Avoid.mk hm.base fun R _ ho => off_set ho j (u := ⟨0, none, 0, 0, []⟩) (.inl rfl), set_p _ _ _⟩, hb⟩
  · refine (OnZ_pre 4 a n c Z k bd m d w h hp).mono ?_
    rintro e w' ⟨rfl, hb⟩
    rw [show resetP (Z.map ZV.p) k = ([], pre (Z.map ZV.p) k) by simp [resetP, hp]]
    exact ⟨⟨none, 0, 0, [], rfl, zs_nil _, Avoid.none _ _, rfl⟩, hb⟩

theorem OnZ_append_f (a : Option Addr) (n c : Nat) (Z : List ZV) (k : Int) (bd : Option Addr) (m d : Nat) (data : List Int) (w : World) (h : Zones w a n c Z) (hd : Ints w bd m d data) :
    Calls Try.prog 12 #[.slice a n c, .int .i64 5, .int .i64 k, .slice bd m d] w fun e w' => (∃ a' n' c' Z', e = .returned (.tuple #[.slice a' n' c', .int .i64 (writeP (Z.map ZV.p) k data).2.1, .int .i64 (writeP (Z.map ZV.p) k data).2.2]) ∧ Zones w' a' n' c' Z' ∧ Avoid w Z a' Z' ∧ Z'.map ZV.p = (writeP (Z.map ZV.p) k data).1) ∧ Below w.heap.size w w' := by
  by_cases hp : pre (Z.map ZV.p) k = 0
  · obtain ⟨hc, j, b, off, z, rfl, hj, rfl, rfl, hz, hat, hr⟩ := pre_ok h hp
    refine (OnZ_append b off c Z j z bd m d data w h hd hc hj hz hr).mono ?_
    rintro e w' ⟨⟨hw, rfl⟩ | ⟨hw, hrz, rfl⟩ | ⟨hw, Z', g, cap, u, hrz, rfl, hu, hm, huf⟩, hb⟩
    · rw [show writeP (Z.map ZV.p) j data = ([], 0, writeE z.s z.l data) by simp [writeP, hp, hat, hw, ZV.p]]
      exact ⟨⟨none, 0, 0, [], rfl, zs_nil _, Avoid.none _ _, rfl⟩, hb⟩
    · rw [show writeP (Z.map ZV.p) j data = ([], 0, 7) by simp [writeP, hp, hat, hw, room_none hrz, ZV.p]]
      exact ⟨⟨none, 0, 0, [], rfl, zs_nil _, Avoid.none _ _, rfl⟩, hb⟩
    · rw [show writeP (Z.map ZV.p) j data = ((Z'.map ZV.p).set j (wS z.s z.l data, wL z.s z.l data), (z.l.length : Int), 0) by simp [writeP, hp, hat, hw, room_some hrz, ZV.p]]
      exact ⟨⟨_, 4, cap, _, rfl, hm.zs, Avoid.mk hm.base fun R hR ho => off_set (off_room hrz ho) j (u := u) (.inr fun x e => by have := huf x e; omega), by rw [set_p, hu]⟩, hb⟩
  · refine (OnZ_pre 5 a n c Z k bd m d w h hp).mono ?_
    rintro e w' ⟨rfl, hb⟩
    rw [show writeP (Z.map ZV.p) k data = ([], 0, pre (Z.map ZV.p) k) by simp [writeP, hp]]
    exact ⟨⟨none, 0, 0, [], rfl, zs_nil _, Avoid.none _ _, rfl⟩, hb⟩

theorem OnZ_hold_u (a : Option Addr) (n c : Nat) (Z : List ZV) (k : Int) (bd : Option Addr) (m d : Nat) (w : World) (h : Zones w a n c Z) :
    Calls Try.prog 12 #[.slice a n c, .int .i64 1, .int .i64 k, .slice bd m d] w fun e w' => (∃ a' n' c' Z', e = .returned (.tuple #[.slice a' n' c', .int .i64 0, .int .i64 (holdP (Z.map ZV.p) k).2]) ∧ Zones w' a' n' c' Z' ∧ Z'.map ZV.p = (holdP (Z.map ZV.p) k).1) ∧ Below w.heap.size w w' :=
  (OnZ_hold_f a n c Z k bd m d w h).mono fun e w' ⟨⟨a', n', c', Z', he, hz, _, hp⟩, hb⟩ => ⟨⟨a', n', c', Z', he, hz, hp⟩, hb⟩

theorem OnZ_close_u (a : Option Addr) (n c : Nat) (Z : List ZV) (k : Int) (bd : Option Addr) (m d : Nat) (w : World) (h : Zones w a n c Z) :
    Calls Try.prog 12 #[.slice a n c, .int .i64 2, .int .i64 k, .slice bd m d] w fun e w' => (∃ a' n' c' Z', e = .returned (.tuple #[.slice a' n' c', .int .i64 0, .int .i64 (closeP (Z.map ZV.p) k).2]) ∧ Zones w' a' n' c' Z' ∧ Z'.map ZV.p = (closeP (Z.map ZV.p) k).1) ∧ Below w.heap.size w w' :=
  (OnZ_close_f a n c Z k bd m d w h).mono fun e w' ⟨⟨a', n', c', Z', he, hz, _, hp⟩, hb⟩ => ⟨⟨a', n', c', Z', he, hz, hp⟩, hb⟩

theorem OnZ_finish_u (a : Option Addr) (n c : Nat) (Z : List ZV) (k : Int) (bd : Option Addr) (m d : Nat) (w : World) (h : Zones w a n c Z) :
    Calls Try.prog 12 #[.slice a n c, .int .i64 3, .int .i64 k, .slice bd m d] w fun e w' => (∃ a' n' c' Z', e = .returned (.tuple #[.slice a' n' c', .int .i64 0, .int .i64 (finishP (Z.map ZV.p) k).2]) ∧ Zones w' a' n' c' Z' ∧ Z'.map ZV.p = (finishP (Z.map ZV.p) k).1) ∧ Below w.heap.size w w' :=
  (OnZ_finish_f a n c Z k bd m d w h).mono fun e w' ⟨⟨a', n', c', Z', he, hz, _, hp⟩, hb⟩ => ⟨⟨a', n', c', Z', he, hz, hp⟩, hb⟩

theorem OnZ_reset_u (a : Option Addr) (n c : Nat) (Z : List ZV) (k : Int) (bd : Option Addr) (m d : Nat) (w : World) (h : Zones w a n c Z) :
    Calls Try.prog 12 #[.slice a n c, .int .i64 4, .int .i64 k, .slice bd m d] w fun e w' => (∃ a' n' c' Z', e = .returned (.tuple #[.slice a' n' c', .int .i64 0, .int .i64 (resetP (Z.map ZV.p) k).2]) ∧ Zones w' a' n' c' Z' ∧ Z'.map ZV.p = (resetP (Z.map ZV.p) k).1) ∧ Below w.heap.size w w' :=
  (OnZ_reset_f a n c Z k bd m d w h).mono fun e w' ⟨⟨a', n', c', Z', he, hz, _, hp⟩, hb⟩ => ⟨⟨a', n', c', Z', he, hz, hp⟩, hb⟩

theorem OnZ_append_u (a : Option Addr) (n c : Nat) (Z : List ZV) (k : Int) (bd : Option Addr) (m d : Nat) (data : List Int) (w : World) (h : Zones w a n c Z) (hd : Ints w bd m d data) :
    Calls Try.prog 12 #[.slice a n c, .int .i64 5, .int .i64 k, .slice bd m d] w fun e w' => (∃ a' n' c' Z', e = .returned (.tuple #[.slice a' n' c', .int .i64 (writeP (Z.map ZV.p) k data).2.1, .int .i64 (writeP (Z.map ZV.p) k data).2.2]) ∧ Zones w' a' n' c' Z' ∧ Z'.map ZV.p = (writeP (Z.map ZV.p) k data).1) ∧ Below w.heap.size w w' :=
  (OnZ_append_f a n c Z k bd m d data w h hd).mono fun e w' ⟨⟨a', n', c', Z', he, hz, _, hp⟩, hb⟩ => ⟨⟨a', n', c', Z', he, hz, hp⟩, hb⟩

end Go.Proofs.Ytaambknbbhjdnaa
