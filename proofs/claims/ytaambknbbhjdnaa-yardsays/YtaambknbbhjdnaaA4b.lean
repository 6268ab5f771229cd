/- The contract of zone.wake; no condition but that the pointer leads to a zone. -/
import Derived.Test.YtaambknbbhjdnaaA4
namespace Go.Proofs.Ytaambknbbhjdnaa
open Go.RowKit
set_option linter.unusedVariables false
set_option maxRecDepth 100000
set_option linter.unusedSimpArgs false

/-- The state of a zone of state s behind a write that makes it n blocks long. -/
def writeS (s : Int) (n : Nat) : Int := if n = 8 then 4 else if s = 2 then 2 else 1

theorem writeS_1 {s : Int} {n : Nat} (h : ((n : Int) == 8) = true) : writeS s n = 4 := by simp at h; simp [writeS]; omega
theorem writeS_2 {s : Int} {n : Nat} (h : ((n : Int) == 8) = false) (hs : (s != 2) = true) : writeS s n = 1 := by simp at h hs; simp [writeS, hs]; omega
theorem writeS_3 {s : Int} {n : Nat} (h : ((n : Int) == 8) = false) (hs : (s != 2) = false) : writeS s n = s := by simp at h hs; simp [writeS, hs]; omega

theorem wake_c (g : Nat) (s : Int) (a : Option Addr) (n c : Nat) (w : World) (h0 : w.cell? ⟨g, 0, none⟩ = some (.int .i64 s)) (h1 : w.cell? ⟨g, 1, none⟩ = some (.slice a n c)) (f0 : w.frozen? ⟨g, 0, none⟩ = false) (hn : n ≤ 9223372036854775807) :
    Calls Try.prog 48 #[.pointer (some ⟨g, 0, none⟩)] w fun e w' => (∃ v, e = .returned v) ∧ Put w w' ⟨g, 0, none⟩ (.int .i64 (writeS s n)) := by
  have hp := Put.refl h0
  go_enter Try.func48, Try.ntmps48
  go_wp2
  · go_end0
    exact ⟨⟨_, rfl⟩, by rw [writeS_1 ‹_›]; exact (hp.set _).set _⟩
  · go_end0
    exact ⟨⟨_, rfl⟩, by rw [writeS_2 ‹_› ‹_›]; exact hp.set _⟩
  · go_end0
    exact ⟨⟨_, rfl⟩, by rw [writeS_1 ‹_›]; exact hp.set _⟩
  · go_end0
    exact ⟨⟨_, rfl⟩, by rw [writeS_3 ‹_› ‹_›]; exact hp⟩

end Go.Proofs.Ytaambknbbhjdnaa
