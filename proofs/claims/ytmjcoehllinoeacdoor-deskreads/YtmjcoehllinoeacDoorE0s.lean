/- What the table of kinds holds in a world, and that it stays so; plain mathematics, no condition. -/
import Derived.Test.YtmjcoehllinoeacDoorLC0
namespace Go.Proofs.YtmjcoehllinoeacDoor
open Go.RowKit
set_option linter.unusedVariables false
set_option maxRecDepth 100000
set_option linter.unusedSimpArgs false

/-- The kinds' words. -/
def word (k : Nat) : ByteArray := match k with
  | 1 => ⟨#[111, 112, 101, 110]⟩
  | 2 => ⟨#[99, 108, 111, 115, 101]⟩
  | 3 => ⟨#[102, 105, 110, 105, 115, 104]⟩
  | 4 => ⟨#[114, 101, 115, 101, 116]⟩
  | 5 => ⟨#[97, 112, 112, 101, 110, 100]⟩
  | 6 => ⟨#[119, 114, 105, 116, 101]⟩
  | 7 => ⟨#[114, 101, 97, 100]⟩
  | 8 => ⟨#[114, 101, 103, 105, 115, 116, 101, 114]⟩
  | 9 => ⟨#[114, 101, 115, 101, 114, 118, 101]⟩
  | 10 => ⟨#[114, 101, 108, 101, 97, 115, 101]⟩
  | 11 => ⟨#[112, 114, 101, 101, 109, 112, 116]⟩
  | 12 => ⟨#[99, 108, 101, 97, 114]⟩
  | _ => ⟨#[]⟩

/-- The table of kinds, cell by cell. -/
structure Shapes (w : World) : Prop where
  wd : ∀ k : Nat, k ≤ 12 → w.cell? ⟨0, k * 5, none⟩ = some (.string (word k))
  hz : ∀ k : Nat, k ≤ 12 → w.cell? ⟨0, k * 5 + 1, none⟩ = some (.bool (hasZ k))
  ha : ∀ k : Nat, k ≤ 12 → w.cell? ⟨0, k * 5 + 2, none⟩ = some (.bool (hasA k))
  hn : ∀ k : Nat, k ≤ 12 → w.cell? ⟨0, k * 5 + 3, none⟩ = some (.bool (hasN k))
  hd : ∀ k : Nat, k ≤ 12 → w.cell? ⟨0, k * 5 + 4, none⟩ = some (.bool (hasD k))

theorem Shapes.below {w w' : World} (h : Shapes w) (hb : Below w.heap.size w w') : Shapes w' :=
  ⟨fun k hk => keepc hb (h.wd k hk), fun k hk => keepc hb (h.hz k hk), fun k hk => keepc hb (h.ha k hk), fun k hk => keepc hb (h.hn k hk), fun k hk => keepc hb (h.hd k hk)⟩

end Go.Proofs.YtmjcoehllinoeacDoor
