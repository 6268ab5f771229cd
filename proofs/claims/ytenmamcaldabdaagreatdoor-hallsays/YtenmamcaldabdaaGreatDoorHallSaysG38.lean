/- Worlds that part at two blocks alone; plain mathematics, no condition. -/
import Derived.Test.YtenmamcaldabdaaGreatDoorHallSaysG12
import Derived.Test.YtenmamcaldabdaaGreatDoorHallSaysG11
namespace Go.Proofs.YtenmamcaldabdaaGreatDoor
open Go.RowKit
set_option linter.unusedVariables false
set_option maxRecDepth 100000
set_option linter.unusedSimpArgs false

/-- w' is w, but that blocks G and g may hold other cells, and there may be more memory. -/
structure ButJ (G g : Nat) (w w' : World) : Prop where
  low : ∀ n, n ≤ G → n ≤ g → Below n w w'
  size : w.heap.size ≤ w'.heap.size
  cell : ∀ q : Addr, q.block < w.heap.size → q.block ≠ G → q.block ≠ g → w'.cell? q = w.cell? q
  ice : ∀ q : Addr, q.block < w.heap.size → w'.frozen? q = w.frozen? q
theorem ButJ.of_below {G g : Nat} {w w' : World} (h : Below w.heap.size w w') (hG : G ≤ w.heap.size) : ButJ G g w w' := ⟨fun n h1 _ => h.mono (by omega), h.size, fun q hq _ _ => h.cell hq, fun q hq => h.frozen hq⟩
theorem ButJ.left {G g : Nat} {w a b : World} (h : ButJ G g w a) (k : ButI G a b) : ButJ G g w b :=
  ⟨fun n h1 h2 => (h.low n h1 h2).trans (k.but.low.mono h1), Nat.le_trans h.size k.but.size, fun q hq h1 h2 => by rw [k.but.cell q (Nat.lt_of_lt_of_le hq h.size) h1, h.cell q hq h1 h2], fun q hq => by rw [k.ice q (Nat.lt_of_lt_of_le hq h.size), h.ice q hq]⟩
theorem ButJ.right {G g : Nat} {w a b : World} (h : ButJ G g w a) (k : ButI g a b) : ButJ G g w b :=
  ⟨fun n h1 h2 => (h.low n h1 h2).trans (k.but.low.mono h2), Nat.le_trans h.size k.but.size, fun q hq h1 h2 => by rw [k.but.cell q (Nat.lt_of_lt_of_le hq h.size) h2, h.cell q hq h1 h2], fun q hq => by rw [k.ice q (Nat.lt_of_lt_of_le hq h.size), h.ice q hq]⟩
theorem Lay.butJ {w w' : World} {B G g : Nat} {vs : List Value} (h : Lay w B vs) (hb : ButJ G g w w') (h1 : B ≠ G) (h2 : B ≠ g) : Lay w' B vs :=
  ⟨fun i v hv => by rw [hb.cell _ h.lt h1 h2]; exact h.cell i v hv, fun i => by rw [hb.ice _ h.lt]; exact h.ice i, Nat.lt_of_lt_of_le h.lt hb.size⟩

end Go.Proofs.YtenmamcaldabdaaGreatDoor

/- A desk and an answer laid into two boxes, in whatever order; plain mathematics, no condition. -/
namespace Go.Proofs.YtenmamcaldabdaaGreatDoor
open Go.RowKit
set_option linter.unusedVariables false
set_option maxRecDepth 100000
set_option linter.unusedSimpArgs false

theorem Lay.made2 (w : World) (o p : Obj) (vs : List Value) (t : TypeId) : Lay (((w.alloc o).alloc p).alloc (.cells vs.toArray t (0, 0))) (w.heap.size + 1 + 1) vs := by
  have h := Lay.made ((w.alloc o).alloc p) vs t
  simpa only [World.size_alloc] using h
/-- What two boxes hold then: a desk, an answer; what was there stays. -/
structure Two (W w : World) (B C : Nat) (d : DV) (x : AV) : Prop where
  b : Lay w B d.cells
  c : Lay w C [.int .i64 x.e, .int .i64 x.t, .slice x.a x.n x.c]
  d : d.ok w
  x : x.ok w
  low : Below W.heap.size W w
theorem laidB {w : World} {B : Nat} (d : DV) (xB : Lay w B [.slice none 0 0, .slice none 0 0, .int .i64 0, .int .i64 0]) : Lay (((((w).setCell ⟨B, 0, none⟩ (.slice d.za d.zn d.zc)).setCell ⟨B, 1, none⟩ (.slice d.ka d.kn d.kc)).setCell ⟨B, 2, none⟩ (.int .i64 d.b.h)).setCell ⟨B, 3, none⟩ (.int .i64 d.b.t)) B d.cells ∧ ButI B w (((((w).setCell ⟨B, 0, none⟩ (.slice d.za d.zn d.zc)).setCell ⟨B, 1, none⟩ (.slice d.ka d.kn d.kc)).setCell ⟨B, 2, none⟩ (.int .i64 d.b.h)).setCell ⟨B, 3, none⟩ (.int .i64 d.b.t)) := ⟨(((xB.set 0 _).set 1 _).set 2 _).set 3 _, ((((ButI.refl B w).step 0 _).step 1 _).step 2 _).step 3 _⟩
theorem laidC {w : World} {C : Nat} (x : AV) (xC : Lay w C [.int .i64 0, .int .i64 0, .slice none 0 0]) : Lay ((((w).setCell ⟨C, 0, none⟩ (.int .i64 x.e)).setCell ⟨C, 1, none⟩ (.int .i64 x.t)).setCell ⟨C, 2, none⟩ (.slice x.a x.n x.c)) C [.int .i64 x.e, .int .i64 x.t, .slice x.a x.n x.c] ∧ ButI C w ((((w).setCell ⟨C, 0, none⟩ (.int .i64 x.e)).setCell ⟨C, 1, none⟩ (.int .i64 x.t)).setCell ⟨C, 2, none⟩ (.slice x.a x.n x.c)) := ⟨((xC.set 0 _).set 1 _).set 2 _, (((ButI.refl C w).step 0 _).step 1 _).step 2 _⟩
theorem sizeB (w : World) (B : Nat) (d : DV) : (((((w).setCell ⟨B, 0, none⟩ (.slice d.za d.zn d.zc)).setCell ⟨B, 1, none⟩ (.slice d.ka d.kn d.kc)).setCell ⟨B, 2, none⟩ (.int .i64 d.b.h)).setCell ⟨B, 3, none⟩ (.int .i64 d.b.t)).heap.size = w.heap.size := by simp [World.setCell]
theorem sizeC (w : World) (C : Nat) (x : AV) : ((((w).setCell ⟨C, 0, none⟩ (.int .i64 x.e)).setCell ⟨C, 1, none⟩ (.int .i64 x.t)).setCell ⟨C, 2, none⟩ (.slice x.a x.n x.c)).heap.size = w.heap.size := by simp [World.setCell]
theorem two_bc {W w : World} {B C : Nat} {d : DV} {x : AV} (xB : Lay w B [.slice none 0 0, .slice none 0 0, .int .i64 0, .int .i64 0]) (xC : Lay w C [.int .i64 0, .int .i64 0, .slice none 0 0]) (hne : B ≠ C) (hB : W.heap.size ≤ B) (hC : W.heap.size ≤ C) (od : d.ok w) (ox : x.ok w) (dB : d.off B) (dC : d.off C) (aB : x.off B) (aC : x.off C) (low : Below W.heap.size W w) : Two W ((((((((w).setCell ⟨B, 0, none⟩ (.slice d.za d.zn d.zc)).setCell ⟨B, 1, none⟩ (.slice d.ka d.kn d.kc)).setCell ⟨B, 2, none⟩ (.int .i64 d.b.h)).setCell ⟨B, 3, none⟩ (.int .i64 d.b.t)).setCell ⟨C, 0, none⟩ (.int .i64 x.e)).setCell ⟨C, 1, none⟩ (.int .i64 x.t)).setCell ⟨C, 2, none⟩ (.slice x.a x.n x.c)) B C d x := by
  obtain ⟨h1, k1⟩ := laidB d xB
  have xC' := xC.butI k1 (Ne.symm hne)
  have o1 := od.but k1.but dB
  have a1 := AV.ok.but ox k1.but aB
  have l1 := low.trans (k1.below hB)
  generalize ((((w).setCell ⟨B, 0, none⟩ (.slice d.za d.zn d.zc)).setCell ⟨B, 1, none⟩ (.slice d.ka d.kn d.kc)).setCell ⟨B, 2, none⟩ (.int .i64 d.b.h)).setCell ⟨B, 3, none⟩ (.int .i64 d.b.t) = w' at *
  obtain ⟨h2, k2⟩ := laidC x xC'
  exact ⟨h1.butI k2 hne, h2, o1.but k2.but dC, AV.ok.but a1 k2.but aC, l1.trans (k2.below hC)⟩
theorem two_cb {W w : World} {B C : Nat} {d : DV} {x : AV} (xB : Lay w B [.slice none 0 0, .slice none 0 0, .int .i64 0, .int .i64 0]) (xC : Lay w C [.int .i64 0, .int .i64 0, .slice none 0 0]) (hne : B ≠ C) (hB : W.heap.size ≤ B) (hC : W.heap.size ≤ C) (od : d.ok w) (ox : x.ok w) (dB : d.off B) (dC : d.off C) (aB : x.off B) (aC : x.off C) (low : Below W.heap.size W w) : Two W ((((((((w).setCell ⟨C, 0, none⟩ (.int .i64 x.e)).setCell ⟨C, 1, none⟩ (.int .i64 x.t)).setCell ⟨C, 2, none⟩ (.slice x.a x.n x.c)).setCell ⟨B, 0, none⟩ (.slice d.za d.zn d.zc)).setCell ⟨B, 1, none⟩ (.slice d.ka d.kn d.kc)).setCell ⟨B, 2, none⟩ (.int .i64 d.b.h)).setCell ⟨B, 3, none⟩ (.int .i64 d.b.t)) B C d x := by
  obtain ⟨h1, k1⟩ := laidC x xC
  have xB' := xB.butI k1 hne
  have o1 := od.but k1.but dC
  have a1 := AV.ok.but ox k1.but aC
  have l1 := low.trans (k1.below hC)
  generalize (((w).setCell ⟨C, 0, none⟩ (.int .i64 x.e)).setCell ⟨C, 1, none⟩ (.int .i64 x.t)).setCell ⟨C, 2, none⟩ (.slice x.a x.n x.c) = w' at *
  obtain ⟨h2, k2⟩ := laidB d xB'
  exact ⟨h2, h1.butI k2 (Ne.symm hne), o1.but k2.but dB, AV.ok.but a1 k2.but aB, l1.trans (k2.below hB)⟩
theorem two_b {W w : World} {B : Nat} {d : DV} {x : AV} {t : TypeId} (xB : Lay w B [.slice none 0 0, .slice none 0 0, .int .i64 0, .int .i64 0]) (hB : W.heap.size ≤ B) (od : d.ok w) (ox : x.ok w) (dB : d.off B) (aB : x.off B) (low : Below W.heap.size W w) : Two W ((((((w).setCell ⟨B, 0, none⟩ (.slice d.za d.zn d.zc)).setCell ⟨B, 1, none⟩ (.slice d.ka d.kn d.kc)).setCell ⟨B, 2, none⟩ (.int .i64 d.b.h)).setCell ⟨B, 3, none⟩ (.int .i64 d.b.t)).alloc (.cells #[.int .i64 x.e, .int .i64 x.t, .slice x.a x.n x.c] t)) B w.heap.size d x := by
  obtain ⟨h1, k1⟩ := laidB d xB
  have hs := sizeB w B d
  have o1 := od.but k1.but dB
  have a1 := AV.ok.but ox k1.but aB
  have l1 := low.trans (k1.below hB)
  generalize ((((w).setCell ⟨B, 0, none⟩ (.slice d.za d.zn d.zc)).setCell ⟨B, 1, none⟩ (.slice d.ka d.kn d.kc)).setCell ⟨B, 2, none⟩ (.int .i64 d.b.h)).setCell ⟨B, 3, none⟩ (.int .i64 d.b.t) = w' at *
  have hn := belowA (Below.refl _ w') (.cells #[.int .i64 x.e, .int .i64 x.t, .slice x.a x.n x.c] t)
  have hm := Lay.made w' [.int .i64 x.e, .int .i64 x.t, .slice x.a x.n x.c] t
  rw [hs] at hm
  exact ⟨h1.below hn, hm, o1.below hn (Nat.le_refl _), AV.ok.below a1 hn (Nat.le_refl _), belowT l1 hn⟩
theorem two_c {W w : World} {C : Nat} {d : DV} {x : AV} {t : TypeId} (xC : Lay w C [.int .i64 0, .int .i64 0, .slice none 0 0]) (hC : W.heap.size ≤ C) (od : d.ok w) (ox : x.ok w) (dC : d.off C) (aC : x.off C) (low : Below W.heap.size W w) : Two W (((((w).setCell ⟨C, 0, none⟩ (.int .i64 x.e)).setCell ⟨C, 1, none⟩ (.int .i64 x.t)).setCell ⟨C, 2, none⟩ (.slice x.a x.n x.c)).alloc (.cells #[.slice d.za d.zn d.zc, .slice d.ka d.kn d.kc, .int .i64 d.b.h, .int .i64 d.b.t] t)) w.heap.size C d x := by
  obtain ⟨h1, k1⟩ := laidC x xC
  have hs := sizeC w C x
  have o1 := od.but k1.but dC
  have a1 := AV.ok.but ox k1.but aC
  have l1 := low.trans (k1.below hC)
  generalize (((w).setCell ⟨C, 0, none⟩ (.int .i64 x.e)).setCell ⟨C, 1, none⟩ (.int .i64 x.t)).setCell ⟨C, 2, none⟩ (.slice x.a x.n x.c) = w' at *
  have hn := belowA (Below.refl _ w') (.cells #[.slice d.za d.zn d.zc, .slice d.ka d.kn d.kc, .int .i64 d.b.h, .int .i64 d.b.t] t)
  have hm := Lay.made w' [.slice d.za d.zn d.zc, .slice d.ka d.kn d.kc, .int .i64 d.b.h, .int .i64 d.b.t] t
  rw [hs] at hm
  exact ⟨hm, h1.below hn, o1.below hn (Nat.le_refl _), AV.ok.below a1 hn (Nat.le_refl _), belowT l1 hn⟩
theorem two_dx {W w : World} {d : DV} {x : AV} {s t : TypeId} (od : d.ok w) (ox : x.ok w) (low : Below W.heap.size W w) : Two W ((w.alloc (.cells #[.slice d.za d.zn d.zc, .slice d.ka d.kn d.kc, .int .i64 d.b.h, .int .i64 d.b.t] s)).alloc (.cells #[.int .i64 x.e, .int .i64 x.t, .slice x.a x.n x.c] t)) w.heap.size (w.heap.size + 1) d x := by
  have hn := belowA (belowA (Below.refl w.heap.size w) (.cells #[.slice d.za d.zn d.zc, .slice d.ka d.kn d.kc, .int .i64 d.b.h, .int .i64 d.b.t] s)) (.cells #[.int .i64 x.e, .int .i64 x.t, .slice x.a x.n x.c] t)
  exact ⟨(Lay.made w [.slice d.za d.zn d.zc, .slice d.ka d.kn d.kc, .int .i64 d.b.h, .int .i64 d.b.t] s).below (belowA (Below.refl _ _) _), Lay.made1 w _ [.int .i64 x.e, .int .i64 x.t, .slice x.a x.n x.c] t, od.below hn (Nat.le_refl _), AV.ok.below ox hn (Nat.le_refl _), belowT low hn⟩
theorem two_xd {W w : World} {d : DV} {x : AV} {s t : TypeId} (od : d.ok w) (ox : x.ok w) (low : Below W.heap.size W w) : Two W ((w.alloc (.cells #[.int .i64 x.e, .int .i64 x.t, .slice x.a x.n x.c] s)).alloc (.cells #[.slice d.za d.zn d.zc, .slice d.ka d.kn d.kc, .int .i64 d.b.h, .int .i64 d.b.t] t)) (w.heap.size + 1) w.heap.size d x := by
  have hn := belowA (belowA (Below.refl w.heap.size w) (.cells #[.int .i64 x.e, .int .i64 x.t, .slice x.a x.n x.c] s)) (.cells #[.slice d.za d.zn d.zc, .slice d.ka d.kn d.kc, .int .i64 d.b.h, .int .i64 d.b.t] t)
  exact ⟨Lay.made1 w _ [.slice d.za d.zn d.zc, .slice d.ka d.kn d.kc, .int .i64 d.b.h, .int .i64 d.b.t] t, (Lay.made w [.int .i64 x.e, .int .i64 x.t, .slice x.a x.n x.c] s).below (belowA (Below.refl _ _) _), od.below hn (Nat.le_refl _), AV.ok.below ox hn (Nat.le_refl _), belowT low hn⟩
/-- A box that was made behind another one's change. -/
theorem lay_pastB (w : World) (B : Nat) (d : DV) (vs : List Value) (t : TypeId) : Lay ((((((w).setCell ⟨B, 0, none⟩ (.slice d.za d.zn d.zc)).setCell ⟨B, 1, none⟩ (.slice d.ka d.kn d.kc)).setCell ⟨B, 2, none⟩ (.int .i64 d.b.h)).setCell ⟨B, 3, none⟩ (.int .i64 d.b.t)).alloc (.cells vs.toArray t)) w.heap.size vs := by
  have h := Lay.made (((((w).setCell ⟨B, 0, none⟩ (.slice d.za d.zn d.zc)).setCell ⟨B, 1, none⟩ (.slice d.ka d.kn d.kc)).setCell ⟨B, 2, none⟩ (.int .i64 d.b.h)).setCell ⟨B, 3, none⟩ (.int .i64 d.b.t)) vs t
  rw [sizeB] at h
  exact h
theorem lay_pastC (w : World) (C : Nat) (x : AV) (vs : List Value) (t : TypeId) : Lay (((((w).setCell ⟨C, 0, none⟩ (.int .i64 x.e)).setCell ⟨C, 1, none⟩ (.int .i64 x.t)).setCell ⟨C, 2, none⟩ (.slice x.a x.n x.c)).alloc (.cells vs.toArray t)) w.heap.size vs := by
  have h := Lay.made ((((w).setCell ⟨C, 0, none⟩ (.int .i64 x.e)).setCell ⟨C, 1, none⟩ (.int .i64 x.t)).setCell ⟨C, 2, none⟩ (.slice x.a x.n x.c)) vs t
  rw [sizeC] at h
  exact h

end Go.Proofs.YtenmamcaldabdaaGreatDoor
