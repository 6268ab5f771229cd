/- A hall and an answer laid into two boxes, in whatever order; plain mathematics, no condition. -/
import Derived.Test.YtcmladgldjcdmaaDoorHU8
namespace Go.Proofs.YtcmladgldjcdmaaDoor
open Go.RowKit
set_option linter.unusedVariables false
set_option maxRecDepth 100000
set_option linter.unusedSimpArgs false

/-- What two boxes hold then: a hall, an answer; what was there stays. -/
structure TwoH (W w : World) (B C : Nat) (d : HV) (x : AV) : Prop where
  b : Lay w B d.cells
  c : Lay w C [.int .i64 x.e, .int .i64 x.t, .slice x.a x.n x.c]
  d : d.ok w
  x : x.ok w
  low : Below W.heap.size W w
theorem laidH {w : World} {B : Nat} (d : HV) (xB : Lay w B [.slice none 0 0, .slice none 0 0, .int .i64 0, .int .i64 0, .slice none 0 0]) : Lay ((((((w).setCell ⟨B, 0, none⟩ (.slice d.d.za d.d.zn d.d.zc)).setCell ⟨B, 1, none⟩ (.slice d.d.ka d.d.kn d.d.kc)).setCell ⟨B, 2, none⟩ (.int .i64 d.d.b.h)).setCell ⟨B, 3, none⟩ (.int .i64 d.d.b.t)).setCell ⟨B, 4, none⟩ (.slice d.a d.n d.c)) B d.cells ∧ ButI B w ((((((w).setCell ⟨B, 0, none⟩ (.slice d.d.za d.d.zn d.d.zc)).setCell ⟨B, 1, none⟩ (.slice d.d.ka d.d.kn d.d.kc)).setCell ⟨B, 2, none⟩ (.int .i64 d.d.b.h)).setCell ⟨B, 3, none⟩ (.int .i64 d.d.b.t)).setCell ⟨B, 4, none⟩ (.slice d.a d.n d.c)) := ⟨((((xB.set 0 _).set 1 _).set 2 _).set 3 _).set 4 _, (((((ButI.refl B w).step 0 _).step 1 _).step 2 _).step 3 _).step 4 _⟩
theorem laidA {w : World} {C : Nat} (x : AV) (xC : Lay w C [.int .i64 0, .int .i64 0, .slice none 0 0]) : Lay ((((w).setCell ⟨C, 0, none⟩ (.int .i64 x.e)).setCell ⟨C, 1, none⟩ (.int .i64 x.t)).setCell ⟨C, 2, none⟩ (.slice x.a x.n x.c)) C [.int .i64 x.e, .int .i64 x.t, .slice x.a x.n x.c] ∧ ButI C w ((((w).setCell ⟨C, 0, none⟩ (.int .i64 x.e)).setCell ⟨C, 1, none⟩ (.int .i64 x.t)).setCell ⟨C, 2, none⟩ (.slice x.a x.n x.c)) := ⟨((xC.set 0 _).set 1 _).set 2 _, (((ButI.refl C w).step 0 _).step 1 _).step 2 _⟩
theorem sizeH (w : World) (B : Nat) (d : HV) : ((((((w).setCell ⟨B, 0, none⟩ (.slice d.d.za d.d.zn d.d.zc)).setCell ⟨B, 1, none⟩ (.slice d.d.ka d.d.kn d.d.kc)).setCell ⟨B, 2, none⟩ (.int .i64 d.d.b.h)).setCell ⟨B, 3, none⟩ (.int .i64 d.d.b.t)).setCell ⟨B, 4, none⟩ (.slice d.a d.n d.c)).heap.size = w.heap.size := by simp [World.setCell]
theorem sizeA (w : World) (C : Nat) (x : AV) : ((((w).setCell ⟨C, 0, none⟩ (.int .i64 x.e)).setCell ⟨C, 1, none⟩ (.int .i64 x.t)).setCell ⟨C, 2, none⟩ (.slice x.a x.n x.c)).heap.size = w.heap.size := by simp [World.setCell]
theorem twoH_bc {W w : World} {B C : Nat} {d : HV} {x : AV} (xB : Lay w B [.slice none 0 0, .slice none 0 0, .int .i64 0, .int .i64 0, .slice none 0 0]) (xC : Lay w C [.int .i64 0, .int .i64 0, .slice none 0 0]) (hne : B ≠ C) (hB : W.heap.size ≤ B) (hC : W.heap.size ≤ C) (od : d.ok w) (ox : x.ok w) (dB : d.off B) (dC : d.off C) (aB : x.off B) (aC : x.off C) (low : Below W.heap.size W w) : TwoH W (((((((((w).setCell ⟨B, 0, none⟩ (.slice d.d.za d.d.zn d.d.zc)).setCell ⟨B, 1, none⟩ (.slice d.d.ka d.d.kn d.d.kc)).setCell ⟨B, 2, none⟩ (.int .i64 d.d.b.h)).setCell ⟨B, 3, none⟩ (.int .i64 d.d.b.t)).setCell ⟨B, 4, none⟩ (.slice d.a d.n d.c)).setCell ⟨C, 0, none⟩ (.int .i64 x.e)).setCell ⟨C, 1, none⟩ (.int .i64 x.t)).setCell ⟨C, 2, none⟩ (.slice x.a x.n x.c)) B C d x := by
  obtain ⟨h1, k1⟩ := laidH d xB
  have xC' := xC.butI k1 (Ne.symm hne)
  have o1 := od.but k1.but dB
  have a1 := AV.ok.but ox k1.but aB
  have l1 := low.trans (k1.below hB)
  generalize (((((w).setCell ⟨B, 0, none⟩ (.slice d.d.za d.d.zn d.d.zc)).setCell ⟨B, 1, none⟩ (.slice d.d.ka d.d.kn d.d.kc)).setCell ⟨B, 2, none⟩ (.int .i64 d.d.b.h)).setCell ⟨B, 3, none⟩ (.int .i64 d.d.b.t)).setCell ⟨B, 4, none⟩ (.slice d.a d.n d.c) = w' at *
  obtain ⟨h2, k2⟩ := laidA x xC'
  exact ⟨h1.butI k2 hne, h2, o1.but k2.but dC, AV.ok.but a1 k2.but aC, l1.trans (k2.below hC)⟩
theorem twoH_dx {W w : World} {d : HV} {x : AV} {s t : TypeId} (od : d.ok w) (ox : x.ok w) (low : Below W.heap.size W w) : TwoH W ((w.alloc (.cells #[.slice d.d.za d.d.zn d.d.zc, .slice d.d.ka d.d.kn d.d.kc, .int .i64 d.d.b.h, .int .i64 d.d.b.t, .slice d.a d.n d.c] s)).alloc (.cells #[.int .i64 x.e, .int .i64 x.t, .slice x.a x.n x.c] t)) w.heap.size (w.heap.size + 1) d x := by
  have hn := belowA (belowA (Below.refl w.heap.size w) (.cells #[.slice d.d.za d.d.zn d.d.zc, .slice d.d.ka d.d.kn d.d.kc, .int .i64 d.d.b.h, .int .i64 d.d.b.t, .slice d.a d.n d.c] s)) (.cells #[.int .i64 x.e, .int .i64 x.t, .slice x.a x.n x.c] t)
  exact ⟨(Lay.made w [.slice d.d.za d.d.zn d.d.zc, .slice d.d.ka d.d.kn d.d.kc, .int .i64 d.d.b.h, .int .i64 d.d.b.t, .slice d.a d.n d.c] s).below (belowA (Below.refl _ _) _), Lay.made1 w _ [.int .i64 x.e, .int .i64 x.t, .slice x.a x.n x.c] t, od.below hn (Nat.le_refl _), AV.ok.below ox hn (Nat.le_refl _), belowT low hn⟩
theorem twoH_xd {W w : World} {d : HV} {x : AV} {s t : TypeId} (od : d.ok w) (ox : x.ok w) (low : Below W.heap.size W w) : TwoH W ((w.alloc (.cells #[.int .i64 x.e, .int .i64 x.t, .slice x.a x.n x.c] s)).alloc (.cells #[.slice d.d.za d.d.zn d.d.zc, .slice d.d.ka d.d.kn d.d.kc, .int .i64 d.d.b.h, .int .i64 d.d.b.t, .slice d.a d.n d.c] t)) (w.heap.size + 1) w.heap.size d x := by
  have hn := belowA (belowA (Below.refl w.heap.size w) (.cells #[.int .i64 x.e, .int .i64 x.t, .slice x.a x.n x.c] s)) (.cells #[.slice d.d.za d.d.zn d.d.zc, .slice d.d.ka d.d.kn d.d.kc, .int .i64 d.d.b.h, .int .i64 d.d.b.t, .slice d.a d.n d.c] t)
  exact ⟨Lay.made1 w _ [.slice d.d.za d.d.zn d.d.zc, .slice d.d.ka d.d.kn d.d.kc, .int .i64 d.d.b.h, .int .i64 d.d.b.t, .slice d.a d.n d.c] t, (Lay.made w [.int .i64 x.e, .int .i64 x.t, .slice x.a x.n x.c] s).below (belowA (Below.refl _ _) _), od.below hn (Nat.le_refl _), AV.ok.below ox hn (Nat.le_refl _), belowT low hn⟩
theorem twoH_bn {W w : World} {B : Nat} {d : HV} {x : AV} {t : TypeId} (xB : Lay w B [.slice none 0 0, .slice none 0 0, .int .i64 0, .int .i64 0, .slice none 0 0]) (hB : W.heap.size ≤ B) (od : d.ok w) (ox : x.ok w) (dB : d.off B) (aB : x.off B) (low : Below W.heap.size W w) : TwoH W (((((((((w.alloc (.cells #[.int .i64 0, .int .i64 0, .slice none 0 0] t)).setCell ⟨B, 0, none⟩ (.slice d.d.za d.d.zn d.d.zc)).setCell ⟨B, 1, none⟩ (.slice d.d.ka d.d.kn d.d.kc)).setCell ⟨B, 2, none⟩ (.int .i64 d.d.b.h)).setCell ⟨B, 3, none⟩ (.int .i64 d.d.b.t)).setCell ⟨B, 4, none⟩ (.slice d.a d.n d.c)).setCell ⟨w.heap.size, 0, none⟩ (.int .i64 x.e)).setCell ⟨w.heap.size, 1, none⟩ (.int .i64 x.t)).setCell ⟨w.heap.size, 2, none⟩ (.slice x.a x.n x.c)) B w.heap.size d x := by
  have hn := belowA (Below.refl _ w) (.cells #[.int .i64 0, .int .i64 0, .slice none 0 0] t)
  have hl := xB.lt
  exact twoH_bc (xB.below hn) (Lay.made w [.int .i64 0, .int .i64 0, .slice none 0 0] t) (by omega) hB low.size (od.below hn (Nat.le_refl _)) (AV.ok.below ox hn (Nat.le_refl _)) dB (od.off (Nat.le_refl _)) aB (AV.ok.off ox (Nat.le_refl _)) (belowT low hn)
theorem twoH_cn {W w : World} {C : Nat} {d : HV} {x : AV} {t : TypeId} (xC : Lay w C [.int .i64 0, .int .i64 0, .slice none 0 0]) (hC : W.heap.size ≤ C) (od : d.ok w) (ox : x.ok w) (dC : d.off C) (aC : x.off C) (low : Below W.heap.size W w) : TwoH W ((((w.alloc (.cells #[.slice d.d.za d.d.zn d.d.zc, .slice d.d.ka d.d.kn d.d.kc, .int .i64 d.d.b.h, .int .i64 d.d.b.t, .slice d.a d.n d.c] t)).setCell ⟨C, 0, none⟩ (.int .i64 x.e)).setCell ⟨C, 1, none⟩ (.int .i64 x.t)).setCell ⟨C, 2, none⟩ (.slice x.a x.n x.c)) w.heap.size C d x := by
  have hn := belowA (Below.refl _ w) (.cells #[.slice d.d.za d.d.zn d.d.zc, .slice d.d.ka d.d.kn d.d.kc, .int .i64 d.d.b.h, .int .i64 d.d.b.t, .slice d.a d.n d.c] t)
  have hl := xC.lt
  have hm := Lay.made w [.slice d.d.za d.d.zn d.d.zc, .slice d.d.ka d.d.kn d.d.kc, .int .i64 d.d.b.h, .int .i64 d.d.b.t, .slice d.a d.n d.c] t
  have o1 := od.below hn (Nat.le_refl _)
  have a1 := AV.ok.below ox hn (Nat.le_refl _)
  have l1 := belowT low hn
  have xC' := xC.below hn
  have hs : (w.alloc (.cells #[.slice d.d.za d.d.zn d.d.zc, .slice d.d.ka d.d.kn d.d.kc, .int .i64 d.d.b.h, .int .i64 d.d.b.t, .slice d.a d.n d.c] t)).heap.size = w.heap.size + 1 := by simp
  have hm' : Lay (w.alloc (.cells #[.slice d.d.za d.d.zn d.d.zc, .slice d.d.ka d.d.kn d.d.kc, .int .i64 d.d.b.h, .int .i64 d.d.b.t, .slice d.a d.n d.c] t)) w.heap.size d.cells := hm
  generalize w.alloc (.cells #[.slice d.d.za d.d.zn d.d.zc, .slice d.d.ka d.d.kn d.d.kc, .int .i64 d.d.b.h, .int .i64 d.d.b.t, .slice d.a d.n d.c] t) = w' at *
  obtain ⟨h2, k2⟩ := laidA x xC'
  exact ⟨hm'.butI k2 (by omega), h2, o1.but k2.but dC, AV.ok.but a1 k2.but aC, l1.trans (k2.below hC)⟩
/-- A hall laid into a box. -/
structure OneH (W w : World) (B : Nat) (d : HV) : Prop where
  b : Lay w B d.cells
  d : d.ok w
  low : Below W.heap.size W w
theorem oneH_b {W w : World} {B : Nat} {d : HV} (xB : Lay w B [.slice none 0 0, .slice none 0 0, .int .i64 0, .int .i64 0, .slice none 0 0]) (hB : W.heap.size ≤ B) (od : d.ok w) (dB : d.off B) (low : Below W.heap.size W w) : OneH W ((((((w).setCell ⟨B, 0, none⟩ (.slice d.d.za d.d.zn d.d.zc)).setCell ⟨B, 1, none⟩ (.slice d.d.ka d.d.kn d.d.kc)).setCell ⟨B, 2, none⟩ (.int .i64 d.d.b.h)).setCell ⟨B, 3, none⟩ (.int .i64 d.d.b.t)).setCell ⟨B, 4, none⟩ (.slice d.a d.n d.c)) B d := by
  obtain ⟨h1, k1⟩ := laidH d xB
  exact ⟨h1, od.but k1.but dB, low.trans (k1.below hB)⟩
theorem oneH_n {W w : World} {d : HV} {t : TypeId} (od : d.ok w) (low : Below W.heap.size W w) : OneH W (w.alloc (.cells #[.slice d.d.za d.d.zn d.d.zc, .slice d.d.ka d.d.kn d.d.kc, .int .i64 d.d.b.h, .int .i64 d.d.b.t, .slice d.a d.n d.c] t)) w.heap.size d :=
  ⟨Lay.made w [.slice d.d.za d.d.zn d.d.zc, .slice d.d.ka d.d.kn d.d.kc, .int .i64 d.d.b.h, .int .i64 d.d.b.t, .slice d.a d.n d.c] t, od.below (belowA (Below.refl _ _) _) (Nat.le_refl _), belowT low (belowA (Below.refl _ _) _)⟩
/-- A box that was made behind another one's change. -/
theorem lay_pastH {w : World} {B : Nat} {us : List Value} (xB : Lay w B us) (d : HV) (vs : List Value) (t : TypeId) : Lay (((((((w).setCell ⟨B, 0, none⟩ (.slice d.d.za d.d.zn d.d.zc)).setCell ⟨B, 1, none⟩ (.slice d.d.ka d.d.kn d.d.kc)).setCell ⟨B, 2, none⟩ (.int .i64 d.d.b.h)).setCell ⟨B, 3, none⟩ (.int .i64 d.d.b.t)).setCell ⟨B, 4, none⟩ (.slice d.a d.n d.c)).alloc (.cells vs.toArray t)) w.heap.size vs := by
  have h := Lay.made ((((((w).setCell ⟨B, 0, none⟩ (.slice d.d.za d.d.zn d.d.zc)).setCell ⟨B, 1, none⟩ (.slice d.d.ka d.d.kn d.d.kc)).setCell ⟨B, 2, none⟩ (.int .i64 d.d.b.h)).setCell ⟨B, 3, none⟩ (.int .i64 d.d.b.t)).setCell ⟨B, 4, none⟩ (.slice d.a d.n d.c)) vs t
  rw [sizeH] at h
  exact h
theorem lay_pastA {w : World} {C : Nat} {us : List Value} (xC : Lay w C us) (x : AV) (vs : List Value) (t : TypeId) : Lay (((((w).setCell ⟨C, 0, none⟩ (.int .i64 x.e)).setCell ⟨C, 1, none⟩ (.int .i64 x.t)).setCell ⟨C, 2, none⟩ (.slice x.a x.n x.c)).alloc (.cells vs.toArray t)) w.heap.size vs := by
  have h := Lay.made ((((w).setCell ⟨C, 0, none⟩ (.int .i64 x.e)).setCell ⟨C, 1, none⟩ (.int .i64 x.t)).setCell ⟨C, 2, none⟩ (.slice x.a x.n x.c)) vs t
  rw [sizeA] at h
  exact h

end Go.Proofs.YtcmladgldjcdmaaDoor
