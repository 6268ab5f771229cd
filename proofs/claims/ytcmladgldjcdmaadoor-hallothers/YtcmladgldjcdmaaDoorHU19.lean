/- The contracts of desk's reserve, turn and write, which change the desk that lies in its box; no condition but that the box holds a desk whose lists lie elsewhere. -/
import Derived.Test.YtcmladgldjcdmaaDoorHU18
import Derived.Deep.RegionHeld3
import Derived.Deep.DeepCutAuto
namespace Go.Proofs.YtcmladgldjcdmaaDoor
open Go.RowKit
set_option linter.unusedVariables false
set_option maxRecDepth 100000
set_option linter.unusedSimpArgs false

/-- The desk that lies in box B, and nothing of it in B itself. -/
structure DBox (w : World) (B : Nat) (d : DV) : Prop where
  lay : Lay w B d.cells
  ok : d.ok w
  off : d.off B
theorem DBox.below {w w' : World} {B : Nat} {d : DV} (h : DBox w B d) (hb : Below w.heap.size w w') : DBox w' B d := ⟨h.lay.below hb, h.ok.below hb (Nat.le_refl _), h.off⟩

/-- Zones of new memory are laid into the box. -/
theorem DBox.zones {w : World} {B : Nat} {d : DV} (h : DBox w B d) {a : Option Addr} {n c : Nat} {Z : List ZV} (hz : Zones w a n c Z) {N : Nat} (hn : NewZ N a Z) (hB : B < N) :
    DBox (w.setCell ⟨B, 0, none⟩ (.slice a n c)) B ⟨a, n, c, Z, d.ka, d.kn, d.kc, d.b⟩ := by
  have ho : (⟨a, n, c, Z, d.ka, d.kn, d.kc, d.b⟩ : DV).off B := ⟨.inr fun x e => by have := hn.1 x e; omega, fun z hz => .inr fun x e => by have := hn.2 z hz x e; omega, h.off.k⟩
  exact ⟨h.lay.set 0 _, DV.ok.but ⟨hz, h.ok.k⟩ ((But.refl B w).step 0 _) ho, ho⟩
/-- A book of new memory is laid into the box. -/
theorem DBox.book {w : World} {B : Nat} {d : DV} (h : DBox w B d) {a : Option Addr} {n c : Nat} {b : PB} (hk : Ints w a n c b.k) {N : Nat} (hn : ∀ x, a = some x → N ≤ x.block) (hB : B < N) :
    DBox (((w.setCell ⟨B, 1, none⟩ (.slice a n c)).setCell ⟨B, 2, none⟩ (.int .i64 b.h)).setCell ⟨B, 3, none⟩ (.int .i64 b.t)) B ⟨d.za, d.zn, d.zc, d.Z, a, n, c, b⟩ := by
  have ho : (⟨d.za, d.zn, d.zc, d.Z, a, n, c, b⟩ : DV).off B := ⟨h.off.z, h.off.l, .inr fun x e => by have := hn x e; omega⟩
  exact ⟨((h.lay.set 1 _).set 2 _).set 3 _, DV.ok.but ⟨h.ok.z, hk⟩ ((((But.refl B w).step 1 _).step 2 _).step 3 _) ho, ho⟩
theorem DV.off_zones {R M : Nat} {d : DV} (h : d.off R) {a : Option Addr} {n c : Nat} {Z : List ZV} (hn : NewZ M a Z) (hM : R < M) : (⟨a, n, c, Z, d.ka, d.kn, d.kc, d.b⟩ : DV).off R :=
  ⟨.inr fun x e => by have := hn.1 x e; omega, fun z hz => .inr fun x e => by have := hn.2 z hz x e; omega, h.k⟩
theorem DV.off_book {R M : Nat} {d : DV} (h : d.off R) {a : Option Addr} {n c : Nat} {b : PB} (hn : ∀ x, a = some x → M ≤ x.block) (hM : R < M) : (⟨d.za, d.zn, d.zc, d.Z, a, n, c, b⟩ : DV).off R :=
  ⟨h.z, h.l, .inr fun x e => by have := hn x e; omega⟩

def zoned (d : PD) (x : PC) : PD := if (zoneDo d.P x).2 = 0 then ⟨(zoneDo d.P x).1, d.b⟩ else d
def bookedD (d : PD) (who : Int) (x : PC) : PD := if (bookDo d.b who x).2 = 0 then ⟨d.P, (bookDo d.b who x).1⟩ else d

set_option maxHeartbeats 2000000 in
theorem turn_c (B : Nat) (d : DV) (ca : Option Addr) (cn cc : Nat) (x : PC) (w : World) (h : DBox w B d) :
    Calls Tryd.prog 64 #[.pointer (some ⟨B, 0, none⟩), cmdV ca cn cc x] w fun e w' => (e = .returned (.int .i64 (zoneDo d.p.P x).2) ∧ ∃ d' : DV, DBox w' B d' ∧ (∀ R, R < w.heap.size → d.off R → d'.off R) ∧ d'.p = zoned d.p x) ∧ ButI B w w' := by
  obtain ⟨za, zn, zc, Z, ka, kn, kc, b⟩ := d
  obtain ⟨xk, xz, xn, xt, xd⟩ := x
  have HT := hide (fun w' h' => turned_c za zn zc Z ca cn cc ⟨xk, xz, xn, xt, xd⟩ w' h')
  have hlt := h.lay.lt
  have y0 := h.lay.cell 0 _ rfl
  unfold cmdV at *
  dsimp only [DV.p] at *
  generalize hfn : zoneDo (Z.map ZV.p) ⟨xk, xz, xn, xt, xd⟩ = r at *
  obtain ⟨rP, re⟩ := r
  have HF := hide hfn
  clear hfn
  dsimp only at *
  replace y0 := past1 y0
  go_enter Tryd.func64, Tryd.ntmps64
  go_upto_region 1 with fail
  go_region_held3 (fun w' => w'.cell? ⟨B, 0, none⟩ = some (.slice za zn zc) ∧ w'.cell? ⟨w.heap.size, 0, none⟩ = some (.int .i64 xk) ∧ w'.cell? ⟨w.heap.size, 1, none⟩ = some (.int .i64 xz) ∧ w'.cell? ⟨w.heap.size, 2, none⟩ = some (.int .i64 xn) ∧ w'.cell? ⟨w.heap.size, 3, none⟩ = some (.int .i64 xt) ∧ w'.cell? ⟨w.heap.size, 4, none⟩ = some (.slice ca cn cc)) ((first | (go_simp; done) | (simp [*, World.cell?_alloc_at, World.cell?_alloc_past, World.cell?_alloc_some, World.cell?_setCell_far]; done))) (first | (go_at_call 75; refine (HT.out _ (by refine Zones.below h.ok.z (B := w.heap.size) ?_ (Nat.le_refl _); (repeat first | exact bel0 | assumption | refine bel1 ?_ | refine bel2 ?_ | refine bel3 ?_ | refine belowT ?_ (by assumption) | refine bel5 ?_ (by simp; try omega)))).mono ?_; rintro e w1 ⟨⟨a1, n1, c1, Z1, rfl, i1, nz, p1⟩, hb1⟩; (have g0 := keepc hb1 (p := ⟨B, 0, none⟩) (u := .slice za zn zc) (by (first | (go_simp; done) | (simp [*, World.cell?_alloc_at, World.cell?_alloc_past, World.cell?_alloc_some, World.cell?_setCell_far]; done)))); (have g1 := keepc hb1 (p := ⟨w.heap.size, 0, none⟩) (u := .int .i64 xk) (by (first | (go_simp; done) | (simp [*, World.cell?_alloc_at, World.cell?_alloc_past, World.cell?_alloc_some, World.cell?_setCell_far]; done)))); (have g2 := keepc hb1 (p := ⟨w.heap.size, 1, none⟩) (u := .int .i64 xz) (by (first | (go_simp; done) | (simp [*, World.cell?_alloc_at, World.cell?_alloc_past, World.cell?_alloc_some, World.cell?_setCell_far]; done)))); (have g3 := keepc hb1 (p := ⟨w.heap.size, 2, none⟩) (u := .int .i64 xn) (by (first | (go_simp; done) | (simp [*, World.cell?_alloc_at, World.cell?_alloc_past, World.cell?_alloc_some, World.cell?_setCell_far]; done)))); (have g4 := keepc hb1 (p := ⟨w.heap.size, 3, none⟩) (u := .int .i64 xt) (by (first | (go_simp; done) | (simp [*, World.cell?_alloc_at, World.cell?_alloc_past, World.cell?_alloc_some, World.cell?_setCell_far]; done)))); (have g5 := keepc hb1 (p := ⟨w.heap.size, 4, none⟩) (u := .slice ca cn cc) (by (first | (go_simp; done) | (simp [*, World.cell?_alloc_at, World.cell?_alloc_past, World.cell?_alloc_some, World.cell?_setCell_far]; done))))))
  have bw1 : Below w.heap.size w w1 := by (repeat first | exact bel0 | assumption | refine bel1 ?_ | refine bel2 ?_ | refine bel3 ?_ | refine belowT ?_ (by assumption) | refine bel5 ?_ (by simp; try omega))
  have h1 := h.below bw1
  have P1 := hide p1
  simp at nz
  have N1 := hide (show NewZ (w.heap.size + 1) a1 Z1 from nz)
  clear p1 nz hb1 y0
  have q0 := h1.lay.cell 0 _ rfl
  have q1 := h1.lay.ice 0
  by_cases he : re = 0
  · subst he
    go_wp2
    go_ret
    exact ⟨⟨rfl, _, h1.zones i1 N1.out (by omega), fun N hN hd => DV.off_zones hd N1.out (by omega), by unfold zoned; dsimp only [DV.p]; rw [HF.out, P1.out]; rfl⟩, (ButI.of_below bw1 (by omega)).step 0 _⟩
  · have he' : (re == 0) = false := by simpa using he
    have HE := hide he
    clear he
    go_wp2
    go_ret
    exact ⟨⟨rfl, _, h1, fun N hN hd => hd, by unfold zoned; dsimp only [DV.p]; rw [HF.out]; simp [HE.out]⟩, ButI.of_below bw1 (by omega)⟩

set_option maxHeartbeats 4000000 in
theorem reserve_c (B : Nat) (d : DV) (who : Int) (ca : Option Addr) (cn cc : Nat) (x : PC) (w : World) (h : DBox w B d) :
    Calls Tryd.prog 60 #[.pointer (some ⟨B, 0, none⟩), .int .i64 who, cmdV ca cn cc x] w fun e w' => (e = .returned (.int .i64 (bookDo d.b who x).2) ∧ ∃ d' : DV, DBox w' B d' ∧ (∀ R, R < w.heap.size → d.off R → d'.off R) ∧ d'.p = bookedD d.p who x) ∧ ButI B w w' := by
  obtain ⟨za, zn, zc, Z, ka, kn, kc, bk, bh, bt⟩ := d
  obtain ⟨xk, xz, xn, xt, xd⟩ := x
  have HT := hide (fun w' h' => reserved_c ka kn kc ⟨bk, bh, bt⟩ who ca cn cc ⟨xk, xz, xn, xt, xd⟩ w' h')
  have hlt := h.lay.lt
  have y1 := h.lay.cell 1 _ rfl
  have y2 := h.lay.cell 2 _ rfl
  have y3 := h.lay.cell 3 _ rfl
  unfold cmdV bookV at *
  dsimp only [DV.p] at *
  generalize hfn : bookDo ⟨bk, bh, bt⟩ who ⟨xk, xz, xn, xt, xd⟩ = r at *
  obtain ⟨⟨rk, rh, rt⟩, re⟩ := r
  have HF := hide hfn
  clear hfn
  dsimp only at *
  replace y1 := past1 y1
  replace y2 := past1 y2
  replace y3 := past1 y3
  go_enter Tryd.func60, Tryd.ntmps60
  go_upto_region 1 with fail
  go_cut [7, 8] (fun v7 v8 wx => ∃ q a1 n1 c1, v7 = .pointer (some ⟨q, 0, none⟩) ∧ v8 = .int .i64 re ∧ w.heap.size < q ∧ wx.cell? ⟨q, 0, none⟩ = some (.slice a1 n1 c1) ∧ wx.cell? ⟨q, 1, none⟩ = some (.int .i64 rh) ∧ wx.cell? ⟨q, 2, none⟩ = some (.int .i64 rt) ∧ Ints wx a1 n1 c1 rk ∧ (∀ x, a1 = some x → w.heap.size + 1 ≤ x.block) ∧ Below w.heap.size w wx)
  case first =>
    go_region_with (first | (go_at_call 70; refine (HT.out _ (by refine Ints.below h.ok.k (B := w.heap.size) ?_ (Nat.le_refl _); (repeat first | exact bel0 | assumption | refine bel1 ?_ | refine bel2 ?_ | refine bel3 ?_ | refine belowT ?_ (by assumption) | refine bel5 ?_ (by simp; try omega)))).mono ?_; rintro e w1 ⟨⟨a1, n1, c1, rfl, i1, fr⟩, hb1⟩; (have g0 := keepc hb1 (p := ⟨B, 1, none⟩) (u := .slice ka kn kc) (by (first | (go_simp; done) | (simp [*, World.cell?_alloc_at, World.cell?_alloc_past, World.cell?_alloc_some, World.cell?_setCell_far]; done)))); (have g1 := keepc hb1 (p := ⟨B, 2, none⟩) (u := .int .i64 bh) (by (first | (go_simp; done) | (simp [*, World.cell?_alloc_at, World.cell?_alloc_past, World.cell?_alloc_some, World.cell?_setCell_far]; done)))); (have g2 := keepc hb1 (p := ⟨B, 3, none⟩) (u := .int .i64 bt) (by (first | (go_simp; done) | (simp [*, World.cell?_alloc_at, World.cell?_alloc_past, World.cell?_alloc_some, World.cell?_setCell_far]; done)))); (have g3 := keepc hb1 (p := ⟨w.heap.size, 0, none⟩) (u := .int .i64 xk) (by (first | (go_simp; done) | (simp [*, World.cell?_alloc_at, World.cell?_alloc_past, World.cell?_alloc_some, World.cell?_setCell_far]; done)))); (have g4 := keepc hb1 (p := ⟨w.heap.size, 1, none⟩) (u := .int .i64 xz) (by (first | (go_simp; done) | (simp [*, World.cell?_alloc_at, World.cell?_alloc_past, World.cell?_alloc_some, World.cell?_setCell_far]; done)))); (have g5 := keepc hb1 (p := ⟨w.heap.size, 2, none⟩) (u := .int .i64 xn) (by (first | (go_simp; done) | (simp [*, World.cell?_alloc_at, World.cell?_alloc_past, World.cell?_alloc_some, World.cell?_setCell_far]; done)))); (have g6 := keepc hb1 (p := ⟨w.heap.size, 3, none⟩) (u := .int .i64 xt) (by (first | (go_simp; done) | (simp [*, World.cell?_alloc_at, World.cell?_alloc_past, World.cell?_alloc_some, World.cell?_setCell_far]; done)))); (have g7 := keepc hb1 (p := ⟨w.heap.size, 4, none⟩) (u := .slice ca cn cc) (by (first | (go_simp; done) | (simp [*, World.cell?_alloc_at, World.cell?_alloc_past, World.cell?_alloc_some, World.cell?_setCell_far]; done)))); (have xQ := Lay.below (Lay.drew (Lay.made1 w _ [.slice none 0 0, .int .i64 0, .int .i64 0] 25)) hb1); (have x0 := xQ.cell 0 _ rfl); (have x1 := xQ.cell 1 _ rfl); (have x2 := xQ.cell 2 _ rfl); (have v0 := xQ.ice 0); (have v1 := xQ.ice 1); (have v2 := xQ.ice 2)) | (go_at_call 70; refine (HT.out _ (by refine Ints.below h.ok.k (B := w.heap.size) ?_ (Nat.le_refl _); (repeat first | exact bel0 | assumption | refine bel1 ?_ | refine bel2 ?_ | refine bel3 ?_ | refine belowT ?_ (by assumption) | refine bel5 ?_ (by simp; try omega)))).mono ?_; rintro e w1 ⟨⟨a1, n1, c1, rfl, i1, fr⟩, hb1⟩; (have g0 := keepc hb1 (p := ⟨B, 1, none⟩) (u := .slice ka kn kc) (by (first | (go_simp; done) | (simp [*, World.cell?_alloc_at, World.cell?_alloc_past, World.cell?_alloc_some, World.cell?_setCell_far]; done)))); (have g1 := keepc hb1 (p := ⟨B, 2, none⟩) (u := .int .i64 bh) (by (first | (go_simp; done) | (simp [*, World.cell?_alloc_at, World.cell?_alloc_past, World.cell?_alloc_some, World.cell?_setCell_far]; done)))); (have g2 := keepc hb1 (p := ⟨B, 3, none⟩) (u := .int .i64 bt) (by (first | (go_simp; done) | (simp [*, World.cell?_alloc_at, World.cell?_alloc_past, World.cell?_alloc_some, World.cell?_setCell_far]; done)))); (have g3 := keepc hb1 (p := ⟨w.heap.size, 0, none⟩) (u := .int .i64 xk) (by (first | (go_simp; done) | (simp [*, World.cell?_alloc_at, World.cell?_alloc_past, World.cell?_alloc_some, World.cell?_setCell_far]; done)))); (have g4 := keepc hb1 (p := ⟨w.heap.size, 1, none⟩) (u := .int .i64 xz) (by (first | (go_simp; done) | (simp [*, World.cell?_alloc_at, World.cell?_alloc_past, World.cell?_alloc_some, World.cell?_setCell_far]; done)))); (have g5 := keepc hb1 (p := ⟨w.heap.size, 2, none⟩) (u := .int .i64 xn) (by (first | (go_simp; done) | (simp [*, World.cell?_alloc_at, World.cell?_alloc_past, World.cell?_alloc_some, World.cell?_setCell_far]; done)))); (have g6 := keepc hb1 (p := ⟨w.heap.size, 3, none⟩) (u := .int .i64 xt) (by (first | (go_simp; done) | (simp [*, World.cell?_alloc_at, World.cell?_alloc_past, World.cell?_alloc_some, World.cell?_setCell_far]; done)))); (have g7 := keepc hb1 (p := ⟨w.heap.size, 4, none⟩) (u := .slice ca cn cc) (by (first | (go_simp; done) | (simp [*, World.cell?_alloc_at, World.cell?_alloc_past, World.cell?_alloc_some, World.cell?_setCell_far]; done))))))
    all_goals
      go_wp2_with fail
      go_meet
    all_goals
      case rel =>
        simp at fr
        first
          | (have hbut := (((ButI.refl (w.heap.size + 1) w1).step 0 (.slice a1 n1 c1)).step 1 (.int .i64 rh)).step 2 (.int .i64 rt)
             have zB := ((xQ.set 0 (.slice a1 n1 c1)).set 1 (.int .i64 rh)).set 2 (.int .i64 rt)
             exact ⟨_, a1, n1, c1, rfl, rfl, by omega, zB.cell 0 _ rfl, zB.cell 1 _ rfl, zB.cell 2 _ rfl, i1.but hbut.but (.inr fun x e => by have := fr x e; omega), fun x e => by have := fr x e; omega, (show Below w.heap.size w w1 by (repeat first | exact bel0 | assumption | refine bel1 ?_ | refine bel2 ?_ | refine bel3 ?_ | refine belowT ?_ (by assumption) | refine bel5 ?_ (by simp; try omega))).trans (hbut.below (B := w.heap.size) (by omega))⟩)
          | (have zB := Lay.made w1 [.slice a1 n1 c1, .int .i64 rh, .int .i64 rt] 25
             have hsz := hb1.size
             simp at hsz
             exact ⟨_, a1, n1, c1, rfl, rfl, by omega, zB.cell 0 _ rfl, zB.cell 1 _ rfl, zB.cell 2 _ rfl, i1.below (B := w1.heap.size) (by (repeat first | exact bel0 | assumption | refine bel1 ?_ | refine bel2 ?_ | refine bel3 ?_ | refine belowT ?_ (by assumption) | refine bel5 ?_ (by simp; try omega))) (Nat.le_refl _), fun x e => by have := fr x e; omega, by (repeat first | exact bel0 | assumption | refine bel1 ?_ | refine bel2 ?_ | refine bel3 ?_ | refine belowT ?_ (by assumption) | refine bel5 ?_ (by simp; try omega))⟩)
  case rest =>
    obtain ⟨q, a1, n1, c1, rfl, rfl, hq, l0, l1, l2, i1, fr, bw1⟩ := hcut
    have h1 := h.below bw1
    have FR := hide fr
    clear fr y1 y2 y3
    have q1 := h1.lay.cell 1 _ rfl
    have q2 := h1.lay.cell 2 _ rfl
    have q3 := h1.lay.cell 3 _ rfl
    have k1 := h1.lay.ice 1
    have k2 := h1.lay.ice 2
    have k3 := h1.lay.ice 3
    by_cases he : re = 0
    · subst he
      go_wp2
      go_ret
      exact ⟨⟨rfl, _, h1.book (b := ⟨rk, rh, rt⟩) i1 FR.out (by omega), fun N hN hd => DV.off_book hd FR.out (by omega), by unfold bookedD; dsimp only [DV.p]; rw [HF.out]; rfl⟩, (((ButI.of_below bw1 (by omega)).step 1 _).step 2 _).step 3 _⟩
    · have he' : (re == 0) = false := by simpa using he
      have HE := hide he
      clear he
      go_wp2
      go_ret
      exact ⟨⟨rfl, _, h1, fun N hN hd => hd, by unfold bookedD; dsimp only [DV.p]; rw [HF.out]; simp [HE.out]⟩, ButI.of_below bw1 (by omega)⟩

end Go.Proofs.YtcmladgldjcdmaaDoor

/- The contract of desk's write; no condition but that the box holds a right desk whose lists lie elsewhere, and that the data reads as a list. -/
namespace Go.Proofs.YtcmladgldjcdmaaDoor
open Go.RowKit
set_option linter.unusedVariables false
set_option maxRecDepth 100000
set_option linter.unusedSimpArgs false

/-- What is left when a command was done at the desk in box B: the desk then, and the answer. -/
def Worked (B : Nat) (d : DV) (r : PD × PA) (w : World) (e : Ending) (w' : World) : Prop :=
  (∃ (d' : DV) (a' : AV), e = .returned a'.v ∧ DBox w' B d' ∧ (∀ R, R < w.heap.size → d.off R → d'.off R) ∧ a'.ok w' ∧ a'.new w.heap.size ∧ d'.p = r.1 ∧ a'.p = r.2) ∧ ButI B w w'

theorem DBox.butI {w w' : World} {B R : Nat} {d : DV} (h : DBox w B d) (hb : ButI R w w') (hR : B ≠ R) (ho : d.off R) : DBox w' B d := ⟨h.lay.butI hb hR, h.ok.but hb.but ho, h.off⟩

/-- Is it a write at the wrong place? -/
def lateB (P : List PZ) (x : PC) : Bool := x.k == 6 && (inB x.z 0 3 && x.at' != ((at' P x.z).2.length : Int))
theorem writeD_late {d : PD} {x : PC} (h : lateB d.P x = true) : writeD d x = (d, errA 6) := by
  simp [lateB] at h
  simp [writeD, h]
theorem writeD_not {d : PD} {x : PC} (h : lateB d.P x = false) : writeD d x = if (writeP d.P x.z x.d).2.2 ≠ 0 then (d, errA (writeP d.P x.z x.d).2.2) else (⟨(writeP d.P x.z x.d).1, d.b⟩, ⟨0, (writeP d.P x.z x.d).2.1, []⟩) := by
  have hn : ¬ (x.k = 6 ∧ inB x.z 0 3 = true ∧ x.at' ≠ (at' d.P x.z).2.length) := fun hh => by simp [lateB, hh] at h
  simp only [writeD]
  rw [if_neg hn]

set_option maxHeartbeats 4000000 in
theorem dwrite_c (B : Nat) (d : DV) (ca : Option Addr) (cn cc : Nat) (x : PC) (w : World) (h : DBox w B d) (hx : Ints w ca cn cc x.d) (hz : checkZs d.p.P = 0) :
    Calls Tryd.prog 63 #[.pointer (some ⟨B, 0, none⟩), cmdV ca cn cc x] w fun e w' => Worked B d (writeD d.p x) w e w' := by
  obtain ⟨za, zn, zc, Z, ka, kn, kc, b⟩ := d
  obtain ⟨xk, xz, xn, xt, xd⟩ := x
  have HW := hide (fun w' h' i' => YWrite_f za zn zc Z xz ca cn cc xd w' h' i')
  have hlt := h.lay.lt
  have y0 := h.lay.cell 0 _ rfl
  have HL := hide (fun hh => writeD_late (d := ⟨Z.map ZV.p, b⟩) (x := ⟨xk, xz, xn, xt, xd⟩) hh)
  have HN := hide (fun hh => writeD_not (d := ⟨Z.map ZV.p, b⟩) (x := ⟨xk, xz, xn, xt, xd⟩) hh)
  have HB : Hid (lateB (Z.map ZV.p) ⟨xk, xz, xn, xt, xd⟩ = (xk == 6 && (inB xz 0 3 && xt != ((at' (Z.map ZV.p) xz).2.length : Int)))) := hide rfl
  unfold cmdV
  dsimp only [DV.p] at *
  obtain ⟨h4, zb, off, rfl, hr⟩ := zs_four h.ok.z hz
  dsimp only at h4
  subst h4
  have xR := Lay.made1 w (.cells #[.int .i64 xk, .int .i64 xz, .int .i64 xn, .int .i64 xt, .slice ca cn cc] 32) [.int .i64 0, .int .i64 0, .slice none 0 0] 38
  have bw : Below w.heap.size w ((w.alloc (.cells #[.int .i64 xk, .int .i64 xz, .int .i64 xn, .int .i64 xt, .slice ca cn cc] 32)).alloc (.cells #[.int .i64 0, .int .i64 0, .slice none 0 0] 38)) := by (repeat first | exact bel0 | assumption | refine bel1 ?_ | refine bel2 ?_ | refine bel3 ?_ | refine belowT ?_ (by assumption) | refine bel5 ?_ (by simp; try omega))
  replace y0 := past2 y0
  generalize hlb : lateB (Z.map ZV.p) ⟨xk, xz, xn, xt, xd⟩ = lb at *
  go_enter Tryd.func63, Tryd.ntmps63
  go_upto_region 1 with fail
  go_cut [34] (fun v wx => v = .bool lb ∧ Below ((w.alloc (.cells #[.int .i64 xk, .int .i64 xz, .int .i64 xn, .int .i64 xt, .slice ca cn cc] 32)).alloc (.cells #[.int .i64 0, .int .i64 0, .slice none 0 0] 38)).heap.size ((w.alloc (.cells #[.int .i64 xk, .int .i64 xz, .int .i64 xn, .int .i64 xt, .slice ca cn cc] 32)).alloc (.cells #[.int .i64 0, .int .i64 0, .slice none 0 0] 38)) wx)
  case first =>
    cases hk : xk == 6
    · go_quiet (fail)
      go_wp2_with fail
      go_meet
      case rel => exact ⟨by rw [HB.out, hk]; rfl, by (repeat first | exact bel0 | assumption | refine bel1 ?_ | refine bel2 ?_ | refine bel3 ?_ | refine belowT ?_ (by assumption) | refine bel5 ?_ (by simp; try omega))⟩
    · cases hin : inB xz 0 3
      · have HZ : Hid (∀ w', Calls Tryd.prog 72 #[.slice (some ⟨zb, off, none⟩) 4 zc, .int .i64 xz] w' fun e w'' => e = .returned (.bool false) ∧ w'' = w') := hide (fun w' => by
          have q := hasZone_c (some ⟨zb, off, none⟩) 4 zc xz w' (by omega)
          rw [show inB xz 0 (((4 : Nat) : Int) - 1) = false from hin] at q
          exact q)
        go_quiet (first | (go_at_call 72; exact Calls.quiet_of_same (HZ.out _)))
        go_wp2_with fail
        go_meet
        case rel => exact ⟨by rw [HB.out, hk, hin]; rfl, by (repeat first | exact bel0 | assumption | refine bel1 ?_ | refine bel2 ?_ | refine bel3 ?_ | refine belowT ?_ (by assumption) | refine bel5 ?_ (by simp; try omega))⟩
      · have HZ : Hid (∀ w', Calls Tryd.prog 72 #[.slice (some ⟨zb, off, none⟩) 4 zc, .int .i64 xz] w' fun e w'' => e = .returned (.bool true) ∧ w'' = w') := hide (fun w' => by
          have q := hasZone_c (some ⟨zb, off, none⟩) 4 zc xz w' (by omega)
          rw [show inB xz 0 (((4 : Nat) : Int) - 1) = true from hin] at q
          exact q)
        have hj : 0 ≤ xz ∧ xz ≤ 3 := by simp [inB] at hin; omega
        obtain ⟨j, rfl⟩ := Int.eq_ofNat_of_zero_le hj.1
        have hj4 : (j : Int) < 4 := by omega
        obtain ⟨z, hzz⟩ : ∃ z, Z[j]? = some z := ⟨Z[j]'(by rw [h.ok.z.len]; dsimp only; omega), by simp⟩
        obtain ⟨u0, u1⟩ := hr j z hzz
        have iz := h.ok.z.ok z (List.mem_of_getElem? hzz)
        have zl := hide iz.len
        have zm := iz.max
        have ze := iz.le
        have HA := hide (show at' (Z.map ZV.p) (j : Int) = z.p by simp [at', List.getD, hzz])
        replace u0 := past2 u0
        replace u1 := past2 u1
        cases hne : xt != (z.n : Int)
        all_goals
          go_quiet (first | (go_at_call 72; exact Calls.quiet_of_same (HZ.out _)))
          go_wp2_with fail
          go_meet
          case rel => exact ⟨by rw [HB.out, hk, hin, HA.out]; simp only [ZV.p]; rw [zl.out, hne]; rfl, by (repeat first | exact bel0 | assumption | refine bel1 ?_ | refine bel2 ?_ | refine bel3 ?_ | refine belowT ?_ (by assumption) | refine bel5 ?_ (by simp; try omega))⟩
  case rest =>
    obtain ⟨rfl, hbc⟩ := hcut
    replace xR := xR.below hbc
    replace bw := belowT bw hbc
    have h1 := h.below bw
    have hx1 := hx.below bw (Nat.le_refl _)
    have k0 := keepc hbc (p := ⟨w.heap.size, 0, none⟩) (u := .int .i64 xk) (by go_simp)
    have k1 := keepc hbc (p := ⟨w.heap.size, 1, none⟩) (u := .int .i64 xz) (by go_simp)
    have k2 := keepc hbc (p := ⟨w.heap.size, 2, none⟩) (u := .int .i64 xn) (by go_simp)
    have k3 := keepc hbc (p := ⟨w.heap.size, 3, none⟩) (u := .int .i64 xt) (by go_simp)
    have k4 := keepc hbc (p := ⟨w.heap.size, 4, none⟩) (u := .slice ca cn cc) (by go_simp)
    replace y0 := keepc hbc (y0 _ _)
    have hs := hbc.size
    simp at hs
    clear hbc hr
    have hoR : ∀ R, w.heap.size ≤ R → DV.off R ⟨some ⟨zb, off, none⟩, 4, zc, Z, ka, kn, kc, b⟩ := fun R hR => h.ok.off hR
    cases lb
    · have HN2 := hide (HN.out rfl)
      clear hlb HL HN HB
      go_upto_region 3 with fail
      go_region_held3 (fun w' => w'.cell? ⟨B, 0, none⟩ = some (.slice (some ⟨zb, off, none⟩) 4 zc) ∧ w'.cell? ⟨w.heap.size, 0, none⟩ = some (.int .i64 xk) ∧ w'.cell? ⟨w.heap.size, 1, none⟩ = some (.int .i64 xz) ∧ w'.cell? ⟨w.heap.size, 2, none⟩ = some (.int .i64 xn) ∧ w'.cell? ⟨w.heap.size, 3, none⟩ = some (.int .i64 xt) ∧ w'.cell? ⟨w.heap.size, 4, none⟩ = some (.slice ca cn cc)) ((first | (go_simp; done) | (simp [*, World.cell?_alloc_at, World.cell?_alloc_past, World.cell?_alloc_some, World.cell?_setCell_far]; done))) (first | (go_at_call 74; refine (HW.out _ (by refine Zones.below h1.ok.z (B := wc.heap.size) ?_ (Nat.le_refl _); (repeat first | exact bel0 | assumption | refine bel1 ?_ | refine bel2 ?_ | refine bel3 ?_ | refine belowT ?_ (by assumption) | refine bel5 ?_ (by simp; try omega))) (by refine Ints.below hx1 (B := wc.heap.size) ?_ (Nat.le_refl _); (repeat first | exact bel0 | assumption | refine bel1 ?_ | refine bel2 ?_ | refine bel3 ?_ | refine belowT ?_ (by assumption) | refine bel5 ?_ (by simp; try omega)))).mono ?_; rintro e w1 ⟨⟨a1, n1, c1, Z1, rfl, i1, nz, p1⟩, hb1⟩; (have g0 := keepc hb1 (p := ⟨B, 0, none⟩) (u := .slice (some ⟨zb, off, none⟩) 4 zc) (by (first | (go_simp; done) | (simp [*, World.cell?_alloc_at, World.cell?_alloc_past, World.cell?_alloc_some, World.cell?_setCell_far]; done)))); (have g1 := keepc hb1 (p := ⟨w.heap.size, 0, none⟩) (u := .int .i64 xk) (by (first | (go_simp; done) | (simp [*, World.cell?_alloc_at, World.cell?_alloc_past, World.cell?_alloc_some, World.cell?_setCell_far]; done)))); (have g2 := keepc hb1 (p := ⟨w.heap.size, 1, none⟩) (u := .int .i64 xz) (by (first | (go_simp; done) | (simp [*, World.cell?_alloc_at, World.cell?_alloc_past, World.cell?_alloc_some, World.cell?_setCell_far]; done)))); (have g3 := keepc hb1 (p := ⟨w.heap.size, 2, none⟩) (u := .int .i64 xn) (by (first | (go_simp; done) | (simp [*, World.cell?_alloc_at, World.cell?_alloc_past, World.cell?_alloc_some, World.cell?_setCell_far]; done)))); (have g4 := keepc hb1 (p := ⟨w.heap.size, 3, none⟩) (u := .int .i64 xt) (by (first | (go_simp; done) | (simp [*, World.cell?_alloc_at, World.cell?_alloc_past, World.cell?_alloc_some, World.cell?_setCell_far]; done)))); (have g5 := keepc hb1 (p := ⟨w.heap.size, 4, none⟩) (u := .slice ca cn cc) (by (first | (go_simp; done) | (simp [*, World.cell?_alloc_at, World.cell?_alloc_past, World.cell?_alloc_some, World.cell?_setCell_far]; done))))))
      have bc1 : Below wc.heap.size wc w1 := by (repeat first | exact bel0 | assumption | refine bel1 ?_ | refine bel2 ?_ | refine bel3 ?_ | refine belowT ?_ (by assumption) | refine bel5 ?_ (by simp; try omega))
      have bw1 := belowT bw bc1
      replace xR := xR.below bc1
      replace h1 := h1.below bc1
      have P1 := hide p1
      have hs1 := hb1.size
      have N1 := hide (show NewZ (w.heap.size + 1 + 1) a1 Z1 from ⟨fun x e => Nat.le_trans hs (nz.1 x e), nz.2.mono hs⟩)
      clear p1 nz hb1 y0 k0 k1 k2 k3 k4 bc1
      have q0 := h1.lay.cell 0 _ rfl
      have q1 := h1.lay.ice 0
      have e0 := xR.cell 0 _ rfl
      have e1 := xR.cell 1 _ rfl
      have e2 := xR.cell 2 _ rfl
      have f0 := xR.ice 0
      have f1 := xR.ice 1
      have f2 := xR.ice 2
      generalize hfn : writeP (Z.map ZV.p) xz xd = r at *
      obtain ⟨rP, rt, re⟩ := r
      have HF := hide hfn
      clear hfn
      dsimp only at *
      by_cases he : re = 0
      · subst he
        have h2 := h1.zones i1 N1.out (by omega)
        dsimp only at h2
        have xR2 := xR.far ⟨B, 0, none⟩ (.slice a1 n1 c1) (by simp; omega)
        have b2 := (ButI.of_below (g := B) bw1 (by omega)).step 0 (.slice a1 n1 c1)
        have hBR : B ≠ w.heap.size + 1 := by omega
        have hRB : w.heap.size + 1 ≠ B := by omega
        go_wp2
        have hnew : ∀ R, R < w.heap.size → DV.off R ⟨some ⟨zb, off, none⟩, 4, zc, Z, ka, kn, kc, b⟩ → DV.off R ⟨a1, n1, c1, Z1, ka, kn, kc, b⟩ := fun R hR hd => DV.off_zones hd N1.out (by omega)
        have hoff : DV.off (w.heap.size + 1) ⟨a1, n1, c1, Z1, ka, kn, kc, b⟩ := ⟨.inr fun x e => by have := N1.out.1 x e; omega, fun z hz => .inr fun x e => by have := N1.out.2 z hz x e; omega, (hoR _ (by omega)).k⟩
        generalize w1.setCell ⟨B, 0, none⟩ (.slice a1 n1 c1) = w2 at *
        have xR := xR2
        have zB := ((xR.set 0 (.int .i64 (0))).set 1 (.int .i64 (rt))).set 2 (.slice none 0 0)
        have hbut := (((ButI.refl (w.heap.size + 1) (w2)).step 0 (.int .i64 (0))).step 1 (.int .i64 (rt))).step 2 (.slice none 0 0)
        generalize (((w2).setCell ⟨w.heap.size + 1, 0, none⟩ (.int .i64 (0))).setCell ⟨w.heap.size + 1, 1, none⟩ (.int .i64 (rt))).setCell ⟨w.heap.size + 1, 2, none⟩ (.slice none 0 0) = w9 at *
        have z0 := zB.cell 0 _ rfl
        have z1 := zB.cell 1 _ rfl
        have z2 := zB.cell 2 _ rfl
        exact bodyPost_ret (v := .agg #[.int .i64 0, .int .i64 rt, .slice none 0 0]) (by simp [results, Tryd.results63, go_sem, z0, z1, z2]) rfl
          ⟨⟨⟨a1, n1, c1, Z1, ka, kn, kc, b⟩, ⟨0, rt, none, 0, 0, []⟩, rfl, h2.butI hbut hBR hoff, hnew, Ints.nilSlice _, fun R _ => .inl rfl, by rw [HN2.out]; simp [DV.p, P1.out], by rw [HN2.out]; rfl⟩, b2.own hbut (by omega) (by omega)⟩
      · have he' : (re != 0) = true := by simpa using he
        have HE := hide he
        have hBR : B ≠ w.heap.size + 1 := by omega
        clear he
        go_wp2
        have zB := ((xR.set 0 (.int .i64 (re))).set 1 (.int .i64 (0))).set 2 (.slice none 0 0)
        have hbut := (((ButI.refl (w.heap.size + 1) (w1)).step 0 (.int .i64 (re))).step 1 (.int .i64 (0))).step 2 (.slice none 0 0)
        generalize (((w1).setCell ⟨w.heap.size + 1, 0, none⟩ (.int .i64 (re))).setCell ⟨w.heap.size + 1, 1, none⟩ (.int .i64 (0))).setCell ⟨w.heap.size + 1, 2, none⟩ (.slice none 0 0) = w9 at *
        have z0 := zB.cell 0 _ rfl
        have z1 := zB.cell 1 _ rfl
        have z2 := zB.cell 2 _ rfl
        exact bodyPost_ret (v := .agg #[.int .i64 re, .int .i64 0, .slice none 0 0]) (by simp [results, Tryd.results63, go_sem, z0, z1, z2]) rfl
          ⟨⟨⟨some ⟨zb, off, none⟩, 4, zc, Z, ka, kn, kc, b⟩, AV.err re, rfl, h1.butI hbut hBR (hoR _ (by omega)), fun N _ hd => hd, AV.err_ok _ _, AV.err_new _ _, by rw [HN2.out]; simp [HE.out, DV.p], by rw [HN2.out]; simp [HE.out, AV.err_p]⟩, (ButI.of_below (g := B) bw1 (by omega)).own hbut (by omega) (by omega)⟩
    · have HL2 := hide (HL.out rfl)
      clear hlb HL HN HB
      have e0 := xR.cell 0 _ rfl
      have e1 := xR.cell 1 _ rfl
      have e2 := xR.cell 2 _ rfl
      have f0 := xR.ice 0
      have f1 := xR.ice 1
      have f2 := xR.ice 2
      go_wp2
      have zB := ((xR.set 0 (.int .i64 (6))).set 1 (.int .i64 (0))).set 2 (.slice none 0 0)
      have hbut := (((ButI.refl (w.heap.size + 1) (wc)).step 0 (.int .i64 (6))).step 1 (.int .i64 (0))).step 2 (.slice none 0 0)
      generalize (((wc).setCell ⟨w.heap.size + 1, 0, none⟩ (.int .i64 (6))).setCell ⟨w.heap.size + 1, 1, none⟩ (.int .i64 (0))).setCell ⟨w.heap.size + 1, 2, none⟩ (.slice none 0 0) = w9 at *
      have z0 := zB.cell 0 _ rfl
      have z1 := zB.cell 1 _ rfl
      have z2 := zB.cell 2 _ rfl
      exact bodyPost_ret (v := .agg #[.int .i64 6, .int .i64 0, .slice none 0 0]) (by simp [results, Tryd.results63, go_sem, z0, z1, z2]) rfl
        ⟨⟨⟨some ⟨zb, off, none⟩, 4, zc, Z, ka, kn, kc, b⟩, AV.err 6, rfl, h1.butI hbut (by omega) (hoR _ (by omega)), fun N _ hd => hd, AV.err_ok _ _, AV.err_new _ _, by rw [HL2.out]; rfl, by rw [HL2.out]; rfl⟩, (ButI.of_below (g := B) bw (by omega)).own hbut (by omega) (by omega)⟩

end Go.Proofs.YtcmladgldjcdmaaDoor
