/- HallParts answers true for every list of records and number, and leaves all that was there as it was; no condition but that the package-level variables are as their texts lay them. -/
import Derived.Test.YtenmamcaldabdaaGreatDoorHallPartsG30
import Derived.Test.YtenmamcaldabdaaGreatDoorHallPartsG32
import Derived.Test.YtenmamcaldabdaaGreatDoorHallPartsG37
import Derived.Test.YtenmamcaldabdaaGreatDoorHallPartsG36
import Derived.Test.YtenmamcaldabdaaGreatDoorHallPartsG1
namespace Go.Proofs.YtenmamcaldabdaaGreatDoor
open Go.RowKit
set_option linter.unusedVariables false
set_option maxRecDepth 100000
set_option linter.unusedSimpArgs false

set_option maxRecDepth 100000 in
set_option maxHeartbeats 8000000 in
theorem HallParts_c (la : Option Addr) (ln lc : Nat) (X : List RV) (k : Int) (w : World) (hE : Env w) (hX : Recs w la ln lc X) (hk : -9223372036854775808 ≤ k ∧ k ≤ 9223372036854775807) :
    Calls Tryz.prog 4 #[.slice la ln lc, .int .i64 k] w fun e w' => e = .returned (.bool true) ∧ Below w.heap.size w w' := by
  have hlen := hX.len
  have hmax := hX.max
  have hle := hX.le
  have HRW := hide (fun w' hS' h' => Replay_c la ln lc X w' hS' h')
  have HGO := hide (fun (e : (replayH (X.map RV.p)).2 = 0) => replayH_good e)
  have HPL : Hid ((X.map RV.p).length = ln) := hide (by rw [List.length_map, hlen])
  generalize hrr : replayH (X.map RV.p) = rr at *
  clear hrr
  go_enter Tryz.func4, Tryz.ntmps4
  go_wp2_with fail
  refine (HRW.out _ hE.shp hX).mono ?_
  rintro e w1 ⟨⟨⟨⟨ga, gn, gc, G, gk, gm, gl, gj, gh, gt⟩, gb, go, gp, GM⟩, rfl, ok0, _, p0⟩, hb1⟩
  have P0 := hide p0
  clear p0 HRW
  dsimp only [HV.v]
  go_upto_region 2 with fail
  have xW := Lay.made w1 [.slice ga gn gc, .slice gk gm gl, .int .i64 gh, .int .i64 gt, .slice gb go gp] 30
  have bn := belowA (Below.refl _ w1) (.cells [.slice ga gn gc, .slice gk gm gl, .int .i64 gh, .int .i64 gt, .slice gb go gp].toArray 30)
  have bw := belowT hb1 bn
  replace ok0 := ok0.below bn (Nat.le_refl _)
  clear bn hb1
  generalize w1.heap.size = A at *
  generalize w1.alloc (.cells [.slice ga gn gc, .slice gk gm gl, .int .i64 gh, .int .i64 gt, .slice gb go gp].toArray 30) = w2 at *
  go_wp2_with fail
  refine (once_c _ (hE.shp.below bw)).mono ?_
  rintro e w3 ⟨rfl, hb3⟩
  replace bw := belowT bw hb3
  replace xW := xW.below hb3
  replace ok0 := ok0.below hb3 (Nat.le_refl _)
  clear hb3
  cases hb : rr.2 != 0
  · have h0 : rr.2 = 0 := by simpa using hb
    obtain ⟨h8, hF, hCR⟩ := HGO.out h0
    have h80 : ln ≤ 80 := by have := HPL.out; omega
    obtain ⟨q, hq⟩ : ∃ q : Nat, k % ((ln : Int) + 1) = (q : Int) := ⟨(k % ((ln : Int) + 1)).toNat, by have := Int.emod_nonneg k (b := (ln : Int) + 1) (by omega); omega⟩
    have hqm : q ≤ ln := by have := Int.emod_lt_of_pos k (b := (ln : Int) + 1) (by omega); omega
    have hAt := fun w' => at_c k ((ln : Int) + 1) w' (by omega) (by omega) hk
    rw [hq] at hAt
    have HAt := hide hAt
    have hwm : IntKind.i64.wrap ((ln : Int) + 1) = (ln : Int) + 1 := IntWalk.i64_in _ ⟨by omega, by omega⟩
    have HFF : Hid (replayF freshH (X.map RV.p) = rr) := hide hF
    have HE0 : Hid ((replayF freshH (X.map RV.p)).2 = 0) := hide (by rw [hF]; exact h0)
    have HCR := hide hCR
    obtain ⟨hq1, hst, hrp⟩ := replay_part q (by have := HPL.out; omega) HE0.out
    have HST := hide hst
    have HR2 := hide (fun w' hS' h' => Replay_c la q lc (X.take q) w' hS' h')
    rw [List.map_take, hrp] at HR2
    clear hAt hF hCR hst hrp h8 HGO hlen
    have HQ := hide hq
    clear hq
    go_wp2_with fail
    refine (HAt.out _).mono ?_
    rintro e w3 ⟨rfl, rfl⟩
    clear HAt
    have hk0 : (0 : Int) ≤ (q : Int) := by omega
    have hk1 : (q : Int) ≤ (lc : Int) := by omega
    have hk2 : q ≤ lc := by omega
    have hk3 : ¬ ((q : Int) < 0) := by omega
    have hk4 : ¬ ((lc : Int) < (q : Int)) := by omega
    go_wp2_with fail
    refine (HR2.out _ (hE.shp.below bw) ((hX.below bw (Nat.le_refl _)).take hqm)).mono ?_
    rintro e w4 ⟨⟨⟨⟨na, nn, nc, N, nk, nm, nl, nj, nh, nt⟩, nb, no, np, NM⟩, rfl, ok1, _, p1⟩, hb4⟩
    have P1 := hide p1
    clear p1 HR2
    dsimp only [HV.v]
    replace bw := belowT bw hb4
    replace xW := xW.below hb4
    replace ok0 := ok0.below hb4 (Nat.le_refl _)
    clear hb4
    go_upto_region 6 with fail
    have xN := Lay.made w4 [.slice na nn nc, .slice nk nm nl, .int .i64 nh, .int .i64 nt, .slice nb no np] 30
    have b4 := belowA (Below.refl _ w4) (.cells [.slice na nn nc, .slice nk nm nl, .int .i64 nh, .int .i64 nt, .slice nb no np].toArray 30)
    have hoN := ok1.off (Nat.le_refl w4.heap.size)
    have hwB := bw.size
    have hX4 := hX.below bw (Nat.le_refl _)
    replace ok1 := ok1.below b4 (Nat.le_refl _)
    generalize hszB : w4.heap.size = B at *
    generalize w4.alloc (.cells [.slice na nn nc, .slice nk nm nl, .int .i64 nh, .int .i64 nt, .slice nb no np].toArray 30) = w5 at *
    have hD := hX4.drop hqm
    go_upto_region 8 with fail
    go_cut [43, 44, 45] (fun v n i wx => n = .int .i64 ((ln - q : Nat) : Int) ∧ i = .int .i64 0 ∧ wx = w5 ∧ ∃ ma, v = .slice ma (ln - q) (lc - q) ∧ Recs w4 ma (ln - q) (lc - q) (X.drop q))
    case first =>
      by_cases hcq : lc = q
      · rw [if_pos hcq] at hD
        have hcq' : (lc = q) = True := eq_true hcq
        clear hcq
        go_wp2_with fail
        go_meet
        case rel => exact ⟨rfl, rfl, rfl, _, rfl, hD⟩
      · rw [if_neg hcq] at hD
        go_wp2_with fail
        go_meet
        case rel => exact ⟨rfl, rfl, rfl, _, rfl, hD⟩
    case rest =>
      obtain ⟨rfl, rfl, rfl, ma, rfl, hDD⟩ := hcut
      clear hD
      have HSTA : Hid (replayF freshH ((X.map RV.p).take (q + 0)) = (HV.p ⟨⟨na, nn, nc, N, nk, nm, nl, nj, nh, nt⟩, nb, no, np, NM⟩, 0)) := hide (by rw [P1.out]; exact HST.out)
      clear HST P1
      go_wp2_with fail
      go_loopw [45] (fun i wr => ∃ (j : Nat) (hv : HV), j ≤ ln - q ∧ i = .int .i64 (j : Nat) ∧ Lay wr B hv.cells ∧ hv.ok wr ∧ replayF freshH ((X.map RV.p).take (q + j)) = (hv.p, 0) ∧ Below B w4 wr) (fun i _ => ln - q - (intOf i).toNat)
      case atStart => exact ⟨0, ⟨⟨na, nn, nc, N, nk, nm, nl, nj, nh, nt⟩, nb, no, np, NM⟩, by omega, rfl, xN, ok1, HSTA.out, b4⟩
      case round =>
        clear xN ok1 HSTA b4 hoN
        obtain ⟨j, hv, hj, rfl, xH, hok, hst, b4⟩ := hrel
        rename_i wr
        have HS := hide hst
        have hSr := hE.shp.below (bw.trans (b4.mono hwB))
        by_cases hlt : j < ln - q
        · obtain ⟨x, hx⟩ : ∃ z, X[q + j]? = some z := ⟨X[q + j]'(by have := hX4.len; omega), by simp⟩
          have hxd : (X.drop q)[j]? = some x := by rw [List.getElem?_drop]; exact hx
          obtain ⟨lb, lo, rfl, hlb, hcl⟩ := hDD.row.resolve_left (by omega)
          have kx := hcl j x hxd
          have hxk := RV.ok.below (hX4.ok x (List.mem_of_getElem? hx)) b4 (by omega)
          have hxp : (X.map RV.p)[q + j]? = some x.p := by rw [List.getElem?_map, hx]; rfl
          have HN := hide (fun w' hS' h' k' => Next_c hv x w' hS' h' k')
          have hgo := next_goes hxp hst HE0.out
          have HS1 := hide (replay_step hxp hst hgo)
          have HGO := hide hgo
          clear hgo hst HS hxp hxd hx
          generalize nextH hv.p x.p = nx at *
          obtain ⟨n1, n2, n3⟩ := nx
          have hn3 : n3 = 0 := HGO.out
          subst hn3
          rw [show hv.v = .agg hv.cells.toArray from rfl, show x.v = .agg x.cells.toArray from rfl] at HN
          obtain ⟨⟨xq, xs, ⟨xk, xz, xu, xt, xd⟩⟩, xa, xn, xc⟩ := x
          obtain ⟨⟨za, zn, zc, Z, ka, kn, kc, bk, bh, bt⟩, a, n, c, L⟩ := hv
          dsimp only [RV.cells, HV.cells] at *
          have hlb' : lb < B := by omega
          have c0 := keepl b4 (kx 0 _ rfl) hlb'
          have c1 := keepl b4 (kx 1 _ rfl) hlb'
          have c2 := keepl b4 (kx 2 _ rfl) hlb'
          have c3 := keepl b4 (kx 3 _ rfl) hlb'
          have c4 := keepl b4 (kx 4 _ rfl) hlb'
          have c5 := keepl b4 (kx 5 _ rfl) hlb'
          have c6 := keepl b4 (kx 6 _ rfl) hlb'
          rw [Nat.add_zero] at c0
          have hlt' : (j : Int) < ((ln - q : Nat) : Int) := by omega
          clear kx hcl
          go_upto_region 11 with fail
          have xB := Lay.made wr [.int .i64 xq, .int .i64 xs, .int .i64 xk, .int .i64 xz, .int .i64 xu, .int .i64 xt, .slice xa xn xc] 34
          have bn := belowA (Below.refl _ wr) (.cells [.int .i64 xq, .int .i64 xs, .int .i64 xk, .int .i64 xz, .int .i64 xu, .int .i64 xt, .slice xa xn xc].toArray 34)
          have hBr := xH.lt
          replace xH := xH.below bn
          replace hok := hok.below bn (Nat.le_refl _)
          replace hxk := RV.ok.below hxk bn (Nat.le_refl _)
          replace hSr := hSr.below bn
          replace b4 := b4.trans (bn.mono (Nat.le_of_lt hBr))
          clear bn c0 c1 c2 c3 c4 c5 c6
          generalize wr.alloc (.cells [.int .i64 xq, .int .i64 xs, .int .i64 xk, .int .i64 xz, .int .i64 xu, .int .i64 xt, .slice xa xn xc].toArray 34) = w6 at *
          generalize wr.heap.size = RB at *
          have e0 := xB.cell 0 _ rfl
          have e1 := xB.cell 1 _ rfl
          have e2 := xB.cell 2 _ rfl
          have e3 := xB.cell 3 _ rfl
          have e4 := xB.cell 4 _ rfl
          have e5 := xB.cell 5 _ rfl
          have e6 := xB.cell 6 _ rfl
          have f0 := xB.ice 0
          have f1 := xB.ice 1
          have f2 := xB.ice 2
          have f3 := xB.ice 3
          have f4 := xB.ice 4
          have f5 := xB.ice 5
          have f6 := xB.ice 6
          have q0 := xH.cell 0 _ rfl
          have q1 := xH.cell 1 _ rfl
          have q2 := xH.cell 2 _ rfl
          have q3 := xH.cell 3 _ rfl
          have q4 := xH.cell 4 _ rfl
          go_wp2_with fail
          refine (HN.out _ hSr hok hxk).mono ?_
          rintro e w7 ⟨⟨⟨⟨ya, yn, yc, Y, yk, ym, yl, yj, yh, yt⟩, yb, yo, yp, M⟩, ⟨ae, at', aa, an, ac, ad⟩, rfl, ok2, _, new2, _, p2, _⟩, hb7⟩
          have P2 := hide p2
          have hoB := new2 B (by have := xH.lt; omega)
          replace b4 := b4.trans (hb7.mono (Nat.le_of_lt xH.lt))
          replace xH := xH.below hb7
          clear e0 e1 e2 e3 e4 e5 e6 f0 f1 f2 f3 f4 f5 f6 q0 q1 q2 q3 q4 HN p2 new2 hSr hxk hok xB
          dsimp only [HV.v, AV.v]
          have e0 := xH.cell 0 _ rfl
          have e1 := xH.cell 1 _ rfl
          have e2 := xH.cell 2 _ rfl
          have e3 := xH.cell 3 _ rfl
          have e4 := xH.cell 4 _ rfl
          have f0 := xH.ice 0
          have f1 := xH.ice 1
          have f2 := xH.ice 2
          have f3 := xH.ice 3
          have f4 := xH.ice 4
          go_upto_region 12 with fail
          have zB := ((((xH.set 0 (.slice ya yn yc)).set 1 (.slice yk ym yl)).set 2 (.int .i64 yh)).set 3 (.int .i64 yt)).set 4 (.slice yb yo yp)
          have hbut := (((((ButI.refl (B) w7).step 0 (.slice ya yn yc)).step 1 (.slice yk ym yl)).step 2 (.int .i64 yh)).step 3 (.int .i64 yt)).step 4 (.slice yb yo yp)
          generalize ((((w7.setCell ⟨B, 0, none⟩ (.slice ya yn yc)).setCell ⟨B, 1, none⟩ (.slice yk ym yl)).setCell ⟨B, 2, none⟩ (.int .i64 yh)).setCell ⟨B, 3, none⟩ (.int .i64 yt)).setCell ⟨B, 4, none⟩ (.slice yb yo yp) = w8 at *
          have z0 := zB.cell 0 _ rfl
          have z1 := zB.cell 1 _ rfl
          have z2 := zB.cell 2 _ rfl
          have z3 := zB.cell 3 _ rfl
          have z4 := zB.cell 4 _ rfl
          go_wp2
          exact ⟨⟨j + 1, ⟨⟨ya, yn, yc, Y, yk, ym, yl, yj, yh, yt⟩, yb, yo, yp, M⟩, by omega, by go_num, zB, ok2.but hbut.but hoB, by rw [P2.out]; exact HS1.out, b4.trans (hbut.below (B := B) (Nat.le_refl _))⟩, by simp [intOf]; omega⟩
        · obtain rfl : j = ln - q := by omega
          have hpn : hv.p = rr.1 := by
            have h1 := HS.out
            rw [show q + (ln - q) = ln by omega, ← HPL.out, List.take_length, HFF.out] at h1
            rw [h1]
          have HPN := hide hpn
          have HSM := hide (fun w' h1 h2 => HSame_c hv ⟨⟨ga, gn, gc, G, gk, gm, gl, gj, gh, gt⟩, gb, go, gp, GM⟩ w' h1 h2)
          rw [(sameH_iff _ _).2 (hpn.trans P0.out.symm)] at HSM
          rw [show hv.v = .agg hv.cells.toArray from rfl] at *
          clear HS hpn hst P0 hSr
          have hBr := xH.lt
          obtain ⟨⟨za, zn, zc, Z, ka, kn, kc, bk, bh, bt⟩, a, n, c, L⟩ := hv
          dsimp only [HV.cells, HV.v] at *
          go_upto_region 16 with fail
          have xD := Lay.made wr [.slice none 0 0, .slice none 0 0] 55
          have bw5 := belowA (Below.refl _ wr) (.cells [.slice none 0 0, .slice none 0 0].toArray 55)
          have hBD := xH.lt
          have hszD : wr.heap.size = wr.heap.size := rfl
          generalize hszd : wr.heap.size = D at *
          clear hszD
          generalize wr.alloc (.cells [.slice none 0 0, .slice none 0 0].toArray 55) = w9 at *
          have hB4D : B ≤ D := Nat.le_of_lt hBD
          have HZ0 : Hid ((⟨textL ((X.map RV.p).take 0), []⟩ : PK) = zeroK) := hide rfl
          go_wp2_with fail
          go_loopw [61] (fun i wv => ∃ wz : World, wz = wv ∧ ∃ (j : Nat) (kv : KV), j ≤ ln ∧ i = .int .i64 (j : Nat) ∧ Lay wv D [.slice kv.a kv.n kv.c, .slice kv.b kv.m kv.d] ∧ kv.ok wv ∧ kv.p = ⟨textL ((X.map RV.p).take j), []⟩ ∧ Below D wr wv) (fun i _ => ln - (intOf i).toNat)
          case atStart => exact ⟨_, rfl, 0, KV.zero, by omega, rfl, xD, KV.zero_ok _, rfl, bw5⟩
          case round =>
            clear xD bw5
            obtain ⟨wv, rfl, j, kv, hj, rfl, xD, hkv, hkp, bd⟩ := hrel
            have hDw : D ≤ D := Nat.le_refl _
            have hEv : Env wv := hE.below (bw.trans ((b4.trans (bd.mono hB4D)).mono hwB))
            have b5 : Below B w4 wv := b4.trans (bd.mono hB4D)
            have hpl := HPL.out
            have hcr : ∀ r ∈ (X.map RV.p).take j, checkR r = 0 := fun r hr => HCR.out r (List.mem_of_mem_take hr)
            obtain ⟨kp, ka, kn, kc, kb, km, kd⟩ := kv
            obtain rfl : kp = ⟨textL ((X.map RV.p).take j), []⟩ := hkp
            have HKL : Hid (((X.map RV.p).take j).length = j) := hide (by rw [List.length_take, hpl]; omega)
            obtain ⟨e1, e2⟩ := textL_small (B := []) hcr (by simp) (by rw [HKL.out]; simp; omega)
            obtain ⟨e3, e4⟩ := hkv.small e1 e2
            clear hpl
            dsimp only at xD
            by_cases hlt : j < ln
            · obtain ⟨x, hx⟩ : ∃ z, X[j]? = some z := ⟨X[j]'(by have := hX4.len; omega), by simp⟩
              obtain ⟨lb, lo, rfl, hlb, hcl⟩ := hX4.row.resolve_left (by omega)
              have kx := hcl j x hx
              have hx1 := RV.ok.below (hX4.ok x (List.mem_of_getElem? hx)) b5 (by omega)
              have hxp : (X.map RV.p)[j]? = some x.p := by rw [List.getElem?_map, hx]; rfl
              have hxr := HCR.out _ (List.mem_of_getElem? hxp)
              obtain ⟨s1, s2⟩ := sync_one hcr hxr (by rw [HKL.out]; omega)
              rw [← take_next hxp] at s2
              have hP := fun w' hE h hr => Put_c ⟨⟨textL ((X.map RV.p).take j), []⟩, ka, kn, kc, kb, km, kd⟩ x w' hE h hr e3 e4
              rw [show putK (KV.p ⟨⟨textL ((X.map RV.p).take j), []⟩, ka, kn, kc, kb, km, kd⟩) x.p = _ from s1] at hP
              have S2 := hide s2
              have HC1 : Hid (∀ r ∈ [x.p], checkR r = 0) := hide (by intro r hr; simp at hr; rw [hr]; exact hxr)
              generalize x.p = xp0 at *
              dsimp only [KV.v, RV.v] at hP
              have HP := hide hP
              have HCRJ := hide hcr
              clear hP s1 s2 hxp hxr hx hcr
              obtain ⟨⟨xq, xs, ⟨xk, xz, xu, xt, xd⟩⟩, xa, xn, xc⟩ := x
              dsimp only [RV.cells] at *
              have hlb' : lb < B := by omega
              have c0 := keepl b5 (kx 0 _ rfl) hlb'
              have c1 := keepl b5 (kx 1 _ rfl) hlb'
              have c2 := keepl b5 (kx 2 _ rfl) hlb'
              have c3 := keepl b5 (kx 3 _ rfl) hlb'
              have c4 := keepl b5 (kx 4 _ rfl) hlb'
              have c5 := keepl b5 (kx 5 _ rfl) hlb'
              have c6 := keepl b5 (kx 6 _ rfl) hlb'
              rw [Nat.add_zero] at c0
              have hlt' : (j : Int) < (ln : Int) := by omega
              clear kx hcl
              go_upto_region 19 with fail
              have xB := Lay.made wv [.int .i64 xq, .int .i64 xs, .int .i64 xk, .int .i64 xz, .int .i64 xu, .int .i64 xt, .slice xa xn xc] 34
              have bn := belowA (Below.refl _ wv) (.cells [.int .i64 xq, .int .i64 xs, .int .i64 xk, .int .i64 xz, .int .i64 xu, .int .i64 xt, .slice xa xn xc].toArray 34)
              replace bd := bd.trans (bn.mono (Nat.le_of_lt xD.lt))
              replace xD := xD.below bn
              replace hkv := hkv.below bn
              replace hx1 := RV.ok.below hx1 bn (Nat.le_refl _)
              replace hEv := hEv.below bn
              clear bn c0 c1 c2 c3 c4 c5 c6 b5
              generalize wv.alloc (.cells [.int .i64 xq, .int .i64 xs, .int .i64 xk, .int .i64 xz, .int .i64 xu, .int .i64 xt, .slice xa xn xc].toArray 34) = w10 at *
              generalize wv.heap.size = RB at *
              have e0 := xB.cell 0 _ rfl
              have e1 := xB.cell 1 _ rfl
              have e2 := xB.cell 2 _ rfl
              have e3 := xB.cell 3 _ rfl
              have e4 := xB.cell 4 _ rfl
              have e5 := xB.cell 5 _ rfl
              have e6 := xB.cell 6 _ rfl
              have f0 := xB.ice 0
              have f1 := xB.ice 1
              have f2 := xB.ice 2
              have f3 := xB.ice 3
              have f4 := xB.ice 4
              have f5 := xB.ice 5
              have f6 := xB.ice 6
              have g0 := xD.cell 0 _ rfl
              have g1 := xD.cell 1 _ rfl
              go_wp2_with fail
              refine (HP.out _ hEv hkv hx1).mono ?_
              rintro e w11 ⟨⟨⟨p2, a2, n2, c2, b2, m2, d2⟩, rfl, ep2, ok2, fr2⟩, hb2⟩
              obtain rfl : p2 = ⟨textL ((X.map RV.p).take j), textL [xp0]⟩ := ep2
              dsimp only [KV.v]
              clear e0 e1 e2 e3 e4 e5 e6 f0 f1 f2 f3 f4 f5 f6 g0 g1 HP hkv hx1 xB
              have hDl := xD.lt
              replace hEv := hEv.below hb2
              replace xD := xD.below hb2
              replace bd := bd.trans (hb2.mono (Nat.le_of_lt hDl))
              have fr2' := fr2.mono (show D + 1 ≤ _ from hDl)
              clear hb2 fr2
              have e0 := xD.cell 0 _ rfl
              have e1 := xD.cell 1 _ rfl
              have f0 := xD.ice 0
              have f1 := xD.ice 1
              go_upto_region 20 with fail
              have zD := (xD.set 0 (.slice a2 n2 c2)).set 1 (.slice b2 m2 d2)
              have hbut := ((ButI.refl D w11).step 0 (.slice a2 n2 c2)).step 1 (.slice b2 m2 d2)
              have hE12 := hE.below (bw.trans ((b4.trans ((bd.trans (hbut.below (B := D) (Nat.le_refl _))).mono hB4D)).mono hwB))
              generalize ((w11).setCell ⟨D, 0, none⟩ (.slice a2 n2 c2)).setCell ⟨D, 1, none⟩ (.slice b2 m2 d2) = w12 at *
              have ok3 := KV.ok.but ok2 hbut.but fr2' (Nat.lt_succ_self D)
              replace bd := bd.trans (hbut.below (B := D) (Nat.le_refl _))
              clear xD e0 e1 f0 f1 hbut ok2 hEv hDl fr2'
              obtain ⟨t1, t2⟩ := textL_small HCRJ.out HC1.out (by rw [HKL.out]; simp; omega)
              obtain ⟨t3, t4⟩ := ok3.small t1 t2
              have hS := fun w' hE h => Sync_c ⟨⟨textL ((X.map RV.p).take j), textL [xp0]⟩, a2, n2, c2, b2, m2, d2⟩ w' hE h t3 t4
              rw [show syncK (KV.p ⟨⟨textL ((X.map RV.p).take j), textL [xp0]⟩, a2, n2, c2, b2, m2, d2⟩) = _ from S2.out] at hS
              dsimp only [KV.v] at hS
              have HS := hide hS
              clear hS t1 t2 t3 t4
              have e0 := zD.cell 0 _ rfl
              have e1 := zD.cell 1 _ rfl
              have f0 := zD.ice 0
              have f1 := zD.ice 1
              go_wp2_with fail
              refine (HS.out _ hE12 ok3).mono ?_
              rintro e w13 ⟨⟨⟨p4, a4, n4, c4, b4', m4, d4⟩, rfl, ep4, ok4, fr4⟩, hb4⟩
              obtain rfl : p4 = ⟨textL ((X.map RV.p).take (j + 1)), []⟩ := ep4
              dsimp only [KV.v]
              clear e0 e1 f0 f1 HS ok3 hE12
              have hDl := zD.lt
              have xD := zD.below hb4
              replace bd := bd.trans (hb4.mono (Nat.le_of_lt hDl))
              have fr4' := fr4.mono (show D + 1 ≤ _ from hDl)
              clear hb4 fr4 zD
              have e0 := xD.cell 0 _ rfl
              have e1 := xD.cell 1 _ rfl
              have f0 := xD.ice 0
              have f1 := xD.ice 1
              go_upto_region 23 with fail
              have zD := (xD.set 0 (.slice a4 n4 c4)).set 1 (.slice b4' m4 d4)
              have hbut := ((ButI.refl D w13).step 0 (.slice a4 n4 c4)).step 1 (.slice b4' m4 d4)
              generalize ((w13).setCell ⟨D, 0, none⟩ (.slice a4 n4 c4)).setCell ⟨D, 1, none⟩ (.slice b4' m4 d4) = w14 at *
              go_wp2
              exact ⟨⟨_, rfl, j + 1, ⟨⟨textL ((X.map RV.p).take (j + 1)), []⟩, a4, n4, c4, b4', m4, d4⟩, by omega, by go_num, zD, KV.ok.but ok4 hbut.but fr4' (Nat.lt_succ_self D), rfl, bd.trans (hbut.below (B := D) (Nat.le_refl _))⟩, by simp [intOf]; omega⟩
            · obtain rfl : j = ln := by omega
              have htk : (X.map RV.p).take j = X.map RV.p := by rw [← HPL.out, List.take_length]
              have hkv' : KV.ok wv ⟨⟨textL (X.map RV.p), []⟩, ka, kn, kc, kb, km, kd⟩ := by rw [← htk]; exact hkv
              have hR := fun w' hE h => Recover_c ⟨⟨textL (X.map RV.p), []⟩, ka, kn, kc, kb, km, kd⟩ w' hE h e3 e4
              rw [show recK (KV.p ⟨⟨textL (X.map RV.p), []⟩, ka, kn, kc, kb, km, kd⟩) = _ from recK_again HCR.out (by rw [HPL.out]; omega)] at hR
              dsimp only [KV.v] at hR
              have HR := hide hR
              clear hR htk e1 e2 e3 e4 HKL hcr
              have e0 := xD.cell 0 _ rfl
              have e1 := xD.cell 1 _ rfl
              have f0 := xD.ice 0
              have f1 := xD.ice 1
              go_wp2_with fail
              refine (HR.out _ hEv hkv').mono ?_
              rintro e wA ⟨⟨⟨p9, a9, n9, c9, b9, m9, d9⟩, la9, ln9, lc9, X9, rfl, ep9, ok9, fr9, R9, F9, eX9⟩, hb9⟩
              replace b5 := b5.trans (hb9.mono (by have := xD.lt; omega))
              replace bd := bd.trans (hb9.mono (Nat.le_of_lt xD.lt))
              clear e0 e1 f0 f1 HR hkv hkv' hEv xD fr9 F9 ok9 ep9
              dsimp only [KV.v]
              go_upto_region 27 with fail
              have bn := belowA (Below.refl _ wA) (.cells [.slice a9 n9 c9, .slice b9 m9 d9].toArray 55)
              have hDA := bd.size
              rw [hszd] at hDA
              replace b5 := b5.trans (bn.mono (by omega))
              replace bd := bd.trans (bn.mono hDA)
              replace R9 := R9.below bn (Nat.le_refl _)
              generalize wA.alloc (.cells [.slice a9 n9 c9, .slice b9 m9 d9].toArray 55) = wB at *
              have hAB := xW.lt
              rw [hszB] at hAB
              have xWB := xW.low b5 hAB
              have xHB := xH.low bd hBD
              have okW := ok0.below b5 (Nat.le_of_eq hszB)
              have okN := hok.below bd (Nat.le_of_eq hszd)
              have hXB := hX4.below b5 (Nat.le_of_eq hszB)
              have hln : ln9 = j := by have h1 := congrArg List.length eX9; rw [List.length_map, R9.len, HPL.out] at h1; exact h1
              subst hln
              have hEq := fun w' h1 h2 => EqR_c la9 la ln9 ln9 lc9 lc X9 X w' h1 h2
              rw [sameRs_t eX9] at hEq
              have HEQ := hide hEq
              have bfin := bw.trans (b5.mono hwB)
              clear hEq eX9 bn xW xH ok0 hok hX4 hszB hszd
              have e0 := xHB.cell 0 _ rfl
              have e1 := xHB.cell 1 _ rfl
              have e2 := xHB.cell 2 _ rfl
              have e3 := xHB.cell 3 _ rfl
              have e4 := xHB.cell 4 _ rfl
              have g0 := xWB.cell 0 _ rfl
              have g1 := xWB.cell 1 _ rfl
              have g2 := xWB.cell 2 _ rfl
              have g3 := xWB.cell 3 _ rfl
              have g4 := xWB.cell 4 _ rfl
              go_wp2_with fail
              refine (HSM.out _ okN okW).mono ?_
              rintro e wC ⟨rfl, hbC⟩
              replace R9 := R9.below hbC (Nat.le_refl _)
              replace hXB := hXB.below hbC (Nat.le_refl _)
              replace bfin := belowT bfin hbC
              clear hbC e0 e1 e2 e3 e4 g0 g1 g2 g3 g4
              go_wp2_with fail
              refine (HEQ.out _ R9 hXB).mono ?_
              rintro e wE ⟨rfl, hbE⟩
              go_wp2
              go_ret
              exact ⟨rfl, belowT bfin hbE⟩
  · go_wp2_with fail
    refine (once_c _ (hE.shp.below bw)).mono ?_
    rintro e w5 ⟨rfl, hb5⟩
    go_wp2
    go_ret
    exact ⟨rfl, belowT bw hb5⟩

end Go.Proofs.YtenmamcaldabdaaGreatDoor
