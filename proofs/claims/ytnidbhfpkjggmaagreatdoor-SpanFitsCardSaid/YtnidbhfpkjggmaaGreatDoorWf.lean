import Derived.Test.YtnidbhfpkjggmaaGreatDoorWe
import Derived.Test.YtnidbhfpkjggmaaGreatDoorZj
import Derived.StillTailTactics
import Derived.Deep.DeepCutAuto
set_option linter.all false
/-
  The specification's float: what a call gives.
-/
namespace Go.Proofs.YtnidbhfpkjggmaaGreatDoor
open Go.RowKit
theorem float_zero {o m I F : Nat} {d : Int} (hI : 1 ≤ I) (hd : 1 ≤ d) : Z.floatV o m I F 0 d = Q.mk 0 1 := by
  have hb : ∀ e : Int, Z.below 0 d e = true := fun e => by
    rw [Z.below_iff 0 d e e.toNat (-e).toNat (by omega)]
    have := Int.mul_pos (show 0 < d by omega) (show (0 : Int) < 2 ^ e.toNat by have := Z.p2_pos e.toNat; omega)
    simpa using this
  have hX : Z.expo I F 0 d = -(F : Int) := by
    have h1 := Z.expo_le (I := I) (F := F) (n := 0) (d := d) (y := -(F : Int)) (by omega) (hb _)
    obtain ⟨s1, _⟩ := Z.flx_spec I 0 d (2 * F + 1) (-(F : Int))
    unfold Z.expo at *; omega
  have pI := Z.p2_pos I
  have hM : Z.rndE m 0 d (- -(F : Int)) = 0 := by
    rw [show - -(F : Int) = ((F : Nat) : Int) by omega, Z.rndE_pos, Int.zero_mul]
    have := Z.rnd_exact m 0 d (by omega)
    rwa [Int.zero_mul] at this
  unfold Z.floatV
  rw [hX, if_neg (by omega), hM, if_neg (by omega), Z.pw_zero]
  decide
theorem near_of {n d k B : Int} (h : -B ≤ Z.rndE 0 n d k ∧ Z.rndE 0 n d k ≤ B) (hB : B ≤ 1099511627776) : Z.near n d k = true := by
  unfold Z.near; exact decide_eq_true (by omega)
set_option maxRecDepth 100000 in
set_option maxHeartbeats 16000000 in
theorem rfloat_any (k o : ByteArray) (m I F : Nat) (hm : m ≤ 2) (h : I + F ≤ 30) (n d : Int) (hn : -2305843009213693952 ≤ n ∧ n ≤ 2305843009213693952) (hd : 1 ≤ d ∧ d ≤ 1152921504606846976) (hv : Hid (Z.vld k (rnm m) o (I : Int) (F : Int) = true)) (hI1 : 1 ≤ I) (hI2 : I ≤ 24) (hF20 : F ≤ 20) (hov : Hid ((o.toList == [115, 97, 116]) = false → ovn o = 2)) (w : World) :
    Calls Tryz.prog 168 #[.agg #[.string k, .int .i64 (I : Int), .int .i64 (F : Int), .string (rnm m), .string o], .agg #[.int .i64 n, .int .i64 d]] w fun e w' => e = .returned (.agg #[.int .i64 (Z.floatV (ovn o) m I F n d).1, .int .i64 (Z.floatV (ovn o) m I F n d).2]) ∧ Below w.heap.size w w' := by
  have hB := pb_of h
  have B1 := hB.h
  have B2 := hB.i
  have B3 := hB.f
  clear hB
  have hnmR := Lib.hid (rnmR_eq hm)
  rw [← hnmR.out] at hv ⊢
  by_cases hn0 : n = 0
  · subst hn0
    rw [float_zero hI1 hd.1]
    obtain ⟨a, b, hr⟩ : ∃ a b, Hid (Q.mk 0 1 = (a, b)) := ⟨_, _, rfl⟩
    rw [hr.out]
    go_enter Tryz.func168, Tryz.ntmps168
    go_wp2_with fail
    refine (rwhole_any _ (by omega) _).mono ?_
    rintro e w1 ⟨rfl, hb1⟩
    obtain ⟨hc1, hf1, hz1, hB1⟩ := after (a := w) (B := w.heap.size) (w.heap.size + 3) hb1 (by first | (with_reducible assumption) | (simp; done) | omega | (simp; omega)) bl (by omega)
    rw [hr.out]
    go_wp2
    exact bodyPost_ret (v := .agg #[.int .i64 a, .int .i64 b]) (by simp [results, Tryz.results168, go_sem, hc1]) rfl ⟨rfl, bl⟩
  obtain ⟨X, hE⟩ : ∃ X, Hid (Z.expo I F n d = X) := ⟨_, rfl⟩
  have HX0 : Hid (Z.flx I n d ((F : Int) + 1 - -(F : Int)).toNat (-(F : Int)) = X) := by
    unfold Hid; rw [← hE.out]; unfold Z.expo; congr 1; omega
  have y2 : IntKind.i64.wrap (-(F : Int)) = -(F : Int) := Z.i64_in _ (by omega)
  obtain ⟨a, b, hr⟩ : ∃ a b, Hid (Z.floatV (ovn o) m I F n d = (a, b)) := ⟨_, _, rfl⟩
  rw [hr.out]
  have n0b : (n == 0) = false := by rw [beq_eq_false_iff_ne]; exact hn0
  clear hn0
  go_enter Tryz.func168, Tryz.ntmps168
  go_wp2_with fail
  go_loopw [5] (fun s5 wx => ∃ i : Int, s5 = .int .i64 i ∧ (-(F : Int) ≤ i ∧ i ≤ (F : Int) + 1) ∧ Hid (Z.flx I n d ((F : Int) + 1 - i).toNat i = X) ∧ wx.cell? ⟨w.heap.size, 0, none⟩ = some (.string k) ∧ wx.cell? ⟨w.heap.size, 1, none⟩ = some (.int .i64 (I : Int)) ∧ wx.cell? ⟨w.heap.size, 2, none⟩ = some (.int .i64 (F : Int)) ∧ wx.cell? ⟨w.heap.size, 3, none⟩ = some (.string (rnmR m)) ∧ wx.cell? ⟨w.heap.size, 4, none⟩ = some (.string o) ∧ w.heap.size < wx.heap.size ∧ wx.cell? ⟨w.heap.size + 1, 0, none⟩ = some (.int .i64 n) ∧ wx.cell? ⟨w.heap.size + 1, 1, none⟩ = some (.int .i64 d) ∧ wx.frozen? ⟨w.heap.size + 1, 0, none⟩ = false ∧ wx.frozen? ⟨w.heap.size + 1, 1, none⟩ = false ∧ w.heap.size + 1 < wx.heap.size ∧ wx.cell? ⟨w.heap.size + 2, 0, none⟩ = some (.int .i64 0) ∧ wx.cell? ⟨w.heap.size + 2, 1, none⟩ = some (.int .i64 0) ∧ wx.frozen? ⟨w.heap.size + 2, 0, none⟩ = false ∧ wx.frozen? ⟨w.heap.size + 2, 1, none⟩ = false ∧ w.heap.size + 2 < wx.heap.size ∧ Below w.heap.size w wx) (fun s5 _ => ((F : Int) + 1 - intOf s5).toNat)
  case atStart => (refine ⟨-(F : Int), by first | rfl | go_num, by omega, HX0, ?_, ?_, ?_, ?_, ?_, ?_, ?_, ?_, ?_, ?_, ?_, ?_, ?_, ?_, ?_, ?_, ?_⟩ <;> first | assumption | (simp [go_sem]; done) | (simp [go_sem, *]; done) | omega | (simp; omega) | (repeat' (first | (with_reducible exact Below.refl _ _) | (with_reducible assumption) | (with_reducible refine drewN_below ?_ _) | (with_reducible refine Below.drew ?_) | (with_reducible refine Below.alloc ?_ ?_ _) | (with_reducible refine Below.setCell ?_ ?_ _) | (simp; done) | omega | (simp; omega))))
  case round =>
    obtain ⟨i, rfl, hi, hX, cG0w1, cG1w1, cG2w1, cG3w1, cG4w1, bGw1, cV0w1, cV1w1, zV0w1, zV1w1, bVw1, cR0w1, cR1w1, zR0w1, zR1w1, bRw1, hBw1⟩ := hrel
    have dGw1 : w.heap.size < wr.heap.size + 1 := Nat.lt_succ_of_lt bGw1
    have dVw1 : w.heap.size + 1 < wr.heap.size + 1 := Nat.lt_succ_of_lt bVw1
    have dRw1 : w.heap.size + 2 < wr.heap.size + 1 := Nat.lt_succ_of_lt bRw1
    have zw1 : w.heap.size ≤ wr.heap.size := hBw1.size
    obtain ⟨w1, ew1⟩ : ∃ x, x = wr := ⟨_, rfl⟩
    subst ew1
    by_cases hiF : i = (F : Int) + 1
    · have g0 : decide (i ≤ (F : Int)) = false := decide_eq_false (by omega)
      have g1 : decide ((F : Int) < i) = true := decide_eq_true (by omega)
      have hXF : X = F + 1 := by have := hX.out; rw [show ((F : Int) + 1 - i).toNat = 0 by omega] at this; unfold Z.flx at this; omega
      have hres : Hid (Z.bey (ovn o) false I F (decide (n < 0)) = (a, b)) := by rw [← hr.out]; unfold Z.floatV; rw [hE.out, if_pos hXF]; rfl
      clear hiF hXF hX
      go_wp2_with fail
      refine (rbeyond_any _ _ _ _ _ h _ hov _).mono ?_
      rintro e w2 ⟨rfl, hw2⟩
      have hmw2 : Below w1.heap.size w1 w2 := on_below hw2 bl (by first | (with_reducible assumption) | (simp; done) | omega | (simp; omega))
      have cG0w2 := (hmw2.cell (p := ⟨w.heap.size, 0, none⟩) bGw1).trans cG0w1
      have cG1w2 := (hmw2.cell (p := ⟨w.heap.size, 1, none⟩) bGw1).trans cG1w1
      have cG2w2 := (hmw2.cell (p := ⟨w.heap.size, 2, none⟩) bGw1).trans cG2w1
      have cG3w2 := (hmw2.cell (p := ⟨w.heap.size, 3, none⟩) bGw1).trans cG3w1
      have cG4w2 := (hmw2.cell (p := ⟨w.heap.size, 4, none⟩) bGw1).trans cG4w1
      have bGw2 : w.heap.size < w2.heap.size := Nat.lt_of_lt_of_le bGw1 hmw2.size
      have dGw2 : w.heap.size < w2.heap.size + 1 := Nat.lt_succ_of_lt bGw2
      have cV0w2 := (hmw2.cell (p := ⟨w.heap.size + 1, 0, none⟩) bVw1).trans cV0w1
      have cV1w2 := (hmw2.cell (p := ⟨w.heap.size + 1, 1, none⟩) bVw1).trans cV1w1
      have zV0w2 := (hmw2.frozen (p := ⟨w.heap.size + 1, 0, none⟩) bVw1).trans zV0w1
      have zV1w2 := (hmw2.frozen (p := ⟨w.heap.size + 1, 1, none⟩) bVw1).trans zV1w1
      have bVw2 : w.heap.size + 1 < w2.heap.size := Nat.lt_of_lt_of_le bVw1 hmw2.size
      have dVw2 : w.heap.size + 1 < w2.heap.size + 1 := Nat.lt_succ_of_lt bVw2
      have cR0w2 := (hmw2.cell (p := ⟨w.heap.size + 2, 0, none⟩) bRw1).trans cR0w1
      have cR1w2 := (hmw2.cell (p := ⟨w.heap.size + 2, 1, none⟩) bRw1).trans cR1w1
      have zR0w2 := (hmw2.frozen (p := ⟨w.heap.size + 2, 0, none⟩) bRw1).trans zR0w1
      have zR1w2 := (hmw2.frozen (p := ⟨w.heap.size + 2, 1, none⟩) bRw1).trans zR1w1
      have bRw2 : w.heap.size + 2 < w2.heap.size := Nat.lt_of_lt_of_le bRw1 hmw2.size
      have dRw2 : w.heap.size + 2 < w2.heap.size + 1 := Nat.lt_succ_of_lt bRw2
      have hBw2 : Below w.heap.size w w2 := Below.trans hBw1 (hmw2.mono hBw1.size)
      have zw2 : w.heap.size ≤ w2.heap.size := hBw2.size
      clear hmw2 hw2 zw1 dRw1 dVw1 dGw1 hBw1 bRw1 zR1w1 zR0w1 cR1w1 cR0w1 bVw1 zV1w1 zV0w1 cV1w1 cV0w1 bGw1 cG4w1 cG3w1 cG2w1 cG1w1 cG0w1
      rw [hres.out]
      have cR0z : w2.cell? ⟨w.heap.size + 1 + 1, 0, none⟩ = some (.int .i64 0) := cR0w2
      have cR1z : w2.cell? ⟨w.heap.size + 1 + 1, 1, none⟩ = some (.int .i64 0) := cR1w2
      go_wp2
      exact bodyPost_ret (v := .agg #[.int .i64 a, .int .i64 b]) (by simp [results, Tryz.results168, go_sem, cR0z, cR1z]) rfl ⟨rfl, bl⟩
    · have g0 : decide (i ≤ (F : Int)) = true := decide_eq_true (by omega)
      have g1 : decide ((F : Int) < i) = false := decide_eq_false (by omega)
      cases hb : Z.below n d ((I : Int) + i)
      · have hb' := Lib.hid hb
        have hflx := Lib.hid (show Z.flx I n d ((F : Int) + 1 - (i + 1)).toNat (i + 1) = X by
          have e := hX.out
          rw [show ((F : Int) + 1 - i).toNat = ((F : Int) + 1 - (i + 1)).toNat + 1 by omega] at e
          unfold Z.flx at e
          rw [hb, if_neg (by decide)] at e; exact e)
        clear hX hb
        have y3 : IntKind.i64.wrap (i + 1) = i + 1 := Z.i64_in _ (by omega)
        go_wp2_with fail
        refine (rbelow_any _ _ _ (by omega) hd (by omega) _).mono ?_
        rintro e w2 ⟨rfl, hw2⟩
        have hmw2 : Below w1.heap.size w1 w2 := on_below hw2 bl (by first | (with_reducible assumption) | (simp; done) | omega | (simp; omega))
        have cG0w2 := (hmw2.cell (p := ⟨w.heap.size, 0, none⟩) bGw1).trans cG0w1
        have cG1w2 := (hmw2.cell (p := ⟨w.heap.size, 1, none⟩) bGw1).trans cG1w1
        have cG2w2 := (hmw2.cell (p := ⟨w.heap.size, 2, none⟩) bGw1).trans cG2w1
        have cG3w2 := (hmw2.cell (p := ⟨w.heap.size, 3, none⟩) bGw1).trans cG3w1
        have cG4w2 := (hmw2.cell (p := ⟨w.heap.size, 4, none⟩) bGw1).trans cG4w1
        have bGw2 : w.heap.size < w2.heap.size := Nat.lt_of_lt_of_le bGw1 hmw2.size
        have dGw2 : w.heap.size < w2.heap.size + 1 := Nat.lt_succ_of_lt bGw2
        have cV0w2 := (hmw2.cell (p := ⟨w.heap.size + 1, 0, none⟩) bVw1).trans cV0w1
        have cV1w2 := (hmw2.cell (p := ⟨w.heap.size + 1, 1, none⟩) bVw1).trans cV1w1
        have zV0w2 := (hmw2.frozen (p := ⟨w.heap.size + 1, 0, none⟩) bVw1).trans zV0w1
        have zV1w2 := (hmw2.frozen (p := ⟨w.heap.size + 1, 1, none⟩) bVw1).trans zV1w1
        have bVw2 : w.heap.size + 1 < w2.heap.size := Nat.lt_of_lt_of_le bVw1 hmw2.size
        have dVw2 : w.heap.size + 1 < w2.heap.size + 1 := Nat.lt_succ_of_lt bVw2
        have cR0w2 := (hmw2.cell (p := ⟨w.heap.size + 2, 0, none⟩) bRw1).trans cR0w1
        have cR1w2 := (hmw2.cell (p := ⟨w.heap.size + 2, 1, none⟩) bRw1).trans cR1w1
        have zR0w2 := (hmw2.frozen (p := ⟨w.heap.size + 2, 0, none⟩) bRw1).trans zR0w1
        have zR1w2 := (hmw2.frozen (p := ⟨w.heap.size + 2, 1, none⟩) bRw1).trans zR1w1
        have bRw2 : w.heap.size + 2 < w2.heap.size := Nat.lt_of_lt_of_le bRw1 hmw2.size
        have dRw2 : w.heap.size + 2 < w2.heap.size + 1 := Nat.lt_succ_of_lt bRw2
        have hBw2 : Below w.heap.size w w2 := Below.trans hBw1 (hmw2.mono hBw1.size)
        have zw2 : w.heap.size ≤ w2.heap.size := hBw2.size
        clear hmw2 hw2 zw1 dRw1 dVw1 dGw1 hBw1 bRw1 zR1w1 zR0w1 cR1w1 cR0w1 bVw1 zV1w1 zV0w1 cV1w1 cV0w1 bGw1 cG4w1 cG3w1 cG2w1 cG1w1 cG0w1
        rw [hb'.out]
        go_wp2
        go_roundw
        case rel => (refine ⟨i + 1, by first | rfl | go_num, by omega, hflx, ?_, ?_, ?_, ?_, ?_, ?_, ?_, ?_, ?_, ?_, ?_, ?_, ?_, ?_, ?_, ?_, ?_⟩ <;> first | assumption | (simp [go_sem, *]; done) | omega | (simp; omega) | (repeat' (first | (with_reducible exact Below.refl _ _) | (with_reducible assumption) | (with_reducible refine drewN_below ?_ _) | (with_reducible refine Below.drew ?_) | (with_reducible refine Below.alloc ?_ ?_ _) | (with_reducible refine Below.setCell ?_ ?_ _) | (simp; done) | omega | (simp; omega))))
        case measure => simp [intOf]; omega
      · have hb' := Lib.hid hb
        have hXi : X = i := by
          have e := hX.out
          rw [show ((F : Int) + 1 - i).toNat = ((F : Int) + 1 - (i + 1)).toNat + 1 by omega] at e
          unfold Z.flx at e
          rw [hb, if_pos rfl] at e; exact e.symm
        subst hXi
        clear hb hX
        obtain ⟨q0, _, _, q3⟩ := flo_at (m := m) h hI1 hn hd hE.out (by omega)
        obtain ⟨_, _, _, q4⟩ := flo_at (m := 0) h hI1 hn hd hE.out (by omega)
        have hN := Lib.hid (near_of q4 (by omega))
        clear q4
        obtain ⟨M, hM⟩ : ∃ M, Hid (Z.rndE m n d (-X) = M) := ⟨_, rfl⟩
        rw [hM.out] at q3
        obtain ⟨T2, hT2⟩ : ∃ T2 : Int, Hid ((2 : Int) ^ (I - 1) = T2) := ⟨_, rfl⟩
        have hTT : Hid ((2 : Int) ^ I = 2 * T2) := by unfold Hid; rw [← hT2.out, show I = (I - 1) + 1 by omega, Int.pow_succ, Int.mul_comm]; rfl
        have PWB := Lib.hid (flo_pw (M := M) (X := X) h (by omega) q3)
        have PW2 : X < F → Hid (-4611686018427387904 ≤ T2 * 2 ^ (X + 1).toNat ∧ T2 * 2 ^ (X + 1).toNat ≤ 4611686018427387904) := fun hx => flo_pw (M := T2) (X := X + 1) h (by omega) (by rw [hTT.out]; rw [hTT.out] at B2; omega)
        have PW3 : X < F → Hid (-4611686018427387904 ≤ -T2 * 2 ^ (X + 1).toNat ∧ -T2 * 2 ^ (X + 1).toNat ≤ 4611686018427387904) := fun hx => flo_pw (M := -T2) (X := X + 1) h (by omega) (by rw [hTT.out]; rw [hTT.out] at B2; omega)
        have hfl : Z.floatV (ovn o) m I F n d = if X = F ∧ (M = 2 * T2 ∨ M = -(2 * T2)) then Z.bey (ovn o) false I F (decide (n < 0)) else Z.pw M X := by unfold Z.floatV; rw [hE.out, if_neg (by omega), hM.out, hTT.out]
        have HFL := Lib.hid hfl
        clear hfl
        rw [hTT.out] at q3 B2
        have y5 : IntKind.i64.wrap (-X) = -X := Z.i64_in _ (by omega)
        have y6 : IntKind.i64.wrap (-(2 * T2)) = -(2 * T2) := Z.i64_in _ (by omega)
        have y7 : IntKind.i64.wrap (X + 1) = X + 1 := Z.i64_in _ (by omega)
        have tw1 : ∀ w, Calls Tryz.prog 81 #[.int .i64 (I : Int)] w fun e w' => e = .returned (.int .i64 (2 * T2)) ∧ Below w.heap.size w w' := fun w => by
          have h0 := two_any I (by omega) w
          rw [hTT.out] at h0
          exact h0.mono fun e w' hh => ⟨hh.1, by rw [← hh.2]; exact Below.refl _ _⟩
        by_cases hm1 : M = 2 * T2
        · have t1 : (M == 2 * T2) = true := by rw [beq_iff_eq]; exact hm1
          by_cases hx : X = F
          · have g3 : (X == (F : Int)) = true := by rw [beq_iff_eq]; exact hx
            have hres : Hid (Z.bey (ovn o) false I F (decide (n < 0)) = (a, b)) := by rw [← hr.out, HFL.out, if_pos ⟨hx, Or.inl hm1⟩]; rfl
            clear hm1 hx HFL
            go_wp2_with fail
            refine (rbelow_any _ _ _ (by omega) hd (by omega) _).mono ?_
            rintro e w2 ⟨rfl, hw2⟩
            have hmw2 : Below w1.heap.size w1 w2 := on_below hw2 bl (by first | (with_reducible assumption) | (simp; done) | omega | (simp; omega))
            have cG0w2 := (hmw2.cell (p := ⟨w.heap.size, 0, none⟩) bGw1).trans cG0w1
            have cG1w2 := (hmw2.cell (p := ⟨w.heap.size, 1, none⟩) bGw1).trans cG1w1
            have cG2w2 := (hmw2.cell (p := ⟨w.heap.size, 2, none⟩) bGw1).trans cG2w1
            have cG3w2 := (hmw2.cell (p := ⟨w.heap.size, 3, none⟩) bGw1).trans cG3w1
            have cG4w2 := (hmw2.cell (p := ⟨w.heap.size, 4, none⟩) bGw1).trans cG4w1
            have bGw2 : w.heap.size < w2.heap.size := Nat.lt_of_lt_of_le bGw1 hmw2.size
            have dGw2 : w.heap.size < w2.heap.size + 1 := Nat.lt_succ_of_lt bGw2
            have cV0w2 := (hmw2.cell (p := ⟨w.heap.size + 1, 0, none⟩) bVw1).trans cV0w1
            have cV1w2 := (hmw2.cell (p := ⟨w.heap.size + 1, 1, none⟩) bVw1).trans cV1w1
            have zV0w2 := (hmw2.frozen (p := ⟨w.heap.size + 1, 0, none⟩) bVw1).trans zV0w1
            have zV1w2 := (hmw2.frozen (p := ⟨w.heap.size + 1, 1, none⟩) bVw1).trans zV1w1
            have bVw2 : w.heap.size + 1 < w2.heap.size := Nat.lt_of_lt_of_le bVw1 hmw2.size
            have dVw2 : w.heap.size + 1 < w2.heap.size + 1 := Nat.lt_succ_of_lt bVw2
            have cR0w2 := (hmw2.cell (p := ⟨w.heap.size + 2, 0, none⟩) bRw1).trans cR0w1
            have cR1w2 := (hmw2.cell (p := ⟨w.heap.size + 2, 1, none⟩) bRw1).trans cR1w1
            have zR0w2 := (hmw2.frozen (p := ⟨w.heap.size + 2, 0, none⟩) bRw1).trans zR0w1
            have zR1w2 := (hmw2.frozen (p := ⟨w.heap.size + 2, 1, none⟩) bRw1).trans zR1w1
            have bRw2 : w.heap.size + 2 < w2.heap.size := Nat.lt_of_lt_of_le bRw1 hmw2.size
            have dRw2 : w.heap.size + 2 < w2.heap.size + 1 := Nat.lt_succ_of_lt bRw2
            have hBw2 : Below w.heap.size w w2 := Below.trans hBw1 (hmw2.mono hBw1.size)
            have zw2 : w.heap.size ≤ w2.heap.size := hBw2.size
            clear hmw2 hw2 zw1 dRw1 dVw1 dGw1 hBw1 bRw1 zR1w1 zR0w1 cR1w1 cR0w1 bVw1 zV1w1 zV0w1 cV1w1 cV0w1 bGw1 cG4w1 cG3w1 cG2w1 cG1w1 cG0w1
            rw [hb'.out]
            go_wp2_with fail
            refine (shift_yes m (by omega) _ _ _ (by omega) hd (by omega) hN _).mono ?_
            rintro e w3 ⟨rfl, hw3⟩
            have hmw3 : Below w2.heap.size w2 w3 := on_below hw3 bl (by first | (with_reducible assumption) | (simp; done) | omega | (simp; omega))
            have cG0w3 := (hmw3.cell (p := ⟨w.heap.size, 0, none⟩) bGw2).trans cG0w2
            have cG1w3 := (hmw3.cell (p := ⟨w.heap.size, 1, none⟩) bGw2).trans cG1w2
            have cG2w3 := (hmw3.cell (p := ⟨w.heap.size, 2, none⟩) bGw2).trans cG2w2
            have cG3w3 := (hmw3.cell (p := ⟨w.heap.size, 3, none⟩) bGw2).trans cG3w2
            have cG4w3 := (hmw3.cell (p := ⟨w.heap.size, 4, none⟩) bGw2).trans cG4w2
            have bGw3 : w.heap.size < w3.heap.size := Nat.lt_of_lt_of_le bGw2 hmw3.size
            have dGw3 : w.heap.size < w3.heap.size + 1 := Nat.lt_succ_of_lt bGw3
            have cV0w3 := (hmw3.cell (p := ⟨w.heap.size + 1, 0, none⟩) bVw2).trans cV0w2
            have cV1w3 := (hmw3.cell (p := ⟨w.heap.size + 1, 1, none⟩) bVw2).trans cV1w2
            have zV0w3 := (hmw3.frozen (p := ⟨w.heap.size + 1, 0, none⟩) bVw2).trans zV0w2
            have zV1w3 := (hmw3.frozen (p := ⟨w.heap.size + 1, 1, none⟩) bVw2).trans zV1w2
            have bVw3 : w.heap.size + 1 < w3.heap.size := Nat.lt_of_lt_of_le bVw2 hmw3.size
            have dVw3 : w.heap.size + 1 < w3.heap.size + 1 := Nat.lt_succ_of_lt bVw3
            have cR0w3 := (hmw3.cell (p := ⟨w.heap.size + 2, 0, none⟩) bRw2).trans cR0w2
            have cR1w3 := (hmw3.cell (p := ⟨w.heap.size + 2, 1, none⟩) bRw2).trans cR1w2
            have zR0w3 := (hmw3.frozen (p := ⟨w.heap.size + 2, 0, none⟩) bRw2).trans zR0w2
            have zR1w3 := (hmw3.frozen (p := ⟨w.heap.size + 2, 1, none⟩) bRw2).trans zR1w2
            have bRw3 : w.heap.size + 2 < w3.heap.size := Nat.lt_of_lt_of_le bRw2 hmw3.size
            have dRw3 : w.heap.size + 2 < w3.heap.size + 1 := Nat.lt_succ_of_lt bRw3
            have hBw3 : Below w.heap.size w w3 := Below.trans hBw2 (hmw3.mono hBw2.size)
            have zw3 : w.heap.size ≤ w3.heap.size := hBw3.size
            clear hmw3 hw3 zw2 hBw2 dRw2 bRw2 zR1w2 zR0w2 cR1w2 cR0w2 dVw2 bVw2 zV1w2 zV0w2 cV1w2 cV0w2 dGw2 bGw2 cG4w2 cG3w2 cG2w2 cG1w2 cG0w2
            rw [hM.out]
            go_wp2_with fail
            refine (tw1 _).mono ?_
            rintro e w4 ⟨rfl, hw4⟩
            have hmw4 : Below w3.heap.size w3 w4 := on_below hw4 bl (by first | (with_reducible assumption) | (simp; done) | omega | (simp; omega))
            have cG0w4 := (hmw4.cell (p := ⟨w.heap.size, 0, none⟩) bGw3).trans cG0w3
            have cG1w4 := (hmw4.cell (p := ⟨w.heap.size, 1, none⟩) bGw3).trans cG1w3
            have cG2w4 := (hmw4.cell (p := ⟨w.heap.size, 2, none⟩) bGw3).trans cG2w3
            have cG3w4 := (hmw4.cell (p := ⟨w.heap.size, 3, none⟩) bGw3).trans cG3w3
            have cG4w4 := (hmw4.cell (p := ⟨w.heap.size, 4, none⟩) bGw3).trans cG4w3
            have bGw4 : w.heap.size < w4.heap.size := Nat.lt_of_lt_of_le bGw3 hmw4.size
            have dGw4 : w.heap.size < w4.heap.size + 1 := Nat.lt_succ_of_lt bGw4
            have cV0w4 := (hmw4.cell (p := ⟨w.heap.size + 1, 0, none⟩) bVw3).trans cV0w3
            have cV1w4 := (hmw4.cell (p := ⟨w.heap.size + 1, 1, none⟩) bVw3).trans cV1w3
            have zV0w4 := (hmw4.frozen (p := ⟨w.heap.size + 1, 0, none⟩) bVw3).trans zV0w3
            have zV1w4 := (hmw4.frozen (p := ⟨w.heap.size + 1, 1, none⟩) bVw3).trans zV1w3
            have bVw4 : w.heap.size + 1 < w4.heap.size := Nat.lt_of_lt_of_le bVw3 hmw4.size
            have dVw4 : w.heap.size + 1 < w4.heap.size + 1 := Nat.lt_succ_of_lt bVw4
            have cR0w4 := (hmw4.cell (p := ⟨w.heap.size + 2, 0, none⟩) bRw3).trans cR0w3
            have cR1w4 := (hmw4.cell (p := ⟨w.heap.size + 2, 1, none⟩) bRw3).trans cR1w3
            have zR0w4 := (hmw4.frozen (p := ⟨w.heap.size + 2, 0, none⟩) bRw3).trans zR0w3
            have zR1w4 := (hmw4.frozen (p := ⟨w.heap.size + 2, 1, none⟩) bRw3).trans zR1w3
            have bRw4 : w.heap.size + 2 < w4.heap.size := Nat.lt_of_lt_of_le bRw3 hmw4.size
            have dRw4 : w.heap.size + 2 < w4.heap.size + 1 := Nat.lt_succ_of_lt bRw4
            have hBw4 : Below w.heap.size w w4 := Below.trans hBw3 (hmw4.mono hBw3.size)
            have zw4 : w.heap.size ≤ w4.heap.size := hBw4.size
            clear hmw4 hw4 zw3 hBw3 dRw3 bRw3 zR1w3 zR0w3 cR1w3 cR0w3 dVw3 bVw3 zV1w3 zV0w3 cV1w3 cV0w3 dGw3 bGw3 cG4w3 cG3w3 cG2w3 cG1w3 cG0w3
            go_wp2_with fail
            refine (rbeyond_any _ _ _ _ _ h _ hov _).mono ?_
            rintro e w5 ⟨rfl, hw5⟩
            have hmw5 : Below w4.heap.size w4 w5 := on_below hw5 bl (by first | (with_reducible assumption) | (simp; done) | omega | (simp; omega))
            have cG0w5 := (hmw5.cell (p := ⟨w.heap.size, 0, none⟩) bGw4).trans cG0w4
            have cG1w5 := (hmw5.cell (p := ⟨w.heap.size, 1, none⟩) bGw4).trans cG1w4
            have cG2w5 := (hmw5.cell (p := ⟨w.heap.size, 2, none⟩) bGw4).trans cG2w4
            have cG3w5 := (hmw5.cell (p := ⟨w.heap.size, 3, none⟩) bGw4).trans cG3w4
            have cG4w5 := (hmw5.cell (p := ⟨w.heap.size, 4, none⟩) bGw4).trans cG4w4
            have bGw5 : w.heap.size < w5.heap.size := Nat.lt_of_lt_of_le bGw4 hmw5.size
            have dGw5 : w.heap.size < w5.heap.size + 1 := Nat.lt_succ_of_lt bGw5
            have cV0w5 := (hmw5.cell (p := ⟨w.heap.size + 1, 0, none⟩) bVw4).trans cV0w4
            have cV1w5 := (hmw5.cell (p := ⟨w.heap.size + 1, 1, none⟩) bVw4).trans cV1w4
            have zV0w5 := (hmw5.frozen (p := ⟨w.heap.size + 1, 0, none⟩) bVw4).trans zV0w4
            have zV1w5 := (hmw5.frozen (p := ⟨w.heap.size + 1, 1, none⟩) bVw4).trans zV1w4
            have bVw5 : w.heap.size + 1 < w5.heap.size := Nat.lt_of_lt_of_le bVw4 hmw5.size
            have dVw5 : w.heap.size + 1 < w5.heap.size + 1 := Nat.lt_succ_of_lt bVw5
            have cR0w5 := (hmw5.cell (p := ⟨w.heap.size + 2, 0, none⟩) bRw4).trans cR0w4
            have cR1w5 := (hmw5.cell (p := ⟨w.heap.size + 2, 1, none⟩) bRw4).trans cR1w4
            have zR0w5 := (hmw5.frozen (p := ⟨w.heap.size + 2, 0, none⟩) bRw4).trans zR0w4
            have zR1w5 := (hmw5.frozen (p := ⟨w.heap.size + 2, 1, none⟩) bRw4).trans zR1w4
            have bRw5 : w.heap.size + 2 < w5.heap.size := Nat.lt_of_lt_of_le bRw4 hmw5.size
            have dRw5 : w.heap.size + 2 < w5.heap.size + 1 := Nat.lt_succ_of_lt bRw5
            have hBw5 : Below w.heap.size w w5 := Below.trans hBw4 (hmw5.mono hBw4.size)
            have zw5 : w.heap.size ≤ w5.heap.size := hBw5.size
            clear hmw5 hw5 zw4 hBw4 dRw4 bRw4 zR1w4 zR0w4 cR1w4 cR0w4 dVw4 bVw4 zV1w4 zV0w4 cV1w4 cV0w4 dGw4 bGw4 cG4w4 cG3w4 cG2w4 cG1w4 cG0w4
            rw [hres.out]
            have cR0z : w5.cell? ⟨w.heap.size + 1 + 1, 0, none⟩ = some (.int .i64 0) := cR0w5
            have cR1z : w5.cell? ⟨w.heap.size + 1 + 1, 1, none⟩ = some (.int .i64 0) := cR1w5
            go_wp2
            exact bodyPost_ret (v := .agg #[.int .i64 a, .int .i64 b]) (by simp [results, Tryz.results168, go_sem, cR0z, cR1z]) rfl ⟨rfl, bl⟩
          · have g3 : (X == (F : Int)) = false := by rw [beq_eq_false_iff_ne]; exact hx
            have hres : Hid (Z.pw T2 (X + 1) = (a, b)) := by rw [← hr.out, HFL.out, if_neg (by omega), hm1, Z.pw_carry]; rfl
            have PW9 := PW2 (by omega)
            have y8 : IntKind.i64.wrap (M.tdiv 2) = T2 := by rw [hm1, Int.mul_tdiv_cancel_left _ (by decide)]; exact Z.i64_in _ (by omega)
            have y9 : wrap64 (M.tdiv 2) = T2 := by rw [hm1, Int.mul_tdiv_cancel_left _ (by decide)]; unfold wrap64; omega
            have y10 : M.tdiv 2 = T2 := by rw [hm1, Int.mul_tdiv_cancel_left _ (by decide)]
            have xb : X < F := by omega
            clear hm1 hx HFL
            go_wp2_with fail
            refine (rbelow_any _ _ _ (by omega) hd (by omega) _).mono ?_
            rintro e w2 ⟨rfl, hw2⟩
            have hmw2 : Below w1.heap.size w1 w2 := on_below hw2 bl (by first | (with_reducible assumption) | (simp; done) | omega | (simp; omega))
            have cG0w2 := (hmw2.cell (p := ⟨w.heap.size, 0, none⟩) bGw1).trans cG0w1
            have cG1w2 := (hmw2.cell (p := ⟨w.heap.size, 1, none⟩) bGw1).trans cG1w1
            have cG2w2 := (hmw2.cell (p := ⟨w.heap.size, 2, none⟩) bGw1).trans cG2w1
            have cG3w2 := (hmw2.cell (p := ⟨w.heap.size, 3, none⟩) bGw1).trans cG3w1
            have cG4w2 := (hmw2.cell (p := ⟨w.heap.size, 4, none⟩) bGw1).trans cG4w1
            have bGw2 : w.heap.size < w2.heap.size := Nat.lt_of_lt_of_le bGw1 hmw2.size
            have dGw2 : w.heap.size < w2.heap.size + 1 := Nat.lt_succ_of_lt bGw2
            have cV0w2 := (hmw2.cell (p := ⟨w.heap.size + 1, 0, none⟩) bVw1).trans cV0w1
            have cV1w2 := (hmw2.cell (p := ⟨w.heap.size + 1, 1, none⟩) bVw1).trans cV1w1
            have zV0w2 := (hmw2.frozen (p := ⟨w.heap.size + 1, 0, none⟩) bVw1).trans zV0w1
            have zV1w2 := (hmw2.frozen (p := ⟨w.heap.size + 1, 1, none⟩) bVw1).trans zV1w1
            have bVw2 : w.heap.size + 1 < w2.heap.size := Nat.lt_of_lt_of_le bVw1 hmw2.size
            have dVw2 : w.heap.size + 1 < w2.heap.size + 1 := Nat.lt_succ_of_lt bVw2
            have cR0w2 := (hmw2.cell (p := ⟨w.heap.size + 2, 0, none⟩) bRw1).trans cR0w1
            have cR1w2 := (hmw2.cell (p := ⟨w.heap.size + 2, 1, none⟩) bRw1).trans cR1w1
            have zR0w2 := (hmw2.frozen (p := ⟨w.heap.size + 2, 0, none⟩) bRw1).trans zR0w1
            have zR1w2 := (hmw2.frozen (p := ⟨w.heap.size + 2, 1, none⟩) bRw1).trans zR1w1
            have bRw2 : w.heap.size + 2 < w2.heap.size := Nat.lt_of_lt_of_le bRw1 hmw2.size
            have dRw2 : w.heap.size + 2 < w2.heap.size + 1 := Nat.lt_succ_of_lt bRw2
            have hBw2 : Below w.heap.size w w2 := Below.trans hBw1 (hmw2.mono hBw1.size)
            have zw2 : w.heap.size ≤ w2.heap.size := hBw2.size
            clear hmw2 hw2 zw1 dRw1 dVw1 dGw1 hBw1 bRw1 zR1w1 zR0w1 cR1w1 cR0w1 bVw1 zV1w1 zV0w1 cV1w1 cV0w1 bGw1 cG4w1 cG3w1 cG2w1 cG1w1 cG0w1
            rw [hb'.out]
            go_wp2_with fail
            refine (shift_yes m (by omega) _ _ _ (by omega) hd (by omega) hN _).mono ?_
            rintro e w3 ⟨rfl, hw3⟩
            have hmw3 : Below w2.heap.size w2 w3 := on_below hw3 bl (by first | (with_reducible assumption) | (simp; done) | omega | (simp; omega))
            have cG0w3 := (hmw3.cell (p := ⟨w.heap.size, 0, none⟩) bGw2).trans cG0w2
            have cG1w3 := (hmw3.cell (p := ⟨w.heap.size, 1, none⟩) bGw2).trans cG1w2
            have cG2w3 := (hmw3.cell (p := ⟨w.heap.size, 2, none⟩) bGw2).trans cG2w2
            have cG3w3 := (hmw3.cell (p := ⟨w.heap.size, 3, none⟩) bGw2).trans cG3w2
            have cG4w3 := (hmw3.cell (p := ⟨w.heap.size, 4, none⟩) bGw2).trans cG4w2
            have bGw3 : w.heap.size < w3.heap.size := Nat.lt_of_lt_of_le bGw2 hmw3.size
            have dGw3 : w.heap.size < w3.heap.size + 1 := Nat.lt_succ_of_lt bGw3
            have cV0w3 := (hmw3.cell (p := ⟨w.heap.size + 1, 0, none⟩) bVw2).trans cV0w2
            have cV1w3 := (hmw3.cell (p := ⟨w.heap.size + 1, 1, none⟩) bVw2).trans cV1w2
            have zV0w3 := (hmw3.frozen (p := ⟨w.heap.size + 1, 0, none⟩) bVw2).trans zV0w2
            have zV1w3 := (hmw3.frozen (p := ⟨w.heap.size + 1, 1, none⟩) bVw2).trans zV1w2
            have bVw3 : w.heap.size + 1 < w3.heap.size := Nat.lt_of_lt_of_le bVw2 hmw3.size
            have dVw3 : w.heap.size + 1 < w3.heap.size + 1 := Nat.lt_succ_of_lt bVw3
            have cR0w3 := (hmw3.cell (p := ⟨w.heap.size + 2, 0, none⟩) bRw2).trans cR0w2
            have cR1w3 := (hmw3.cell (p := ⟨w.heap.size + 2, 1, none⟩) bRw2).trans cR1w2
            have zR0w3 := (hmw3.frozen (p := ⟨w.heap.size + 2, 0, none⟩) bRw2).trans zR0w2
            have zR1w3 := (hmw3.frozen (p := ⟨w.heap.size + 2, 1, none⟩) bRw2).trans zR1w2
            have bRw3 : w.heap.size + 2 < w3.heap.size := Nat.lt_of_lt_of_le bRw2 hmw3.size
            have dRw3 : w.heap.size + 2 < w3.heap.size + 1 := Nat.lt_succ_of_lt bRw3
            have hBw3 : Below w.heap.size w w3 := Below.trans hBw2 (hmw3.mono hBw2.size)
            have zw3 : w.heap.size ≤ w3.heap.size := hBw3.size
            clear hmw3 hw3 zw2 hBw2 dRw2 bRw2 zR1w2 zR0w2 cR1w2 cR0w2 dVw2 bVw2 zV1w2 zV0w2 cV1w2 cV0w2 dGw2 bGw2 cG4w2 cG3w2 cG2w2 cG1w2 cG0w2
            rw [hM.out]
            go_wp2_with fail
            refine (tw1 _).mono ?_
            rintro e w4 ⟨rfl, hw4⟩
            have hmw4 : Below w3.heap.size w3 w4 := on_below hw4 bl (by first | (with_reducible assumption) | (simp; done) | omega | (simp; omega))
            have cG0w4 := (hmw4.cell (p := ⟨w.heap.size, 0, none⟩) bGw3).trans cG0w3
            have cG1w4 := (hmw4.cell (p := ⟨w.heap.size, 1, none⟩) bGw3).trans cG1w3
            have cG2w4 := (hmw4.cell (p := ⟨w.heap.size, 2, none⟩) bGw3).trans cG2w3
            have cG3w4 := (hmw4.cell (p := ⟨w.heap.size, 3, none⟩) bGw3).trans cG3w3
            have cG4w4 := (hmw4.cell (p := ⟨w.heap.size, 4, none⟩) bGw3).trans cG4w3
            have bGw4 : w.heap.size < w4.heap.size := Nat.lt_of_lt_of_le bGw3 hmw4.size
            have dGw4 : w.heap.size < w4.heap.size + 1 := Nat.lt_succ_of_lt bGw4
            have cV0w4 := (hmw4.cell (p := ⟨w.heap.size + 1, 0, none⟩) bVw3).trans cV0w3
            have cV1w4 := (hmw4.cell (p := ⟨w.heap.size + 1, 1, none⟩) bVw3).trans cV1w3
            have zV0w4 := (hmw4.frozen (p := ⟨w.heap.size + 1, 0, none⟩) bVw3).trans zV0w3
            have zV1w4 := (hmw4.frozen (p := ⟨w.heap.size + 1, 1, none⟩) bVw3).trans zV1w3
            have bVw4 : w.heap.size + 1 < w4.heap.size := Nat.lt_of_lt_of_le bVw3 hmw4.size
            have dVw4 : w.heap.size + 1 < w4.heap.size + 1 := Nat.lt_succ_of_lt bVw4
            have cR0w4 := (hmw4.cell (p := ⟨w.heap.size + 2, 0, none⟩) bRw3).trans cR0w3
            have cR1w4 := (hmw4.cell (p := ⟨w.heap.size + 2, 1, none⟩) bRw3).trans cR1w3
            have zR0w4 := (hmw4.frozen (p := ⟨w.heap.size + 2, 0, none⟩) bRw3).trans zR0w3
            have zR1w4 := (hmw4.frozen (p := ⟨w.heap.size + 2, 1, none⟩) bRw3).trans zR1w3
            have bRw4 : w.heap.size + 2 < w4.heap.size := Nat.lt_of_lt_of_le bRw3 hmw4.size
            have dRw4 : w.heap.size + 2 < w4.heap.size + 1 := Nat.lt_succ_of_lt bRw4
            have hBw4 : Below w.heap.size w w4 := Below.trans hBw3 (hmw4.mono hBw3.size)
            have zw4 : w.heap.size ≤ w4.heap.size := hBw4.size
            clear hmw4 hw4 zw3 hBw3 dRw3 bRw3 zR1w3 zR0w3 cR1w3 cR0w3 dVw3 bVw3 zV1w3 zV0w3 cV1w3 cV0w3 dGw3 bGw3 cG4w3 cG3w3 cG2w3 cG1w3 cG0w3
            go_wp2_with fail
            refine (rscaled_any _ _ (by omega) PW9.out _).mono ?_
            rintro e w5 ⟨rfl, hw5⟩
            have hmw5 : Below w4.heap.size w4 w5 := on_below hw5 bl (by first | (with_reducible assumption) | (simp; done) | omega | (simp; omega))
            have cG0w5 := (hmw5.cell (p := ⟨w.heap.size, 0, none⟩) bGw4).trans cG0w4
            have cG1w5 := (hmw5.cell (p := ⟨w.heap.size, 1, none⟩) bGw4).trans cG1w4
            have cG2w5 := (hmw5.cell (p := ⟨w.heap.size, 2, none⟩) bGw4).trans cG2w4
            have cG3w5 := (hmw5.cell (p := ⟨w.heap.size, 3, none⟩) bGw4).trans cG3w4
            have cG4w5 := (hmw5.cell (p := ⟨w.heap.size, 4, none⟩) bGw4).trans cG4w4
            have bGw5 : w.heap.size < w5.heap.size := Nat.lt_of_lt_of_le bGw4 hmw5.size
            have dGw5 : w.heap.size < w5.heap.size + 1 := Nat.lt_succ_of_lt bGw5
            have cV0w5 := (hmw5.cell (p := ⟨w.heap.size + 1, 0, none⟩) bVw4).trans cV0w4
            have cV1w5 := (hmw5.cell (p := ⟨w.heap.size + 1, 1, none⟩) bVw4).trans cV1w4
            have zV0w5 := (hmw5.frozen (p := ⟨w.heap.size + 1, 0, none⟩) bVw4).trans zV0w4
            have zV1w5 := (hmw5.frozen (p := ⟨w.heap.size + 1, 1, none⟩) bVw4).trans zV1w4
            have bVw5 : w.heap.size + 1 < w5.heap.size := Nat.lt_of_lt_of_le bVw4 hmw5.size
            have dVw5 : w.heap.size + 1 < w5.heap.size + 1 := Nat.lt_succ_of_lt bVw5
            have cR0w5 := (hmw5.cell (p := ⟨w.heap.size + 2, 0, none⟩) bRw4).trans cR0w4
            have cR1w5 := (hmw5.cell (p := ⟨w.heap.size + 2, 1, none⟩) bRw4).trans cR1w4
            have zR0w5 := (hmw5.frozen (p := ⟨w.heap.size + 2, 0, none⟩) bRw4).trans zR0w4
            have zR1w5 := (hmw5.frozen (p := ⟨w.heap.size + 2, 1, none⟩) bRw4).trans zR1w4
            have bRw5 : w.heap.size + 2 < w5.heap.size := Nat.lt_of_lt_of_le bRw4 hmw5.size
            have dRw5 : w.heap.size + 2 < w5.heap.size + 1 := Nat.lt_succ_of_lt bRw5
            have hBw5 : Below w.heap.size w w5 := Below.trans hBw4 (hmw5.mono hBw4.size)
            have zw5 : w.heap.size ≤ w5.heap.size := hBw5.size
            clear hmw5 hw5 zw4 hBw4 dRw4 bRw4 zR1w4 zR0w4 cR1w4 cR0w4 dVw4 bVw4 zV1w4 zV0w4 cV1w4 cV0w4 dGw4 bGw4 cG4w4 cG3w4 cG2w4 cG1w4 cG0w4
            rw [hres.out]
            have cR0z : w5.cell? ⟨w.heap.size + 1 + 1, 0, none⟩ = some (.int .i64 0) := cR0w5
            have cR1z : w5.cell? ⟨w.heap.size + 1 + 1, 1, none⟩ = some (.int .i64 0) := cR1w5
            go_wp2
            exact bodyPost_ret (v := .agg #[.int .i64 a, .int .i64 b]) (by simp [results, Tryz.results168, go_sem, cR0z, cR1z]) rfl ⟨rfl, bl⟩
        · have t1 : (M == 2 * T2) = false := by rw [beq_eq_false_iff_ne]; exact hm1
          by_cases hm2 : M = -(2 * T2)
          · have t2 : (M == -(2 * T2)) = true := by rw [beq_iff_eq]; exact hm2
            by_cases hx : X = F
            · have g3 : (X == (F : Int)) = true := by rw [beq_iff_eq]; exact hx
              have hres : Hid (Z.bey (ovn o) false I F (decide (n < 0)) = (a, b)) := by rw [← hr.out, HFL.out, if_pos ⟨hx, Or.inr hm2⟩]; rfl
              clear hm1 hm2 hx HFL
              go_wp2_with fail
              refine (rbelow_any _ _ _ (by omega) hd (by omega) _).mono ?_
              rintro e w2 ⟨rfl, hw2⟩
              have hmw2 : Below w1.heap.size w1 w2 := on_below hw2 bl (by first | (with_reducible assumption) | (simp; done) | omega | (simp; omega))
              have cG0w2 := (hmw2.cell (p := ⟨w.heap.size, 0, none⟩) bGw1).trans cG0w1
              have cG1w2 := (hmw2.cell (p := ⟨w.heap.size, 1, none⟩) bGw1).trans cG1w1
              have cG2w2 := (hmw2.cell (p := ⟨w.heap.size, 2, none⟩) bGw1).trans cG2w1
              have cG3w2 := (hmw2.cell (p := ⟨w.heap.size, 3, none⟩) bGw1).trans cG3w1
              have cG4w2 := (hmw2.cell (p := ⟨w.heap.size, 4, none⟩) bGw1).trans cG4w1
              have bGw2 : w.heap.size < w2.heap.size := Nat.lt_of_lt_of_le bGw1 hmw2.size
              have dGw2 : w.heap.size < w2.heap.size + 1 := Nat.lt_succ_of_lt bGw2
              have cV0w2 := (hmw2.cell (p := ⟨w.heap.size + 1, 0, none⟩) bVw1).trans cV0w1
              have cV1w2 := (hmw2.cell (p := ⟨w.heap.size + 1, 1, none⟩) bVw1).trans cV1w1
              have zV0w2 := (hmw2.frozen (p := ⟨w.heap.size + 1, 0, none⟩) bVw1).trans zV0w1
              have zV1w2 := (hmw2.frozen (p := ⟨w.heap.size + 1, 1, none⟩) bVw1).trans zV1w1
              have bVw2 : w.heap.size + 1 < w2.heap.size := Nat.lt_of_lt_of_le bVw1 hmw2.size
              have dVw2 : w.heap.size + 1 < w2.heap.size + 1 := Nat.lt_succ_of_lt bVw2
              have cR0w2 := (hmw2.cell (p := ⟨w.heap.size + 2, 0, none⟩) bRw1).trans cR0w1
              have cR1w2 := (hmw2.cell (p := ⟨w.heap.size + 2, 1, none⟩) bRw1).trans cR1w1
              have zR0w2 := (hmw2.frozen (p := ⟨w.heap.size + 2, 0, none⟩) bRw1).trans zR0w1
              have zR1w2 := (hmw2.frozen (p := ⟨w.heap.size + 2, 1, none⟩) bRw1).trans zR1w1
              have bRw2 : w.heap.size + 2 < w2.heap.size := Nat.lt_of_lt_of_le bRw1 hmw2.size
              have dRw2 : w.heap.size + 2 < w2.heap.size + 1 := Nat.lt_succ_of_lt bRw2
              have hBw2 : Below w.heap.size w w2 := Below.trans hBw1 (hmw2.mono hBw1.size)
              have zw2 : w.heap.size ≤ w2.heap.size := hBw2.size
              clear hmw2 hw2 zw1 dRw1 dVw1 dGw1 hBw1 bRw1 zR1w1 zR0w1 cR1w1 cR0w1 bVw1 zV1w1 zV0w1 cV1w1 cV0w1 bGw1 cG4w1 cG3w1 cG2w1 cG1w1 cG0w1
              rw [hb'.out]
              go_wp2_with fail
              refine (shift_yes m (by omega) _ _ _ (by omega) hd (by omega) hN _).mono ?_
              rintro e w3 ⟨rfl, hw3⟩
              have hmw3 : Below w2.heap.size w2 w3 := on_below hw3 bl (by first | (with_reducible assumption) | (simp; done) | omega | (simp; omega))
              have cG0w3 := (hmw3.cell (p := ⟨w.heap.size, 0, none⟩) bGw2).trans cG0w2
              have cG1w3 := (hmw3.cell (p := ⟨w.heap.size, 1, none⟩) bGw2).trans cG1w2
              have cG2w3 := (hmw3.cell (p := ⟨w.heap.size, 2, none⟩) bGw2).trans cG2w2
              have cG3w3 := (hmw3.cell (p := ⟨w.heap.size, 3, none⟩) bGw2).trans cG3w2
              have cG4w3 := (hmw3.cell (p := ⟨w.heap.size, 4, none⟩) bGw2).trans cG4w2
              have bGw3 : w.heap.size < w3.heap.size := Nat.lt_of_lt_of_le bGw2 hmw3.size
              have dGw3 : w.heap.size < w3.heap.size + 1 := Nat.lt_succ_of_lt bGw3
              have cV0w3 := (hmw3.cell (p := ⟨w.heap.size + 1, 0, none⟩) bVw2).trans cV0w2
              have cV1w3 := (hmw3.cell (p := ⟨w.heap.size + 1, 1, none⟩) bVw2).trans cV1w2
              have zV0w3 := (hmw3.frozen (p := ⟨w.heap.size + 1, 0, none⟩) bVw2).trans zV0w2
              have zV1w3 := (hmw3.frozen (p := ⟨w.heap.size + 1, 1, none⟩) bVw2).trans zV1w2
              have bVw3 : w.heap.size + 1 < w3.heap.size := Nat.lt_of_lt_of_le bVw2 hmw3.size
              have dVw3 : w.heap.size + 1 < w3.heap.size + 1 := Nat.lt_succ_of_lt bVw3
              have cR0w3 := (hmw3.cell (p := ⟨w.heap.size + 2, 0, none⟩) bRw2).trans cR0w2
              have cR1w3 := (hmw3.cell (p := ⟨w.heap.size + 2, 1, none⟩) bRw2).trans cR1w2
              have zR0w3 := (hmw3.frozen (p := ⟨w.heap.size + 2, 0, none⟩) bRw2).trans zR0w2
              have zR1w3 := (hmw3.frozen (p := ⟨w.heap.size + 2, 1, none⟩) bRw2).trans zR1w2
              have bRw3 : w.heap.size + 2 < w3.heap.size := Nat.lt_of_lt_of_le bRw2 hmw3.size
              have dRw3 : w.heap.size + 2 < w3.heap.size + 1 := Nat.lt_succ_of_lt bRw3
              have hBw3 : Below w.heap.size w w3 := Below.trans hBw2 (hmw3.mono hBw2.size)
              have zw3 : w.heap.size ≤ w3.heap.size := hBw3.size
              clear hmw3 hw3 zw2 hBw2 dRw2 bRw2 zR1w2 zR0w2 cR1w2 cR0w2 dVw2 bVw2 zV1w2 zV0w2 cV1w2 cV0w2 dGw2 bGw2 cG4w2 cG3w2 cG2w2 cG1w2 cG0w2
              rw [hM.out]
              go_wp2_with fail
              refine (tw1 _).mono ?_
              rintro e w4 ⟨rfl, hw4⟩
              have hmw4 : Below w3.heap.size w3 w4 := on_below hw4 bl (by first | (with_reducible assumption) | (simp; done) | omega | (simp; omega))
              have cG0w4 := (hmw4.cell (p := ⟨w.heap.size, 0, none⟩) bGw3).trans cG0w3
              have cG1w4 := (hmw4.cell (p := ⟨w.heap.size, 1, none⟩) bGw3).trans cG1w3
              have cG2w4 := (hmw4.cell (p := ⟨w.heap.size, 2, none⟩) bGw3).trans cG2w3
              have cG3w4 := (hmw4.cell (p := ⟨w.heap.size, 3, none⟩) bGw3).trans cG3w3
              have cG4w4 := (hmw4.cell (p := ⟨w.heap.size, 4, none⟩) bGw3).trans cG4w3
              have bGw4 : w.heap.size < w4.heap.size := Nat.lt_of_lt_of_le bGw3 hmw4.size
              have dGw4 : w.heap.size < w4.heap.size + 1 := Nat.lt_succ_of_lt bGw4
              have cV0w4 := (hmw4.cell (p := ⟨w.heap.size + 1, 0, none⟩) bVw3).trans cV0w3
              have cV1w4 := (hmw4.cell (p := ⟨w.heap.size + 1, 1, none⟩) bVw3).trans cV1w3
              have zV0w4 := (hmw4.frozen (p := ⟨w.heap.size + 1, 0, none⟩) bVw3).trans zV0w3
              have zV1w4 := (hmw4.frozen (p := ⟨w.heap.size + 1, 1, none⟩) bVw3).trans zV1w3
              have bVw4 : w.heap.size + 1 < w4.heap.size := Nat.lt_of_lt_of_le bVw3 hmw4.size
              have dVw4 : w.heap.size + 1 < w4.heap.size + 1 := Nat.lt_succ_of_lt bVw4
              have cR0w4 := (hmw4.cell (p := ⟨w.heap.size + 2, 0, none⟩) bRw3).trans cR0w3
              have cR1w4 := (hmw4.cell (p := ⟨w.heap.size + 2, 1, none⟩) bRw3).trans cR1w3
              have zR0w4 := (hmw4.frozen (p := ⟨w.heap.size + 2, 0, none⟩) bRw3).trans zR0w3
              have zR1w4 := (hmw4.frozen (p := ⟨w.heap.size + 2, 1, none⟩) bRw3).trans zR1w3
              have bRw4 : w.heap.size + 2 < w4.heap.size := Nat.lt_of_lt_of_le bRw3 hmw4.size
              have dRw4 : w.heap.size + 2 < w4.heap.size + 1 := Nat.lt_succ_of_lt bRw4
              have hBw4 : Below w.heap.size w w4 := Below.trans hBw3 (hmw4.mono hBw3.size)
              have zw4 : w.heap.size ≤ w4.heap.size := hBw4.size
              clear hmw4 hw4 zw3 hBw3 dRw3 bRw3 zR1w3 zR0w3 cR1w3 cR0w3 dVw3 bVw3 zV1w3 zV0w3 cV1w3 cV0w3 dGw3 bGw3 cG4w3 cG3w3 cG2w3 cG1w3 cG0w3
              go_wp2_with fail
              refine (tw1 _).mono ?_
              rintro e w5 ⟨rfl, hw5⟩
              have hmw5 : Below w4.heap.size w4 w5 := on_below hw5 bl (by first | (with_reducible assumption) | (simp; done) | omega | (simp; omega))
              have cG0w5 := (hmw5.cell (p := ⟨w.heap.size, 0, none⟩) bGw4).trans cG0w4
              have cG1w5 := (hmw5.cell (p := ⟨w.heap.size, 1, none⟩) bGw4).trans cG1w4
              have cG2w5 := (hmw5.cell (p := ⟨w.heap.size, 2, none⟩) bGw4).trans cG2w4
              have cG3w5 := (hmw5.cell (p := ⟨w.heap.size, 3, none⟩) bGw4).trans cG3w4
              have cG4w5 := (hmw5.cell (p := ⟨w.heap.size, 4, none⟩) bGw4).trans cG4w4
              have bGw5 : w.heap.size < w5.heap.size := Nat.lt_of_lt_of_le bGw4 hmw5.size
              have dGw5 : w.heap.size < w5.heap.size + 1 := Nat.lt_succ_of_lt bGw5
              have cV0w5 := (hmw5.cell (p := ⟨w.heap.size + 1, 0, none⟩) bVw4).trans cV0w4
              have cV1w5 := (hmw5.cell (p := ⟨w.heap.size + 1, 1, none⟩) bVw4).trans cV1w4
              have zV0w5 := (hmw5.frozen (p := ⟨w.heap.size + 1, 0, none⟩) bVw4).trans zV0w4
              have zV1w5 := (hmw5.frozen (p := ⟨w.heap.size + 1, 1, none⟩) bVw4).trans zV1w4
              have bVw5 : w.heap.size + 1 < w5.heap.size := Nat.lt_of_lt_of_le bVw4 hmw5.size
              have dVw5 : w.heap.size + 1 < w5.heap.size + 1 := Nat.lt_succ_of_lt bVw5
              have cR0w5 := (hmw5.cell (p := ⟨w.heap.size + 2, 0, none⟩) bRw4).trans cR0w4
              have cR1w5 := (hmw5.cell (p := ⟨w.heap.size + 2, 1, none⟩) bRw4).trans cR1w4
              have zR0w5 := (hmw5.frozen (p := ⟨w.heap.size + 2, 0, none⟩) bRw4).trans zR0w4
              have zR1w5 := (hmw5.frozen (p := ⟨w.heap.size + 2, 1, none⟩) bRw4).trans zR1w4
              have bRw5 : w.heap.size + 2 < w5.heap.size := Nat.lt_of_lt_of_le bRw4 hmw5.size
              have dRw5 : w.heap.size + 2 < w5.heap.size + 1 := Nat.lt_succ_of_lt bRw5
              have hBw5 : Below w.heap.size w w5 := Below.trans hBw4 (hmw5.mono hBw4.size)
              have zw5 : w.heap.size ≤ w5.heap.size := hBw5.size
              clear hmw5 hw5 zw4 hBw4 dRw4 bRw4 zR1w4 zR0w4 cR1w4 cR0w4 dVw4 bVw4 zV1w4 zV0w4 cV1w4 cV0w4 dGw4 bGw4 cG4w4 cG3w4 cG2w4 cG1w4 cG0w4
              go_wp2_with fail
              refine (rbeyond_any _ _ _ _ _ h _ hov _).mono ?_
              rintro e w6 ⟨rfl, hw6⟩
              have hmw6 : Below w5.heap.size w5 w6 := on_below hw6 bl (by first | (with_reducible assumption) | (simp; done) | omega | (simp; omega))
              have cG0w6 := (hmw6.cell (p := ⟨w.heap.size, 0, none⟩) bGw5).trans cG0w5
              have cG1w6 := (hmw6.cell (p := ⟨w.heap.size, 1, none⟩) bGw5).trans cG1w5
              have cG2w6 := (hmw6.cell (p := ⟨w.heap.size, 2, none⟩) bGw5).trans cG2w5
              have cG3w6 := (hmw6.cell (p := ⟨w.heap.size, 3, none⟩) bGw5).trans cG3w5
              have cG4w6 := (hmw6.cell (p := ⟨w.heap.size, 4, none⟩) bGw5).trans cG4w5
              have bGw6 : w.heap.size < w6.heap.size := Nat.lt_of_lt_of_le bGw5 hmw6.size
              have dGw6 : w.heap.size < w6.heap.size + 1 := Nat.lt_succ_of_lt bGw6
              have cV0w6 := (hmw6.cell (p := ⟨w.heap.size + 1, 0, none⟩) bVw5).trans cV0w5
              have cV1w6 := (hmw6.cell (p := ⟨w.heap.size + 1, 1, none⟩) bVw5).trans cV1w5
              have zV0w6 := (hmw6.frozen (p := ⟨w.heap.size + 1, 0, none⟩) bVw5).trans zV0w5
              have zV1w6 := (hmw6.frozen (p := ⟨w.heap.size + 1, 1, none⟩) bVw5).trans zV1w5
              have bVw6 : w.heap.size + 1 < w6.heap.size := Nat.lt_of_lt_of_le bVw5 hmw6.size
              have dVw6 : w.heap.size + 1 < w6.heap.size + 1 := Nat.lt_succ_of_lt bVw6
              have cR0w6 := (hmw6.cell (p := ⟨w.heap.size + 2, 0, none⟩) bRw5).trans cR0w5
              have cR1w6 := (hmw6.cell (p := ⟨w.heap.size + 2, 1, none⟩) bRw5).trans cR1w5
              have zR0w6 := (hmw6.frozen (p := ⟨w.heap.size + 2, 0, none⟩) bRw5).trans zR0w5
              have zR1w6 := (hmw6.frozen (p := ⟨w.heap.size + 2, 1, none⟩) bRw5).trans zR1w5
              have bRw6 : w.heap.size + 2 < w6.heap.size := Nat.lt_of_lt_of_le bRw5 hmw6.size
              have dRw6 : w.heap.size + 2 < w6.heap.size + 1 := Nat.lt_succ_of_lt bRw6
              have hBw6 : Below w.heap.size w w6 := Below.trans hBw5 (hmw6.mono hBw5.size)
              have zw6 : w.heap.size ≤ w6.heap.size := hBw6.size
              clear hmw6 hw6 zw5 hBw5 dRw5 bRw5 zR1w5 zR0w5 cR1w5 cR0w5 dVw5 bVw5 zV1w5 zV0w5 cV1w5 cV0w5 dGw5 bGw5 cG4w5 cG3w5 cG2w5 cG1w5 cG0w5
              rw [hres.out]
              have cR0z : w6.cell? ⟨w.heap.size + 1 + 1, 0, none⟩ = some (.int .i64 0) := cR0w6
              have cR1z : w6.cell? ⟨w.heap.size + 1 + 1, 1, none⟩ = some (.int .i64 0) := cR1w6
              go_wp2
              exact bodyPost_ret (v := .agg #[.int .i64 a, .int .i64 b]) (by simp [results, Tryz.results168, go_sem, cR0z, cR1z]) rfl ⟨rfl, bl⟩
            · have g3 : (X == (F : Int)) = false := by rw [beq_eq_false_iff_ne]; exact hx
              have hres : Hid (Z.pw (-T2) (X + 1) = (a, b)) := by rw [← hr.out, HFL.out, if_neg (by omega), hm2, ← Int.mul_neg, Z.pw_carry]; rfl
              have PW9 := PW3 (by omega)
              have y10 : M.tdiv 2 = -T2 := by rw [hm2, ← Int.mul_neg, Int.mul_tdiv_cancel_left _ (by decide)]
              have y8 : IntKind.i64.wrap (M.tdiv 2) = -T2 := by rw [y10]; exact Z.i64_in _ (by omega)
              have y9 : wrap64 (M.tdiv 2) = -T2 := by rw [y10]; unfold wrap64; omega
              have xb : X < F := by omega
              clear hm1 hm2 hx HFL
              go_wp2_with fail
              refine (rbelow_any _ _ _ (by omega) hd (by omega) _).mono ?_
              rintro e w2 ⟨rfl, hw2⟩
              have hmw2 : Below w1.heap.size w1 w2 := on_below hw2 bl (by first | (with_reducible assumption) | (simp; done) | omega | (simp; omega))
              have cG0w2 := (hmw2.cell (p := ⟨w.heap.size, 0, none⟩) bGw1).trans cG0w1
              have cG1w2 := (hmw2.cell (p := ⟨w.heap.size, 1, none⟩) bGw1).trans cG1w1
              have cG2w2 := (hmw2.cell (p := ⟨w.heap.size, 2, none⟩) bGw1).trans cG2w1
              have cG3w2 := (hmw2.cell (p := ⟨w.heap.size, 3, none⟩) bGw1).trans cG3w1
              have cG4w2 := (hmw2.cell (p := ⟨w.heap.size, 4, none⟩) bGw1).trans cG4w1
              have bGw2 : w.heap.size < w2.heap.size := Nat.lt_of_lt_of_le bGw1 hmw2.size
              have dGw2 : w.heap.size < w2.heap.size + 1 := Nat.lt_succ_of_lt bGw2
              have cV0w2 := (hmw2.cell (p := ⟨w.heap.size + 1, 0, none⟩) bVw1).trans cV0w1
              have cV1w2 := (hmw2.cell (p := ⟨w.heap.size + 1, 1, none⟩) bVw1).trans cV1w1
              have zV0w2 := (hmw2.frozen (p := ⟨w.heap.size + 1, 0, none⟩) bVw1).trans zV0w1
              have zV1w2 := (hmw2.frozen (p := ⟨w.heap.size + 1, 1, none⟩) bVw1).trans zV1w1
              have bVw2 : w.heap.size + 1 < w2.heap.size := Nat.lt_of_lt_of_le bVw1 hmw2.size
              have dVw2 : w.heap.size + 1 < w2.heap.size + 1 := Nat.lt_succ_of_lt bVw2
              have cR0w2 := (hmw2.cell (p := ⟨w.heap.size + 2, 0, none⟩) bRw1).trans cR0w1
              have cR1w2 := (hmw2.cell (p := ⟨w.heap.size + 2, 1, none⟩) bRw1).trans cR1w1
              have zR0w2 := (hmw2.frozen (p := ⟨w.heap.size + 2, 0, none⟩) bRw1).trans zR0w1
              have zR1w2 := (hmw2.frozen (p := ⟨w.heap.size + 2, 1, none⟩) bRw1).trans zR1w1
              have bRw2 : w.heap.size + 2 < w2.heap.size := Nat.lt_of_lt_of_le bRw1 hmw2.size
              have dRw2 : w.heap.size + 2 < w2.heap.size + 1 := Nat.lt_succ_of_lt bRw2
              have hBw2 : Below w.heap.size w w2 := Below.trans hBw1 (hmw2.mono hBw1.size)
              have zw2 : w.heap.size ≤ w2.heap.size := hBw2.size
              clear hmw2 hw2 zw1 dRw1 dVw1 dGw1 hBw1 bRw1 zR1w1 zR0w1 cR1w1 cR0w1 bVw1 zV1w1 zV0w1 cV1w1 cV0w1 bGw1 cG4w1 cG3w1 cG2w1 cG1w1 cG0w1
              rw [hb'.out]
              go_wp2_with fail
              refine (shift_yes m (by omega) _ _ _ (by omega) hd (by omega) hN _).mono ?_
              rintro e w3 ⟨rfl, hw3⟩
              have hmw3 : Below w2.heap.size w2 w3 := on_below hw3 bl (by first | (with_reducible assumption) | (simp; done) | omega | (simp; omega))
              have cG0w3 := (hmw3.cell (p := ⟨w.heap.size, 0, none⟩) bGw2).trans cG0w2
              have cG1w3 := (hmw3.cell (p := ⟨w.heap.size, 1, none⟩) bGw2).trans cG1w2
              have cG2w3 := (hmw3.cell (p := ⟨w.heap.size, 2, none⟩) bGw2).trans cG2w2
              have cG3w3 := (hmw3.cell (p := ⟨w.heap.size, 3, none⟩) bGw2).trans cG3w2
              have cG4w3 := (hmw3.cell (p := ⟨w.heap.size, 4, none⟩) bGw2).trans cG4w2
              have bGw3 : w.heap.size < w3.heap.size := Nat.lt_of_lt_of_le bGw2 hmw3.size
              have dGw3 : w.heap.size < w3.heap.size + 1 := Nat.lt_succ_of_lt bGw3
              have cV0w3 := (hmw3.cell (p := ⟨w.heap.size + 1, 0, none⟩) bVw2).trans cV0w2
              have cV1w3 := (hmw3.cell (p := ⟨w.heap.size + 1, 1, none⟩) bVw2).trans cV1w2
              have zV0w3 := (hmw3.frozen (p := ⟨w.heap.size + 1, 0, none⟩) bVw2).trans zV0w2
              have zV1w3 := (hmw3.frozen (p := ⟨w.heap.size + 1, 1, none⟩) bVw2).trans zV1w2
              have bVw3 : w.heap.size + 1 < w3.heap.size := Nat.lt_of_lt_of_le bVw2 hmw3.size
              have dVw3 : w.heap.size + 1 < w3.heap.size + 1 := Nat.lt_succ_of_lt bVw3
              have cR0w3 := (hmw3.cell (p := ⟨w.heap.size + 2, 0, none⟩) bRw2).trans cR0w2
              have cR1w3 := (hmw3.cell (p := ⟨w.heap.size + 2, 1, none⟩) bRw2).trans cR1w2
              have zR0w3 := (hmw3.frozen (p := ⟨w.heap.size + 2, 0, none⟩) bRw2).trans zR0w2
              have zR1w3 := (hmw3.frozen (p := ⟨w.heap.size + 2, 1, none⟩) bRw2).trans zR1w2
              have bRw3 : w.heap.size + 2 < w3.heap.size := Nat.lt_of_lt_of_le bRw2 hmw3.size
              have dRw3 : w.heap.size + 2 < w3.heap.size + 1 := Nat.lt_succ_of_lt bRw3
              have hBw3 : Below w.heap.size w w3 := Below.trans hBw2 (hmw3.mono hBw2.size)
              have zw3 : w.heap.size ≤ w3.heap.size := hBw3.size
              clear hmw3 hw3 zw2 hBw2 dRw2 bRw2 zR1w2 zR0w2 cR1w2 cR0w2 dVw2 bVw2 zV1w2 zV0w2 cV1w2 cV0w2 dGw2 bGw2 cG4w2 cG3w2 cG2w2 cG1w2 cG0w2
              rw [hM.out]
              go_wp2_with fail
              refine (tw1 _).mono ?_
              rintro e w4 ⟨rfl, hw4⟩
              have hmw4 : Below w3.heap.size w3 w4 := on_below hw4 bl (by first | (with_reducible assumption) | (simp; done) | omega | (simp; omega))
              have cG0w4 := (hmw4.cell (p := ⟨w.heap.size, 0, none⟩) bGw3).trans cG0w3
              have cG1w4 := (hmw4.cell (p := ⟨w.heap.size, 1, none⟩) bGw3).trans cG1w3
              have cG2w4 := (hmw4.cell (p := ⟨w.heap.size, 2, none⟩) bGw3).trans cG2w3
              have cG3w4 := (hmw4.cell (p := ⟨w.heap.size, 3, none⟩) bGw3).trans cG3w3
              have cG4w4 := (hmw4.cell (p := ⟨w.heap.size, 4, none⟩) bGw3).trans cG4w3
              have bGw4 : w.heap.size < w4.heap.size := Nat.lt_of_lt_of_le bGw3 hmw4.size
              have dGw4 : w.heap.size < w4.heap.size + 1 := Nat.lt_succ_of_lt bGw4
              have cV0w4 := (hmw4.cell (p := ⟨w.heap.size + 1, 0, none⟩) bVw3).trans cV0w3
              have cV1w4 := (hmw4.cell (p := ⟨w.heap.size + 1, 1, none⟩) bVw3).trans cV1w3
              have zV0w4 := (hmw4.frozen (p := ⟨w.heap.size + 1, 0, none⟩) bVw3).trans zV0w3
              have zV1w4 := (hmw4.frozen (p := ⟨w.heap.size + 1, 1, none⟩) bVw3).trans zV1w3
              have bVw4 : w.heap.size + 1 < w4.heap.size := Nat.lt_of_lt_of_le bVw3 hmw4.size
              have dVw4 : w.heap.size + 1 < w4.heap.size + 1 := Nat.lt_succ_of_lt bVw4
              have cR0w4 := (hmw4.cell (p := ⟨w.heap.size + 2, 0, none⟩) bRw3).trans cR0w3
              have cR1w4 := (hmw4.cell (p := ⟨w.heap.size + 2, 1, none⟩) bRw3).trans cR1w3
              have zR0w4 := (hmw4.frozen (p := ⟨w.heap.size + 2, 0, none⟩) bRw3).trans zR0w3
              have zR1w4 := (hmw4.frozen (p := ⟨w.heap.size + 2, 1, none⟩) bRw3).trans zR1w3
              have bRw4 : w.heap.size + 2 < w4.heap.size := Nat.lt_of_lt_of_le bRw3 hmw4.size
              have dRw4 : w.heap.size + 2 < w4.heap.size + 1 := Nat.lt_succ_of_lt bRw4
              have hBw4 : Below w.heap.size w w4 := Below.trans hBw3 (hmw4.mono hBw3.size)
              have zw4 : w.heap.size ≤ w4.heap.size := hBw4.size
              clear hmw4 hw4 zw3 hBw3 dRw3 bRw3 zR1w3 zR0w3 cR1w3 cR0w3 dVw3 bVw3 zV1w3 zV0w3 cV1w3 cV0w3 dGw3 bGw3 cG4w3 cG3w3 cG2w3 cG1w3 cG0w3
              go_wp2_with fail
              refine (tw1 _).mono ?_
              rintro e w5 ⟨rfl, hw5⟩
              have hmw5 : Below w4.heap.size w4 w5 := on_below hw5 bl (by first | (with_reducible assumption) | (simp; done) | omega | (simp; omega))
              have cG0w5 := (hmw5.cell (p := ⟨w.heap.size, 0, none⟩) bGw4).trans cG0w4
              have cG1w5 := (hmw5.cell (p := ⟨w.heap.size, 1, none⟩) bGw4).trans cG1w4
              have cG2w5 := (hmw5.cell (p := ⟨w.heap.size, 2, none⟩) bGw4).trans cG2w4
              have cG3w5 := (hmw5.cell (p := ⟨w.heap.size, 3, none⟩) bGw4).trans cG3w4
              have cG4w5 := (hmw5.cell (p := ⟨w.heap.size, 4, none⟩) bGw4).trans cG4w4
              have bGw5 : w.heap.size < w5.heap.size := Nat.lt_of_lt_of_le bGw4 hmw5.size
              have dGw5 : w.heap.size < w5.heap.size + 1 := Nat.lt_succ_of_lt bGw5
              have cV0w5 := (hmw5.cell (p := ⟨w.heap.size + 1, 0, none⟩) bVw4).trans cV0w4
              have cV1w5 := (hmw5.cell (p := ⟨w.heap.size + 1, 1, none⟩) bVw4).trans cV1w4
              have zV0w5 := (hmw5.frozen (p := ⟨w.heap.size + 1, 0, none⟩) bVw4).trans zV0w4
              have zV1w5 := (hmw5.frozen (p := ⟨w.heap.size + 1, 1, none⟩) bVw4).trans zV1w4
              have bVw5 : w.heap.size + 1 < w5.heap.size := Nat.lt_of_lt_of_le bVw4 hmw5.size
              have dVw5 : w.heap.size + 1 < w5.heap.size + 1 := Nat.lt_succ_of_lt bVw5
              have cR0w5 := (hmw5.cell (p := ⟨w.heap.size + 2, 0, none⟩) bRw4).trans cR0w4
              have cR1w5 := (hmw5.cell (p := ⟨w.heap.size + 2, 1, none⟩) bRw4).trans cR1w4
              have zR0w5 := (hmw5.frozen (p := ⟨w.heap.size + 2, 0, none⟩) bRw4).trans zR0w4
              have zR1w5 := (hmw5.frozen (p := ⟨w.heap.size + 2, 1, none⟩) bRw4).trans zR1w4
              have bRw5 : w.heap.size + 2 < w5.heap.size := Nat.lt_of_lt_of_le bRw4 hmw5.size
              have dRw5 : w.heap.size + 2 < w5.heap.size + 1 := Nat.lt_succ_of_lt bRw5
              have hBw5 : Below w.heap.size w w5 := Below.trans hBw4 (hmw5.mono hBw4.size)
              have zw5 : w.heap.size ≤ w5.heap.size := hBw5.size
              clear hmw5 hw5 zw4 hBw4 dRw4 bRw4 zR1w4 zR0w4 cR1w4 cR0w4 dVw4 bVw4 zV1w4 zV0w4 cV1w4 cV0w4 dGw4 bGw4 cG4w4 cG3w4 cG2w4 cG1w4 cG0w4
              go_wp2_with fail
              refine (rscaled_any _ _ (by omega) PW9.out _).mono ?_
              rintro e w6 ⟨rfl, hw6⟩
              have hmw6 : Below w5.heap.size w5 w6 := on_below hw6 bl (by first | (with_reducible assumption) | (simp; done) | omega | (simp; omega))
              have cG0w6 := (hmw6.cell (p := ⟨w.heap.size, 0, none⟩) bGw5).trans cG0w5
              have cG1w6 := (hmw6.cell (p := ⟨w.heap.size, 1, none⟩) bGw5).trans cG1w5
              have cG2w6 := (hmw6.cell (p := ⟨w.heap.size, 2, none⟩) bGw5).trans cG2w5
              have cG3w6 := (hmw6.cell (p := ⟨w.heap.size, 3, none⟩) bGw5).trans cG3w5
              have cG4w6 := (hmw6.cell (p := ⟨w.heap.size, 4, none⟩) bGw5).trans cG4w5
              have bGw6 : w.heap.size < w6.heap.size := Nat.lt_of_lt_of_le bGw5 hmw6.size
              have dGw6 : w.heap.size < w6.heap.size + 1 := Nat.lt_succ_of_lt bGw6
              have cV0w6 := (hmw6.cell (p := ⟨w.heap.size + 1, 0, none⟩) bVw5).trans cV0w5
              have cV1w6 := (hmw6.cell (p := ⟨w.heap.size + 1, 1, none⟩) bVw5).trans cV1w5
              have zV0w6 := (hmw6.frozen (p := ⟨w.heap.size + 1, 0, none⟩) bVw5).trans zV0w5
              have zV1w6 := (hmw6.frozen (p := ⟨w.heap.size + 1, 1, none⟩) bVw5).trans zV1w5
              have bVw6 : w.heap.size + 1 < w6.heap.size := Nat.lt_of_lt_of_le bVw5 hmw6.size
              have dVw6 : w.heap.size + 1 < w6.heap.size + 1 := Nat.lt_succ_of_lt bVw6
              have cR0w6 := (hmw6.cell (p := ⟨w.heap.size + 2, 0, none⟩) bRw5).trans cR0w5
              have cR1w6 := (hmw6.cell (p := ⟨w.heap.size + 2, 1, none⟩) bRw5).trans cR1w5
              have zR0w6 := (hmw6.frozen (p := ⟨w.heap.size + 2, 0, none⟩) bRw5).trans zR0w5
              have zR1w6 := (hmw6.frozen (p := ⟨w.heap.size + 2, 1, none⟩) bRw5).trans zR1w5
              have bRw6 : w.heap.size + 2 < w6.heap.size := Nat.lt_of_lt_of_le bRw5 hmw6.size
              have dRw6 : w.heap.size + 2 < w6.heap.size + 1 := Nat.lt_succ_of_lt bRw6
              have hBw6 : Below w.heap.size w w6 := Below.trans hBw5 (hmw6.mono hBw5.size)
              have zw6 : w.heap.size ≤ w6.heap.size := hBw6.size
              clear hmw6 hw6 zw5 hBw5 dRw5 bRw5 zR1w5 zR0w5 cR1w5 cR0w5 dVw5 bVw5 zV1w5 zV0w5 cV1w5 cV0w5 dGw5 bGw5 cG4w5 cG3w5 cG2w5 cG1w5 cG0w5
              rw [hres.out]
              have cR0z : w6.cell? ⟨w.heap.size + 1 + 1, 0, none⟩ = some (.int .i64 0) := cR0w6
              have cR1z : w6.cell? ⟨w.heap.size + 1 + 1, 1, none⟩ = some (.int .i64 0) := cR1w6
              go_wp2
              exact bodyPost_ret (v := .agg #[.int .i64 a, .int .i64 b]) (by simp [results, Tryz.results168, go_sem, cR0z, cR1z]) rfl ⟨rfl, bl⟩
          · have t2 : (M == -(2 * T2)) = false := by rw [beq_eq_false_iff_ne]; exact hm2
            have hres : Hid (Z.pw M X = (a, b)) := by rw [← hr.out, HFL.out, if_neg (by omega)]; rfl
            clear hm1 hm2 HFL
            go_wp2_with fail
            refine (rbelow_any _ _ _ (by omega) hd (by omega) _).mono ?_
            rintro e w2 ⟨rfl, hw2⟩
            have hmw2 : Below w1.heap.size w1 w2 := on_below hw2 bl (by first | (with_reducible assumption) | (simp; done) | omega | (simp; omega))
            have cG0w2 := (hmw2.cell (p := ⟨w.heap.size, 0, none⟩) bGw1).trans cG0w1
            have cG1w2 := (hmw2.cell (p := ⟨w.heap.size, 1, none⟩) bGw1).trans cG1w1
            have cG2w2 := (hmw2.cell (p := ⟨w.heap.size, 2, none⟩) bGw1).trans cG2w1
            have cG3w2 := (hmw2.cell (p := ⟨w.heap.size, 3, none⟩) bGw1).trans cG3w1
            have cG4w2 := (hmw2.cell (p := ⟨w.heap.size, 4, none⟩) bGw1).trans cG4w1
            have bGw2 : w.heap.size < w2.heap.size := Nat.lt_of_lt_of_le bGw1 hmw2.size
            have dGw2 : w.heap.size < w2.heap.size + 1 := Nat.lt_succ_of_lt bGw2
            have cV0w2 := (hmw2.cell (p := ⟨w.heap.size + 1, 0, none⟩) bVw1).trans cV0w1
            have cV1w2 := (hmw2.cell (p := ⟨w.heap.size + 1, 1, none⟩) bVw1).trans cV1w1
            have zV0w2 := (hmw2.frozen (p := ⟨w.heap.size + 1, 0, none⟩) bVw1).trans zV0w1
            have zV1w2 := (hmw2.frozen (p := ⟨w.heap.size + 1, 1, none⟩) bVw1).trans zV1w1
            have bVw2 : w.heap.size + 1 < w2.heap.size := Nat.lt_of_lt_of_le bVw1 hmw2.size
            have dVw2 : w.heap.size + 1 < w2.heap.size + 1 := Nat.lt_succ_of_lt bVw2
            have cR0w2 := (hmw2.cell (p := ⟨w.heap.size + 2, 0, none⟩) bRw1).trans cR0w1
            have cR1w2 := (hmw2.cell (p := ⟨w.heap.size + 2, 1, none⟩) bRw1).trans cR1w1
            have zR0w2 := (hmw2.frozen (p := ⟨w.heap.size + 2, 0, none⟩) bRw1).trans zR0w1
            have zR1w2 := (hmw2.frozen (p := ⟨w.heap.size + 2, 1, none⟩) bRw1).trans zR1w1
            have bRw2 : w.heap.size + 2 < w2.heap.size := Nat.lt_of_lt_of_le bRw1 hmw2.size
            have dRw2 : w.heap.size + 2 < w2.heap.size + 1 := Nat.lt_succ_of_lt bRw2
            have hBw2 : Below w.heap.size w w2 := Below.trans hBw1 (hmw2.mono hBw1.size)
            have zw2 : w.heap.size ≤ w2.heap.size := hBw2.size
            clear hmw2 hw2 zw1 dRw1 dVw1 dGw1 hBw1 bRw1 zR1w1 zR0w1 cR1w1 cR0w1 bVw1 zV1w1 zV0w1 cV1w1 cV0w1 bGw1 cG4w1 cG3w1 cG2w1 cG1w1 cG0w1
            rw [hb'.out]
            go_wp2_with fail
            refine (shift_yes m (by omega) _ _ _ (by omega) hd (by omega) hN _).mono ?_
            rintro e w3 ⟨rfl, hw3⟩
            have hmw3 : Below w2.heap.size w2 w3 := on_below hw3 bl (by first | (with_reducible assumption) | (simp; done) | omega | (simp; omega))
            have cG0w3 := (hmw3.cell (p := ⟨w.heap.size, 0, none⟩) bGw2).trans cG0w2
            have cG1w3 := (hmw3.cell (p := ⟨w.heap.size, 1, none⟩) bGw2).trans cG1w2
            have cG2w3 := (hmw3.cell (p := ⟨w.heap.size, 2, none⟩) bGw2).trans cG2w2
            have cG3w3 := (hmw3.cell (p := ⟨w.heap.size, 3, none⟩) bGw2).trans cG3w2
            have cG4w3 := (hmw3.cell (p := ⟨w.heap.size, 4, none⟩) bGw2).trans cG4w2
            have bGw3 : w.heap.size < w3.heap.size := Nat.lt_of_lt_of_le bGw2 hmw3.size
            have dGw3 : w.heap.size < w3.heap.size + 1 := Nat.lt_succ_of_lt bGw3
            have cV0w3 := (hmw3.cell (p := ⟨w.heap.size + 1, 0, none⟩) bVw2).trans cV0w2
            have cV1w3 := (hmw3.cell (p := ⟨w.heap.size + 1, 1, none⟩) bVw2).trans cV1w2
            have zV0w3 := (hmw3.frozen (p := ⟨w.heap.size + 1, 0, none⟩) bVw2).trans zV0w2
            have zV1w3 := (hmw3.frozen (p := ⟨w.heap.size + 1, 1, none⟩) bVw2).trans zV1w2
            have bVw3 : w.heap.size + 1 < w3.heap.size := Nat.lt_of_lt_of_le bVw2 hmw3.size
            have dVw3 : w.heap.size + 1 < w3.heap.size + 1 := Nat.lt_succ_of_lt bVw3
            have cR0w3 := (hmw3.cell (p := ⟨w.heap.size + 2, 0, none⟩) bRw2).trans cR0w2
            have cR1w3 := (hmw3.cell (p := ⟨w.heap.size + 2, 1, none⟩) bRw2).trans cR1w2
            have zR0w3 := (hmw3.frozen (p := ⟨w.heap.size + 2, 0, none⟩) bRw2).trans zR0w2
            have zR1w3 := (hmw3.frozen (p := ⟨w.heap.size + 2, 1, none⟩) bRw2).trans zR1w2
            have bRw3 : w.heap.size + 2 < w3.heap.size := Nat.lt_of_lt_of_le bRw2 hmw3.size
            have dRw3 : w.heap.size + 2 < w3.heap.size + 1 := Nat.lt_succ_of_lt bRw3
            have hBw3 : Below w.heap.size w w3 := Below.trans hBw2 (hmw3.mono hBw2.size)
            have zw3 : w.heap.size ≤ w3.heap.size := hBw3.size
            clear hmw3 hw3 zw2 hBw2 dRw2 bRw2 zR1w2 zR0w2 cR1w2 cR0w2 dVw2 bVw2 zV1w2 zV0w2 cV1w2 cV0w2 dGw2 bGw2 cG4w2 cG3w2 cG2w2 cG1w2 cG0w2
            rw [hM.out]
            go_wp2_with fail
            refine (tw1 _).mono ?_
            rintro e w4 ⟨rfl, hw4⟩
            have hmw4 : Below w3.heap.size w3 w4 := on_below hw4 bl (by first | (with_reducible assumption) | (simp; done) | omega | (simp; omega))
            have cG0w4 := (hmw4.cell (p := ⟨w.heap.size, 0, none⟩) bGw3).trans cG0w3
            have cG1w4 := (hmw4.cell (p := ⟨w.heap.size, 1, none⟩) bGw3).trans cG1w3
            have cG2w4 := (hmw4.cell (p := ⟨w.heap.size, 2, none⟩) bGw3).trans cG2w3
            have cG3w4 := (hmw4.cell (p := ⟨w.heap.size, 3, none⟩) bGw3).trans cG3w3
            have cG4w4 := (hmw4.cell (p := ⟨w.heap.size, 4, none⟩) bGw3).trans cG4w3
            have bGw4 : w.heap.size < w4.heap.size := Nat.lt_of_lt_of_le bGw3 hmw4.size
            have dGw4 : w.heap.size < w4.heap.size + 1 := Nat.lt_succ_of_lt bGw4
            have cV0w4 := (hmw4.cell (p := ⟨w.heap.size + 1, 0, none⟩) bVw3).trans cV0w3
            have cV1w4 := (hmw4.cell (p := ⟨w.heap.size + 1, 1, none⟩) bVw3).trans cV1w3
            have zV0w4 := (hmw4.frozen (p := ⟨w.heap.size + 1, 0, none⟩) bVw3).trans zV0w3
            have zV1w4 := (hmw4.frozen (p := ⟨w.heap.size + 1, 1, none⟩) bVw3).trans zV1w3
            have bVw4 : w.heap.size + 1 < w4.heap.size := Nat.lt_of_lt_of_le bVw3 hmw4.size
            have dVw4 : w.heap.size + 1 < w4.heap.size + 1 := Nat.lt_succ_of_lt bVw4
            have cR0w4 := (hmw4.cell (p := ⟨w.heap.size + 2, 0, none⟩) bRw3).trans cR0w3
            have cR1w4 := (hmw4.cell (p := ⟨w.heap.size + 2, 1, none⟩) bRw3).trans cR1w3
            have zR0w4 := (hmw4.frozen (p := ⟨w.heap.size + 2, 0, none⟩) bRw3).trans zR0w3
            have zR1w4 := (hmw4.frozen (p := ⟨w.heap.size + 2, 1, none⟩) bRw3).trans zR1w3
            have bRw4 : w.heap.size + 2 < w4.heap.size := Nat.lt_of_lt_of_le bRw3 hmw4.size
            have dRw4 : w.heap.size + 2 < w4.heap.size + 1 := Nat.lt_succ_of_lt bRw4
            have hBw4 : Below w.heap.size w w4 := Below.trans hBw3 (hmw4.mono hBw3.size)
            have zw4 : w.heap.size ≤ w4.heap.size := hBw4.size
            clear hmw4 hw4 zw3 hBw3 dRw3 bRw3 zR1w3 zR0w3 cR1w3 cR0w3 dVw3 bVw3 zV1w3 zV0w3 cV1w3 cV0w3 dGw3 bGw3 cG4w3 cG3w3 cG2w3 cG1w3 cG0w3
            go_wp2_with fail
            refine (tw1 _).mono ?_
            rintro e w5 ⟨rfl, hw5⟩
            have hmw5 : Below w4.heap.size w4 w5 := on_below hw5 bl (by first | (with_reducible assumption) | (simp; done) | omega | (simp; omega))
            have cG0w5 := (hmw5.cell (p := ⟨w.heap.size, 0, none⟩) bGw4).trans cG0w4
            have cG1w5 := (hmw5.cell (p := ⟨w.heap.size, 1, none⟩) bGw4).trans cG1w4
            have cG2w5 := (hmw5.cell (p := ⟨w.heap.size, 2, none⟩) bGw4).trans cG2w4
            have cG3w5 := (hmw5.cell (p := ⟨w.heap.size, 3, none⟩) bGw4).trans cG3w4
            have cG4w5 := (hmw5.cell (p := ⟨w.heap.size, 4, none⟩) bGw4).trans cG4w4
            have bGw5 : w.heap.size < w5.heap.size := Nat.lt_of_lt_of_le bGw4 hmw5.size
            have dGw5 : w.heap.size < w5.heap.size + 1 := Nat.lt_succ_of_lt bGw5
            have cV0w5 := (hmw5.cell (p := ⟨w.heap.size + 1, 0, none⟩) bVw4).trans cV0w4
            have cV1w5 := (hmw5.cell (p := ⟨w.heap.size + 1, 1, none⟩) bVw4).trans cV1w4
            have zV0w5 := (hmw5.frozen (p := ⟨w.heap.size + 1, 0, none⟩) bVw4).trans zV0w4
            have zV1w5 := (hmw5.frozen (p := ⟨w.heap.size + 1, 1, none⟩) bVw4).trans zV1w4
            have bVw5 : w.heap.size + 1 < w5.heap.size := Nat.lt_of_lt_of_le bVw4 hmw5.size
            have dVw5 : w.heap.size + 1 < w5.heap.size + 1 := Nat.lt_succ_of_lt bVw5
            have cR0w5 := (hmw5.cell (p := ⟨w.heap.size + 2, 0, none⟩) bRw4).trans cR0w4
            have cR1w5 := (hmw5.cell (p := ⟨w.heap.size + 2, 1, none⟩) bRw4).trans cR1w4
            have zR0w5 := (hmw5.frozen (p := ⟨w.heap.size + 2, 0, none⟩) bRw4).trans zR0w4
            have zR1w5 := (hmw5.frozen (p := ⟨w.heap.size + 2, 1, none⟩) bRw4).trans zR1w4
            have bRw5 : w.heap.size + 2 < w5.heap.size := Nat.lt_of_lt_of_le bRw4 hmw5.size
            have dRw5 : w.heap.size + 2 < w5.heap.size + 1 := Nat.lt_succ_of_lt bRw5
            have hBw5 : Below w.heap.size w w5 := Below.trans hBw4 (hmw5.mono hBw4.size)
            have zw5 : w.heap.size ≤ w5.heap.size := hBw5.size
            clear hmw5 hw5 zw4 hBw4 dRw4 bRw4 zR1w4 zR0w4 cR1w4 cR0w4 dVw4 bVw4 zV1w4 zV0w4 cV1w4 cV0w4 dGw4 bGw4 cG4w4 cG3w4 cG2w4 cG1w4 cG0w4
            go_wp2_with fail
            refine (rscaled_any _ _ (by omega) PWB.out _).mono ?_
            rintro e w6 ⟨rfl, hw6⟩
            have hmw6 : Below w5.heap.size w5 w6 := on_below hw6 bl (by first | (with_reducible assumption) | (simp; done) | omega | (simp; omega))
            have cG0w6 := (hmw6.cell (p := ⟨w.heap.size, 0, none⟩) bGw5).trans cG0w5
            have cG1w6 := (hmw6.cell (p := ⟨w.heap.size, 1, none⟩) bGw5).trans cG1w5
            have cG2w6 := (hmw6.cell (p := ⟨w.heap.size, 2, none⟩) bGw5).trans cG2w5
            have cG3w6 := (hmw6.cell (p := ⟨w.heap.size, 3, none⟩) bGw5).trans cG3w5
            have cG4w6 := (hmw6.cell (p := ⟨w.heap.size, 4, none⟩) bGw5).trans cG4w5
            have bGw6 : w.heap.size < w6.heap.size := Nat.lt_of_lt_of_le bGw5 hmw6.size
            have dGw6 : w.heap.size < w6.heap.size + 1 := Nat.lt_succ_of_lt bGw6
            have cV0w6 := (hmw6.cell (p := ⟨w.heap.size + 1, 0, none⟩) bVw5).trans cV0w5
            have cV1w6 := (hmw6.cell (p := ⟨w.heap.size + 1, 1, none⟩) bVw5).trans cV1w5
            have zV0w6 := (hmw6.frozen (p := ⟨w.heap.size + 1, 0, none⟩) bVw5).trans zV0w5
            have zV1w6 := (hmw6.frozen (p := ⟨w.heap.size + 1, 1, none⟩) bVw5).trans zV1w5
            have bVw6 : w.heap.size + 1 < w6.heap.size := Nat.lt_of_lt_of_le bVw5 hmw6.size
            have dVw6 : w.heap.size + 1 < w6.heap.size + 1 := Nat.lt_succ_of_lt bVw6
            have cR0w6 := (hmw6.cell (p := ⟨w.heap.size + 2, 0, none⟩) bRw5).trans cR0w5
            have cR1w6 := (hmw6.cell (p := ⟨w.heap.size + 2, 1, none⟩) bRw5).trans cR1w5
            have zR0w6 := (hmw6.frozen (p := ⟨w.heap.size + 2, 0, none⟩) bRw5).trans zR0w5
            have zR1w6 := (hmw6.frozen (p := ⟨w.heap.size + 2, 1, none⟩) bRw5).trans zR1w5
            have bRw6 : w.heap.size + 2 < w6.heap.size := Nat.lt_of_lt_of_le bRw5 hmw6.size
            have dRw6 : w.heap.size + 2 < w6.heap.size + 1 := Nat.lt_succ_of_lt bRw6
            have hBw6 : Below w.heap.size w w6 := Below.trans hBw5 (hmw6.mono hBw5.size)
            have zw6 : w.heap.size ≤ w6.heap.size := hBw6.size
            clear hmw6 hw6 zw5 hBw5 dRw5 bRw5 zR1w5 zR0w5 cR1w5 cR0w5 dVw5 bVw5 zV1w5 zV0w5 cV1w5 cV0w5 dGw5 bGw5 cG4w5 cG3w5 cG2w5 cG1w5 cG0w5
            rw [hres.out]
            have cR0z : w6.cell? ⟨w.heap.size + 1 + 1, 0, none⟩ = some (.int .i64 0) := cR0w6
            have cR1z : w6.cell? ⟨w.heap.size + 1 + 1, 1, none⟩ = some (.int .i64 0) := cR1w6
            go_wp2
            exact bodyPost_ret (v := .agg #[.int .i64 a, .int .i64 b]) (by simp [results, Tryz.results168, go_sem, cR0z, cR1z]) rfl ⟨rfl, bl⟩

end Go.Proofs.YtnidbhfpkjggmaaGreatDoor
