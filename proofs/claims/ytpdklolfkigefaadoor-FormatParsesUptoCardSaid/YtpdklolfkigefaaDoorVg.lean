/-
  Formats: what a fraction comes to in a float: what the calls give.
-/
import Derived.Test.YtpdklolfkigefaaDoorVd
set_option linter.all false
namespace Go.Proofs.YtpdklolfkigefaaDoor
open Go.RowKit
/-- At the exponent at which the search stands still. -/
theorem flo_at {I F m : Nat} {n d X : Int} (h : I + F ≤ 30) (hI : 1 ≤ I) (hn : -2305843009213693952 ≤ n ∧ n ≤ 2305843009213693952) (hd : 1 ≤ d ∧ d ≤ 1152921504606846976) (hX : Z.expo I F n d = X) (hF : X ≤ F) :
    -(F : Int) ≤ X ∧ (n.natAbs : Int) * 2 ^ (-X).toNat ≤ 2305843009213693952 * (d * 2 ^ (- -X).toNat) ∧ d * 2 ^ (- -X).toNat ≤ 2305843009213693952 ∧ -(2 ^ I) ≤ Z.rndE m n d (-X) ∧ Z.rndE m n d (-X) ≤ 2 ^ I := by
  obtain ⟨s1, s2, s3, s4⟩ := Z.flx_spec I n d (2 * F + 1) (-(F : Int))
  unfold Z.expo at hX
  rw [hX] at s1 s2 s3 s4
  have hp := pb_of h
  have hb := s3 (by omega)
  rw [Z.below_iff n d _ (I + X.toNat) (-X).toNat (by omega)] at hb
  rw [show - -X = X by omega]
  have hpx := Z.p2_pos X.toNat
  have hD0 : 0 < d * 2 ^ X.toNat := Int.mul_pos (by omega) (by omega)
  have e1 : d * 2 ^ (I + X.toNat) = 2 ^ I * (d * 2 ^ X.toNat) := by rw [Z.p2_add, Int.mul_left_comm]
  have hD : d * 2 ^ X.toNat ≤ 2305843009213693952 := by
    by_cases hx : X ≤ 0
    · rw [show X.toNat = 0 by omega, Int.pow_zero]; omega
    · have hnb := s4 (X - 1) (by omega) (by omega)
      have : ¬ Z.below n d (I + (X - 1)) = true := by rw [hnb]; decide
      rw [Z.below_iff n d _ ((I - 1) + X.toNat) 0 (by omega), Int.pow_zero, Int.mul_one, Z.p2_add, Int.mul_left_comm] at this
      have h1 := Z.p2_pos (I - 1)
      have h2 : 1 * (d * 2 ^ X.toNat) ≤ 2 ^ (I - 1) * (d * 2 ^ X.toNat) := Int.mul_le_mul_of_nonneg_right h1 (by omega)
      omega
  refine ⟨s1, ?_, hD, ?_⟩
  · have h1 : 2 ^ I * (d * 2 ^ X.toNat) ≤ 2305843009213693952 * (d * 2 ^ X.toNat) := Int.mul_le_mul_of_nonneg_right (by have := hp.i; omega) (by omega)
    omega
  · unfold Z.rndE
    rw [show (- -X).toNat = X.toNat by omega]
    exact Z.rnd_small m _ _ _ hD0 (by rw [Z.natAbs_p2]; omega)
theorem flo_pw {I F : Nat} {M X : Int} (h : I + F ≤ 30) (hF : X ≤ F) (hM : -(2 ^ I) ≤ M ∧ M ≤ 2 ^ I) : -4611686018427387904 ≤ M * 2 ^ X.toNat ∧ M * 2 ^ X.toNat ≤ 4611686018427387904 := by
  have hp := pb_of h
  have h1 := Z.p2_pos X.toNat
  have h2 : (2 : Int) ^ X.toNat ≤ 2 ^ F := Z.p2_mono (by omega)
  have h3 : (2 : Int) ^ I * 2 ^ X.toNat ≤ 2 ^ I * 2 ^ F := Int.mul_le_mul_of_nonneg_left h2 (by have := hp.i; omega)
  have h6 := Z.p2_add I F
  have h4 : M * 2 ^ X.toNat ≤ 2 ^ I * 2 ^ X.toNat := Int.mul_le_mul_of_nonneg_right hM.2 (by omega)
  have h5 : -(2 ^ I) * 2 ^ X.toNat ≤ M * 2 ^ X.toNat := Int.mul_le_mul_of_nonneg_right hM.1 (by omega)
  rw [Int.neg_mul] at h5
  have := hp.h
  omega
set_option maxRecDepth 100000 in
set_option maxHeartbeats 16000000 in
theorem fitFloat_any (k o : ByteArray) (m I F : Nat) (hm : m ≤ 2) (h : I + F ≤ 30) (n d : Int) (hn : -2305843009213693952 ≤ n ∧ n ≤ 2305843009213693952) (hd : 1 ≤ d ∧ d ≤ 1152921504606846976) (hv : Hid (Z.vld k (rnm m) o (I : Int) (F : Int) = true)) (hI1 : 1 ≤ I) (hF20 : F ≤ 20) (hkf : Hid ((k.toList == [102, 105, 120]) = false)) (w : World) :
    Calls Tryd.prog 48 #[.agg #[.string k, .int .i64 (I : Int), .int .i64 (F : Int), .string (rnm m), .string o], .agg #[.int .i64 n, .int .i64 d]] w fun e w' => e = .returned (.agg #[.int .i64 (Z.floatV (ovn o) m I F n d).1, .int .i64 (Z.floatV (ovn o) m I F n d).2]) ∧ Below w.heap.size w w' := by
  have hB := pb_of h
  have B1 := hB.h
  have B2 := hB.i
  have B3 := hB.f
  clear hB
  obtain ⟨X, hE⟩ : ∃ X, Hid (Z.expo I F n d = X) := ⟨_, rfl⟩
  have HX0 : Hid (Z.flx I n d ((F : Int) + 1 - -(F : Int)).toNat (-(F : Int)) = X) := by
    unfold Hid; rw [← hE.out]; unfold Z.expo; congr 1; omega
  have hn9 := hn
  have y2 : IntKind.i64.wrap (-(F : Int)) = -(F : Int) := Z.i64_in _ (by omega)
  obtain ⟨a, b, hr⟩ : ∃ a b, Hid (Z.floatV (ovn o) m I F n d = (a, b)) := ⟨_, _, rfl⟩
  rw [hr.out]
  go_enter Tryd.func48, Tryd.ntmps48
  go_wp2_with fail
  go_loopw [5] (fun s5 wx => ∃ i : Int, s5 = .int .i64 i ∧ (-(F : Int) ≤ i ∧ i ≤ (F : Int)) ∧ Hid (Z.flx I n d ((F : Int) + 1 - i).toNat i = X) ∧ wx.cell? ⟨w.heap.size, 0, none⟩ = some (.string k) ∧ wx.cell? ⟨w.heap.size, 1, none⟩ = some (.int .i64 (I : Int)) ∧ wx.cell? ⟨w.heap.size, 2, none⟩ = some (.int .i64 (F : Int)) ∧ wx.cell? ⟨w.heap.size, 3, none⟩ = some (.string (rnm m)) ∧ wx.cell? ⟨w.heap.size, 4, none⟩ = some (.string o) ∧ w.heap.size < wx.heap.size ∧ wx.cell? ⟨w.heap.size + 1, 0, none⟩ = some (.int .i64 n) ∧ wx.cell? ⟨w.heap.size + 1, 1, none⟩ = some (.int .i64 d) ∧ wx.frozen? ⟨w.heap.size + 1, 0, none⟩ = false ∧ wx.frozen? ⟨w.heap.size + 1, 1, none⟩ = false ∧ w.heap.size + 1 < wx.heap.size ∧ wx.cell? ⟨w.heap.size + 2, 0, none⟩ = some (.int .i64 0) ∧ wx.cell? ⟨w.heap.size + 2, 1, none⟩ = some (.int .i64 0) ∧ wx.frozen? ⟨w.heap.size + 2, 0, none⟩ = false ∧ wx.frozen? ⟨w.heap.size + 2, 1, none⟩ = false ∧ w.heap.size + 2 < wx.heap.size ∧ Below w.heap.size w wx) (fun s5 _ => ((F : Int) - intOf s5).toNat)
  case atStart => (refine ⟨-(F : Int), by first | rfl | go_num, by omega, HX0, ?_, ?_, ?_, ?_, ?_, ?_, ?_, ?_, ?_, ?_, ?_, ?_, ?_, ?_, ?_, ?_, ?_⟩ <;> first | assumption | (simp [go_sem]; done) | (simp [go_sem, *]; done) | omega | (simp; omega) | (repeat' (first | (with_reducible exact Below.refl _ _) | (with_reducible assumption) | (with_reducible refine drewN_below ?_ _) | (with_reducible refine Below.drew ?_) | (with_reducible refine Below.alloc ?_ ?_ _) | (with_reducible refine Below.setCell ?_ ?_ _) | (simp; done) | omega | (simp; omega))))
  case round =>
    obtain ⟨i, rfl, hi, hX, cG0w1, cG1w1, cG2w1, cG3w1, cG4w1, bGw1, cV0w1, cV1w1, zV0w1, zV1w1, bVw1, cR0w1, cR1w1, zR0w1, zR1w1, bRw1, hBw1⟩ := hrel
    have dGw1 : w.heap.size < wr.heap.size + 1 := Nat.lt_succ_of_lt bGw1
    have dVw1 : w.heap.size + 1 < wr.heap.size + 1 := Nat.lt_succ_of_lt bVw1
    have dRw1 : w.heap.size + 2 < wr.heap.size + 1 := Nat.lt_succ_of_lt bRw1
    have zw1 : w.heap.size ≤ wr.heap.size := hBw1.size
    obtain ⟨w1, ew1⟩ : ∃ x, x = wr := ⟨_, rfl⟩
    subst ew1
    cases hb : Z.below n d ((I : Int) + i)
    · have hb' := Lib.hid hb
      have hflx := Lib.hid (show Z.flx I n d ((F : Int) + 1 - (i + 1)).toNat (i + 1) = X by
        have e := hX.out
        rw [show ((F : Int) + 1 - i).toNat = ((F : Int) + 1 - (i + 1)).toNat + 1 by omega] at e
        unfold Z.flx at e
        rw [hb, if_neg (by decide)] at e; exact e)
      clear hX hb
      by_cases hx : i = F
      · skip
        have g0 : (i == (F : Int)) = true := by rw [beq_iff_eq]; exact hx
        have hXF : X = F + 1 := by have := hflx.out; rw [show ((F : Int) + 1 - (i + 1)).toNat = 0 by omega] at this; unfold Z.flx at this; omega
        have hres : Hid (Z.bey (ovn o) (k.toList == [102, 105, 120]) I F (decide (n < 0)) = (a, b)) := by rw [← hr.out, hkf.out]; unfold Z.floatV; rw [hE.out, if_pos hXF]; rfl
        clear hx hXF
        go_wp2_with fail
        refine (isbelow_any _ _ _ (by omega) (by omega) (by omega) _).mono ?_
        rintro e w2 ⟨rfl, hw2⟩
        have hmw2 : Below w1.heap.size w1 w2 := on_below hw2 (by repeat' (first | (with_reducible exact Below.refl _ _) | (with_reducible assumption) | (with_reducible refine drewN_below ?_ _) | (with_reducible refine Below.drew ?_) | (with_reducible refine Below.alloc ?_ ?_ _) | (with_reducible refine Below.setCell ?_ ?_ _) | (simp; done) | omega | (simp; omega))) (by first | (with_reducible assumption) | (simp; done) | omega | (simp; omega))
        have cG0w2 := (hmw2.cell (p := ⟨w.heap.size, 0, none⟩) bGw1).trans cG0w1
        have cG1w2 := (hmw2.cell (p := ⟨w.heap.size, 1, none⟩) bGw1).trans cG1w1
        have cG2w2 := (hmw2.cell (p := ⟨w.heap.size, 2, none⟩) bGw1).trans cG2w1
        have cG3w2 := (hmw2.cell (p := ⟨w.heap.size, 3, none⟩) bGw1).trans cG3w1
        have cG4w2 := (hmw2.cell (p := ⟨w.heap.size, 4, none⟩) bGw1).trans cG4w1
        have bGw2 : w.heap.size < w2.heap.size := Nat.lt_of_lt_of_le bGw1 hmw2.size
        have dGw2 : w.heap.size < w2.heap.size + 1 := Nat.lt_succ_of_lt bGw2
        have cV0w2 := (hmw2.cell (p := ⟨w.heap.size + 1, 0, none⟩) bVw1).trans cV0w1
        have cV1w2 := (hmw2.cell (p := ⟨w.heap.size + 1, 1, none⟩) bVw1).trans cV1w1
        have zV0w2 := (hmw2.frozen (p := ⟨w.heap.size + 1, 0, none⟩) bVw1).trans zV0w1
        have zV1w2 := (hmw2.frozen (p := ⟨w.heap.size + 1, 1, none⟩) bVw1).trans zV1w1
        have bVw2 : w.heap.size + 1 < w2.heap.size := Nat.lt_of_lt_of_le bVw1 hmw2.size
        have dVw2 : w.heap.size + 1 < w2.heap.size + 1 := Nat.lt_succ_of_lt bVw2
        have cR0w2 := (hmw2.cell (p := ⟨w.heap.size + 2, 0, none⟩) bRw1).trans cR0w1
        have cR1w2 := (hmw2.cell (p := ⟨w.heap.size + 2, 1, none⟩) bRw1).trans cR1w1
        have zR0w2 := (hmw2.frozen (p := ⟨w.heap.size + 2, 0, none⟩) bRw1).trans zR0w1
        have zR1w2 := (hmw2.frozen (p := ⟨w.heap.size + 2, 1, none⟩) bRw1).trans zR1w1
        have bRw2 : w.heap.size + 2 < w2.heap.size := Nat.lt_of_lt_of_le bRw1 hmw2.size
        have dRw2 : w.heap.size + 2 < w2.heap.size + 1 := Nat.lt_succ_of_lt bRw2
        have hBw2 : Below w.heap.size w w2 := Below.trans hBw1 (hmw2.mono hBw1.size)
        have zw2 : w.heap.size ≤ w2.heap.size := hBw2.size
        clear hmw2 hw2 zw1 dRw1 dVw1 dGw1 hBw1 bRw1 zR1w1 zR0w1 cR1w1 cR0w1 bVw1 zV1w1 zV0w1 cV1w1 cV0w1 bGw1 cG4w1 cG3w1 cG2w1 cG1w1 cG0w1
        rw [hb'.out]
        go_wp2_with fail
        refine (beyond_any _ _ _ _ _ h _ _ hv _).mono ?_
        rintro e w3 ⟨rfl, hw3⟩
        have hmw3 : Below w2.heap.size w2 w3 := on_below hw3 (by repeat' (first | (with_reducible exact Below.refl _ _) | (with_reducible assumption) | (with_reducible refine drewN_below ?_ _) | (with_reducible refine Below.drew ?_) | (with_reducible refine Below.alloc ?_ ?_ _) | (with_reducible refine Below.setCell ?_ ?_ _) | (simp; done) | omega | (simp; omega))) (by first | (with_reducible assumption) | (simp; done) | omega | (simp; omega))
        have cG0w3 := (hmw3.cell (p := ⟨w.heap.size, 0, none⟩) bGw2).trans cG0w2
        have cG1w3 := (hmw3.cell (p := ⟨w.heap.size, 1, none⟩) bGw2).trans cG1w2
        have cG2w3 := (hmw3.cell (p := ⟨w.heap.size, 2, none⟩) bGw2).trans cG2w2
        have cG3w3 := (hmw3.cell (p := ⟨w.heap.size, 3, none⟩) bGw2).trans cG3w2
        have cG4w3 := (hmw3.cell (p := ⟨w.heap.size, 4, none⟩) bGw2).trans cG4w2
        have bGw3 : w.heap.size < w3.heap.size := Nat.lt_of_lt_of_le bGw2 hmw3.size
        have dGw3 : w.heap.size < w3.heap.size + 1 := Nat.lt_succ_of_lt bGw3
        have cV0w3 := (hmw3.cell (p := ⟨w.heap.size + 1, 0, none⟩) bVw2).trans cV0w2
        have cV1w3 := (hmw3.cell (p := ⟨w.heap.size + 1, 1, none⟩) bVw2).trans cV1w2
        have zV0w3 := (hmw3.frozen (p := ⟨w.heap.size + 1, 0, none⟩) bVw2).trans zV0w2
        have zV1w3 := (hmw3.frozen (p := ⟨w.heap.size + 1, 1, none⟩) bVw2).trans zV1w2
        have bVw3 : w.heap.size + 1 < w3.heap.size := Nat.lt_of_lt_of_le bVw2 hmw3.size
        have dVw3 : w.heap.size + 1 < w3.heap.size + 1 := Nat.lt_succ_of_lt bVw3
        have cR0w3 := (hmw3.cell (p := ⟨w.heap.size + 2, 0, none⟩) bRw2).trans cR0w2
        have cR1w3 := (hmw3.cell (p := ⟨w.heap.size + 2, 1, none⟩) bRw2).trans cR1w2
        have zR0w3 := (hmw3.frozen (p := ⟨w.heap.size + 2, 0, none⟩) bRw2).trans zR0w2
        have zR1w3 := (hmw3.frozen (p := ⟨w.heap.size + 2, 1, none⟩) bRw2).trans zR1w2
        have bRw3 : w.heap.size + 2 < w3.heap.size := Nat.lt_of_lt_of_le bRw2 hmw3.size
        have dRw3 : w.heap.size + 2 < w3.heap.size + 1 := Nat.lt_succ_of_lt bRw3
        have hBw3 : Below w.heap.size w w3 := Below.trans hBw2 (hmw3.mono hBw2.size)
        have zw3 : w.heap.size ≤ w3.heap.size := hBw3.size
        clear hmw3 hw3 zw2 hBw2 dRw2 bRw2 zR1w2 zR0w2 cR1w2 cR0w2 dVw2 bVw2 zV1w2 zV0w2 cV1w2 cV0w2 dGw2 bGw2 cG4w2 cG3w2 cG2w2 cG1w2 cG0w2
        rw [hres.out]
        have cR0z : w3.cell? ⟨w.heap.size + 1 + 1, 0, none⟩ = some (.int .i64 0) := cR0w3
        have cR1z : w3.cell? ⟨w.heap.size + 1 + 1, 1, none⟩ = some (.int .i64 0) := cR1w3
        go_wp2
        exact bodyPost_ret (v := .agg #[.int .i64 a, .int .i64 b]) (by simp [results, Tryd.results48, go_sem, cR0z, cR1z]) rfl ⟨rfl, (by repeat' (first | (with_reducible exact Below.refl _ _) | (with_reducible assumption) | (with_reducible refine drewN_below ?_ _) | (with_reducible refine Below.drew ?_) | (with_reducible refine Below.alloc ?_ ?_ _) | (with_reducible refine Below.setCell ?_ ?_ _) | (simp; done) | omega | (simp; omega)))⟩
      · have g0 : (i == (F : Int)) = false := by rw [beq_eq_false_iff_ne]; exact hx
        have hlt : i < (F : Int) := by omega
        clear hx
        have y3 : IntKind.i64.wrap (i + 1) = i + 1 := Z.i64_in _ (by omega)
        go_wp2_with fail
        refine (isbelow_any _ _ _ (by omega) (by omega) (by omega) _).mono ?_
        rintro e w2 ⟨rfl, hw2⟩
        have hmw2 : Below w1.heap.size w1 w2 := on_below hw2 (by repeat' (first | (with_reducible exact Below.refl _ _) | (with_reducible assumption) | (with_reducible refine drewN_below ?_ _) | (with_reducible refine Below.drew ?_) | (with_reducible refine Below.alloc ?_ ?_ _) | (with_reducible refine Below.setCell ?_ ?_ _) | (simp; done) | omega | (simp; omega))) (by first | (with_reducible assumption) | (simp; done) | omega | (simp; omega))
        have cG0w2 := (hmw2.cell (p := ⟨w.heap.size, 0, none⟩) bGw1).trans cG0w1
        have cG1w2 := (hmw2.cell (p := ⟨w.heap.size, 1, none⟩) bGw1).trans cG1w1
        have cG2w2 := (hmw2.cell (p := ⟨w.heap.size, 2, none⟩) bGw1).trans cG2w1
        have cG3w2 := (hmw2.cell (p := ⟨w.heap.size, 3, none⟩) bGw1).trans cG3w1
        have cG4w2 := (hmw2.cell (p := ⟨w.heap.size, 4, none⟩) bGw1).trans cG4w1
        have bGw2 : w.heap.size < w2.heap.size := Nat.lt_of_lt_of_le bGw1 hmw2.size
        have dGw2 : w.heap.size < w2.heap.size + 1 := Nat.lt_succ_of_lt bGw2
        have cV0w2 := (hmw2.cell (p := ⟨w.heap.size + 1, 0, none⟩) bVw1).trans cV0w1
        have cV1w2 := (hmw2.cell (p := ⟨w.heap.size + 1, 1, none⟩) bVw1).trans cV1w1
        have zV0w2 := (hmw2.frozen (p := ⟨w.heap.size + 1, 0, none⟩) bVw1).trans zV0w1
        have zV1w2 := (hmw2.frozen (p := ⟨w.heap.size + 1, 1, none⟩) bVw1).trans zV1w1
        have bVw2 : w.heap.size + 1 < w2.heap.size := Nat.lt_of_lt_of_le bVw1 hmw2.size
        have dVw2 : w.heap.size + 1 < w2.heap.size + 1 := Nat.lt_succ_of_lt bVw2
        have cR0w2 := (hmw2.cell (p := ⟨w.heap.size + 2, 0, none⟩) bRw1).trans cR0w1
        have cR1w2 := (hmw2.cell (p := ⟨w.heap.size + 2, 1, none⟩) bRw1).trans cR1w1
        have zR0w2 := (hmw2.frozen (p := ⟨w.heap.size + 2, 0, none⟩) bRw1).trans zR0w1
        have zR1w2 := (hmw2.frozen (p := ⟨w.heap.size + 2, 1, none⟩) bRw1).trans zR1w1
        have bRw2 : w.heap.size + 2 < w2.heap.size := Nat.lt_of_lt_of_le bRw1 hmw2.size
        have dRw2 : w.heap.size + 2 < w2.heap.size + 1 := Nat.lt_succ_of_lt bRw2
        have hBw2 : Below w.heap.size w w2 := Below.trans hBw1 (hmw2.mono hBw1.size)
        have zw2 : w.heap.size ≤ w2.heap.size := hBw2.size
        clear hmw2 hw2 zw1 dRw1 dVw1 dGw1 hBw1 bRw1 zR1w1 zR0w1 cR1w1 cR0w1 bVw1 zV1w1 zV0w1 cV1w1 cV0w1 bGw1 cG4w1 cG3w1 cG2w1 cG1w1 cG0w1
        rw [hb'.out]
        go_wp2
        go_roundw
        case rel => (refine ⟨i + 1, by first | rfl | go_num, by omega, hflx, ?_, ?_, ?_, ?_, ?_, ?_, ?_, ?_, ?_, ?_, ?_, ?_, ?_, ?_, ?_, ?_, ?_⟩ <;> first | assumption | (simp [go_sem, *]; done) | omega | (simp; omega) | (repeat' (first | (with_reducible exact Below.refl _ _) | (with_reducible assumption) | (with_reducible refine drewN_below ?_ _) | (with_reducible refine Below.drew ?_) | (with_reducible refine Below.alloc ?_ ?_ _) | (with_reducible refine Below.setCell ?_ ?_ _) | (simp; done) | omega | (simp; omega))))
        case measure => simp [intOf]; omega
    · have hb' := Lib.hid hb
      have hXi : X = i := by
        have e := hX.out
        rw [show ((F : Int) + 1 - i).toNat = ((F : Int) + 1 - (i + 1)).toNat + 1 by omega] at e
        unfold Z.flx at e
        rw [hb, if_pos rfl] at e; exact e.symm
      subst hXi
      clear hb hX
      obtain ⟨q0, q1, q2, q3⟩ := flo_at (m := m) h hI1 hn hd hE.out (by omega)
      obtain ⟨M, hM⟩ : ∃ M, Hid (Z.rndE m n d (-X) = M) := ⟨_, rfl⟩
      rw [hM.out] at q3
      have Q1 := Lib.hid q1
      have Q2 := Lib.hid q2
      clear q1 q2
      obtain ⟨T, hT⟩ : ∃ T : Int, Hid ((2 : Int) ^ I = T) := ⟨_, rfl⟩
      have PWB := Lib.hid (flo_pw (M := M) (X := X) h (by omega) q3)
      have y4 : IntKind.i64.wrap (2 ^ I) = T := by rw [hT.out]; rw [hT.out] at B2; exact Z.i64_in _ (by omega)
      rw [hT.out] at q3 B2
      have y5 : IntKind.i64.wrap (-X) = -X := Z.i64_in _ (by omega)
      have y6 : IntKind.i64.wrap (-M) = -M := Z.i64_in _ (by omega)
      have hfl : Z.floatV (ovn o) m I F n d = if X = F ∧ (M = T ∨ M = -T) then Z.bey (ovn o) false I F (decide (n < 0)) else Z.pw M X := by unfold Z.floatV; rw [hE.out, if_neg (by omega), hM.out, hT.out]
      have HFL := Lib.hid hfl
      clear hfl
      by_cases hx : X = F
      · have g0 : (X == (F : Int)) = true := by rw [beq_iff_eq]; exact hx
        by_cases hm2 : M = T ∨ M = -T
        · have g1 : (max M (-M) == T) = true := by rw [beq_iff_eq]; omega
          have hres : Hid (Z.bey (ovn o) (k.toList == [102, 105, 120]) I F (decide (n < 0)) = (a, b)) := by rw [← hr.out, hkf.out, HFL.out, if_pos ⟨hx, hm2⟩]; rfl
          clear hx hm2 HFL
          go_wp2_with fail
          refine (isbelow_any _ _ _ (by omega) (by omega) (by omega) _).mono ?_
          rintro e w2 ⟨rfl, hw2⟩
          have hmw2 : Below w1.heap.size w1 w2 := on_below hw2 (by repeat' (first | (with_reducible exact Below.refl _ _) | (with_reducible assumption) | (with_reducible refine drewN_below ?_ _) | (with_reducible refine Below.drew ?_) | (with_reducible refine Below.alloc ?_ ?_ _) | (with_reducible refine Below.setCell ?_ ?_ _) | (simp; done) | omega | (simp; omega))) (by first | (with_reducible assumption) | (simp; done) | omega | (simp; omega))
          have cG0w2 := (hmw2.cell (p := ⟨w.heap.size, 0, none⟩) bGw1).trans cG0w1
          have cG1w2 := (hmw2.cell (p := ⟨w.heap.size, 1, none⟩) bGw1).trans cG1w1
          have cG2w2 := (hmw2.cell (p := ⟨w.heap.size, 2, none⟩) bGw1).trans cG2w1
          have cG3w2 := (hmw2.cell (p := ⟨w.heap.size, 3, none⟩) bGw1).trans cG3w1
          have cG4w2 := (hmw2.cell (p := ⟨w.heap.size, 4, none⟩) bGw1).trans cG4w1
          have bGw2 : w.heap.size < w2.heap.size := Nat.lt_of_lt_of_le bGw1 hmw2.size
          have dGw2 : w.heap.size < w2.heap.size + 1 := Nat.lt_succ_of_lt bGw2
          have cV0w2 := (hmw2.cell (p := ⟨w.heap.size + 1, 0, none⟩) bVw1).trans cV0w1
          have cV1w2 := (hmw2.cell (p := ⟨w.heap.size + 1, 1, none⟩) bVw1).trans cV1w1
          have zV0w2 := (hmw2.frozen (p := ⟨w.heap.size + 1, 0, none⟩) bVw1).trans zV0w1
          have zV1w2 := (hmw2.frozen (p := ⟨w.heap.size + 1, 1, none⟩) bVw1).trans zV1w1
          have bVw2 : w.heap.size + 1 < w2.heap.size := Nat.lt_of_lt_of_le bVw1 hmw2.size
          have dVw2 : w.heap.size + 1 < w2.heap.size + 1 := Nat.lt_succ_of_lt bVw2
          have cR0w2 := (hmw2.cell (p := ⟨w.heap.size + 2, 0, none⟩) bRw1).trans cR0w1
          have cR1w2 := (hmw2.cell (p := ⟨w.heap.size + 2, 1, none⟩) bRw1).trans cR1w1
          have zR0w2 := (hmw2.frozen (p := ⟨w.heap.size + 2, 0, none⟩) bRw1).trans zR0w1
          have zR1w2 := (hmw2.frozen (p := ⟨w.heap.size + 2, 1, none⟩) bRw1).trans zR1w1
          have bRw2 : w.heap.size + 2 < w2.heap.size := Nat.lt_of_lt_of_le bRw1 hmw2.size
          have dRw2 : w.heap.size + 2 < w2.heap.size + 1 := Nat.lt_succ_of_lt bRw2
          have hBw2 : Below w.heap.size w w2 := Below.trans hBw1 (hmw2.mono hBw1.size)
          have zw2 : w.heap.size ≤ w2.heap.size := hBw2.size
          clear hmw2 hw2 zw1 dRw1 dVw1 dGw1 hBw1 bRw1 zR1w1 zR0w1 cR1w1 cR0w1 bVw1 zV1w1 zV0w1 cV1w1 cV0w1 bGw1 cG4w1 cG3w1 cG2w1 cG1w1 cG0w1
          rw [hb'.out]
          go_wp2_with fail
          refine (rounded_any m hm _ _ _ (by omega) (by omega) (by omega) Q1.out Q2.out _).mono ?_
          rintro e w3 ⟨rfl, hw3⟩
          have hmw3 : Below w2.heap.size w2 w3 := on_below hw3 (by repeat' (first | (with_reducible exact Below.refl _ _) | (with_reducible assumption) | (with_reducible refine drewN_below ?_ _) | (with_reducible refine Below.drew ?_) | (with_reducible refine Below.alloc ?_ ?_ _) | (with_reducible refine Below.setCell ?_ ?_ _) | (simp; done) | omega | (simp; omega))) (by first | (with_reducible assumption) | (simp; done) | omega | (simp; omega))
          have cG0w3 := (hmw3.cell (p := ⟨w.heap.size, 0, none⟩) bGw2).trans cG0w2
          have cG1w3 := (hmw3.cell (p := ⟨w.heap.size, 1, none⟩) bGw2).trans cG1w2
          have cG2w3 := (hmw3.cell (p := ⟨w.heap.size, 2, none⟩) bGw2).trans cG2w2
          have cG3w3 := (hmw3.cell (p := ⟨w.heap.size, 3, none⟩) bGw2).trans cG3w2
          have cG4w3 := (hmw3.cell (p := ⟨w.heap.size, 4, none⟩) bGw2).trans cG4w2
          have bGw3 : w.heap.size < w3.heap.size := Nat.lt_of_lt_of_le bGw2 hmw3.size
          have dGw3 : w.heap.size < w3.heap.size + 1 := Nat.lt_succ_of_lt bGw3
          have cV0w3 := (hmw3.cell (p := ⟨w.heap.size + 1, 0, none⟩) bVw2).trans cV0w2
          have cV1w3 := (hmw3.cell (p := ⟨w.heap.size + 1, 1, none⟩) bVw2).trans cV1w2
          have zV0w3 := (hmw3.frozen (p := ⟨w.heap.size + 1, 0, none⟩) bVw2).trans zV0w2
          have zV1w3 := (hmw3.frozen (p := ⟨w.heap.size + 1, 1, none⟩) bVw2).trans zV1w2
          have bVw3 : w.heap.size + 1 < w3.heap.size := Nat.lt_of_lt_of_le bVw2 hmw3.size
          have dVw3 : w.heap.size + 1 < w3.heap.size + 1 := Nat.lt_succ_of_lt bVw3
          have cR0w3 := (hmw3.cell (p := ⟨w.heap.size + 2, 0, none⟩) bRw2).trans cR0w2
          have cR1w3 := (hmw3.cell (p := ⟨w.heap.size + 2, 1, none⟩) bRw2).trans cR1w2
          have zR0w3 := (hmw3.frozen (p := ⟨w.heap.size + 2, 0, none⟩) bRw2).trans zR0w2
          have zR1w3 := (hmw3.frozen (p := ⟨w.heap.size + 2, 1, none⟩) bRw2).trans zR1w2
          have bRw3 : w.heap.size + 2 < w3.heap.size := Nat.lt_of_lt_of_le bRw2 hmw3.size
          have dRw3 : w.heap.size + 2 < w3.heap.size + 1 := Nat.lt_succ_of_lt bRw3
          have hBw3 : Below w.heap.size w w3 := Below.trans hBw2 (hmw3.mono hBw2.size)
          have zw3 : w.heap.size ≤ w3.heap.size := hBw3.size
          clear hmw3 hw3 zw2 hBw2 dRw2 bRw2 zR1w2 zR0w2 cR1w2 cR0w2 dVw2 bVw2 zV1w2 zV0w2 cV1w2 cV0w2 dGw2 bGw2 cG4w2 cG3w2 cG2w2 cG1w2 cG0w2
          rw [hM.out]
          go_wp2_with fail
          refine (beyond_any _ _ _ _ _ h _ _ hv _).mono ?_
          rintro e w4 ⟨rfl, hw4⟩
          have hmw4 : Below w3.heap.size w3 w4 := on_below hw4 (by repeat' (first | (with_reducible exact Below.refl _ _) | (with_reducible assumption) | (with_reducible refine drewN_below ?_ _) | (with_reducible refine Below.drew ?_) | (with_reducible refine Below.alloc ?_ ?_ _) | (with_reducible refine Below.setCell ?_ ?_ _) | (simp; done) | omega | (simp; omega))) (by first | (with_reducible assumption) | (simp; done) | omega | (simp; omega))
          have cG0w4 := (hmw4.cell (p := ⟨w.heap.size, 0, none⟩) bGw3).trans cG0w3
          have cG1w4 := (hmw4.cell (p := ⟨w.heap.size, 1, none⟩) bGw3).trans cG1w3
          have cG2w4 := (hmw4.cell (p := ⟨w.heap.size, 2, none⟩) bGw3).trans cG2w3
          have cG3w4 := (hmw4.cell (p := ⟨w.heap.size, 3, none⟩) bGw3).trans cG3w3
          have cG4w4 := (hmw4.cell (p := ⟨w.heap.size, 4, none⟩) bGw3).trans cG4w3
          have bGw4 : w.heap.size < w4.heap.size := Nat.lt_of_lt_of_le bGw3 hmw4.size
          have dGw4 : w.heap.size < w4.heap.size + 1 := Nat.lt_succ_of_lt bGw4
          have cV0w4 := (hmw4.cell (p := ⟨w.heap.size + 1, 0, none⟩) bVw3).trans cV0w3
          have cV1w4 := (hmw4.cell (p := ⟨w.heap.size + 1, 1, none⟩) bVw3).trans cV1w3
          have zV0w4 := (hmw4.frozen (p := ⟨w.heap.size + 1, 0, none⟩) bVw3).trans zV0w3
          have zV1w4 := (hmw4.frozen (p := ⟨w.heap.size + 1, 1, none⟩) bVw3).trans zV1w3
          have bVw4 : w.heap.size + 1 < w4.heap.size := Nat.lt_of_lt_of_le bVw3 hmw4.size
          have dVw4 : w.heap.size + 1 < w4.heap.size + 1 := Nat.lt_succ_of_lt bVw4
          have cR0w4 := (hmw4.cell (p := ⟨w.heap.size + 2, 0, none⟩) bRw3).trans cR0w3
          have cR1w4 := (hmw4.cell (p := ⟨w.heap.size + 2, 1, none⟩) bRw3).trans cR1w3
          have zR0w4 := (hmw4.frozen (p := ⟨w.heap.size + 2, 0, none⟩) bRw3).trans zR0w3
          have zR1w4 := (hmw4.frozen (p := ⟨w.heap.size + 2, 1, none⟩) bRw3).trans zR1w3
          have bRw4 : w.heap.size + 2 < w4.heap.size := Nat.lt_of_lt_of_le bRw3 hmw4.size
          have dRw4 : w.heap.size + 2 < w4.heap.size + 1 := Nat.lt_succ_of_lt bRw4
          have hBw4 : Below w.heap.size w w4 := Below.trans hBw3 (hmw4.mono hBw3.size)
          have zw4 : w.heap.size ≤ w4.heap.size := hBw4.size
          clear hmw4 hw4 zw3 hBw3 dRw3 bRw3 zR1w3 zR0w3 cR1w3 cR0w3 dVw3 bVw3 zV1w3 zV0w3 cV1w3 cV0w3 dGw3 bGw3 cG4w3 cG3w3 cG2w3 cG1w3 cG0w3
          rw [hres.out]
          have cR0z : w4.cell? ⟨w.heap.size + 1 + 1, 0, none⟩ = some (.int .i64 0) := cR0w4
          have cR1z : w4.cell? ⟨w.heap.size + 1 + 1, 1, none⟩ = some (.int .i64 0) := cR1w4
          go_wp2
          exact bodyPost_ret (v := .agg #[.int .i64 a, .int .i64 b]) (by simp [results, Tryd.results48, go_sem, cR0z, cR1z]) rfl ⟨rfl, (by repeat' (first | (with_reducible exact Below.refl _ _) | (with_reducible assumption) | (with_reducible refine drewN_below ?_ _) | (with_reducible refine Below.drew ?_) | (with_reducible refine Below.alloc ?_ ?_ _) | (with_reducible refine Below.setCell ?_ ?_ _) | (simp; done) | omega | (simp; omega)))⟩
        · have g1 : (max M (-M) == T) = false := by rw [beq_eq_false_iff_ne]; omega
          have hres : Hid (Z.pw M X = (a, b)) := by rw [← hr.out, HFL.out, if_neg (by omega)]; rfl
          clear hx hm2 HFL
          go_wp2_with fail
          refine (isbelow_any _ _ _ (by omega) (by omega) (by omega) _).mono ?_
          rintro e w2 ⟨rfl, hw2⟩
          have hmw2 : Below w1.heap.size w1 w2 := on_below hw2 (by repeat' (first | (with_reducible exact Below.refl _ _) | (with_reducible assumption) | (with_reducible refine drewN_below ?_ _) | (with_reducible refine Below.drew ?_) | (with_reducible refine Below.alloc ?_ ?_ _) | (with_reducible refine Below.setCell ?_ ?_ _) | (simp; done) | omega | (simp; omega))) (by first | (with_reducible assumption) | (simp; done) | omega | (simp; omega))
          have cG0w2 := (hmw2.cell (p := ⟨w.heap.size, 0, none⟩) bGw1).trans cG0w1
          have cG1w2 := (hmw2.cell (p := ⟨w.heap.size, 1, none⟩) bGw1).trans cG1w1
          have cG2w2 := (hmw2.cell (p := ⟨w.heap.size, 2, none⟩) bGw1).trans cG2w1
          have cG3w2 := (hmw2.cell (p := ⟨w.heap.size, 3, none⟩) bGw1).trans cG3w1
          have cG4w2 := (hmw2.cell (p := ⟨w.heap.size, 4, none⟩) bGw1).trans cG4w1
          have bGw2 : w.heap.size < w2.heap.size := Nat.lt_of_lt_of_le bGw1 hmw2.size
          have dGw2 : w.heap.size < w2.heap.size + 1 := Nat.lt_succ_of_lt bGw2
          have cV0w2 := (hmw2.cell (p := ⟨w.heap.size + 1, 0, none⟩) bVw1).trans cV0w1
          have cV1w2 := (hmw2.cell (p := ⟨w.heap.size + 1, 1, none⟩) bVw1).trans cV1w1
          have zV0w2 := (hmw2.frozen (p := ⟨w.heap.size + 1, 0, none⟩) bVw1).trans zV0w1
          have zV1w2 := (hmw2.frozen (p := ⟨w.heap.size + 1, 1, none⟩) bVw1).trans zV1w1
          have bVw2 : w.heap.size + 1 < w2.heap.size := Nat.lt_of_lt_of_le bVw1 hmw2.size
          have dVw2 : w.heap.size + 1 < w2.heap.size + 1 := Nat.lt_succ_of_lt bVw2
          have cR0w2 := (hmw2.cell (p := ⟨w.heap.size + 2, 0, none⟩) bRw1).trans cR0w1
          have cR1w2 := (hmw2.cell (p := ⟨w.heap.size + 2, 1, none⟩) bRw1).trans cR1w1
          have zR0w2 := (hmw2.frozen (p := ⟨w.heap.size + 2, 0, none⟩) bRw1).trans zR0w1
          have zR1w2 := (hmw2.frozen (p := ⟨w.heap.size + 2, 1, none⟩) bRw1).trans zR1w1
          have bRw2 : w.heap.size + 2 < w2.heap.size := Nat.lt_of_lt_of_le bRw1 hmw2.size
          have dRw2 : w.heap.size + 2 < w2.heap.size + 1 := Nat.lt_succ_of_lt bRw2
          have hBw2 : Below w.heap.size w w2 := Below.trans hBw1 (hmw2.mono hBw1.size)
          have zw2 : w.heap.size ≤ w2.heap.size := hBw2.size
          clear hmw2 hw2 zw1 dRw1 dVw1 dGw1 hBw1 bRw1 zR1w1 zR0w1 cR1w1 cR0w1 bVw1 zV1w1 zV0w1 cV1w1 cV0w1 bGw1 cG4w1 cG3w1 cG2w1 cG1w1 cG0w1
          rw [hb'.out]
          go_wp2_with fail
          refine (rounded_any m hm _ _ _ (by omega) (by omega) (by omega) Q1.out Q2.out _).mono ?_
          rintro e w3 ⟨rfl, hw3⟩
          have hmw3 : Below w2.heap.size w2 w3 := on_below hw3 (by repeat' (first | (with_reducible exact Below.refl _ _) | (with_reducible assumption) | (with_reducible refine drewN_below ?_ _) | (with_reducible refine Below.drew ?_) | (with_reducible refine Below.alloc ?_ ?_ _) | (with_reducible refine Below.setCell ?_ ?_ _) | (simp; done) | omega | (simp; omega))) (by first | (with_reducible assumption) | (simp; done) | omega | (simp; omega))
          have cG0w3 := (hmw3.cell (p := ⟨w.heap.size, 0, none⟩) bGw2).trans cG0w2
          have cG1w3 := (hmw3.cell (p := ⟨w.heap.size, 1, none⟩) bGw2).trans cG1w2
          have cG2w3 := (hmw3.cell (p := ⟨w.heap.size, 2, none⟩) bGw2).trans cG2w2
          have cG3w3 := (hmw3.cell (p := ⟨w.heap.size, 3, none⟩) bGw2).trans cG3w2
          have cG4w3 := (hmw3.cell (p := ⟨w.heap.size, 4, none⟩) bGw2).trans cG4w2
          have bGw3 : w.heap.size < w3.heap.size := Nat.lt_of_lt_of_le bGw2 hmw3.size
          have dGw3 : w.heap.size < w3.heap.size + 1 := Nat.lt_succ_of_lt bGw3
          have cV0w3 := (hmw3.cell (p := ⟨w.heap.size + 1, 0, none⟩) bVw2).trans cV0w2
          have cV1w3 := (hmw3.cell (p := ⟨w.heap.size + 1, 1, none⟩) bVw2).trans cV1w2
          have zV0w3 := (hmw3.frozen (p := ⟨w.heap.size + 1, 0, none⟩) bVw2).trans zV0w2
          have zV1w3 := (hmw3.frozen (p := ⟨w.heap.size + 1, 1, none⟩) bVw2).trans zV1w2
          have bVw3 : w.heap.size + 1 < w3.heap.size := Nat.lt_of_lt_of_le bVw2 hmw3.size
          have dVw3 : w.heap.size + 1 < w3.heap.size + 1 := Nat.lt_succ_of_lt bVw3
          have cR0w3 := (hmw3.cell (p := ⟨w.heap.size + 2, 0, none⟩) bRw2).trans cR0w2
          have cR1w3 := (hmw3.cell (p := ⟨w.heap.size + 2, 1, none⟩) bRw2).trans cR1w2
          have zR0w3 := (hmw3.frozen (p := ⟨w.heap.size + 2, 0, none⟩) bRw2).trans zR0w2
          have zR1w3 := (hmw3.frozen (p := ⟨w.heap.size + 2, 1, none⟩) bRw2).trans zR1w2
          have bRw3 : w.heap.size + 2 < w3.heap.size := Nat.lt_of_lt_of_le bRw2 hmw3.size
          have dRw3 : w.heap.size + 2 < w3.heap.size + 1 := Nat.lt_succ_of_lt bRw3
          have hBw3 : Below w.heap.size w w3 := Below.trans hBw2 (hmw3.mono hBw2.size)
          have zw3 : w.heap.size ≤ w3.heap.size := hBw3.size
          clear hmw3 hw3 zw2 hBw2 dRw2 bRw2 zR1w2 zR0w2 cR1w2 cR0w2 dVw2 bVw2 zV1w2 zV0w2 cV1w2 cV0w2 dGw2 bGw2 cG4w2 cG3w2 cG2w2 cG1w2 cG0w2
          rw [hM.out]
          go_wp2_with fail
          refine (power_any _ _ (by omega) PWB.out _).mono ?_
          rintro e w4 ⟨rfl, hw4⟩
          have hmw4 : Below w3.heap.size w3 w4 := on_below hw4 (by repeat' (first | (with_reducible exact Below.refl _ _) | (with_reducible assumption) | (with_reducible refine drewN_below ?_ _) | (with_reducible refine Below.drew ?_) | (with_reducible refine Below.alloc ?_ ?_ _) | (with_reducible refine Below.setCell ?_ ?_ _) | (simp; done) | omega | (simp; omega))) (by first | (with_reducible assumption) | (simp; done) | omega | (simp; omega))
          have cG0w4 := (hmw4.cell (p := ⟨w.heap.size, 0, none⟩) bGw3).trans cG0w3
          have cG1w4 := (hmw4.cell (p := ⟨w.heap.size, 1, none⟩) bGw3).trans cG1w3
          have cG2w4 := (hmw4.cell (p := ⟨w.heap.size, 2, none⟩) bGw3).trans cG2w3
          have cG3w4 := (hmw4.cell (p := ⟨w.heap.size, 3, none⟩) bGw3).trans cG3w3
          have cG4w4 := (hmw4.cell (p := ⟨w.heap.size, 4, none⟩) bGw3).trans cG4w3
          have bGw4 : w.heap.size < w4.heap.size := Nat.lt_of_lt_of_le bGw3 hmw4.size
          have dGw4 : w.heap.size < w4.heap.size + 1 := Nat.lt_succ_of_lt bGw4
          have cV0w4 := (hmw4.cell (p := ⟨w.heap.size + 1, 0, none⟩) bVw3).trans cV0w3
          have cV1w4 := (hmw4.cell (p := ⟨w.heap.size + 1, 1, none⟩) bVw3).trans cV1w3
          have zV0w4 := (hmw4.frozen (p := ⟨w.heap.size + 1, 0, none⟩) bVw3).trans zV0w3
          have zV1w4 := (hmw4.frozen (p := ⟨w.heap.size + 1, 1, none⟩) bVw3).trans zV1w3
          have bVw4 : w.heap.size + 1 < w4.heap.size := Nat.lt_of_lt_of_le bVw3 hmw4.size
          have dVw4 : w.heap.size + 1 < w4.heap.size + 1 := Nat.lt_succ_of_lt bVw4
          have cR0w4 := (hmw4.cell (p := ⟨w.heap.size + 2, 0, none⟩) bRw3).trans cR0w3
          have cR1w4 := (hmw4.cell (p := ⟨w.heap.size + 2, 1, none⟩) bRw3).trans cR1w3
          have zR0w4 := (hmw4.frozen (p := ⟨w.heap.size + 2, 0, none⟩) bRw3).trans zR0w3
          have zR1w4 := (hmw4.frozen (p := ⟨w.heap.size + 2, 1, none⟩) bRw3).trans zR1w3
          have bRw4 : w.heap.size + 2 < w4.heap.size := Nat.lt_of_lt_of_le bRw3 hmw4.size
          have dRw4 : w.heap.size + 2 < w4.heap.size + 1 := Nat.lt_succ_of_lt bRw4
          have hBw4 : Below w.heap.size w w4 := Below.trans hBw3 (hmw4.mono hBw3.size)
          have zw4 : w.heap.size ≤ w4.heap.size := hBw4.size
          clear hmw4 hw4 zw3 hBw3 dRw3 bRw3 zR1w3 zR0w3 cR1w3 cR0w3 dVw3 bVw3 zV1w3 zV0w3 cV1w3 cV0w3 dGw3 bGw3 cG4w3 cG3w3 cG2w3 cG1w3 cG0w3
          rw [hres.out]
          have cR0z : w4.cell? ⟨w.heap.size + 1 + 1, 0, none⟩ = some (.int .i64 0) := cR0w4
          have cR1z : w4.cell? ⟨w.heap.size + 1 + 1, 1, none⟩ = some (.int .i64 0) := cR1w4
          go_wp2
          exact bodyPost_ret (v := .agg #[.int .i64 a, .int .i64 b]) (by simp [results, Tryd.results48, go_sem, cR0z, cR1z]) rfl ⟨rfl, (by repeat' (first | (with_reducible exact Below.refl _ _) | (with_reducible assumption) | (with_reducible refine drewN_below ?_ _) | (with_reducible refine Below.drew ?_) | (with_reducible refine Below.alloc ?_ ?_ _) | (with_reducible refine Below.setCell ?_ ?_ _) | (simp; done) | omega | (simp; omega)))⟩
      · have g0 : (X == (F : Int)) = false := by rw [beq_eq_false_iff_ne]; exact hx
        have hres : Hid (Z.pw M X = (a, b)) := by rw [← hr.out, HFL.out, if_neg (by omega)]; rfl
        clear hx HFL
        go_wp2_with fail
        refine (isbelow_any _ _ _ (by omega) (by omega) (by omega) _).mono ?_
        rintro e w2 ⟨rfl, hw2⟩
        have hmw2 : Below w1.heap.size w1 w2 := on_below hw2 (by repeat' (first | (with_reducible exact Below.refl _ _) | (with_reducible assumption) | (with_reducible refine drewN_below ?_ _) | (with_reducible refine Below.drew ?_) | (with_reducible refine Below.alloc ?_ ?_ _) | (with_reducible refine Below.setCell ?_ ?_ _) | (simp; done) | omega | (simp; omega))) (by first | (with_reducible assumption) | (simp; done) | omega | (simp; omega))
        have cG0w2 := (hmw2.cell (p := ⟨w.heap.size, 0, none⟩) bGw1).trans cG0w1
        have cG1w2 := (hmw2.cell (p := ⟨w.heap.size, 1, none⟩) bGw1).trans cG1w1
        have cG2w2 := (hmw2.cell (p := ⟨w.heap.size, 2, none⟩) bGw1).trans cG2w1
        have cG3w2 := (hmw2.cell (p := ⟨w.heap.size, 3, none⟩) bGw1).trans cG3w1
        have cG4w2 := (hmw2.cell (p := ⟨w.heap.size, 4, none⟩) bGw1).trans cG4w1
        have bGw2 : w.heap.size < w2.heap.size := Nat.lt_of_lt_of_le bGw1 hmw2.size
        have dGw2 : w.heap.size < w2.heap.size + 1 := Nat.lt_succ_of_lt bGw2
        have cV0w2 := (hmw2.cell (p := ⟨w.heap.size + 1, 0, none⟩) bVw1).trans cV0w1
        have cV1w2 := (hmw2.cell (p := ⟨w.heap.size + 1, 1, none⟩) bVw1).trans cV1w1
        have zV0w2 := (hmw2.frozen (p := ⟨w.heap.size + 1, 0, none⟩) bVw1).trans zV0w1
        have zV1w2 := (hmw2.frozen (p := ⟨w.heap.size + 1, 1, none⟩) bVw1).trans zV1w1
        have bVw2 : w.heap.size + 1 < w2.heap.size := Nat.lt_of_lt_of_le bVw1 hmw2.size
        have dVw2 : w.heap.size + 1 < w2.heap.size + 1 := Nat.lt_succ_of_lt bVw2
        have cR0w2 := (hmw2.cell (p := ⟨w.heap.size + 2, 0, none⟩) bRw1).trans cR0w1
        have cR1w2 := (hmw2.cell (p := ⟨w.heap.size + 2, 1, none⟩) bRw1).trans cR1w1
        have zR0w2 := (hmw2.frozen (p := ⟨w.heap.size + 2, 0, none⟩) bRw1).trans zR0w1
        have zR1w2 := (hmw2.frozen (p := ⟨w.heap.size + 2, 1, none⟩) bRw1).trans zR1w1
        have bRw2 : w.heap.size + 2 < w2.heap.size := Nat.lt_of_lt_of_le bRw1 hmw2.size
        have dRw2 : w.heap.size + 2 < w2.heap.size + 1 := Nat.lt_succ_of_lt bRw2
        have hBw2 : Below w.heap.size w w2 := Below.trans hBw1 (hmw2.mono hBw1.size)
        have zw2 : w.heap.size ≤ w2.heap.size := hBw2.size
        clear hmw2 hw2 zw1 dRw1 dVw1 dGw1 hBw1 bRw1 zR1w1 zR0w1 cR1w1 cR0w1 bVw1 zV1w1 zV0w1 cV1w1 cV0w1 bGw1 cG4w1 cG3w1 cG2w1 cG1w1 cG0w1
        rw [hb'.out]
        go_wp2_with fail
        refine (rounded_any m hm _ _ _ (by omega) (by omega) (by omega) Q1.out Q2.out _).mono ?_
        rintro e w3 ⟨rfl, hw3⟩
        have hmw3 : Below w2.heap.size w2 w3 := on_below hw3 (by repeat' (first | (with_reducible exact Below.refl _ _) | (with_reducible assumption) | (with_reducible refine drewN_below ?_ _) | (with_reducible refine Below.drew ?_) | (with_reducible refine Below.alloc ?_ ?_ _) | (with_reducible refine Below.setCell ?_ ?_ _) | (simp; done) | omega | (simp; omega))) (by first | (with_reducible assumption) | (simp; done) | omega | (simp; omega))
        have cG0w3 := (hmw3.cell (p := ⟨w.heap.size, 0, none⟩) bGw2).trans cG0w2
        have cG1w3 := (hmw3.cell (p := ⟨w.heap.size, 1, none⟩) bGw2).trans cG1w2
        have cG2w3 := (hmw3.cell (p := ⟨w.heap.size, 2, none⟩) bGw2).trans cG2w2
        have cG3w3 := (hmw3.cell (p := ⟨w.heap.size, 3, none⟩) bGw2).trans cG3w2
        have cG4w3 := (hmw3.cell (p := ⟨w.heap.size, 4, none⟩) bGw2).trans cG4w2
        have bGw3 : w.heap.size < w3.heap.size := Nat.lt_of_lt_of_le bGw2 hmw3.size
        have dGw3 : w.heap.size < w3.heap.size + 1 := Nat.lt_succ_of_lt bGw3
        have cV0w3 := (hmw3.cell (p := ⟨w.heap.size + 1, 0, none⟩) bVw2).trans cV0w2
        have cV1w3 := (hmw3.cell (p := ⟨w.heap.size + 1, 1, none⟩) bVw2).trans cV1w2
        have zV0w3 := (hmw3.frozen (p := ⟨w.heap.size + 1, 0, none⟩) bVw2).trans zV0w2
        have zV1w3 := (hmw3.frozen (p := ⟨w.heap.size + 1, 1, none⟩) bVw2).trans zV1w2
        have bVw3 : w.heap.size + 1 < w3.heap.size := Nat.lt_of_lt_of_le bVw2 hmw3.size
        have dVw3 : w.heap.size + 1 < w3.heap.size + 1 := Nat.lt_succ_of_lt bVw3
        have cR0w3 := (hmw3.cell (p := ⟨w.heap.size + 2, 0, none⟩) bRw2).trans cR0w2
        have cR1w3 := (hmw3.cell (p := ⟨w.heap.size + 2, 1, none⟩) bRw2).trans cR1w2
        have zR0w3 := (hmw3.frozen (p := ⟨w.heap.size + 2, 0, none⟩) bRw2).trans zR0w2
        have zR1w3 := (hmw3.frozen (p := ⟨w.heap.size + 2, 1, none⟩) bRw2).trans zR1w2
        have bRw3 : w.heap.size + 2 < w3.heap.size := Nat.lt_of_lt_of_le bRw2 hmw3.size
        have dRw3 : w.heap.size + 2 < w3.heap.size + 1 := Nat.lt_succ_of_lt bRw3
        have hBw3 : Below w.heap.size w w3 := Below.trans hBw2 (hmw3.mono hBw2.size)
        have zw3 : w.heap.size ≤ w3.heap.size := hBw3.size
        clear hmw3 hw3 zw2 hBw2 dRw2 bRw2 zR1w2 zR0w2 cR1w2 cR0w2 dVw2 bVw2 zV1w2 zV0w2 cV1w2 cV0w2 dGw2 bGw2 cG4w2 cG3w2 cG2w2 cG1w2 cG0w2
        rw [hM.out]
        go_wp2_with fail
        refine (power_any _ _ (by omega) PWB.out _).mono ?_
        rintro e w4 ⟨rfl, hw4⟩
        have hmw4 : Below w3.heap.size w3 w4 := on_below hw4 (by repeat' (first | (with_reducible exact Below.refl _ _) | (with_reducible assumption) | (with_reducible refine drewN_below ?_ _) | (with_reducible refine Below.drew ?_) | (with_reducible refine Below.alloc ?_ ?_ _) | (with_reducible refine Below.setCell ?_ ?_ _) | (simp; done) | omega | (simp; omega))) (by first | (with_reducible assumption) | (simp; done) | omega | (simp; omega))
        have cG0w4 := (hmw4.cell (p := ⟨w.heap.size, 0, none⟩) bGw3).trans cG0w3
        have cG1w4 := (hmw4.cell (p := ⟨w.heap.size, 1, none⟩) bGw3).trans cG1w3
        have cG2w4 := (hmw4.cell (p := ⟨w.heap.size, 2, none⟩) bGw3).trans cG2w3
        have cG3w4 := (hmw4.cell (p := ⟨w.heap.size, 3, none⟩) bGw3).trans cG3w3
        have cG4w4 := (hmw4.cell (p := ⟨w.heap.size, 4, none⟩) bGw3).trans cG4w3
        have bGw4 : w.heap.size < w4.heap.size := Nat.lt_of_lt_of_le bGw3 hmw4.size
        have dGw4 : w.heap.size < w4.heap.size + 1 := Nat.lt_succ_of_lt bGw4
        have cV0w4 := (hmw4.cell (p := ⟨w.heap.size + 1, 0, none⟩) bVw3).trans cV0w3
        have cV1w4 := (hmw4.cell (p := ⟨w.heap.size + 1, 1, none⟩) bVw3).trans cV1w3
        have zV0w4 := (hmw4.frozen (p := ⟨w.heap.size + 1, 0, none⟩) bVw3).trans zV0w3
        have zV1w4 := (hmw4.frozen (p := ⟨w.heap.size + 1, 1, none⟩) bVw3).trans zV1w3
        have bVw4 : w.heap.size + 1 < w4.heap.size := Nat.lt_of_lt_of_le bVw3 hmw4.size
        have dVw4 : w.heap.size + 1 < w4.heap.size + 1 := Nat.lt_succ_of_lt bVw4
        have cR0w4 := (hmw4.cell (p := ⟨w.heap.size + 2, 0, none⟩) bRw3).trans cR0w3
        have cR1w4 := (hmw4.cell (p := ⟨w.heap.size + 2, 1, none⟩) bRw3).trans cR1w3
        have zR0w4 := (hmw4.frozen (p := ⟨w.heap.size + 2, 0, none⟩) bRw3).trans zR0w3
        have zR1w4 := (hmw4.frozen (p := ⟨w.heap.size + 2, 1, none⟩) bRw3).trans zR1w3
        have bRw4 : w.heap.size + 2 < w4.heap.size := Nat.lt_of_lt_of_le bRw3 hmw4.size
        have dRw4 : w.heap.size + 2 < w4.heap.size + 1 := Nat.lt_succ_of_lt bRw4
        have hBw4 : Below w.heap.size w w4 := Below.trans hBw3 (hmw4.mono hBw3.size)
        have zw4 : w.heap.size ≤ w4.heap.size := hBw4.size
        clear hmw4 hw4 zw3 hBw3 dRw3 bRw3 zR1w3 zR0w3 cR1w3 cR0w3 dVw3 bVw3 zV1w3 zV0w3 cV1w3 cV0w3 dGw3 bGw3 cG4w3 cG3w3 cG2w3 cG1w3 cG0w3
        rw [hres.out]
        have cR0z : w4.cell? ⟨w.heap.size + 1 + 1, 0, none⟩ = some (.int .i64 0) := cR0w4
        have cR1z : w4.cell? ⟨w.heap.size + 1 + 1, 1, none⟩ = some (.int .i64 0) := cR1w4
        go_wp2
        exact bodyPost_ret (v := .agg #[.int .i64 a, .int .i64 b]) (by simp [results, Tryd.results48, go_sem, cR0z, cR1z]) rfl ⟨rfl, (by repeat' (first | (with_reducible exact Below.refl _ _) | (with_reducible assumption) | (with_reducible refine drewN_below ?_ _) | (with_reducible refine Below.drew ?_) | (with_reducible refine Below.alloc ?_ ?_ _) | (with_reducible refine Below.setCell ?_ ?_ _) | (simp; done) | omega | (simp; omega)))⟩

end Go.Proofs.YtpdklolfkigefaaDoor
