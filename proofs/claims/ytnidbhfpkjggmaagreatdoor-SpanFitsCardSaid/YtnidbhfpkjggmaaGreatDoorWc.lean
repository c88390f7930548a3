import Derived.Test.YtnidbhfpkjggmaaGreatDoorWb
import Derived.Test.YtnidbhfpkjggmaaGreatDoorVc
import Derived.StillTailTactics
import Derived.Deep.DeepCutAuto
set_option linter.all false
/-
  The specification's below, scaled, beyond, wide: what the calls give.
-/
namespace Go.Proofs.YtnidbhfpkjggmaaGreatDoor
open Go.RowKit
theorem two_same (k : Nat) (hk : k ≤ 62) (w : World) :
    Calls Tryz.prog 81 #[.int .i64 (k : Int)] w fun e w' => e = .returned (.int .i64 (2 ^ k : Int)) ∧ w' = w := (two_any k hk w).mono fun e w' h => ⟨h.1, h.2.symm⟩
theorem below_dbl (N d k : Int) (h0 : 0 ≤ N) (hk : k < 0) : Z.below (2 * N) d (k + 1) = Z.below N d k := by
  obtain ⟨j, hj⟩ := Int.eq_ofNat_of_zero_le (show 0 ≤ -k - 1 by omega)
  rw [show k = -((j + 1 : Nat) : Int) by omega, show -((j + 1 : Nat) : Int) + 1 = -(j : Int) by omega, Z.below_neg, Z.below_neg, Int.pow_succ]
  rw [show ((2 * N).natAbs : Int) = 2 * (N.natAbs : Int) by omega, Int.mul_comm 2, Int.mul_assoc, Int.mul_comm 2]
theorem below_no (N d k : Int) (h0 : 0 ≤ N) (hk : k < 0) (h : d ≤ N) : Z.below N d k = false := by
  obtain ⟨j, hj⟩ := Int.eq_ofNat_of_zero_le (show 0 ≤ -k by omega)
  rw [show k = -(j : Int) by omega, Z.below_neg]
  apply decide_eq_false
  have := Int.mul_le_mul_of_nonneg_left (Z.p2_pos j) (show 0 ≤ (N.natAbs : Int) by omega)
  omega
set_option maxRecDepth 100000 in
set_option maxHeartbeats 4000000 in
theorem rbelow_any (n d k : Int) (hn : -4611686018427387904 ≤ n ∧ n ≤ 4611686018427387904) (hd : 1 ≤ d ∧ d ≤ 1152921504606846976) (hk : -60 ≤ k ∧ k ≤ 60) (w : World) :
    Calls Tryz.prog 195 #[.agg #[.int .i64 n, .int .i64 d], .int .i64 k] w fun e w' => e = .returned (.bool (Z.below n d k)) ∧ Below w.heap.size w w' := by
  by_cases h0 : n < 0
  · have g0 : decide (n < 0) = true := decide_eq_true h0
    have eN : (n.natAbs : Int) = -n := by omega
    obtain ⟨N, hN⟩ : ∃ N, -n = N := ⟨_, rfl⟩
    have NB : 0 ≤ N ∧ N ≤ 4611686018427387904 := by omega
    rw [hN] at eN
    have EB : Hid (∀ e, Z.below n d e = Z.below N d e) := by
      intro e; unfold Z.below; rw [show (n.natAbs : Int) = (N.natAbs : Int) by omega]
    have q0 := Int.ediv_nonneg NB.1 (show 0 ≤ d by omega)
    have dz : ¬ d = 0 := by omega
    have dz2 : (d == 0) = false := by rw [beq_eq_false_iff_ne]; omega
    have y0 : IntKind.i64.wrap (N / d) = N / d := Z.i64_in _ (by have := Int.ediv_le_self d NB.1; omega)
    have y1 : wrap64 (N / d) = N / d := by have := Int.ediv_le_self d NB.1; unfold wrap64; omega
    clear eN
    by_cases hk0 : 0 ≤ k
    · obtain ⟨j, rfl⟩ := Int.eq_ofNat_of_zero_le hk0
      have g1 : decide (0 ≤ (j : Int)) = true := decide_eq_true hk0
      have eR : Z.below n d (j : Int) = decide (N / d < 2 ^ j) := by
        rw [EB.out, Z.below_pos, show (N.natAbs : Int) = N by omega]; congr 1; apply propext; rw [Int.ediv_lt_iff_lt_mul (by omega), Int.mul_comm]
      rw [eR]; clear eR
      go_enter Tryz.func195, Tryz.ntmps195
      go_wp2_with (go_at_call 81; refine (two_any _ (by omega) _).mono ?_; rintro e wx ⟨rfl, rfl⟩)
      go_ret
      exact ⟨rfl, by go_grown⟩
    · have g1 : decide (0 ≤ k) = false := decide_eq_false hk0
      obtain ⟨B, hB⟩ : ∃ B, Hid (Z.below n d k = B) := ⟨_, rfl⟩
      have hB2 : Hid (Z.below N d k = B) := by unfold Hid; rw [← EB.out]; exact hB.out
      rw [hB.out]; clear hB EB
      go_enter Tryz.func195, Tryz.ntmps195
      go_wp2
      go_loop [1, 5] (fun s1 s5 => ∃ k N : Int, s1 = .int .i64 k ∧ s5 = .int .i64 N ∧ (-60 ≤ k ∧ k ≤ 0) ∧ (0 ≤ N ∧ N ≤ 4611686018427387904) ∧ Hid (Z.below N d k = B)) (fun s1 _ => (-(intOf s1)).toNat)
      case atStart => exact ⟨_, _, rfl, rfl, by omega, NB, hB2⟩
      case round =>
        clear hB2 y0 y1 q0 NB g0 g1
        obtain ⟨k, M, rfl, rfl, hk1, MB, hB3⟩ := hrel
        by_cases hk2 : k < 0
        · have g1 : decide (k < 0) = true := decide_eq_true hk2
          by_cases h5 : d ≤ M
          · have g2 : decide (d ≤ M) = true := decide_eq_true h5
            have hBf : B = false := by rw [← hB3.out]; exact below_no _ _ _ MB.1 hk2 h5
            rw [hBf]
            go_wp2
            go_ret
            exact ⟨rfl, by go_grown⟩
          · have g2 : decide (d ≤ M) = false := decide_eq_false h5
            have y6 : IntKind.i64.wrap (2 * M) = 2 * M := Z.i64_in _ (by omega)
            have y7 : IntKind.i64.wrap (k + 1) = k + 1 := Z.i64_in _ (by omega)
            have hB4 : Hid (Z.below (2 * M) d (k + 1) = B) := by unfold Hid; rw [below_dbl _ _ _ MB.1 hk2]; exact hB3.out
            go_wp2
            exact ⟨⟨_, _, rfl, rfl, by omega, by omega, hB4⟩, by simp only [intOf]; omega⟩
        · have g1 : decide (k < 0) = false := decide_eq_false hk2
          have hk3 : k = 0 := by omega
          subst hk3
          have hBf : B = decide (M < d) := by rw [← hB3.out, show (0 : Int) = ((0 : Nat) : Int) by rfl, Z.below_pos, Int.pow_zero, Int.mul_one, show (M.natAbs : Int) = M by omega]
          rw [hBf]
          go_wp2
          go_ret
          exact ⟨rfl, by go_grown⟩
  · have g0 : decide (n < 0) = false := decide_eq_false h0
    have eN : (n.natAbs : Int) = n := by omega
    obtain ⟨N, hN⟩ : ∃ N, n = N := ⟨_, rfl⟩
    have NB : 0 ≤ N ∧ N ≤ 4611686018427387904 := by omega
    rw [hN] at eN
    have EB : Hid (∀ e, Z.below n d e = Z.below N d e) := by
      intro e; unfold Z.below; rw [show (n.natAbs : Int) = (N.natAbs : Int) by omega]
    obtain rfl : n = N := hN
    have q0 := Int.ediv_nonneg NB.1 (show 0 ≤ d by omega)
    have dz : ¬ d = 0 := by omega
    have dz2 : (d == 0) = false := by rw [beq_eq_false_iff_ne]; omega
    have y0 : IntKind.i64.wrap (n / d) = n / d := Z.i64_in _ (by have := Int.ediv_le_self d NB.1; omega)
    have y1 : wrap64 (n / d) = n / d := by have := Int.ediv_le_self d NB.1; unfold wrap64; omega
    clear eN
    by_cases hk0 : 0 ≤ k
    · obtain ⟨j, rfl⟩ := Int.eq_ofNat_of_zero_le hk0
      have g1 : decide (0 ≤ (j : Int)) = true := decide_eq_true hk0
      have eR : Z.below n d (j : Int) = decide (n / d < 2 ^ j) := by
        rw [EB.out, Z.below_pos, show (n.natAbs : Int) = n by omega]; congr 1; apply propext; rw [Int.ediv_lt_iff_lt_mul (by omega), Int.mul_comm]
      rw [eR]; clear eR
      go_enter Tryz.func195, Tryz.ntmps195
      go_wp2_with (go_at_call 81; refine (two_any _ (by omega) _).mono ?_; rintro e wx ⟨rfl, rfl⟩)
      go_ret
      exact ⟨rfl, by go_grown⟩
    · have g1 : decide (0 ≤ k) = false := decide_eq_false hk0
      obtain ⟨B, hB⟩ : ∃ B, Hid (Z.below n d k = B) := ⟨_, rfl⟩
      have hB2 : Hid (Z.below n d k = B) := by unfold Hid; rw [← EB.out]; exact hB.out
      rw [hB.out]; clear hB EB
      go_enter Tryz.func195, Tryz.ntmps195
      go_wp2
      go_loop [1, 5] (fun s1 s5 => ∃ k N : Int, s1 = .int .i64 k ∧ s5 = .int .i64 N ∧ (-60 ≤ k ∧ k ≤ 0) ∧ (0 ≤ N ∧ N ≤ 4611686018427387904) ∧ Hid (Z.below N d k = B)) (fun s1 _ => (-(intOf s1)).toNat)
      case atStart => exact ⟨_, _, rfl, rfl, by omega, NB, hB2⟩
      case round =>
        clear hB2 y0 y1 q0 NB g0 g1
        obtain ⟨k, M, rfl, rfl, hk1, MB, hB3⟩ := hrel
        by_cases hk2 : k < 0
        · have g1 : decide (k < 0) = true := decide_eq_true hk2
          by_cases h5 : d ≤ M
          · have g2 : decide (d ≤ M) = true := decide_eq_true h5
            have hBf : B = false := by rw [← hB3.out]; exact below_no _ _ _ MB.1 hk2 h5
            rw [hBf]
            go_wp2
            go_ret
            exact ⟨rfl, by go_grown⟩
          · have g2 : decide (d ≤ M) = false := decide_eq_false h5
            have y6 : IntKind.i64.wrap (2 * M) = 2 * M := Z.i64_in _ (by omega)
            have y7 : IntKind.i64.wrap (k + 1) = k + 1 := Z.i64_in _ (by omega)
            have hB4 : Hid (Z.below (2 * M) d (k + 1) = B) := by unfold Hid; rw [below_dbl _ _ _ MB.1 hk2]; exact hB3.out
            go_wp2
            exact ⟨⟨_, _, rfl, rfl, by omega, by omega, hB4⟩, by simp only [intOf]; omega⟩
        · have g1 : decide (k < 0) = false := decide_eq_false hk2
          have hk3 : k = 0 := by omega
          subst hk3
          have hBf : B = decide (M < d) := by rw [← hB3.out, show (0 : Int) = ((0 : Nat) : Int) by rfl, Z.below_pos, Int.pow_zero, Int.mul_one, show (M.natAbs : Int) = M by omega]
          rw [hBf]
          go_wp2
          go_ret
          exact ⟨rfl, by go_grown⟩

set_option maxRecDepth 100000 in
set_option maxHeartbeats 2000000 in
theorem rscaled_any (m x : Int) (hx : -30 ≤ x ∧ x ≤ 30) (hm : -4611686018427387904 ≤ m * 2 ^ x.toNat ∧ m * 2 ^ x.toNat ≤ 4611686018427387904) (w : World) :
    Calls Tryz.prog 133 #[.int .i64 m, .int .i64 x] w fun e w' => e = .returned (.agg #[.int .i64 (Z.pw m x).1, .int .i64 (Z.pw m x).2]) ∧ Below w.heap.size w w' := by
  unfold Z.pw
  by_cases h : x < 0
  · rw [if_pos h]
    obtain ⟨j, hj⟩ := Int.eq_ofNat_of_zero_le (show 0 ≤ -x by omega)
    obtain rfl : x = -(j : Int) := by omega
    have hjj : (- -(j : Int)).toNat = j := by omega
    have g0 : decide (-(j : Int) < 0) = true := decide_eq_true h
    have y0 : IntKind.i64.wrap (- -(j : Int)) = (j : Int) := (Z.i64_in _ (by omega)).trans (by omega)
    have P := Z.p2_30 j (by omega)
    have hm2 : -4611686018427387904 ≤ m ∧ m ≤ 4611686018427387904 := by rw [show (-(j : Int)).toNat = 0 by omega] at hm; omega
    rw [hjj]
    clear hjj
    obtain ⟨a, b, hr⟩ : ∃ a b, Hid (Q.mk m (2 ^ j) = (a, b)) := ⟨_, _, rfl⟩
    rw [hr.out]
    go_enter Tryz.func133, Tryz.ntmps133
    go_wp2_with fail
    refine (two_any j (by omega) _).mono ?_
    rintro e w1 ⟨rfl, rfl⟩
    go_wp2_with fail
    refine (rmake_all _ _ (by omega) (by omega) _).mono ?_
    rintro e w2 ⟨rfl, hb2⟩
    obtain ⟨hc2, hf2, hz2, hB2⟩ := after (a := w) (B := w.heap.size) (w.heap.size + 1) hb2 (by first | (with_reducible assumption) | (simp; done) | omega | (simp; omega)) bl (by omega)
    rw [hr.out]
    go_wp2
    exact bodyPost_ret (v := .agg #[.int .i64 a, .int .i64 b]) (by simp [results, Tryz.results133, go_sem, hc2]) rfl ⟨rfl, bl⟩
  · rw [if_neg h]
    obtain ⟨j, rfl⟩ := Int.eq_ofNat_of_zero_le (show 0 ≤ x by omega)
    rw [show ((j : Int)).toNat = j by omega] at hm ⊢
    have g0 : decide ((j : Int) < 0) = false := decide_eq_false h
    have y0 : IntKind.i64.wrap (m * 2 ^ j) = m * 2 ^ j := Z.i64_in _ (by omega)
    have P := Z.p2_30 j (by omega)
    obtain ⟨a, b, hr⟩ : ∃ a b, Hid (Q.mk (m * 2 ^ j) 1 = (a, b)) := ⟨_, _, rfl⟩
    rw [hr.out]
    go_enter Tryz.func133, Tryz.ntmps133
    go_wp2_with fail
    refine (two_any j (by omega) _).mono ?_
    rintro e w1 ⟨rfl, rfl⟩
    go_wp2_with fail
    refine (rmake_all _ _ (by omega) (by omega) _).mono ?_
    rintro e w2 ⟨rfl, hb2⟩
    obtain ⟨hc2, hf2, hz2, hB2⟩ := after (a := w) (B := w.heap.size) (w.heap.size + 1) hb2 (by first | (with_reducible assumption) | (simp; done) | omega | (simp; omega)) bl (by omega)
    rw [hr.out]
    go_wp2
    exact bodyPost_ret (v := .agg #[.int .i64 a, .int .i64 b]) (by simp [results, Tryz.results133, go_sem, hc2]) rfl ⟨rfl, bl⟩

set_option maxRecDepth 100000 in
set_option maxHeartbeats 2000000 in
theorem rbeyond_any (k r o : ByteArray) (I F : Nat) (h : I + F ≤ 30) (neg : Bool) (hov : Hid ((o.toList == [115, 97, 116]) = false → ovn o = 2)) (w : World) :
    Calls Tryz.prog 196 #[.agg #[.string k, .int .i64 (I : Int), .int .i64 (F : Int), .string r, .string o], .bool neg] w fun e w' => e = .returned (.agg #[.int .i64 (Z.bey (ovn o) false I F neg).1, .int .i64 (Z.bey (ovn o) false I F neg).2]) ∧ Below w.heap.size w w' := by
  have hB := pb_of h
  have B1 := hB.h
  have B2 := hB.i
  have B3 := top_bd h
  clear hB
  have y0 : IntKind.i64.wrap (2 ^ I - 1) = 2 ^ I - 1 := Z.i64_in _ (by omega)
  have y1 : IntKind.i64.wrap (-(2 ^ I - 1)) = -(2 ^ I - 1) := Z.i64_in _ (by omega)
  cases ho : (o.toList == [115, 97, 116])
  · have e : Z.bey (ovn o) false I F neg = (0, 0) := by unfold Z.bey; rw [if_pos (hov.out ho)]
    rw [e]; clear e
    go_enter Tryz.func196, Tryz.ntmps196
    go_wp2_with fail
    refine (rnone_any _).mono ?_
    rintro e w1 ⟨rfl, hb1⟩
    obtain ⟨hc1, hf1, hz1, hB1⟩ := after (a := w) (B := w.heap.size) (w.heap.size + 2) hb1 (by first | (with_reducible assumption) | (simp; done) | omega | (simp; omega)) bl (by omega)
    go_wp2
    exact bodyPost_ret (v := .agg #[.int .i64 0, .int .i64 0]) (by simp [results, Tryz.results196, go_sem, hc1]) rfl ⟨rfl, bl⟩
  · have hno : ¬ ovn o = 2 := by unfold ovn; rw [lit_ne ho (b := [110, 111, 110, 101]) (by decide), lit_ne ho (b := [119, 114, 97, 112]) (by decide)]; decide
    cases neg
    · have e : Z.bey (ovn o) false I F false = Q.mk (((2 ^ I - 1) * 2 ^ F)) 1 := by unfold Z.bey; rw [if_neg hno]; rfl
      rw [e]; clear e
      obtain ⟨a, b, hr⟩ : ∃ a b, Hid (Q.mk (((2 ^ I - 1) * 2 ^ F)) 1 = (a, b)) := ⟨_, _, rfl⟩
      rw [hr.out]
      have hp : Hid (Z.pw (2 ^ I - 1 : Int) (F : Int) = (a, b)) := by
        unfold Hid Z.pw; rw [if_neg (by omega), show ((F : Int)).toNat = F by omega, ← hr.out]
      have hb9 : -4611686018427387904 ≤ (2 ^ I - 1 : Int) * 2 ^ ((F : Int)).toNat ∧ (2 ^ I - 1 : Int) * 2 ^ ((F : Int)).toNat ≤ 4611686018427387904 := by rw [show ((F : Int)).toNat = F by omega]; omega
      have HB9 := Lib.hid hb9
      clear hb9
      go_enter Tryz.func196, Tryz.ntmps196
      go_wp2_with fail
      refine (two_any _ (by omega) _).mono ?_
      rintro e w1 ⟨rfl, rfl⟩
      go_wp2_with fail
      refine (rscaled_any _ _ (by omega) HB9.out _).mono ?_
      rintro e w2 ⟨rfl, hb2⟩
      obtain ⟨hc2, hf2, hz2, hB2⟩ := after (a := w) (B := w.heap.size) (w.heap.size + 2) hb2 (by first | (with_reducible assumption) | (simp; done) | omega | (simp; omega)) bl (by omega)
      rw [hp.out]
      go_wp2
      exact bodyPost_ret (v := .agg #[.int .i64 a, .int .i64 b]) (by simp [results, Tryz.results196, go_sem, hc2]) rfl ⟨rfl, bl⟩
    · have e : Z.bey (ovn o) false I F true = Q.mk (-((2 ^ I - 1) * 2 ^ F)) 1 := by unfold Z.bey; rw [if_neg hno]; rfl
      rw [e]; clear e
      obtain ⟨a, b, hr⟩ : ∃ a b, Hid (Q.mk (-((2 ^ I - 1) * 2 ^ F)) 1 = (a, b)) := ⟨_, _, rfl⟩
      rw [hr.out]
      have hp : Hid (Z.pw (-(2 ^ I - 1 : Int)) (F : Int) = (a, b)) := by
        unfold Hid Z.pw; rw [if_neg (by omega), show ((F : Int)).toNat = F by omega, ← hr.out]; rw [Int.neg_mul]
      have hb9 : -4611686018427387904 ≤ (-(2 ^ I - 1 : Int)) * 2 ^ ((F : Int)).toNat ∧ (-(2 ^ I - 1 : Int)) * 2 ^ ((F : Int)).toNat ≤ 4611686018427387904 := by rw [show ((F : Int)).toNat = F by omega, Int.neg_mul]; omega
      have HB9 := Lib.hid hb9
      clear hb9
      go_enter Tryz.func196, Tryz.ntmps196
      go_wp2_with fail
      refine (two_any _ (by omega) _).mono ?_
      rintro e w1 ⟨rfl, rfl⟩
      go_wp2_with fail
      refine (rscaled_any _ _ (by omega) HB9.out _).mono ?_
      rintro e w2 ⟨rfl, hb2⟩
      obtain ⟨hc2, hf2, hz2, hB2⟩ := after (a := w) (B := w.heap.size) (w.heap.size + 2) hb2 (by first | (with_reducible assumption) | (simp; done) | omega | (simp; omega)) bl (by omega)
      rw [hp.out]
      go_wp2
      exact bodyPost_ret (v := .agg #[.int .i64 a, .int .i64 b]) (by simp [results, Tryz.results196, go_sem, hc2]) rfl ⟨rfl, bl⟩

set_option maxRecDepth 100000 in
set_option maxHeartbeats 1000000 in
theorem wide_any (n d : Int) (w : World) :
    Calls Tryz.prog 135 #[.agg #[.int .i64 n, .int .i64 d]] w fun e w' => e = .returned (.agg #[.int .i64 n, .int .i64 d]) ∧ Below w.heap.size w w' := by
  go_enter Tryz.func135, Tryz.ntmps135
  go_wp2
  exact bodyPost_ret (v := .agg #[.int .i64 n, .int .i64 d]) (by simp [results, Tryz.results135, go_sem]) rfl ⟨rfl, bl⟩

end Go.Proofs.YtnidbhfpkjggmaaGreatDoor
