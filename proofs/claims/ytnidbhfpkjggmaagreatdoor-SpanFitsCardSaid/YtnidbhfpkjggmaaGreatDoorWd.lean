import Derived.Test.YtnidbhfpkjggmaaGreatDoorWc
import Derived.Test.YtnidbhfpkjggmaaGreatDoorVd
import Derived.StillTailTactics
import Derived.Deep.DeepCutAuto
set_option linter.all false
/-
  The specification's fix: what the calls give.
-/
namespace Go.Proofs.YtnidbhfpkjggmaaGreatDoor
open Go.RowKit
theorem rnmR_eq {m : Nat} (hm : m ≤ 2) : rnmR m = rnm m := by
  have : m = 0 ∨ m = 1 ∨ m = 2 := by omega
  rcases this with rfl | rfl | rfl <;> rfl
theorem shift_yes (m : Nat) (hm : m ≤ 3) (n d k : Int) (hn : -4611686018427387904 ≤ n ∧ n ≤ 4611686018427387904) (hd : 1 ≤ d ∧ d ≤ 1152921504606846976) (hk : -30 ≤ k ∧ k ≤ 30) (hN : Hid (Z.near n d k = true)) (w : World) :
    Calls Tryz.prog 193 #[.string (rnmR m), .agg #[.int .i64 n, .int .i64 d], .int .i64 k] w fun e w' => e = .returned (.tuple #[.int .i64 (Z.rndE m n d k), .bool true]) ∧ Below w.heap.size w w' :=
  (shift_any m hm n d k hn hd hk w).mono fun e w' ⟨y, he, hy, hb⟩ => ⟨by rw [he, hy hN.out, hN.out], hb⟩
theorem shift_no (m : Nat) (hm : m ≤ 3) (n d k : Int) (hn : -4611686018427387904 ≤ n ∧ n ≤ 4611686018427387904) (hd : 1 ≤ d ∧ d ≤ 1152921504606846976) (hk : -30 ≤ k ∧ k ≤ 30) (hN : Hid (Z.near n d k = false)) (w : World) :
    Calls Tryz.prog 193 #[.string (rnmR m), .agg #[.int .i64 n, .int .i64 d], .int .i64 k] w fun e w' => ∃ y, e = .returned (.tuple #[.int .i64 y, .bool false]) ∧ Below w.heap.size w w' :=
  (shift_any m hm n d k hn hd hk w).mono fun e w' ⟨y, he, hy, hb⟩ => ⟨y, by rw [he, hN.out], hb⟩
theorem mod_range (x h : Int) (hh : 0 < h) : (x + h) % (2 * h) - h = if h ≤ x % (2 * h) then x % (2 * h) - 2 * h else x % (2 * h) := by
  have m1 := Int.emod_nonneg x (show 2 * h ≠ 0 by omega)
  have m2 := Int.emod_lt_of_pos x (show 0 < 2 * h by omega)
  have e : (x + h) % (2 * h) = (x % (2 * h) + h) % (2 * h) := by rw [Int.emod_add_emod]
  rw [e]
  generalize x % (2 * h) = r at *
  split
  · have : r + h = (r - h) + 1 * (2 * h) := by omega
    rw [this, Int.add_mul_emod_self_right, Int.emod_eq_of_lt (by omega) (by omega)]; omega
  · rw [Int.emod_eq_of_lt (by omega) (by omega)]; omega
/-- The rest behind whole turns. -/
structure WR (n d T t s : Int) : Prop where
  e1 : n / d / T = t
  e2 : n - t * T * d = s
  tb : -4611686018427387904 ≤ t * T ∧ t * T ≤ 4611686018427387904
  pb : -6917529027641081856 ≤ t * T * d ∧ t * T * d ≤ 4611686018427387904
  sb : 0 ≤ s ∧ s ≤ 4611686018427387904
  sT : s < T * d
  qb : -4611686018427387904 ≤ n / d ∧ n / d ≤ 4611686018427387904
theorem wr_of {n d T : Int} (hn : -2305843009213693952 ≤ n ∧ n ≤ 2305843009213693952) (hd : 1 ≤ d ∧ d ≤ 1152921504606846976) (hT : 1 ≤ T ∧ T ≤ 2147483648) (hneg : n < 0 → T * d ≤ 4611686018427387904) : WR n d T (n / d / T) (n - n / d / T * T * d) := by
  have q1 := Int.mul_ediv_add_emod n d
  have q2 := Int.emod_nonneg n (show d ≠ 0 by omega)
  have q3 := Int.emod_lt_of_pos n (show 0 < d by omega)
  have qb := Q.div_bd n d 2305843009213693952 (by omega) hn
  obtain ⟨x, hx⟩ : ∃ x, n / d = x := ⟨_, rfl⟩
  rw [hx] at q1 qb ⊢
  have r1 := Int.mul_ediv_add_emod x T
  have r2 := Int.emod_nonneg x (show T ≠ 0 by omega)
  have r3 := Int.emod_lt_of_pos x (show 0 < T by omega)
  have c1 : x / T * T = x - x % T := by rw [Int.mul_comm]; omega
  have c2 : n - x / T * T * d = x % T * d + n % d := by
    rw [c1, Int.sub_mul, Int.mul_comm x d]; omega
  have c3 : 0 ≤ x % T * d := Int.mul_nonneg r2 (by omega)
  have c4 : (x % T + 1) * d ≤ T * d := Int.mul_le_mul_of_nonneg_right (by omega) (by omega)
  rw [Int.add_mul, Int.one_mul] at c4
  have hpos : 0 ≤ n → 0 ≤ x / T * T * d := fun h => by
    have x0 : 0 ≤ x := by rw [← hx]; exact Int.ediv_nonneg h (by omega)
    have : 0 ≤ x / T := Int.ediv_nonneg x0 (by omega)
    exact Int.mul_nonneg (Int.mul_nonneg this (by omega)) (by omega)
  refine ⟨by rw [hx], rfl, by omega, ?_, ?_, by omega, by rw [hx]; omega⟩
  · by_cases h : 0 ≤ n
    · have := hpos h; omega
    · have := hneg (by omega); omega
  · by_cases h : 0 ≤ n
    · have := hpos h; omega
    · have := hneg (by omega); omega
set_option maxRecDepth 100000 in
set_option maxHeartbeats 8000000 in
theorem wrapped_core (k o : ByteArray) (m I F : Nat) (hm : m ≤ 2) (h : I + F ≤ 30) (n d : Int) (hn : -2305843009213693952 ≤ n ∧ n ≤ 2305843009213693952) (hd : 1 ≤ d ∧ d ≤ 1152921504606846976) (t s K R : Int) (T H : Int) (mm : Nat) (hT : Hid ((2 : Int) ^ (I + 1) = T)) (hH : Hid ((2 : Int) ^ (I + F) = H)) (wr : Hid (WR n d T t s)) (hN : Hid (Z.near s d (F : Int) = true)) (hK : Hid (Z.rndE mm s d (F : Int) = K)) (KB : 0 ≤ K ∧ K ≤ 8589934592) (hR : Hid (K % (2 * H) = R)) (RB : 0 ≤ R ∧ R < 2 * H) (HB : 1 ≤ H ∧ H ≤ 1073741824) (TB : 1 ≤ T ∧ T ≤ 2147483648) (hmm : Hid ((((rnm m).toList == [122, 101, 114, 111]) = false → rnm m = rnmR mm) ∧ (((rnm m).toList == [122, 101, 114, 111]) = true → n < 0 → mm = 3) ∧ (((rnm m).toList == [122, 101, 114, 111]) = true → ¬ n < 0 → mm = 0))) (hm3 : mm ≤ 3) (w : World) :
    Calls Tryz.prog 194 #[.agg #[.string k, .int .i64 (I : Int), .int .i64 (F : Int), .string (rnm m), .string o], .agg #[.int .i64 n, .int .i64 d], .int .i64 H] w fun e w' => e = .returned (.agg #[.int .i64 (Q.mk (if H ≤ R then R - 2 * H else R) (2 ^ F)).1, .int .i64 (Q.mk (if H ≤ R then R - 2 * H else R) (2 ^ F)).2]) ∧ Below w.heap.size w w' := by
  have w1b := wr.out.tb
  have w2b := wr.out.pb
  have w3b := wr.out.sb
  have w4b := wr.out.qb
  have y1 : IntKind.i64.wrap ((I : Int) + 1) = (I : Int) + 1 := Z.i64_in _ (by omega)
  have y2 : IntKind.i64.wrap (t * T) = t * T := Z.i64_in _ (by omega)
  have y3 : IntKind.i64.wrap (t * T * d) = t * T * d := Z.i64_in _ (by omega)
  have y4 : IntKind.i64.wrap (n - t * T * d) = s := by rw [wr.out.e2]; exact Z.i64_in _ (by omega)
  have y2' : wrap64 (t * T) = t * T := by unfold wrap64; omega
  have y3' : wrap64 (t * T * d) = t * T * d := by unfold wrap64; omega
  have y4' : wrap64 (n - t * T * d) = s := by rw [wr.out.e2]; unfold wrap64; omega
  have y5 : IntKind.i64.wrap (2 * H) = 2 * H := Z.i64_in _ (by omega)
  have z0 : ¬ 2 * H = 0 := by omega
  have z1 : (2 * H == 0) = false := by rw [beq_eq_false_iff_ne]; omega
  have y6 : K.tmod (2 * H) = R := by rw [Int.tmod_eq_emod_of_nonneg KB.1]; exact hR.out
  have y7 : IntKind.i64.wrap (K.tmod (2 * H)) = R := by rw [y6]; exact Z.i64_in _ (by omega)
  have y8 : K % (2 * H) = R := hR.out
  have g0 : decide (R < 0) = false := decide_eq_false (by omega)
  have tw1 : ∀ w, Calls Tryz.prog 81 #[.int .i64 ((I : Int) + 1)] w fun e w' => e = .returned (.int .i64 T) ∧ w = w' := fun w => by
    have h0 := two_any (I + 1) (by omega) w
    rw [hT.out] at h0
    exact h0
  have B3 := Z.p2_30 F (by omega)
  by_cases h0 : H ≤ R
  · rw [if_pos h0]
    have g1 : decide (H ≤ R) = true := decide_eq_true h0
    clear h0
    obtain ⟨a, b, hr⟩ : ∃ a b, Hid (Q.mk (R - 2 * H) (2 ^ F) = (a, b)) := ⟨_, _, rfl⟩
    rw [hr.out]
    cases hz : ((rnm m).toList == [122, 101, 114, 111])
    · have hm9 : rnm m = rnmR mm := hmm.out.1 hz
      rw [hm9] at hz ⊢
      clear hm9
      have y9 : IntKind.i64.wrap (R - 2 * H) = R - 2 * H := Z.i64_in _ (by omega)
      go_enter Tryz.func194, Tryz.ntmps194
      go_wp2_with fail
      refine (tw1 _).mono ?_
      rintro e wa ⟨rfl, rfl⟩
      go_wp2_with fail
      refine (floordiv_any _ _ (by omega) (by omega) _).mono ?_
      rintro e wa ⟨rfl, rfl⟩
      go_wp2_with fail
      refine (floordiv_any _ _ (by omega) (by omega) _).mono ?_
      rintro e wa ⟨rfl, rfl⟩
      rw [wr.out.e1]
      go_wp2_with fail
      refine (shift_yes mm (by omega) _ _ _ (by omega) (by omega) (by omega) hN _).mono ?_
      rintro e w1 ⟨rfl, hb1⟩
      obtain ⟨hc1, hf1, hz1, hB1⟩ := after (a := w) (B := w.heap.size) (w.heap.size + 4) hb1 (by first | (with_reducible assumption) | (simp; done) | omega | (simp; omega)) bl (by omega)
      rw [hK.out]
      go_wp2_with fail
      refine (two_any F (by omega) _).mono ?_
      rintro e wa ⟨rfl, rfl⟩
      go_wp2_with fail
      refine (rmake_all _ _ (by omega) (by omega) _).mono ?_
      rintro e w2 ⟨rfl, hb2⟩
      obtain ⟨hc2, hf2, hz2, hB2⟩ := after (a := w) (B := w.heap.size) (w.heap.size + 4) hb2 (by first | (with_reducible assumption) | (simp; done) | omega | (simp; omega)) bl (by omega)
      rw [hr.out]
      go_wp2
      exact bodyPost_ret (v := .agg #[.int .i64 a, .int .i64 b]) (by simp [results, Tryz.results194, go_sem, hc2, hc1]) rfl ⟨rfl, bl⟩
    · by_cases hneg : n < 0
      · have g2 : decide (n < 0) = true := decide_eq_true hneg
        obtain rfl : mm = 3 := hmm.out.2.1 hz hneg
        clear hneg
        have y9 : IntKind.i64.wrap (R - 2 * H) = R - 2 * H := Z.i64_in _ (by omega)
        go_enter Tryz.func194, Tryz.ntmps194
        go_wp2_with fail
        refine (tw1 _).mono ?_
        rintro e wa ⟨rfl, rfl⟩
        go_wp2_with fail
        refine (floordiv_any _ _ (by omega) (by omega) _).mono ?_
        rintro e wa ⟨rfl, rfl⟩
        go_wp2_with fail
        refine (floordiv_any _ _ (by omega) (by omega) _).mono ?_
        rintro e wa ⟨rfl, rfl⟩
        rw [wr.out.e1]
        go_wp2_with fail
        refine (shift_yes 3 (by omega) _ _ _ (by omega) (by omega) (by omega) hN _).mono ?_
        rintro e w1 ⟨rfl, hb1⟩
        obtain ⟨hc1, hf1, hz1, hB1⟩ := after (a := w) (B := w.heap.size) (w.heap.size + 4) hb1 (by first | (with_reducible assumption) | (simp; done) | omega | (simp; omega)) bl (by omega)
        rw [hK.out]
        go_wp2_with fail
        refine (two_any F (by omega) _).mono ?_
        rintro e wa ⟨rfl, rfl⟩
        go_wp2_with fail
        refine (rmake_all _ _ (by omega) (by omega) _).mono ?_
        rintro e w2 ⟨rfl, hb2⟩
        obtain ⟨hc2, hf2, hz2, hB2⟩ := after (a := w) (B := w.heap.size) (w.heap.size + 4) hb2 (by first | (with_reducible assumption) | (simp; done) | omega | (simp; omega)) bl (by omega)
        rw [hr.out]
        go_wp2
        exact bodyPost_ret (v := .agg #[.int .i64 a, .int .i64 b]) (by simp [results, Tryz.results194, go_sem, hc2, hc1]) rfl ⟨rfl, bl⟩
      · have g2 : decide (n < 0) = false := decide_eq_false hneg
        obtain rfl : mm = 0 := hmm.out.2.2 hz hneg
        clear hneg
        have y9 : IntKind.i64.wrap (R - 2 * H) = R - 2 * H := Z.i64_in _ (by omega)
        go_enter Tryz.func194, Tryz.ntmps194
        go_wp2_with fail
        refine (tw1 _).mono ?_
        rintro e wa ⟨rfl, rfl⟩
        go_wp2_with fail
        refine (floordiv_any _ _ (by omega) (by omega) _).mono ?_
        rintro e wa ⟨rfl, rfl⟩
        go_wp2_with fail
        refine (floordiv_any _ _ (by omega) (by omega) _).mono ?_
        rintro e wa ⟨rfl, rfl⟩
        rw [wr.out.e1]
        go_wp2_with fail
        refine (shift_yes 0 (by omega) _ _ _ (by omega) (by omega) (by omega) hN _).mono ?_
        rintro e w1 ⟨rfl, hb1⟩
        obtain ⟨hc1, hf1, hz1, hB1⟩ := after (a := w) (B := w.heap.size) (w.heap.size + 4) hb1 (by first | (with_reducible assumption) | (simp; done) | omega | (simp; omega)) bl (by omega)
        rw [hK.out]
        go_wp2_with fail
        refine (two_any F (by omega) _).mono ?_
        rintro e wa ⟨rfl, rfl⟩
        go_wp2_with fail
        refine (rmake_all _ _ (by omega) (by omega) _).mono ?_
        rintro e w2 ⟨rfl, hb2⟩
        obtain ⟨hc2, hf2, hz2, hB2⟩ := after (a := w) (B := w.heap.size) (w.heap.size + 4) hb2 (by first | (with_reducible assumption) | (simp; done) | omega | (simp; omega)) bl (by omega)
        rw [hr.out]
        go_wp2
        exact bodyPost_ret (v := .agg #[.int .i64 a, .int .i64 b]) (by simp [results, Tryz.results194, go_sem, hc2, hc1]) rfl ⟨rfl, bl⟩
  · rw [if_neg h0]
    have g1 : decide (H ≤ R) = false := decide_eq_false h0
    clear h0
    obtain ⟨a, b, hr⟩ : ∃ a b, Hid (Q.mk R (2 ^ F) = (a, b)) := ⟨_, _, rfl⟩
    rw [hr.out]
    cases hz : ((rnm m).toList == [122, 101, 114, 111])
    · have hm9 : rnm m = rnmR mm := hmm.out.1 hz
      rw [hm9] at hz ⊢
      clear hm9
      have y9 : IntKind.i64.wrap (R - 2 * H) = R - 2 * H := Z.i64_in _ (by omega)
      go_enter Tryz.func194, Tryz.ntmps194
      go_wp2_with fail
      refine (tw1 _).mono ?_
      rintro e wa ⟨rfl, rfl⟩
      go_wp2_with fail
      refine (floordiv_any _ _ (by omega) (by omega) _).mono ?_
      rintro e wa ⟨rfl, rfl⟩
      go_wp2_with fail
      refine (floordiv_any _ _ (by omega) (by omega) _).mono ?_
      rintro e wa ⟨rfl, rfl⟩
      rw [wr.out.e1]
      go_wp2_with fail
      refine (shift_yes mm (by omega) _ _ _ (by omega) (by omega) (by omega) hN _).mono ?_
      rintro e w1 ⟨rfl, hb1⟩
      obtain ⟨hc1, hf1, hz1, hB1⟩ := after (a := w) (B := w.heap.size) (w.heap.size + 4) hb1 (by first | (with_reducible assumption) | (simp; done) | omega | (simp; omega)) bl (by omega)
      rw [hK.out]
      go_wp2_with fail
      refine (two_any F (by omega) _).mono ?_
      rintro e wa ⟨rfl, rfl⟩
      go_wp2_with fail
      refine (rmake_all _ _ (by omega) (by omega) _).mono ?_
      rintro e w2 ⟨rfl, hb2⟩
      obtain ⟨hc2, hf2, hz2, hB2⟩ := after (a := w) (B := w.heap.size) (w.heap.size + 4) hb2 (by first | (with_reducible assumption) | (simp; done) | omega | (simp; omega)) bl (by omega)
      rw [hr.out]
      go_wp2
      exact bodyPost_ret (v := .agg #[.int .i64 a, .int .i64 b]) (by simp [results, Tryz.results194, go_sem, hc2, hc1]) rfl ⟨rfl, bl⟩
    · by_cases hneg : n < 0
      · have g2 : decide (n < 0) = true := decide_eq_true hneg
        obtain rfl : mm = 3 := hmm.out.2.1 hz hneg
        clear hneg
        have y9 : IntKind.i64.wrap (R - 2 * H) = R - 2 * H := Z.i64_in _ (by omega)
        go_enter Tryz.func194, Tryz.ntmps194
        go_wp2_with fail
        refine (tw1 _).mono ?_
        rintro e wa ⟨rfl, rfl⟩
        go_wp2_with fail
        refine (floordiv_any _ _ (by omega) (by omega) _).mono ?_
        rintro e wa ⟨rfl, rfl⟩
        go_wp2_with fail
        refine (floordiv_any _ _ (by omega) (by omega) _).mono ?_
        rintro e wa ⟨rfl, rfl⟩
        rw [wr.out.e1]
        go_wp2_with fail
        refine (shift_yes 3 (by omega) _ _ _ (by omega) (by omega) (by omega) hN _).mono ?_
        rintro e w1 ⟨rfl, hb1⟩
        obtain ⟨hc1, hf1, hz1, hB1⟩ := after (a := w) (B := w.heap.size) (w.heap.size + 4) hb1 (by first | (with_reducible assumption) | (simp; done) | omega | (simp; omega)) bl (by omega)
        rw [hK.out]
        go_wp2_with fail
        refine (two_any F (by omega) _).mono ?_
        rintro e wa ⟨rfl, rfl⟩
        go_wp2_with fail
        refine (rmake_all _ _ (by omega) (by omega) _).mono ?_
        rintro e w2 ⟨rfl, hb2⟩
        obtain ⟨hc2, hf2, hz2, hB2⟩ := after (a := w) (B := w.heap.size) (w.heap.size + 4) hb2 (by first | (with_reducible assumption) | (simp; done) | omega | (simp; omega)) bl (by omega)
        rw [hr.out]
        go_wp2
        exact bodyPost_ret (v := .agg #[.int .i64 a, .int .i64 b]) (by simp [results, Tryz.results194, go_sem, hc2, hc1]) rfl ⟨rfl, bl⟩
      · have g2 : decide (n < 0) = false := decide_eq_false hneg
        obtain rfl : mm = 0 := hmm.out.2.2 hz hneg
        clear hneg
        have y9 : IntKind.i64.wrap (R - 2 * H) = R - 2 * H := Z.i64_in _ (by omega)
        go_enter Tryz.func194, Tryz.ntmps194
        go_wp2_with fail
        refine (tw1 _).mono ?_
        rintro e wa ⟨rfl, rfl⟩
        go_wp2_with fail
        refine (floordiv_any _ _ (by omega) (by omega) _).mono ?_
        rintro e wa ⟨rfl, rfl⟩
        go_wp2_with fail
        refine (floordiv_any _ _ (by omega) (by omega) _).mono ?_
        rintro e wa ⟨rfl, rfl⟩
        rw [wr.out.e1]
        go_wp2_with fail
        refine (shift_yes 0 (by omega) _ _ _ (by omega) (by omega) (by omega) hN _).mono ?_
        rintro e w1 ⟨rfl, hb1⟩
        obtain ⟨hc1, hf1, hz1, hB1⟩ := after (a := w) (B := w.heap.size) (w.heap.size + 4) hb1 (by first | (with_reducible assumption) | (simp; done) | omega | (simp; omega)) bl (by omega)
        rw [hK.out]
        go_wp2_with fail
        refine (two_any F (by omega) _).mono ?_
        rintro e wa ⟨rfl, rfl⟩
        go_wp2_with fail
        refine (rmake_all _ _ (by omega) (by omega) _).mono ?_
        rintro e w2 ⟨rfl, hb2⟩
        obtain ⟨hc2, hf2, hz2, hB2⟩ := after (a := w) (B := w.heap.size) (w.heap.size + 4) hb2 (by first | (with_reducible assumption) | (simp; done) | omega | (simp; omega)) bl (by omega)
        rw [hr.out]
        go_wp2
        exact bodyPost_ret (v := .agg #[.int .i64 a, .int .i64 b]) (by simp [results, Tryz.results194, go_sem, hc2, hc1]) rfl ⟨rfl, bl⟩

end Go.Proofs.YtnidbhfpkjggmaaGreatDoor
