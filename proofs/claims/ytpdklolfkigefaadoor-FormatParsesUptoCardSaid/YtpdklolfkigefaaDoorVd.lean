/-
  Formats: what a fraction comes to in a fix: what the calls give.
-/
import Derived.Test.YtpdklolfkigefaaDoorVc
import Derived.Test.YtpdklolfkigefaaDoorZx
import Derived.Laws.BitsLemmas
set_option linter.all false
namespace Go.Proofs.YtpdklolfkigefaaDoor
open Go.RowKit
theorem i64_mask (n : Int) (j : Nat) (hj : j ≤ 62) : bits .and .i64 n (2 ^ j - 1) = n % 2 ^ j := by
  have hp := Z.p2_bd j hj
  have hc : ((2 ^ j : Nat) : Int) = (2 : Int) ^ j := by simp
  have hm : (BitVec.ofInt 64 (2 ^ j - 1)).toNat = 2 ^ j - 1 := by
    rw [BitVec.toNat_ofInt]
    rw [← hc] at hp ⊢
    generalize 2 ^ j = x at *
    omega
  have key : (BitVec.ofInt 64 n &&& BitVec.ofInt 64 (2 ^ j - 1)).toNat = (n % ((2 ^ 64 : Nat) : Int)).toNat % 2 ^ j := by
    rw [BitVec.toNat_and, BitVec.toNat_ofInt, hm, Nat.and_two_pow_sub_one_eq_mod]
  show IntKind.i64.wrap ((BitVec.ofInt 64 n &&& BitVec.ofInt 64 (2 ^ j - 1)).toNat : Nat) = n % 2 ^ j
  rw [key, IntKind.wrap_i64]
  have e1 : (((n % ((2 ^ 64 : Nat) : Int)).toNat % 2 ^ j : Nat) : Int) = n % 2 ^ j := by
    have h0 : ((n % ((2 ^ 64 : Nat) : Int)).toNat : Int) = n % ((2 ^ 64 : Nat) : Int) := Int.toNat_of_nonneg (Int.emod_nonneg _ (by decide))
    rw [Int.natCast_emod, h0, hc]
    have hd : (2 : Int) ^ j ∣ ((2 ^ 64 : Nat) : Int) := by
      refine ⟨2 ^ (64 - j), ?_⟩
      rw [← Z.p2_add, show j + (64 - j) = 64 by omega]; rfl
    exact Int.emod_emod_of_dvd n hd
  rw [e1]
  have h1 := Int.emod_nonneg n (show (2 : Int) ^ j ≠ 0 by omega)
  have h2 := Int.emod_lt_of_pos n (show (0 : Int) < 2 ^ j by omega)
  generalize n % 2 ^ j = y at *
  omega
theorem fix_below {I F m : Nat} {n d : Int} (h : I + F ≤ 30) (hd : 1 ≤ d) (hb : Z.below n d ((I + 1 : Nat) : Int) = true) : (n.natAbs : Int) * 2 ^ F ≤ 2305843009213693952 * d ∧ -(2 * 2 ^ (I + F)) ≤ Z.rndE m n d (F : Int) ∧ Z.rndE m n d (F : Int) ≤ 2 * 2 ^ (I + F) := by
  refine ⟨?_, by rw [Z.rndE_pos]; exact Z.fix_small m I F n d (by omega) hb⟩
  rw [Z.below_pos, decide_eq_true_iff] at hb
  have hp := pb_of h
  have h3 : (n.natAbs : Int) * 2 ^ F ≤ d * 2 ^ (I + 1) * 2 ^ F := Int.mul_le_mul_of_nonneg_right (by omega) (by have := hp.f; omega)
  have e : d * 2 ^ (I + 1) * 2 ^ F = 2 * 2 ^ (I + F) * d := by
    rw [Int.mul_assoc, ← Z.p2_add, Int.mul_comm d, show I + 1 + F = I + F + 1 by omega, Int.pow_succ, Int.mul_comm (2 ^ (I + F)) 2]
  have h4 : 2 * 2 ^ (I + F) * d ≤ 2305843009213693952 * d := Int.mul_le_mul_of_nonneg_right (by have := hp.h; omega) (by omega)
  omega
/-- A whole turn of a number that is not below it. -/
theorem fix_rest {I : Nat} {n d : Int} (hn : -2305843009213693952 ≤ n ∧ n ≤ 2305843009213693952) (hd : 1 ≤ d) (hb : Z.below n d ((I + 1 : Nat) : Int) = false) :
    d * 2 ^ (I + 1) ≤ 2305843009213693952 ∧ 1 ≤ d * 2 ^ (I + 1) ∧ Z.below (n.tmod (d * 2 ^ (I + 1))) d ((I + 1 : Nat) : Int) = true ∧ (-2305843009213693952 ≤ n.tmod (d * 2 ^ (I + 1)) ∧ n.tmod (d * 2 ^ (I + 1)) ≤ 2305843009213693952) := by
  rw [Z.below_pos, decide_eq_false_iff_not] at hb
  have hp := Z.p2_pos (I + 1)
  have h1 : 0 < d * 2 ^ (I + 1) := Int.mul_pos (by omega) (by omega)
  have h2 := Q.tmod_lt n (d * 2 ^ (I + 1)) (by omega)
  rw [Z.below_pos, decide_eq_true_iff]
  generalize d * 2 ^ (I + 1) = D at *
  omega
theorem fix_wrapped {m I F : Nat} {n d : Int} (hm : m ≤ 2) (hd : 1 ≤ d) :
    (Z.rndE m (n.tmod (d * 2 ^ (I + 1))) d (F : Int) + 2 ^ (I + F)) % (2 * 2 ^ (I + F)) = (Z.rndE m n d (F : Int) + 2 ^ (I + F)) % (2 * 2 ^ (I + F)) := by
  rw [Z.rndE_pos, Z.rndE_pos]
  have hp := Z.p2_pos (I + 1)
  have h1 : 0 < d * 2 ^ (I + 1) := Int.mul_pos (by omega) (by omega)
  have e : n - n.tdiv (d * 2 ^ (I + 1)) * (d * 2 ^ (I + 1)) = n.tmod (d * 2 ^ (I + 1)) := by
    have := Int.mul_tdiv_add_tmod n (d * 2 ^ (I + 1)); rw [Int.mul_comm] at this; omega
  rw [← e]
  refine Z.fix_turns m m I F n d _ (by omega) ?_
  rw [e]
  by_cases h2 : m < 2
  · exact Or.inl ⟨rfl, h2⟩
  · refine Or.inr (Or.inl ⟨rfl, by omega, ?_⟩)
    by_cases h0 : n.tmod (d * 2 ^ (I + 1)) = 0
    · exact Or.inl h0
    · right
      by_cases hn : 0 ≤ n
      · have := Int.tmod_nonneg (d * 2 ^ (I + 1)) hn; omega
      · have : n.tmod (d * 2 ^ (I + 1)) = -((-n).tmod (d * 2 ^ (I + 1))) := by rw [Int.neg_tmod]; omega
        have h3 := Int.tmod_nonneg (d * 2 ^ (I + 1)) (show 0 ≤ -n by omega)
        omega
set_option maxRecDepth 100000 in
set_option maxHeartbeats 2000000 in
theorem ff_beyond (k o : ByteArray) (m I F : Nat) (hm : m ≤ 2) (h : I + F ≤ 30) (n d : Int) (hn : -2305843009213693952 ≤ n ∧ n ≤ 2305843009213693952) (hd : 1 ≤ d ∧ d ≤ 1152921504606846976) (hv : Hid (Z.vld k (rnm m) o (I : Int) (F : Int) = true)) (ho : (o.toList == [119, 114, 97, 112]) = false) (hb : Hid (Z.below n d ((I : Int) + 1) = false)) (w : World) :
    Calls Tryd.prog 49 #[.agg #[.string k, .int .i64 (I : Int), .int .i64 (F : Int), .string (rnm m), .string o], .agg #[.int .i64 n, .int .i64 d]] w fun e w' => e = .returned (.agg #[.int .i64 (Z.bey (ovn o) (k.toList == [102, 105, 120]) I F (decide (n < 0))).1, .int .i64 (Z.bey (ovn o) (k.toList == [102, 105, 120]) I F (decide (n < 0))).2]) ∧ Below w.heap.size w w' := by
  have hB := pb_of h
  have B1 := hB.h
  have B2 := hB.i
  have B3 := hB.f
  clear hB
  have y1 : IntKind.i64.wrap ((I : Int) + 1) = (I : Int) + 1 := Z.i64_in _ (by omega)
  obtain ⟨a, b, hr⟩ : ∃ a b, Hid (Z.bey (ovn o) (k.toList == [102, 105, 120]) I F (decide (n < 0)) = (a, b)) := ⟨_, _, rfl⟩
  rw [hr.out]
  go_enter Tryd.func49, Tryd.ntmps49
  go_wp2_with fail
  refine (isbelow_any _ _ _ (by omega) (by omega) (by omega) _).mono ?_
  rintro e w1 ⟨rfl, hw1⟩
  have hmw1 : Below w.heap.size w w1 := on_below hw1 (by repeat' (first | (with_reducible exact Below.refl _ _) | (with_reducible assumption) | (with_reducible refine drewN_below ?_ _) | (with_reducible refine Below.drew ?_) | (with_reducible refine Below.alloc ?_ ?_ _) | (with_reducible refine Below.setCell ?_ ?_ _) | (simp; done) | omega | (simp; omega))) (by first | (with_reducible assumption) | (simp; done) | omega | (simp; omega))
  have cG0w1 : w1.cell? ⟨w.heap.size, 0, none⟩ = some (.string k) := by rw [hw1.cell (p := ⟨w.heap.size, 0, none⟩) (by first | (with_reducible assumption) | (simp; done) | omega | (simp; omega))]; simp [go_sem]
  have cG1w1 : w1.cell? ⟨w.heap.size, 1, none⟩ = some (.int .i64 (I : Int)) := by rw [hw1.cell (p := ⟨w.heap.size, 1, none⟩) (by first | (with_reducible assumption) | (simp; done) | omega | (simp; omega))]; simp [go_sem]
  have cG2w1 : w1.cell? ⟨w.heap.size, 2, none⟩ = some (.int .i64 (F : Int)) := by rw [hw1.cell (p := ⟨w.heap.size, 2, none⟩) (by first | (with_reducible assumption) | (simp; done) | omega | (simp; omega))]; simp [go_sem]
  have cG3w1 : w1.cell? ⟨w.heap.size, 3, none⟩ = some (.string (rnm m)) := by rw [hw1.cell (p := ⟨w.heap.size, 3, none⟩) (by first | (with_reducible assumption) | (simp; done) | omega | (simp; omega))]; simp [go_sem]
  have cG4w1 : w1.cell? ⟨w.heap.size, 4, none⟩ = some (.string o) := by rw [hw1.cell (p := ⟨w.heap.size, 4, none⟩) (by first | (with_reducible assumption) | (simp; done) | omega | (simp; omega))]; simp [go_sem]
  have bGw1 : w.heap.size < w1.heap.size := by have := hw1.size; first | omega | (simp at this; omega)
  have dGw1 : w.heap.size < w1.heap.size + 1 := Nat.lt_succ_of_lt bGw1
  have cV0w1 : w1.cell? ⟨w.heap.size + 1, 0, none⟩ = some (.int .i64 n) := by rw [hw1.cell (p := ⟨w.heap.size + 1, 0, none⟩) (by first | (with_reducible assumption) | (simp; done) | omega | (simp; omega))]; simp [go_sem]
  have cV1w1 : w1.cell? ⟨w.heap.size + 1, 1, none⟩ = some (.int .i64 d) := by rw [hw1.cell (p := ⟨w.heap.size + 1, 1, none⟩) (by first | (with_reducible assumption) | (simp; done) | omega | (simp; omega))]; simp [go_sem]
  have zV0w1 : w1.frozen? ⟨w.heap.size + 1, 0, none⟩ = false := by rw [hw1.frozen (p := ⟨w.heap.size + 1, 0, none⟩) (by first | (with_reducible assumption) | (simp; done) | omega | (simp; omega))]; simp [go_sem]
  have zV1w1 : w1.frozen? ⟨w.heap.size + 1, 1, none⟩ = false := by rw [hw1.frozen (p := ⟨w.heap.size + 1, 1, none⟩) (by first | (with_reducible assumption) | (simp; done) | omega | (simp; omega))]; simp [go_sem]
  have bVw1 : w.heap.size + 1 < w1.heap.size := by have := hw1.size; first | omega | (simp at this; omega)
  have dVw1 : w.heap.size + 1 < w1.heap.size + 1 := Nat.lt_succ_of_lt bVw1
  have cR0w1 : w1.cell? ⟨w.heap.size + 2, 0, none⟩ = some (.int .i64 0) := by rw [hw1.cell (p := ⟨w.heap.size + 2, 0, none⟩) (by first | (with_reducible assumption) | (simp; done) | omega | (simp; omega))]; simp [go_sem]
  have cR1w1 : w1.cell? ⟨w.heap.size + 2, 1, none⟩ = some (.int .i64 0) := by rw [hw1.cell (p := ⟨w.heap.size + 2, 1, none⟩) (by first | (with_reducible assumption) | (simp; done) | omega | (simp; omega))]; simp [go_sem]
  have zR0w1 : w1.frozen? ⟨w.heap.size + 2, 0, none⟩ = false := by rw [hw1.frozen (p := ⟨w.heap.size + 2, 0, none⟩) (by first | (with_reducible assumption) | (simp; done) | omega | (simp; omega))]; simp [go_sem]
  have zR1w1 : w1.frozen? ⟨w.heap.size + 2, 1, none⟩ = false := by rw [hw1.frozen (p := ⟨w.heap.size + 2, 1, none⟩) (by first | (with_reducible assumption) | (simp; done) | omega | (simp; omega))]; simp [go_sem]
  have bRw1 : w.heap.size + 2 < w1.heap.size := by have := hw1.size; first | omega | (simp at this; omega)
  have dRw1 : w.heap.size + 2 < w1.heap.size + 1 := Nat.lt_succ_of_lt bRw1
  have hBw1 : Below w.heap.size w w1 := hmw1
  have zw1 : w.heap.size ≤ w1.heap.size := hBw1.size
  clear hmw1 hw1
  rw [hb.out]
  go_wp2_with fail
  refine (beyond_any _ _ _ _ _ h _ _ hv _).mono ?_
  rintro e w2 ⟨rfl, hw2⟩
  have hmw2 : Below w1.heap.size w1 w2 := on_below hw2 (by repeat' (first | (with_reducible exact Below.refl _ _) | (with_reducible assumption) | (with_reducible refine drewN_below ?_ _) | (with_reducible refine Below.drew ?_) | (with_reducible refine Below.alloc ?_ ?_ _) | (with_reducible refine Below.setCell ?_ ?_ _) | (simp; done) | omega | (simp; omega))) (by first | (with_reducible assumption) | (simp; done) | omega | (simp; omega))
  have cG0w2 := (hmw2.cell (p := ⟨w.heap.size, 0, none⟩) bGw1).trans cG0w1
  have cG1w2 := (hmw2.cell (p := ⟨w.heap.size, 1, none⟩) bGw1).trans cG1w1
  have cG2w2 := (hmw2.cell (p := ⟨w.heap.size, 2, none⟩) bGw1).trans cG2w1
  have cG3w2 := (hmw2.cell (p := ⟨w.heap.size, 3, none⟩) bGw1).trans cG3w1
  have cG4w2 := (hmw2.cell (p := ⟨w.heap.size, 4, none⟩) bGw1).trans cG4w1
  have bGw2 : w.heap.size < w2.heap.size := Nat.lt_of_lt_of_le bGw1 hmw2.size
  have dGw2 : w.heap.size < w2.heap.size + 1 := Nat.lt_succ_of_lt bGw2
  have cV0w2 := (hmw2.cell (p := ⟨w.heap.size + 1, 0, none⟩) bVw1).trans cV0w1
  have cV1w2 := (hmw2.cell (p := ⟨w.heap.size + 1, 1, none⟩) bVw1).trans cV1w1
  have zV0w2 := (hmw2.frozen (p := ⟨w.heap.size + 1, 0, none⟩) bVw1).trans zV0w1
  have zV1w2 := (hmw2.frozen (p := ⟨w.heap.size + 1, 1, none⟩) bVw1).trans zV1w1
  have bVw2 : w.heap.size + 1 < w2.heap.size := Nat.lt_of_lt_of_le bVw1 hmw2.size
  have dVw2 : w.heap.size + 1 < w2.heap.size + 1 := Nat.lt_succ_of_lt bVw2
  have cR0w2 := (hmw2.cell (p := ⟨w.heap.size + 2, 0, none⟩) bRw1).trans cR0w1
  have cR1w2 := (hmw2.cell (p := ⟨w.heap.size + 2, 1, none⟩) bRw1).trans cR1w1
  have zR0w2 := (hmw2.frozen (p := ⟨w.heap.size + 2, 0, none⟩) bRw1).trans zR0w1
  have zR1w2 := (hmw2.frozen (p := ⟨w.heap.size + 2, 1, none⟩) bRw1).trans zR1w1
  have bRw2 : w.heap.size + 2 < w2.heap.size := Nat.lt_of_lt_of_le bRw1 hmw2.size
  have dRw2 : w.heap.size + 2 < w2.heap.size + 1 := Nat.lt_succ_of_lt bRw2
  have hBw2 : Below w.heap.size w w2 := Below.trans hBw1 (hmw2.mono hBw1.size)
  have zw2 : w.heap.size ≤ w2.heap.size := hBw2.size
  clear hmw2 hw2 zw1 hBw1 dRw1 bRw1 zR1w1 zR0w1 cR1w1 cR0w1 dVw1 bVw1 zV1w1 zV0w1 cV1w1 cV0w1 dGw1 bGw1 cG4w1 cG3w1 cG2w1 cG1w1 cG0w1
  rw [hr.out]
  have cR0z : w2.cell? ⟨w.heap.size + 1 + 1, 0, none⟩ = some (.int .i64 0) := cR0w2
  have cR1z : w2.cell? ⟨w.heap.size + 1 + 1, 1, none⟩ = some (.int .i64 0) := cR1w2
  go_wp2
  exact bodyPost_ret (v := .agg #[.int .i64 a, .int .i64 b]) (by simp [results, Tryd.results49, go_sem, cR0z, cR1z]) rfl ⟨rfl, (by repeat' (first | (with_reducible exact Below.refl _ _) | (with_reducible assumption) | (with_reducible refine drewN_below ?_ _) | (with_reducible refine Below.drew ?_) | (with_reducible refine Below.alloc ?_ ?_ _) | (with_reducible refine Below.setCell ?_ ?_ _) | (simp; done) | omega | (simp; omega)))⟩

set_option maxRecDepth 100000 in
set_option maxHeartbeats 4000000 in
theorem ff_low (k o : ByteArray) (m I F : Nat) (hm : m ≤ 2) (h : I + F ≤ 30) (n d : Int) (hn : -2305843009213693952 ≤ n ∧ n ≤ 2305843009213693952) (hd : 1 ≤ d ∧ d ≤ 1152921504606846976) (K H : Int) (hK : Hid (Z.rndE m n d (F : Int) = K)) (hH : Hid ((2 : Int) ^ (I + F) = H)) (KB : -4294967296 ≤ K ∧ K ≤ 4294967296) (hk1 : Hid ((n.natAbs : Int) * 2 ^ (F : Int).toNat ≤ 2305843009213693952 * (d * 2 ^ (-(F : Int)).toNat))) (hv : Hid (Z.vld k (rnm m) o (I : Int) (F : Int) = true)) (ho : (o.toList == [119, 114, 97, 112]) = false) (hb : Hid (Z.below n d ((I : Int) + 1) = true)) (h1 : K < -H) (w : World) :
    Calls Tryd.prog 49 #[.agg #[.string k, .int .i64 (I : Int), .int .i64 (F : Int), .string (rnm m), .string o], .agg #[.int .i64 n, .int .i64 d]] w fun e w' => e = .returned (.agg #[.int .i64 (Z.bey (ovn o) (k.toList == [102, 105, 120]) I F (decide (n < 0))).1, .int .i64 (Z.bey (ovn o) (k.toList == [102, 105, 120]) I F (decide (n < 0))).2]) ∧ Below w.heap.size w w' := by
  have hB := pb_of h
  have B1 := hB.h
  have B2 := hB.i
  have B3 := hB.f
  clear hB
  have y1 : IntKind.i64.wrap ((I : Int) + 1) = (I : Int) + 1 := Z.i64_in _ (by omega)
  rw [hH.out] at B1
  have z1 : d * 2 ^ (-(F : Int)).toNat = d := by rw [show (-(F : Int)).toNat = 0 by omega, Int.pow_zero, Int.mul_one]
  have Z1 := Lib.hid z1
  clear z1
  have y2 : IntKind.i64.wrap (-H) = -H := Z.i64_in _ (by omega)
  obtain ⟨a, b, hr⟩ : ∃ a b, Hid (Z.bey (ovn o) (k.toList == [102, 105, 120]) I F (decide (n < 0)) = (a, b)) := ⟨_, _, rfl⟩
  rw [hr.out]
  have g1 : decide (K < -H) = true := decide_eq_true h1
  go_enter Tryd.func49, Tryd.ntmps49
  go_wp2_with fail
  refine (isbelow_any _ _ _ (by omega) (by omega) (by omega) _).mono ?_
  rintro e w1 ⟨rfl, hw1⟩
  have hmw1 : Below w.heap.size w w1 := on_below hw1 (by repeat' (first | (with_reducible exact Below.refl _ _) | (with_reducible assumption) | (with_reducible refine drewN_below ?_ _) | (with_reducible refine Below.drew ?_) | (with_reducible refine Below.alloc ?_ ?_ _) | (with_reducible refine Below.setCell ?_ ?_ _) | (simp; done) | omega | (simp; omega))) (by first | (with_reducible assumption) | (simp; done) | omega | (simp; omega))
  have cG0w1 : w1.cell? ⟨w.heap.size, 0, none⟩ = some (.string k) := by rw [hw1.cell (p := ⟨w.heap.size, 0, none⟩) (by first | (with_reducible assumption) | (simp; done) | omega | (simp; omega))]; simp [go_sem]
  have cG1w1 : w1.cell? ⟨w.heap.size, 1, none⟩ = some (.int .i64 (I : Int)) := by rw [hw1.cell (p := ⟨w.heap.size, 1, none⟩) (by first | (with_reducible assumption) | (simp; done) | omega | (simp; omega))]; simp [go_sem]
  have cG2w1 : w1.cell? ⟨w.heap.size, 2, none⟩ = some (.int .i64 (F : Int)) := by rw [hw1.cell (p := ⟨w.heap.size, 2, none⟩) (by first | (with_reducible assumption) | (simp; done) | omega | (simp; omega))]; simp [go_sem]
  have cG3w1 : w1.cell? ⟨w.heap.size, 3, none⟩ = some (.string (rnm m)) := by rw [hw1.cell (p := ⟨w.heap.size, 3, none⟩) (by first | (with_reducible assumption) | (simp; done) | omega | (simp; omega))]; simp [go_sem]
  have cG4w1 : w1.cell? ⟨w.heap.size, 4, none⟩ = some (.string o) := by rw [hw1.cell (p := ⟨w.heap.size, 4, none⟩) (by first | (with_reducible assumption) | (simp; done) | omega | (simp; omega))]; simp [go_sem]
  have bGw1 : w.heap.size < w1.heap.size := by have := hw1.size; first | omega | (simp at this; omega)
  have dGw1 : w.heap.size < w1.heap.size + 1 := Nat.lt_succ_of_lt bGw1
  have cV0w1 : w1.cell? ⟨w.heap.size + 1, 0, none⟩ = some (.int .i64 n) := by rw [hw1.cell (p := ⟨w.heap.size + 1, 0, none⟩) (by first | (with_reducible assumption) | (simp; done) | omega | (simp; omega))]; simp [go_sem]
  have cV1w1 : w1.cell? ⟨w.heap.size + 1, 1, none⟩ = some (.int .i64 d) := by rw [hw1.cell (p := ⟨w.heap.size + 1, 1, none⟩) (by first | (with_reducible assumption) | (simp; done) | omega | (simp; omega))]; simp [go_sem]
  have zV0w1 : w1.frozen? ⟨w.heap.size + 1, 0, none⟩ = false := by rw [hw1.frozen (p := ⟨w.heap.size + 1, 0, none⟩) (by first | (with_reducible assumption) | (simp; done) | omega | (simp; omega))]; simp [go_sem]
  have zV1w1 : w1.frozen? ⟨w.heap.size + 1, 1, none⟩ = false := by rw [hw1.frozen (p := ⟨w.heap.size + 1, 1, none⟩) (by first | (with_reducible assumption) | (simp; done) | omega | (simp; omega))]; simp [go_sem]
  have bVw1 : w.heap.size + 1 < w1.heap.size := by have := hw1.size; first | omega | (simp at this; omega)
  have dVw1 : w.heap.size + 1 < w1.heap.size + 1 := Nat.lt_succ_of_lt bVw1
  have cR0w1 : w1.cell? ⟨w.heap.size + 2, 0, none⟩ = some (.int .i64 0) := by rw [hw1.cell (p := ⟨w.heap.size + 2, 0, none⟩) (by first | (with_reducible assumption) | (simp; done) | omega | (simp; omega))]; simp [go_sem]
  have cR1w1 : w1.cell? ⟨w.heap.size + 2, 1, none⟩ = some (.int .i64 0) := by rw [hw1.cell (p := ⟨w.heap.size + 2, 1, none⟩) (by first | (with_reducible assumption) | (simp; done) | omega | (simp; omega))]; simp [go_sem]
  have zR0w1 : w1.frozen? ⟨w.heap.size + 2, 0, none⟩ = false := by rw [hw1.frozen (p := ⟨w.heap.size + 2, 0, none⟩) (by first | (with_reducible assumption) | (simp; done) | omega | (simp; omega))]; simp [go_sem]
  have zR1w1 : w1.frozen? ⟨w.heap.size + 2, 1, none⟩ = false := by rw [hw1.frozen (p := ⟨w.heap.size + 2, 1, none⟩) (by first | (with_reducible assumption) | (simp; done) | omega | (simp; omega))]; simp [go_sem]
  have bRw1 : w.heap.size + 2 < w1.heap.size := by have := hw1.size; first | omega | (simp at this; omega)
  have dRw1 : w.heap.size + 2 < w1.heap.size + 1 := Nat.lt_succ_of_lt bRw1
  have hBw1 : Below w.heap.size w w1 := hmw1
  have zw1 : w.heap.size ≤ w1.heap.size := hBw1.size
  clear hmw1 hw1
  rw [hb.out]
  go_wp2_with fail
  refine (rounded_any m hm _ _ _ (by omega) (by omega) (by omega) hk1.out (by rw [Z1.out]; omega) _).mono ?_
  rintro e w2 ⟨rfl, hw2⟩
  have hmw2 : Below w1.heap.size w1 w2 := on_below hw2 (by repeat' (first | (with_reducible exact Below.refl _ _) | (with_reducible assumption) | (with_reducible refine drewN_below ?_ _) | (with_reducible refine Below.drew ?_) | (with_reducible refine Below.alloc ?_ ?_ _) | (with_reducible refine Below.setCell ?_ ?_ _) | (simp; done) | omega | (simp; omega))) (by first | (with_reducible assumption) | (simp; done) | omega | (simp; omega))
  have cG0w2 := (hmw2.cell (p := ⟨w.heap.size, 0, none⟩) bGw1).trans cG0w1
  have cG1w2 := (hmw2.cell (p := ⟨w.heap.size, 1, none⟩) bGw1).trans cG1w1
  have cG2w2 := (hmw2.cell (p := ⟨w.heap.size, 2, none⟩) bGw1).trans cG2w1
  have cG3w2 := (hmw2.cell (p := ⟨w.heap.size, 3, none⟩) bGw1).trans cG3w1
  have cG4w2 := (hmw2.cell (p := ⟨w.heap.size, 4, none⟩) bGw1).trans cG4w1
  have bGw2 : w.heap.size < w2.heap.size := Nat.lt_of_lt_of_le bGw1 hmw2.size
  have dGw2 : w.heap.size < w2.heap.size + 1 := Nat.lt_succ_of_lt bGw2
  have cV0w2 := (hmw2.cell (p := ⟨w.heap.size + 1, 0, none⟩) bVw1).trans cV0w1
  have cV1w2 := (hmw2.cell (p := ⟨w.heap.size + 1, 1, none⟩) bVw1).trans cV1w1
  have zV0w2 := (hmw2.frozen (p := ⟨w.heap.size + 1, 0, none⟩) bVw1).trans zV0w1
  have zV1w2 := (hmw2.frozen (p := ⟨w.heap.size + 1, 1, none⟩) bVw1).trans zV1w1
  have bVw2 : w.heap.size + 1 < w2.heap.size := Nat.lt_of_lt_of_le bVw1 hmw2.size
  have dVw2 : w.heap.size + 1 < w2.heap.size + 1 := Nat.lt_succ_of_lt bVw2
  have cR0w2 := (hmw2.cell (p := ⟨w.heap.size + 2, 0, none⟩) bRw1).trans cR0w1
  have cR1w2 := (hmw2.cell (p := ⟨w.heap.size + 2, 1, none⟩) bRw1).trans cR1w1
  have zR0w2 := (hmw2.frozen (p := ⟨w.heap.size + 2, 0, none⟩) bRw1).trans zR0w1
  have zR1w2 := (hmw2.frozen (p := ⟨w.heap.size + 2, 1, none⟩) bRw1).trans zR1w1
  have bRw2 : w.heap.size + 2 < w2.heap.size := Nat.lt_of_lt_of_le bRw1 hmw2.size
  have dRw2 : w.heap.size + 2 < w2.heap.size + 1 := Nat.lt_succ_of_lt bRw2
  have hBw2 : Below w.heap.size w w2 := Below.trans hBw1 (hmw2.mono hBw1.size)
  have zw2 : w.heap.size ≤ w2.heap.size := hBw2.size
  clear hmw2 hw2 zw1 hBw1 dRw1 bRw1 zR1w1 zR0w1 cR1w1 cR0w1 dVw1 bVw1 zV1w1 zV0w1 cV1w1 cV0w1 dGw1 bGw1 cG4w1 cG3w1 cG2w1 cG1w1 cG0w1
  rw [hK.out]
  go_wp2_with fail
  refine (half_any _ _ _ _ _ h _).mono ?_
  rintro e w3 ⟨rfl, hw3⟩
  have hmw3 : Below w2.heap.size w2 w3 := on_below hw3 (by repeat' (first | (with_reducible exact Below.refl _ _) | (with_reducible assumption) | (with_reducible refine drewN_below ?_ _) | (with_reducible refine Below.drew ?_) | (with_reducible refine Below.alloc ?_ ?_ _) | (with_reducible refine Below.setCell ?_ ?_ _) | (simp; done) | omega | (simp; omega))) (by first | (with_reducible assumption) | (simp; done) | omega | (simp; omega))
  have cG0w3 := (hmw3.cell (p := ⟨w.heap.size, 0, none⟩) bGw2).trans cG0w2
  have cG1w3 := (hmw3.cell (p := ⟨w.heap.size, 1, none⟩) bGw2).trans cG1w2
  have cG2w3 := (hmw3.cell (p := ⟨w.heap.size, 2, none⟩) bGw2).trans cG2w2
  have cG3w3 := (hmw3.cell (p := ⟨w.heap.size, 3, none⟩) bGw2).trans cG3w2
  have cG4w3 := (hmw3.cell (p := ⟨w.heap.size, 4, none⟩) bGw2).trans cG4w2
  have bGw3 : w.heap.size < w3.heap.size := Nat.lt_of_lt_of_le bGw2 hmw3.size
  have dGw3 : w.heap.size < w3.heap.size + 1 := Nat.lt_succ_of_lt bGw3
  have cV0w3 := (hmw3.cell (p := ⟨w.heap.size + 1, 0, none⟩) bVw2).trans cV0w2
  have cV1w3 := (hmw3.cell (p := ⟨w.heap.size + 1, 1, none⟩) bVw2).trans cV1w2
  have zV0w3 := (hmw3.frozen (p := ⟨w.heap.size + 1, 0, none⟩) bVw2).trans zV0w2
  have zV1w3 := (hmw3.frozen (p := ⟨w.heap.size + 1, 1, none⟩) bVw2).trans zV1w2
  have bVw3 : w.heap.size + 1 < w3.heap.size := Nat.lt_of_lt_of_le bVw2 hmw3.size
  have dVw3 : w.heap.size + 1 < w3.heap.size + 1 := Nat.lt_succ_of_lt bVw3
  have cR0w3 := (hmw3.cell (p := ⟨w.heap.size + 2, 0, none⟩) bRw2).trans cR0w2
  have cR1w3 := (hmw3.cell (p := ⟨w.heap.size + 2, 1, none⟩) bRw2).trans cR1w2
  have zR0w3 := (hmw3.frozen (p := ⟨w.heap.size + 2, 0, none⟩) bRw2).trans zR0w2
  have zR1w3 := (hmw3.frozen (p := ⟨w.heap.size + 2, 1, none⟩) bRw2).trans zR1w2
  have bRw3 : w.heap.size + 2 < w3.heap.size := Nat.lt_of_lt_of_le bRw2 hmw3.size
  have dRw3 : w.heap.size + 2 < w3.heap.size + 1 := Nat.lt_succ_of_lt bRw3
  have hBw3 : Below w.heap.size w w3 := Below.trans hBw2 (hmw3.mono hBw2.size)
  have zw3 : w.heap.size ≤ w3.heap.size := hBw3.size
  clear hmw3 hw3 zw2 hBw2 dRw2 bRw2 zR1w2 zR0w2 cR1w2 cR0w2 dVw2 bVw2 zV1w2 zV0w2 cV1w2 cV0w2 dGw2 bGw2 cG4w2 cG3w2 cG2w2 cG1w2 cG0w2
  rw [hH.out]
  go_wp2_with fail
  refine (beyond_any _ _ _ _ _ h _ _ hv _).mono ?_
  rintro e w4 ⟨rfl, hw4⟩
  have hmw4 : Below w3.heap.size w3 w4 := on_below hw4 (by repeat' (first | (with_reducible exact Below.refl _ _) | (with_reducible assumption) | (with_reducible refine drewN_below ?_ _) | (with_reducible refine Below.drew ?_) | (with_reducible refine Below.alloc ?_ ?_ _) | (with_reducible refine Below.setCell ?_ ?_ _) | (simp; done) | omega | (simp; omega))) (by first | (with_reducible assumption) | (simp; done) | omega | (simp; omega))
  have cG0w4 := (hmw4.cell (p := ⟨w.heap.size, 0, none⟩) bGw3).trans cG0w3
  have cG1w4 := (hmw4.cell (p := ⟨w.heap.size, 1, none⟩) bGw3).trans cG1w3
  have cG2w4 := (hmw4.cell (p := ⟨w.heap.size, 2, none⟩) bGw3).trans cG2w3
  have cG3w4 := (hmw4.cell (p := ⟨w.heap.size, 3, none⟩) bGw3).trans cG3w3
  have cG4w4 := (hmw4.cell (p := ⟨w.heap.size, 4, none⟩) bGw3).trans cG4w3
  have bGw4 : w.heap.size < w4.heap.size := Nat.lt_of_lt_of_le bGw3 hmw4.size
  have dGw4 : w.heap.size < w4.heap.size + 1 := Nat.lt_succ_of_lt bGw4
  have cV0w4 := (hmw4.cell (p := ⟨w.heap.size + 1, 0, none⟩) bVw3).trans cV0w3
  have cV1w4 := (hmw4.cell (p := ⟨w.heap.size + 1, 1, none⟩) bVw3).trans cV1w3
  have zV0w4 := (hmw4.frozen (p := ⟨w.heap.size + 1, 0, none⟩) bVw3).trans zV0w3
  have zV1w4 := (hmw4.frozen (p := ⟨w.heap.size + 1, 1, none⟩) bVw3).trans zV1w3
  have bVw4 : w.heap.size + 1 < w4.heap.size := Nat.lt_of_lt_of_le bVw3 hmw4.size
  have dVw4 : w.heap.size + 1 < w4.heap.size + 1 := Nat.lt_succ_of_lt bVw4
  have cR0w4 := (hmw4.cell (p := ⟨w.heap.size + 2, 0, none⟩) bRw3).trans cR0w3
  have cR1w4 := (hmw4.cell (p := ⟨w.heap.size + 2, 1, none⟩) bRw3).trans cR1w3
  have zR0w4 := (hmw4.frozen (p := ⟨w.heap.size + 2, 0, none⟩) bRw3).trans zR0w3
  have zR1w4 := (hmw4.frozen (p := ⟨w.heap.size + 2, 1, none⟩) bRw3).trans zR1w3
  have bRw4 : w.heap.size + 2 < w4.heap.size := Nat.lt_of_lt_of_le bRw3 hmw4.size
  have dRw4 : w.heap.size + 2 < w4.heap.size + 1 := Nat.lt_succ_of_lt bRw4
  have hBw4 : Below w.heap.size w w4 := Below.trans hBw3 (hmw4.mono hBw3.size)
  have zw4 : w.heap.size ≤ w4.heap.size := hBw4.size
  clear hmw4 hw4 zw3 hBw3 dRw3 bRw3 zR1w3 zR0w3 cR1w3 cR0w3 dVw3 bVw3 zV1w3 zV0w3 cV1w3 cV0w3 dGw3 bGw3 cG4w3 cG3w3 cG2w3 cG1w3 cG0w3
  rw [hr.out]
  have cR0z : w4.cell? ⟨w.heap.size + 1 + 1, 0, none⟩ = some (.int .i64 0) := cR0w4
  have cR1z : w4.cell? ⟨w.heap.size + 1 + 1, 1, none⟩ = some (.int .i64 0) := cR1w4
  go_wp2
  exact bodyPost_ret (v := .agg #[.int .i64 a, .int .i64 b]) (by simp [results, Tryd.results49, go_sem, cR0z, cR1z]) rfl ⟨rfl, (by repeat' (first | (with_reducible exact Below.refl _ _) | (with_reducible assumption) | (with_reducible refine drewN_below ?_ _) | (with_reducible refine Below.drew ?_) | (with_reducible refine Below.alloc ?_ ?_ _) | (with_reducible refine Below.setCell ?_ ?_ _) | (simp; done) | omega | (simp; omega)))⟩

set_option maxRecDepth 100000 in
set_option maxHeartbeats 4000000 in
theorem ff_high (k o : ByteArray) (m I F : Nat) (hm : m ≤ 2) (h : I + F ≤ 30) (n d : Int) (hn : -2305843009213693952 ≤ n ∧ n ≤ 2305843009213693952) (hd : 1 ≤ d ∧ d ≤ 1152921504606846976) (K H : Int) (hK : Hid (Z.rndE m n d (F : Int) = K)) (hH : Hid ((2 : Int) ^ (I + F) = H)) (KB : -4294967296 ≤ K ∧ K ≤ 4294967296) (hk1 : Hid ((n.natAbs : Int) * 2 ^ (F : Int).toNat ≤ 2305843009213693952 * (d * 2 ^ (-(F : Int)).toNat))) (hv : Hid (Z.vld k (rnm m) o (I : Int) (F : Int) = true)) (ho : (o.toList == [119, 114, 97, 112]) = false) (hb : Hid (Z.below n d ((I : Int) + 1) = true)) (h1 : H ≤ K) (w : World) :
    Calls Tryd.prog 49 #[.agg #[.string k, .int .i64 (I : Int), .int .i64 (F : Int), .string (rnm m), .string o], .agg #[.int .i64 n, .int .i64 d]] w fun e w' => e = .returned (.agg #[.int .i64 (Z.bey (ovn o) (k.toList == [102, 105, 120]) I F (decide (n < 0))).1, .int .i64 (Z.bey (ovn o) (k.toList == [102, 105, 120]) I F (decide (n < 0))).2]) ∧ Below w.heap.size w w' := by
  have hB := pb_of h
  have B1 := hB.h
  have B2 := hB.i
  have B3 := hB.f
  clear hB
  have y1 : IntKind.i64.wrap ((I : Int) + 1) = (I : Int) + 1 := Z.i64_in _ (by omega)
  rw [hH.out] at B1
  have z1 : d * 2 ^ (-(F : Int)).toNat = d := by rw [show (-(F : Int)).toNat = 0 by omega, Int.pow_zero, Int.mul_one]
  have Z1 := Lib.hid z1
  clear z1
  have y2 : IntKind.i64.wrap (-H) = -H := Z.i64_in _ (by omega)
  obtain ⟨a, b, hr⟩ : ∃ a b, Hid (Z.bey (ovn o) (k.toList == [102, 105, 120]) I F (decide (n < 0)) = (a, b)) := ⟨_, _, rfl⟩
  rw [hr.out]
  have g1 : decide (K < -H) = false := decide_eq_false (by omega)
  have g2 : decide (H ≤ K) = true := decide_eq_true h1
  go_enter Tryd.func49, Tryd.ntmps49
  go_wp2_with fail
  refine (isbelow_any _ _ _ (by omega) (by omega) (by omega) _).mono ?_
  rintro e w1 ⟨rfl, hw1⟩
  have hmw1 : Below w.heap.size w w1 := on_below hw1 (by repeat' (first | (with_reducible exact Below.refl _ _) | (with_reducible assumption) | (with_reducible refine drewN_below ?_ _) | (with_reducible refine Below.drew ?_) | (with_reducible refine Below.alloc ?_ ?_ _) | (with_reducible refine Below.setCell ?_ ?_ _) | (simp; done) | omega | (simp; omega))) (by first | (with_reducible assumption) | (simp; done) | omega | (simp; omega))
  have cG0w1 : w1.cell? ⟨w.heap.size, 0, none⟩ = some (.string k) := by rw [hw1.cell (p := ⟨w.heap.size, 0, none⟩) (by first | (with_reducible assumption) | (simp; done) | omega | (simp; omega))]; simp [go_sem]
  have cG1w1 : w1.cell? ⟨w.heap.size, 1, none⟩ = some (.int .i64 (I : Int)) := by rw [hw1.cell (p := ⟨w.heap.size, 1, none⟩) (by first | (with_reducible assumption) | (simp; done) | omega | (simp; omega))]; simp [go_sem]
  have cG2w1 : w1.cell? ⟨w.heap.size, 2, none⟩ = some (.int .i64 (F : Int)) := by rw [hw1.cell (p := ⟨w.heap.size, 2, none⟩) (by first | (with_reducible assumption) | (simp; done) | omega | (simp; omega))]; simp [go_sem]
  have cG3w1 : w1.cell? ⟨w.heap.size, 3, none⟩ = some (.string (rnm m)) := by rw [hw1.cell (p := ⟨w.heap.size, 3, none⟩) (by first | (with_reducible assumption) | (simp; done) | omega | (simp; omega))]; simp [go_sem]
  have cG4w1 : w1.cell? ⟨w.heap.size, 4, none⟩ = some (.string o) := by rw [hw1.cell (p := ⟨w.heap.size, 4, none⟩) (by first | (with_reducible assumption) | (simp; done) | omega | (simp; omega))]; simp [go_sem]
  have bGw1 : w.heap.size < w1.heap.size := by have := hw1.size; first | omega | (simp at this; omega)
  have dGw1 : w.heap.size < w1.heap.size + 1 := Nat.lt_succ_of_lt bGw1
  have cV0w1 : w1.cell? ⟨w.heap.size + 1, 0, none⟩ = some (.int .i64 n) := by rw [hw1.cell (p := ⟨w.heap.size + 1, 0, none⟩) (by first | (with_reducible assumption) | (simp; done) | omega | (simp; omega))]; simp [go_sem]
  have cV1w1 : w1.cell? ⟨w.heap.size + 1, 1, none⟩ = some (.int .i64 d) := by rw [hw1.cell (p := ⟨w.heap.size + 1, 1, none⟩) (by first | (with_reducible assumption) | (simp; done) | omega | (simp; omega))]; simp [go_sem]
  have zV0w1 : w1.frozen? ⟨w.heap.size + 1, 0, none⟩ = false := by rw [hw1.frozen (p := ⟨w.heap.size + 1, 0, none⟩) (by first | (with_reducible assumption) | (simp; done) | omega | (simp; omega))]; simp [go_sem]
  have zV1w1 : w1.frozen? ⟨w.heap.size + 1, 1, none⟩ = false := by rw [hw1.frozen (p := ⟨w.heap.size + 1, 1, none⟩) (by first | (with_reducible assumption) | (simp; done) | omega | (simp; omega))]; simp [go_sem]
  have bVw1 : w.heap.size + 1 < w1.heap.size := by have := hw1.size; first | omega | (simp at this; omega)
  have dVw1 : w.heap.size + 1 < w1.heap.size + 1 := Nat.lt_succ_of_lt bVw1
  have cR0w1 : w1.cell? ⟨w.heap.size + 2, 0, none⟩ = some (.int .i64 0) := by rw [hw1.cell (p := ⟨w.heap.size + 2, 0, none⟩) (by first | (with_reducible assumption) | (simp; done) | omega | (simp; omega))]; simp [go_sem]
  have cR1w1 : w1.cell? ⟨w.heap.size + 2, 1, none⟩ = some (.int .i64 0) := by rw [hw1.cell (p := ⟨w.heap.size + 2, 1, none⟩) (by first | (with_reducible assumption) | (simp; done) | omega | (simp; omega))]; simp [go_sem]
  have zR0w1 : w1.frozen? ⟨w.heap.size + 2, 0, none⟩ = false := by rw [hw1.frozen (p := ⟨w.heap.size + 2, 0, none⟩) (by first | (with_reducible assumption) | (simp; done) | omega | (simp; omega))]; simp [go_sem]
  have zR1w1 : w1.frozen? ⟨w.heap.size + 2, 1, none⟩ = false := by rw [hw1.frozen (p := ⟨w.heap.size + 2, 1, none⟩) (by first | (with_reducible assumption) | (simp; done) | omega | (simp; omega))]; simp [go_sem]
  have bRw1 : w.heap.size + 2 < w1.heap.size := by have := hw1.size; first | omega | (simp at this; omega)
  have dRw1 : w.heap.size + 2 < w1.heap.size + 1 := Nat.lt_succ_of_lt bRw1
  have hBw1 : Below w.heap.size w w1 := hmw1
  have zw1 : w.heap.size ≤ w1.heap.size := hBw1.size
  clear hmw1 hw1
  rw [hb.out]
  go_wp2_with fail
  refine (rounded_any m hm _ _ _ (by omega) (by omega) (by omega) hk1.out (by rw [Z1.out]; omega) _).mono ?_
  rintro e w2 ⟨rfl, hw2⟩
  have hmw2 : Below w1.heap.size w1 w2 := on_below hw2 (by repeat' (first | (with_reducible exact Below.refl _ _) | (with_reducible assumption) | (with_reducible refine drewN_below ?_ _) | (with_reducible refine Below.drew ?_) | (with_reducible refine Below.alloc ?_ ?_ _) | (with_reducible refine Below.setCell ?_ ?_ _) | (simp; done) | omega | (simp; omega))) (by first | (with_reducible assumption) | (simp; done) | omega | (simp; omega))
  have cG0w2 := (hmw2.cell (p := ⟨w.heap.size, 0, none⟩) bGw1).trans cG0w1
  have cG1w2 := (hmw2.cell (p := ⟨w.heap.size, 1, none⟩) bGw1).trans cG1w1
  have cG2w2 := (hmw2.cell (p := ⟨w.heap.size, 2, none⟩) bGw1).trans cG2w1
  have cG3w2 := (hmw2.cell (p := ⟨w.heap.size, 3, none⟩) bGw1).trans cG3w1
  have cG4w2 := (hmw2.cell (p := ⟨w.heap.size, 4, none⟩) bGw1).trans cG4w1
  have bGw2 : w.heap.size < w2.heap.size := Nat.lt_of_lt_of_le bGw1 hmw2.size
  have dGw2 : w.heap.size < w2.heap.size + 1 := Nat.lt_succ_of_lt bGw2
  have cV0w2 := (hmw2.cell (p := ⟨w.heap.size + 1, 0, none⟩) bVw1).trans cV0w1
  have cV1w2 := (hmw2.cell (p := ⟨w.heap.size + 1, 1, none⟩) bVw1).trans cV1w1
  have zV0w2 := (hmw2.frozen (p := ⟨w.heap.size + 1, 0, none⟩) bVw1).trans zV0w1
  have zV1w2 := (hmw2.frozen (p := ⟨w.heap.size + 1, 1, none⟩) bVw1).trans zV1w1
  have bVw2 : w.heap.size + 1 < w2.heap.size := Nat.lt_of_lt_of_le bVw1 hmw2.size
  have dVw2 : w.heap.size + 1 < w2.heap.size + 1 := Nat.lt_succ_of_lt bVw2
  have cR0w2 := (hmw2.cell (p := ⟨w.heap.size + 2, 0, none⟩) bRw1).trans cR0w1
  have cR1w2 := (hmw2.cell (p := ⟨w.heap.size + 2, 1, none⟩) bRw1).trans cR1w1
  have zR0w2 := (hmw2.frozen (p := ⟨w.heap.size + 2, 0, none⟩) bRw1).trans zR0w1
  have zR1w2 := (hmw2.frozen (p := ⟨w.heap.size + 2, 1, none⟩) bRw1).trans zR1w1
  have bRw2 : w.heap.size + 2 < w2.heap.size := Nat.lt_of_lt_of_le bRw1 hmw2.size
  have dRw2 : w.heap.size + 2 < w2.heap.size + 1 := Nat.lt_succ_of_lt bRw2
  have hBw2 : Below w.heap.size w w2 := Below.trans hBw1 (hmw2.mono hBw1.size)
  have zw2 : w.heap.size ≤ w2.heap.size := hBw2.size
  clear hmw2 hw2 zw1 hBw1 dRw1 bRw1 zR1w1 zR0w1 cR1w1 cR0w1 dVw1 bVw1 zV1w1 zV0w1 cV1w1 cV0w1 dGw1 bGw1 cG4w1 cG3w1 cG2w1 cG1w1 cG0w1
  rw [hK.out]
  go_wp2_with fail
  refine (half_any _ _ _ _ _ h _).mono ?_
  rintro e w3 ⟨rfl, hw3⟩
  have hmw3 : Below w2.heap.size w2 w3 := on_below hw3 (by repeat' (first | (with_reducible exact Below.refl _ _) | (with_reducible assumption) | (with_reducible refine drewN_below ?_ _) | (with_reducible refine Below.drew ?_) | (with_reducible refine Below.alloc ?_ ?_ _) | (with_reducible refine Below.setCell ?_ ?_ _) | (simp; done) | omega | (simp; omega))) (by first | (with_reducible assumption) | (simp; done) | omega | (simp; omega))
  have cG0w3 := (hmw3.cell (p := ⟨w.heap.size, 0, none⟩) bGw2).trans cG0w2
  have cG1w3 := (hmw3.cell (p := ⟨w.heap.size, 1, none⟩) bGw2).trans cG1w2
  have cG2w3 := (hmw3.cell (p := ⟨w.heap.size, 2, none⟩) bGw2).trans cG2w2
  have cG3w3 := (hmw3.cell (p := ⟨w.heap.size, 3, none⟩) bGw2).trans cG3w2
  have cG4w3 := (hmw3.cell (p := ⟨w.heap.size, 4, none⟩) bGw2).trans cG4w2
  have bGw3 : w.heap.size < w3.heap.size := Nat.lt_of_lt_of_le bGw2 hmw3.size
  have dGw3 : w.heap.size < w3.heap.size + 1 := Nat.lt_succ_of_lt bGw3
  have cV0w3 := (hmw3.cell (p := ⟨w.heap.size + 1, 0, none⟩) bVw2).trans cV0w2
  have cV1w3 := (hmw3.cell (p := ⟨w.heap.size + 1, 1, none⟩) bVw2).trans cV1w2
  have zV0w3 := (hmw3.frozen (p := ⟨w.heap.size + 1, 0, none⟩) bVw2).trans zV0w2
  have zV1w3 := (hmw3.frozen (p := ⟨w.heap.size + 1, 1, none⟩) bVw2).trans zV1w2
  have bVw3 : w.heap.size + 1 < w3.heap.size := Nat.lt_of_lt_of_le bVw2 hmw3.size
  have dVw3 : w.heap.size + 1 < w3.heap.size + 1 := Nat.lt_succ_of_lt bVw3
  have cR0w3 := (hmw3.cell (p := ⟨w.heap.size + 2, 0, none⟩) bRw2).trans cR0w2
  have cR1w3 := (hmw3.cell (p := ⟨w.heap.size + 2, 1, none⟩) bRw2).trans cR1w2
  have zR0w3 := (hmw3.frozen (p := ⟨w.heap.size + 2, 0, none⟩) bRw2).trans zR0w2
  have zR1w3 := (hmw3.frozen (p := ⟨w.heap.size + 2, 1, none⟩) bRw2).trans zR1w2
  have bRw3 : w.heap.size + 2 < w3.heap.size := Nat.lt_of_lt_of_le bRw2 hmw3.size
  have dRw3 : w.heap.size + 2 < w3.heap.size + 1 := Nat.lt_succ_of_lt bRw3
  have hBw3 : Below w.heap.size w w3 := Below.trans hBw2 (hmw3.mono hBw2.size)
  have zw3 : w.heap.size ≤ w3.heap.size := hBw3.size
  clear hmw3 hw3 zw2 hBw2 dRw2 bRw2 zR1w2 zR0w2 cR1w2 cR0w2 dVw2 bVw2 zV1w2 zV0w2 cV1w2 cV0w2 dGw2 bGw2 cG4w2 cG3w2 cG2w2 cG1w2 cG0w2
  rw [hH.out]
  go_wp2_with fail
  refine (half_any _ _ _ _ _ h _).mono ?_
  rintro e w4 ⟨rfl, hw4⟩
  have hmw4 : Below w3.heap.size w3 w4 := on_below hw4 (by repeat' (first | (with_reducible exact Below.refl _ _) | (with_reducible assumption) | (with_reducible refine drewN_below ?_ _) | (with_reducible refine Below.drew ?_) | (with_reducible refine Below.alloc ?_ ?_ _) | (with_reducible refine Below.setCell ?_ ?_ _) | (simp; done) | omega | (simp; omega))) (by first | (with_reducible assumption) | (simp; done) | omega | (simp; omega))
  have cG0w4 := (hmw4.cell (p := ⟨w.heap.size, 0, none⟩) bGw3).trans cG0w3
  have cG1w4 := (hmw4.cell (p := ⟨w.heap.size, 1, none⟩) bGw3).trans cG1w3
  have cG2w4 := (hmw4.cell (p := ⟨w.heap.size, 2, none⟩) bGw3).trans cG2w3
  have cG3w4 := (hmw4.cell (p := ⟨w.heap.size, 3, none⟩) bGw3).trans cG3w3
  have cG4w4 := (hmw4.cell (p := ⟨w.heap.size, 4, none⟩) bGw3).trans cG4w3
  have bGw4 : w.heap.size < w4.heap.size := Nat.lt_of_lt_of_le bGw3 hmw4.size
  have dGw4 : w.heap.size < w4.heap.size + 1 := Nat.lt_succ_of_lt bGw4
  have cV0w4 := (hmw4.cell (p := ⟨w.heap.size + 1, 0, none⟩) bVw3).trans cV0w3
  have cV1w4 := (hmw4.cell (p := ⟨w.heap.size + 1, 1, none⟩) bVw3).trans cV1w3
  have zV0w4 := (hmw4.frozen (p := ⟨w.heap.size + 1, 0, none⟩) bVw3).trans zV0w3
  have zV1w4 := (hmw4.frozen (p := ⟨w.heap.size + 1, 1, none⟩) bVw3).trans zV1w3
  have bVw4 : w.heap.size + 1 < w4.heap.size := Nat.lt_of_lt_of_le bVw3 hmw4.size
  have dVw4 : w.heap.size + 1 < w4.heap.size + 1 := Nat.lt_succ_of_lt bVw4
  have cR0w4 := (hmw4.cell (p := ⟨w.heap.size + 2, 0, none⟩) bRw3).trans cR0w3
  have cR1w4 := (hmw4.cell (p := ⟨w.heap.size + 2, 1, none⟩) bRw3).trans cR1w3
  have zR0w4 := (hmw4.frozen (p := ⟨w.heap.size + 2, 0, none⟩) bRw3).trans zR0w3
  have zR1w4 := (hmw4.frozen (p := ⟨w.heap.size + 2, 1, none⟩) bRw3).trans zR1w3
  have bRw4 : w.heap.size + 2 < w4.heap.size := Nat.lt_of_lt_of_le bRw3 hmw4.size
  have dRw4 : w.heap.size + 2 < w4.heap.size + 1 := Nat.lt_succ_of_lt bRw4
  have hBw4 : Below w.heap.size w w4 := Below.trans hBw3 (hmw4.mono hBw3.size)
  have zw4 : w.heap.size ≤ w4.heap.size := hBw4.size
  clear hmw4 hw4 zw3 hBw3 dRw3 bRw3 zR1w3 zR0w3 cR1w3 cR0w3 dVw3 bVw3 zV1w3 zV0w3 cV1w3 cV0w3 dGw3 bGw3 cG4w3 cG3w3 cG2w3 cG1w3 cG0w3
  rw [hH.out]
  go_wp2_with fail
  refine (beyond_any _ _ _ _ _ h _ _ hv _).mono ?_
  rintro e w5 ⟨rfl, hw5⟩
  have hmw5 : Below w4.heap.size w4 w5 := on_below hw5 (by repeat' (first | (with_reducible exact Below.refl _ _) | (with_reducible assumption) | (with_reducible refine drewN_below ?_ _) | (with_reducible refine Below.drew ?_) | (with_reducible refine Below.alloc ?_ ?_ _) | (with_reducible refine Below.setCell ?_ ?_ _) | (simp; done) | omega | (simp; omega))) (by first | (with_reducible assumption) | (simp; done) | omega | (simp; omega))
  have cG0w5 := (hmw5.cell (p := ⟨w.heap.size, 0, none⟩) bGw4).trans cG0w4
  have cG1w5 := (hmw5.cell (p := ⟨w.heap.size, 1, none⟩) bGw4).trans cG1w4
  have cG2w5 := (hmw5.cell (p := ⟨w.heap.size, 2, none⟩) bGw4).trans cG2w4
  have cG3w5 := (hmw5.cell (p := ⟨w.heap.size, 3, none⟩) bGw4).trans cG3w4
  have cG4w5 := (hmw5.cell (p := ⟨w.heap.size, 4, none⟩) bGw4).trans cG4w4
  have bGw5 : w.heap.size < w5.heap.size := Nat.lt_of_lt_of_le bGw4 hmw5.size
  have dGw5 : w.heap.size < w5.heap.size + 1 := Nat.lt_succ_of_lt bGw5
  have cV0w5 := (hmw5.cell (p := ⟨w.heap.size + 1, 0, none⟩) bVw4).trans cV0w4
  have cV1w5 := (hmw5.cell (p := ⟨w.heap.size + 1, 1, none⟩) bVw4).trans cV1w4
  have zV0w5 := (hmw5.frozen (p := ⟨w.heap.size + 1, 0, none⟩) bVw4).trans zV0w4
  have zV1w5 := (hmw5.frozen (p := ⟨w.heap.size + 1, 1, none⟩) bVw4).trans zV1w4
  have bVw5 : w.heap.size + 1 < w5.heap.size := Nat.lt_of_lt_of_le bVw4 hmw5.size
  have dVw5 : w.heap.size + 1 < w5.heap.size + 1 := Nat.lt_succ_of_lt bVw5
  have cR0w5 := (hmw5.cell (p := ⟨w.heap.size + 2, 0, none⟩) bRw4).trans cR0w4
  have cR1w5 := (hmw5.cell (p := ⟨w.heap.size + 2, 1, none⟩) bRw4).trans cR1w4
  have zR0w5 := (hmw5.frozen (p := ⟨w.heap.size + 2, 0, none⟩) bRw4).trans zR0w4
  have zR1w5 := (hmw5.frozen (p := ⟨w.heap.size + 2, 1, none⟩) bRw4).trans zR1w4
  have bRw5 : w.heap.size + 2 < w5.heap.size := Nat.lt_of_lt_of_le bRw4 hmw5.size
  have dRw5 : w.heap.size + 2 < w5.heap.size + 1 := Nat.lt_succ_of_lt bRw5
  have hBw5 : Below w.heap.size w w5 := Below.trans hBw4 (hmw5.mono hBw4.size)
  have zw5 : w.heap.size ≤ w5.heap.size := hBw5.size
  clear hmw5 hw5 zw4 hBw4 dRw4 bRw4 zR1w4 zR0w4 cR1w4 cR0w4 dVw4 bVw4 zV1w4 zV0w4 cV1w4 cV0w4 dGw4 bGw4 cG4w4 cG3w4 cG2w4 cG1w4 cG0w4
  rw [hr.out]
  have cR0z : w5.cell? ⟨w.heap.size + 1 + 1, 0, none⟩ = some (.int .i64 0) := cR0w5
  have cR1z : w5.cell? ⟨w.heap.size + 1 + 1, 1, none⟩ = some (.int .i64 0) := cR1w5
  go_wp2
  exact bodyPost_ret (v := .agg #[.int .i64 a, .int .i64 b]) (by simp [results, Tryd.results49, go_sem, cR0z, cR1z]) rfl ⟨rfl, (by repeat' (first | (with_reducible exact Below.refl _ _) | (with_reducible assumption) | (with_reducible refine drewN_below ?_ _) | (with_reducible refine Below.drew ?_) | (with_reducible refine Below.alloc ?_ ?_ _) | (with_reducible refine Below.setCell ?_ ?_ _) | (simp; done) | omega | (simp; omega)))⟩

set_option maxRecDepth 100000 in
set_option maxHeartbeats 4000000 in
theorem ff_mid (k o : ByteArray) (m I F : Nat) (hm : m ≤ 2) (h : I + F ≤ 30) (n d : Int) (hn : -2305843009213693952 ≤ n ∧ n ≤ 2305843009213693952) (hd : 1 ≤ d ∧ d ≤ 1152921504606846976) (K H : Int) (hK : Hid (Z.rndE m n d (F : Int) = K)) (hH : Hid ((2 : Int) ^ (I + F) = H)) (KB : -4294967296 ≤ K ∧ K ≤ 4294967296) (hk1 : Hid ((n.natAbs : Int) * 2 ^ (F : Int).toNat ≤ 2305843009213693952 * (d * 2 ^ (-(F : Int)).toNat))) (hv : Hid (Z.vld k (rnm m) o (I : Int) (F : Int) = true)) (ho : (o.toList == [119, 114, 97, 112]) = false) (hb : Hid (Z.below n d ((I : Int) + 1) = true)) (h1 : -H ≤ K ∧ K < H) (w : World) :
    Calls Tryd.prog 49 #[.agg #[.string k, .int .i64 (I : Int), .int .i64 (F : Int), .string (rnm m), .string o], .agg #[.int .i64 n, .int .i64 d]] w fun e w' => e = .returned (.agg #[.int .i64 (Q.mk K (2 ^ F)).1, .int .i64 (Q.mk K (2 ^ F)).2]) ∧ Below w.heap.size w w' := by
  have hB := pb_of h
  have B1 := hB.h
  have B2 := hB.i
  have B3 := hB.f
  clear hB
  have y1 : IntKind.i64.wrap ((I : Int) + 1) = (I : Int) + 1 := Z.i64_in _ (by omega)
  rw [hH.out] at B1
  have z1 : d * 2 ^ (-(F : Int)).toNat = d := by rw [show (-(F : Int)).toNat = 0 by omega, Int.pow_zero, Int.mul_one]
  have Z1 := Lib.hid z1
  clear z1
  have y2 : IntKind.i64.wrap (-H) = -H := Z.i64_in _ (by omega)
  obtain ⟨a, b, hr⟩ : ∃ a b, Hid (Q.mk K (2 ^ F) = (a, b)) := ⟨_, _, rfl⟩
  rw [hr.out]
  have g1 : decide (K < -H) = false := decide_eq_false (by omega)
  have g2 : decide (H ≤ K) = false := decide_eq_false (by omega)
  go_enter Tryd.func49, Tryd.ntmps49
  go_wp2_with fail
  refine (isbelow_any _ _ _ (by omega) (by omega) (by omega) _).mono ?_
  rintro e w1 ⟨rfl, hw1⟩
  have hmw1 : Below w.heap.size w w1 := on_below hw1 (by repeat' (first | (with_reducible exact Below.refl _ _) | (with_reducible assumption) | (with_reducible refine drewN_below ?_ _) | (with_reducible refine Below.drew ?_) | (with_reducible refine Below.alloc ?_ ?_ _) | (with_reducible refine Below.setCell ?_ ?_ _) | (simp; done) | omega | (simp; omega))) (by first | (with_reducible assumption) | (simp; done) | omega | (simp; omega))
  have cG0w1 : w1.cell? ⟨w.heap.size, 0, none⟩ = some (.string k) := by rw [hw1.cell (p := ⟨w.heap.size, 0, none⟩) (by first | (with_reducible assumption) | (simp; done) | omega | (simp; omega))]; simp [go_sem]
  have cG1w1 : w1.cell? ⟨w.heap.size, 1, none⟩ = some (.int .i64 (I : Int)) := by rw [hw1.cell (p := ⟨w.heap.size, 1, none⟩) (by first | (with_reducible assumption) | (simp; done) | omega | (simp; omega))]; simp [go_sem]
  have cG2w1 : w1.cell? ⟨w.heap.size, 2, none⟩ = some (.int .i64 (F : Int)) := by rw [hw1.cell (p := ⟨w.heap.size, 2, none⟩) (by first | (with_reducible assumption) | (simp; done) | omega | (simp; omega))]; simp [go_sem]
  have cG3w1 : w1.cell? ⟨w.heap.size, 3, none⟩ = some (.string (rnm m)) := by rw [hw1.cell (p := ⟨w.heap.size, 3, none⟩) (by first | (with_reducible assumption) | (simp; done) | omega | (simp; omega))]; simp [go_sem]
  have cG4w1 : w1.cell? ⟨w.heap.size, 4, none⟩ = some (.string o) := by rw [hw1.cell (p := ⟨w.heap.size, 4, none⟩) (by first | (with_reducible assumption) | (simp; done) | omega | (simp; omega))]; simp [go_sem]
  have bGw1 : w.heap.size < w1.heap.size := by have := hw1.size; first | omega | (simp at this; omega)
  have dGw1 : w.heap.size < w1.heap.size + 1 := Nat.lt_succ_of_lt bGw1
  have cV0w1 : w1.cell? ⟨w.heap.size + 1, 0, none⟩ = some (.int .i64 n) := by rw [hw1.cell (p := ⟨w.heap.size + 1, 0, none⟩) (by first | (with_reducible assumption) | (simp; done) | omega | (simp; omega))]; simp [go_sem]
  have cV1w1 : w1.cell? ⟨w.heap.size + 1, 1, none⟩ = some (.int .i64 d) := by rw [hw1.cell (p := ⟨w.heap.size + 1, 1, none⟩) (by first | (with_reducible assumption) | (simp; done) | omega | (simp; omega))]; simp [go_sem]
  have zV0w1 : w1.frozen? ⟨w.heap.size + 1, 0, none⟩ = false := by rw [hw1.frozen (p := ⟨w.heap.size + 1, 0, none⟩) (by first | (with_reducible assumption) | (simp; done) | omega | (simp; omega))]; simp [go_sem]
  have zV1w1 : w1.frozen? ⟨w.heap.size + 1, 1, none⟩ = false := by rw [hw1.frozen (p := ⟨w.heap.size + 1, 1, none⟩) (by first | (with_reducible assumption) | (simp; done) | omega | (simp; omega))]; simp [go_sem]
  have bVw1 : w.heap.size + 1 < w1.heap.size := by have := hw1.size; first | omega | (simp at this; omega)
  have dVw1 : w.heap.size + 1 < w1.heap.size + 1 := Nat.lt_succ_of_lt bVw1
  have cR0w1 : w1.cell? ⟨w.heap.size + 2, 0, none⟩ = some (.int .i64 0) := by rw [hw1.cell (p := ⟨w.heap.size + 2, 0, none⟩) (by first | (with_reducible assumption) | (simp; done) | omega | (simp; omega))]; simp [go_sem]
  have cR1w1 : w1.cell? ⟨w.heap.size + 2, 1, none⟩ = some (.int .i64 0) := by rw [hw1.cell (p := ⟨w.heap.size + 2, 1, none⟩) (by first | (with_reducible assumption) | (simp; done) | omega | (simp; omega))]; simp [go_sem]
  have zR0w1 : w1.frozen? ⟨w.heap.size + 2, 0, none⟩ = false := by rw [hw1.frozen (p := ⟨w.heap.size + 2, 0, none⟩) (by first | (with_reducible assumption) | (simp; done) | omega | (simp; omega))]; simp [go_sem]
  have zR1w1 : w1.frozen? ⟨w.heap.size + 2, 1, none⟩ = false := by rw [hw1.frozen (p := ⟨w.heap.size + 2, 1, none⟩) (by first | (with_reducible assumption) | (simp; done) | omega | (simp; omega))]; simp [go_sem]
  have bRw1 : w.heap.size + 2 < w1.heap.size := by have := hw1.size; first | omega | (simp at this; omega)
  have dRw1 : w.heap.size + 2 < w1.heap.size + 1 := Nat.lt_succ_of_lt bRw1
  have hBw1 : Below w.heap.size w w1 := hmw1
  have zw1 : w.heap.size ≤ w1.heap.size := hBw1.size
  clear hmw1 hw1
  rw [hb.out]
  go_wp2_with fail
  refine (rounded_any m hm _ _ _ (by omega) (by omega) (by omega) hk1.out (by rw [Z1.out]; omega) _).mono ?_
  rintro e w2 ⟨rfl, hw2⟩
  have hmw2 : Below w1.heap.size w1 w2 := on_below hw2 (by repeat' (first | (with_reducible exact Below.refl _ _) | (with_reducible assumption) | (with_reducible refine drewN_below ?_ _) | (with_reducible refine Below.drew ?_) | (with_reducible refine Below.alloc ?_ ?_ _) | (with_reducible refine Below.setCell ?_ ?_ _) | (simp; done) | omega | (simp; omega))) (by first | (with_reducible assumption) | (simp; done) | omega | (simp; omega))
  have cG0w2 := (hmw2.cell (p := ⟨w.heap.size, 0, none⟩) bGw1).trans cG0w1
  have cG1w2 := (hmw2.cell (p := ⟨w.heap.size, 1, none⟩) bGw1).trans cG1w1
  have cG2w2 := (hmw2.cell (p := ⟨w.heap.size, 2, none⟩) bGw1).trans cG2w1
  have cG3w2 := (hmw2.cell (p := ⟨w.heap.size, 3, none⟩) bGw1).trans cG3w1
  have cG4w2 := (hmw2.cell (p := ⟨w.heap.size, 4, none⟩) bGw1).trans cG4w1
  have bGw2 : w.heap.size < w2.heap.size := Nat.lt_of_lt_of_le bGw1 hmw2.size
  have dGw2 : w.heap.size < w2.heap.size + 1 := Nat.lt_succ_of_lt bGw2
  have cV0w2 := (hmw2.cell (p := ⟨w.heap.size + 1, 0, none⟩) bVw1).trans cV0w1
  have cV1w2 := (hmw2.cell (p := ⟨w.heap.size + 1, 1, none⟩) bVw1).trans cV1w1
  have zV0w2 := (hmw2.frozen (p := ⟨w.heap.size + 1, 0, none⟩) bVw1).trans zV0w1
  have zV1w2 := (hmw2.frozen (p := ⟨w.heap.size + 1, 1, none⟩) bVw1).trans zV1w1
  have bVw2 : w.heap.size + 1 < w2.heap.size := Nat.lt_of_lt_of_le bVw1 hmw2.size
  have dVw2 : w.heap.size + 1 < w2.heap.size + 1 := Nat.lt_succ_of_lt bVw2
  have cR0w2 := (hmw2.cell (p := ⟨w.heap.size + 2, 0, none⟩) bRw1).trans cR0w1
  have cR1w2 := (hmw2.cell (p := ⟨w.heap.size + 2, 1, none⟩) bRw1).trans cR1w1
  have zR0w2 := (hmw2.frozen (p := ⟨w.heap.size + 2, 0, none⟩) bRw1).trans zR0w1
  have zR1w2 := (hmw2.frozen (p := ⟨w.heap.size + 2, 1, none⟩) bRw1).trans zR1w1
  have bRw2 : w.heap.size + 2 < w2.heap.size := Nat.lt_of_lt_of_le bRw1 hmw2.size
  have dRw2 : w.heap.size + 2 < w2.heap.size + 1 := Nat.lt_succ_of_lt bRw2
  have hBw2 : Below w.heap.size w w2 := Below.trans hBw1 (hmw2.mono hBw1.size)
  have zw2 : w.heap.size ≤ w2.heap.size := hBw2.size
  clear hmw2 hw2 zw1 hBw1 dRw1 bRw1 zR1w1 zR0w1 cR1w1 cR0w1 dVw1 bVw1 zV1w1 zV0w1 cV1w1 cV0w1 dGw1 bGw1 cG4w1 cG3w1 cG2w1 cG1w1 cG0w1
  rw [hK.out]
  go_wp2_with fail
  refine (half_any _ _ _ _ _ h _).mono ?_
  rintro e w3 ⟨rfl, hw3⟩
  have hmw3 : Below w2.heap.size w2 w3 := on_below hw3 (by repeat' (first | (with_reducible exact Below.refl _ _) | (with_reducible assumption) | (with_reducible refine drewN_below ?_ _) | (with_reducible refine Below.drew ?_) | (with_reducible refine Below.alloc ?_ ?_ _) | (with_reducible refine Below.setCell ?_ ?_ _) | (simp; done) | omega | (simp; omega))) (by first | (with_reducible assumption) | (simp; done) | omega | (simp; omega))
  have cG0w3 := (hmw3.cell (p := ⟨w.heap.size, 0, none⟩) bGw2).trans cG0w2
  have cG1w3 := (hmw3.cell (p := ⟨w.heap.size, 1, none⟩) bGw2).trans cG1w2
  have cG2w3 := (hmw3.cell (p := ⟨w.heap.size, 2, none⟩) bGw2).trans cG2w2
  have cG3w3 := (hmw3.cell (p := ⟨w.heap.size, 3, none⟩) bGw2).trans cG3w2
  have cG4w3 := (hmw3.cell (p := ⟨w.heap.size, 4, none⟩) bGw2).trans cG4w2
  have bGw3 : w.heap.size < w3.heap.size := Nat.lt_of_lt_of_le bGw2 hmw3.size
  have dGw3 : w.heap.size < w3.heap.size + 1 := Nat.lt_succ_of_lt bGw3
  have cV0w3 := (hmw3.cell (p := ⟨w.heap.size + 1, 0, none⟩) bVw2).trans cV0w2
  have cV1w3 := (hmw3.cell (p := ⟨w.heap.size + 1, 1, none⟩) bVw2).trans cV1w2
  have zV0w3 := (hmw3.frozen (p := ⟨w.heap.size + 1, 0, none⟩) bVw2).trans zV0w2
  have zV1w3 := (hmw3.frozen (p := ⟨w.heap.size + 1, 1, none⟩) bVw2).trans zV1w2
  have bVw3 : w.heap.size + 1 < w3.heap.size := Nat.lt_of_lt_of_le bVw2 hmw3.size
  have dVw3 : w.heap.size + 1 < w3.heap.size + 1 := Nat.lt_succ_of_lt bVw3
  have cR0w3 := (hmw3.cell (p := ⟨w.heap.size + 2, 0, none⟩) bRw2).trans cR0w2
  have cR1w3 := (hmw3.cell (p := ⟨w.heap.size + 2, 1, none⟩) bRw2).trans cR1w2
  have zR0w3 := (hmw3.frozen (p := ⟨w.heap.size + 2, 0, none⟩) bRw2).trans zR0w2
  have zR1w3 := (hmw3.frozen (p := ⟨w.heap.size + 2, 1, none⟩) bRw2).trans zR1w2
  have bRw3 : w.heap.size + 2 < w3.heap.size := Nat.lt_of_lt_of_le bRw2 hmw3.size
  have dRw3 : w.heap.size + 2 < w3.heap.size + 1 := Nat.lt_succ_of_lt bRw3
  have hBw3 : Below w.heap.size w w3 := Below.trans hBw2 (hmw3.mono hBw2.size)
  have zw3 : w.heap.size ≤ w3.heap.size := hBw3.size
  clear hmw3 hw3 zw2 hBw2 dRw2 bRw2 zR1w2 zR0w2 cR1w2 cR0w2 dVw2 bVw2 zV1w2 zV0w2 cV1w2 cV0w2 dGw2 bGw2 cG4w2 cG3w2 cG2w2 cG1w2 cG0w2
  rw [hH.out]
  go_wp2_with fail
  refine (half_any _ _ _ _ _ h _).mono ?_
  rintro e w4 ⟨rfl, hw4⟩
  have hmw4 : Below w3.heap.size w3 w4 := on_below hw4 (by repeat' (first | (with_reducible exact Below.refl _ _) | (with_reducible assumption) | (with_reducible refine drewN_below ?_ _) | (with_reducible refine Below.drew ?_) | (with_reducible refine Below.alloc ?_ ?_ _) | (with_reducible refine Below.setCell ?_ ?_ _) | (simp; done) | omega | (simp; omega))) (by first | (with_reducible assumption) | (simp; done) | omega | (simp; omega))
  have cG0w4 := (hmw4.cell (p := ⟨w.heap.size, 0, none⟩) bGw3).trans cG0w3
  have cG1w4 := (hmw4.cell (p := ⟨w.heap.size, 1, none⟩) bGw3).trans cG1w3
  have cG2w4 := (hmw4.cell (p := ⟨w.heap.size, 2, none⟩) bGw3).trans cG2w3
  have cG3w4 := (hmw4.cell (p := ⟨w.heap.size, 3, none⟩) bGw3).trans cG3w3
  have cG4w4 := (hmw4.cell (p := ⟨w.heap.size, 4, none⟩) bGw3).trans cG4w3
  have bGw4 : w.heap.size < w4.heap.size := Nat.lt_of_lt_of_le bGw3 hmw4.size
  have dGw4 : w.heap.size < w4.heap.size + 1 := Nat.lt_succ_of_lt bGw4
  have cV0w4 := (hmw4.cell (p := ⟨w.heap.size + 1, 0, none⟩) bVw3).trans cV0w3
  have cV1w4 := (hmw4.cell (p := ⟨w.heap.size + 1, 1, none⟩) bVw3).trans cV1w3
  have zV0w4 := (hmw4.frozen (p := ⟨w.heap.size + 1, 0, none⟩) bVw3).trans zV0w3
  have zV1w4 := (hmw4.frozen (p := ⟨w.heap.size + 1, 1, none⟩) bVw3).trans zV1w3
  have bVw4 : w.heap.size + 1 < w4.heap.size := Nat.lt_of_lt_of_le bVw3 hmw4.size
  have dVw4 : w.heap.size + 1 < w4.heap.size + 1 := Nat.lt_succ_of_lt bVw4
  have cR0w4 := (hmw4.cell (p := ⟨w.heap.size + 2, 0, none⟩) bRw3).trans cR0w3
  have cR1w4 := (hmw4.cell (p := ⟨w.heap.size + 2, 1, none⟩) bRw3).trans cR1w3
  have zR0w4 := (hmw4.frozen (p := ⟨w.heap.size + 2, 0, none⟩) bRw3).trans zR0w3
  have zR1w4 := (hmw4.frozen (p := ⟨w.heap.size + 2, 1, none⟩) bRw3).trans zR1w3
  have bRw4 : w.heap.size + 2 < w4.heap.size := Nat.lt_of_lt_of_le bRw3 hmw4.size
  have dRw4 : w.heap.size + 2 < w4.heap.size + 1 := Nat.lt_succ_of_lt bRw4
  have hBw4 : Below w.heap.size w w4 := Below.trans hBw3 (hmw4.mono hBw3.size)
  have zw4 : w.heap.size ≤ w4.heap.size := hBw4.size
  clear hmw4 hw4 zw3 hBw3 dRw3 bRw3 zR1w3 zR0w3 cR1w3 cR0w3 dVw3 bVw3 zV1w3 zV0w3 cV1w3 cV0w3 dGw3 bGw3 cG4w3 cG3w3 cG2w3 cG1w3 cG0w3
  rw [hH.out]
  go_wp2_with fail
  refine (steps_any _ _ _ _ _ _ (by omega) (by omega) _).mono ?_
  rintro e w5 ⟨rfl, hw5⟩
  have hmw5 : Below w4.heap.size w4 w5 := on_below hw5 (by repeat' (first | (with_reducible exact Below.refl _ _) | (with_reducible assumption) | (with_reducible refine drewN_below ?_ _) | (with_reducible refine Below.drew ?_) | (with_reducible refine Below.alloc ?_ ?_ _) | (with_reducible refine Below.setCell ?_ ?_ _) | (simp; done) | omega | (simp; omega))) (by first | (with_reducible assumption) | (simp; done) | omega | (simp; omega))
  have cG0w5 := (hmw5.cell (p := ⟨w.heap.size, 0, none⟩) bGw4).trans cG0w4
  have cG1w5 := (hmw5.cell (p := ⟨w.heap.size, 1, none⟩) bGw4).trans cG1w4
  have cG2w5 := (hmw5.cell (p := ⟨w.heap.size, 2, none⟩) bGw4).trans cG2w4
  have cG3w5 := (hmw5.cell (p := ⟨w.heap.size, 3, none⟩) bGw4).trans cG3w4
  have cG4w5 := (hmw5.cell (p := ⟨w.heap.size, 4, none⟩) bGw4).trans cG4w4
  have bGw5 : w.heap.size < w5.heap.size := Nat.lt_of_lt_of_le bGw4 hmw5.size
  have dGw5 : w.heap.size < w5.heap.size + 1 := Nat.lt_succ_of_lt bGw5
  have cV0w5 := (hmw5.cell (p := ⟨w.heap.size + 1, 0, none⟩) bVw4).trans cV0w4
  have cV1w5 := (hmw5.cell (p := ⟨w.heap.size + 1, 1, none⟩) bVw4).trans cV1w4
  have zV0w5 := (hmw5.frozen (p := ⟨w.heap.size + 1, 0, none⟩) bVw4).trans zV0w4
  have zV1w5 := (hmw5.frozen (p := ⟨w.heap.size + 1, 1, none⟩) bVw4).trans zV1w4
  have bVw5 : w.heap.size + 1 < w5.heap.size := Nat.lt_of_lt_of_le bVw4 hmw5.size
  have dVw5 : w.heap.size + 1 < w5.heap.size + 1 := Nat.lt_succ_of_lt bVw5
  have cR0w5 := (hmw5.cell (p := ⟨w.heap.size + 2, 0, none⟩) bRw4).trans cR0w4
  have cR1w5 := (hmw5.cell (p := ⟨w.heap.size + 2, 1, none⟩) bRw4).trans cR1w4
  have zR0w5 := (hmw5.frozen (p := ⟨w.heap.size + 2, 0, none⟩) bRw4).trans zR0w4
  have zR1w5 := (hmw5.frozen (p := ⟨w.heap.size + 2, 1, none⟩) bRw4).trans zR1w4
  have bRw5 : w.heap.size + 2 < w5.heap.size := Nat.lt_of_lt_of_le bRw4 hmw5.size
  have dRw5 : w.heap.size + 2 < w5.heap.size + 1 := Nat.lt_succ_of_lt bRw5
  have hBw5 : Below w.heap.size w w5 := Below.trans hBw4 (hmw5.mono hBw4.size)
  have zw5 : w.heap.size ≤ w5.heap.size := hBw5.size
  clear hmw5 hw5 zw4 hBw4 dRw4 bRw4 zR1w4 zR0w4 cR1w4 cR0w4 dVw4 bVw4 zV1w4 zV0w4 cV1w4 cV0w4 dGw4 bGw4 cG4w4 cG3w4 cG2w4 cG1w4 cG0w4
  rw [hr.out]
  have cR0z : w5.cell? ⟨w.heap.size + 1 + 1, 0, none⟩ = some (.int .i64 0) := cR0w5
  have cR1z : w5.cell? ⟨w.heap.size + 1 + 1, 1, none⟩ = some (.int .i64 0) := cR1w5
  go_wp2
  exact bodyPost_ret (v := .agg #[.int .i64 a, .int .i64 b]) (by simp [results, Tryd.results49, go_sem, cR0z, cR1z]) rfl ⟨rfl, (by repeat' (first | (with_reducible exact Below.refl _ _) | (with_reducible assumption) | (with_reducible refine drewN_below ?_ _) | (with_reducible refine Below.drew ?_) | (with_reducible refine Below.alloc ?_ ?_ _) | (with_reducible refine Below.setCell ?_ ?_ _) | (simp; done) | omega | (simp; omega)))⟩

end Go.Proofs.YtpdklolfkigefaaDoor
