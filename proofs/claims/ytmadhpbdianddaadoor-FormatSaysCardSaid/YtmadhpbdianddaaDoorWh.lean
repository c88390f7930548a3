/-
  The specification's ends, Bound, Code, Value at any format: what the calls give.
-/
import Derived.Test.YtmadhpbdianddaaDoorWg
import Derived.Test.YtmadhpbdianddaaDoorVi
import Derived.StillTailTactics
import Derived.Deep.DeepCutAuto
namespace Go.Proofs.YtmadhpbdianddaaDoor
open Go.RowKit
set_option maxRecDepth 100000 in
set_option maxHeartbeats 1000000 in
theorem rleast_none (k r o : ByteArray) (I F : Int) (hI : -9223372036854775808 ≤ I ∧ I ≤ 9223372036854775807) (hF : -9223372036854775808 ≤ F ∧ F ≤ 9223372036854775807) (hv : Hid (Z.vld k r o I F = false)) (w : World) :
    Calls Tryd.prog 10 #[.agg #[.string k, .int .i64 I, .int .i64 F, .string r, .string o]] w fun e w' => e = .returned (.agg #[.int .i64 0, .int .i64 0]) ∧ Below w.heap.size w w' := by
  go_enter Tryd.func10, Tryd.ntmps10
  go_wp2_with fail
  refine (rvalid_any _ _ _ _ _ hI hF _).mono ?_
  rintro e w1 ⟨rfl, hb1⟩
  obtain ⟨hc1, hf1, hz1, hB1⟩ := after (a := w) (B := w.heap.size) (w.heap.size + 2) hb1 (by first | (with_reducible assumption) | (simp; done) | omega | (simp; omega)) (by repeat' (first | (with_reducible exact Below.refl _ _) | (with_reducible assumption) | (with_reducible refine drewN_below ?_ _) | (with_reducible refine Below.drew ?_) | (with_reducible refine Below.alloc ?_ ?_ _) | (with_reducible refine Below.setCell ?_ ?_ _) | (simp; done) | omega | (simp; omega))) (by omega)
  rw [hv.out]
  go_wp2_with fail
  refine (rnone_any _).mono ?_
  rintro e w2 ⟨rfl, hb2⟩
  obtain ⟨hc2, hf2, hz2, hB2⟩ := after (a := w) (B := w.heap.size) (w.heap.size + 2) hb2 (by first | (with_reducible assumption) | (simp; done) | omega | (simp; omega)) (by repeat' (first | (with_reducible exact Below.refl _ _) | (with_reducible assumption) | (with_reducible refine drewN_below ?_ _) | (with_reducible refine Below.drew ?_) | (with_reducible refine Below.alloc ?_ ?_ _) | (with_reducible refine Below.setCell ?_ ?_ _) | (simp; done) | omega | (simp; omega))) (by omega)
  go_wp2
  exact bodyPost_ret (v := .agg #[.int .i64 0, .int .i64 0]) (by simp [results, Tryd.results10, go_sem, hc2, hc1]) rfl ⟨rfl, (by repeat' (first | (with_reducible exact Below.refl _ _) | (with_reducible assumption) | (with_reducible refine drewN_below ?_ _) | (with_reducible refine Below.drew ?_) | (with_reducible refine Below.alloc ?_ ?_ _) | (with_reducible refine Below.setCell ?_ ?_ _) | (simp; done) | omega | (simp; omega)))⟩

set_option maxRecDepth 100000 in
set_option maxHeartbeats 4000000 in
theorem rleast_any (k r o : ByteArray) (I F : Nat) (h : I + F ≤ 30) (hv : Hid (Z.vld k r o (I : Int) (F : Int) = true)) (w : World) :
    Calls Tryd.prog 10 #[.agg #[.string k, .int .i64 (I : Int), .int .i64 (F : Int), .string r, .string o]] w fun e w' => e = .returned (.agg #[.int .i64 (Z.lst (k.toList == [102, 105, 120]) I F).1, .int .i64 (Z.lst (k.toList == [102, 105, 120]) I F).2]) ∧ Below w.heap.size w w' := by
  have hB := pb_of h
  have B1 := hB.h
  have B2 := hB.i
  have B3 := top_bd h
  have B4 := hB.f
  clear hB
  have y0 : IntKind.i64.wrap ((I : Int) + (F : Int)) = (I : Int) + (F : Int) := Z.i64_in _ (by omega)
  obtain ⟨H, hH⟩ : ∃ H : Int, Hid ((2 : Int) ^ (I + F) = H) := ⟨_, rfl⟩
  rw [hH.out] at B1
  have y1 : IntKind.i64.wrap (-H) = -H := Z.i64_in _ (by omega)
  have y2 : IntKind.i64.wrap (H - 1) = H - 1 := Z.i64_in _ (by omega)
  have y3 : IntKind.i64.wrap (1 - 2 ^ I) = 1 - 2 ^ I := Z.i64_in _ (by omega)
  have y4 : IntKind.i64.wrap (2 ^ I - 1) = 2 ^ I - 1 := Z.i64_in _ (by omega)
  have tw1 : ∀ w, Calls Tryd.prog 48 #[.int .i64 ((I : Int) + (F : Int))] w fun e w' => e = .returned (.int .i64 H) ∧ w' = w := fun w => by
    have h0 := two_same (I + F) (by omega) w
    rw [hH.out] at h0
    exact h0
  cases hk : (k.toList == [102, 105, 120])
  · have e : Z.lst false I F = Q.mk (-((2 ^ I - 1) * 2 ^ F)) 1 := rfl
    rw [e]; clear e
    obtain ⟨a, b, hr⟩ : ∃ a b, Hid (Q.mk (-((2 ^ I - 1) * 2 ^ F)) 1 = (a, b)) := ⟨_, _, rfl⟩
    rw [hr.out]
    have hp : Hid (Z.pw (1 - 2 ^ I) (F : Int) = (a, b)) := by
      unfold Hid Z.pw; rw [if_neg (by omega), show ((F : Int)).toNat = F by omega]; rw [show (1 - 2 ^ I : Int) = -(2 ^ I - 1) by omega, Int.neg_mul]; exact hr.out
    have hb9 : Hid (-4611686018427387904 ≤ (1 - 2 ^ I : Int) * 2 ^ ((F : Int)).toNat ∧ (1 - 2 ^ I : Int) * 2 ^ ((F : Int)).toNat ≤ 4611686018427387904) := by
      unfold Hid; rw [show ((F : Int)).toNat = F by omega]; rw [show (1 - 2 ^ I : Int) = -(2 ^ I - 1) by omega, Int.neg_mul]; omega
    go_enter Tryd.func10, Tryd.ntmps10
    go_wp2_with fail
    refine (rvalid_any _ _ _ _ _ (by omega) (by omega) _).mono ?_
    rintro e w1 ⟨rfl, hb1⟩
    obtain ⟨hc1, hf1, hz1, hB1⟩ := after (a := w) (B := w.heap.size) (w.heap.size + 2) hb1 (by first | (with_reducible assumption) | (simp; done) | omega | (simp; omega)) (by repeat' (first | (with_reducible exact Below.refl _ _) | (with_reducible assumption) | (with_reducible refine drewN_below ?_ _) | (with_reducible refine Below.drew ?_) | (with_reducible refine Below.alloc ?_ ?_ _) | (with_reducible refine Below.setCell ?_ ?_ _) | (simp; done) | omega | (simp; omega))) (by omega)
    rw [hv.out]
    go_wp2_with fail
    refine wp_region_still_tail 6 (by kernel_rfl) (by kernel_rfl) ?_
    simp only [List.take_succ_cons, List.take_zero, List.drop_succ_cons, List.drop_zero]
    still_step
    still_step
    still_call (two_same I (by omega) _)
    still_step
    still_step
    still_step
    refine wpStill_nil ?_
    change wpList _ _ _ _ _ w1.drew
    go_wp2_with fail
    refine (rscaled_any _ _ (by omega) hb9.out _).mono ?_
    rintro e w2 ⟨rfl, hb2⟩
    obtain ⟨hc2, hf2, hz2, hB2⟩ := after (a := w) (B := w.heap.size) (w.heap.size + 2) hb2 (by first | (with_reducible assumption) | (simp; done) | omega | (simp; omega)) (by repeat' (first | (with_reducible exact Below.refl _ _) | (with_reducible assumption) | (with_reducible refine drewN_below ?_ _) | (with_reducible refine Below.drew ?_) | (with_reducible refine Below.alloc ?_ ?_ _) | (with_reducible refine Below.setCell ?_ ?_ _) | (simp; done) | omega | (simp; omega))) (by omega)
    rw [hp.out]
    go_wp2
    exact bodyPost_ret (v := .agg #[.int .i64 a, .int .i64 b]) (by simp [results, Tryd.results10, go_sem, hc2, hc1]) rfl ⟨rfl, (by repeat' (first | (with_reducible exact Below.refl _ _) | (with_reducible assumption) | (with_reducible refine drewN_below ?_ _) | (with_reducible refine Below.drew ?_) | (with_reducible refine Below.alloc ?_ ?_ _) | (with_reducible refine Below.setCell ?_ ?_ _) | (simp; done) | omega | (simp; omega)))⟩
  · have e : Z.lst true I F = Q.mk (-H) (2 ^ F) := by rw [← hH.out]; rfl
    rw [e]; clear e
    obtain ⟨a, b, hr⟩ : ∃ a b, Hid (Q.mk (-H) (2 ^ F) = (a, b)) := ⟨_, _, rfl⟩
    rw [hr.out]
    go_enter Tryd.func10, Tryd.ntmps10
    go_wp2_with fail
    refine (rvalid_any _ _ _ _ _ (by omega) (by omega) _).mono ?_
    rintro e w1 ⟨rfl, hb1⟩
    obtain ⟨hc1, hf1, hz1, hB1⟩ := after (a := w) (B := w.heap.size) (w.heap.size + 2) hb1 (by first | (with_reducible assumption) | (simp; done) | omega | (simp; omega)) (by repeat' (first | (with_reducible exact Below.refl _ _) | (with_reducible assumption) | (with_reducible refine drewN_below ?_ _) | (with_reducible refine Below.drew ?_) | (with_reducible refine Below.alloc ?_ ?_ _) | (with_reducible refine Below.setCell ?_ ?_ _) | (simp; done) | omega | (simp; omega))) (by omega)
    rw [hv.out]
    go_wp2_with fail
    refine wp_region_still_tail 10 (by kernel_rfl) (by kernel_rfl) ?_
    simp only [List.take_succ_cons, List.take_zero, List.drop_succ_cons, List.drop_zero]
    still_step
    still_step
    still_step
    still_step
    still_step
    still_call (tw1 _)
    still_step
    still_step
    still_step
    still_call (two_same F (by omega) _)
    refine wpStill_nil ?_
    change wpList _ _ _ _ _ w1.drew
    go_wp2_with fail
    refine (rmake_all _ _ (by omega) (by omega) _).mono ?_
    rintro e w2 ⟨rfl, hb2⟩
    obtain ⟨hc2, hf2, hz2, hB2⟩ := after (a := w) (B := w.heap.size) (w.heap.size + 2) hb2 (by first | (with_reducible assumption) | (simp; done) | omega | (simp; omega)) (by repeat' (first | (with_reducible exact Below.refl _ _) | (with_reducible assumption) | (with_reducible refine drewN_below ?_ _) | (with_reducible refine Below.drew ?_) | (with_reducible refine Below.alloc ?_ ?_ _) | (with_reducible refine Below.setCell ?_ ?_ _) | (simp; done) | omega | (simp; omega))) (by omega)
    rw [hr.out]
    go_wp2
    exact bodyPost_ret (v := .agg #[.int .i64 a, .int .i64 b]) (by simp [results, Tryd.results10, go_sem, hc2, hc1]) rfl ⟨rfl, (by repeat' (first | (with_reducible exact Below.refl _ _) | (with_reducible assumption) | (with_reducible refine drewN_below ?_ _) | (with_reducible refine Below.drew ?_) | (with_reducible refine Below.alloc ?_ ?_ _) | (with_reducible refine Below.setCell ?_ ?_ _) | (simp; done) | omega | (simp; omega)))⟩

set_option maxRecDepth 100000 in
set_option maxHeartbeats 1000000 in
theorem rgreatest_none (k r o : ByteArray) (I F : Int) (hI : -9223372036854775808 ≤ I ∧ I ≤ 9223372036854775807) (hF : -9223372036854775808 ≤ F ∧ F ≤ 9223372036854775807) (hv : Hid (Z.vld k r o I F = false)) (w : World) :
    Calls Tryd.prog 12 #[.agg #[.string k, .int .i64 I, .int .i64 F, .string r, .string o]] w fun e w' => e = .returned (.agg #[.int .i64 0, .int .i64 0]) ∧ Below w.heap.size w w' := by
  go_enter Tryd.func12, Tryd.ntmps12
  go_wp2_with fail
  refine (rvalid_any _ _ _ _ _ hI hF _).mono ?_
  rintro e w1 ⟨rfl, hb1⟩
  obtain ⟨hc1, hf1, hz1, hB1⟩ := after (a := w) (B := w.heap.size) (w.heap.size + 2) hb1 (by first | (with_reducible assumption) | (simp; done) | omega | (simp; omega)) (by repeat' (first | (with_reducible exact Below.refl _ _) | (with_reducible assumption) | (with_reducible refine drewN_below ?_ _) | (with_reducible refine Below.drew ?_) | (with_reducible refine Below.alloc ?_ ?_ _) | (with_reducible refine Below.setCell ?_ ?_ _) | (simp; done) | omega | (simp; omega))) (by omega)
  rw [hv.out]
  go_wp2_with fail
  refine (rnone_any _).mono ?_
  rintro e w2 ⟨rfl, hb2⟩
  obtain ⟨hc2, hf2, hz2, hB2⟩ := after (a := w) (B := w.heap.size) (w.heap.size + 2) hb2 (by first | (with_reducible assumption) | (simp; done) | omega | (simp; omega)) (by repeat' (first | (with_reducible exact Below.refl _ _) | (with_reducible assumption) | (with_reducible refine drewN_below ?_ _) | (with_reducible refine Below.drew ?_) | (with_reducible refine Below.alloc ?_ ?_ _) | (with_reducible refine Below.setCell ?_ ?_ _) | (simp; done) | omega | (simp; omega))) (by omega)
  go_wp2
  exact bodyPost_ret (v := .agg #[.int .i64 0, .int .i64 0]) (by simp [results, Tryd.results12, go_sem, hc2, hc1]) rfl ⟨rfl, (by repeat' (first | (with_reducible exact Below.refl _ _) | (with_reducible assumption) | (with_reducible refine drewN_below ?_ _) | (with_reducible refine Below.drew ?_) | (with_reducible refine Below.alloc ?_ ?_ _) | (with_reducible refine Below.setCell ?_ ?_ _) | (simp; done) | omega | (simp; omega)))⟩

set_option maxRecDepth 100000 in
set_option maxHeartbeats 4000000 in
theorem rgreatest_any (k r o : ByteArray) (I F : Nat) (h : I + F ≤ 30) (hv : Hid (Z.vld k r o (I : Int) (F : Int) = true)) (w : World) :
    Calls Tryd.prog 12 #[.agg #[.string k, .int .i64 (I : Int), .int .i64 (F : Int), .string r, .string o]] w fun e w' => e = .returned (.agg #[.int .i64 (Z.grt (k.toList == [102, 105, 120]) I F).1, .int .i64 (Z.grt (k.toList == [102, 105, 120]) I F).2]) ∧ Below w.heap.size w w' := by
  have hB := pb_of h
  have B1 := hB.h
  have B2 := hB.i
  have B3 := top_bd h
  have B4 := hB.f
  clear hB
  have y0 : IntKind.i64.wrap ((I : Int) + (F : Int)) = (I : Int) + (F : Int) := Z.i64_in _ (by omega)
  obtain ⟨H, hH⟩ : ∃ H : Int, Hid ((2 : Int) ^ (I + F) = H) := ⟨_, rfl⟩
  rw [hH.out] at B1
  have y1 : IntKind.i64.wrap (-H) = -H := Z.i64_in _ (by omega)
  have y2 : IntKind.i64.wrap (H - 1) = H - 1 := Z.i64_in _ (by omega)
  have y3 : IntKind.i64.wrap (1 - 2 ^ I) = 1 - 2 ^ I := Z.i64_in _ (by omega)
  have y4 : IntKind.i64.wrap (2 ^ I - 1) = 2 ^ I - 1 := Z.i64_in _ (by omega)
  have tw1 : ∀ w, Calls Tryd.prog 48 #[.int .i64 ((I : Int) + (F : Int))] w fun e w' => e = .returned (.int .i64 H) ∧ w' = w := fun w => by
    have h0 := two_same (I + F) (by omega) w
    rw [hH.out] at h0
    exact h0
  cases hk : (k.toList == [102, 105, 120])
  · have e : Z.grt false I F = Q.mk ((2 ^ I - 1) * 2 ^ F) 1 := rfl
    rw [e]; clear e
    obtain ⟨a, b, hr⟩ : ∃ a b, Hid (Q.mk ((2 ^ I - 1) * 2 ^ F) 1 = (a, b)) := ⟨_, _, rfl⟩
    rw [hr.out]
    have hp : Hid (Z.pw (2 ^ I - 1) (F : Int) = (a, b)) := by
      unfold Hid Z.pw; rw [if_neg (by omega), show ((F : Int)).toNat = F by omega]; exact hr.out
    have hb9 : Hid (-4611686018427387904 ≤ (2 ^ I - 1 : Int) * 2 ^ ((F : Int)).toNat ∧ (2 ^ I - 1 : Int) * 2 ^ ((F : Int)).toNat ≤ 4611686018427387904) := by
      unfold Hid; rw [show ((F : Int)).toNat = F by omega]; omega
    go_enter Tryd.func12, Tryd.ntmps12
    go_wp2_with fail
    refine (rvalid_any _ _ _ _ _ (by omega) (by omega) _).mono ?_
    rintro e w1 ⟨rfl, hb1⟩
    obtain ⟨hc1, hf1, hz1, hB1⟩ := after (a := w) (B := w.heap.size) (w.heap.size + 2) hb1 (by first | (with_reducible assumption) | (simp; done) | omega | (simp; omega)) (by repeat' (first | (with_reducible exact Below.refl _ _) | (with_reducible assumption) | (with_reducible refine drewN_below ?_ _) | (with_reducible refine Below.drew ?_) | (with_reducible refine Below.alloc ?_ ?_ _) | (with_reducible refine Below.setCell ?_ ?_ _) | (simp; done) | omega | (simp; omega))) (by omega)
    rw [hv.out]
    go_wp2_with fail
    refine wp_region_still_tail 6 (by kernel_rfl) (by kernel_rfl) ?_
    simp only [List.take_succ_cons, List.take_zero, List.drop_succ_cons, List.drop_zero]
    still_step
    still_step
    still_call (two_same I (by omega) _)
    still_step
    still_step
    still_step
    refine wpStill_nil ?_
    change wpList _ _ _ _ _ w1.drew
    go_wp2_with fail
    refine (rscaled_any _ _ (by omega) hb9.out _).mono ?_
    rintro e w2 ⟨rfl, hb2⟩
    obtain ⟨hc2, hf2, hz2, hB2⟩ := after (a := w) (B := w.heap.size) (w.heap.size + 2) hb2 (by first | (with_reducible assumption) | (simp; done) | omega | (simp; omega)) (by repeat' (first | (with_reducible exact Below.refl _ _) | (with_reducible assumption) | (with_reducible refine drewN_below ?_ _) | (with_reducible refine Below.drew ?_) | (with_reducible refine Below.alloc ?_ ?_ _) | (with_reducible refine Below.setCell ?_ ?_ _) | (simp; done) | omega | (simp; omega))) (by omega)
    rw [hp.out]
    go_wp2
    exact bodyPost_ret (v := .agg #[.int .i64 a, .int .i64 b]) (by simp [results, Tryd.results12, go_sem, hc2, hc1]) rfl ⟨rfl, (by repeat' (first | (with_reducible exact Below.refl _ _) | (with_reducible assumption) | (with_reducible refine drewN_below ?_ _) | (with_reducible refine Below.drew ?_) | (with_reducible refine Below.alloc ?_ ?_ _) | (with_reducible refine Below.setCell ?_ ?_ _) | (simp; done) | omega | (simp; omega)))⟩
  · have e : Z.grt true I F = Q.mk (H - 1) (2 ^ F) := by rw [← hH.out]; rfl
    rw [e]; clear e
    obtain ⟨a, b, hr⟩ : ∃ a b, Hid (Q.mk (H - 1) (2 ^ F) = (a, b)) := ⟨_, _, rfl⟩
    rw [hr.out]
    go_enter Tryd.func12, Tryd.ntmps12
    go_wp2_with fail
    refine (rvalid_any _ _ _ _ _ (by omega) (by omega) _).mono ?_
    rintro e w1 ⟨rfl, hb1⟩
    obtain ⟨hc1, hf1, hz1, hB1⟩ := after (a := w) (B := w.heap.size) (w.heap.size + 2) hb1 (by first | (with_reducible assumption) | (simp; done) | omega | (simp; omega)) (by repeat' (first | (with_reducible exact Below.refl _ _) | (with_reducible assumption) | (with_reducible refine drewN_below ?_ _) | (with_reducible refine Below.drew ?_) | (with_reducible refine Below.alloc ?_ ?_ _) | (with_reducible refine Below.setCell ?_ ?_ _) | (simp; done) | omega | (simp; omega))) (by omega)
    rw [hv.out]
    go_wp2_with fail
    refine wp_region_still_tail 10 (by kernel_rfl) (by kernel_rfl) ?_
    simp only [List.take_succ_cons, List.take_zero, List.drop_succ_cons, List.drop_zero]
    still_step
    still_step
    still_step
    still_step
    still_step
    still_call (tw1 _)
    still_step
    still_step
    still_step
    still_call (two_same F (by omega) _)
    refine wpStill_nil ?_
    change wpList _ _ _ _ _ w1.drew
    go_wp2_with fail
    refine (rmake_all _ _ (by omega) (by omega) _).mono ?_
    rintro e w2 ⟨rfl, hb2⟩
    obtain ⟨hc2, hf2, hz2, hB2⟩ := after (a := w) (B := w.heap.size) (w.heap.size + 2) hb2 (by first | (with_reducible assumption) | (simp; done) | omega | (simp; omega)) (by repeat' (first | (with_reducible exact Below.refl _ _) | (with_reducible assumption) | (with_reducible refine drewN_below ?_ _) | (with_reducible refine Below.drew ?_) | (with_reducible refine Below.alloc ?_ ?_ _) | (with_reducible refine Below.setCell ?_ ?_ _) | (simp; done) | omega | (simp; omega))) (by omega)
    rw [hr.out]
    go_wp2
    exact bodyPost_ret (v := .agg #[.int .i64 a, .int .i64 b]) (by simp [results, Tryd.results12, go_sem, hc2, hc1]) rfl ⟨rfl, (by repeat' (first | (with_reducible exact Below.refl _ _) | (with_reducible assumption) | (with_reducible refine drewN_below ?_ _) | (with_reducible refine Below.drew ?_) | (with_reducible refine Below.alloc ?_ ?_ _) | (with_reducible refine Below.setCell ?_ ?_ _) | (simp; done) | omega | (simp; omega)))⟩

set_option maxRecDepth 100000 in
set_option maxHeartbeats 1000000 in
theorem rstep_none (k r o : ByteArray) (I F : Int) (hI : -9223372036854775808 ≤ I ∧ I ≤ 9223372036854775807) (hF : -9223372036854775808 ≤ F ∧ F ≤ 9223372036854775807) (hv : Hid (Z.vld k r o I F = false)) (w : World) :
    Calls Tryd.prog 14 #[.agg #[.string k, .int .i64 I, .int .i64 F, .string r, .string o]] w fun e w' => e = .returned (.agg #[.int .i64 0, .int .i64 0]) ∧ Below w.heap.size w w' := by
  go_enter Tryd.func14, Tryd.ntmps14
  go_wp2_with fail
  refine (rvalid_any _ _ _ _ _ hI hF _).mono ?_
  rintro e w1 ⟨rfl, hb1⟩
  obtain ⟨hc1, hf1, hz1, hB1⟩ := after (a := w) (B := w.heap.size) (w.heap.size + 2) hb1 (by first | (with_reducible assumption) | (simp; done) | omega | (simp; omega)) (by repeat' (first | (with_reducible exact Below.refl _ _) | (with_reducible assumption) | (with_reducible refine drewN_below ?_ _) | (with_reducible refine Below.drew ?_) | (with_reducible refine Below.alloc ?_ ?_ _) | (with_reducible refine Below.setCell ?_ ?_ _) | (simp; done) | omega | (simp; omega))) (by omega)
  rw [hv.out]
  go_wp2_with fail
  refine (rnone_any _).mono ?_
  rintro e w2 ⟨rfl, hb2⟩
  obtain ⟨hc2, hf2, hz2, hB2⟩ := after (a := w) (B := w.heap.size) (w.heap.size + 2) hb2 (by first | (with_reducible assumption) | (simp; done) | omega | (simp; omega)) (by repeat' (first | (with_reducible exact Below.refl _ _) | (with_reducible assumption) | (with_reducible refine drewN_below ?_ _) | (with_reducible refine Below.drew ?_) | (with_reducible refine Below.alloc ?_ ?_ _) | (with_reducible refine Below.setCell ?_ ?_ _) | (simp; done) | omega | (simp; omega))) (by omega)
  go_wp2
  exact bodyPost_ret (v := .agg #[.int .i64 0, .int .i64 0]) (by simp [results, Tryd.results14, go_sem, hc2, hc1]) rfl ⟨rfl, (by repeat' (first | (with_reducible exact Below.refl _ _) | (with_reducible assumption) | (with_reducible refine drewN_below ?_ _) | (with_reducible refine Below.drew ?_) | (with_reducible refine Below.alloc ?_ ?_ _) | (with_reducible refine Below.setCell ?_ ?_ _) | (simp; done) | omega | (simp; omega)))⟩

set_option maxRecDepth 100000 in
set_option maxHeartbeats 1000000 in
theorem rstep_any (k r o : ByteArray) (I F : Nat) (h : I + F ≤ 30) (hv : Hid (Z.vld k r o (I : Int) (F : Int) = true)) (w : World) :
    Calls Tryd.prog 14 #[.agg #[.string k, .int .i64 (I : Int), .int .i64 (F : Int), .string r, .string o]] w fun e w' => e = .returned (.agg #[.int .i64 (Q.mk 1 (2 ^ F)).1, .int .i64 (Q.mk 1 (2 ^ F)).2]) ∧ Below w.heap.size w w' := by
  have B4 := Z.p2_30 F (by omega)
  obtain ⟨a, b, hr⟩ : ∃ a b, Hid (Q.mk 1 (2 ^ F) = (a, b)) := ⟨_, _, rfl⟩
  rw [hr.out]
  go_enter Tryd.func14, Tryd.ntmps14
  go_wp2_with fail
  refine (rvalid_any _ _ _ _ _ (by omega) (by omega) _).mono ?_
  rintro e w1 ⟨rfl, hb1⟩
  obtain ⟨hc1, hf1, hz1, hB1⟩ := after (a := w) (B := w.heap.size) (w.heap.size + 2) hb1 (by first | (with_reducible assumption) | (simp; done) | omega | (simp; omega)) (by repeat' (first | (with_reducible exact Below.refl _ _) | (with_reducible assumption) | (with_reducible refine drewN_below ?_ _) | (with_reducible refine Below.drew ?_) | (with_reducible refine Below.alloc ?_ ?_ _) | (with_reducible refine Below.setCell ?_ ?_ _) | (simp; done) | omega | (simp; omega))) (by omega)
  rw [hv.out]
  go_wp2_with fail
  refine (two_any F (by omega) _).mono ?_
  rintro e wa ⟨rfl, rfl⟩
  go_wp2_with fail
  refine (rmake_all _ _ (by omega) (by omega) _).mono ?_
  rintro e w2 ⟨rfl, hb2⟩
  obtain ⟨hc2, hf2, hz2, hB2⟩ := after (a := w) (B := w.heap.size) (w.heap.size + 2) hb2 (by first | (with_reducible assumption) | (simp; done) | omega | (simp; omega)) (by repeat' (first | (with_reducible exact Below.refl _ _) | (with_reducible assumption) | (with_reducible refine drewN_below ?_ _) | (with_reducible refine Below.drew ?_) | (with_reducible refine Below.alloc ?_ ?_ _) | (with_reducible refine Below.setCell ?_ ?_ _) | (simp; done) | omega | (simp; omega))) (by omega)
  rw [hr.out]
  go_wp2
  exact bodyPost_ret (v := .agg #[.int .i64 a, .int .i64 b]) (by simp [results, Tryd.results14, go_sem, hc2, hc1]) rfl ⟨rfl, (by repeat' (first | (with_reducible exact Below.refl _ _) | (with_reducible assumption) | (with_reducible refine drewN_below ?_ _) | (with_reducible refine Below.drew ?_) | (with_reducible refine Below.alloc ?_ ?_ _) | (with_reducible refine Below.setCell ?_ ?_ _) | (simp; done) | omega | (simp; omega)))⟩

set_option maxRecDepth 100000 in
set_option maxHeartbeats 1000000 in
theorem rLeast_any (k r o : ByteArray) (I F : Int) (hI : -9223372036854775808 ≤ I ∧ I ≤ 9223372036854775807) (hF : -9223372036854775808 ≤ F ∧ F ≤ 9223372036854775807) (w : World) :
    Calls Tryd.prog 10 #[.agg #[.string k, .int .i64 I, .int .i64 F, .string r, .string o]] w fun e w' => e = .returned (.agg #[.int .i64 (Z.lstQ k r o I F).1, .int .i64 (Z.lstQ k r o I F).2]) ∧ Below w.heap.size w w' := by
  by_cases hc : Z.vld k r o I F = true
  · have e : Z.lstQ k r o I F = Z.lst (k.toList == [102, 105, 120]) I.toNat F.toNat := by unfold Z.lstQ; rw [if_pos hc]
    rw [e]
    obtain ⟨m, i, f, hm, hm2, hr, rfl, rfl, hs⟩ := vld_open hc
    exact rleast_any k r o i f hs hc w
  · have e : Z.lstQ k r o I F = (0, 0) := by unfold Z.lstQ; rw [if_neg hc]
    rw [e]
    exact rleast_none k r o I F hI hF (by simpa [Hid] using hc) w

set_option maxRecDepth 100000 in
set_option maxHeartbeats 1000000 in
theorem rGreatest_any (k r o : ByteArray) (I F : Int) (hI : -9223372036854775808 ≤ I ∧ I ≤ 9223372036854775807) (hF : -9223372036854775808 ≤ F ∧ F ≤ 9223372036854775807) (w : World) :
    Calls Tryd.prog 12 #[.agg #[.string k, .int .i64 I, .int .i64 F, .string r, .string o]] w fun e w' => e = .returned (.agg #[.int .i64 (Z.grtQ k r o I F).1, .int .i64 (Z.grtQ k r o I F).2]) ∧ Below w.heap.size w w' := by
  by_cases hc : Z.vld k r o I F = true
  · have e : Z.grtQ k r o I F = Z.grt (k.toList == [102, 105, 120]) I.toNat F.toNat := by unfold Z.grtQ; rw [if_pos hc]
    rw [e]
    obtain ⟨m, i, f, hm, hm2, hr, rfl, rfl, hs⟩ := vld_open hc
    exact rgreatest_any k r o i f hs hc w
  · have e : Z.grtQ k r o I F = (0, 0) := by unfold Z.grtQ; rw [if_neg hc]
    rw [e]
    exact rgreatest_none k r o I F hI hF (by simpa [Hid] using hc) w

set_option maxRecDepth 100000 in
set_option maxHeartbeats 1000000 in
theorem rStep_any (k r o : ByteArray) (I F : Int) (hI : -9223372036854775808 ≤ I ∧ I ≤ 9223372036854775807) (hF : -9223372036854775808 ≤ F ∧ F ≤ 9223372036854775807) (w : World) :
    Calls Tryd.prog 14 #[.agg #[.string k, .int .i64 I, .int .i64 F, .string r, .string o]] w fun e w' => e = .returned (.agg #[.int .i64 (Z.stpQ k r o I F).1, .int .i64 (Z.stpQ k r o I F).2]) ∧ Below w.heap.size w w' := by
  by_cases hc : Z.vld k r o I F = true
  · have e : Z.stpQ k r o I F = Q.mk 1 (2 ^ F.toNat) := by unfold Z.stpQ; rw [if_pos hc]
    rw [e]
    obtain ⟨m, i, f, hm, hm2, hr, rfl, rfl, hs⟩ := vld_open hc
    exact rstep_any k r o i f hs hc w
  · have e : Z.stpQ k r o I F = (0, 0) := by unfold Z.stpQ; rw [if_neg hc]
    rw [e]
    exact rstep_none k r o I F hI hF (by simpa [Hid] using hc) w

set_option maxRecDepth 100000 in
set_option maxHeartbeats 4000000 in
theorem rBound_any (k r o : ByteArray) (I F : Int) (hI : -9223372036854775808 ≤ I ∧ I ≤ 9223372036854775807) (hF : -9223372036854775808 ≤ F ∧ F ≤ 9223372036854775807) (w : World) :
    Calls Tryd.prog 24 #[.agg #[.string k, .int .i64 I, .int .i64 F, .string r, .string o]] w fun e w' => e = .returned (.tuple #[.agg #[.int .i64 (Z.bndQ k r o I F).1.1, .int .i64 (Z.bndQ k r o I F).1.2], .int .i64 (Z.bndQ k r o I F).2]) ∧ Below w.heap.size w w' := by
  cases hx : Z.isfx k r o I F
  · have e : Z.bndQ k r o I F = ((0, 0), 2) := by unfold Z.bndQ; rw [hx]; rfl
    rw [e]; clear e
    cases hv : Z.vld k r o I F
    · have HV := Lib.hid hv
      clear hv
      clear hx
      go_enter Tryd.func24, Tryd.ntmps24
      go_wp2_with fail
      refine (rvalid_any _ _ _ _ _ hI hF _).mono ?_
      rintro e w1 ⟨rfl, hb1⟩
      obtain ⟨hc1, hf1, hz1, hB1⟩ := after (a := w) (B := w.heap.size) (w.heap.size + 2) hb1 (by first | (with_reducible assumption) | (simp; done) | omega | (simp; omega)) (by repeat' (first | (with_reducible exact Below.refl _ _) | (with_reducible assumption) | (with_reducible refine drewN_below ?_ _) | (with_reducible refine Below.drew ?_) | (with_reducible refine Below.alloc ?_ ?_ _) | (with_reducible refine Below.setCell ?_ ?_ _) | (simp; done) | omega | (simp; omega))) (by omega)
      rw [HV.out]
      go_wp2_with fail
      refine (rnone_any _).mono ?_
      rintro e w2 ⟨rfl, hb2⟩
      obtain ⟨hc2, hf2, hz2, hB2⟩ := after (a := w) (B := w.heap.size) (w.heap.size + 2) hb2 (by first | (with_reducible assumption) | (simp; done) | omega | (simp; omega)) (by repeat' (first | (with_reducible exact Below.refl _ _) | (with_reducible assumption) | (with_reducible refine drewN_below ?_ _) | (with_reducible refine Below.drew ?_) | (with_reducible refine Below.alloc ?_ ?_ _) | (with_reducible refine Below.setCell ?_ ?_ _) | (simp; done) | omega | (simp; omega))) (by omega)
      go_wp2
      exact bodyPost_ret (v := .tuple #[.agg #[.int .i64 0, .int .i64 0], .int .i64 2]) (by simp [results, Tryd.results24, go_sem, hc2, hc1]) rfl ⟨rfl, (by repeat' (first | (with_reducible exact Below.refl _ _) | (with_reducible assumption) | (with_reducible refine drewN_below ?_ _) | (with_reducible refine Below.drew ?_) | (with_reducible refine Below.alloc ?_ ?_ _) | (with_reducible refine Below.setCell ?_ ?_ _) | (simp; done) | omega | (simp; omega)))⟩
    · have hk : (k.toList == [102, 105, 120]) = false := by unfold Z.isfx at hx; rw [hv] at hx; simpa using hx
      have HV := Lib.hid hv
      clear hv
      clear hx
      go_enter Tryd.func24, Tryd.ntmps24
      go_wp2_with fail
      refine (rvalid_any _ _ _ _ _ hI hF _).mono ?_
      rintro e w1 ⟨rfl, hb1⟩
      obtain ⟨hc1, hf1, hz1, hB1⟩ := after (a := w) (B := w.heap.size) (w.heap.size + 2) hb1 (by first | (with_reducible assumption) | (simp; done) | omega | (simp; omega)) (by repeat' (first | (with_reducible exact Below.refl _ _) | (with_reducible assumption) | (with_reducible refine drewN_below ?_ _) | (with_reducible refine Below.drew ?_) | (with_reducible refine Below.alloc ?_ ?_ _) | (with_reducible refine Below.setCell ?_ ?_ _) | (simp; done) | omega | (simp; omega))) (by omega)
      rw [HV.out]
      go_wp2_with fail
      refine (rnone_any _).mono ?_
      rintro e w2 ⟨rfl, hb2⟩
      obtain ⟨hc2, hf2, hz2, hB2⟩ := after (a := w) (B := w.heap.size) (w.heap.size + 2) hb2 (by first | (with_reducible assumption) | (simp; done) | omega | (simp; omega)) (by repeat' (first | (with_reducible exact Below.refl _ _) | (with_reducible assumption) | (with_reducible refine drewN_below ?_ _) | (with_reducible refine Below.drew ?_) | (with_reducible refine Below.alloc ?_ ?_ _) | (with_reducible refine Below.setCell ?_ ?_ _) | (simp; done) | omega | (simp; omega))) (by omega)
      go_wp2
      exact bodyPost_ret (v := .tuple #[.agg #[.int .i64 0, .int .i64 0], .int .i64 2]) (by simp [results, Tryd.results24, go_sem, hc2, hc1]) rfl ⟨rfl, (by repeat' (first | (with_reducible exact Below.refl _ _) | (with_reducible assumption) | (with_reducible refine drewN_below ?_ _) | (with_reducible refine Below.drew ?_) | (with_reducible refine Below.alloc ?_ ?_ _) | (with_reducible refine Below.setCell ?_ ?_ _) | (simp; done) | omega | (simp; omega)))⟩
  · skip
    have hx' := hx
    unfold Z.isfx at hx'
    rw [Bool.and_eq_true] at hx'
    have HV := Lib.hid hx'.1
    have hk := hx'.2
    clear hx'
    obtain ⟨s, t, hs⟩ : ∃ s t, Hid (Z.stpQ k r o I F = (s, t)) := ⟨_, _, rfl⟩
    cases hn : (r.toList == [110, 101, 97, 114])
    · have e : Z.bndQ k r o I F = ((s, t), 0) := by unfold Z.bndQ; rw [hx, hn, hs.out]; rfl
      rw [e]; clear e hx
      go_enter Tryd.func24, Tryd.ntmps24
      go_wp2_with fail
      refine (rvalid_any _ _ _ _ _ hI hF _).mono ?_
      rintro e w1 ⟨rfl, hb1⟩
      obtain ⟨hc1, hf1, hz1, hB1⟩ := after (a := w) (B := w.heap.size) (w.heap.size + 2) hb1 (by first | (with_reducible assumption) | (simp; done) | omega | (simp; omega)) (by repeat' (first | (with_reducible exact Below.refl _ _) | (with_reducible assumption) | (with_reducible refine drewN_below ?_ _) | (with_reducible refine Below.drew ?_) | (with_reducible refine Below.alloc ?_ ?_ _) | (with_reducible refine Below.setCell ?_ ?_ _) | (simp; done) | omega | (simp; omega))) (by omega)
      rw [HV.out]
      go_wp2_with fail
      refine (rStep_any _ _ _ _ _ hI hF _).mono ?_
      rintro e w2 ⟨rfl, hb2⟩
      obtain ⟨hc2, hf2, hz2, hB2⟩ := after (a := w) (B := w.heap.size) (w.heap.size + 2) hb2 (by first | (with_reducible assumption) | (simp; done) | omega | (simp; omega)) (by repeat' (first | (with_reducible exact Below.refl _ _) | (with_reducible assumption) | (with_reducible refine drewN_below ?_ _) | (with_reducible refine Below.drew ?_) | (with_reducible refine Below.alloc ?_ ?_ _) | (with_reducible refine Below.setCell ?_ ?_ _) | (simp; done) | omega | (simp; omega))) (by omega)
      rw [hs.out]
      go_wp2
      exact bodyPost_ret (v := .tuple #[.agg #[.int .i64 s, .int .i64 t], .int .i64 0]) (by simp [results, Tryd.results24, go_sem, hc2, hc1]) rfl ⟨rfl, (by repeat' (first | (with_reducible exact Below.refl _ _) | (with_reducible assumption) | (with_reducible refine drewN_below ?_ _) | (with_reducible refine Below.drew ?_) | (with_reducible refine Below.alloc ?_ ?_ _) | (with_reducible refine Below.setCell ?_ ?_ _) | (simp; done) | omega | (simp; omega)))⟩
    · obtain ⟨a, b, hr⟩ : ∃ a b, Hid (Q.div (s, t) (2, 1) = (a, b)) := ⟨_, _, rfl⟩
      have e : Z.bndQ k r o I F = ((a, b), 0) := by unfold Z.bndQ; rw [hx, hn, hs.out]; simp only [if_true]; rw [hr.out]
      rw [e]; clear e hx
      have h21 : Hid (Q.mk 2 1 = (2, 1)) := by unfold Hid; decide
      go_enter Tryd.func24, Tryd.ntmps24
      go_wp2_with fail
      refine (rvalid_any _ _ _ _ _ hI hF _).mono ?_
      rintro e w1 ⟨rfl, hb1⟩
      obtain ⟨hc1, hf1, hz1, hB1⟩ := after (a := w) (B := w.heap.size) (w.heap.size + 2) hb1 (by first | (with_reducible assumption) | (simp; done) | omega | (simp; omega)) (by repeat' (first | (with_reducible exact Below.refl _ _) | (with_reducible assumption) | (with_reducible refine drewN_below ?_ _) | (with_reducible refine Below.drew ?_) | (with_reducible refine Below.alloc ?_ ?_ _) | (with_reducible refine Below.setCell ?_ ?_ _) | (simp; done) | omega | (simp; omega))) (by omega)
      rw [HV.out]
      go_wp2_with fail
      refine (rStep_any _ _ _ _ _ hI hF _).mono ?_
      rintro e w2 ⟨rfl, hb2⟩
      obtain ⟨hc2, hf2, hz2, hB2⟩ := after (a := w) (B := w.heap.size) (w.heap.size + 2) hb2 (by first | (with_reducible assumption) | (simp; done) | omega | (simp; omega)) (by repeat' (first | (with_reducible exact Below.refl _ _) | (with_reducible assumption) | (with_reducible refine drewN_below ?_ _) | (with_reducible refine Below.drew ?_) | (with_reducible refine Below.alloc ?_ ?_ _) | (with_reducible refine Below.setCell ?_ ?_ _) | (simp; done) | omega | (simp; omega))) (by omega)
      rw [hs.out]
      go_wp2_with fail
      refine (rwhole_any _ (by omega) _).mono ?_
      rintro e w3 ⟨rfl, hb3⟩
      obtain ⟨hc3, hf3, hz3, hB3⟩ := after (a := w) (B := w.heap.size) (w.heap.size + 2) hb3 (by first | (with_reducible assumption) | (simp; done) | omega | (simp; omega)) (by repeat' (first | (with_reducible exact Below.refl _ _) | (with_reducible assumption) | (with_reducible refine drewN_below ?_ _) | (with_reducible refine Below.drew ?_) | (with_reducible refine Below.alloc ?_ ?_ _) | (with_reducible refine Below.setCell ?_ ?_ _) | (simp; done) | omega | (simp; omega))) (by omega)
      rw [h21.out]
      go_wp2_with fail
      refine (rdiv_any _ _ _ _ _).mono ?_
      rintro e w4 ⟨rfl, hb4⟩
      obtain ⟨hc4, hf4, hz4, hB4⟩ := after (a := w) (B := w.heap.size) (w.heap.size + 2) hb4 (by first | (with_reducible assumption) | (simp; done) | omega | (simp; omega)) (by repeat' (first | (with_reducible exact Below.refl _ _) | (with_reducible assumption) | (with_reducible refine drewN_below ?_ _) | (with_reducible refine Below.drew ?_) | (with_reducible refine Below.alloc ?_ ?_ _) | (with_reducible refine Below.setCell ?_ ?_ _) | (simp; done) | omega | (simp; omega))) (by omega)
      rw [hr.out]
      go_wp2
      exact bodyPost_ret (v := .tuple #[.agg #[.int .i64 a, .int .i64 b], .int .i64 0]) (by simp [results, Tryd.results24, go_sem, hc4, hc3, hc2, hc1]) rfl ⟨rfl, (by repeat' (first | (with_reducible exact Below.refl _ _) | (with_reducible assumption) | (with_reducible refine drewN_below ?_ _) | (with_reducible refine Below.drew ?_) | (with_reducible refine Below.alloc ?_ ?_ _) | (with_reducible refine Below.setCell ?_ ?_ _) | (simp; done) | omega | (simp; omega)))⟩

set_option maxRecDepth 100000 in
set_option maxHeartbeats 8000000 in
theorem rCode_any (k r o : ByteArray) (I F : Int) (n d : Int) (hI : -9223372036854775808 ≤ I ∧ I ≤ 9223372036854775807) (hF : -9223372036854775808 ≤ F ∧ F ≤ 9223372036854775807) (w : World) :
    Calls Tryd.prog 26 #[.agg #[.string k, .int .i64 I, .int .i64 F, .string r, .string o], .agg #[.int .i64 n, .int .i64 d]] w fun e w' => e = .returned (.tuple #[.int .i64 (Z.codQ k r o I F n d).1, .int .i64 (Z.codQ k r o I F n d).2]) ∧ Below w.heap.size w w' := by
  cases hx : Z.isfx k r o I F
  · have e : Z.codQ k r o I F n d = (0, 2) := by unfold Z.codQ; rw [hx]; rfl
    rw [e]; clear e
    cases hv : Z.vld k r o I F
    · have HV := Lib.hid hv
      clear hv
      clear hx
      go_enter Tryd.func26, Tryd.ntmps26
      go_wp2_with fail
      refine (rvalid_any _ _ _ _ _ hI hF _).mono ?_
      rintro e w1 ⟨rfl, hb1⟩
      obtain ⟨hc1, hf1, hz1, hB1⟩ := after (a := w) (B := w.heap.size) (w.heap.size + 2) hb1 (by first | (with_reducible assumption) | (simp; done) | omega | (simp; omega)) (by repeat' (first | (with_reducible exact Below.refl _ _) | (with_reducible assumption) | (with_reducible refine drewN_below ?_ _) | (with_reducible refine Below.drew ?_) | (with_reducible refine Below.alloc ?_ ?_ _) | (with_reducible refine Below.setCell ?_ ?_ _) | (simp; done) | omega | (simp; omega))) (by omega)
      rw [HV.out]
      go_wp2
      go_ret2
      exact ⟨rfl, (by repeat' (first | (with_reducible exact Below.refl _ _) | (with_reducible assumption) | (with_reducible refine drewN_below ?_ _) | (with_reducible refine Below.drew ?_) | (with_reducible refine Below.alloc ?_ ?_ _) | (with_reducible refine Below.setCell ?_ ?_ _) | (simp; done) | omega | (simp; omega)))⟩
    · have hk : (k.toList == [102, 105, 120]) = false := by unfold Z.isfx at hx; rw [hv] at hx; simpa using hx
      have HV := Lib.hid hv
      clear hv
      clear hx
      go_enter Tryd.func26, Tryd.ntmps26
      go_wp2_with fail
      refine (rvalid_any _ _ _ _ _ hI hF _).mono ?_
      rintro e w1 ⟨rfl, hb1⟩
      obtain ⟨hc1, hf1, hz1, hB1⟩ := after (a := w) (B := w.heap.size) (w.heap.size + 2) hb1 (by first | (with_reducible assumption) | (simp; done) | omega | (simp; omega)) (by repeat' (first | (with_reducible exact Below.refl _ _) | (with_reducible assumption) | (with_reducible refine drewN_below ?_ _) | (with_reducible refine Below.drew ?_) | (with_reducible refine Below.alloc ?_ ?_ _) | (with_reducible refine Below.setCell ?_ ?_ _) | (simp; done) | omega | (simp; omega))) (by omega)
      rw [HV.out]
      go_wp2
      go_ret2
      exact ⟨rfl, (by repeat' (first | (with_reducible exact Below.refl _ _) | (with_reducible assumption) | (with_reducible refine drewN_below ?_ _) | (with_reducible refine Below.drew ?_) | (with_reducible refine Below.alloc ?_ ?_ _) | (with_reducible refine Below.setCell ?_ ?_ _) | (simp; done) | omega | (simp; omega)))⟩
  · skip
    have hx' := hx
    unfold Z.isfx at hx'
    rw [Bool.and_eq_true] at hx'
    have HV := Lib.hid hx'.1
    have hk := hx'.2
    clear hx'
    cases hi : Z.isQ k r o I F n d
    · have e : Z.codQ k r o I F n d = (0, 5) := by unfold Z.codQ; rw [hx, hi]; rfl
      rw [e]; clear e hx
      go_enter Tryd.func26, Tryd.ntmps26
      go_wp2_with fail
      refine (rvalid_any _ _ _ _ _ hI hF _).mono ?_
      rintro e w1 ⟨rfl, hb1⟩
      obtain ⟨hc1, hf1, hz1, hB1⟩ := after (a := w) (B := w.heap.size) (w.heap.size + 2) hb1 (by first | (with_reducible assumption) | (simp; done) | omega | (simp; omega)) (by repeat' (first | (with_reducible exact Below.refl _ _) | (with_reducible assumption) | (with_reducible refine drewN_below ?_ _) | (with_reducible refine Below.drew ?_) | (with_reducible refine Below.alloc ?_ ?_ _) | (with_reducible refine Below.setCell ?_ ?_ _) | (simp; done) | omega | (simp; omega))) (by omega)
      rw [HV.out]
      go_wp2_with fail
      refine (rIs_any _ _ _ _ _ _ _ hI hF _).mono ?_
      rintro e w2 ⟨rfl, hb2⟩
      obtain ⟨hc2, hf2, hz2, hB2⟩ := after (a := w) (B := w.heap.size) (w.heap.size + 2) hb2 (by first | (with_reducible assumption) | (simp; done) | omega | (simp; omega)) (by repeat' (first | (with_reducible exact Below.refl _ _) | (with_reducible assumption) | (with_reducible refine drewN_below ?_ _) | (with_reducible refine Below.drew ?_) | (with_reducible refine Below.alloc ?_ ?_ _) | (with_reducible refine Below.setCell ?_ ?_ _) | (simp; done) | omega | (simp; omega))) (by omega)
      rw [hi]
      go_wp2
      go_ret2
      exact ⟨rfl, (by repeat' (first | (with_reducible exact Below.refl _ _) | (with_reducible assumption) | (with_reducible refine drewN_below ?_ _) | (with_reducible refine Below.drew ?_) | (with_reducible refine Below.alloc ?_ ?_ _) | (with_reducible refine Below.setCell ?_ ?_ _) | (simp; done) | omega | (simp; omega)))⟩
    · have e : Z.codQ k r o I F n d = (Z.cod I.toNat F.toNat n d, 0) := by unfold Z.codQ; rw [hx, hi]; rfl
      rw [e]; clear e
      have hv0 : Z.vld k r o I F = true := by unfold Z.isfx at hx; rw [Bool.and_eq_true] at hx; exact hx.1
      have hq := hi
      unfold Z.isQ at hq
      rw [Bool.and_eq_true] at hq
      obtain ⟨b1, b2, b3, b4, _⟩ := (Q.isq_iff n d).1 hq.1
      clear hq hx
      obtain ⟨p1, p2, p3, p4, p5, _⟩ := vld_parts hv0
      clear hv0
      obtain ⟨i, rfl⟩ := Int.eq_ofNat_of_zero_le p1
      obtain ⟨f, rfl⟩ := Int.eq_ofNat_of_zero_le p3
      have hs : i + f ≤ 30 := by omega
      have hB := pb_of hs
      obtain ⟨_, _, B1, B3⟩ := hB
      rw [show ((i : Int)).toNat = i by omega, show ((f : Int)).toNat = f by omega]
      have x0 : 0 ≤ (2 : Int) ^ f / d := Int.ediv_nonneg (by omega) (by omega)
      have x1 : (2 : Int) ^ f / d ≤ 1073741824 := Int.le_trans (Int.ediv_le_self _ (by omega)) B3.2
      have x2 := Q.mul_bd n ((2 : Int) ^ f / d) (by omega) (by omega)
      have y1 : IntKind.i64.wrap (2 ^ f) = 2 ^ f := Z.i64_in _ (by omega)
      have y2 : IntKind.i64.wrap ((2 ^ f : Int).tdiv d) = 2 ^ f / d := by rw [Int.tdiv_eq_ediv_of_nonneg (by omega)]; exact Z.i64_in _ (by omega)
      have y2' : (2 ^ f : Int).tdiv d = 2 ^ f / d := Int.tdiv_eq_ediv_of_nonneg (by omega)
      have y3 : IntKind.i64.wrap (n * (2 ^ f / d)) = n * (2 ^ f / d) := Z.i64_in _ (by omega)
      have y4 : ¬ d = 0 := by omega
      have y5 : (d == 0) = false := by rw [beq_eq_false_iff_ne]; omega
      obtain ⟨c, hc⟩ : ∃ c : Int, n * (2 ^ f / d) = c := ⟨_, rfl⟩
      have ecod : Z.cod i f n d = if c < 0 then c + 2 * 2 ^ (i + f) else c := by unfold Z.cod; rw [hc]
      obtain ⟨g, hg⟩ : ∃ g : Int, (2 : Int) ^ f / d = g := ⟨_, rfl⟩
      rw [hg] at hc y2 y2' y3
      rw [hc] at y3
      rw [hg, hc] at x2
      obtain ⟨H, hH⟩ : ∃ H : Int, Hid ((2 : Int) ^ (i + f) = H) := ⟨_, rfl⟩
      have tw2 : ∀ w, Calls Tryd.prog 48 #[.int .i64 ((i : Int) + (f : Int) + 1)] w fun e w' => e = .returned (.int .i64 (2 * H)) ∧ w = w' := fun w => by
        have h0 := two_any (i + f + 1) (by omega) w
        rw [Int.pow_succ, hH.out, Int.mul_comm] at h0
        exact h0
      have x3 : IntKind.i64.wrap ((i : Int) + (f : Int)) = (i : Int) + (f : Int) := Z.i64_in _ (by omega)
      have x4 : IntKind.i64.wrap ((i : Int) + (f : Int) + 1) = (i : Int) + (f : Int) + 1 := Z.i64_in _ (by omega)
      rw [hH.out] at ecod B1
      have y6 : wrap64 g = g := by unfold wrap64; omega
      have y7 : wrap64 (n * g) = c := by rw [hc]; unfold wrap64; omega
      have y8 : c < 0 → wrap64 (c + 2 * H) = c + 2 * H := fun h => by unfold wrap64; omega
      clear hg x0 x1
      by_cases h0 : c < 0
      · rw [if_pos h0] at ecod
        rw [ecod]; clear ecod
        have g0 : decide (c < 0) = true := decide_eq_true h0
        have y9 := y8 h0
        clear y8
        go_enter Tryd.func26, Tryd.ntmps26
        go_wp2_with fail
        refine (rvalid_any _ _ _ _ _ hI hF _).mono ?_
        rintro e w1 ⟨rfl, hb1⟩
        obtain ⟨hc1, hf1, hz1, hB1⟩ := after (a := w) (B := w.heap.size) (w.heap.size + 2) hb1 (by first | (with_reducible assumption) | (simp; done) | omega | (simp; omega)) (by repeat' (first | (with_reducible exact Below.refl _ _) | (with_reducible assumption) | (with_reducible refine drewN_below ?_ _) | (with_reducible refine Below.drew ?_) | (with_reducible refine Below.alloc ?_ ?_ _) | (with_reducible refine Below.setCell ?_ ?_ _) | (simp; done) | omega | (simp; omega))) (by omega)
        rw [HV.out]
        go_wp2_with fail
        refine (rIs_any _ _ _ _ _ _ _ hI hF _).mono ?_
        rintro e w2 ⟨rfl, hb2⟩
        obtain ⟨hc2, hf2, hz2, hB2⟩ := after (a := w) (B := w.heap.size) (w.heap.size + 2) hb2 (by first | (with_reducible assumption) | (simp; done) | omega | (simp; omega)) (by repeat' (first | (with_reducible exact Below.refl _ _) | (with_reducible assumption) | (with_reducible refine drewN_below ?_ _) | (with_reducible refine Below.drew ?_) | (with_reducible refine Below.alloc ?_ ?_ _) | (with_reducible refine Below.setCell ?_ ?_ _) | (simp; done) | omega | (simp; omega))) (by omega)
        rw [hi]
        go_wp2_with fail
        go_quiet (first | (go_at_call 48; refine Calls.quiet_of_same (two_same f (by omega) _)))
        go_wp2_with fail
        refine (tw2 _).mono ?_
        rintro e wa ⟨rfl, rfl⟩
        go_wp2
        go_ret2
        exact ⟨rfl, (by repeat' (first | (with_reducible exact Below.refl _ _) | (with_reducible assumption) | (with_reducible refine drewN_below ?_ _) | (with_reducible refine Below.drew ?_) | (with_reducible refine Below.alloc ?_ ?_ _) | (with_reducible refine Below.setCell ?_ ?_ _) | (simp; done) | omega | (simp; omega)))⟩
      · rw [if_neg h0] at ecod
        rw [ecod]; clear ecod y8
        have g0 : decide (c < 0) = false := decide_eq_false h0
        go_enter Tryd.func26, Tryd.ntmps26
        go_wp2_with fail
        refine (rvalid_any _ _ _ _ _ hI hF _).mono ?_
        rintro e w1 ⟨rfl, hb1⟩
        obtain ⟨hc1, hf1, hz1, hB1⟩ := after (a := w) (B := w.heap.size) (w.heap.size + 2) hb1 (by first | (with_reducible assumption) | (simp; done) | omega | (simp; omega)) (by repeat' (first | (with_reducible exact Below.refl _ _) | (with_reducible assumption) | (with_reducible refine drewN_below ?_ _) | (with_reducible refine Below.drew ?_) | (with_reducible refine Below.alloc ?_ ?_ _) | (with_reducible refine Below.setCell ?_ ?_ _) | (simp; done) | omega | (simp; omega))) (by omega)
        rw [HV.out]
        go_wp2_with fail
        refine (rIs_any _ _ _ _ _ _ _ hI hF _).mono ?_
        rintro e w2 ⟨rfl, hb2⟩
        obtain ⟨hc2, hf2, hz2, hB2⟩ := after (a := w) (B := w.heap.size) (w.heap.size + 2) hb2 (by first | (with_reducible assumption) | (simp; done) | omega | (simp; omega)) (by repeat' (first | (with_reducible exact Below.refl _ _) | (with_reducible assumption) | (with_reducible refine drewN_below ?_ _) | (with_reducible refine Below.drew ?_) | (with_reducible refine Below.alloc ?_ ?_ _) | (with_reducible refine Below.setCell ?_ ?_ _) | (simp; done) | omega | (simp; omega))) (by omega)
        rw [hi]
        go_wp2_with fail
        go_quiet (first | (go_at_call 48; refine Calls.quiet_of_same (two_same f (by omega) _)))
        go_wp2
        go_ret2
        exact ⟨rfl, (by repeat' (first | (with_reducible exact Below.refl _ _) | (with_reducible assumption) | (with_reducible refine drewN_below ?_ _) | (with_reducible refine Below.drew ?_) | (with_reducible refine Below.alloc ?_ ?_ _) | (with_reducible refine Below.setCell ?_ ?_ _) | (simp; done) | omega | (simp; omega)))⟩

set_option maxRecDepth 100000 in
set_option maxHeartbeats 8000000 in
theorem rValue_any (k r o : ByteArray) (I F : Int) (c : Int) (hI : -9223372036854775808 ≤ I ∧ I ≤ 9223372036854775807) (hF : -9223372036854775808 ≤ F ∧ F ≤ 9223372036854775807) (hc : -9223372036854775808 ≤ c ∧ c ≤ 9223372036854775807) (w : World) :
    Calls Tryd.prog 28 #[.agg #[.string k, .int .i64 I, .int .i64 F, .string r, .string o], .int .i64 c] w fun e w' => e = .returned (.tuple #[.agg #[.int .i64 (Z.valQ k r o I F c).1.1, .int .i64 (Z.valQ k r o I F c).1.2], .int .i64 (Z.valQ k r o I F c).2]) ∧ Below w.heap.size w w' := by
  cases hx : Z.isfx k r o I F
  · have e : Z.valQ k r o I F c = ((0, 0), 2) := by unfold Z.valQ; rw [hx, if_neg (by simp)]
    rw [e]; clear e
    cases hv : Z.vld k r o I F
    · have HV := Lib.hid hv
      clear hv
      clear hx
      go_enter Tryd.func28, Tryd.ntmps28
      go_wp2_with fail
      refine (rvalid_any _ _ _ _ _ hI hF _).mono ?_
      rintro e w1 ⟨rfl, hb1⟩
      obtain ⟨hc1, hf1, hz1, hB1⟩ := after (a := w) (B := w.heap.size) (w.heap.size + 2) hb1 (by first | (with_reducible assumption) | (simp; done) | omega | (simp; omega)) (by repeat' (first | (with_reducible exact Below.refl _ _) | (with_reducible assumption) | (with_reducible refine drewN_below ?_ _) | (with_reducible refine Below.drew ?_) | (with_reducible refine Below.alloc ?_ ?_ _) | (with_reducible refine Below.setCell ?_ ?_ _) | (simp; done) | omega | (simp; omega))) (by omega)
      rw [HV.out]
      go_wp2_with fail
      refine (rnone_any _).mono ?_
      rintro e w2 ⟨rfl, hb2⟩
      obtain ⟨hc2, hf2, hz2, hB2⟩ := after (a := w) (B := w.heap.size) (w.heap.size + 2) hb2 (by first | (with_reducible assumption) | (simp; done) | omega | (simp; omega)) (by repeat' (first | (with_reducible exact Below.refl _ _) | (with_reducible assumption) | (with_reducible refine drewN_below ?_ _) | (with_reducible refine Below.drew ?_) | (with_reducible refine Below.alloc ?_ ?_ _) | (with_reducible refine Below.setCell ?_ ?_ _) | (simp; done) | omega | (simp; omega))) (by omega)
      go_wp2
      exact bodyPost_ret (v := .tuple #[.agg #[.int .i64 0, .int .i64 0], .int .i64 2]) (by simp [results, Tryd.results28, go_sem, hc2, hc1]) rfl ⟨rfl, (by repeat' (first | (with_reducible exact Below.refl _ _) | (with_reducible assumption) | (with_reducible refine drewN_below ?_ _) | (with_reducible refine Below.drew ?_) | (with_reducible refine Below.alloc ?_ ?_ _) | (with_reducible refine Below.setCell ?_ ?_ _) | (simp; done) | omega | (simp; omega)))⟩
    · have hk : (k.toList == [102, 105, 120]) = false := by unfold Z.isfx at hx; rw [hv] at hx; simpa using hx
      have HV := Lib.hid hv
      clear hv
      clear hx
      go_enter Tryd.func28, Tryd.ntmps28
      go_wp2_with fail
      refine (rvalid_any _ _ _ _ _ hI hF _).mono ?_
      rintro e w1 ⟨rfl, hb1⟩
      obtain ⟨hc1, hf1, hz1, hB1⟩ := after (a := w) (B := w.heap.size) (w.heap.size + 2) hb1 (by first | (with_reducible assumption) | (simp; done) | omega | (simp; omega)) (by repeat' (first | (with_reducible exact Below.refl _ _) | (with_reducible assumption) | (with_reducible refine drewN_below ?_ _) | (with_reducible refine Below.drew ?_) | (with_reducible refine Below.alloc ?_ ?_ _) | (with_reducible refine Below.setCell ?_ ?_ _) | (simp; done) | omega | (simp; omega))) (by omega)
      rw [HV.out]
      go_wp2_with fail
      refine (rnone_any _).mono ?_
      rintro e w2 ⟨rfl, hb2⟩
      obtain ⟨hc2, hf2, hz2, hB2⟩ := after (a := w) (B := w.heap.size) (w.heap.size + 2) hb2 (by first | (with_reducible assumption) | (simp; done) | omega | (simp; omega)) (by repeat' (first | (with_reducible exact Below.refl _ _) | (with_reducible assumption) | (with_reducible refine drewN_below ?_ _) | (with_reducible refine Below.drew ?_) | (with_reducible refine Below.alloc ?_ ?_ _) | (with_reducible refine Below.setCell ?_ ?_ _) | (simp; done) | omega | (simp; omega))) (by omega)
      go_wp2
      exact bodyPost_ret (v := .tuple #[.agg #[.int .i64 0, .int .i64 0], .int .i64 2]) (by simp [results, Tryd.results28, go_sem, hc2, hc1]) rfl ⟨rfl, (by repeat' (first | (with_reducible exact Below.refl _ _) | (with_reducible assumption) | (with_reducible refine drewN_below ?_ _) | (with_reducible refine Below.drew ?_) | (with_reducible refine Below.alloc ?_ ?_ _) | (with_reducible refine Below.setCell ?_ ?_ _) | (simp; done) | omega | (simp; omega)))⟩
  · skip
    have hx' := hx
    unfold Z.isfx at hx'
    rw [Bool.and_eq_true] at hx'
    have HV := Lib.hid hx'.1
    have hk := hx'.2
    clear hx'
    obtain ⟨p1, p2, p3, p4, p5, _⟩ := vld_parts HV.out
    obtain ⟨i, rfl⟩ := Int.eq_ofNat_of_zero_le p1
    obtain ⟨f, rfl⟩ := Int.eq_ofNat_of_zero_le p3
    have hs : i + f ≤ 30 := by omega
    have hB := pb_of hs
    obtain ⟨_, _, B1, B3⟩ := hB
    obtain ⟨H, hH⟩ : ∃ H : Int, Hid ((2 : Int) ^ (i + f) = H) := ⟨_, rfl⟩
    have ev : Z.valQ k r o (i : Int) (f : Int) c = if 0 ≤ c ∧ c < 2 * H then (Q.mk (if H ≤ c then c - 2 * H else c) (2 ^ f), 0) else ((0, 0), 2) := by
      unfold Z.valQ
      rw [hx, show ((i : Int)).toNat = i by omega, show ((f : Int)).toNat = f by omega, hH.out]
      simp only [true_and]
    rw [hH.out] at B1
    rw [ev]; clear ev hx
    have x3 : IntKind.i64.wrap ((i : Int) + (f : Int)) = (i : Int) + (f : Int) := Z.i64_in _ (by omega)
    have x4 : IntKind.i64.wrap ((i : Int) + (f : Int) + 1) = (i : Int) + (f : Int) + 1 := Z.i64_in _ (by omega)
    have tw2 : ∀ w, Calls Tryd.prog 48 #[.int .i64 ((i : Int) + (f : Int) + 1)] w fun e w' => e = .returned (.int .i64 (2 * H)) ∧ w = w' := fun w => by
      have h0 := two_any (i + f + 1) (by omega) w
      rw [Int.pow_succ, hH.out, Int.mul_comm] at h0
      exact h0
    have tw1 : ∀ w, Calls Tryd.prog 48 #[.int .i64 ((i : Int) + (f : Int))] w fun e w' => e = .returned (.int .i64 H) ∧ w = w' := fun w => by
      have h0 := two_any (i + f) (by omega) w
      rw [hH.out] at h0
      exact h0
    by_cases h1 : c < 0
    · rw [if_neg (by omega)]
      have g0 : decide (c < 0) = true := decide_eq_true h1
      go_enter Tryd.func28, Tryd.ntmps28
      go_wp2_with fail
      refine (rvalid_any _ _ _ _ _ hI hF _).mono ?_
      rintro e w1 ⟨rfl, hb1⟩
      obtain ⟨hc1, hf1, hz1, hB1⟩ := after (a := w) (B := w.heap.size) (w.heap.size + 2) hb1 (by first | (with_reducible assumption) | (simp; done) | omega | (simp; omega)) (by repeat' (first | (with_reducible exact Below.refl _ _) | (with_reducible assumption) | (with_reducible refine drewN_below ?_ _) | (with_reducible refine Below.drew ?_) | (with_reducible refine Below.alloc ?_ ?_ _) | (with_reducible refine Below.setCell ?_ ?_ _) | (simp; done) | omega | (simp; omega))) (by omega)
      rw [HV.out]
      go_wp2_with fail
      refine (rnone_any _).mono ?_
      rintro e w2 ⟨rfl, hb2⟩
      obtain ⟨hc2, hf2, hz2, hB2⟩ := after (a := w) (B := w.heap.size) (w.heap.size + 2) hb2 (by first | (with_reducible assumption) | (simp; done) | omega | (simp; omega)) (by repeat' (first | (with_reducible exact Below.refl _ _) | (with_reducible assumption) | (with_reducible refine drewN_below ?_ _) | (with_reducible refine Below.drew ?_) | (with_reducible refine Below.alloc ?_ ?_ _) | (with_reducible refine Below.setCell ?_ ?_ _) | (simp; done) | omega | (simp; omega))) (by omega)
      go_wp2
      exact bodyPost_ret (v := .tuple #[.agg #[.int .i64 0, .int .i64 0], .int .i64 2]) (by simp [results, Tryd.results28, go_sem, hc2, hc1]) rfl ⟨rfl, (by repeat' (first | (with_reducible exact Below.refl _ _) | (with_reducible assumption) | (with_reducible refine drewN_below ?_ _) | (with_reducible refine Below.drew ?_) | (with_reducible refine Below.alloc ?_ ?_ _) | (with_reducible refine Below.setCell ?_ ?_ _) | (simp; done) | omega | (simp; omega)))⟩
    · have g0 : decide (c < 0) = false := decide_eq_false h1
      by_cases h2 : 2 * H ≤ c
      · rw [if_neg (by omega)]
        have g1 : decide (2 * H ≤ c) = true := decide_eq_true h2
        go_enter Tryd.func28, Tryd.ntmps28
        go_wp2_with fail
        refine (rvalid_any _ _ _ _ _ hI hF _).mono ?_
        rintro e w1 ⟨rfl, hb1⟩
        obtain ⟨hc1, hf1, hz1, hB1⟩ := after (a := w) (B := w.heap.size) (w.heap.size + 2) hb1 (by first | (with_reducible assumption) | (simp; done) | omega | (simp; omega)) (by repeat' (first | (with_reducible exact Below.refl _ _) | (with_reducible assumption) | (with_reducible refine drewN_below ?_ _) | (with_reducible refine Below.drew ?_) | (with_reducible refine Below.alloc ?_ ?_ _) | (with_reducible refine Below.setCell ?_ ?_ _) | (simp; done) | omega | (simp; omega))) (by omega)
        rw [HV.out]
        go_wp2_with fail
        refine (tw2 _).mono ?_
        rintro e wa ⟨rfl, rfl⟩
        go_wp2_with fail
        refine (rnone_any _).mono ?_
        rintro e w2 ⟨rfl, hb2⟩
        obtain ⟨hc2, hf2, hz2, hB2⟩ := after (a := w) (B := w.heap.size) (w.heap.size + 2) hb2 (by first | (with_reducible assumption) | (simp; done) | omega | (simp; omega)) (by repeat' (first | (with_reducible exact Below.refl _ _) | (with_reducible assumption) | (with_reducible refine drewN_below ?_ _) | (with_reducible refine Below.drew ?_) | (with_reducible refine Below.alloc ?_ ?_ _) | (with_reducible refine Below.setCell ?_ ?_ _) | (simp; done) | omega | (simp; omega))) (by omega)
        go_wp2
        exact bodyPost_ret (v := .tuple #[.agg #[.int .i64 0, .int .i64 0], .int .i64 2]) (by simp [results, Tryd.results28, go_sem, hc2, hc1]) rfl ⟨rfl, (by repeat' (first | (with_reducible exact Below.refl _ _) | (with_reducible assumption) | (with_reducible refine drewN_below ?_ _) | (with_reducible refine Below.drew ?_) | (with_reducible refine Below.alloc ?_ ?_ _) | (with_reducible refine Below.setCell ?_ ?_ _) | (simp; done) | omega | (simp; omega)))⟩
      · rw [if_pos (by omega)]
        have g1 : decide (2 * H ≤ c) = false := decide_eq_false h2
        by_cases h3 : H ≤ c
        · rw [if_pos h3]
          have g2 : decide (H ≤ c) = true := decide_eq_true h3
          have y5 : IntKind.i64.wrap (c - 2 * H) = c - 2 * H := Z.i64_in _ (by omega)
          obtain ⟨a, b, hr⟩ : ∃ a b, Hid (Q.mk (c - 2 * H) (2 ^ f) = (a, b)) := ⟨_, _, rfl⟩
          rw [hr.out]
          go_enter Tryd.func28, Tryd.ntmps28
          go_wp2_with fail
          refine (rvalid_any _ _ _ _ _ hI hF _).mono ?_
          rintro e w1 ⟨rfl, hb1⟩
          obtain ⟨hc1, hf1, hz1, hB1⟩ := after (a := w) (B := w.heap.size) (w.heap.size + 2) hb1 (by first | (with_reducible assumption) | (simp; done) | omega | (simp; omega)) (by repeat' (first | (with_reducible exact Below.refl _ _) | (with_reducible assumption) | (with_reducible refine drewN_below ?_ _) | (with_reducible refine Below.drew ?_) | (with_reducible refine Below.alloc ?_ ?_ _) | (with_reducible refine Below.setCell ?_ ?_ _) | (simp; done) | omega | (simp; omega))) (by omega)
          rw [HV.out]
          go_wp2_with fail
          refine (tw2 _).mono ?_
          rintro e wa ⟨rfl, rfl⟩
          go_wp2_with fail
          refine (tw1 _).mono ?_
          rintro e wa ⟨rfl, rfl⟩
          go_wp2_with fail
          refine (tw2 _).mono ?_
          rintro e wa ⟨rfl, rfl⟩
          go_wp2_with fail
          refine (two_any f (by omega) _).mono ?_
          rintro e wa ⟨rfl, rfl⟩
          go_wp2_with fail
          refine (rmake_all _ _ (by omega) (by omega) _).mono ?_
          rintro e w2 ⟨rfl, hb2⟩
          obtain ⟨hc2, hf2, hz2, hB2⟩ := after (a := w) (B := w.heap.size) (w.heap.size + 2) hb2 (by first | (with_reducible assumption) | (simp; done) | omega | (simp; omega)) (by repeat' (first | (with_reducible exact Below.refl _ _) | (with_reducible assumption) | (with_reducible refine drewN_below ?_ _) | (with_reducible refine Below.drew ?_) | (with_reducible refine Below.alloc ?_ ?_ _) | (with_reducible refine Below.setCell ?_ ?_ _) | (simp; done) | omega | (simp; omega))) (by omega)
          rw [hr.out]
          go_wp2
          exact bodyPost_ret (v := .tuple #[.agg #[.int .i64 a, .int .i64 b], .int .i64 0]) (by simp [results, Tryd.results28, go_sem, hc2, hc1]) rfl ⟨rfl, (by repeat' (first | (with_reducible exact Below.refl _ _) | (with_reducible assumption) | (with_reducible refine drewN_below ?_ _) | (with_reducible refine Below.drew ?_) | (with_reducible refine Below.alloc ?_ ?_ _) | (with_reducible refine Below.setCell ?_ ?_ _) | (simp; done) | omega | (simp; omega)))⟩
        · rw [if_neg h3]
          have g2 : decide (H ≤ c) = false := decide_eq_false h3
          obtain ⟨a, b, hr⟩ : ∃ a b, Hid (Q.mk c (2 ^ f) = (a, b)) := ⟨_, _, rfl⟩
          rw [hr.out]
          go_enter Tryd.func28, Tryd.ntmps28
          go_wp2_with fail
          refine (rvalid_any _ _ _ _ _ hI hF _).mono ?_
          rintro e w1 ⟨rfl, hb1⟩
          obtain ⟨hc1, hf1, hz1, hB1⟩ := after (a := w) (B := w.heap.size) (w.heap.size + 2) hb1 (by first | (with_reducible assumption) | (simp; done) | omega | (simp; omega)) (by repeat' (first | (with_reducible exact Below.refl _ _) | (with_reducible assumption) | (with_reducible refine drewN_below ?_ _) | (with_reducible refine Below.drew ?_) | (with_reducible refine Below.alloc ?_ ?_ _) | (with_reducible refine Below.setCell ?_ ?_ _) | (simp; done) | omega | (simp; omega))) (by omega)
          rw [HV.out]
          go_wp2_with fail
          refine (tw2 _).mono ?_
          rintro e wa ⟨rfl, rfl⟩
          go_wp2_with fail
          refine (tw1 _).mono ?_
          rintro e wa ⟨rfl, rfl⟩
          go_wp2_with fail
          refine (two_any f (by omega) _).mono ?_
          rintro e wa ⟨rfl, rfl⟩
          go_wp2_with fail
          refine (rmake_all _ _ (by omega) (by omega) _).mono ?_
          rintro e w2 ⟨rfl, hb2⟩
          obtain ⟨hc2, hf2, hz2, hB2⟩ := after (a := w) (B := w.heap.size) (w.heap.size + 2) hb2 (by first | (with_reducible assumption) | (simp; done) | omega | (simp; omega)) (by repeat' (first | (with_reducible exact Below.refl _ _) | (with_reducible assumption) | (with_reducible refine drewN_below ?_ _) | (with_reducible refine Below.drew ?_) | (with_reducible refine Below.alloc ?_ ?_ _) | (with_reducible refine Below.setCell ?_ ?_ _) | (simp; done) | omega | (simp; omega))) (by omega)
          rw [hr.out]
          go_wp2
          exact bodyPost_ret (v := .tuple #[.agg #[.int .i64 a, .int .i64 b], .int .i64 0]) (by simp [results, Tryd.results28, go_sem, hc2, hc1]) rfl ⟨rfl, (by repeat' (first | (with_reducible exact Below.refl _ _) | (with_reducible assumption) | (with_reducible refine drewN_below ?_ _) | (with_reducible refine Below.drew ?_) | (with_reducible refine Below.alloc ?_ ?_ _) | (with_reducible refine Below.setCell ?_ ?_ _) | (simp; done) | omega | (simp; omega)))⟩

end Go.Proofs.YtmadhpbdianddaaDoor
