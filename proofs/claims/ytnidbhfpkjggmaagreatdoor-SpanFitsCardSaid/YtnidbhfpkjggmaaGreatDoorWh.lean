import Derived.Test.YtnidbhfpkjggmaaGreatDoorWg
import Derived.Test.YtnidbhfpkjggmaaGreatDoorVh
import Derived.StillTailTactics
import Derived.Deep.DeepCutAuto
set_option linter.all false
/-
  The specification's ends, Bound, Code, Value at any format: what the calls give.
-/
namespace Go.Proofs.YtnidbhfpkjggmaaGreatDoor
open Go.RowKit
set_option maxRecDepth 100000 in
set_option maxHeartbeats 1000000 in
theorem rleast_none (k r o : ByteArray) (I F : Int) (hI : -9223372036854775808 ≤ I ∧ I ≤ 9223372036854775807) (hF : -9223372036854775808 ≤ F ∧ F ≤ 9223372036854775807) (hv : Hid (Z.vld k r o I F = false)) (w : World) :
    Calls Tryz.prog 78 #[.agg #[.string k, .int .i64 I, .int .i64 F, .string r, .string o]] w fun e w' => e = .returned (.agg #[.int .i64 0, .int .i64 0]) ∧ Below w.heap.size w w' := by
  go_enter Tryz.func78, Tryz.ntmps78
  go_wp2_with fail
  refine (rvalid_any _ _ _ _ _ hI hF _).mono ?_
  rintro e w1 ⟨rfl, hb1⟩
  obtain ⟨hc1, hf1, hz1, hB1⟩ := after (a := w) (B := w.heap.size) (w.heap.size + 2) hb1 (by first | (with_reducible assumption) | (simp; done) | omega | (simp; omega)) bl (by omega)
  rw [hv.out]
  go_wp2_with fail
  refine (rnone_any _).mono ?_
  rintro e w2 ⟨rfl, hb2⟩
  obtain ⟨hc2, hf2, hz2, hB2⟩ := after (a := w) (B := w.heap.size) (w.heap.size + 2) hb2 (by first | (with_reducible assumption) | (simp; done) | omega | (simp; omega)) bl (by omega)
  go_wp2
  exact bodyPost_ret (v := .agg #[.int .i64 0, .int .i64 0]) (by simp [results, Tryz.results78, go_sem, hc2, hc1]) rfl ⟨rfl, bl⟩

set_option maxRecDepth 100000 in
set_option maxHeartbeats 4000000 in
theorem rleast_any (k r o : ByteArray) (I F : Nat) (h : I + F ≤ 30) (hv : Hid (Z.vld k r o (I : Int) (F : Int) = true)) (w : World) :
    Calls Tryz.prog 78 #[.agg #[.string k, .int .i64 (I : Int), .int .i64 (F : Int), .string r, .string o]] w fun e w' => e = .returned (.agg #[.int .i64 (Z.lst (k.toList == [102, 105, 120]) I F).1, .int .i64 (Z.lst (k.toList == [102, 105, 120]) I F).2]) ∧ Below w.heap.size w w' := by
  have hB := pb_of h
  have B1 := hB.h
  have B2 := hB.i
  have B3 := top_bd h
  have B4 := hB.f
  clear hB
  have y0 : IntKind.i64.wrap ((I : Int) + (F : Int)) = (I : Int) + (F : Int) := Z.i64_in _ (by omega)
  obtain ⟨H, hH⟩ : ∃ H : Int, Hid ((2 : Int) ^ (I + F) = H) := ⟨_, rfl⟩
  rw [hH.out] at B1
  have y1 : IntKind.i64.wrap (-H) = -H := Z.i64_in _ (by omega)
  have y2 : IntKind.i64.wrap (H - 1) = H - 1 := Z.i64_in _ (by omega)
  have y3 : IntKind.i64.wrap (1 - 2 ^ I) = 1 - 2 ^ I := Z.i64_in _ (by omega)
  have y4 : IntKind.i64.wrap (2 ^ I - 1) = 2 ^ I - 1 := Z.i64_in _ (by omega)
  have tw1 : ∀ w, Calls Tryz.prog 81 #[.int .i64 ((I : Int) + (F : Int))] w fun e w' => e = .returned (.int .i64 H) ∧ w' = w := fun w => by
    have h0 := two_same (I + F) (by omega) w
    rw [hH.out] at h0
    exact h0
  cases hk : (k.toList == [102, 105, 120])
  · have e : Z.lst false I F = Q.mk (-((2 ^ I - 1) * 2 ^ F)) 1 := rfl
    rw [e]; clear e
    obtain ⟨a, b, hr⟩ : ∃ a b, Hid (Q.mk (-((2 ^ I - 1) * 2 ^ F)) 1 = (a, b)) := ⟨_, _, rfl⟩
    rw [hr.out]
    have hp : Hid (Z.pw (1 - 2 ^ I) (F : Int) = (a, b)) := by
      unfold Hid Z.pw; rw [if_neg (by omega), show ((F : Int)).toNat = F by omega]; rw [show (1 - 2 ^ I : Int) = -(2 ^ I - 1) by omega, Int.neg_mul]; exact hr.out
    have hb9 : Hid (-4611686018427387904 ≤ (1 - 2 ^ I : Int) * 2 ^ ((F : Int)).toNat ∧ (1 - 2 ^ I : Int) * 2 ^ ((F : Int)).toNat ≤ 4611686018427387904) := by
      unfold Hid; rw [show ((F : Int)).toNat = F by omega]; rw [show (1 - 2 ^ I : Int) = -(2 ^ I - 1) by omega, Int.neg_mul]; omega
    go_enter Tryz.func78, Tryz.ntmps78
    go_wp2_with fail
    refine (rvalid_any _ _ _ _ _ (by omega) (by omega) _).mono ?_
    rintro e w1 ⟨rfl, hb1⟩
    obtain ⟨hc1, hf1, hz1, hB1⟩ := after (a := w) (B := w.heap.size) (w.heap.size + 2) hb1 (by first | (with_reducible assumption) | (simp; done) | omega | (simp; omega)) bl (by omega)
    rw [hv.out]
    go_wp2_with fail
    refine wp_region_still_tail 6 (by kernel_rfl) (by kernel_rfl) ?_
    simp only [List.take_succ_cons, List.take_zero, List.drop_succ_cons, List.drop_zero]
    still_step
    still_step
    still_call (two_same I (by omega) _)
    still_step
    still_step
    still_step
    refine wpStill_nil ?_
    change wpList _ _ _ _ _ w1.drew
    go_wp2_with fail
    refine (rscaled_any _ _ (by omega) hb9.out _).mono ?_
    rintro e w2 ⟨rfl, hb2⟩
    obtain ⟨hc2, hf2, hz2, hB2⟩ := after (a := w) (B := w.heap.size) (w.heap.size + 2) hb2 (by first | (with_reducible assumption) | (simp; done) | omega | (simp; omega)) bl (by omega)
    rw [hp.out]
    go_wp2
    exact bodyPost_ret (v := .agg #[.int .i64 a, .int .i64 b]) (by simp [results, Tryz.results78, go_sem, hc2, hc1]) rfl ⟨rfl, bl⟩
  · have e : Z.lst true I F = Q.mk (-H) (2 ^ F) := by rw [← hH.out]; rfl
    rw [e]; clear e
    obtain ⟨a, b, hr⟩ : ∃ a b, Hid (Q.mk (-H) (2 ^ F) = (a, b)) := ⟨_, _, rfl⟩
    rw [hr.out]
    go_enter Tryz.func78, Tryz.ntmps78
    go_wp2_with fail
    refine (rvalid_any _ _ _ _ _ (by omega) (by omega) _).mono ?_
    rintro e w1 ⟨rfl, hb1⟩
    obtain ⟨hc1, hf1, hz1, hB1⟩ := after (a := w) (B := w.heap.size) (w.heap.size + 2) hb1 (by first | (with_reducible assumption) | (simp; done) | omega | (simp; omega)) bl (by omega)
    rw [hv.out]
    go_wp2_with fail
    refine wp_region_still_tail 10 (by kernel_rfl) (by kernel_rfl) ?_
    simp only [List.take_succ_cons, List.take_zero, List.drop_succ_cons, List.drop_zero]
    still_step
    still_step
    still_step
    still_step
    still_step
    still_call (tw1 _)
    still_step
    still_step
    still_step
    still_call (two_same F (by omega) _)
    refine wpStill_nil ?_
    change wpList _ _ _ _ _ w1.drew
    go_wp2_with fail
    refine (rmake_all _ _ (by omega) (by omega) _).mono ?_
    rintro e w2 ⟨rfl, hb2⟩
    obtain ⟨hc2, hf2, hz2, hB2⟩ := after (a := w) (B := w.heap.size) (w.heap.size + 2) hb2 (by first | (with_reducible assumption) | (simp; done) | omega | (simp; omega)) bl (by omega)
    rw [hr.out]
    go_wp2
    exact bodyPost_ret (v := .agg #[.int .i64 a, .int .i64 b]) (by simp [results, Tryz.results78, go_sem, hc2, hc1]) rfl ⟨rfl, bl⟩

set_option maxRecDepth 100000 in
set_option maxHeartbeats 1000000 in
theorem rgreatest_none (k r o : ByteArray) (I F : Int) (hI : -9223372036854775808 ≤ I ∧ I ≤ 9223372036854775807) (hF : -9223372036854775808 ≤ F ∧ F ≤ 9223372036854775807) (hv : Hid (Z.vld k r o I F = false)) (w : World) :
    Calls Tryz.prog 79 #[.agg #[.string k, .int .i64 I, .int .i64 F, .string r, .string o]] w fun e w' => e = .returned (.agg #[.int .i64 0, .int .i64 0]) ∧ Below w.heap.size w w' := by
  go_enter Tryz.func79, Tryz.ntmps79
  go_wp2_with fail
  refine (rvalid_any _ _ _ _ _ hI hF _).mono ?_
  rintro e w1 ⟨rfl, hb1⟩
  obtain ⟨hc1, hf1, hz1, hB1⟩ := after (a := w) (B := w.heap.size) (w.heap.size + 2) hb1 (by first | (with_reducible assumption) | (simp; done) | omega | (simp; omega)) bl (by omega)
  rw [hv.out]
  go_wp2_with fail
  refine (rnone_any _).mono ?_
  rintro e w2 ⟨rfl, hb2⟩
  obtain ⟨hc2, hf2, hz2, hB2⟩ := after (a := w) (B := w.heap.size) (w.heap.size + 2) hb2 (by first | (with_reducible assumption) | (simp; done) | omega | (simp; omega)) bl (by omega)
  go_wp2
  exact bodyPost_ret (v := .agg #[.int .i64 0, .int .i64 0]) (by simp [results, Tryz.results79, go_sem, hc2, hc1]) rfl ⟨rfl, bl⟩

set_option maxRecDepth 100000 in
set_option maxHeartbeats 4000000 in
theorem rgreatest_any (k r o : ByteArray) (I F : Nat) (h : I + F ≤ 30) (hv : Hid (Z.vld k r o (I : Int) (F : Int) = true)) (w : World) :
    Calls Tryz.prog 79 #[.agg #[.string k, .int .i64 (I : Int), .int .i64 (F : Int), .string r, .string o]] w fun e w' => e = .returned (.agg #[.int .i64 (Z.grt (k.toList == [102, 105, 120]) I F).1, .int .i64 (Z.grt (k.toList == [102, 105, 120]) I F).2]) ∧ Below w.heap.size w w' := by
  have hB := pb_of h
  have B1 := hB.h
  have B2 := hB.i
  have B3 := top_bd h
  have B4 := hB.f
  clear hB
  have y0 : IntKind.i64.wrap ((I : Int) + (F : Int)) = (I : Int) + (F : Int) := Z.i64_in _ (by omega)
  obtain ⟨H, hH⟩ : ∃ H : Int, Hid ((2 : Int) ^ (I + F) = H) := ⟨_, rfl⟩
  rw [hH.out] at B1
  have y1 : IntKind.i64.wrap (-H) = -H := Z.i64_in _ (by omega)
  have y2 : IntKind.i64.wrap (H - 1) = H - 1 := Z.i64_in _ (by omega)
  have y3 : IntKind.i64.wrap (1 - 2 ^ I) = 1 - 2 ^ I := Z.i64_in _ (by omega)
  have y4 : IntKind.i64.wrap (2 ^ I - 1) = 2 ^ I - 1 := Z.i64_in _ (by omega)
  have tw1 : ∀ w, Calls Tryz.prog 81 #[.int .i64 ((I : Int) + (F : Int))] w fun e w' => e = .returned (.int .i64 H) ∧ w' = w := fun w => by
    have h0 := two_same (I + F) (by omega) w
    rw [hH.out] at h0
    exact h0
  cases hk : (k.toList == [102, 105, 120])
  · have e : Z.grt false I F = Q.mk ((2 ^ I - 1) * 2 ^ F) 1 := rfl
    rw [e]; clear e
    obtain ⟨a, b, hr⟩ : ∃ a b, Hid (Q.mk ((2 ^ I - 1) * 2 ^ F) 1 = (a, b)) := ⟨_, _, rfl⟩
    rw [hr.out]
    have hp : Hid (Z.pw (2 ^ I - 1) (F : Int) = (a, b)) := by
      unfold Hid Z.pw; rw [if_neg (by omega), show ((F : Int)).toNat = F by omega]; exact hr.out
    have hb9 : Hid (-4611686018427387904 ≤ (2 ^ I - 1 : Int) * 2 ^ ((F : Int)).toNat ∧ (2 ^ I - 1 : Int) * 2 ^ ((F : Int)).toNat ≤ 4611686018427387904) := by
      unfold Hid; rw [show ((F : Int)).toNat = F by omega]; omega
    go_enter Tryz.func79, Tryz.ntmps79
    go_wp2_with fail
    refine (rvalid_any _ _ _ _ _ (by omega) (by omega) _).mono ?_
    rintro e w1 ⟨rfl, hb1⟩
    obtain ⟨hc1, hf1, hz1, hB1⟩ := after (a := w) (B := w.heap.size) (w.heap.size + 2) hb1 (by first | (with_reducible assumption) | (simp; done) | omega | (simp; omega)) bl (by omega)
    rw [hv.out]
    go_wp2_with fail
    refine wp_region_still_tail 6 (by kernel_rfl) (by kernel_rfl) ?_
    simp only [List.take_succ_cons, List.take_zero, List.drop_succ_cons, List.drop_zero]
    still_step
    still_step
    still_call (two_same I (by omega) _)
    still_step
    still_step
    still_step
    refine wpStill_nil ?_
    change wpList _ _ _ _ _ w1.drew
    go_wp2_with fail
    refine (rscaled_any _ _ (by omega) hb9.out _).mono ?_
    rintro e w2 ⟨rfl, hb2⟩
    obtain ⟨hc2, hf2, hz2, hB2⟩ := after (a := w) (B := w.heap.size) (w.heap.size + 2) hb2 (by first | (with_reducible assumption) | (simp; done) | omega | (simp; omega)) bl (by omega)
    rw [hp.out]
    go_wp2
    exact bodyPost_ret (v := .agg #[.int .i64 a, .int .i64 b]) (by simp [results, Tryz.results79, go_sem, hc2, hc1]) rfl ⟨rfl, bl⟩
  · have e : Z.grt true I F = Q.mk (H - 1) (2 ^ F) := by rw [← hH.out]; rfl
    rw [e]; clear e
    obtain ⟨a, b, hr⟩ : ∃ a b, Hid (Q.mk (H - 1) (2 ^ F) = (a, b)) := ⟨_, _, rfl⟩
    rw [hr.out]
    go_enter Tryz.func79, Tryz.ntmps79
    go_wp2_with fail
    refine (rvalid_any _ _ _ _ _ (by omega) (by omega) _).mono ?_
    rintro e w1 ⟨rfl, hb1⟩
    obtain ⟨hc1, hf1, hz1, hB1⟩ := after (a := w) (B := w.heap.size) (w.heap.size + 2) hb1 (by first | (with_reducible assumption) | (simp; done) | omega | (simp; omega)) bl (by omega)
    rw [hv.out]
    go_wp2_with fail
    refine wp_region_still_tail 10 (by kernel_rfl) (by kernel_rfl) ?_
    simp only [List.take_succ_cons, List.take_zero, List.drop_succ_cons, List.drop_zero]
    still_step
    still_step
    still_step
    still_step
    still_step
    still_call (tw1 _)
    still_step
    still_step
    still_step
    still_call (two_same F (by omega) _)
    refine wpStill_nil ?_
    change wpList _ _ _ _ _ w1.drew
    go_wp2_with fail
    refine (rmake_all _ _ (by omega) (by omega) _).mono ?_
    rintro e w2 ⟨rfl, hb2⟩
    obtain ⟨hc2, hf2, hz2, hB2⟩ := after (a := w) (B := w.heap.size) (w.heap.size + 2) hb2 (by first | (with_reducible assumption) | (simp; done) | omega | (simp; omega)) bl (by omega)
    rw [hr.out]
    go_wp2
    exact bodyPost_ret (v := .agg #[.int .i64 a, .int .i64 b]) (by simp [results, Tryz.results79, go_sem, hc2, hc1]) rfl ⟨rfl, bl⟩

set_option maxRecDepth 100000 in
set_option maxHeartbeats 1000000 in
theorem rLeast_any (k r o : ByteArray) (I F : Int) (hI : -9223372036854775808 ≤ I ∧ I ≤ 9223372036854775807) (hF : -9223372036854775808 ≤ F ∧ F ≤ 9223372036854775807) (w : World) :
    Calls Tryz.prog 78 #[.agg #[.string k, .int .i64 I, .int .i64 F, .string r, .string o]] w fun e w' => e = .returned (.agg #[.int .i64 (Z.lstQ k r o I F).1, .int .i64 (Z.lstQ k r o I F).2]) ∧ Below w.heap.size w w' := by
  by_cases hc : Z.vld k r o I F = true
  · have e : Z.lstQ k r o I F = Z.lst (k.toList == [102, 105, 120]) I.toNat F.toNat := by unfold Z.lstQ; rw [if_pos hc]
    rw [e]
    obtain ⟨m, i, f, hm, hm2, hr, rfl, rfl, hs⟩ := vld_open hc
    exact rleast_any k r o i f hs hc w
  · have e : Z.lstQ k r o I F = (0, 0) := by unfold Z.lstQ; rw [if_neg hc]
    rw [e]
    exact rleast_none k r o I F hI hF (by simpa [Hid] using hc) w

set_option maxRecDepth 100000 in
set_option maxHeartbeats 1000000 in
theorem rGreatest_any (k r o : ByteArray) (I F : Int) (hI : -9223372036854775808 ≤ I ∧ I ≤ 9223372036854775807) (hF : -9223372036854775808 ≤ F ∧ F ≤ 9223372036854775807) (w : World) :
    Calls Tryz.prog 79 #[.agg #[.string k, .int .i64 I, .int .i64 F, .string r, .string o]] w fun e w' => e = .returned (.agg #[.int .i64 (Z.grtQ k r o I F).1, .int .i64 (Z.grtQ k r o I F).2]) ∧ Below w.heap.size w w' := by
  by_cases hc : Z.vld k r o I F = true
  · have e : Z.grtQ k r o I F = Z.grt (k.toList == [102, 105, 120]) I.toNat F.toNat := by unfold Z.grtQ; rw [if_pos hc]
    rw [e]
    obtain ⟨m, i, f, hm, hm2, hr, rfl, rfl, hs⟩ := vld_open hc
    exact rgreatest_any k r o i f hs hc w
  · have e : Z.grtQ k r o I F = (0, 0) := by unfold Z.grtQ; rw [if_neg hc]
    rw [e]
    exact rgreatest_none k r o I F hI hF (by simpa [Hid] using hc) w

end Go.Proofs.YtnidbhfpkjggmaaGreatDoor
