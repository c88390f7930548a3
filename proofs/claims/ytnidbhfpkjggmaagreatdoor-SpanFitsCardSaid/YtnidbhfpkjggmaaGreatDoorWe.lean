import Derived.Test.YtnidbhfpkjggmaaGreatDoorWd
import Derived.Test.YtnidbhfpkjggmaaGreatDoorVh
import Derived.StillTailTactics
import Derived.Deep.DeepCutAuto
set_option linter.all false
/-
  The specification's fix, whole: what a call gives.
-/
namespace Go.Proofs.YtnidbhfpkjggmaaGreatDoor
open Go.RowKit
theorem wrapped_any (k o : ByteArray) (m I F : Nat) (hm : m ≤ 2) (h : I + F ≤ 30) (n d : Int) (hn : -2305843009213693952 ≤ n ∧ n ≤ 2305843009213693952) (hd : 1 ≤ d ∧ d ≤ 1152921504606846976) (hv : Hid (Z.vld k (rnm m) o (I : Int) (F : Int) = true)) (hneg : n < 0 → 2 ^ (I + 1) * d ≤ 4611686018427387904) (w : World) :
    Calls Tryz.prog 194 #[.agg #[.string k, .int .i64 (I : Int), .int .i64 (F : Int), .string (rnm m), .string o], .agg #[.int .i64 n, .int .i64 d], .int .i64 (2 ^ (I + F) : Int)] w fun e w' => e = .returned (.agg #[.int .i64 (Q.mk ((Z.rnd m (n * 2 ^ F) d + 2 ^ (I + F)) % (2 * 2 ^ (I + F)) - 2 ^ (I + F)) (2 ^ F)).1, .int .i64 (Q.mk ((Z.rnd m (n * 2 ^ F) d + 2 ^ (I + F)) % (2 * 2 ^ (I + F)) - 2 ^ (I + F)) (2 ^ F)).2]) ∧ Below w.heap.size w w' := by
  have hp := pb_of h
  have T1 := Z.p2_31 (I + 1) (by omega)
  have wr := wr_of hn hd T1 hneg
  obtain ⟨mm, hmm⟩ : ∃ mm, mm = (if m = 2 then (if n < 0 then 3 else 0) else m) := ⟨_, rfl⟩
  have hm3 : mm ≤ 3 := by rw [hmm]; split <;> (try split) <;> omega
  have hnm : Hid ((((rnm m).toList == [122, 101, 114, 111]) = false → rnm m = rnmR mm) ∧ (((rnm m).toList == [122, 101, 114, 111]) = true → n < 0 → mm = 3) ∧ (((rnm m).toList == [122, 101, 114, 111]) = true → ¬ n < 0 → mm = 0)) := by
    have hc : m = 0 ∨ m = 1 ∨ m = 2 := by omega
    have zz : ∀ q : Nat, ((rnm q).toList == [122, 101, 114, 111]) = ((rnm q).data.toList == [122, 101, 114, 111]) := fun q => by rw [ByteArray.toList_eq]
    unfold Hid
    rw [zz]
    rcases hc with rfl | rfl | rfl
    · rw [hmm]; exact ⟨fun _ => rfl, fun hh => absurd hh (by decide), fun hh => absurd hh (by decide)⟩
    · rw [hmm]; exact ⟨fun _ => rfl, fun hh => absurd hh (by decide), fun hh => absurd hh (by decide)⟩
    · rw [hmm]; exact ⟨fun hh => absurd hh (by decide), fun _ h0 => by rw [if_pos rfl, if_pos h0], fun _ h0 => by rw [if_pos rfl, if_neg h0]⟩
  obtain ⟨T, hT⟩ : ∃ T : Int, Hid ((2 : Int) ^ (I + 1) = T) := ⟨_, rfl⟩
  obtain ⟨t, ht⟩ : ∃ t, n / d / (2 : Int) ^ (I + 1) = t := ⟨_, rfl⟩
  rw [ht] at wr
  obtain ⟨s, hs⟩ : ∃ s, n - t * (2 : Int) ^ (I + 1) * d = s := ⟨_, rfl⟩
  rw [hs] at wr
  have sb := wr.sb
  have sT := wr.sT
  have hsF : s * 2 ^ F ≤ (2 * 2 ^ (I + F)) * d := by
    have h1 : s * 2 ^ F ≤ 2 ^ (I + 1) * d * 2 ^ F := Int.mul_le_mul_of_nonneg_right (by omega) (by have := hp.f; omega)
    have h2 : (2 : Int) ^ (I + 1) * d * 2 ^ F = 2 * 2 ^ (I + F) * d := by
      rw [Int.mul_right_comm, ← Z.p2_add, show I + 1 + F = I + F + 1 by omega, Int.pow_succ, Int.mul_comm (2 ^ (I + F)) 2]
    omega
  have hs0 : 0 * d ≤ s * 2 ^ F := by rw [Int.zero_mul]; exact Int.mul_nonneg sb.1 (by have := hp.f; omega)
  have kb : ∀ q, 0 ≤ Z.rndE q s d (F : Int) ∧ Z.rndE q s d (F : Int) ≤ 2 * 2 ^ (I + F) := fun q => by
    rw [Z.rndE_pos]; exact ⟨Z.rnd_ge q _ _ 0 (by omega) hs0, Z.rnd_le q _ _ _ (by omega) hsF⟩
  have hN : Hid (Z.near s d (F : Int) = true) := by
    unfold Hid Z.near
    have := kb 0
    have := hp.h
    exact decide_eq_true (by omega)
  have hturn := Z.fix_turns m mm I F n d t (by omega) (by
    by_cases h2 : m = 2
    · rw [hmm, if_pos h2]
      by_cases h0 : n < 0
      · rw [if_pos h0]; exact Or.inr (Or.inr (Or.inr ⟨h2, rfl, h0⟩))
      · rw [if_neg h0]; exact Or.inr (Or.inr (Or.inl ⟨h2, rfl, by omega⟩))
    · rw [hmm, if_neg h2]; exact Or.inl ⟨rfl, by omega⟩)
  rw [show n - t * (d * 2 ^ (I + 1)) = s by rw [← hs, Int.mul_comm d, Int.mul_assoc], ← Z.rndE_pos mm s d F] at hturn
  have hmod := mod_range (Z.rndE mm s d (F : Int)) (2 ^ (I + F)) (by have := hp.h; omega)
  rw [hturn] at hmod
  rw [hmod]
  have hh := hp.h
  have m1 := Int.emod_nonneg (Z.rndE mm s d (F : Int)) (show (2 * 2 ^ (I + F) : Int) ≠ 0 by omega)
  have m2 := Int.emod_lt_of_pos (Z.rndE mm s d (F : Int)) (show (0 : Int) < 2 * 2 ^ (I + F) by omega)
  rw [hT.out] at wr T1
  exact wrapped_core k o m I F hm h n d hn hd t s _ _ T (2 ^ (I + F)) mm hT rfl wr hN rfl (by have := kb mm; omega) rfl ⟨m1, m2⟩ hh T1 hnm hm3 w
theorem fix_neg {m I F : Nat} {n d : Int} (hd : 1 ≤ d) (hK : Z.rndE m n d (F : Int) < -(2 ^ (I + F))) : 2 ^ I * d ≤ -n := by
  have hp := Z.p2_pos F
  rw [Z.rndE_pos] at hK
  apply Classical.byContradiction
  intro hc
  have h1 : -(2 ^ (I + F)) * d ≤ n * 2 ^ F := by
    have h2 : (-n) * 2 ^ F ≤ 2 ^ I * d * 2 ^ F := Int.mul_le_mul_of_nonneg_right (by omega) (by omega)
    rw [Int.mul_right_comm, ← Z.p2_add, Int.neg_mul] at h2
    rw [Int.neg_mul]; omega
  have := Z.rnd_ge m _ _ _ (by omega) h1
  omega
set_option maxRecDepth 100000 in
set_option maxHeartbeats 16000000 in
theorem rfix_any (k o : ByteArray) (m I F : Nat) (hm : m ≤ 2) (h : I + F ≤ 30) (n d : Int) (hn : -2305843009213693952 ≤ n ∧ n ≤ 2305843009213693952) (hd : 1 ≤ d ∧ d ≤ 1152921504606846976) (hv : Hid (Z.vld k (rnm m) o (I : Int) (F : Int) = true)) (hov : Hid ((o.toList == [115, 97, 116]) = false → (o.toList == [119, 114, 97, 112]) = false → ovn o = 2)) (hsat : Hid ((o.toList == [115, 97, 116]) = true → ovn o = 0)) (w : World) :
    Calls Tryz.prog 167 #[.agg #[.string k, .int .i64 (I : Int), .int .i64 (F : Int), .string (rnm m), .string o], .agg #[.int .i64 n, .int .i64 d]] w fun e w' => e = .returned (.agg #[.int .i64 (Z.fixV (ovn o) m I F n d).1, .int .i64 (Z.fixV (ovn o) m I F n d).2]) ∧ Below w.heap.size w w' := by
  have hB := pb_of h
  have B1 := hB.h
  have B2 := hB.i
  have B3 := hB.f
  clear hB
  obtain ⟨H, hH⟩ : ∃ H : Int, Hid ((2 : Int) ^ (I + F) = H) := ⟨_, rfl⟩
  rw [hH.out] at B1
  have y0 : IntKind.i64.wrap ((I : Int) + (F : Int)) = (I : Int) + (F : Int) := Z.i64_in _ (by omega)
  have y1 : IntKind.i64.wrap (-H) = -H := Z.i64_in _ (by omega)
  have y2 : IntKind.i64.wrap (H - 1) = H - 1 := Z.i64_in _ (by omega)
  have tw1 : ∀ w, Calls Tryz.prog 81 #[.int .i64 ((I : Int) + (F : Int))] w fun e w' => e = .returned (.int .i64 H) ∧ w = w' := fun w => by
    have h0 := two_any (I + F) (by omega) w
    rw [hH.out] at h0
    exact h0
  have hnmR := Lib.hid (rnmR_eq hm)
  obtain ⟨K, hK⟩ : ∃ K, Hid (Z.rndE m n d (F : Int) = K) := ⟨_, rfl⟩
  rw [← hnmR.out] at hv ⊢
  have hfv : Z.fixV (ovn o) m I F n d = if ovn o = 1 then Q.mk ((K + H) % (2 * H) - H) (2 ^ F) else if -H ≤ K ∧ K < H then Q.mk K (2 ^ F) else Z.bey (ovn o) true I F (decide (n < 0)) := by
    unfold Z.fixV; rw [← Z.rndE_pos, hK.out, hH.out]
  have HFV := Lib.hid hfv
  clear hfv
  have wr9 : (n < 0 → 2 ^ (I + 1) * d ≤ 4611686018427387904) → ∀ w, Calls Tryz.prog 194 #[.agg #[.string k, .int .i64 (I : Int), .int .i64 (F : Int), .string (rnmR m), .string o], .agg #[.int .i64 n, .int .i64 d], .int .i64 H] w fun e w' => e = .returned (.agg #[.int .i64 (Q.mk ((K + H) % (2 * H) - H) (2 ^ F)).1, .int .i64 (Q.mk ((K + H) % (2 * H) - H) (2 ^ F)).2]) ∧ Below w.heap.size w w' := fun hneg w => by
    have h0 := wrapped_any k o m I F hm h n d hn hd (by rw [← hnmR.out]; exact hv) hneg w
    rw [← Z.rndE_pos, hK.out, hH.out, ← hnmR.out] at h0
    exact h0
  cases hN0 : Z.near n d (F : Int)
  · have hN := Lib.hid hN0
    obtain ⟨W, hW⟩ : ∃ W, Hid (Z.rndE 0 n d (F : Int) = W) := ⟨_, rfl⟩
    have hWo : W < -1099511627776 ∨ 1099511627776 < W := by
      unfold Z.near at hN0; rw [hW.out] at hN0; have := of_decide_eq_false hN0; omega
    clear hN0
    have hKW : (1099511627776 < W → 1099511627776 < K) ∧ (W < -1099511627776 → K ≤ W + 1 ∧ n < 0) := by
      rw [← hW.out, ← hK.out, Z.rndE_pos, Z.rndE_pos, Z.rnd_0]
      have hr := Z.rnd_near m (n * 2 ^ F) d (by omega)
      refine ⟨fun hh => by omega, fun hh => ⟨by omega, ?_⟩⟩
      apply Classical.byContradiction; intro hc
      have := Int.ediv_nonneg (Int.mul_nonneg (show 0 ≤ n by omega) (show (0 : Int) ≤ 2 ^ F by omega)) (show 0 ≤ d by omega)
      omega
    have hKo : ¬ (-H ≤ K ∧ K < H) := by
      rcases hWo with hh | hh
      · have := hKW.2 hh; omega
      · have := hKW.1 hh; omega
    have hWn : n < 0 → W < -1099511627776 := fun h0 => by
      apply Classical.byContradiction; intro hc
      have h1 : 1099511627776 < W := by omega
      rw [← hW.out, Z.rndE_pos] at h1
      have := Z.rnd_le 0 (n * 2 ^ F) d 0 (by omega) (by have := Int.mul_neg_of_neg_of_pos h0 (show (0 : Int) < 2 ^ F by omega); omega)
      omega
    clear hKW hWo
    cases hs : (o.toList == [115, 97, 116])
    rotate_left
    · have h0v := hsat.out hs
      have e : Z.fixV (ovn o) m I F n d = Z.bey 0 true I F (decide (n < 0)) := by rw [HFV.out, h0v, if_neg (by decide), if_neg (hKo)]
      rw [e]; clear e
      by_cases hneg : n < 0
      · have e : Z.bey 0 true I F (decide (n < 0)) = Q.mk (-H) (2 ^ F) := by unfold Z.bey; rw [show decide (n < 0) = true by simp [hneg], ← hH.out]; rfl
        rw [e]; clear e
        have g9 : decide (n < 0) = true := by simp [hneg]
        clear hneg
        obtain ⟨a, b, hr⟩ : ∃ a b, Hid (Q.mk (-H) (2 ^ F) = (a, b)) := ⟨_, _, rfl⟩
        rw [hr.out]
        go_enter Tryz.func167, Tryz.ntmps167
        go_wp2_with fail
        refine (tw1 _).mono ?_
        rintro e wa ⟨rfl, rfl⟩
        go_wp2_with fail
        refine (shift_no m (by omega) _ _ _ (by omega) hd (by omega) hN _).mono ?_
        rintro e w1 ⟨y, rfl, hb1⟩
        obtain ⟨hc1, hf1, hz1, hB1⟩ := after (a := w) (B := w.heap.size) (w.heap.size + 3) hb1 (by first | (with_reducible assumption) | (simp; done) | omega | (simp; omega)) bl (by omega)
        go_wp2_with fail
        refine (two_any F (by omega) _).mono ?_
        rintro e wa ⟨rfl, rfl⟩
        go_wp2_with fail
        refine (rmake_all _ _ (by omega) (by omega) _).mono ?_
        rintro e w2 ⟨rfl, hb2⟩
        obtain ⟨hc2, hf2, hz2, hB2⟩ := after (a := w) (B := w.heap.size) (w.heap.size + 3) hb2 (by first | (with_reducible assumption) | (simp; done) | omega | (simp; omega)) bl (by omega)
        rw [hr.out]
        go_wp2
        exact bodyPost_ret (v := .agg #[.int .i64 a, .int .i64 b]) (by simp [results, Tryz.results167, go_sem, hc2, hc1]) rfl ⟨rfl, bl⟩
      · have e : Z.bey 0 true I F (decide (n < 0)) = Q.mk (H - 1) (2 ^ F) := by unfold Z.bey; rw [show decide (n < 0) = false by simp [hneg], ← hH.out]; rfl
        rw [e]; clear e
        have g9 : decide (n < 0) = false := by simp [hneg]
        clear hneg
        obtain ⟨a, b, hr⟩ : ∃ a b, Hid (Q.mk (H - 1) (2 ^ F) = (a, b)) := ⟨_, _, rfl⟩
        rw [hr.out]
        go_enter Tryz.func167, Tryz.ntmps167
        go_wp2_with fail
        refine (tw1 _).mono ?_
        rintro e wa ⟨rfl, rfl⟩
        go_wp2_with fail
        refine (shift_no m (by omega) _ _ _ (by omega) hd (by omega) hN _).mono ?_
        rintro e w1 ⟨y, rfl, hb1⟩
        obtain ⟨hc1, hf1, hz1, hB1⟩ := after (a := w) (B := w.heap.size) (w.heap.size + 3) hb1 (by first | (with_reducible assumption) | (simp; done) | omega | (simp; omega)) bl (by omega)
        go_wp2_with fail
        refine (two_any F (by omega) _).mono ?_
        rintro e wa ⟨rfl, rfl⟩
        go_wp2_with fail
        refine (rmake_all _ _ (by omega) (by omega) _).mono ?_
        rintro e w2 ⟨rfl, hb2⟩
        obtain ⟨hc2, hf2, hz2, hB2⟩ := after (a := w) (B := w.heap.size) (w.heap.size + 3) hb2 (by first | (with_reducible assumption) | (simp; done) | omega | (simp; omega)) bl (by omega)
        rw [hr.out]
        go_wp2
        exact bodyPost_ret (v := .agg #[.int .i64 a, .int .i64 b]) (by simp [results, Tryz.results167, go_sem, hc2, hc1]) rfl ⟨rfl, bl⟩
    cases hw : (o.toList == [119, 114, 97, 112])
    · have h0v := hov.out hs hw
      have e : Z.fixV (ovn o) m I F n d = (0, 0) := by rw [HFV.out, h0v, if_neg (by decide), if_neg (hKo)]; rfl
      rw [e]; clear e
      go_enter Tryz.func167, Tryz.ntmps167
      go_wp2_with fail
      refine (tw1 _).mono ?_
      rintro e wa ⟨rfl, rfl⟩
      go_wp2_with fail
      refine (shift_no m (by omega) _ _ _ (by omega) hd (by omega) hN _).mono ?_
      rintro e w1 ⟨y, rfl, hb1⟩
      obtain ⟨hc1, hf1, hz1, hB1⟩ := after (a := w) (B := w.heap.size) (w.heap.size + 3) hb1 (by first | (with_reducible assumption) | (simp; done) | omega | (simp; omega)) bl (by omega)
      go_wp2_with fail
      refine (rnone_any _).mono ?_
      rintro e w2 ⟨rfl, hb2⟩
      obtain ⟨hc2, hf2, hz2, hB2⟩ := after (a := w) (B := w.heap.size) (w.heap.size + 3) hb2 (by first | (with_reducible assumption) | (simp; done) | omega | (simp; omega)) bl (by omega)
      go_wp2
      exact bodyPost_ret (v := .agg #[.int .i64 0, .int .i64 0]) (by simp [results, Tryz.results167, go_sem, hc2, hc1]) rfl ⟨rfl, bl⟩
    · have h0v := ov_wrap hw
      have e : Z.fixV (ovn o) m I F n d = Q.mk ((K + H) % (2 * H) - H) (2 ^ F) := by rw [HFV.out, h0v, if_pos rfl]
      rw [e]; clear e
      have wr9 := wr9 (by intro h0; have h3 := fix_neg (m := 0) (I := I) (F := F) (n := n) (d := d) hd.1 (by rw [hW.out, hH.out]; have := hWn h0; omega); rw [Int.pow_succ, Int.mul_right_comm]; omega)
      obtain ⟨a, b, hr⟩ : ∃ a b, Hid (Q.mk ((K + H) % (2 * H) - H) (2 ^ F) = (a, b)) := ⟨_, _, rfl⟩
      rw [hr.out]
      go_enter Tryz.func167, Tryz.ntmps167
      go_wp2_with fail
      refine (tw1 _).mono ?_
      rintro e wa ⟨rfl, rfl⟩
      go_wp2_with fail
      refine (shift_no m (by omega) _ _ _ (by omega) hd (by omega) hN _).mono ?_
      rintro e w1 ⟨y, rfl, hb1⟩
      obtain ⟨hc1, hf1, hz1, hB1⟩ := after (a := w) (B := w.heap.size) (w.heap.size + 3) hb1 (by first | (with_reducible assumption) | (simp; done) | omega | (simp; omega)) bl (by omega)
      go_wp2_with fail
      refine (wr9 _).mono ?_
      rintro e w2 ⟨rfl, hb2⟩
      obtain ⟨hc2, hf2, hz2, hB2⟩ := after (a := w) (B := w.heap.size) (w.heap.size + 3) hb2 (by first | (with_reducible assumption) | (simp; done) | omega | (simp; omega)) bl (by omega)
      rw [hr.out]
      go_wp2
      exact bodyPost_ret (v := .agg #[.int .i64 a, .int .i64 b]) (by simp [results, Tryz.results167, go_sem, hc2, hc1]) rfl ⟨rfl, bl⟩
  · have hN := Lib.hid hN0
    clear hN0
    have KB : -1099511627777 ≤ K ∧ K ≤ 1099511627777 := by
      have h1 := hN.out
      unfold Z.near at h1
      have h2 := of_decide_eq_true h1
      rw [Z.rndE_pos, Z.rnd_0] at h2
      rw [← hK.out, Z.rndE_pos]
      have hr := Z.rnd_near m (n * 2 ^ F) d (by omega)
      omega
    by_cases hlo : K < -H
    · have g1 : decide (-H ≤ K) = false := decide_eq_false (by omega)
      cases hs : (o.toList == [115, 97, 116])
      rotate_left
      · have h0v := hsat.out hs
        have e : Z.fixV (ovn o) m I F n d = Z.bey 0 true I F (decide (n < 0)) := by rw [HFV.out, h0v, if_neg (by decide), if_neg (by omega)]
        rw [e]; clear e
        by_cases hneg : n < 0
        · have e : Z.bey 0 true I F (decide (n < 0)) = Q.mk (-H) (2 ^ F) := by unfold Z.bey; rw [show decide (n < 0) = true by simp [hneg], ← hH.out]; rfl
          rw [e]; clear e
          have g9 : decide (n < 0) = true := by simp [hneg]
          clear hneg
          obtain ⟨a, b, hr⟩ : ∃ a b, Hid (Q.mk (-H) (2 ^ F) = (a, b)) := ⟨_, _, rfl⟩
          rw [hr.out]
          go_enter Tryz.func167, Tryz.ntmps167
          go_wp2_with fail
          refine (tw1 _).mono ?_
          rintro e wa ⟨rfl, rfl⟩
          go_wp2_with fail
          refine (shift_yes m (by omega) _ _ _ (by omega) hd (by omega) hN _).mono ?_
          rintro e w1 ⟨rfl, hb1⟩
          obtain ⟨hc1, hf1, hz1, hB1⟩ := after (a := w) (B := w.heap.size) (w.heap.size + 3) hb1 (by first | (with_reducible assumption) | (simp; done) | omega | (simp; omega)) bl (by omega)
          rw [hK.out]
          go_wp2_with fail
          refine (two_any F (by omega) _).mono ?_
          rintro e wa ⟨rfl, rfl⟩
          go_wp2_with fail
          refine (rmake_all _ _ (by omega) (by omega) _).mono ?_
          rintro e w2 ⟨rfl, hb2⟩
          obtain ⟨hc2, hf2, hz2, hB2⟩ := after (a := w) (B := w.heap.size) (w.heap.size + 3) hb2 (by first | (with_reducible assumption) | (simp; done) | omega | (simp; omega)) bl (by omega)
          rw [hr.out]
          go_wp2
          exact bodyPost_ret (v := .agg #[.int .i64 a, .int .i64 b]) (by simp [results, Tryz.results167, go_sem, hc2, hc1]) rfl ⟨rfl, bl⟩
        · have e : Z.bey 0 true I F (decide (n < 0)) = Q.mk (H - 1) (2 ^ F) := by unfold Z.bey; rw [show decide (n < 0) = false by simp [hneg], ← hH.out]; rfl
          rw [e]; clear e
          have g9 : decide (n < 0) = false := by simp [hneg]
          clear hneg
          obtain ⟨a, b, hr⟩ : ∃ a b, Hid (Q.mk (H - 1) (2 ^ F) = (a, b)) := ⟨_, _, rfl⟩
          rw [hr.out]
          go_enter Tryz.func167, Tryz.ntmps167
          go_wp2_with fail
          refine (tw1 _).mono ?_
          rintro e wa ⟨rfl, rfl⟩
          go_wp2_with fail
          refine (shift_yes m (by omega) _ _ _ (by omega) hd (by omega) hN _).mono ?_
          rintro e w1 ⟨rfl, hb1⟩
          obtain ⟨hc1, hf1, hz1, hB1⟩ := after (a := w) (B := w.heap.size) (w.heap.size + 3) hb1 (by first | (with_reducible assumption) | (simp; done) | omega | (simp; omega)) bl (by omega)
          rw [hK.out]
          go_wp2_with fail
          refine (two_any F (by omega) _).mono ?_
          rintro e wa ⟨rfl, rfl⟩
          go_wp2_with fail
          refine (rmake_all _ _ (by omega) (by omega) _).mono ?_
          rintro e w2 ⟨rfl, hb2⟩
          obtain ⟨hc2, hf2, hz2, hB2⟩ := after (a := w) (B := w.heap.size) (w.heap.size + 3) hb2 (by first | (with_reducible assumption) | (simp; done) | omega | (simp; omega)) bl (by omega)
          rw [hr.out]
          go_wp2
          exact bodyPost_ret (v := .agg #[.int .i64 a, .int .i64 b]) (by simp [results, Tryz.results167, go_sem, hc2, hc1]) rfl ⟨rfl, bl⟩
      cases hw : (o.toList == [119, 114, 97, 112])
      · have h0v := hov.out hs hw
        have e : Z.fixV (ovn o) m I F n d = (0, 0) := by rw [HFV.out, h0v, if_neg (by decide), if_neg (by omega)]; rfl
        rw [e]; clear e
        go_enter Tryz.func167, Tryz.ntmps167
        go_wp2_with fail
        refine (tw1 _).mono ?_
        rintro e wa ⟨rfl, rfl⟩
        go_wp2_with fail
        refine (shift_yes m (by omega) _ _ _ (by omega) hd (by omega) hN _).mono ?_
        rintro e w1 ⟨rfl, hb1⟩
        obtain ⟨hc1, hf1, hz1, hB1⟩ := after (a := w) (B := w.heap.size) (w.heap.size + 3) hb1 (by first | (with_reducible assumption) | (simp; done) | omega | (simp; omega)) bl (by omega)
        rw [hK.out]
        go_wp2_with fail
        refine (rnone_any _).mono ?_
        rintro e w2 ⟨rfl, hb2⟩
        obtain ⟨hc2, hf2, hz2, hB2⟩ := after (a := w) (B := w.heap.size) (w.heap.size + 3) hb2 (by first | (with_reducible assumption) | (simp; done) | omega | (simp; omega)) bl (by omega)
        go_wp2
        exact bodyPost_ret (v := .agg #[.int .i64 0, .int .i64 0]) (by simp [results, Tryz.results167, go_sem, hc2, hc1]) rfl ⟨rfl, bl⟩
      · have h0v := ov_wrap hw
        have e : Z.fixV (ovn o) m I F n d = Q.mk ((K + H) % (2 * H) - H) (2 ^ F) := by rw [HFV.out, h0v, if_pos rfl]
        rw [e]; clear e
        have wr9 := wr9 (by intro h0; have h3 := fix_neg (m := m) (I := I) (F := F) (n := n) (d := d) hd.1 (by rw [hK.out, hH.out]; omega); rw [Int.pow_succ, Int.mul_right_comm]; omega)
        obtain ⟨a, b, hr⟩ : ∃ a b, Hid (Q.mk ((K + H) % (2 * H) - H) (2 ^ F) = (a, b)) := ⟨_, _, rfl⟩
        rw [hr.out]
        go_enter Tryz.func167, Tryz.ntmps167
        go_wp2_with fail
        refine (tw1 _).mono ?_
        rintro e wa ⟨rfl, rfl⟩
        go_wp2_with fail
        refine (shift_yes m (by omega) _ _ _ (by omega) hd (by omega) hN _).mono ?_
        rintro e w1 ⟨rfl, hb1⟩
        obtain ⟨hc1, hf1, hz1, hB1⟩ := after (a := w) (B := w.heap.size) (w.heap.size + 3) hb1 (by first | (with_reducible assumption) | (simp; done) | omega | (simp; omega)) bl (by omega)
        rw [hK.out]
        go_wp2_with fail
        refine (wr9 _).mono ?_
        rintro e w2 ⟨rfl, hb2⟩
        obtain ⟨hc2, hf2, hz2, hB2⟩ := after (a := w) (B := w.heap.size) (w.heap.size + 3) hb2 (by first | (with_reducible assumption) | (simp; done) | omega | (simp; omega)) bl (by omega)
        rw [hr.out]
        go_wp2
        exact bodyPost_ret (v := .agg #[.int .i64 a, .int .i64 b]) (by simp [results, Tryz.results167, go_sem, hc2, hc1]) rfl ⟨rfl, bl⟩
    · have g1 : decide (-H ≤ K) = true := decide_eq_true (by omega)
      by_cases hhi : H ≤ K
      · have g2 : decide (K < H) = false := decide_eq_false (by omega)
        cases hs : (o.toList == [115, 97, 116])
        rotate_left
        · have h0v := hsat.out hs
          have e : Z.fixV (ovn o) m I F n d = Z.bey 0 true I F (decide (n < 0)) := by rw [HFV.out, h0v, if_neg (by decide), if_neg (by omega)]
          rw [e]; clear e
          by_cases hneg : n < 0
          · have e : Z.bey 0 true I F (decide (n < 0)) = Q.mk (-H) (2 ^ F) := by unfold Z.bey; rw [show decide (n < 0) = true by simp [hneg], ← hH.out]; rfl
            rw [e]; clear e
            have g9 : decide (n < 0) = true := by simp [hneg]
            clear hneg
            obtain ⟨a, b, hr⟩ : ∃ a b, Hid (Q.mk (-H) (2 ^ F) = (a, b)) := ⟨_, _, rfl⟩
            rw [hr.out]
            go_enter Tryz.func167, Tryz.ntmps167
            go_wp2_with fail
            refine (tw1 _).mono ?_
            rintro e wa ⟨rfl, rfl⟩
            go_wp2_with fail
            refine (shift_yes m (by omega) _ _ _ (by omega) hd (by omega) hN _).mono ?_
            rintro e w1 ⟨rfl, hb1⟩
            obtain ⟨hc1, hf1, hz1, hB1⟩ := after (a := w) (B := w.heap.size) (w.heap.size + 3) hb1 (by first | (with_reducible assumption) | (simp; done) | omega | (simp; omega)) bl (by omega)
            rw [hK.out]
            go_wp2_with fail
            refine (two_any F (by omega) _).mono ?_
            rintro e wa ⟨rfl, rfl⟩
            go_wp2_with fail
            refine (rmake_all _ _ (by omega) (by omega) _).mono ?_
            rintro e w2 ⟨rfl, hb2⟩
            obtain ⟨hc2, hf2, hz2, hB2⟩ := after (a := w) (B := w.heap.size) (w.heap.size + 3) hb2 (by first | (with_reducible assumption) | (simp; done) | omega | (simp; omega)) bl (by omega)
            rw [hr.out]
            go_wp2
            exact bodyPost_ret (v := .agg #[.int .i64 a, .int .i64 b]) (by simp [results, Tryz.results167, go_sem, hc2, hc1]) rfl ⟨rfl, bl⟩
          · have e : Z.bey 0 true I F (decide (n < 0)) = Q.mk (H - 1) (2 ^ F) := by unfold Z.bey; rw [show decide (n < 0) = false by simp [hneg], ← hH.out]; rfl
            rw [e]; clear e
            have g9 : decide (n < 0) = false := by simp [hneg]
            clear hneg
            obtain ⟨a, b, hr⟩ : ∃ a b, Hid (Q.mk (H - 1) (2 ^ F) = (a, b)) := ⟨_, _, rfl⟩
            rw [hr.out]
            go_enter Tryz.func167, Tryz.ntmps167
            go_wp2_with fail
            refine (tw1 _).mono ?_
            rintro e wa ⟨rfl, rfl⟩
            go_wp2_with fail
            refine (shift_yes m (by omega) _ _ _ (by omega) hd (by omega) hN _).mono ?_
            rintro e w1 ⟨rfl, hb1⟩
            obtain ⟨hc1, hf1, hz1, hB1⟩ := after (a := w) (B := w.heap.size) (w.heap.size + 3) hb1 (by first | (with_reducible assumption) | (simp; done) | omega | (simp; omega)) bl (by omega)
            rw [hK.out]
            go_wp2_with fail
            refine (two_any F (by omega) _).mono ?_
            rintro e wa ⟨rfl, rfl⟩
            go_wp2_with fail
            refine (rmake_all _ _ (by omega) (by omega) _).mono ?_
            rintro e w2 ⟨rfl, hb2⟩
            obtain ⟨hc2, hf2, hz2, hB2⟩ := after (a := w) (B := w.heap.size) (w.heap.size + 3) hb2 (by first | (with_reducible assumption) | (simp; done) | omega | (simp; omega)) bl (by omega)
            rw [hr.out]
            go_wp2
            exact bodyPost_ret (v := .agg #[.int .i64 a, .int .i64 b]) (by simp [results, Tryz.results167, go_sem, hc2, hc1]) rfl ⟨rfl, bl⟩
        cases hw : (o.toList == [119, 114, 97, 112])
        · have h0v := hov.out hs hw
          have e : Z.fixV (ovn o) m I F n d = (0, 0) := by rw [HFV.out, h0v, if_neg (by decide), if_neg (by omega)]; rfl
          rw [e]; clear e
          go_enter Tryz.func167, Tryz.ntmps167
          go_wp2_with fail
          refine (tw1 _).mono ?_
          rintro e wa ⟨rfl, rfl⟩
          go_wp2_with fail
          refine (shift_yes m (by omega) _ _ _ (by omega) hd (by omega) hN _).mono ?_
          rintro e w1 ⟨rfl, hb1⟩
          obtain ⟨hc1, hf1, hz1, hB1⟩ := after (a := w) (B := w.heap.size) (w.heap.size + 3) hb1 (by first | (with_reducible assumption) | (simp; done) | omega | (simp; omega)) bl (by omega)
          rw [hK.out]
          go_wp2_with fail
          refine (rnone_any _).mono ?_
          rintro e w2 ⟨rfl, hb2⟩
          obtain ⟨hc2, hf2, hz2, hB2⟩ := after (a := w) (B := w.heap.size) (w.heap.size + 3) hb2 (by first | (with_reducible assumption) | (simp; done) | omega | (simp; omega)) bl (by omega)
          go_wp2
          exact bodyPost_ret (v := .agg #[.int .i64 0, .int .i64 0]) (by simp [results, Tryz.results167, go_sem, hc2, hc1]) rfl ⟨rfl, bl⟩
        · have h0v := ov_wrap hw
          have e : Z.fixV (ovn o) m I F n d = Q.mk ((K + H) % (2 * H) - H) (2 ^ F) := by rw [HFV.out, h0v, if_pos rfl]
          rw [e]; clear e
          have wr9 := wr9 (by intro h0; exfalso; have h4 := Z.rnd_le m (n * 2 ^ F) d 0 (by omega) (by have := Int.mul_neg_of_neg_of_pos h0 (show (0 : Int) < 2 ^ F by omega); omega); rw [← Z.rndE_pos, hK.out] at h4; omega)
          obtain ⟨a, b, hr⟩ : ∃ a b, Hid (Q.mk ((K + H) % (2 * H) - H) (2 ^ F) = (a, b)) := ⟨_, _, rfl⟩
          rw [hr.out]
          go_enter Tryz.func167, Tryz.ntmps167
          go_wp2_with fail
          refine (tw1 _).mono ?_
          rintro e wa ⟨rfl, rfl⟩
          go_wp2_with fail
          refine (shift_yes m (by omega) _ _ _ (by omega) hd (by omega) hN _).mono ?_
          rintro e w1 ⟨rfl, hb1⟩
          obtain ⟨hc1, hf1, hz1, hB1⟩ := after (a := w) (B := w.heap.size) (w.heap.size + 3) hb1 (by first | (with_reducible assumption) | (simp; done) | omega | (simp; omega)) bl (by omega)
          rw [hK.out]
          go_wp2_with fail
          refine (wr9 _).mono ?_
          rintro e w2 ⟨rfl, hb2⟩
          obtain ⟨hc2, hf2, hz2, hB2⟩ := after (a := w) (B := w.heap.size) (w.heap.size + 3) hb2 (by first | (with_reducible assumption) | (simp; done) | omega | (simp; omega)) bl (by omega)
          rw [hr.out]
          go_wp2
          exact bodyPost_ret (v := .agg #[.int .i64 a, .int .i64 b]) (by simp [results, Tryz.results167, go_sem, hc2, hc1]) rfl ⟨rfl, bl⟩
      · have g2 : decide (K < H) = true := decide_eq_true (by omega)
        have e : Z.fixV (ovn o) m I F n d = Q.mk K (2 ^ F) := by
          rw [HFV.out]
          by_cases h1 : ovn o = 1
          · rw [if_pos h1]; congr 1
            rw [Int.emod_eq_of_lt (by omega) (by omega)]; omega
          · rw [if_neg h1, if_pos (by omega)]
        rw [e]; clear e hlo hhi
        obtain ⟨a, b, hr⟩ : ∃ a b, Hid (Q.mk K (2 ^ F) = (a, b)) := ⟨_, _, rfl⟩
        rw [hr.out]
        go_enter Tryz.func167, Tryz.ntmps167
        go_wp2_with fail
        refine (tw1 _).mono ?_
        rintro e wa ⟨rfl, rfl⟩
        go_wp2_with fail
        refine (shift_yes m (by omega) _ _ _ (by omega) hd (by omega) hN _).mono ?_
        rintro e w1 ⟨rfl, hb1⟩
        obtain ⟨hc1, hf1, hz1, hB1⟩ := after (a := w) (B := w.heap.size) (w.heap.size + 3) hb1 (by first | (with_reducible assumption) | (simp; done) | omega | (simp; omega)) bl (by omega)
        rw [hK.out]
        go_wp2_with fail
        refine (two_any F (by omega) _).mono ?_
        rintro e wa ⟨rfl, rfl⟩
        go_wp2_with fail
        refine (rmake_all _ _ (by omega) (by omega) _).mono ?_
        rintro e w2 ⟨rfl, hb2⟩
        obtain ⟨hc2, hf2, hz2, hB2⟩ := after (a := w) (B := w.heap.size) (w.heap.size + 3) hb2 (by first | (with_reducible assumption) | (simp; done) | omega | (simp; omega)) bl (by omega)
        rw [hr.out]
        go_wp2
        exact bodyPost_ret (v := .agg #[.int .i64 a, .int .i64 b]) (by simp [results, Tryz.results167, go_sem, hc2, hc1]) rfl ⟨rfl, bl⟩

end Go.Proofs.YtnidbhfpkjggmaaGreatDoor
