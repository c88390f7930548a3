/-
  Formats: what a fraction comes to: fit, Fit, Add, Mul, Is, Bound, Code, Value: what the calls give.
-/
import Derived.Test.YtpdklolfkigefaaDoorVe
import Derived.Test.YtpdklolfkigefaaDoorVg
set_option linter.all false
namespace Go.Proofs.YtpdklolfkigefaaDoor
open Go.RowKit
theorem ov_wrap {o : ByteArray} (h : (o.toList == [119, 114, 97, 112]) = true) : ovn o = 1 := by
  unfold ovn; rw [lit_ne h (b := [110, 111, 110, 101]) (by decide), h]; rfl
theorem ov_not {o : ByteArray} (h : (o.toList == [119, 114, 97, 112]) = false) : ovn o ≠ 1 := by
  unfold ovn; rw [h]; cases (o.toList == [110, 111, 110, 101]) <;> decide
theorem fitFix_any (k o : ByteArray) (m I F : Nat) (hm : m ≤ 2) (h : I + F ≤ 30) (n d : Int) (hn : -2305843009213693952 ≤ n ∧ n ≤ 2305843009213693952) (hd : 1 ≤ d ∧ d ≤ 1152921504606846976) (hv : Hid (Z.vld k (rnm m) o (I : Int) (F : Int) = true)) (hk : (k.toList == [102, 105, 120]) = true) (w : World) :
    Calls Tryd.prog 49 #[.agg #[.string k, .int .i64 (I : Int), .int .i64 (F : Int), .string (rnm m), .string o], .agg #[.int .i64 n, .int .i64 d]] w fun e w' => e = .returned (.agg #[.int .i64 (Z.fixV (ovn o) m I F n d).1, .int .i64 (Z.fixV (ovn o) m I F n d).2]) ∧ Below w.heap.size w w' := by
  have hc : ((I + 1 : Nat) : Int) = (I : Int) + 1 := by omega
  have hp := pb_of h
  have eR : Z.rndE m n d (F : Int) = Z.rnd m (n * 2 ^ F) d := Z.rndE_pos _ _ _ _
  have hk1 : ∀ t : Int, (t.natAbs : Int) * 2 ^ F ≤ 2305843009213693952 * d → (t.natAbs : Int) * 2 ^ (F : Int).toNat ≤ 2305843009213693952 * (d * 2 ^ (-(F : Int)).toNat) := fun t ht => by
    rw [show (F : Int).toNat = F by omega, show (-(F : Int)).toNat = 0 by omega, Int.pow_zero, Int.mul_one]; exact ht
  cases ho : (o.toList == [119, 114, 97, 112])
  · have h1 := ov_not ho
    cases hb : Z.below n d ((I : Int) + 1)
    · have e : Z.fixV (ovn o) m I F n d = Z.bey (ovn o) (k.toList == [102, 105, 120]) I F (decide (n < 0)) := by
        unfold Z.fixV; rw [if_neg h1, if_neg (Z.fix_over m I F n d (by omega) (by rw [hc]; exact hb)), hk]
      rw [e]
      exact ff_beyond k o m I F hm h n d hn hd hv ho hb w
    · obtain ⟨b1, b2, b3⟩ := fix_below (m := m) h hd.1 (by rw [hc]; exact hb)
      have hh := hp.h
      by_cases h2 : Z.rndE m n d (F : Int) < -(2 ^ (I + F))
      · have e : Z.fixV (ovn o) m I F n d = Z.bey (ovn o) (k.toList == [102, 105, 120]) I F (decide (n < 0)) := by
          unfold Z.fixV; rw [if_neg h1, if_neg (by rw [← eR]; omega), hk]
        rw [e]
        exact ff_low k o m I F hm h n d hn hd _ _ rfl rfl (by omega) (hk1 n b1) hv ho hb h2 w
      · by_cases h3 : 2 ^ (I + F) ≤ Z.rndE m n d (F : Int)
        · have e : Z.fixV (ovn o) m I F n d = Z.bey (ovn o) (k.toList == [102, 105, 120]) I F (decide (n < 0)) := by
            unfold Z.fixV; rw [if_neg h1, if_neg (by rw [← eR]; omega), hk]
          rw [e]
          exact ff_high k o m I F hm h n d hn hd _ _ rfl rfl (by omega) (hk1 n b1) hv ho hb h3 w
        · have e : Z.fixV (ovn o) m I F n d = Q.mk (Z.rndE m n d (F : Int)) (2 ^ F) := by
            unfold Z.fixV; rw [if_neg h1, if_pos (by rw [← eR]; omega), eR]
          rw [e]
          exact ff_mid k o m I F hm h n d hn hd _ _ rfl rfl (by omega) (hk1 n b1) hv ho hb (by omega) w
  · have h1 := ov_wrap ho
    have e : Z.fixV (ovn o) m I F n d = Q.mk ((Z.rndE m n d (F : Int) + 2 ^ (I + F)) % (2 * 2 ^ (I + F)) - 2 ^ (I + F)) (2 ^ F) := by
      unfold Z.fixV; rw [if_pos h1, eR]
    have hh := hp.h
    have m1 := Int.emod_nonneg (Z.rndE m n d (F : Int) + 2 ^ (I + F)) (show (2 * 2 ^ (I + F) : Int) ≠ 0 by omega)
    have m2 := Int.emod_lt_of_pos (Z.rndE m n d (F : Int) + 2 ^ (I + F)) (show (0 : Int) < 2 * 2 ^ (I + F) by omega)
    cases hb : Z.below n d ((I : Int) + 1)
    · obtain ⟨r1, r2, r3, r4⟩ := fix_rest (I := I) hn hd.1 (by rw [hc]; exact hb)
      obtain ⟨b1, b2, b3⟩ := fix_below (m := m) h hd.1 r3
      have ew := fix_wrapped (m := m) (I := I) (F := F) (n := n) hm hd.1
      rw [e]
      exact fw_out k o m I F hm h n d hn hd _ _ rfl ⟨r2, r1⟩ rfl r4 _ _ _ rfl rfl (by omega) ew ⟨m1, m2⟩ (hk1 _ b1) hv ho hb w
    · obtain ⟨b1, b2, b3⟩ := fix_below (m := m) h hd.1 (by rw [hc]; exact hb)
      rw [e]
      exact fw_in k o m I F hm h n d hn hd _ _ _ rfl rfl (by omega) rfl ⟨m1, m2⟩ (hk1 n b1) hv ho hb w
/-- What a fraction comes to in a valid format. -/
def Z.fitV (k o : ByteArray) (m I F : Nat) (n d : Int) : Int × Int := if (k.toList == [102, 105, 120]) = true then Z.fixV (ovn o) m I F n d else Z.floatV (ovn o) m I F n d
set_option maxRecDepth 100000 in
set_option maxHeartbeats 4000000 in
theorem fit_any (k o : ByteArray) (m I F : Nat) (hm : m ≤ 2) (h : I + F ≤ 30) (n d : Int) (hn : -2305843009213693952 ≤ n ∧ n ≤ 2305843009213693952) (hd : 1 ≤ d ∧ d ≤ 1152921504606846976) (hv : Hid (Z.vld k (rnm m) o (I : Int) (F : Int) = true)) (w : World) :
    Calls Tryd.prog 32 #[.agg #[.string k, .int .i64 (I : Int), .int .i64 (F : Int), .string (rnm m), .string o], .agg #[.int .i64 n, .int .i64 d]] w fun e w' => e = .returned (.agg #[.int .i64 (Z.fitV k o m I F n d).1, .int .i64 (Z.fitV k o m I F n d).2]) ∧ Below w.heap.size w w' := by
  have hfl := vld_float hv.out
  have hvp := vld_parts hv.out
  obtain ⟨p1, p2, p3, p4, p5, p6⟩ := hvp
  cases hk : (k.toList == [102, 105, 120])
  · have e : Z.fitV k o m I F n d = Z.floatV (ovn o) m I F n d := by unfold Z.fitV; rw [hk]; rfl
    rw [e]; clear e
    have kl : (k.toList == [102, 108, 111, 97, 116]) = true := by rw [hfl, hk]; rfl
    clear hfl
    obtain ⟨_, i1, i2, i3, i4⟩ := p6 hk
    clear p6 i4
    have HK0 := Lib.hid hk
    clear hk
    obtain ⟨a, b, hr⟩ : ∃ a b, Hid (Z.floatV (ovn o) m I F n d = (a, b)) := ⟨_, _, rfl⟩
    rw [hr.out]
    go_enter Tryd.func32, Tryd.ntmps32
    go_wp2_with fail
    refine (valid_any _ _ _ _ _ (by omega) (by omega) _).mono ?_
    rintro e w1 ⟨rfl, hb1⟩
    obtain ⟨hc1, hf1, hz1, hB1⟩ := after (a := w) (B := w.heap.size) (w.heap.size + 3) hb1 (by first | (with_reducible assumption) | (simp; done) | omega | (simp; omega)) (by repeat' (first | (with_reducible exact Below.refl _ _) | (with_reducible assumption) | (with_reducible refine drewN_below ?_ _) | (with_reducible refine Below.drew ?_) | (with_reducible refine Below.alloc ?_ ?_ _) | (with_reducible refine Below.setCell ?_ ?_ _) | (simp; done) | omega | (simp; omega))) (by omega)
    rw [hv.out]
    go_wp2_with fail
    refine (fitFloat_any _ _ _ _ _ hm h _ _ hn hd hv (by omega) (by omega) HK0 _).mono ?_
    rintro e w2 ⟨rfl, hb2⟩
    obtain ⟨hc2, hf2, hz2, hB2⟩ := after (a := w) (B := w.heap.size) (w.heap.size + 3) hb2 (by first | (with_reducible assumption) | (simp; done) | omega | (simp; omega)) (by repeat' (first | (with_reducible exact Below.refl _ _) | (with_reducible assumption) | (with_reducible refine drewN_below ?_ _) | (with_reducible refine Below.drew ?_) | (with_reducible refine Below.alloc ?_ ?_ _) | (with_reducible refine Below.setCell ?_ ?_ _) | (simp; done) | omega | (simp; omega))) (by omega)
    rw [hr.out]
    go_wp2
    exact bodyPost_ret (v := .agg #[.int .i64 a, .int .i64 b]) (by simp [results, Tryd.results32, go_sem, hc2, hc1]) rfl ⟨rfl, (by repeat' (first | (with_reducible exact Below.refl _ _) | (with_reducible assumption) | (with_reducible refine drewN_below ?_ _) | (with_reducible refine Below.drew ?_) | (with_reducible refine Below.alloc ?_ ?_ _) | (with_reducible refine Below.setCell ?_ ?_ _) | (simp; done) | omega | (simp; omega)))⟩
  · have e : Z.fitV k o m I F n d = Z.fixV (ovn o) m I F n d := by unfold Z.fitV; rw [hk]; rfl
    rw [e]; clear e
    have kl : (k.toList == [102, 108, 111, 97, 116]) = false := by rw [hfl, hk]; rfl
    clear hfl
    clear p6
    obtain ⟨a, b, hr⟩ : ∃ a b, Hid (Z.fixV (ovn o) m I F n d = (a, b)) := ⟨_, _, rfl⟩
    rw [hr.out]
    go_enter Tryd.func32, Tryd.ntmps32
    go_wp2_with fail
    refine (valid_any _ _ _ _ _ (by omega) (by omega) _).mono ?_
    rintro e w1 ⟨rfl, hb1⟩
    obtain ⟨hc1, hf1, hz1, hB1⟩ := after (a := w) (B := w.heap.size) (w.heap.size + 3) hb1 (by first | (with_reducible assumption) | (simp; done) | omega | (simp; omega)) (by repeat' (first | (with_reducible exact Below.refl _ _) | (with_reducible assumption) | (with_reducible refine drewN_below ?_ _) | (with_reducible refine Below.drew ?_) | (with_reducible refine Below.alloc ?_ ?_ _) | (with_reducible refine Below.setCell ?_ ?_ _) | (simp; done) | omega | (simp; omega))) (by omega)
    rw [hv.out]
    go_wp2_with fail
    refine (fitFix_any _ _ _ _ _ hm h _ _ hn hd hv hk _).mono ?_
    rintro e w2 ⟨rfl, hb2⟩
    obtain ⟨hc2, hf2, hz2, hB2⟩ := after (a := w) (B := w.heap.size) (w.heap.size + 3) hb2 (by first | (with_reducible assumption) | (simp; done) | omega | (simp; omega)) (by repeat' (first | (with_reducible exact Below.refl _ _) | (with_reducible assumption) | (with_reducible refine drewN_below ?_ _) | (with_reducible refine Below.drew ?_) | (with_reducible refine Below.alloc ?_ ?_ _) | (with_reducible refine Below.setCell ?_ ?_ _) | (simp; done) | omega | (simp; omega))) (by omega)
    rw [hr.out]
    go_wp2
    exact bodyPost_ret (v := .agg #[.int .i64 a, .int .i64 b]) (by simp [results, Tryd.results32, go_sem, hc2, hc1]) rfl ⟨rfl, (by repeat' (first | (with_reducible exact Below.refl _ _) | (with_reducible assumption) | (with_reducible refine drewN_below ?_ _) | (with_reducible refine Below.drew ?_) | (with_reducible refine Below.alloc ?_ ?_ _) | (with_reducible refine Below.setCell ?_ ?_ _) | (simp; done) | omega | (simp; omega)))⟩

set_option maxRecDepth 100000 in
set_option maxHeartbeats 1000000 in
theorem fit_none (k r o : ByteArray) (I F n d : Int) (hI : -9223372036854775808 ≤ I ∧ I ≤ 9223372036854775807) (hF : -9223372036854775808 ≤ F ∧ F ≤ 9223372036854775807) (hv : Hid (Z.vld k r o I F = false)) (w : World) :
    Calls Tryd.prog 32 #[.agg #[.string k, .int .i64 I, .int .i64 F, .string r, .string o], .agg #[.int .i64 n, .int .i64 d]] w fun e w' => e = .returned (.agg #[.int .i64 0, .int .i64 0]) ∧ Below w.heap.size w w' := by
  go_enter Tryd.func32, Tryd.ntmps32
  go_wp2_with fail
  refine (valid_any _ _ _ _ _ hI hF _).mono ?_
  rintro e w1 ⟨rfl, hb1⟩
  obtain ⟨hc1, hf1, hz1, hB1⟩ := after (a := w) (B := w.heap.size) (w.heap.size + 3) hb1 (by first | (with_reducible assumption) | (simp; done) | omega | (simp; omega)) (by repeat' (first | (with_reducible exact Below.refl _ _) | (with_reducible assumption) | (with_reducible refine drewN_below ?_ _) | (with_reducible refine Below.drew ?_) | (with_reducible refine Below.alloc ?_ ?_ _) | (with_reducible refine Below.setCell ?_ ?_ _) | (simp; done) | omega | (simp; omega))) (by omega)
  rw [hv.out]
  go_wp2
  exact bodyPost_ret (v := .agg #[.int .i64 0, .int .i64 0]) (by simp [results, Tryd.results32, go_sem, hc1]) rfl ⟨rfl, (by repeat' (first | (with_reducible exact Below.refl _ _) | (with_reducible assumption) | (with_reducible refine drewN_below ?_ _) | (with_reducible refine Below.drew ?_) | (with_reducible refine Below.alloc ?_ ?_ _) | (with_reducible refine Below.setCell ?_ ?_ _) | (simp; done) | omega | (simp; omega)))⟩

set_option maxRecDepth 100000 in
set_option maxHeartbeats 2000000 in
theorem Fit_none (k r o : ByteArray) (I F n d : Int) (hI : -9223372036854775808 ≤ I ∧ I ≤ 9223372036854775807) (hF : -9223372036854775808 ≤ F ∧ F ≤ 9223372036854775807) (hv : Hid (Q.isq n d = false ∨ Z.vld k r o I F = false)) (w : World) :
    Calls Tryd.prog 18 #[.agg #[.string k, .int .i64 I, .int .i64 F, .string r, .string o], .agg #[.int .i64 n, .int .i64 d]] w fun e w' => e = .returned (.agg #[.int .i64 0, .int .i64 0]) ∧ Below w.heap.size w w' := by
  cases hq : Q.isq n d
  · go_enter Tryd.func18, Tryd.ntmps18
    go_wp2_with fail
    refine (is_any _ _ _).mono ?_
    rintro e w1 ⟨rfl, hb1⟩
    obtain ⟨hc1, hf1, hz1, hB1⟩ := after (a := w) (B := w.heap.size) (w.heap.size + 3) hb1 (by first | (with_reducible assumption) | (simp; done) | omega | (simp; omega)) (by repeat' (first | (with_reducible exact Below.refl _ _) | (with_reducible assumption) | (with_reducible refine drewN_below ?_ _) | (with_reducible refine Below.drew ?_) | (with_reducible refine Below.alloc ?_ ?_ _) | (with_reducible refine Below.setCell ?_ ?_ _) | (simp; done) | omega | (simp; omega))) (by omega)
    rw [hq]
    go_wp2
    exact bodyPost_ret (v := .agg #[.int .i64 0, .int .i64 0]) (by simp [results, Tryd.results18, go_sem, hc1]) rfl ⟨rfl, (by repeat' (first | (with_reducible exact Below.refl _ _) | (with_reducible assumption) | (with_reducible refine drewN_below ?_ _) | (with_reducible refine Below.drew ?_) | (with_reducible refine Below.alloc ?_ ?_ _) | (with_reducible refine Below.setCell ?_ ?_ _) | (simp; done) | omega | (simp; omega)))⟩
  · have hv' : Hid (Z.vld k r o I F = false) := by have := hv.out; rw [hq] at this; unfold Hid; simpa using this
    go_enter Tryd.func18, Tryd.ntmps18
    go_wp2_with fail
    refine (is_any _ _ _).mono ?_
    rintro e w1 ⟨rfl, hb1⟩
    obtain ⟨hc1, hf1, hz1, hB1⟩ := after (a := w) (B := w.heap.size) (w.heap.size + 3) hb1 (by first | (with_reducible assumption) | (simp; done) | omega | (simp; omega)) (by repeat' (first | (with_reducible exact Below.refl _ _) | (with_reducible assumption) | (with_reducible refine drewN_below ?_ _) | (with_reducible refine Below.drew ?_) | (with_reducible refine Below.alloc ?_ ?_ _) | (with_reducible refine Below.setCell ?_ ?_ _) | (simp; done) | omega | (simp; omega))) (by omega)
    rw [hq]
    go_wp2_with fail
    refine (fit_none _ _ _ _ _ _ _ hI hF hv' _).mono ?_
    rintro e w2 ⟨rfl, hb2⟩
    obtain ⟨hc2, hf2, hz2, hB2⟩ := after (a := w) (B := w.heap.size) (w.heap.size + 3) hb2 (by first | (with_reducible assumption) | (simp; done) | omega | (simp; omega)) (by repeat' (first | (with_reducible exact Below.refl _ _) | (with_reducible assumption) | (with_reducible refine drewN_below ?_ _) | (with_reducible refine Below.drew ?_) | (with_reducible refine Below.alloc ?_ ?_ _) | (with_reducible refine Below.setCell ?_ ?_ _) | (simp; done) | omega | (simp; omega))) (by omega)
    go_wp2
    exact bodyPost_ret (v := .agg #[.int .i64 0, .int .i64 0]) (by simp [results, Tryd.results18, go_sem, hc2, hc1]) rfl ⟨rfl, (by repeat' (first | (with_reducible exact Below.refl _ _) | (with_reducible assumption) | (with_reducible refine drewN_below ?_ _) | (with_reducible refine Below.drew ?_) | (with_reducible refine Below.alloc ?_ ?_ _) | (with_reducible refine Below.setCell ?_ ?_ _) | (simp; done) | omega | (simp; omega)))⟩

set_option maxRecDepth 100000 in
set_option maxHeartbeats 2000000 in
theorem Fit_some (k o : ByteArray) (m I F : Nat) (hm : m ≤ 2) (h : I + F ≤ 30) (n d : Int) (hq : Q.isq n d = true) (hv : Hid (Z.vld k (rnm m) o (I : Int) (F : Int) = true)) (w : World) :
    Calls Tryd.prog 18 #[.agg #[.string k, .int .i64 (I : Int), .int .i64 (F : Int), .string (rnm m), .string o], .agg #[.int .i64 n, .int .i64 d]] w fun e w' => e = .returned (.agg #[.int .i64 (Z.fitV k o m I F n d).1, .int .i64 (Z.fitV k o m I F n d).2]) ∧ Below w.heap.size w w' := by
  have hb := (Q.isq_iff n d).1 hq
  obtain ⟨b1, b2, b3, b4, _⟩ := hb
  obtain ⟨a, b, hr⟩ : ∃ a b, Hid (Z.fitV k o m I F n d = (a, b)) := ⟨_, _, rfl⟩
  rw [hr.out]
  go_enter Tryd.func18, Tryd.ntmps18
  go_wp2_with fail
  refine (is_any _ _ _).mono ?_
  rintro e w1 ⟨rfl, hb1⟩
  obtain ⟨hc1, hf1, hz1, hB1⟩ := after (a := w) (B := w.heap.size) (w.heap.size + 3) hb1 (by first | (with_reducible assumption) | (simp; done) | omega | (simp; omega)) (by repeat' (first | (with_reducible exact Below.refl _ _) | (with_reducible assumption) | (with_reducible refine drewN_below ?_ _) | (with_reducible refine Below.drew ?_) | (with_reducible refine Below.alloc ?_ ?_ _) | (with_reducible refine Below.setCell ?_ ?_ _) | (simp; done) | omega | (simp; omega))) (by omega)
  rw [hq]
  go_wp2_with fail
  refine (fit_any _ _ _ _ _ hm h _ _ (by omega) (by omega) hv _).mono ?_
  rintro e w2 ⟨rfl, hb2⟩
  obtain ⟨hc2, hf2, hz2, hB2⟩ := after (a := w) (B := w.heap.size) (w.heap.size + 3) hb2 (by first | (with_reducible assumption) | (simp; done) | omega | (simp; omega)) (by repeat' (first | (with_reducible exact Below.refl _ _) | (with_reducible assumption) | (with_reducible refine drewN_below ?_ _) | (with_reducible refine Below.drew ?_) | (with_reducible refine Below.alloc ?_ ?_ _) | (with_reducible refine Below.setCell ?_ ?_ _) | (simp; done) | omega | (simp; omega))) (by omega)
  rw [hr.out]
  go_wp2
  exact bodyPost_ret (v := .agg #[.int .i64 a, .int .i64 b]) (by simp [results, Tryd.results18, go_sem, hc2, hc1]) rfl ⟨rfl, (by repeat' (first | (with_reducible exact Below.refl _ _) | (with_reducible assumption) | (with_reducible refine drewN_below ?_ _) | (with_reducible refine Below.drew ?_) | (with_reducible refine Below.alloc ?_ ?_ _) | (with_reducible refine Below.setCell ?_ ?_ _) | (simp; done) | omega | (simp; omega)))⟩

end Go.Proofs.YtpdklolfkigefaaDoor
