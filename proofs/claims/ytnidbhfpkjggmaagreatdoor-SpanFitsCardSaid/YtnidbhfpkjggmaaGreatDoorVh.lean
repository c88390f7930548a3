import Derived.Test.YtnidbhfpkjggmaaGreatDoorVe
import Derived.Test.YtnidbhfpkjggmaaGreatDoorVg
set_option linter.all false
/-
  Formats: what a fraction comes to: fit, Fit, Add, Mul, Is, Bound, Code, Value: what the calls give.
-/
namespace Go.Proofs.YtnidbhfpkjggmaaGreatDoor
open Go.RowKit
theorem ov_wrap {o : ByteArray} (h : (o.toList == [119, 114, 97, 112]) = true) : ovn o = 1 := by
  unfold ovn; rw [lit_ne h (b := [110, 111, 110, 101]) (by decide), h]; rfl
theorem ov_not {o : ByteArray} (h : (o.toList == [119, 114, 97, 112]) = false) : ovn o ≠ 1 := by
  unfold ovn; rw [h]; cases (o.toList == [110, 111, 110, 101]) <;> decide
theorem fitFix_any (k o : ByteArray) (m I F : Nat) (hm : m ≤ 2) (h : I + F ≤ 30) (n d : Int) (hn : -2305843009213693952 ≤ n ∧ n ≤ 2305843009213693952) (hd : 1 ≤ d ∧ d ≤ 1152921504606846976) (hv : Hid (Z.vld k (rnm m) o (I : Int) (F : Int) = true)) (hk : (k.toList == [102, 105, 120]) = true) (w : World) :
    Calls Tryz.prog 166 #[.agg #[.string k, .int .i64 (I : Int), .int .i64 (F : Int), .string (rnm m), .string o], .agg #[.int .i64 n, .int .i64 d]] w fun e w' => e = .returned (.agg #[.int .i64 (Z.fixV (ovn o) m I F n d).1, .int .i64 (Z.fixV (ovn o) m I F n d).2]) ∧ Below w.heap.size w w' := by
  have hc : ((I + 1 : Nat) : Int) = (I : Int) + 1 := by omega
  have hp := pb_of h
  have eR : Z.rndE m n d (F : Int) = Z.rnd m (n * 2 ^ F) d := Z.rndE_pos _ _ _ _
  have hk1 : ∀ t : Int, (t.natAbs : Int) * 2 ^ F ≤ 2305843009213693952 * d → (t.natAbs : Int) * 2 ^ (F : Int).toNat ≤ 2305843009213693952 * (d * 2 ^ (-(F : Int)).toNat) := fun t ht => by
    rw [show (F : Int).toNat = F by omega, show (-(F : Int)).toNat = 0 by omega, Int.pow_zero, Int.mul_one]; exact ht
  cases ho : (o.toList == [119, 114, 97, 112])
  · have h1 := ov_not ho
    cases hb : Z.below n d ((I : Int) + 1)
    · have e : Z.fixV (ovn o) m I F n d = Z.bey (ovn o) (k.toList == [102, 105, 120]) I F (decide (n < 0)) := by
        unfold Z.fixV; rw [if_neg h1, if_neg (Z.fix_over m I F n d (by omega) (by rw [hc]; exact hb)), hk]
      rw [e]
      exact ff_beyond k o m I F hm h n d hn hd hv ho hb w
    · obtain ⟨b1, b2, b3⟩ := fix_below (m := m) h hd.1 (by rw [hc]; exact hb)
      have hh := hp.h
      by_cases h2 : Z.rndE m n d (F : Int) < -(2 ^ (I + F))
      · have e : Z.fixV (ovn o) m I F n d = Z.bey (ovn o) (k.toList == [102, 105, 120]) I F (decide (n < 0)) := by
          unfold Z.fixV; rw [if_neg h1, if_neg (by rw [← eR]; omega), hk]
        rw [e]
        exact ff_low k o m I F hm h n d hn hd _ _ rfl rfl (by omega) (hk1 n b1) hv ho hb h2 w
      · by_cases h3 : 2 ^ (I + F) ≤ Z.rndE m n d (F : Int)
        · have e : Z.fixV (ovn o) m I F n d = Z.bey (ovn o) (k.toList == [102, 105, 120]) I F (decide (n < 0)) := by
            unfold Z.fixV; rw [if_neg h1, if_neg (by rw [← eR]; omega), hk]
          rw [e]
          exact ff_high k o m I F hm h n d hn hd _ _ rfl rfl (by omega) (hk1 n b1) hv ho hb h3 w
        · have e : Z.fixV (ovn o) m I F n d = Q.mk (Z.rndE m n d (F : Int)) (2 ^ F) := by
            unfold Z.fixV; rw [if_neg h1, if_pos (by rw [← eR]; omega), eR]
          rw [e]
          exact ff_mid k o m I F hm h n d hn hd _ _ rfl rfl (by omega) (hk1 n b1) hv ho hb (by omega) w
  · have h1 := ov_wrap ho
    have e : Z.fixV (ovn o) m I F n d = Q.mk ((Z.rndE m n d (F : Int) + 2 ^ (I + F)) % (2 * 2 ^ (I + F)) - 2 ^ (I + F)) (2 ^ F) := by
      unfold Z.fixV; rw [if_pos h1, eR]
    have hh := hp.h
    have m1 := Int.emod_nonneg (Z.rndE m n d (F : Int) + 2 ^ (I + F)) (show (2 * 2 ^ (I + F) : Int) ≠ 0 by omega)
    have m2 := Int.emod_lt_of_pos (Z.rndE m n d (F : Int) + 2 ^ (I + F)) (show (0 : Int) < 2 * 2 ^ (I + F) by omega)
    cases hb : Z.below n d ((I : Int) + 1)
    · obtain ⟨r1, r2, r3, r4⟩ := fix_rest (I := I) hn hd.1 (by rw [hc]; exact hb)
      obtain ⟨b1, b2, b3⟩ := fix_below (m := m) h hd.1 r3
      have ew := fix_wrapped (m := m) (I := I) (F := F) (n := n) hm hd.1
      rw [e]
      exact fw_out k o m I F hm h n d hn hd _ _ rfl ⟨r2, r1⟩ rfl r4 _ _ _ rfl rfl (by omega) ew ⟨m1, m2⟩ (hk1 _ b1) hv ho hb w
    · obtain ⟨b1, b2, b3⟩ := fix_below (m := m) h hd.1 (by rw [hc]; exact hb)
      rw [e]
      exact fw_in k o m I F hm h n d hn hd _ _ _ rfl rfl (by omega) rfl ⟨m1, m2⟩ (hk1 n b1) hv ho hb w
/-- What a fraction comes to in a valid format. -/
def Z.fitV (k o : ByteArray) (m I F : Nat) (n d : Int) : Int × Int := if (k.toList == [102, 105, 120]) = true then Z.fixV (ovn o) m I F n d else Z.floatV (ovn o) m I F n d
set_option maxRecDepth 100000 in
set_option maxHeartbeats 4000000 in
theorem fit_any (k o : ByteArray) (m I F : Nat) (hm : m ≤ 2) (h : I + F ≤ 30) (n d : Int) (hn : -2305843009213693952 ≤ n ∧ n ≤ 2305843009213693952) (hd : 1 ≤ d ∧ d ≤ 1152921504606846976) (hv : Hid (Z.vld k (rnm m) o (I : Int) (F : Int) = true)) (w : World) :
    Calls Tryz.prog 128 #[.agg #[.string k, .int .i64 (I : Int), .int .i64 (F : Int), .string (rnm m), .string o], .agg #[.int .i64 n, .int .i64 d]] w fun e w' => e = .returned (.agg #[.int .i64 (Z.fitV k o m I F n d).1, .int .i64 (Z.fitV k o m I F n d).2]) ∧ Below w.heap.size w w' := by
  have hfl := vld_float hv.out
  have hvp := vld_parts hv.out
  obtain ⟨p1, p2, p3, p4, p5, p6⟩ := hvp
  cases hk : (k.toList == [102, 105, 120])
  · have e : Z.fitV k o m I F n d = Z.floatV (ovn o) m I F n d := by unfold Z.fitV; rw [hk]; rfl
    rw [e]; clear e
    have kl : (k.toList == [102, 108, 111, 97, 116]) = true := by rw [hfl, hk]; rfl
    clear hfl
    obtain ⟨_, i1, i2, i3, i4⟩ := p6 hk
    clear p6 i4
    have HK0 := Lib.hid hk
    clear hk
    obtain ⟨a, b, hr⟩ : ∃ a b, Hid (Z.floatV (ovn o) m I F n d = (a, b)) := ⟨_, _, rfl⟩
    rw [hr.out]
    go_enter Tryz.func128, Tryz.ntmps128
    go_wp2_with fail
    refine (valid_any _ _ _ _ _ (by omega) (by omega) _).mono ?_
    rintro e w1 ⟨rfl, hb1⟩
    obtain ⟨hc1, hf1, hz1, hB1⟩ := after (a := w) (B := w.heap.size) (w.heap.size + 3) hb1 (by first | (with_reducible assumption) | (simp; done) | omega | (simp; omega)) bl (by omega)
    rw [hv.out]
    go_wp2_with fail
    refine (fitFloat_any _ _ _ _ _ hm h _ _ hn hd hv (by omega) (by omega) HK0 _).mono ?_
    rintro e w2 ⟨rfl, hb2⟩
    obtain ⟨hc2, hf2, hz2, hB2⟩ := after (a := w) (B := w.heap.size) (w.heap.size + 3) hb2 (by first | (with_reducible assumption) | (simp; done) | omega | (simp; omega)) bl (by omega)
    rw [hr.out]
    go_wp2
    exact bodyPost_ret (v := .agg #[.int .i64 a, .int .i64 b]) (by simp [results, Tryz.results128, go_sem, hc2, hc1]) rfl ⟨rfl, bl⟩
  · have e : Z.fitV k o m I F n d = Z.fixV (ovn o) m I F n d := by unfold Z.fitV; rw [hk]; rfl
    rw [e]; clear e
    have kl : (k.toList == [102, 108, 111, 97, 116]) = false := by rw [hfl, hk]; rfl
    clear hfl
    clear p6
    obtain ⟨a, b, hr⟩ : ∃ a b, Hid (Z.fixV (ovn o) m I F n d = (a, b)) := ⟨_, _, rfl⟩
    rw [hr.out]
    go_enter Tryz.func128, Tryz.ntmps128
    go_wp2_with fail
    refine (valid_any _ _ _ _ _ (by omega) (by omega) _).mono ?_
    rintro e w1 ⟨rfl, hb1⟩
    obtain ⟨hc1, hf1, hz1, hB1⟩ := after (a := w) (B := w.heap.size) (w.heap.size + 3) hb1 (by first | (with_reducible assumption) | (simp; done) | omega | (simp; omega)) bl (by omega)
    rw [hv.out]
    go_wp2_with fail
    refine (fitFix_any _ _ _ _ _ hm h _ _ hn hd hv hk _).mono ?_
    rintro e w2 ⟨rfl, hb2⟩
    obtain ⟨hc2, hf2, hz2, hB2⟩ := after (a := w) (B := w.heap.size) (w.heap.size + 3) hb2 (by first | (with_reducible assumption) | (simp; done) | omega | (simp; omega)) bl (by omega)
    rw [hr.out]
    go_wp2
    exact bodyPost_ret (v := .agg #[.int .i64 a, .int .i64 b]) (by simp [results, Tryz.results128, go_sem, hc2, hc1]) rfl ⟨rfl, bl⟩

set_option maxRecDepth 100000 in
set_option maxHeartbeats 1000000 in
theorem fit_none (k r o : ByteArray) (I F n d : Int) (hI : -9223372036854775808 ≤ I ∧ I ≤ 9223372036854775807) (hF : -9223372036854775808 ≤ F ∧ F ≤ 9223372036854775807) (hv : Hid (Z.vld k r o I F = false)) (w : World) :
    Calls Tryz.prog 128 #[.agg #[.string k, .int .i64 I, .int .i64 F, .string r, .string o], .agg #[.int .i64 n, .int .i64 d]] w fun e w' => e = .returned (.agg #[.int .i64 0, .int .i64 0]) ∧ Below w.heap.size w w' := by
  go_enter Tryz.func128, Tryz.ntmps128
  go_wp2_with fail
  refine (valid_any _ _ _ _ _ hI hF _).mono ?_
  rintro e w1 ⟨rfl, hb1⟩
  obtain ⟨hc1, hf1, hz1, hB1⟩ := after (a := w) (B := w.heap.size) (w.heap.size + 3) hb1 (by first | (with_reducible assumption) | (simp; done) | omega | (simp; omega)) bl (by omega)
  rw [hv.out]
  go_wp2
  exact bodyPost_ret (v := .agg #[.int .i64 0, .int .i64 0]) (by simp [results, Tryz.results128, go_sem, hc1]) rfl ⟨rfl, bl⟩

set_option maxRecDepth 100000 in
set_option maxHeartbeats 2000000 in
theorem Fit_none (k r o : ByteArray) (I F n d : Int) (hI : -9223372036854775808 ≤ I ∧ I ≤ 9223372036854775807) (hF : -9223372036854775808 ≤ F ∧ F ≤ 9223372036854775807) (hv : Hid (Q.isq n d = false ∨ Z.vld k r o I F = false)) (w : World) :
    Calls Tryz.prog 72 #[.agg #[.string k, .int .i64 I, .int .i64 F, .string r, .string o], .agg #[.int .i64 n, .int .i64 d]] w fun e w' => e = .returned (.agg #[.int .i64 0, .int .i64 0]) ∧ Below w.heap.size w w' := by
  cases hq : Q.isq n d
  · go_enter Tryz.func72, Tryz.ntmps72
    go_wp2_with fail
    refine (is_any _ _ _).mono ?_
    rintro e w1 ⟨rfl, hb1⟩
    obtain ⟨hc1, hf1, hz1, hB1⟩ := after (a := w) (B := w.heap.size) (w.heap.size + 3) hb1 (by first | (with_reducible assumption) | (simp; done) | omega | (simp; omega)) bl (by omega)
    rw [hq]
    go_wp2
    exact bodyPost_ret (v := .agg #[.int .i64 0, .int .i64 0]) (by simp [results, Tryz.results72, go_sem, hc1]) rfl ⟨rfl, bl⟩
  · have hv' : Hid (Z.vld k r o I F = false) := by have := hv.out; rw [hq] at this; unfold Hid; simpa using this
    go_enter Tryz.func72, Tryz.ntmps72
    go_wp2_with fail
    refine (is_any _ _ _).mono ?_
    rintro e w1 ⟨rfl, hb1⟩
    obtain ⟨hc1, hf1, hz1, hB1⟩ := after (a := w) (B := w.heap.size) (w.heap.size + 3) hb1 (by first | (with_reducible assumption) | (simp; done) | omega | (simp; omega)) bl (by omega)
    rw [hq]
    go_wp2_with fail
    refine (fit_none _ _ _ _ _ _ _ hI hF hv' _).mono ?_
    rintro e w2 ⟨rfl, hb2⟩
    obtain ⟨hc2, hf2, hz2, hB2⟩ := after (a := w) (B := w.heap.size) (w.heap.size + 3) hb2 (by first | (with_reducible assumption) | (simp; done) | omega | (simp; omega)) bl (by omega)
    go_wp2
    exact bodyPost_ret (v := .agg #[.int .i64 0, .int .i64 0]) (by simp [results, Tryz.results72, go_sem, hc2, hc1]) rfl ⟨rfl, bl⟩

set_option maxRecDepth 100000 in
set_option maxHeartbeats 2000000 in
theorem Fit_some (k o : ByteArray) (m I F : Nat) (hm : m ≤ 2) (h : I + F ≤ 30) (n d : Int) (hq : Q.isq n d = true) (hv : Hid (Z.vld k (rnm m) o (I : Int) (F : Int) = true)) (w : World) :
    Calls Tryz.prog 72 #[.agg #[.string k, .int .i64 (I : Int), .int .i64 (F : Int), .string (rnm m), .string o], .agg #[.int .i64 n, .int .i64 d]] w fun e w' => e = .returned (.agg #[.int .i64 (Z.fitV k o m I F n d).1, .int .i64 (Z.fitV k o m I F n d).2]) ∧ Below w.heap.size w w' := by
  have hb := (Q.isq_iff n d).1 hq
  obtain ⟨b1, b2, b3, b4, _⟩ := hb
  obtain ⟨a, b, hr⟩ : ∃ a b, Hid (Z.fitV k o m I F n d = (a, b)) := ⟨_, _, rfl⟩
  rw [hr.out]
  go_enter Tryz.func72, Tryz.ntmps72
  go_wp2_with fail
  refine (is_any _ _ _).mono ?_
  rintro e w1 ⟨rfl, hb1⟩
  obtain ⟨hc1, hf1, hz1, hB1⟩ := after (a := w) (B := w.heap.size) (w.heap.size + 3) hb1 (by first | (with_reducible assumption) | (simp; done) | omega | (simp; omega)) bl (by omega)
  rw [hq]
  go_wp2_with fail
  refine (fit_any _ _ _ _ _ hm h _ _ (by omega) (by omega) hv _).mono ?_
  rintro e w2 ⟨rfl, hb2⟩
  obtain ⟨hc2, hf2, hz2, hB2⟩ := after (a := w) (B := w.heap.size) (w.heap.size + 3) hb2 (by first | (with_reducible assumption) | (simp; done) | omega | (simp; omega)) bl (by omega)
  rw [hr.out]
  go_wp2
  exact bodyPost_ret (v := .agg #[.int .i64 a, .int .i64 b]) (by simp [results, Tryz.results72, go_sem, hc2, hc1]) rfl ⟨rfl, bl⟩

end Go.Proofs.YtnidbhfpkjggmaaGreatDoor

/-
  Formats: the program's functions at any format and any number: what the calls give.
-/
namespace Go.Proofs.YtnidbhfpkjggmaaGreatDoor
open Go.RowKit
theorem of_list {s : ByteArray} {l : List UInt8} (h : (s.toList == l) = true) : s = ⟨l.toArray⟩ := by
  rw [beq_iff_eq, ByteArray.toList_eq] at h
  cases s with | mk d => cases d with | mk l' => simp at h; rw [h]
namespace Z
def rdm (r : ByteArray) : Nat := if r.toList == [110, 101, 97, 114] then 1 else if r.toList == [122, 101, 114, 111] then 2 else 0
theorem rdm_le (r : ByteArray) : rdm r ≤ 2 := by unfold rdm; split <;> (try split) <;> omega
theorem rnm_rdm {r : ByteArray} (h : hrd r = true) : rnm (rdm r) = r := by
  unfold rdm
  cases h1 : (r.toList == [110, 101, 97, 114])
  · cases h2 : (r.toList == [122, 101, 114, 111])
    · unfold hrd at h; rw [h1, h2] at h
      rw [of_list (show (r.toList == [102, 108, 111, 111, 114]) = true by simpa using h)]; rfl
    · rw [of_list h2]; rfl
  · rw [of_list h1]; rfl
/-- What the functions give, at any format and any numbers. -/
def fitQ (k r o : ByteArray) (I F n d : Int) : Int × Int := if (Q.isq n d && vld k r o I F) = true then fitV k o (rdm r) I.toNat F.toNat n d else (0, 0)
def lstQ (k r o : ByteArray) (I F : Int) : Int × Int := if vld k r o I F = true then lst (k.toList == [102, 105, 120]) I.toNat F.toNat else (0, 0)
def grtQ (k r o : ByteArray) (I F : Int) : Int × Int := if vld k r o I F = true then grt (k.toList == [102, 105, 120]) I.toNat F.toNat else (0, 0)
def stpQ (k r o : ByteArray) (I F : Int) : Int × Int := if vld k r o I F = true then Q.mk 1 (2 ^ F.toNat) else (0, 0)
end Z
/-- A valid format's fields, by their names. -/
theorem vld_open {k r o : ByteArray} {I F : Int} (h : Z.vld k r o I F = true) : ∃ (m : Nat) (i f : Nat), m = Z.rdm r ∧ m ≤ 2 ∧ r = rnm m ∧ I = i ∧ F = f ∧ i + f ≤ 30 := by
  obtain ⟨p1, p2, p3, p4, p5, p6⟩ := vld_parts h
  obtain ⟨i, rfl⟩ := Int.eq_ofNat_of_zero_le p1
  obtain ⟨f, rfl⟩ := Int.eq_ofNat_of_zero_le p3
  have hr : Z.hrd r = true := by unfold Z.vld at h; simp only [Bool.and_eq_true] at h; exact h.1.2
  exact ⟨_, i, f, rfl, Z.rdm_le r, (Z.rnm_rdm hr).symm, rfl, rfl, by omega⟩
set_option maxRecDepth 100000 in
set_option maxHeartbeats 1000000 in
theorem Fit_any (k r o : ByteArray) (I F : Int) (n d : Int) (hI : -9223372036854775808 ≤ I ∧ I ≤ 9223372036854775807) (hF : -9223372036854775808 ≤ F ∧ F ≤ 9223372036854775807) (w : World) :
    Calls Tryz.prog 72 #[.agg #[.string k, .int .i64 I, .int .i64 F, .string r, .string o], .agg #[.int .i64 n, .int .i64 d]] w fun e w' => e = .returned (.agg #[.int .i64 (Z.fitQ k r o I F n d).1, .int .i64 (Z.fitQ k r o I F n d).2]) ∧ Below w.heap.size w w' := by
  by_cases hc : (Q.isq n d && Z.vld k r o I F) = true
  · rw [Bool.and_eq_true] at hc
    have e : Z.fitQ k r o I F n d = Z.fitV k o (Z.rdm r) I.toNat F.toNat n d := by unfold Z.fitQ; rw [if_pos (by rw [hc.1, hc.2]; rfl)]
    rw [e]
    obtain ⟨m, i, f, hm, hm2, hr, rfl, rfl, hs⟩ := vld_open hc.2
    rw [← hm]
    rw [hr] at hc ⊢
    exact Fit_some k o m i f hm2 hs n d hc.1 hc.2 w
  · have e : Z.fitQ k r o I F n d = (0, 0) := by unfold Z.fitQ; rw [if_neg hc]
    rw [e]
    exact Fit_none k r o I F n d hI hF (by unfold Hid; cases h1 : Q.isq n d <;> cases h2 : Z.vld k r o I F <;> simp [h1, h2] at hc ⊢) w

set_option maxRecDepth 100000 in
set_option maxHeartbeats 1000000 in
theorem Least_any (k r o : ByteArray) (I F : Int) (hI : -9223372036854775808 ≤ I ∧ I ≤ 9223372036854775807) (hF : -9223372036854775808 ≤ F ∧ F ≤ 9223372036854775807) (w : World) :
    Calls Tryz.prog 73 #[.agg #[.string k, .int .i64 I, .int .i64 F, .string r, .string o]] w fun e w' => e = .returned (.agg #[.int .i64 (Z.lstQ k r o I F).1, .int .i64 (Z.lstQ k r o I F).2]) ∧ Below w.heap.size w w' := by
  by_cases hc : Z.vld k r o I F = true
  · have e : Z.lstQ k r o I F = Z.lst (k.toList == [102, 105, 120]) I.toNat F.toNat := by unfold Z.lstQ; rw [if_pos hc]
    rw [e]
    obtain ⟨m, i, f, hm, hm2, hr, rfl, rfl, hs⟩ := vld_open hc
    exact least_any k r o i f hs hc w
  · have e : Z.lstQ k r o I F = (0, 0) := by unfold Z.lstQ; rw [if_neg hc]
    rw [e]
    exact least_none k r o I F hI hF (by simpa [Hid] using hc) w

set_option maxRecDepth 100000 in
set_option maxHeartbeats 1000000 in
theorem Greatest_any (k r o : ByteArray) (I F : Int) (hI : -9223372036854775808 ≤ I ∧ I ≤ 9223372036854775807) (hF : -9223372036854775808 ≤ F ∧ F ≤ 9223372036854775807) (w : World) :
    Calls Tryz.prog 74 #[.agg #[.string k, .int .i64 I, .int .i64 F, .string r, .string o]] w fun e w' => e = .returned (.agg #[.int .i64 (Z.grtQ k r o I F).1, .int .i64 (Z.grtQ k r o I F).2]) ∧ Below w.heap.size w w' := by
  by_cases hc : Z.vld k r o I F = true
  · have e : Z.grtQ k r o I F = Z.grt (k.toList == [102, 105, 120]) I.toNat F.toNat := by unfold Z.grtQ; rw [if_pos hc]
    rw [e]
    obtain ⟨m, i, f, hm, hm2, hr, rfl, rfl, hs⟩ := vld_open hc
    exact greatest_any k r o i f hs hc w
  · have e : Z.grtQ k r o I F = (0, 0) := by unfold Z.grtQ; rw [if_neg hc]
    rw [e]
    exact greatest_none k r o I F hI hF (by simpa [Hid] using hc) w

set_option maxRecDepth 100000 in
set_option maxHeartbeats 1000000 in
theorem Step_any (k r o : ByteArray) (I F : Int) (hI : -9223372036854775808 ≤ I ∧ I ≤ 9223372036854775807) (hF : -9223372036854775808 ≤ F ∧ F ≤ 9223372036854775807) (w : World) :
    Calls Tryz.prog 75 #[.agg #[.string k, .int .i64 I, .int .i64 F, .string r, .string o]] w fun e w' => e = .returned (.agg #[.int .i64 (Z.stpQ k r o I F).1, .int .i64 (Z.stpQ k r o I F).2]) ∧ Below w.heap.size w w' := by
  by_cases hc : Z.vld k r o I F = true
  · have e : Z.stpQ k r o I F = Q.mk 1 (2 ^ F.toNat) := by unfold Z.stpQ; rw [if_pos hc]
    rw [e]
    obtain ⟨m, i, f, hm, hm2, hr, rfl, rfl, hs⟩ := vld_open hc
    exact step_any k r o i f hs hc w
  · have e : Z.stpQ k r o I F = (0, 0) := by unfold Z.stpQ; rw [if_neg hc]
    rw [e]
    exact step_none k r o I F hI hF (by simpa [Hid] using hc) w

end Go.Proofs.YtnidbhfpkjggmaaGreatDoor
