/-
  Formats: the ends, the step; what lies beyond: what each call gives.
-/
import Derived.Test.YtpdklolfkigefaaDoorVa
import Derived.Test.YtpdklolfkigefaaDoorZf
import Derived.Test.YtpdklolfkigefaaDoorZo
set_option linter.all false
namespace Go.Proofs.YtpdklolfkigefaaDoor
open Go.RowKit
theorem power_any (m x : Int) (hx : -30 ≤ x ∧ x ≤ 30) (hm : -4611686018427387904 ≤ m * 2 ^ x.toNat ∧ m * 2 ^ x.toNat ≤ 4611686018427387904) (w : World) :
    Calls Tryd.prog 69 #[.int .i64 m, .int .i64 x] w fun e w' => e = .returned (.agg #[.int .i64 (Z.pw m x).1, .int .i64 (Z.pw m x).2]) ∧ Below w.heap.size w w' := by
  unfold Z.pw
  by_cases h : x < 0
  · rw [if_pos h]
    have hj : x = -((-x).toNat : Int) := by omega
    have r := power_neg m (-x).toNat (by omega) (by rw [show x.toNat = 0 by omega, Int.pow_zero, Int.mul_one] at hm; exact hm) w
    rw [← hj] at r
    exact r
  · rw [if_neg h]
    have hj : x = (x.toNat : Int) := by omega
    have r := power_pos m x.toNat (by omega) hm w
    rw [← hj] at r
    exact r
/-- What a valid format's fields are. -/
theorem vld_parts {k r o : ByteArray} {I F : Int} (h : Z.vld k r o I F = true) : 0 ≤ I ∧ I ≤ 30 ∧ 0 ≤ F ∧ F ≤ 30 ∧ I + F ≤ 30 ∧ ((k.toList == [102, 105, 120]) = false → (k.toList == [102, 108, 111, 97, 116]) = true ∧ 1 ≤ I ∧ I ≤ 24 ∧ F ≤ 20 ∧ (o.toList == [119, 114, 97, 112]) = false) := by
  unfold Z.vld Z.hsz at h
  rw [Bool.and_eq_true, Bool.and_eq_true] at h
  obtain ⟨⟨h1, h2⟩, h3⟩ := h
  split at h1
  · rename_i hk
    have := of_decide_eq_true h1
    exact ⟨by omega, by omega, by omega, by omega, by omega, fun hh => by rw [hk] at hh; cases hh⟩
  · split at h1
    · rename_i hk hf
      have := of_decide_eq_true h1
      refine ⟨by omega, by omega, by omega, by omega, by omega, fun hh => ⟨hf, by omega, by omega, by omega, ?_⟩⟩
      cases ho : (o.toList == [119, 114, 97, 112])
      · rfl
      · unfold Z.hov at h3
        rw [hh, lit_ne ho (b := [115, 97, 116]) (by decide), lit_ne ho (b := [110, 111, 110, 101]) (by decide), ho] at h3
        cases h3
    · cases h1
theorem vld_float {k r o : ByteArray} {I F : Int} (h : Z.vld k r o I F = true) : (k.toList == [102, 108, 111, 97, 116]) = !(k.toList == [102, 105, 120]) := by
  cases hk : (k.toList == [102, 105, 120])
  · exact ((vld_parts h).2.2.2.2.2 hk).1
  · exact lit_ne hk (by decide)
/-- What a valid format's powers are. -/
structure PB (I F : Nat) : Prop where
  s : I + F ≤ 30
  i : (1 : Int) ≤ 2 ^ I ∧ (2 : Int) ^ I ≤ 1073741824
  h : (1 : Int) ≤ 2 ^ (I + F) ∧ (2 : Int) ^ (I + F) ≤ 1073741824
  f : (1 : Int) ≤ 2 ^ F ∧ (2 : Int) ^ F ≤ 1073741824
theorem pb_of {I F : Nat} (h : I + F ≤ 30) : PB I F := ⟨h, Z.p2_30 I (by omega), Z.p2_30 _ h, Z.p2_30 F (by omega)⟩
theorem top_bd {I F : Nat} (h : I + F ≤ 30) : 0 ≤ (2 ^ I - 1 : Int) * 2 ^ F ∧ (2 ^ I - 1 : Int) * 2 ^ F ≤ 1073741824 := by
  have p := pb_of h
  constructor
  · exact Int.mul_nonneg (by have := p.i; omega) (by have := p.f; omega)
  · have : (2 ^ I - 1 : Int) * 2 ^ F ≤ 2 ^ I * 2 ^ F := Int.mul_le_mul_of_nonneg_right (by omega) (by have := p.f; omega)
    rw [← Z.p2_add] at this
    have := p.h
    omega
set_option maxRecDepth 100000 in
set_option maxHeartbeats 1000000 in
theorem least_none (k r o : ByteArray) (I F : Int) (hI : -9223372036854775808 ≤ I ∧ I ≤ 9223372036854775807) (hF : -9223372036854775808 ≤ F ∧ F ≤ 9223372036854775807) (hv : Hid (Z.vld k r o I F = false)) (w : World) :
    Calls Tryd.prog 83 #[.agg #[.string k, .int .i64 I, .int .i64 F, .string r, .string o]] w fun e w' => e = .returned (.agg #[.int .i64 0, .int .i64 0]) ∧ Below w.heap.size w w' := by
  go_enter Tryd.func83, Tryd.ntmps83
  go_wp2_with fail
  refine (valid_any _ _ _ _ _ hI hF _).mono ?_
  rintro e w1 ⟨rfl, hb1⟩
  obtain ⟨hc1, hf1, hz1, hB1⟩ := after (a := w) (B := w.heap.size) (w.heap.size + 2) hb1 (by first | (with_reducible assumption) | (simp; done) | omega | (simp; omega)) (by repeat' (first | (with_reducible exact Below.refl _ _) | (with_reducible assumption) | (with_reducible refine drewN_below ?_ _) | (with_reducible refine Below.drew ?_) | (with_reducible refine Below.alloc ?_ ?_ _) | (with_reducible refine Below.setCell ?_ ?_ _) | (simp; done) | omega | (simp; omega))) (by omega)
  rw [hv.out]
  go_wp2
  exact bodyPost_ret (v := .agg #[.int .i64 0, .int .i64 0]) (by simp [results, Tryd.results83, go_sem, hc1]) rfl ⟨rfl, (by repeat' (first | (with_reducible exact Below.refl _ _) | (with_reducible assumption) | (with_reducible refine drewN_below ?_ _) | (with_reducible refine Below.drew ?_) | (with_reducible refine Below.alloc ?_ ?_ _) | (with_reducible refine Below.setCell ?_ ?_ _) | (simp; done) | omega | (simp; omega)))⟩

set_option maxRecDepth 100000 in
set_option maxHeartbeats 1000000 in
theorem greatest_none (k r o : ByteArray) (I F : Int) (hI : -9223372036854775808 ≤ I ∧ I ≤ 9223372036854775807) (hF : -9223372036854775808 ≤ F ∧ F ≤ 9223372036854775807) (hv : Hid (Z.vld k r o I F = false)) (w : World) :
    Calls Tryd.prog 84 #[.agg #[.string k, .int .i64 I, .int .i64 F, .string r, .string o]] w fun e w' => e = .returned (.agg #[.int .i64 0, .int .i64 0]) ∧ Below w.heap.size w w' := by
  go_enter Tryd.func84, Tryd.ntmps84
  go_wp2_with fail
  refine (valid_any _ _ _ _ _ hI hF _).mono ?_
  rintro e w1 ⟨rfl, hb1⟩
  obtain ⟨hc1, hf1, hz1, hB1⟩ := after (a := w) (B := w.heap.size) (w.heap.size + 2) hb1 (by first | (with_reducible assumption) | (simp; done) | omega | (simp; omega)) (by repeat' (first | (with_reducible exact Below.refl _ _) | (with_reducible assumption) | (with_reducible refine drewN_below ?_ _) | (with_reducible refine Below.drew ?_) | (with_reducible refine Below.alloc ?_ ?_ _) | (with_reducible refine Below.setCell ?_ ?_ _) | (simp; done) | omega | (simp; omega))) (by omega)
  rw [hv.out]
  go_wp2
  exact bodyPost_ret (v := .agg #[.int .i64 0, .int .i64 0]) (by simp [results, Tryd.results84, go_sem, hc1]) rfl ⟨rfl, (by repeat' (first | (with_reducible exact Below.refl _ _) | (with_reducible assumption) | (with_reducible refine drewN_below ?_ _) | (with_reducible refine Below.drew ?_) | (with_reducible refine Below.alloc ?_ ?_ _) | (with_reducible refine Below.setCell ?_ ?_ _) | (simp; done) | omega | (simp; omega)))⟩

set_option maxRecDepth 100000 in
set_option maxHeartbeats 2000000 in
theorem greatest_any (k r o : ByteArray) (I F : Nat) (h : I + F ≤ 30) (hv : Hid (Z.vld k r o (I : Int) (F : Int) = true)) (w : World) :
    Calls Tryd.prog 84 #[.agg #[.string k, .int .i64 (I : Int), .int .i64 (F : Int), .string r, .string o]] w fun e w' => e = .returned (.agg #[.int .i64 (Z.grt (k.toList == [102, 105, 120]) I F).1, .int .i64 (Z.grt (k.toList == [102, 105, 120]) I F).2]) ∧ Below w.heap.size w w' := by
  have hfl := vld_float hv.out
  have hB := pb_of h
  have B1 := hB.h
  have B2 := hB.i
  have B3 := top_bd h
  clear hB
  have x0 : IntKind.i64.wrap (2 ^ I) = 2 ^ I := Z.i64_in _ (by omega)
  have x1 : IntKind.i64.wrap (2 ^ I - 1) = 2 ^ I - 1 := Z.i64_in _ (by omega)
  have x2 : IntKind.i64.wrap (2 ^ (I + F)) = 2 ^ (I + F) := Z.i64_in _ (by omega)
  have x3 : IntKind.i64.wrap (2 ^ (I + F) - 1) = 2 ^ (I + F) - 1 := Z.i64_in _ (by omega)
  have x4 : IntKind.i64.wrap (-(2 ^ (I + F))) = -(2 ^ (I + F)) := Z.i64_in _ (by omega)
  cases hk : (k.toList == [102, 105, 120])
  · rw [hk] at hfl
    have e : Z.grt false I F = Q.mk ((2 ^ I - 1) * 2 ^ F) 1 := rfl
    rw [e]; clear e
    have kl : (k.toList == [102, 108, 111, 97, 116]) = true := hfl
    clear hfl hk
    obtain ⟨a, b, hr⟩ : ∃ a b, Hid (Q.mk ((2 ^ I - 1) * 2 ^ F) 1 = (a, b)) := ⟨_, _, rfl⟩
    rw [hr.out]
    go_enter Tryd.func84, Tryd.ntmps84
    go_wp2_with fail
    refine (valid_any _ _ _ _ _ (by omega) (by omega) _).mono ?_
    rintro e w1 ⟨rfl, hb1⟩
    obtain ⟨hc1, hf1, hz1, hB1⟩ := after (a := w) (B := w.heap.size) (w.heap.size + 2) hb1 (by first | (with_reducible assumption) | (simp; done) | omega | (simp; omega)) (by repeat' (first | (with_reducible exact Below.refl _ _) | (with_reducible assumption) | (with_reducible refine drewN_below ?_ _) | (with_reducible refine Below.drew ?_) | (with_reducible refine Below.alloc ?_ ?_ _) | (with_reducible refine Below.setCell ?_ ?_ _) | (simp; done) | omega | (simp; omega))) (by omega)
    rw [hv.out]
    go_wp2_with fail
    go_region_with (first | (go_at_call 69; refine (power_pos _ _ (by omega) (by omega) _).mono ?_; rintro e ws ⟨rfl, hbs⟩; obtain ⟨hcs, hfs, hzs, hBs⟩ := after (a := w) (B := w.heap.size) (w.heap.size + 2) hbs (by first | (with_reducible assumption) | (simp; done) | omega | (simp; omega)) (by repeat' (first | (with_reducible exact Below.refl _ _) | (with_reducible assumption) | (with_reducible refine drewN_below ?_ _) | (with_reducible refine Below.drew ?_) | (with_reducible refine Below.alloc ?_ ?_ _) | (with_reducible refine Below.setCell ?_ ?_ _) | (simp; done) | omega | (simp; omega))) (by omega); rw [hr.out]))
    all_goals
      go_wp2
      exact bodyPost_ret (v := .agg #[.int .i64 a, .int .i64 b]) (by simp [results, Tryd.results84, go_sem, hcs, hc1]) rfl ⟨rfl, (by repeat' (first | (with_reducible exact Below.refl _ _) | (with_reducible assumption) | (with_reducible refine drewN_below ?_ _) | (with_reducible refine Below.drew ?_) | (with_reducible refine Below.alloc ?_ ?_ _) | (with_reducible refine Below.setCell ?_ ?_ _) | (simp; done) | omega | (simp; omega)))⟩
  · rw [hk] at hfl
    have e : Z.grt true I F = Q.mk (2 ^ (I + F) - 1) (2 ^ F) := rfl
    rw [e]; clear e
    have kl : (k.toList == [102, 108, 111, 97, 116]) = false := hfl
    clear hfl hk
    obtain ⟨a, b, hr⟩ : ∃ a b, Hid (Q.mk (2 ^ (I + F) - 1) (2 ^ F) = (a, b)) := ⟨_, _, rfl⟩
    rw [hr.out]
    go_enter Tryd.func84, Tryd.ntmps84
    go_wp2_with fail
    refine (valid_any _ _ _ _ _ (by omega) (by omega) _).mono ?_
    rintro e w1 ⟨rfl, hb1⟩
    obtain ⟨hc1, hf1, hz1, hB1⟩ := after (a := w) (B := w.heap.size) (w.heap.size + 2) hb1 (by first | (with_reducible assumption) | (simp; done) | omega | (simp; omega)) (by repeat' (first | (with_reducible exact Below.refl _ _) | (with_reducible assumption) | (with_reducible refine drewN_below ?_ _) | (with_reducible refine Below.drew ?_) | (with_reducible refine Below.alloc ?_ ?_ _) | (with_reducible refine Below.setCell ?_ ?_ _) | (simp; done) | omega | (simp; omega))) (by omega)
    rw [hv.out]
    go_wp2_with fail
    go_region_with (first | (go_at_call 70; refine (half_any _ _ _ _ _ h _).mono ?_; rintro e wh ⟨rfl, hbh⟩; obtain ⟨hch, hfh, hzh, hBh⟩ := after (a := w) (B := w.heap.size) (w.heap.size + 2) hbh (by first | (with_reducible assumption) | (simp; done) | omega | (simp; omega)) (by repeat' (first | (with_reducible exact Below.refl _ _) | (with_reducible assumption) | (with_reducible refine drewN_below ?_ _) | (with_reducible refine Below.drew ?_) | (with_reducible refine Below.alloc ?_ ?_ _) | (with_reducible refine Below.setCell ?_ ?_ _) | (simp; done) | omega | (simp; omega))) (by omega)) | (go_at_call 71; refine (steps_any _ _ _ _ _ _ (by omega) (by omega) _).mono ?_; rintro e ws ⟨rfl, hbs⟩; obtain ⟨hcs, hfs, hzs, hBs⟩ := after (a := w) (B := w.heap.size) (w.heap.size + 2) hbs (by first | (with_reducible assumption) | (simp; done) | omega | (simp; omega)) (by repeat' (first | (with_reducible exact Below.refl _ _) | (with_reducible assumption) | (with_reducible refine drewN_below ?_ _) | (with_reducible refine Below.drew ?_) | (with_reducible refine Below.alloc ?_ ?_ _) | (with_reducible refine Below.setCell ?_ ?_ _) | (simp; done) | omega | (simp; omega))) (by omega); rw [hr.out]))
    all_goals
      go_wp2
      exact bodyPost_ret (v := .agg #[.int .i64 a, .int .i64 b]) (by simp [results, Tryd.results84, go_sem, hcs, hch, hc1]) rfl ⟨rfl, (by repeat' (first | (with_reducible exact Below.refl _ _) | (with_reducible assumption) | (with_reducible refine drewN_below ?_ _) | (with_reducible refine Below.drew ?_) | (with_reducible refine Below.alloc ?_ ?_ _) | (with_reducible refine Below.setCell ?_ ?_ _) | (simp; done) | omega | (simp; omega)))⟩

set_option maxRecDepth 100000 in
set_option maxHeartbeats 2000000 in
theorem least_any (k r o : ByteArray) (I F : Nat) (h : I + F ≤ 30) (hv : Hid (Z.vld k r o (I : Int) (F : Int) = true)) (w : World) :
    Calls Tryd.prog 83 #[.agg #[.string k, .int .i64 (I : Int), .int .i64 (F : Int), .string r, .string o]] w fun e w' => e = .returned (.agg #[.int .i64 (Z.lst (k.toList == [102, 105, 120]) I F).1, .int .i64 (Z.lst (k.toList == [102, 105, 120]) I F).2]) ∧ Below w.heap.size w w' := by
  have hfl := vld_float hv.out
  have hB := pb_of h
  have B1 := hB.h
  have B2 := hB.i
  have B3 := top_bd h
  clear hB
  have x0 : IntKind.i64.wrap (2 ^ I) = 2 ^ I := Z.i64_in _ (by omega)
  have x1 : IntKind.i64.wrap (2 ^ I - 1) = 2 ^ I - 1 := Z.i64_in _ (by omega)
  have x2 : IntKind.i64.wrap (2 ^ (I + F)) = 2 ^ (I + F) := Z.i64_in _ (by omega)
  have x3 : IntKind.i64.wrap (2 ^ (I + F) - 1) = 2 ^ (I + F) - 1 := Z.i64_in _ (by omega)
  have x4 : IntKind.i64.wrap (-(2 ^ (I + F))) = -(2 ^ (I + F)) := Z.i64_in _ (by omega)
  cases hk : (k.toList == [102, 105, 120])
  · have e : Z.lst false I F = Q.mk (-((2 ^ I - 1) * 2 ^ F)) 1 := rfl
    rw [e]; clear e
    have kl : (k.toList == [102, 108, 111, 97, 116]) = true := by rw [hfl, hk]; rfl
    clear hfl
    obtain ⟨a, b, hr⟩ : ∃ a b, Hid (Q.mk (-((2 ^ I - 1) * 2 ^ F)) 1 = (a, b)) := ⟨_, _, rfl⟩
    rw [hr.out]
    have hg := Q.mk_one (n := (2 ^ I - 1) * 2 ^ F) (by omega)
    have hng : Q.neg (Q.mk ((2 ^ I - 1) * 2 ^ F) 1) = (a, b) := by
      rw [← hr.out, hg.1, (Q.mk_one (n := -((2 ^ I - 1) * 2 ^ F)) (by omega)).1]
      unfold Q.neg; rw [hg.2]; rfl
    have HN := Lib.hid hng
    clear hg hng
    have egr : Z.grt (k.toList == [102, 105, 120]) I F = Q.mk ((2 ^ I - 1) * 2 ^ F) 1 := by rw [hk]; rfl
    have HG := Lib.hid egr
    clear egr
    obtain ⟨g1, g2, hgg⟩ : ∃ g1 g2, Hid (Q.mk ((2 ^ I - 1) * 2 ^ F) 1 = (g1, g2)) := ⟨_, _, rfl⟩
    rw [hgg.out] at HN
    go_enter Tryd.func83, Tryd.ntmps83
    go_wp2_with fail
    refine (valid_any _ _ _ _ _ (by omega) (by omega) _).mono ?_
    rintro e w1 ⟨rfl, hb1⟩
    obtain ⟨hc1, hf1, hz1, hB1⟩ := after (a := w) (B := w.heap.size) (w.heap.size + 2) hb1 (by first | (with_reducible assumption) | (simp; done) | omega | (simp; omega)) (by repeat' (first | (with_reducible exact Below.refl _ _) | (with_reducible assumption) | (with_reducible refine drewN_below ?_ _) | (with_reducible refine Below.drew ?_) | (with_reducible refine Below.alloc ?_ ?_ _) | (with_reducible refine Below.setCell ?_ ?_ _) | (simp; done) | omega | (simp; omega))) (by omega)
    rw [hv.out]
    go_wp2_with fail
    refine (greatest_any _ _ _ _ _ h hv _).mono ?_
    rintro e w2 ⟨rfl, hb2⟩
    obtain ⟨hc2, hf2, hz2, hB2⟩ := after (a := w) (B := w.heap.size) (w.heap.size + 2) hb2 (by first | (with_reducible assumption) | (simp; done) | omega | (simp; omega)) (by repeat' (first | (with_reducible exact Below.refl _ _) | (with_reducible assumption) | (with_reducible refine drewN_below ?_ _) | (with_reducible refine Below.drew ?_) | (with_reducible refine Below.alloc ?_ ?_ _) | (with_reducible refine Below.setCell ?_ ?_ _) | (simp; done) | omega | (simp; omega))) (by omega)
    rw [HG.out, hgg.out]
    go_wp2_with fail
    refine (neg_any _ _ _).mono ?_
    rintro e w3 ⟨rfl, hb3⟩
    obtain ⟨hc3, hf3, hz3, hB3⟩ := after (a := w) (B := w.heap.size) (w.heap.size + 2) hb3 (by first | (with_reducible assumption) | (simp; done) | omega | (simp; omega)) (by repeat' (first | (with_reducible exact Below.refl _ _) | (with_reducible assumption) | (with_reducible refine drewN_below ?_ _) | (with_reducible refine Below.drew ?_) | (with_reducible refine Below.alloc ?_ ?_ _) | (with_reducible refine Below.setCell ?_ ?_ _) | (simp; done) | omega | (simp; omega))) (by omega)
    rw [HN.out]
    go_wp2
    exact bodyPost_ret (v := .agg #[.int .i64 a, .int .i64 b]) (by simp [results, Tryd.results83, go_sem, hc3, hc2, hc1]) rfl ⟨rfl, (by repeat' (first | (with_reducible exact Below.refl _ _) | (with_reducible assumption) | (with_reducible refine drewN_below ?_ _) | (with_reducible refine Below.drew ?_) | (with_reducible refine Below.alloc ?_ ?_ _) | (with_reducible refine Below.setCell ?_ ?_ _) | (simp; done) | omega | (simp; omega)))⟩
  · have e : Z.lst true I F = Q.mk (-(2 ^ (I + F))) (2 ^ F) := rfl
    rw [e]; clear e
    have kl : (k.toList == [102, 108, 111, 97, 116]) = false := by rw [hfl, hk]; rfl
    clear hfl
    obtain ⟨a, b, hr⟩ : ∃ a b, Hid (Q.mk (-(2 ^ (I + F))) (2 ^ F) = (a, b)) := ⟨_, _, rfl⟩
    rw [hr.out]
    clear hk
    go_enter Tryd.func83, Tryd.ntmps83
    go_wp2_with fail
    refine (valid_any _ _ _ _ _ (by omega) (by omega) _).mono ?_
    rintro e w1 ⟨rfl, hb1⟩
    obtain ⟨hc1, hf1, hz1, hB1⟩ := after (a := w) (B := w.heap.size) (w.heap.size + 2) hb1 (by first | (with_reducible assumption) | (simp; done) | omega | (simp; omega)) (by repeat' (first | (with_reducible exact Below.refl _ _) | (with_reducible assumption) | (with_reducible refine drewN_below ?_ _) | (with_reducible refine Below.drew ?_) | (with_reducible refine Below.alloc ?_ ?_ _) | (with_reducible refine Below.setCell ?_ ?_ _) | (simp; done) | omega | (simp; omega))) (by omega)
    rw [hv.out]
    go_wp2_with fail
    go_region_with (first | (go_at_call 70; refine (half_any _ _ _ _ _ h _).mono ?_; rintro e wh ⟨rfl, hbh⟩; obtain ⟨hch, hfh, hzh, hBh⟩ := after (a := w) (B := w.heap.size) (w.heap.size + 2) hbh (by first | (with_reducible assumption) | (simp; done) | omega | (simp; omega)) (by repeat' (first | (with_reducible exact Below.refl _ _) | (with_reducible assumption) | (with_reducible refine drewN_below ?_ _) | (with_reducible refine Below.drew ?_) | (with_reducible refine Below.alloc ?_ ?_ _) | (with_reducible refine Below.setCell ?_ ?_ _) | (simp; done) | omega | (simp; omega))) (by omega)) | (go_at_call 71; refine (steps_any _ _ _ _ _ _ (by omega) (by omega) _).mono ?_; rintro e ws ⟨rfl, hbs⟩; obtain ⟨hcs, hfs, hzs, hBs⟩ := after (a := w) (B := w.heap.size) (w.heap.size + 2) hbs (by first | (with_reducible assumption) | (simp; done) | omega | (simp; omega)) (by repeat' (first | (with_reducible exact Below.refl _ _) | (with_reducible assumption) | (with_reducible refine drewN_below ?_ _) | (with_reducible refine Below.drew ?_) | (with_reducible refine Below.alloc ?_ ?_ _) | (with_reducible refine Below.setCell ?_ ?_ _) | (simp; done) | omega | (simp; omega))) (by omega); rw [hr.out]))
    all_goals
      go_wp2
      exact bodyPost_ret (v := .agg #[.int .i64 a, .int .i64 b]) (by simp [results, Tryd.results83, go_sem, hcs, hch, hc1]) rfl ⟨rfl, (by repeat' (first | (with_reducible exact Below.refl _ _) | (with_reducible assumption) | (with_reducible refine drewN_below ?_ _) | (with_reducible refine Below.drew ?_) | (with_reducible refine Below.alloc ?_ ?_ _) | (with_reducible refine Below.setCell ?_ ?_ _) | (simp; done) | omega | (simp; omega)))⟩

/-- How a name of Over is counted. -/
def ovn (o : ByteArray) : Nat := if o.toList == [110, 111, 110, 101] then 2 else if o.toList == [119, 114, 97, 112] then 1 else 0
set_option maxRecDepth 100000 in
set_option maxHeartbeats 2000000 in
theorem beyond_any (k r o : ByteArray) (I F : Nat) (h : I + F ≤ 30) (n d : Int) (hv : Hid (Z.vld k r o (I : Int) (F : Int) = true)) (w : World) :
    Calls Tryd.prog 67 #[.agg #[.string k, .int .i64 (I : Int), .int .i64 (F : Int), .string r, .string o], .agg #[.int .i64 n, .int .i64 d]] w fun e w' => e = .returned (.agg #[.int .i64 (Z.bey (ovn o) (k.toList == [102, 105, 120]) I F (decide (n < 0))).1, .int .i64 (Z.bey (ovn o) (k.toList == [102, 105, 120]) I F (decide (n < 0))).2]) ∧ Below w.heap.size w w' := by
  have hn2 : ovn o = 2 ↔ (o.toList == [110, 111, 110, 101]) = true := by
    unfold ovn
    cases h1 : (o.toList == [110, 111, 110, 101])
    · cases h2 : (o.toList == [119, 114, 97, 112]) <;> simp
    · simp
  cases hn : (o.toList == [110, 111, 110, 101])
  rotate_left
  · have e : Z.bey (ovn o) (k.toList == [102, 105, 120]) I F (decide (n < 0)) = (0, 0) := by unfold Z.bey; rw [if_pos (hn2.2 hn)]
    rw [e]; clear e hn2
    go_enter Tryd.func67, Tryd.ntmps67
    go_wp2
    exact bodyPost_ret (v := .agg #[.int .i64 0, .int .i64 0]) (by simp [results, Tryd.results67, go_sem]) rfl ⟨rfl, (by repeat' (first | (with_reducible exact Below.refl _ _) | (with_reducible assumption) | (with_reducible refine drewN_below ?_ _) | (with_reducible refine Below.drew ?_) | (with_reducible refine Below.alloc ?_ ?_ _) | (with_reducible refine Below.setCell ?_ ?_ _) | (simp; done) | omega | (simp; omega)))⟩
  · have hn3 : ¬ ovn o = 2 := by rw [hn2, hn]; decide
    by_cases h0 : n < 0
    · have e : Z.bey (ovn o) (k.toList == [102, 105, 120]) I F (decide (n < 0)) = Z.lst (k.toList == [102, 105, 120]) I F := by unfold Z.bey; rw [if_neg hn3]; simp [h0]
      rw [e]; clear e hn2 hn3
      obtain ⟨a, b, hr⟩ : ∃ a b, Hid (Z.lst (k.toList == [102, 105, 120]) I F = (a, b)) := ⟨_, _, rfl⟩
      rw [hr.out]
      have g0 : decide (n < 0) = true := by simp [h0]
      clear h0
      go_enter Tryd.func67, Tryd.ntmps67
      go_wp2_with fail
      refine (least_any _ _ _ _ _ h hv _).mono ?_
      rintro e w1 ⟨rfl, hb1⟩
      obtain ⟨hc1, hf1, hz1, hB1⟩ := after (a := w) (B := w.heap.size) (w.heap.size + 3) hb1 (by first | (with_reducible assumption) | (simp; done) | omega | (simp; omega)) (by repeat' (first | (with_reducible exact Below.refl _ _) | (with_reducible assumption) | (with_reducible refine drewN_below ?_ _) | (with_reducible refine Below.drew ?_) | (with_reducible refine Below.alloc ?_ ?_ _) | (with_reducible refine Below.setCell ?_ ?_ _) | (simp; done) | omega | (simp; omega))) (by omega)
      rw [hr.out]
      go_wp2
      exact bodyPost_ret (v := .agg #[.int .i64 a, .int .i64 b]) (by simp [results, Tryd.results67, go_sem, hc1]) rfl ⟨rfl, (by repeat' (first | (with_reducible exact Below.refl _ _) | (with_reducible assumption) | (with_reducible refine drewN_below ?_ _) | (with_reducible refine Below.drew ?_) | (with_reducible refine Below.alloc ?_ ?_ _) | (with_reducible refine Below.setCell ?_ ?_ _) | (simp; done) | omega | (simp; omega)))⟩
    · have e : Z.bey (ovn o) (k.toList == [102, 105, 120]) I F (decide (n < 0)) = Z.grt (k.toList == [102, 105, 120]) I F := by unfold Z.bey; rw [if_neg hn3]; simp [h0]
      rw [e]; clear e hn2 hn3
      obtain ⟨a, b, hr⟩ : ∃ a b, Hid (Z.grt (k.toList == [102, 105, 120]) I F = (a, b)) := ⟨_, _, rfl⟩
      rw [hr.out]
      have g0 : decide (n < 0) = false := by simp [h0]
      clear h0
      go_enter Tryd.func67, Tryd.ntmps67
      go_wp2_with fail
      refine (greatest_any _ _ _ _ _ h hv _).mono ?_
      rintro e w1 ⟨rfl, hb1⟩
      obtain ⟨hc1, hf1, hz1, hB1⟩ := after (a := w) (B := w.heap.size) (w.heap.size + 3) hb1 (by first | (with_reducible assumption) | (simp; done) | omega | (simp; omega)) (by repeat' (first | (with_reducible exact Below.refl _ _) | (with_reducible assumption) | (with_reducible refine drewN_below ?_ _) | (with_reducible refine Below.drew ?_) | (with_reducible refine Below.alloc ?_ ?_ _) | (with_reducible refine Below.setCell ?_ ?_ _) | (simp; done) | omega | (simp; omega))) (by omega)
      rw [hr.out]
      go_wp2
      exact bodyPost_ret (v := .agg #[.int .i64 a, .int .i64 b]) (by simp [results, Tryd.results67, go_sem, hc1]) rfl ⟨rfl, (by repeat' (first | (with_reducible exact Below.refl _ _) | (with_reducible assumption) | (with_reducible refine drewN_below ?_ _) | (with_reducible refine Below.drew ?_) | (with_reducible refine Below.alloc ?_ ?_ _) | (with_reducible refine Below.setCell ?_ ?_ _) | (simp; done) | omega | (simp; omega)))⟩

end Go.Proofs.YtpdklolfkigefaaDoor
