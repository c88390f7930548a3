/-
  Powers: what each call gives.
-/
import Derived.Test.YtpoalckncfkdgaaSays
namespace Go.Proofs.Ytpoalckncfkdgaa
open Go.RowKit
namespace Q
def powN (f : Int × Int) : Nat → Int × Int
  | 0 => mk 1 1
  | k + 1 => mul (powN f k) f
def fac (a : Int × Int) (n : Int) : Int × Int := if n < 0 then div (mk 1 1) a else a
def pow (a : Int × Int) (n : Int) : Int × Int := if (isq a.1 a.2 && decide (-62 ≤ n) && decide (n ≤ 62)) = true then powN (fac a n) n.natAbs else (0, 0)
theorem powN_none (f : Int × Int) (hf : isq f.1 f.2 = false) (k : Nat) : powN f (k + 1) = (0, 0) := by
  unfold powN mul both; rw [hf, Bool.and_false]; rfl
end Q

set_option maxRecDepth 100000 in
set_option maxHeartbeats 800000 in
theorem pow_out (an ad n : Int) (hcon : Q.isq an ad = false ∨ n < -62 ∨ 62 < n) (w : World) :
    Calls Try.prog 42 #[.agg #[.int .i64 an, .int .i64 ad], .int .i64 n] w fun e w' => e = .returned (.agg #[.int .i64 (Q.pow (an, ad) n).1, .int .i64 (Q.pow (an, ad) n).2]) ∧ Below w.heap.size w w' := by
  have e : Q.pow (an, ad) n = (0, 0) := by unfold Q.pow; rw [if_neg]; intro hc; simp only [Bool.and_eq_true, decide_eq_true_eq] at hc; rcases hcon with h | h | h; (rw [h] at hc; cases hc.1.1); omega; omega
  rw [e]; clear e
  cases h : Q.isq an ad
  · clear hcon
    go_enter Try.func42, Try.ntmps42
    go_wp2_with fail
    refine (is_any _ _ _).mono ?_
    rintro e w1 ⟨rfl, hb1⟩
    obtain ⟨hc1, hf1, hz1, hB1⟩ := after (a := w) (B := w.heap.size) (w.heap.size + 2) hb1 (by first | (with_reducible assumption) | (simp; done) | omega | (simp; omega)) (by repeat' (first | (with_reducible exact Below.refl _ _) | (with_reducible assumption) | (with_reducible refine drewN_below ?_ _) | (with_reducible refine Below.drew ?_) | (with_reducible refine Below.alloc ?_ ?_ _) | (with_reducible refine Below.setCell ?_ ?_ _) | (simp; done) | omega | (simp; omega))) (by omega)
    rw [h]
    go_wp2
    exact bodyPost_ret (v := .agg #[.int .i64 0, .int .i64 0]) (by simp [results, Try.results42, go_sem, hc1]) rfl ⟨rfl, (by repeat' (first | (with_reducible exact Below.refl _ _) | (with_reducible assumption) | (with_reducible refine drewN_below ?_ _) | (with_reducible refine Below.drew ?_) | (with_reducible refine Below.alloc ?_ ?_ _) | (with_reducible refine Below.setCell ?_ ?_ _) | (simp; done) | omega | (simp; omega)))⟩
  · by_cases h1 : n < -62
    · clear hcon
      go_enter Try.func42, Try.ntmps42
      go_wp2_with fail
      refine (is_any _ _ _).mono ?_
      rintro e w1 ⟨rfl, hb1⟩
      obtain ⟨hc1, hf1, hz1, hB1⟩ := after (a := w) (B := w.heap.size) (w.heap.size + 2) hb1 (by first | (with_reducible assumption) | (simp; done) | omega | (simp; omega)) (by repeat' (first | (with_reducible exact Below.refl _ _) | (with_reducible assumption) | (with_reducible refine drewN_below ?_ _) | (with_reducible refine Below.drew ?_) | (with_reducible refine Below.alloc ?_ ?_ _) | (with_reducible refine Below.setCell ?_ ?_ _) | (simp; done) | omega | (simp; omega))) (by omega)
      rw [h]
      go_wp2
      exact bodyPost_ret (v := .agg #[.int .i64 0, .int .i64 0]) (by simp [results, Try.results42, go_sem, hc1]) rfl ⟨rfl, (by repeat' (first | (with_reducible exact Below.refl _ _) | (with_reducible assumption) | (with_reducible refine drewN_below ?_ _) | (with_reducible refine Below.drew ?_) | (with_reducible refine Below.alloc ?_ ?_ _) | (with_reducible refine Below.setCell ?_ ?_ _) | (simp; done) | omega | (simp; omega)))⟩
    · have h2 : 62 < n := by rcases hcon with g | g | g; (rw [g] at h; cases h); omega; omega
      clear hcon
      go_enter Try.func42, Try.ntmps42
      go_wp2_with fail
      refine (is_any _ _ _).mono ?_
      rintro e w1 ⟨rfl, hb1⟩
      obtain ⟨hc1, hf1, hz1, hB1⟩ := after (a := w) (B := w.heap.size) (w.heap.size + 2) hb1 (by first | (with_reducible assumption) | (simp; done) | omega | (simp; omega)) (by repeat' (first | (with_reducible exact Below.refl _ _) | (with_reducible assumption) | (with_reducible refine drewN_below ?_ _) | (with_reducible refine Below.drew ?_) | (with_reducible refine Below.alloc ?_ ?_ _) | (with_reducible refine Below.setCell ?_ ?_ _) | (simp; done) | omega | (simp; omega))) (by omega)
      rw [h]
      go_wp2
      exact bodyPost_ret (v := .agg #[.int .i64 0, .int .i64 0]) (by simp [results, Try.results42, go_sem, hc1]) rfl ⟨rfl, (by repeat' (first | (with_reducible exact Below.refl _ _) | (with_reducible assumption) | (with_reducible refine drewN_below ?_ _) | (with_reducible refine Below.drew ?_) | (with_reducible refine Below.alloc ?_ ?_ _) | (with_reducible refine Below.setCell ?_ ?_ _) | (simp; done) | omega | (simp; omega)))⟩

set_option maxRecDepth 100000 in
set_option maxHeartbeats 800000 in
theorem rpow_out (an ad n : Int) (hcon : Q.isq an ad = false ∨ n < -62 ∨ 62 < n) (w : World) :
    Calls Try.prog 43 #[.agg #[.int .i64 an, .int .i64 ad], .int .i64 n] w fun e w' => e = .returned (.agg #[.int .i64 (Q.pow (an, ad) n).1, .int .i64 (Q.pow (an, ad) n).2]) ∧ Below w.heap.size w w' := by
  have e : Q.pow (an, ad) n = (0, 0) := by unfold Q.pow; rw [if_neg]; intro hc; simp only [Bool.and_eq_true, decide_eq_true_eq] at hc; rcases hcon with h | h | h; (rw [h] at hc; cases hc.1.1); omega; omega
  rw [e]; clear e
  cases h : Q.isq an ad
  · clear hcon
    go_enter Try.func43, Try.ntmps43
    go_wp2_with fail
    refine (ris_any _ _ _).mono ?_
    rintro e w1 ⟨rfl, hb1⟩
    obtain ⟨hc1, hf1, hz1, hB1⟩ := after (a := w) (B := w.heap.size) (w.heap.size + 2) hb1 (by first | (with_reducible assumption) | (simp; done) | omega | (simp; omega)) (by repeat' (first | (with_reducible exact Below.refl _ _) | (with_reducible assumption) | (with_reducible refine drewN_below ?_ _) | (with_reducible refine Below.drew ?_) | (with_reducible refine Below.alloc ?_ ?_ _) | (with_reducible refine Below.setCell ?_ ?_ _) | (simp; done) | omega | (simp; omega))) (by omega)
    rw [h]
    go_wp2_with fail
    refine (rnone_any _).mono ?_
    rintro e w2 ⟨rfl, hb2⟩
    obtain ⟨hc2, hf2, hz2, hB2⟩ := after (a := w) (B := w.heap.size) (w.heap.size + 2) hb2 (by first | (with_reducible assumption) | (simp; done) | omega | (simp; omega)) (by repeat' (first | (with_reducible exact Below.refl _ _) | (with_reducible assumption) | (with_reducible refine drewN_below ?_ _) | (with_reducible refine Below.drew ?_) | (with_reducible refine Below.alloc ?_ ?_ _) | (with_reducible refine Below.setCell ?_ ?_ _) | (simp; done) | omega | (simp; omega))) (by omega)
    go_wp2
    exact bodyPost_ret (v := .agg #[.int .i64 0, .int .i64 0]) (by simp [results, Try.results43, go_sem, hc2, hc1]) rfl ⟨rfl, (by repeat' (first | (with_reducible exact Below.refl _ _) | (with_reducible assumption) | (with_reducible refine drewN_below ?_ _) | (with_reducible refine Below.drew ?_) | (with_reducible refine Below.alloc ?_ ?_ _) | (with_reducible refine Below.setCell ?_ ?_ _) | (simp; done) | omega | (simp; omega)))⟩
  · by_cases h1 : n < -62
    · clear hcon
      go_enter Try.func43, Try.ntmps43
      go_wp2_with fail
      refine (ris_any _ _ _).mono ?_
      rintro e w1 ⟨rfl, hb1⟩
      obtain ⟨hc1, hf1, hz1, hB1⟩ := after (a := w) (B := w.heap.size) (w.heap.size + 2) hb1 (by first | (with_reducible assumption) | (simp; done) | omega | (simp; omega)) (by repeat' (first | (with_reducible exact Below.refl _ _) | (with_reducible assumption) | (with_reducible refine drewN_below ?_ _) | (with_reducible refine Below.drew ?_) | (with_reducible refine Below.alloc ?_ ?_ _) | (with_reducible refine Below.setCell ?_ ?_ _) | (simp; done) | omega | (simp; omega))) (by omega)
      rw [h]
      go_wp2_with fail
      refine (rnone_any _).mono ?_
      rintro e w2 ⟨rfl, hb2⟩
      obtain ⟨hc2, hf2, hz2, hB2⟩ := after (a := w) (B := w.heap.size) (w.heap.size + 2) hb2 (by first | (with_reducible assumption) | (simp; done) | omega | (simp; omega)) (by repeat' (first | (with_reducible exact Below.refl _ _) | (with_reducible assumption) | (with_reducible refine drewN_below ?_ _) | (with_reducible refine Below.drew ?_) | (with_reducible refine Below.alloc ?_ ?_ _) | (with_reducible refine Below.setCell ?_ ?_ _) | (simp; done) | omega | (simp; omega))) (by omega)
      go_wp2
      exact bodyPost_ret (v := .agg #[.int .i64 0, .int .i64 0]) (by simp [results, Try.results43, go_sem, hc2, hc1]) rfl ⟨rfl, (by repeat' (first | (with_reducible exact Below.refl _ _) | (with_reducible assumption) | (with_reducible refine drewN_below ?_ _) | (with_reducible refine Below.drew ?_) | (with_reducible refine Below.alloc ?_ ?_ _) | (with_reducible refine Below.setCell ?_ ?_ _) | (simp; done) | omega | (simp; omega)))⟩
    · have h2 : 62 < n := by rcases hcon with g | g | g; (rw [g] at h; cases h); omega; omega
      clear hcon
      go_enter Try.func43, Try.ntmps43
      go_wp2_with fail
      refine (ris_any _ _ _).mono ?_
      rintro e w1 ⟨rfl, hb1⟩
      obtain ⟨hc1, hf1, hz1, hB1⟩ := after (a := w) (B := w.heap.size) (w.heap.size + 2) hb1 (by first | (with_reducible assumption) | (simp; done) | omega | (simp; omega)) (by repeat' (first | (with_reducible exact Below.refl _ _) | (with_reducible assumption) | (with_reducible refine drewN_below ?_ _) | (with_reducible refine Below.drew ?_) | (with_reducible refine Below.alloc ?_ ?_ _) | (with_reducible refine Below.setCell ?_ ?_ _) | (simp; done) | omega | (simp; omega))) (by omega)
      rw [h]
      go_wp2_with fail
      refine (rnone_any _).mono ?_
      rintro e w2 ⟨rfl, hb2⟩
      obtain ⟨hc2, hf2, hz2, hB2⟩ := after (a := w) (B := w.heap.size) (w.heap.size + 2) hb2 (by first | (with_reducible assumption) | (simp; done) | omega | (simp; omega)) (by repeat' (first | (with_reducible exact Below.refl _ _) | (with_reducible assumption) | (with_reducible refine drewN_below ?_ _) | (with_reducible refine Below.drew ?_) | (with_reducible refine Below.alloc ?_ ?_ _) | (with_reducible refine Below.setCell ?_ ?_ _) | (simp; done) | omega | (simp; omega))) (by omega)
      go_wp2
      exact bodyPost_ret (v := .agg #[.int .i64 0, .int .i64 0]) (by simp [results, Try.results43, go_sem, hc2, hc1]) rfl ⟨rfl, (by repeat' (first | (with_reducible exact Below.refl _ _) | (with_reducible assumption) | (with_reducible refine drewN_below ?_ _) | (with_reducible refine Below.drew ?_) | (with_reducible refine Below.alloc ?_ ?_ _) | (with_reducible refine Below.setCell ?_ ?_ _) | (simp; done) | omega | (simp; omega)))⟩

set_option maxRecDepth 100000 in
set_option maxHeartbeats 1600000 in
theorem pow_pos (fx fy n : Int) (h : Q.isq fx fy = true) (h0 : 0 ≤ n) (h1 : n ≤ 62) (w : World) :
    Calls Try.prog 42 #[.agg #[.int .i64 fx, .int .i64 fy], .int .i64 n] w fun e w' => e = .returned (.agg #[.int .i64 (Q.pow (fx, fy) n).1, .int .i64 (Q.pow (fx, fy) n).2]) ∧ Below w.heap.size w w' := by
  have e : Q.pow (fx, fy) n = Q.powN (Q.fac (fx, fy) n) n.natAbs := by unfold Q.pow; rw [if_pos]; simp [h]; omega
  obtain ⟨r, s, hr0⟩ : ∃ r s, Q.powN (Q.fac (fx, fy) n) n.natAbs = (r, s) := ⟨_, _, rfl⟩
  rw [e, hr0]; clear e
  have ef : Q.fac (fx, fy) n = (fx, fy) := by unfold Q.fac; rw [if_neg (by omega)]
  rw [ef] at hr0
  obtain ⟨N, hN⟩ : ∃ N : Nat, n = N := ⟨n.natAbs, by omega⟩
  subst hN
  have eN : (N : Int).natAbs = N := by omega
  rw [eN] at hr0
  have hr := Lib.hid hr0
  clear hr0 ef eN
  have eW : Hid (Q.mk 1 1 = (1, 1)) := Lib.hid (by decide)
  go_enter Try.func42, Try.ntmps42
  go_wp2_with fail
  refine (is_any _ _ _).mono ?_
  rintro e w1 ⟨rfl, hb1⟩
  obtain ⟨hc1, hf1, hz1, hB1⟩ := after (a := w) (B := w.heap.size) (w.heap.size + 2) hb1 (by first | (with_reducible assumption) | (simp; done) | omega | (simp; omega)) (by repeat' (first | (with_reducible exact Below.refl _ _) | (with_reducible assumption) | (with_reducible refine drewN_below ?_ _) | (with_reducible refine Below.drew ?_) | (with_reducible refine Below.alloc ?_ ?_ _) | (with_reducible refine Below.setCell ?_ ?_ _) | (simp; done) | omega | (simp; omega))) (by omega)
  rw [h]
  go_wp2_with fail
  refine (whole_any _ (by omega) _).mono ?_
  rintro e w2 ⟨rfl, hb2⟩
  rw [eW.out]
  have hcm := hc1
  have hfm := hf1
  have hbm : Below w1.heap.size w1 w2 := on_below hb2 (by repeat' (first | (with_reducible exact Below.refl _ _) | (with_reducible assumption) | (with_reducible refine drewN_below ?_ _) | (with_reducible refine Below.drew ?_) | (with_reducible refine Below.alloc ?_ ?_ _) | (with_reducible refine Below.setCell ?_ ?_ _) | (simp; done) | omega | (simp; omega))) (by first | (with_reducible assumption) | (simp; done) | omega | (simp; omega))
  have cF0 : w2.cell? ⟨w1.heap.size, 0, none⟩ = some (.int .i64 fx) := by rw [hb2.cell (p := ⟨w1.heap.size, 0, none⟩) (by first | (with_reducible assumption) | (simp; done) | omega | (simp; omega))]; simp [go_sem]
  have cF1 : w2.cell? ⟨w1.heap.size, 1, none⟩ = some (.int .i64 fy) := by rw [hb2.cell (p := ⟨w1.heap.size, 1, none⟩) (by first | (with_reducible assumption) | (simp; done) | omega | (simp; omega))]; simp [go_sem]
  have cR0 : w2.cell? ⟨w.heap.size + 1, 0, none⟩ = some (.int .i64 0) := by rw [hbm.cell (p := ⟨w.heap.size + 1, 0, none⟩) (by show w.heap.size + 1 < _; omega), hcm _ _ (by omega)]; simp [go_sem]
  have cR1 : w2.cell? ⟨w.heap.size + 1, 1, none⟩ = some (.int .i64 0) := by rw [hbm.cell (p := ⟨w.heap.size + 1, 1, none⟩) (by show w.heap.size + 1 < _; omega), hcm _ _ (by omega)]; simp [go_sem]
  have zR0 : w2.frozen? ⟨w.heap.size + 1, 0, none⟩ = false := by rw [hbm.frozen (p := ⟨w.heap.size + 1, 0, none⟩) (by show w.heap.size + 1 < _; omega), hfm _ _ (by omega)]; simp [go_sem]
  have zR1 : w2.frozen? ⟨w.heap.size + 1, 1, none⟩ = false := by rw [hbm.frozen (p := ⟨w.heap.size + 1, 1, none⟩) (by show w.heap.size + 1 < _; omega), hfm _ _ (by omega)]; simp [go_sem]
  have bF : w1.heap.size < w2.heap.size := by have := hb2.size; first | omega | (simp at this; omega)
  have bR : w.heap.size + 1 < w2.heap.size := by have := hbm.size; omega
  have hB : Below w.heap.size w w2 := on_below hb2 (by repeat' (first | (with_reducible exact Below.refl _ _) | (with_reducible assumption) | (with_reducible refine drewN_below ?_ _) | (with_reducible refine Below.drew ?_) | (with_reducible refine Below.alloc ?_ ?_ _) | (with_reducible refine Below.setCell ?_ ?_ _) | (simp; done) | omega | (simp; omega))) (by simp; omega)
  clear hb1 hb2 hc1 hf1 hcm hfm hbm
  go_wp2
  go_loopw [30] (fun t wr => ∃ (k : Nat) (x y : Int), t = .int .i64 k ∧ k ≤ N ∧ Hid (Q.powN (fx, fy) k = (x, y)) ∧ wr.cell? ⟨w2.heap.size, 0, none⟩ = some (.int .i64 x) ∧ wr.cell? ⟨w2.heap.size, 1, none⟩ = some (.int .i64 y) ∧ wr.frozen? ⟨w2.heap.size, 0, none⟩ = false ∧ wr.frozen? ⟨w2.heap.size, 1, none⟩ = false ∧ w2.heap.size + 1 ≤ wr.heap.size ∧ Below w2.heap.size w2 wr) (fun t _ => N - (intOf t).toNat)
  case atStart => exact ⟨0, 1, 1, rfl, Nat.zero_le _, Lib.hid (show Q.mk 1 1 = (1, 1) by decide), by simp [go_sem], by simp [go_sem], by simp [go_sem], by simp [go_sem], by simp, (by repeat' (first | (with_reducible exact Below.refl _ _) | (with_reducible assumption) | (with_reducible refine drewN_below ?_ _) | (with_reducible refine Below.drew ?_) | (with_reducible refine Below.alloc ?_ ?_ _) | (with_reducible refine Below.setCell ?_ ?_ _) | (simp; done) | omega | (simp; omega)))⟩
  case round =>
    obtain ⟨k, x, y, rfl, hk, hxy, hx0, hy0, hf0, hf1', hsz, hbel⟩ := hrel
    have dF0 := (hbel.cell (p := ⟨w1.heap.size, 0, none⟩) bF).trans cF0
    have dF1 := (hbel.cell (p := ⟨w1.heap.size, 1, none⟩) bF).trans cF1
    by_cases hlt : k < N
    · obtain ⟨x', y', hm⟩ : ∃ x' y', Hid (Q.mul (x, y) (fx, fy) = (x', y')) := ⟨_, _, rfl⟩
      have hnext : Hid (Q.powN (fx, fy) (k + 1) = (x', y')) := by unfold Hid; show Q.mul (Q.powN (fx, fy) k) (fx, fy) = _; rw [hxy.out]; exact hm.out
      have hlt' : (k : Int) < (N : Int) := by omega
      go_wp2_with fail
      refine (mul_any _ _ _ _ _).mono ?_
      rintro e w9 ⟨rfl, hb9⟩
      rw [hm.out]
      have hx9 := (hb9.cell (p := ⟨w2.heap.size, 0, none⟩) hsz).trans hx0
      have hy9 := (hb9.cell (p := ⟨w2.heap.size, 1, none⟩) hsz).trans hy0
      have hf9 := (hb9.frozen (p := ⟨w2.heap.size, 0, none⟩) hsz).trans hf0
      have hg9 := (hb9.frozen (p := ⟨w2.heap.size, 1, none⟩) hsz).trans hf1'
      have hz9 : w2.heap.size + 1 ≤ w9.heap.size := Nat.le_trans hsz hb9.size
      have hB9 : Below w2.heap.size w2 w9 := on_below hb9 hbel (by omega)
      clear hx0 hy0 hf0 hf1' hsz hbel dF0 dF1 hb9
      go_wp2
      go_roundw
      case rel => exact ⟨k + 1, x', y', by go_num, by omega, hnext, by simp [go_sem, hx9], by simp [go_sem, hy9], by simp [go_sem, hf9], by simp [go_sem, hg9], by simp; omega, (by repeat' (first | (with_reducible exact Below.refl _ _) | (with_reducible assumption) | (with_reducible refine drewN_below ?_ _) | (with_reducible refine Below.drew ?_) | (with_reducible refine Below.alloc ?_ ?_ _) | (with_reducible refine Below.setCell ?_ ?_ _) | (simp; done) | omega | (simp; omega)))⟩
      case measure => simp [intOf]; omega
    · have hkN : k = N := by omega
      subst hkN
      have hr2 := hr.out
      rw [hxy.out] at hr2
      simp only [Prod.mk.injEq] at hr2
      obtain ⟨rfl, rfl⟩ := hr2
      have dR0 := (hbel.cell (p := ⟨w.heap.size + 1, 0, none⟩) bR).trans cR0
      have dR1 := (hbel.cell (p := ⟨w.heap.size + 1, 1, none⟩) bR).trans cR1
      have eR0 := (hbel.frozen (p := ⟨w.heap.size + 1, 0, none⟩) bR).trans zR0
      have eR1 := (hbel.frozen (p := ⟨w.heap.size + 1, 1, none⟩) bR).trans zR1
      have hfin : Below w.heap.size w wr := Below.trans hB (hbel.mono (by omega))
      go_wp2
      exact bodyPost_ret (v := .agg #[.int .i64 x, .int .i64 y]) (by simp [results, Try.results42, go_sem, dR0, dR1]) rfl ⟨rfl, (by repeat' (first | (with_reducible exact Below.refl _ _) | (with_reducible assumption) | (with_reducible refine drewN_below ?_ _) | (with_reducible refine Below.drew ?_) | (with_reducible refine Below.alloc ?_ ?_ _) | (with_reducible refine Below.setCell ?_ ?_ _) | (simp; done) | omega | (simp; omega)))⟩

set_option maxRecDepth 100000 in
set_option maxHeartbeats 1600000 in
theorem pow_neg (an ad n : Int) (h : Q.isq an ad = true) (h0 : n < 0) (h1 : -62 ≤ n) (w : World) :
    Calls Try.prog 42 #[.agg #[.int .i64 an, .int .i64 ad], .int .i64 n] w fun e w' => e = .returned (.agg #[.int .i64 (Q.pow (an, ad) n).1, .int .i64 (Q.pow (an, ad) n).2]) ∧ Below w.heap.size w w' := by
  have e : Q.pow (an, ad) n = Q.powN (Q.fac (an, ad) n) n.natAbs := by unfold Q.pow; rw [if_pos]; simp [h]; omega
  obtain ⟨r, s, hr0⟩ : ∃ r s, Q.powN (Q.fac (an, ad) n) n.natAbs = (r, s) := ⟨_, _, rfl⟩
  rw [e, hr0]; clear e
  have ef : Q.fac (an, ad) n = Q.div (1, 1) (an, ad) := by unfold Q.fac; rw [if_pos (by omega)]; rfl
  obtain ⟨fx, fy, hd0⟩ : ∃ fx fy, Q.div (1, 1) (an, ad) = (fx, fy) := ⟨_, _, rfl⟩
  rw [ef, hd0] at hr0
  obtain ⟨N, hN⟩ : ∃ N : Nat, n = -N := ⟨n.natAbs, by omega⟩
  subst hN
  have eN : (-(N : Int)).natAbs = N := by omega
  rw [eN] at hr0
  have hr := Lib.hid hr0
  have hd := Lib.hid hd0
  clear hr0 hd0 ef eN
  have hneg : -(N : Int) < 0 := by omega
  have eW : Hid (Q.mk 1 1 = (1, 1)) := Lib.hid (by decide)
  go_enter Try.func42, Try.ntmps42
  go_wp2_with fail
  refine (is_any _ _ _).mono ?_
  rintro e w1 ⟨rfl, hb1⟩
  obtain ⟨hc1, hf1, hz1, hB1⟩ := after (a := w) (B := w.heap.size) (w.heap.size + 2) hb1 (by first | (with_reducible assumption) | (simp; done) | omega | (simp; omega)) (by repeat' (first | (with_reducible exact Below.refl _ _) | (with_reducible assumption) | (with_reducible refine drewN_below ?_ _) | (with_reducible refine Below.drew ?_) | (with_reducible refine Below.alloc ?_ ?_ _) | (with_reducible refine Below.setCell ?_ ?_ _) | (simp; done) | omega | (simp; omega))) (by omega)
  rw [h]
  have gb0 : ∀ o, (w1.alloc o).cell? ⟨w.heap.size, 0, none⟩ = some (.int .i64 an) := fun o => by rw [((Below.refl w1.heap.size w1).alloc (Nat.le_refl _) o).cell (p := ⟨w.heap.size, 0, none⟩) (by show w.heap.size < _; omega), hc1 _ _ (by omega)]; simp [go_sem]
  have gb1 : ∀ o, (w1.alloc o).cell? ⟨w.heap.size, 1, none⟩ = some (.int .i64 ad) := fun o => by rw [((Below.refl w1.heap.size w1).alloc (Nat.le_refl _) o).cell (p := ⟨w.heap.size, 1, none⟩) (by show w.heap.size < _; omega), hc1 _ _ (by omega)]; simp [go_sem]
  go_wp2
  go_region_with (first | (go_at_call 62; refine (whole_any _ (by omega) _).mono ?_; rintro e w2 ⟨rfl, hb2⟩; rw [eW.out]; have q2 := hb2.size; simp at q2; have kF0 := hb2.cell (p := ⟨w1.heap.size, 0, none⟩) (by first | (with_reducible assumption) | (simp; done) | omega | (simp; omega)); have kF1 := hb2.cell (p := ⟨w1.heap.size, 1, none⟩) (by first | (with_reducible assumption) | (simp; done) | omega | (simp; omega)); have zF0 := hb2.frozen (p := ⟨w1.heap.size, 0, none⟩) (by first | (with_reducible assumption) | (simp; done) | omega | (simp; omega)); have zF1 := hb2.frozen (p := ⟨w1.heap.size, 1, none⟩) (by first | (with_reducible assumption) | (simp; done) | omega | (simp; omega)); have kb0 := hb2.cell (p := ⟨w.heap.size, 0, none⟩) (by first | (with_reducible assumption) | (simp; done) | omega | (simp; omega)); have kb1 := hb2.cell (p := ⟨w.heap.size, 1, none⟩) (by first | (with_reducible assumption) | (simp; done) | omega | (simp; omega))) | (go_at_call 21; refine (div_any _ _ _ _ _).mono ?_; rintro e w3 ⟨rfl, hb3⟩; rw [hd.out]; have lF0 := hb3.cell (p := ⟨w1.heap.size, 0, none⟩) (by first | (with_reducible assumption) | (simp; done) | omega | (simp; omega)); have lF1 := hb3.cell (p := ⟨w1.heap.size, 1, none⟩) (by first | (with_reducible assumption) | (simp; done) | omega | (simp; omega)); have yF0 := hb3.frozen (p := ⟨w1.heap.size, 0, none⟩) (by first | (with_reducible assumption) | (simp; done) | omega | (simp; omega)); have yF1 := hb3.frozen (p := ⟨w1.heap.size, 1, none⟩) (by first | (with_reducible assumption) | (simp; done) | omega | (simp; omega))))
  all_goals
    go_wp2_with fail
    refine (whole_any _ (by omega) _).mono ?_
    rintro e w4 ⟨rfl, hb4⟩
    rw [eW.out]
    have hq2 : Below w1.heap.size w1 w2 := on_below hb2 (by repeat' (first | (with_reducible exact Below.refl _ _) | (with_reducible assumption) | (with_reducible refine drewN_below ?_ _) | (with_reducible refine Below.drew ?_) | (with_reducible refine Below.alloc ?_ ?_ _) | (with_reducible refine Below.setCell ?_ ?_ _) | (simp; done) | omega | (simp; omega))) (by simp)
    have hq3 : Below w1.heap.size w1 w3 := on_below hb3 hq2 (by omega)
    have hq3' : Below w.heap.size w w3 := Below.trans hB1 (hq3.mono (by omega))
    have q3 := hb3.size
    have hcm := hc1
    have hfm := hf1
    have hbm : Below w1.heap.size w1 w4 := on_below hb4 (by repeat' (first | (with_reducible exact Below.refl _ _) | (with_reducible assumption) | (with_reducible refine drewN_below ?_ _) | (with_reducible refine Below.drew ?_) | (with_reducible refine Below.alloc ?_ ?_ _) | (with_reducible refine Below.setCell ?_ ?_ _) | (simp; done) | omega | (simp; omega))) (by first | (with_reducible assumption) | (simp; done) | omega | (simp; omega))
    have cF0 : w4.cell? ⟨w1.heap.size, 0, none⟩ = some (.int .i64 fx) := by rw [hb4.cell (p := ⟨w1.heap.size, 0, none⟩) (by first | (with_reducible assumption) | (simp; done) | omega | (simp; omega))]; simp [go_sem, lF0, kF0]
    have cF1 : w4.cell? ⟨w1.heap.size, 1, none⟩ = some (.int .i64 fy) := by rw [hb4.cell (p := ⟨w1.heap.size, 1, none⟩) (by first | (with_reducible assumption) | (simp; done) | omega | (simp; omega))]; simp [go_sem, lF1, kF1]
    have cR0 : w4.cell? ⟨w.heap.size + 1, 0, none⟩ = some (.int .i64 0) := by rw [hbm.cell (p := ⟨w.heap.size + 1, 0, none⟩) (by show w.heap.size + 1 < _; omega), hcm _ _ (by omega)]; simp [go_sem]
    have cR1 : w4.cell? ⟨w.heap.size + 1, 1, none⟩ = some (.int .i64 0) := by rw [hbm.cell (p := ⟨w.heap.size + 1, 1, none⟩) (by show w.heap.size + 1 < _; omega), hcm _ _ (by omega)]; simp [go_sem]
    have zR0 : w4.frozen? ⟨w.heap.size + 1, 0, none⟩ = false := by rw [hbm.frozen (p := ⟨w.heap.size + 1, 0, none⟩) (by show w.heap.size + 1 < _; omega), hfm _ _ (by omega)]; simp [go_sem]
    have zR1 : w4.frozen? ⟨w.heap.size + 1, 1, none⟩ = false := by rw [hbm.frozen (p := ⟨w.heap.size + 1, 1, none⟩) (by show w.heap.size + 1 < _; omega), hfm _ _ (by omega)]; simp [go_sem]
    have bF : w1.heap.size < w4.heap.size := by have := hb4.size; first | omega | (simp at this; omega)
    have bR : w.heap.size + 1 < w4.heap.size := by have := hbm.size; omega
    have hB : Below w.heap.size w w4 := on_below hb4 (by repeat' (first | (with_reducible exact Below.refl _ _) | (with_reducible assumption) | (with_reducible refine drewN_below ?_ _) | (with_reducible refine Below.drew ?_) | (with_reducible refine Below.alloc ?_ ?_ _) | (with_reducible refine Below.setCell ?_ ?_ _) | (simp; done) | omega | (simp; omega))) (by simp; omega)
    clear hb1 hb2 hb3 hb4 hc1 hf1 hcm hfm hbm gb0 gb1 kF0 kF1 zF0 zF1 kb0 kb1 lF0 lF1 yF0 yF1 hq2 hq3 hq3'
    go_wp2
    go_loopw [30] (fun t wr => ∃ (k : Nat) (x y : Int), t = .int .i64 k ∧ k ≤ N ∧ Hid (Q.powN (fx, fy) k = (x, y)) ∧ wr.cell? ⟨w4.heap.size, 0, none⟩ = some (.int .i64 x) ∧ wr.cell? ⟨w4.heap.size, 1, none⟩ = some (.int .i64 y) ∧ wr.frozen? ⟨w4.heap.size, 0, none⟩ = false ∧ wr.frozen? ⟨w4.heap.size, 1, none⟩ = false ∧ w4.heap.size + 1 ≤ wr.heap.size ∧ Below w4.heap.size w4 wr) (fun t _ => N - (intOf t).toNat)
    case atStart => exact ⟨0, 1, 1, rfl, Nat.zero_le _, Lib.hid (show Q.mk 1 1 = (1, 1) by decide), by simp [go_sem], by simp [go_sem], by simp [go_sem], by simp [go_sem], by simp, (by repeat' (first | (with_reducible exact Below.refl _ _) | (with_reducible assumption) | (with_reducible refine drewN_below ?_ _) | (with_reducible refine Below.drew ?_) | (with_reducible refine Below.alloc ?_ ?_ _) | (with_reducible refine Below.setCell ?_ ?_ _) | (simp; done) | omega | (simp; omega)))⟩
    case round =>
      obtain ⟨k, x, y, rfl, hk, hxy, hx0, hy0, hf0, hf1', hsz, hbel⟩ := hrel
      have dF0 := (hbel.cell (p := ⟨w1.heap.size, 0, none⟩) bF).trans cF0
      have dF1 := (hbel.cell (p := ⟨w1.heap.size, 1, none⟩) bF).trans cF1
      by_cases hlt : k < N
      · obtain ⟨x', y', hm⟩ : ∃ x' y', Hid (Q.mul (x, y) (fx, fy) = (x', y')) := ⟨_, _, rfl⟩
        have hnext : Hid (Q.powN (fx, fy) (k + 1) = (x', y')) := by unfold Hid; show Q.mul (Q.powN (fx, fy) k) (fx, fy) = _; rw [hxy.out]; exact hm.out
        have hlt' : (k : Int) < (N : Int) := by omega
        go_wp2_with fail
        refine (mul_any _ _ _ _ _).mono ?_
        rintro e w9 ⟨rfl, hb9⟩
        rw [hm.out]
        have hx9 := (hb9.cell (p := ⟨w4.heap.size, 0, none⟩) hsz).trans hx0
        have hy9 := (hb9.cell (p := ⟨w4.heap.size, 1, none⟩) hsz).trans hy0
        have hf9 := (hb9.frozen (p := ⟨w4.heap.size, 0, none⟩) hsz).trans hf0
        have hg9 := (hb9.frozen (p := ⟨w4.heap.size, 1, none⟩) hsz).trans hf1'
        have hz9 : w4.heap.size + 1 ≤ w9.heap.size := Nat.le_trans hsz hb9.size
        have hB9 : Below w4.heap.size w4 w9 := on_below hb9 hbel (by omega)
        clear hx0 hy0 hf0 hf1' hsz hbel dF0 dF1 hb9
        go_wp2
        go_roundw
        case rel => exact ⟨k + 1, x', y', by go_num, by omega, hnext, by simp [go_sem, hx9], by simp [go_sem, hy9], by simp [go_sem, hf9], by simp [go_sem, hg9], by simp; omega, (by repeat' (first | (with_reducible exact Below.refl _ _) | (with_reducible assumption) | (with_reducible refine drewN_below ?_ _) | (with_reducible refine Below.drew ?_) | (with_reducible refine Below.alloc ?_ ?_ _) | (with_reducible refine Below.setCell ?_ ?_ _) | (simp; done) | omega | (simp; omega)))⟩
        case measure => simp [intOf]; omega
      · have hkN : k = N := by omega
        subst hkN
        have hr2 := hr.out
        rw [hxy.out] at hr2
        simp only [Prod.mk.injEq] at hr2
        obtain ⟨rfl, rfl⟩ := hr2
        have dR0 := (hbel.cell (p := ⟨w.heap.size + 1, 0, none⟩) bR).trans cR0
        have dR1 := (hbel.cell (p := ⟨w.heap.size + 1, 1, none⟩) bR).trans cR1
        have eR0 := (hbel.frozen (p := ⟨w.heap.size + 1, 0, none⟩) bR).trans zR0
        have eR1 := (hbel.frozen (p := ⟨w.heap.size + 1, 1, none⟩) bR).trans zR1
        have hfin : Below w.heap.size w wr := Below.trans hB (hbel.mono (by omega))
        go_wp2
        exact bodyPost_ret (v := .agg #[.int .i64 x, .int .i64 y]) (by simp [results, Try.results42, go_sem, dR0, dR1]) rfl ⟨rfl, (by repeat' (first | (with_reducible exact Below.refl _ _) | (with_reducible assumption) | (with_reducible refine drewN_below ?_ _) | (with_reducible refine Below.drew ?_) | (with_reducible refine Below.alloc ?_ ?_ _) | (with_reducible refine Below.setCell ?_ ?_ _) | (simp; done) | omega | (simp; omega)))⟩

set_option maxRecDepth 100000 in
set_option maxHeartbeats 1600000 in
theorem rpow_pos (fx fy n : Int) (h : Q.isq fx fy = true) (h0 : 0 ≤ n) (h1 : n ≤ 62) (w : World) :
    Calls Try.prog 43 #[.agg #[.int .i64 fx, .int .i64 fy], .int .i64 n] w fun e w' => e = .returned (.agg #[.int .i64 (Q.pow (fx, fy) n).1, .int .i64 (Q.pow (fx, fy) n).2]) ∧ Below w.heap.size w w' := by
  have e : Q.pow (fx, fy) n = Q.powN (Q.fac (fx, fy) n) n.natAbs := by unfold Q.pow; rw [if_pos]; simp [h]; omega
  obtain ⟨r, s, hr0⟩ : ∃ r s, Q.powN (Q.fac (fx, fy) n) n.natAbs = (r, s) := ⟨_, _, rfl⟩
  rw [e, hr0]; clear e
  have ef : Q.fac (fx, fy) n = (fx, fy) := by unfold Q.fac; rw [if_neg (by omega)]
  rw [ef] at hr0
  obtain ⟨N, hN⟩ : ∃ N : Nat, n = N := ⟨n.natAbs, by omega⟩
  subst hN
  have eN : (N : Int).natAbs = N := by omega
  rw [eN] at hr0
  have hr := Lib.hid hr0
  clear hr0 ef eN
  have eW : Hid (Q.mk 1 1 = (1, 1)) := Lib.hid (by decide)
  go_enter Try.func43, Try.ntmps43
  go_wp2_with fail
  refine (ris_any _ _ _).mono ?_
  rintro e w1 ⟨rfl, hb1⟩
  obtain ⟨hc1, hf1, hz1, hB1⟩ := after (a := w) (B := w.heap.size) (w.heap.size + 2) hb1 (by first | (with_reducible assumption) | (simp; done) | omega | (simp; omega)) (by repeat' (first | (with_reducible exact Below.refl _ _) | (with_reducible assumption) | (with_reducible refine drewN_below ?_ _) | (with_reducible refine Below.drew ?_) | (with_reducible refine Below.alloc ?_ ?_ _) | (with_reducible refine Below.setCell ?_ ?_ _) | (simp; done) | omega | (simp; omega))) (by omega)
  rw [h]
  go_wp2_with fail
  refine (rwhole_any _ (by omega) _).mono ?_
  rintro e w2 ⟨rfl, hb2⟩
  rw [eW.out]
  have cF0 : w2.cell? ⟨w.heap.size, 0, none⟩ = some (.int .i64 fx) := by rw [hb2.cell (p := ⟨w.heap.size, 0, none⟩) (by first | (with_reducible assumption) | (simp; done) | omega | (simp; omega))]; rw [hc1 _ _ (by omega)]; simp [go_sem]
  have cF1 : w2.cell? ⟨w.heap.size, 1, none⟩ = some (.int .i64 fy) := by rw [hb2.cell (p := ⟨w.heap.size, 1, none⟩) (by first | (with_reducible assumption) | (simp; done) | omega | (simp; omega))]; rw [hc1 _ _ (by omega)]; simp [go_sem]
  have cR0 : w2.cell? ⟨w.heap.size + 1, 0, none⟩ = some (.int .i64 0) := by rw [hb2.cell (p := ⟨w.heap.size + 1, 0, none⟩) (by first | (with_reducible assumption) | (simp; done) | omega | (simp; omega))]; rw [hc1 _ _ (by omega)]; simp [go_sem]
  have cR1 : w2.cell? ⟨w.heap.size + 1, 1, none⟩ = some (.int .i64 0) := by rw [hb2.cell (p := ⟨w.heap.size + 1, 1, none⟩) (by first | (with_reducible assumption) | (simp; done) | omega | (simp; omega))]; rw [hc1 _ _ (by omega)]; simp [go_sem]
  have zR0 : w2.frozen? ⟨w.heap.size + 1, 0, none⟩ = false := by rw [hb2.frozen (p := ⟨w.heap.size + 1, 0, none⟩) (by first | (with_reducible assumption) | (simp; done) | omega | (simp; omega))]; rw [hf1 _ _ (by omega)]; simp [go_sem]
  have zR1 : w2.frozen? ⟨w.heap.size + 1, 1, none⟩ = false := by rw [hb2.frozen (p := ⟨w.heap.size + 1, 1, none⟩) (by first | (with_reducible assumption) | (simp; done) | omega | (simp; omega))]; rw [hf1 _ _ (by omega)]; simp [go_sem]
  have bF : w.heap.size < w2.heap.size := by have := hb2.size; first | omega | (simp at this; omega)
  have bR : w.heap.size + 1 < w2.heap.size := by have := hb2.size; first | omega | (simp at this; omega)
  have hB : Below w.heap.size w w2 := on_below hb2 (by repeat' (first | (with_reducible exact Below.refl _ _) | (with_reducible assumption) | (with_reducible refine drewN_below ?_ _) | (with_reducible refine Below.drew ?_) | (with_reducible refine Below.alloc ?_ ?_ _) | (with_reducible refine Below.setCell ?_ ?_ _) | (simp; done) | omega | (simp; omega))) (by omega)
  have gF0 : ∀ o, (w2.alloc o).cell? ⟨w.heap.size, 0, none⟩ = some (.int .i64 fx) := fun o => by rw [((Below.refl w2.heap.size w2).alloc (Nat.le_refl _) o).cell (p := ⟨w.heap.size, 0, none⟩) bF, cF0]
  have gF1 : ∀ o, (w2.alloc o).cell? ⟨w.heap.size, 1, none⟩ = some (.int .i64 fy) := fun o => by rw [((Below.refl w2.heap.size w2).alloc (Nat.le_refl _) o).cell (p := ⟨w.heap.size, 1, none⟩) bF, cF1]
  clear hb1 hb2 hc1 hf1
  by_cases hN0 : N = 0
  · have hN1 : (N : Int) ≤ 0 := by omega
    clear hN0
    go_wp2
    go_loopw [6] (fun t wr => ∃ (k : Nat) (x y : Int), t = .int .i64 k ∧ k ≤ N ∧ Hid (Q.powN (fx, fy) k = (x, y)) ∧ wr.cell? ⟨w2.heap.size, 0, none⟩ = some (.int .i64 x) ∧ wr.cell? ⟨w2.heap.size, 1, none⟩ = some (.int .i64 y) ∧ wr.frozen? ⟨w2.heap.size, 0, none⟩ = false ∧ wr.frozen? ⟨w2.heap.size, 1, none⟩ = false ∧ w2.heap.size + 1 ≤ wr.heap.size ∧ Below w2.heap.size w2 wr) (fun t _ => N - (intOf t).toNat)
    case atStart => exact ⟨0, 1, 1, rfl, Nat.zero_le _, Lib.hid (show Q.mk 1 1 = (1, 1) by decide), by simp [go_sem], by simp [go_sem], by simp [go_sem], by simp [go_sem], by simp, (by repeat' (first | (with_reducible exact Below.refl _ _) | (with_reducible assumption) | (with_reducible refine drewN_below ?_ _) | (with_reducible refine Below.drew ?_) | (with_reducible refine Below.alloc ?_ ?_ _) | (with_reducible refine Below.setCell ?_ ?_ _) | (simp; done) | omega | (simp; omega)))⟩
    case round =>
      obtain ⟨k, x, y, rfl, hk, hxy, hx0, hy0, hf0, hf1', hsz, hbel⟩ := hrel
      skip
      skip
      by_cases hlt : k < N
      · exfalso; omega
      · have hkN : k = N := by omega
        subst hkN
        have hr2 := hr.out
        rw [hxy.out] at hr2
        simp only [Prod.mk.injEq] at hr2
        obtain ⟨rfl, rfl⟩ := hr2
        have dR0 := (hbel.cell (p := ⟨w.heap.size + 1, 0, none⟩) bR).trans cR0
        have dR1 := (hbel.cell (p := ⟨w.heap.size + 1, 1, none⟩) bR).trans cR1
        have eR0 := (hbel.frozen (p := ⟨w.heap.size + 1, 0, none⟩) bR).trans zR0
        have eR1 := (hbel.frozen (p := ⟨w.heap.size + 1, 1, none⟩) bR).trans zR1
        have hfin : Below w.heap.size w wr := Below.trans hB (hbel.mono (by omega))
        go_wp2
        exact bodyPost_ret (v := .agg #[.int .i64 x, .int .i64 y]) (by simp [results, Try.results43, go_sem, dR0, dR1]) rfl ⟨rfl, (by repeat' (first | (with_reducible exact Below.refl _ _) | (with_reducible assumption) | (with_reducible refine drewN_below ?_ _) | (with_reducible refine Below.drew ?_) | (with_reducible refine Below.alloc ?_ ?_ _) | (with_reducible refine Below.setCell ?_ ?_ _) | (simp; done) | omega | (simp; omega)))⟩
  · have hN1 : (0 : Int) < (N : Int) := by omega
    clear hN0
    go_wp2_with fail
    refine (ris_any _ _ _).mono ?_
    rintro e w3 ⟨rfl, hb3⟩
    rw [h]
    have hb23 : Below w2.heap.size w2 w3 := on_below hb3 (by repeat' (first | (with_reducible exact Below.refl _ _) | (with_reducible assumption) | (with_reducible refine drewN_below ?_ _) | (with_reducible refine Below.drew ?_) | (with_reducible refine Below.alloc ?_ ?_ _) | (with_reducible refine Below.setCell ?_ ?_ _) | (simp; done) | omega | (simp; omega))) (by simp)
    go_wp2
    go_loopw [6] (fun t wr => ∃ (k : Nat) (x y : Int), t = .int .i64 k ∧ k ≤ N ∧ Hid (Q.powN (fx, fy) k = (x, y)) ∧ wr.cell? ⟨w2.heap.size, 0, none⟩ = some (.int .i64 x) ∧ wr.cell? ⟨w2.heap.size, 1, none⟩ = some (.int .i64 y) ∧ wr.frozen? ⟨w2.heap.size, 0, none⟩ = false ∧ wr.frozen? ⟨w2.heap.size, 1, none⟩ = false ∧ w2.heap.size + 1 ≤ wr.heap.size ∧ Below w2.heap.size w2 wr) (fun t _ => N - (intOf t).toNat)
    case atStart => exact ⟨0, 1, 1, rfl, Nat.zero_le _, Lib.hid (show Q.mk 1 1 = (1, 1) by decide), by rw [hb3.cell (p := ⟨w2.heap.size, 0, none⟩) (by first | (with_reducible assumption) | (simp; done) | omega | (simp; omega))]; simp [go_sem], by rw [hb3.cell (p := ⟨w2.heap.size, 1, none⟩) (by first | (with_reducible assumption) | (simp; done) | omega | (simp; omega))]; simp [go_sem], by rw [hb3.frozen (p := ⟨w2.heap.size, 0, none⟩) (by first | (with_reducible assumption) | (simp; done) | omega | (simp; omega))]; simp [go_sem], by rw [hb3.frozen (p := ⟨w2.heap.size, 1, none⟩) (by first | (with_reducible assumption) | (simp; done) | omega | (simp; omega))]; simp [go_sem], by have := hb3.size; simp at this; omega, (by repeat' (first | (with_reducible exact Below.refl _ _) | (with_reducible assumption) | (with_reducible refine drewN_below ?_ _) | (with_reducible refine Below.drew ?_) | (with_reducible refine Below.alloc ?_ ?_ _) | (with_reducible refine Below.setCell ?_ ?_ _) | (simp; done) | omega | (simp; omega)))⟩
    case round =>
      obtain ⟨k, x, y, rfl, hk, hxy, hx0, hy0, hf0, hf1', hsz, hbel⟩ := hrel
      have dF0 := (hbel.cell (p := ⟨w.heap.size, 0, none⟩) bF).trans cF0
      have dF1 := (hbel.cell (p := ⟨w.heap.size, 1, none⟩) bF).trans cF1
      by_cases hlt : k < N
      · obtain ⟨x', y', hm⟩ : ∃ x' y', Hid (Q.mul (x, y) (fx, fy) = (x', y')) := ⟨_, _, rfl⟩
        have hnext : Hid (Q.powN (fx, fy) (k + 1) = (x', y')) := by unfold Hid; show Q.mul (Q.powN (fx, fy) k) (fx, fy) = _; rw [hxy.out]; exact hm.out
        have hlt' : (k : Int) < (N : Int) := by omega
        go_wp2_with fail
        refine (rmul_any _ _ _ _ _).mono ?_
        rintro e w9 ⟨rfl, hb9⟩
        rw [hm.out]
        have hx9 := (hb9.cell (p := ⟨w2.heap.size, 0, none⟩) hsz).trans hx0
        have hy9 := (hb9.cell (p := ⟨w2.heap.size, 1, none⟩) hsz).trans hy0
        have hf9 := (hb9.frozen (p := ⟨w2.heap.size, 0, none⟩) hsz).trans hf0
        have hg9 := (hb9.frozen (p := ⟨w2.heap.size, 1, none⟩) hsz).trans hf1'
        have hz9 : w2.heap.size + 1 ≤ w9.heap.size := Nat.le_trans hsz hb9.size
        have hB9 : Below w2.heap.size w2 w9 := on_below hb9 hbel (by omega)
        clear hx0 hy0 hf0 hf1' hsz hbel dF0 dF1 hb9
        go_wp2
        go_roundw
        case rel => exact ⟨k + 1, x', y', by go_num, by omega, hnext, by simp [go_sem, hx9], by simp [go_sem, hy9], by simp [go_sem, hf9], by simp [go_sem, hg9], by simp; omega, (by repeat' (first | (with_reducible exact Below.refl _ _) | (with_reducible assumption) | (with_reducible refine drewN_below ?_ _) | (with_reducible refine Below.drew ?_) | (with_reducible refine Below.alloc ?_ ?_ _) | (with_reducible refine Below.setCell ?_ ?_ _) | (simp; done) | omega | (simp; omega)))⟩
        case measure => simp [intOf]; omega
      · have hkN : k = N := by omega
        subst hkN
        have hr2 := hr.out
        rw [hxy.out] at hr2
        simp only [Prod.mk.injEq] at hr2
        obtain ⟨rfl, rfl⟩ := hr2
        have dR0 := (hbel.cell (p := ⟨w.heap.size + 1, 0, none⟩) bR).trans cR0
        have dR1 := (hbel.cell (p := ⟨w.heap.size + 1, 1, none⟩) bR).trans cR1
        have eR0 := (hbel.frozen (p := ⟨w.heap.size + 1, 0, none⟩) bR).trans zR0
        have eR1 := (hbel.frozen (p := ⟨w.heap.size + 1, 1, none⟩) bR).trans zR1
        have hfin : Below w.heap.size w wr := Below.trans hB (hbel.mono (by omega))
        go_wp2
        exact bodyPost_ret (v := .agg #[.int .i64 x, .int .i64 y]) (by simp [results, Try.results43, go_sem, dR0, dR1]) rfl ⟨rfl, (by repeat' (first | (with_reducible exact Below.refl _ _) | (with_reducible assumption) | (with_reducible refine drewN_below ?_ _) | (with_reducible refine Below.drew ?_) | (with_reducible refine Below.alloc ?_ ?_ _) | (with_reducible refine Below.setCell ?_ ?_ _) | (simp; done) | omega | (simp; omega)))⟩

set_option maxRecDepth 100000 in
set_option maxHeartbeats 3200000 in
theorem rpow_neg (an ad n : Int) (h : Q.isq an ad = true) (h0 : n < 0) (h1 : -62 ≤ n) (w : World) :
    Calls Try.prog 43 #[.agg #[.int .i64 an, .int .i64 ad], .int .i64 n] w fun e w' => e = .returned (.agg #[.int .i64 (Q.pow (an, ad) n).1, .int .i64 (Q.pow (an, ad) n).2]) ∧ Below w.heap.size w w' := by
  have e : Q.pow (an, ad) n = Q.powN (Q.fac (an, ad) n) n.natAbs := by unfold Q.pow; rw [if_pos]; simp [h]; omega
  obtain ⟨r, s, hr0⟩ : ∃ r s, Q.powN (Q.fac (an, ad) n) n.natAbs = (r, s) := ⟨_, _, rfl⟩
  rw [e, hr0]; clear e
  have ef : Q.fac (an, ad) n = Q.div (1, 1) (an, ad) := by unfold Q.fac; rw [if_pos (by omega)]; rfl
  obtain ⟨fx, fy, hd0⟩ : ∃ fx fy, Q.div (1, 1) (an, ad) = (fx, fy) := ⟨_, _, rfl⟩
  rw [ef, hd0] at hr0
  obtain ⟨N, hN⟩ : ∃ N : Nat, n = -N := ⟨n.natAbs, by omega⟩
  subst hN
  have eN : (-(N : Int)).natAbs = N := by omega
  rw [eN] at hr0
  have hr := Lib.hid hr0
  have hd := Lib.hid hd0
  clear hr0 hd0 ef eN
  have hneg : -(N : Int) < 0 := by omega
  have hN1 : (0 : Int) < (N : Int) := by omega
  have eW : Hid (Q.mk 1 1 = (1, 1)) := Lib.hid (by decide)
  go_enter Try.func43, Try.ntmps43
  go_wp2_with fail
  refine (ris_any _ _ _).mono ?_
  rintro e w1 ⟨rfl, hb1⟩
  obtain ⟨hc1, hf1, hz1, hB1⟩ := after (a := w) (B := w.heap.size) (w.heap.size + 2) hb1 (by first | (with_reducible assumption) | (simp; done) | omega | (simp; omega)) (by repeat' (first | (with_reducible exact Below.refl _ _) | (with_reducible assumption) | (with_reducible refine drewN_below ?_ _) | (with_reducible refine Below.drew ?_) | (with_reducible refine Below.alloc ?_ ?_ _) | (with_reducible refine Below.setCell ?_ ?_ _) | (simp; done) | omega | (simp; omega))) (by omega)
  rw [h]
  go_wp2
  go_region_with (first | (go_at_call 63; refine (rwhole_any _ (by omega) _).mono ?_; rintro e w2 ⟨rfl, hb2⟩; rw [eW.out]; obtain ⟨hc2, hf2, hz2, hB2⟩ := after (a := w) (B := w.heap.size) (w.heap.size + 2) hb2 (by first | (with_reducible assumption) | (simp; done) | omega | (simp; omega)) (by repeat' (first | (with_reducible exact Below.refl _ _) | (with_reducible assumption) | (with_reducible refine drewN_below ?_ _) | (with_reducible refine Below.drew ?_) | (with_reducible refine Below.alloc ?_ ?_ _) | (with_reducible refine Below.setCell ?_ ?_ _) | (simp; done) | omega | (simp; omega))) (by omega)) | (go_at_call 22; refine (rdiv_any _ _ _ _ _).mono ?_; rintro e w3 ⟨rfl, hb3⟩; rw [hd.out]; obtain ⟨hc3, hf3, hz3, hB3⟩ := after (a := w) (B := w.heap.size) (w.heap.size + 2) hb3 (by first | (with_reducible assumption) | (simp; done) | omega | (simp; omega)) (by repeat' (first | (with_reducible exact Below.refl _ _) | (with_reducible assumption) | (with_reducible refine drewN_below ?_ _) | (with_reducible refine Below.drew ?_) | (with_reducible refine Below.alloc ?_ ?_ _) | (with_reducible refine Below.setCell ?_ ?_ _) | (simp; done) | omega | (simp; omega))) (by omega)))
  all_goals
    go_wp2_with fail
    refine (rwhole_any _ (by omega) _).mono ?_
    rintro e w4 ⟨rfl, hb4⟩
    rw [eW.out]
    have cF0 : w4.cell? ⟨w.heap.size, 0, none⟩ = some (.int .i64 fx) := by rw [hb4.cell (p := ⟨w.heap.size, 0, none⟩) (by first | (with_reducible assumption) | (simp; done) | omega | (simp; omega))]; simp [go_sem, hc3, hc2, hc1]
    have cF1 : w4.cell? ⟨w.heap.size, 1, none⟩ = some (.int .i64 fy) := by rw [hb4.cell (p := ⟨w.heap.size, 1, none⟩) (by first | (with_reducible assumption) | (simp; done) | omega | (simp; omega))]; simp [go_sem, hc3, hc2, hc1]
    have cR0 : w4.cell? ⟨w.heap.size + 1, 0, none⟩ = some (.int .i64 0) := by rw [hb4.cell (p := ⟨w.heap.size + 1, 0, none⟩) (by first | (with_reducible assumption) | (simp; done) | omega | (simp; omega))]; simp [go_sem, hc3, hc2, hc1]
    have cR1 : w4.cell? ⟨w.heap.size + 1, 1, none⟩ = some (.int .i64 0) := by rw [hb4.cell (p := ⟨w.heap.size + 1, 1, none⟩) (by first | (with_reducible assumption) | (simp; done) | omega | (simp; omega))]; simp [go_sem, hc3, hc2, hc1]
    have zR0 : w4.frozen? ⟨w.heap.size + 1, 0, none⟩ = false := by rw [hb4.frozen (p := ⟨w.heap.size + 1, 0, none⟩) (by first | (with_reducible assumption) | (simp; done) | omega | (simp; omega))]; simp [go_sem, hf3, hf2, hf1]
    have zR1 : w4.frozen? ⟨w.heap.size + 1, 1, none⟩ = false := by rw [hb4.frozen (p := ⟨w.heap.size + 1, 1, none⟩) (by first | (with_reducible assumption) | (simp; done) | omega | (simp; omega))]; simp [go_sem, hf3, hf2, hf1]
    have bF : w.heap.size < w4.heap.size := by have := hb4.size; first | omega | (simp at this; omega)
    have bR : w.heap.size + 1 < w4.heap.size := by have := hb4.size; first | omega | (simp at this; omega)
    have hB : Below w.heap.size w w4 := on_below hb4 (by repeat' (first | (with_reducible exact Below.refl _ _) | (with_reducible assumption) | (with_reducible refine drewN_below ?_ _) | (with_reducible refine Below.drew ?_) | (with_reducible refine Below.alloc ?_ ?_ _) | (with_reducible refine Below.setCell ?_ ?_ _) | (simp; done) | omega | (simp; omega))) (by simp; omega)
    have gF0 : ∀ o, (w4.alloc o).cell? ⟨w.heap.size, 0, none⟩ = some (.int .i64 fx) := fun o => by rw [((Below.refl w4.heap.size w4).alloc (Nat.le_refl _) o).cell (p := ⟨w.heap.size, 0, none⟩) bF, cF0]
    have gF1 : ∀ o, (w4.alloc o).cell? ⟨w.heap.size, 1, none⟩ = some (.int .i64 fy) := fun o => by rw [((Below.refl w4.heap.size w4).alloc (Nat.le_refl _) o).cell (p := ⟨w.heap.size, 1, none⟩) bF, cF1]
    clear hb1 hb2 hb3 hb4 hc1 hc2 hc3 hf1 hf2 hf3 hz1 hz2 hz3 hB1 hB2 hB3
    cases hi : Q.isq fx fy
    · have hnone : Q.powN (fx, fy) N = (0, 0) := by
        obtain ⟨M, rfl⟩ : ∃ M, N = M + 1 := ⟨N - 1, by omega⟩
        exact Q.powN_none _ hi M
      rw [hr.out] at hnone
      simp only [Prod.mk.injEq] at hnone
      obtain ⟨rfl, rfl⟩ := hnone
      go_wp2_with fail
      refine (ris_any _ _ _).mono ?_
      rintro e w5 ⟨rfl, hb5⟩
      rw [hi]
      go_wp2_with fail
      refine (rnone_any _).mono ?_
      rintro e w6 ⟨rfl, hb6⟩
      have hb45 : Below w4.heap.size w4 w5 := on_below hb5 (by repeat' (first | (with_reducible exact Below.refl _ _) | (with_reducible assumption) | (with_reducible refine drewN_below ?_ _) | (with_reducible refine Below.drew ?_) | (with_reducible refine Below.alloc ?_ ?_ _) | (with_reducible refine Below.setCell ?_ ?_ _) | (simp; done) | omega | (simp; omega))) (by simp)
      have hb46 : Below w4.heap.size w4 w6 := on_below hb6 hb45 hb45.size
      have eR0 := (hb46.cell (p := ⟨w.heap.size + 1, 0, none⟩) bR).trans cR0
      have eR1 := (hb46.cell (p := ⟨w.heap.size + 1, 1, none⟩) bR).trans cR1
      have yR0 := (hb46.frozen (p := ⟨w.heap.size + 1, 0, none⟩) bR).trans zR0
      have yR1 := (hb46.frozen (p := ⟨w.heap.size + 1, 1, none⟩) bR).trans zR1
      have hfin : Below w.heap.size w w6 := Below.trans hB (hb46.mono (by omega))
      go_wp2
      exact bodyPost_ret (v := .agg #[.int .i64 0, .int .i64 0]) (by simp [results, Try.results43, go_sem, eR0, eR1]) rfl ⟨rfl, (by repeat' (first | (with_reducible exact Below.refl _ _) | (with_reducible assumption) | (with_reducible refine drewN_below ?_ _) | (with_reducible refine Below.drew ?_) | (with_reducible refine Below.alloc ?_ ?_ _) | (with_reducible refine Below.setCell ?_ ?_ _) | (simp; done) | omega | (simp; omega)))⟩
    · go_wp2_with fail
      refine (ris_any _ _ _).mono ?_
      rintro e w5 ⟨rfl, hb5⟩
      rw [hi]
      have hb45 : Below w4.heap.size w4 w5 := on_below hb5 (by repeat' (first | (with_reducible exact Below.refl _ _) | (with_reducible assumption) | (with_reducible refine drewN_below ?_ _) | (with_reducible refine Below.drew ?_) | (with_reducible refine Below.alloc ?_ ?_ _) | (with_reducible refine Below.setCell ?_ ?_ _) | (simp; done) | omega | (simp; omega))) (by simp)
      go_wp2
      go_loopw [6] (fun t wr => ∃ (k : Nat) (x y : Int), t = .int .i64 k ∧ k ≤ N ∧ Hid (Q.powN (fx, fy) k = (x, y)) ∧ wr.cell? ⟨w4.heap.size, 0, none⟩ = some (.int .i64 x) ∧ wr.cell? ⟨w4.heap.size, 1, none⟩ = some (.int .i64 y) ∧ wr.frozen? ⟨w4.heap.size, 0, none⟩ = false ∧ wr.frozen? ⟨w4.heap.size, 1, none⟩ = false ∧ w4.heap.size + 1 ≤ wr.heap.size ∧ Below w4.heap.size w4 wr) (fun t _ => N - (intOf t).toNat)
      case atStart => exact ⟨0, 1, 1, rfl, Nat.zero_le _, Lib.hid (show Q.mk 1 1 = (1, 1) by decide), by rw [hb5.cell (p := ⟨w4.heap.size, 0, none⟩) (by first | (with_reducible assumption) | (simp; done) | omega | (simp; omega))]; simp [go_sem], by rw [hb5.cell (p := ⟨w4.heap.size, 1, none⟩) (by first | (with_reducible assumption) | (simp; done) | omega | (simp; omega))]; simp [go_sem], by rw [hb5.frozen (p := ⟨w4.heap.size, 0, none⟩) (by first | (with_reducible assumption) | (simp; done) | omega | (simp; omega))]; simp [go_sem], by rw [hb5.frozen (p := ⟨w4.heap.size, 1, none⟩) (by first | (with_reducible assumption) | (simp; done) | omega | (simp; omega))]; simp [go_sem], by have := hb5.size; simp at this; omega, (by repeat' (first | (with_reducible exact Below.refl _ _) | (with_reducible assumption) | (with_reducible refine drewN_below ?_ _) | (with_reducible refine Below.drew ?_) | (with_reducible refine Below.alloc ?_ ?_ _) | (with_reducible refine Below.setCell ?_ ?_ _) | (simp; done) | omega | (simp; omega)))⟩
      case round =>
        obtain ⟨k, x, y, rfl, hk, hxy, hx0, hy0, hf0, hf1', hsz, hbel⟩ := hrel
        have dF0 := (hbel.cell (p := ⟨w.heap.size, 0, none⟩) bF).trans cF0
        have dF1 := (hbel.cell (p := ⟨w.heap.size, 1, none⟩) bF).trans cF1
        by_cases hlt : k < N
        · obtain ⟨x', y', hm⟩ : ∃ x' y', Hid (Q.mul (x, y) (fx, fy) = (x', y')) := ⟨_, _, rfl⟩
          have hnext : Hid (Q.powN (fx, fy) (k + 1) = (x', y')) := by unfold Hid; show Q.mul (Q.powN (fx, fy) k) (fx, fy) = _; rw [hxy.out]; exact hm.out
          have hlt' : (k : Int) < (N : Int) := by omega
          go_wp2_with fail
          refine (rmul_any _ _ _ _ _).mono ?_
          rintro e w9 ⟨rfl, hb9⟩
          rw [hm.out]
          have hx9 := (hb9.cell (p := ⟨w4.heap.size, 0, none⟩) hsz).trans hx0
          have hy9 := (hb9.cell (p := ⟨w4.heap.size, 1, none⟩) hsz).trans hy0
          have hf9 := (hb9.frozen (p := ⟨w4.heap.size, 0, none⟩) hsz).trans hf0
          have hg9 := (hb9.frozen (p := ⟨w4.heap.size, 1, none⟩) hsz).trans hf1'
          have hz9 : w4.heap.size + 1 ≤ w9.heap.size := Nat.le_trans hsz hb9.size
          have hB9 : Below w4.heap.size w4 w9 := on_below hb9 hbel (by omega)
          clear hx0 hy0 hf0 hf1' hsz hbel dF0 dF1 hb9
          go_wp2
          go_roundw
          case rel => exact ⟨k + 1, x', y', by go_num, by omega, hnext, by simp [go_sem, hx9], by simp [go_sem, hy9], by simp [go_sem, hf9], by simp [go_sem, hg9], by simp; omega, (by repeat' (first | (with_reducible exact Below.refl _ _) | (with_reducible assumption) | (with_reducible refine drewN_below ?_ _) | (with_reducible refine Below.drew ?_) | (with_reducible refine Below.alloc ?_ ?_ _) | (with_reducible refine Below.setCell ?_ ?_ _) | (simp; done) | omega | (simp; omega)))⟩
          case measure => simp [intOf]; omega
        · have hkN : k = N := by omega
          subst hkN
          have hr2 := hr.out
          rw [hxy.out] at hr2
          simp only [Prod.mk.injEq] at hr2
          obtain ⟨rfl, rfl⟩ := hr2
          have dR0 := (hbel.cell (p := ⟨w.heap.size + 1, 0, none⟩) bR).trans cR0
          have dR1 := (hbel.cell (p := ⟨w.heap.size + 1, 1, none⟩) bR).trans cR1
          have eR0 := (hbel.frozen (p := ⟨w.heap.size + 1, 0, none⟩) bR).trans zR0
          have eR1 := (hbel.frozen (p := ⟨w.heap.size + 1, 1, none⟩) bR).trans zR1
          have hfin : Below w.heap.size w wr := Below.trans hB (hbel.mono (by omega))
          go_wp2
          exact bodyPost_ret (v := .agg #[.int .i64 x, .int .i64 y]) (by simp [results, Try.results43, go_sem, dR0, dR1]) rfl ⟨rfl, (by repeat' (first | (with_reducible exact Below.refl _ _) | (with_reducible assumption) | (with_reducible refine drewN_below ?_ _) | (with_reducible refine Below.drew ?_) | (with_reducible refine Below.alloc ?_ ?_ _) | (with_reducible refine Below.setCell ?_ ?_ _) | (simp; done) | omega | (simp; omega)))⟩

theorem pow_any (an ad n : Int) (w : World) :
    Calls Try.prog 42 #[.agg #[.int .i64 an, .int .i64 ad], .int .i64 n] w fun e w' => e = .returned (.agg #[.int .i64 (Q.pow (an, ad) n).1, .int .i64 (Q.pow (an, ad) n).2]) ∧ Below w.heap.size w w' := by
  cases h : Q.isq an ad
  · exact pow_out an ad n (Or.inl h) w
  · by_cases h1 : n < -62
    · exact pow_out an ad n (Or.inr (Or.inl h1)) w
    · by_cases h2 : 62 < n
      · exact pow_out an ad n (Or.inr (Or.inr h2)) w
      · by_cases h3 : n < 0
        · exact pow_neg an ad n h h3 (by omega) w
        · exact pow_pos an ad n h (by omega) (by omega) w
theorem rpow_any (an ad n : Int) (w : World) :
    Calls Try.prog 43 #[.agg #[.int .i64 an, .int .i64 ad], .int .i64 n] w fun e w' => e = .returned (.agg #[.int .i64 (Q.pow (an, ad) n).1, .int .i64 (Q.pow (an, ad) n).2]) ∧ Below w.heap.size w w' := by
  cases h : Q.isq an ad
  · exact rpow_out an ad n (Or.inl h) w
  · by_cases h1 : n < -62
    · exact rpow_out an ad n (Or.inr (Or.inl h1)) w
    · by_cases h2 : 62 < n
      · exact rpow_out an ad n (Or.inr (Or.inr h2)) w
      · by_cases h3 : n < 0
        · exact rpow_neg an ad n h h3 (by omega) w
        · exact rpow_pos an ad n h (by omega) (by omega) w
end Go.Proofs.Ytpoalckncfkdgaa
