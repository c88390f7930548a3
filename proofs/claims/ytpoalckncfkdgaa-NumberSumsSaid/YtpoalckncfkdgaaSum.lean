/-
  Sums of lists: what each call gives.
-/
import Derived.Test.YtpoalckncfkdgaaSays
import Derived.Test.YtpoalckncfkdgaaQf
namespace Go.Proofs.Ytpoalckncfkdgaa
open Go.RowKit
namespace Q
def sumTo (qs : List (Int × Int)) : Nat → Int × Int
  | 0 => (0, 1)
  | k + 1 => add (sumTo qs k) (qs.getD k (0, 0))
theorem add_zero_left (q : Int × Int) : add (0, 1) q = clean q := by
  unfold add clean both
  have d : isq 0 1 = true := by decide
  simp only [d, Bool.true_and]
  cases h : isq q.1 q.2
  · rfl
  · simp only [if_true]
    have e : (0 : Int) * q.2 + q.1 * 1 = q.1 := by omega
    have e2 : (1 : Int) * q.2 = q.2 := by omega
    rw [e, e2]; exact mk_id h
end Q
/-- A slice of numbers in memory. -/
def IsQs (w : World) (b off len : Nat) (qs : List (Int × Int)) : Prop :=
  qs.length = len ∧ b < w.heap.size ∧ ∀ i, i < len → w.cell? ⟨b, off + i * 2, none⟩ = some (.int .i64 (qs.getD i (0, 0)).1) ∧ w.cell? ⟨b, off + i * 2 + 1, none⟩ = some (.int .i64 (qs.getD i (0, 0)).2)

set_option maxRecDepth 100000 in
set_option maxHeartbeats 1600000 in
theorem sum_some (qs : List (Int × Int)) (b off N cap : Nat) (w : World) (hcap : N ≤ cap) (hmax : cap ≤ 9223372036854775807) (hq : IsQs w b off N qs) :
    Calls Try.prog 48 #[.slice (some ⟨b, off, none⟩) N cap] w fun e w' => e = .returned (.agg #[.int .i64 (Q.sumTo qs N).1, .int .i64 (Q.sumTo qs N).2]) ∧ Below w.heap.size w w' := by
  obtain ⟨hlen, hb, hcells⟩ := hq
  obtain ⟨r, s, hr⟩ : ∃ r s, Hid (Q.sumTo qs N = (r, s)) := ⟨_, _, rfl⟩
  rw [hr.out]
  have HC := Lib.hid hcells
  clear hcells hlen
  have eW : Hid (Q.mk 0 1 = (0, 1)) := Lib.hid (by decide)
  go_enter Try.func48, Try.ntmps48
  go_wp2_with fail
  refine (whole_any _ (by omega) _).mono ?_
  rintro e w1 ⟨rfl, hb1⟩
  rw [eW.out]
  have cR0 : w1.cell? ⟨w.heap.size, 0, none⟩ = some (.int .i64 0) := by rw [hb1.cell (p := ⟨w.heap.size, 0, none⟩) (by first | (with_reducible assumption) | (simp; done) | omega | (simp; omega))]; simp [go_sem]
  have cR1 : w1.cell? ⟨w.heap.size, 1, none⟩ = some (.int .i64 0) := by rw [hb1.cell (p := ⟨w.heap.size, 1, none⟩) (by first | (with_reducible assumption) | (simp; done) | omega | (simp; omega))]; simp [go_sem]
  have zR0 : w1.frozen? ⟨w.heap.size, 0, none⟩ = false := by rw [hb1.frozen (p := ⟨w.heap.size, 0, none⟩) (by first | (with_reducible assumption) | (simp; done) | omega | (simp; omega))]; simp [go_sem]
  have zR1 : w1.frozen? ⟨w.heap.size, 1, none⟩ = false := by rw [hb1.frozen (p := ⟨w.heap.size, 1, none⟩) (by first | (with_reducible assumption) | (simp; done) | omega | (simp; omega))]; simp [go_sem]
  have bR : w.heap.size < w1.heap.size := by have := hb1.size; first | omega | (simp at this; omega)
  have hBk : Below w.heap.size w w1 := on_below hb1 (by repeat' (first | (with_reducible exact Below.refl _ _) | (with_reducible assumption) | (with_reducible refine drewN_below ?_ _) | (with_reducible refine Below.drew ?_) | (with_reducible refine Below.alloc ?_ ?_ _) | (with_reducible refine Below.setCell ?_ ?_ _) | (simp; done) | omega | (simp; omega))) (by first | (with_reducible assumption) | (simp; done) | omega | (simp; omega))
  clear hb1
  go_wp2
  go_loopw [9] (fun t wr => ∃ (k : Nat) (x y : Int), t = .int .i64 k ∧ k ≤ N ∧ Hid (Q.sumTo qs k = (x, y)) ∧ wr.cell? ⟨w1.heap.size, 0, none⟩ = some (.int .i64 x) ∧ wr.cell? ⟨w1.heap.size, 1, none⟩ = some (.int .i64 y) ∧ wr.frozen? ⟨w1.heap.size, 0, none⟩ = false ∧ wr.frozen? ⟨w1.heap.size, 1, none⟩ = false ∧ w1.heap.size + 1 ≤ wr.heap.size ∧ Below w1.heap.size w1 wr) (fun t _ => N - (intOf t).toNat)
  case atStart => exact ⟨0, 0, 1, by first | rfl | go_num, by omega, Lib.hid rfl, by simp [go_sem], by simp [go_sem], by simp [go_sem], by simp [go_sem], by simp, (by repeat' (first | (with_reducible exact Below.refl _ _) | (with_reducible assumption) | (with_reducible refine drewN_below ?_ _) | (with_reducible refine Below.drew ?_) | (with_reducible refine Below.alloc ?_ ?_ _) | (with_reducible refine Below.setCell ?_ ?_ _) | (simp; done) | omega | (simp; omega)))⟩
  case round =>
    obtain ⟨k, x, y, rfl, hk, hxy, hx0, hy0, hf0, hf1', hsz, hbel⟩ := hrel
    by_cases hlt : k < N
    · obtain ⟨c1, c2⟩ := HC.out k hlt
      obtain ⟨qx, hqx⟩ : ∃ x, (qs.getD k (0, 0)).1 = x := ⟨_, rfl⟩
      obtain ⟨qy, hqy⟩ : ∃ x, (qs.getD k (0, 0)).2 = x := ⟨_, rfl⟩
      rw [hqx] at c1
      rw [hqy] at c2
      have d1 := (hbel.cell (p := ⟨b, off + k * 2, none⟩) (Nat.lt_of_lt_of_le hb hBk.size)).trans ((hBk.cell (p := ⟨b, off + k * 2, none⟩) hb).trans c1)
      have d2 := (hbel.cell (p := ⟨b, off + k * 2 + 1, none⟩) (Nat.lt_of_lt_of_le hb hBk.size)).trans ((hBk.cell (p := ⟨b, off + k * 2 + 1, none⟩) hb).trans c2)
      clear c1 c2
      obtain ⟨x', y', hm⟩ : ∃ x' y', Hid (Q.add (x, y) (qx, qy) = (x', y')) := ⟨_, _, rfl⟩
      have hnext : Hid (Q.sumTo qs (k + 1) = (x', y')) := by
        unfold Hid; show Q.add (Q.sumTo qs k) (qs.getD k (0, 0)) = _
        have e : qs.getD k (0, 0) = (qx, qy) := Prod.ext hqx hqy
        rw [hxy.out, e]; exact hm.out
      clear hqx hqy
      have hlt' : (k : Int) < (N : Int) := by omega
      have hszl : w1.heap.size < wr.heap.size := hsz
      have bW : b < wr.heap.size := Nat.lt_of_lt_of_le hb (Nat.le_trans hBk.size hbel.size)
      go_wp2_with fail
      refine (add_any _ _ _ _ _).mono ?_
      rintro e w9 ⟨rfl, hb9⟩
      rw [hm.out]
      have hbm : Below wr.heap.size wr w9 := on_below hb9 (by repeat' (first | (with_reducible exact Below.refl _ _) | (with_reducible assumption) | (with_reducible refine drewN_below ?_ _) | (with_reducible refine Below.drew ?_) | (with_reducible refine Below.alloc ?_ ?_ _) | (with_reducible refine Below.setCell ?_ ?_ _) | (simp; done) | omega | (simp; omega))) (by first | (with_reducible assumption) | (simp; done) | omega | (simp; omega))
      have hx9 := (hbm.cell (p := ⟨w1.heap.size, 0, none⟩) hsz).trans hx0
      have hy9 := (hbm.cell (p := ⟨w1.heap.size, 1, none⟩) hsz).trans hy0
      have hf9 := (hbm.frozen (p := ⟨w1.heap.size, 0, none⟩) hsz).trans hf0
      have hg9 := (hbm.frozen (p := ⟨w1.heap.size, 1, none⟩) hsz).trans hf1'
      have hz9 : w1.heap.size + 1 ≤ w9.heap.size := Nat.le_trans hsz hbm.size
      have hB9 : Below w1.heap.size w1 w9 := Below.trans hbel (hbm.mono (by omega))
      clear hx0 hy0 hf0 hf1' hsz hszl hbel d1 d2 hb9 hbm
      go_wp2
      go_roundw
      case rel => exact ⟨k + 1, x', y', by go_num, by omega, hnext, by simp [go_sem, hx9], by simp [go_sem, hy9], by simp [go_sem, hf9], by simp [go_sem, hg9], by simp; omega, (by repeat' (first | (with_reducible exact Below.refl _ _) | (with_reducible assumption) | (with_reducible refine drewN_below ?_ _) | (with_reducible refine Below.drew ?_) | (with_reducible refine Below.alloc ?_ ?_ _) | (with_reducible refine Below.setCell ?_ ?_ _) | (simp; done) | omega | (simp; omega)))⟩
      case measure => simp [intOf]; omega
    · have hkN : k = N := by omega
      subst hkN
      have hr2 := hr.out
      rw [hxy.out] at hr2
      simp only [Prod.mk.injEq] at hr2
      obtain ⟨rfl, rfl⟩ := hr2
      have dR0 := (hbel.cell (p := ⟨w.heap.size, 0, none⟩) bR).trans cR0
      have dR1 := (hbel.cell (p := ⟨w.heap.size, 1, none⟩) bR).trans cR1
      have eR0 := (hbel.frozen (p := ⟨w.heap.size, 0, none⟩) bR).trans zR0
      have eR1 := (hbel.frozen (p := ⟨w.heap.size, 1, none⟩) bR).trans zR1
      have hfin : Below w.heap.size w wr := Below.trans hBk (hbel.mono hBk.size)
      go_wp2
      exact bodyPost_ret (v := .agg #[.int .i64 x, .int .i64 y]) (by simp [results, Try.results48, go_sem, dR0, dR1]) rfl ⟨rfl, (by repeat' (first | (with_reducible exact Below.refl _ _) | (with_reducible assumption) | (with_reducible refine drewN_below ?_ _) | (with_reducible refine Below.drew ?_) | (with_reducible refine Below.alloc ?_ ?_ _) | (with_reducible refine Below.setCell ?_ ?_ _) | (simp; done) | omega | (simp; omega)))⟩

set_option maxRecDepth 100000 in
set_option maxHeartbeats 800000 in
theorem sum_nil (a : Option Addr) (cap : Nat) (w : World) :
    Calls Try.prog 48 #[.slice a 0 cap] w fun e w' => e = .returned (.agg #[.int .i64 0, .int .i64 1]) ∧ Below w.heap.size w w' := by
  have eW : Hid (Q.mk 0 1 = (0, 1)) := Lib.hid (by decide)
  go_enter Try.func48, Try.ntmps48
  go_wp2_with fail
  refine (whole_any _ (by omega) _).mono ?_
  rintro e w1 ⟨rfl, hb1⟩
  rw [eW.out]
  have cR0 : w1.cell? ⟨w.heap.size, 0, none⟩ = some (.int .i64 0) := by rw [hb1.cell (p := ⟨w.heap.size, 0, none⟩) (by first | (with_reducible assumption) | (simp; done) | omega | (simp; omega))]; simp [go_sem]
  have cR1 : w1.cell? ⟨w.heap.size, 1, none⟩ = some (.int .i64 0) := by rw [hb1.cell (p := ⟨w.heap.size, 1, none⟩) (by first | (with_reducible assumption) | (simp; done) | omega | (simp; omega))]; simp [go_sem]
  have zR0 : w1.frozen? ⟨w.heap.size, 0, none⟩ = false := by rw [hb1.frozen (p := ⟨w.heap.size, 0, none⟩) (by first | (with_reducible assumption) | (simp; done) | omega | (simp; omega))]; simp [go_sem]
  have zR1 : w1.frozen? ⟨w.heap.size, 1, none⟩ = false := by rw [hb1.frozen (p := ⟨w.heap.size, 1, none⟩) (by first | (with_reducible assumption) | (simp; done) | omega | (simp; omega))]; simp [go_sem]
  have bR : w.heap.size < w1.heap.size := by have := hb1.size; first | omega | (simp at this; omega)
  have hBk : Below w.heap.size w w1 := on_below hb1 (by repeat' (first | (with_reducible exact Below.refl _ _) | (with_reducible assumption) | (with_reducible refine drewN_below ?_ _) | (with_reducible refine Below.drew ?_) | (with_reducible refine Below.alloc ?_ ?_ _) | (with_reducible refine Below.setCell ?_ ?_ _) | (simp; done) | omega | (simp; omega))) (by first | (with_reducible assumption) | (simp; done) | omega | (simp; omega))
  clear hb1
  go_wp2
  go_rounds 1
  exact bodyPost_ret (v := .agg #[.int .i64 0, .int .i64 1]) (by simp [results, Try.results48, go_sem, cR0, cR1, bR]) rfl ⟨rfl, (by repeat' (first | (with_reducible exact Below.refl _ _) | (with_reducible assumption) | (with_reducible refine drewN_below ?_ _) | (with_reducible refine Below.drew ?_) | (with_reducible refine Below.alloc ?_ ?_ _) | (with_reducible refine Below.setCell ?_ ?_ _) | (simp; done) | omega | (simp; omega)))⟩

set_option maxRecDepth 100000 in
set_option maxHeartbeats 800000 in
theorem rsum_nil (a : Option Addr) (cap : Nat) (w : World) :
    Calls Try.prog 49 #[.slice a 0 cap] w fun e w' => e = .returned (.agg #[.int .i64 0, .int .i64 1]) ∧ Below w.heap.size w w' := by
  have eW : Hid (Q.mk 0 1 = (0, 1)) := Lib.hid (by decide)
  go_enter Try.func49, Try.ntmps49
  go_wp2_with fail
  refine (rwhole_any _ (by omega) _).mono ?_
  rintro e w1 ⟨rfl, hb1⟩
  rw [eW.out]
  have cR0 : w1.cell? ⟨w.heap.size, 0, none⟩ = some (.int .i64 0) := by rw [hb1.cell (p := ⟨w.heap.size, 0, none⟩) (by first | (with_reducible assumption) | (simp; done) | omega | (simp; omega))]; simp [go_sem]
  have cR1 : w1.cell? ⟨w.heap.size, 1, none⟩ = some (.int .i64 0) := by rw [hb1.cell (p := ⟨w.heap.size, 1, none⟩) (by first | (with_reducible assumption) | (simp; done) | omega | (simp; omega))]; simp [go_sem]
  have zR0 : w1.frozen? ⟨w.heap.size, 0, none⟩ = false := by rw [hb1.frozen (p := ⟨w.heap.size, 0, none⟩) (by first | (with_reducible assumption) | (simp; done) | omega | (simp; omega))]; simp [go_sem]
  have zR1 : w1.frozen? ⟨w.heap.size, 1, none⟩ = false := by rw [hb1.frozen (p := ⟨w.heap.size, 1, none⟩) (by first | (with_reducible assumption) | (simp; done) | omega | (simp; omega))]; simp [go_sem]
  have bR : w.heap.size < w1.heap.size := by have := hb1.size; first | omega | (simp at this; omega)
  have hBk : Below w.heap.size w w1 := on_below hb1 (by repeat' (first | (with_reducible exact Below.refl _ _) | (with_reducible assumption) | (with_reducible refine drewN_below ?_ _) | (with_reducible refine Below.drew ?_) | (with_reducible refine Below.alloc ?_ ?_ _) | (with_reducible refine Below.setCell ?_ ?_ _) | (simp; done) | omega | (simp; omega))) (by first | (with_reducible assumption) | (simp; done) | omega | (simp; omega))
  clear hb1
  go_wp2
  exact bodyPost_ret (v := .agg #[.int .i64 0, .int .i64 1]) (by simp [results, Try.results49, go_sem, cR0, cR1]) rfl ⟨rfl, (by repeat' (first | (with_reducible exact Below.refl _ _) | (with_reducible assumption) | (with_reducible refine drewN_below ?_ _) | (with_reducible refine Below.drew ?_) | (with_reducible refine Below.alloc ?_ ?_ _) | (with_reducible refine Below.setCell ?_ ?_ _) | (simp; done) | omega | (simp; omega)))⟩

set_option maxRecDepth 100000 in
set_option maxHeartbeats 1600000 in
theorem rsum_some (qs : List (Int × Int)) (b off N cap : Nat) (w : World) (hN : 0 < N) (hcap : N ≤ cap) (hmax : cap ≤ 9223372036854775807) (hq : IsQs w b off N qs) :
    Calls Try.prog 49 #[.slice (some ⟨b, off, none⟩) N cap] w fun e w' => e = .returned (.agg #[.int .i64 (Q.sumTo qs N).1, .int .i64 (Q.sumTo qs N).2]) ∧ Below w.heap.size w w' := by
  obtain ⟨hlen, hb, hcells⟩ := hq
  obtain ⟨r, s, hr⟩ : ∃ r s, Hid (Q.sumTo qs N = (r, s)) := ⟨_, _, rfl⟩
  rw [hr.out]
  have HC := Lib.hid hcells
  clear hcells hlen
  obtain ⟨qx, hqx⟩ : ∃ x, (qs.getD 0 (0, 0)).1 = x := ⟨_, rfl⟩
  obtain ⟨qy, hqy⟩ : ∃ x, (qs.getD 0 (0, 0)).2 = x := ⟨_, rfl⟩
  obtain ⟨c1, c2⟩ := HC.out 0 hN
  rw [hqx, Nat.zero_mul, Nat.add_zero] at c1
  rw [hqy, Nat.zero_mul, Nat.add_zero] at c2
  obtain ⟨x0, y0, h1⟩ : ∃ x y, Hid (Q.clean (qx, qy) = (x, y)) := ⟨_, _, rfl⟩
  have hs1 : Hid (Q.sumTo qs 1 = (x0, y0)) := by
    unfold Hid; show Q.add (0, 1) (qs.getD 0 (0, 0)) = _
    have e : qs.getD 0 (0, 0) = (qx, qy) := Prod.ext hqx hqy
    rw [e, Q.add_zero_left]; exact h1.out
  clear hqx hqy
  have n0 : ((N : Int) == 0) = false := by rw [beq_eq_false_iff_ne]; omega
  have n1 : (0 : Int) < (N : Int) := by omega
  go_enter Try.func49, Try.ntmps49
  go_wp2_with fail
  refine (rclean_any _ _ _).mono ?_
  rintro e w1 ⟨rfl, hb1⟩
  rw [h1.out]
  have cR0 : w1.cell? ⟨w.heap.size, 0, none⟩ = some (.int .i64 0) := by rw [hb1.cell (p := ⟨w.heap.size, 0, none⟩) (by first | (with_reducible assumption) | (simp; done) | omega | (simp; omega))]; simp [go_sem]
  have cR1 : w1.cell? ⟨w.heap.size, 1, none⟩ = some (.int .i64 0) := by rw [hb1.cell (p := ⟨w.heap.size, 1, none⟩) (by first | (with_reducible assumption) | (simp; done) | omega | (simp; omega))]; simp [go_sem]
  have zR0 : w1.frozen? ⟨w.heap.size, 0, none⟩ = false := by rw [hb1.frozen (p := ⟨w.heap.size, 0, none⟩) (by first | (with_reducible assumption) | (simp; done) | omega | (simp; omega))]; simp [go_sem]
  have zR1 : w1.frozen? ⟨w.heap.size, 1, none⟩ = false := by rw [hb1.frozen (p := ⟨w.heap.size, 1, none⟩) (by first | (with_reducible assumption) | (simp; done) | omega | (simp; omega))]; simp [go_sem]
  have bR : w.heap.size < w1.heap.size := by have := hb1.size; first | omega | (simp at this; omega)
  have hBk : Below w.heap.size w w1 := on_below hb1 (by repeat' (first | (with_reducible exact Below.refl _ _) | (with_reducible assumption) | (with_reducible refine drewN_below ?_ _) | (with_reducible refine Below.drew ?_) | (with_reducible refine Below.alloc ?_ ?_ _) | (with_reducible refine Below.setCell ?_ ?_ _) | (simp; done) | omega | (simp; omega))) (by first | (with_reducible assumption) | (simp; done) | omega | (simp; omega))
  clear hb1 c1 c2 n0
  go_wp2
  go_loopw [4] (fun t wr => ∃ (k : Nat) (x y : Int), t = .int .i64 k ∧ k ≤ N ∧ Hid (Q.sumTo qs k = (x, y)) ∧ wr.cell? ⟨w1.heap.size, 0, none⟩ = some (.int .i64 x) ∧ wr.cell? ⟨w1.heap.size, 1, none⟩ = some (.int .i64 y) ∧ wr.frozen? ⟨w1.heap.size, 0, none⟩ = false ∧ wr.frozen? ⟨w1.heap.size, 1, none⟩ = false ∧ w1.heap.size + 1 ≤ wr.heap.size ∧ Below w1.heap.size w1 wr) (fun t _ => N - (intOf t).toNat)
  case atStart => exact ⟨1, x0, y0, by first | rfl | go_num, by omega, hs1, by simp [go_sem], by simp [go_sem], by simp [go_sem], by simp [go_sem], by simp, (by repeat' (first | (with_reducible exact Below.refl _ _) | (with_reducible assumption) | (with_reducible refine drewN_below ?_ _) | (with_reducible refine Below.drew ?_) | (with_reducible refine Below.alloc ?_ ?_ _) | (with_reducible refine Below.setCell ?_ ?_ _) | (simp; done) | omega | (simp; omega)))⟩
  case round =>
    obtain ⟨k, x, y, rfl, hk, hxy, hx0, hy0, hf0, hf1', hsz, hbel⟩ := hrel
    by_cases hlt : k < N
    · obtain ⟨c1, c2⟩ := HC.out k hlt
      obtain ⟨qx, hqx⟩ : ∃ x, (qs.getD k (0, 0)).1 = x := ⟨_, rfl⟩
      obtain ⟨qy, hqy⟩ : ∃ x, (qs.getD k (0, 0)).2 = x := ⟨_, rfl⟩
      rw [hqx] at c1
      rw [hqy] at c2
      have d1 := (hbel.cell (p := ⟨b, off + k * 2, none⟩) (Nat.lt_of_lt_of_le hb hBk.size)).trans ((hBk.cell (p := ⟨b, off + k * 2, none⟩) hb).trans c1)
      have d2 := (hbel.cell (p := ⟨b, off + k * 2 + 1, none⟩) (Nat.lt_of_lt_of_le hb hBk.size)).trans ((hBk.cell (p := ⟨b, off + k * 2 + 1, none⟩) hb).trans c2)
      clear c1 c2
      obtain ⟨x', y', hm⟩ : ∃ x' y', Hid (Q.add (x, y) (qx, qy) = (x', y')) := ⟨_, _, rfl⟩
      have hnext : Hid (Q.sumTo qs (k + 1) = (x', y')) := by
        unfold Hid; show Q.add (Q.sumTo qs k) (qs.getD k (0, 0)) = _
        have e : qs.getD k (0, 0) = (qx, qy) := Prod.ext hqx hqy
        rw [hxy.out, e]; exact hm.out
      clear hqx hqy
      have hlt' : (k : Int) < (N : Int) := by omega
      have hszl : w1.heap.size < wr.heap.size := hsz
      have bW : b < wr.heap.size := Nat.lt_of_lt_of_le hb (Nat.le_trans hBk.size hbel.size)
      go_wp2
      first | (go_region_with (first | (go_at_call 16; refine (radd_any _ _ _ _ _).mono ?_; rintro e w9 ⟨rfl, hb9⟩; rw [hm.out]; have hbm : Below wr.heap.size wr w9 := on_below hb9 (by repeat' (first | (with_reducible exact Below.refl _ _) | (with_reducible assumption) | (with_reducible refine drewN_below ?_ _) | (with_reducible refine Below.drew ?_) | (with_reducible refine Below.alloc ?_ ?_ _) | (with_reducible refine Below.setCell ?_ ?_ _) | (simp; done) | omega | (simp; omega))) (by first | (with_reducible assumption) | (simp; done) | omega | (simp; omega)); have hx9 := (hbm.cell (p := ⟨w1.heap.size, 0, none⟩) hsz).trans hx0; have hy9 := (hbm.cell (p := ⟨w1.heap.size, 1, none⟩) hsz).trans hy0; have hf9 := (hbm.frozen (p := ⟨w1.heap.size, 0, none⟩) hsz).trans hf0; have hg9 := (hbm.frozen (p := ⟨w1.heap.size, 1, none⟩) hsz).trans hf1'))) | fail
      all_goals
        have hz9 : w1.heap.size + 1 ≤ w9.heap.size := Nat.le_trans hsz hbm.size
        have hB9 : Below w1.heap.size w1 w9 := Below.trans hbel (hbm.mono (by omega))
        clear hx0 hy0 hf0 hf1' hsz hszl hbel d1 d2 hb9 hbm
        go_wp2
        go_roundw
        case rel => exact ⟨k + 1, x', y', by go_num, by omega, hnext, by simp [go_sem, hx9], by simp [go_sem, hy9], by simp [go_sem, hf9], by simp [go_sem, hg9], by simp; omega, (by repeat' (first | (with_reducible exact Below.refl _ _) | (with_reducible assumption) | (with_reducible refine drewN_below ?_ _) | (with_reducible refine Below.drew ?_) | (with_reducible refine Below.alloc ?_ ?_ _) | (with_reducible refine Below.setCell ?_ ?_ _) | (simp; done) | omega | (simp; omega)))⟩
        case measure => simp [intOf]; omega
    · have hkN : k = N := by omega
      subst hkN
      have hr2 := hr.out
      rw [hxy.out] at hr2
      simp only [Prod.mk.injEq] at hr2
      obtain ⟨rfl, rfl⟩ := hr2
      have dR0 := (hbel.cell (p := ⟨w.heap.size, 0, none⟩) bR).trans cR0
      have dR1 := (hbel.cell (p := ⟨w.heap.size, 1, none⟩) bR).trans cR1
      have eR0 := (hbel.frozen (p := ⟨w.heap.size, 0, none⟩) bR).trans zR0
      have eR1 := (hbel.frozen (p := ⟨w.heap.size, 1, none⟩) bR).trans zR1
      have hfin : Below w.heap.size w wr := Below.trans hBk (hbel.mono hBk.size)
      go_wp2
      exact bodyPost_ret (v := .agg #[.int .i64 x, .int .i64 y]) (by simp [results, Try.results49, go_sem, dR0, dR1]) rfl ⟨rfl, (by repeat' (first | (with_reducible exact Below.refl _ _) | (with_reducible assumption) | (with_reducible refine drewN_below ?_ _) | (with_reducible refine Below.drew ?_) | (with_reducible refine Below.alloc ?_ ?_ _) | (with_reducible refine Below.setCell ?_ ?_ _) | (simp; done) | omega | (simp; omega)))⟩

end Go.Proofs.Ytpoalckncfkdgaa
