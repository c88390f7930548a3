/-
  Leaves of formats: powers of two, sizes.
-/
import Derived.Test.YtpdklolfkigefaaDoorMake2
import Derived.Test.YtpdklolfkigefaaDoorZr
import Derived.Test.YtpdklolfkigefaaDoorZp
set_option linter.all false
namespace Go.Proofs.YtpdklolfkigefaaDoor
open Go.RowKit
/-- What a contract's end tells, said of the world that the walk began in. -/
theorem after {W w1 a : World} {B : Nat} (k : Nat) (hb : Below W.heap.size W w1) (hk : k ≤ W.heap.size) (h : Below B a W) (hB : B ≤ k) :
    (∀ b o, b < k → w1.cell? ⟨b, o, none⟩ = W.cell? ⟨b, o, none⟩) ∧ (∀ b o, b < k → w1.frozen? ⟨b, o, none⟩ = W.frozen? ⟨b, o, none⟩) ∧ k ≤ w1.heap.size ∧ Below B a w1 :=
  ⟨(bck k hb hk).1, (bck k hb hk).2.1, (bck k hb hk).2.2, on_below hb h (Nat.le_trans hB hk)⟩

set_option maxHeartbeats 400000 in
theorem half_any (k r o : ByteArray) (I F : Nat) (h : I + F ≤ 30) (w : World) :
    Calls Tryd.prog 70 #[.agg #[.string k, .int .i64 (I : Int), .int .i64 (F : Int), .string r, .string o]] w fun e w' => e = .returned (.int .i64 (2 ^ (I + F) : Int)) ∧ Below w.heap.size w w' := by
  have h1 := Z.p2_bd (I + F) (by omega)
  go_enter Tryd.func70, Tryd.ntmps70
  go_wp2
  go_ret
  exact ⟨rfl, by go_grown⟩
set_option maxHeartbeats 400000 in
theorem xsize_any (n d : Int) (hn : -2305843009213693952 ≤ n ∧ n ≤ 2305843009213693952) (w : World) :
    Calls Tryd.prog 82 #[.agg #[.int .i64 n, .int .i64 d]] w fun e w' => e = .returned (.int .u64 (n.natAbs : Int)) ∧ Below w.heap.size w w' := by
  go_enter Tryd.func82, Tryd.ntmps82
  go_wp2
  · have e : (n.natAbs : Int) = -n := by omega
    rw [e]
    go_ret
    exact ⟨rfl, by go_grown⟩
  · have e : (n.natAbs : Int) = n := by omega
    rw [e]
    go_ret
    exact ⟨rfl, by go_grown⟩
set_option maxHeartbeats 400000 in
theorem isbelow_pos (n d : Int) (j : Nat) (hn : -2305843009213693952 ≤ n ∧ n ≤ 2305843009213693952) (hd : 1 ≤ d ∧ d ≤ 2305843009213693952) (hj : j ≤ 60) (w : World) :
    Calls Tryd.prog 66 #[.agg #[.int .i64 n, .int .i64 d], .int .i64 (j : Int)] w fun e w' => e = .returned (.bool (Z.below n d j)) ∧ Below w.heap.size w w' := by
  have e1 := Lib.hid (Z.below_pos n d j)
  have e2 := Lib.hid (Z.shr_lt n.natAbs d j)
  have u1 : IntKind.u64.wrap d = d := IntWalk.u64_in _ (by omega)
  go_enter Tryd.func66, Tryd.ntmps66
  go_wp2
  go_region_held3 (fun w' => w'.cell? ⟨w.heap.size, 0, none⟩ = some (.int .i64 n) ∧ w'.cell? ⟨w.heap.size, 1, none⟩ = some (.int .i64 d)) (go_keep)
    (first | (go_at_call 82; refine (xsize_any _ _ (by omega) _).mono ?_; rintro e w1 ⟨rfl, hb1⟩; obtain ⟨hc1, hf1⟩ := bcell hb1))
  go_wp2
  go_ret
  exact ⟨by rw [e1.out, ← e2.out]; rfl, on_below hb1 (by go_grown) (by simp)⟩
set_option maxHeartbeats 400000 in
theorem isbelow_neg (n d : Int) (j : Nat) (hn : -2305843009213693952 ≤ n ∧ n ≤ 2305843009213693952) (hd : 1 ≤ d ∧ d ≤ 2305843009213693952) (hj : j ≤ 60) (hj0 : 0 < j) (w : World) :
    Calls Tryd.prog 66 #[.agg #[.int .i64 n, .int .i64 d], .int .i64 (-(j : Int))] w fun e w' => e = .returned (.bool (Z.below n d (-(j : Int)))) ∧ Below w.heap.size w w' := by
  have e1 := Lib.hid (Z.below_neg n d j)
  have e2 := Lib.hid (Z.le_shr n.natAbs d j)
  have u1 : IntKind.u64.wrap (d - 1) = d - 1 := IntWalk.u64_in _ (by omega)
  have u2 : IntKind.i64.wrap (d - 1) = d - 1 := Z.i64_in _ (by omega)
  have u3 : IntKind.i64.wrap (j : Int) = (j : Int) := Z.i64_in _ (by omega)
  go_enter Tryd.func66, Tryd.ntmps66
  go_wp2
  go_region_held3 (fun w' => w'.cell? ⟨w.heap.size, 0, none⟩ = some (.int .i64 n) ∧ w'.cell? ⟨w.heap.size, 1, none⟩ = some (.int .i64 d)) (go_keep)
    (first | (go_at_call 82; refine (xsize_any _ _ (by omega) _).mono ?_; rintro e w1 ⟨rfl, hb1⟩; obtain ⟨hc1, hf1⟩ := bcell hb1))
  go_wp2
  go_ret
  exact ⟨by rw [e1.out, ← e2.out]; rfl, on_below hb1 (by go_grown) (by simp)⟩
theorem isbelow_any (n d e : Int) (hn : -2305843009213693952 ≤ n ∧ n ≤ 2305843009213693952) (hd : 1 ≤ d ∧ d ≤ 2305843009213693952) (he : -60 ≤ e ∧ e ≤ 60) (w : World) :
    Calls Tryd.prog 66 #[.agg #[.int .i64 n, .int .i64 d], .int .i64 e] w fun en w' => en = .returned (.bool (Z.below n d e)) ∧ Below w.heap.size w w' := by
  by_cases h : 0 ≤ e
  · obtain ⟨j, rfl⟩ := Int.eq_ofNat_of_zero_le h
    exact isbelow_pos n d j hn hd (by omega) w
  · obtain ⟨j, hj⟩ := Int.eq_ofNat_of_zero_le (show 0 ≤ -e by omega)
    obtain rfl : e = -(j : Int) := by omega
    exact isbelow_neg n d j hn hd (by omega) (by omega) w
set_option maxHeartbeats 400000 in
theorem power_neg (m : Int) (j : Nat) (hj : 1 ≤ j ∧ j ≤ 30) (hm : -4611686018427387904 ≤ m ∧ m ≤ 4611686018427387904) (w : World) :
    Calls Tryd.prog 69 #[.int .i64 m, .int .i64 (-(j : Int))] w fun e w' => e = .returned (.agg #[.int .i64 (Q.mk m (2 ^ j)).1, .int .i64 (Q.mk m (2 ^ j)).2]) ∧ Below w.heap.size w w' := by
  have h1 := Lib.hid (Z.p2_wrap j (by omega))
  have h2 := Z.p2_30 j (by omega)
  obtain ⟨a, b, hr⟩ : ∃ a b, Hid (Q.mk m (2 ^ j) = (a, b)) := ⟨_, _, rfl⟩
  rw [hr.out]
  go_enter Tryd.func69, Tryd.ntmps69
  go_wp2_with fail
  refine (make_any _ _ (by omega) (by omega) _).mono ?_
  rintro e w1 ⟨rfl, hb1⟩
  obtain ⟨hc1, hf1, hz1, hB1⟩ := after (a := w) (B := w.heap.size) (w.heap.size + 1) hb1 (by first | (with_reducible assumption) | (simp; done) | omega | (simp; omega)) (by repeat' (first | (with_reducible exact Below.refl _ _) | (with_reducible assumption) | (with_reducible refine drewN_below ?_ _) | (with_reducible refine Below.drew ?_) | (with_reducible refine Below.alloc ?_ ?_ _) | (with_reducible refine Below.setCell ?_ ?_ _) | (simp; done) | omega | (simp; omega))) (by omega)
  rw [hr.out]
  go_wp2
  exact bodyPost_ret (v := .agg #[.int .i64 a, .int .i64 b]) (by simp [results, Tryd.results69, go_sem, hc1]) rfl ⟨rfl, (by repeat' (first | (with_reducible exact Below.refl _ _) | (with_reducible assumption) | (with_reducible refine drewN_below ?_ _) | (with_reducible refine Below.drew ?_) | (with_reducible refine Below.alloc ?_ ?_ _) | (with_reducible refine Below.setCell ?_ ?_ _) | (simp; done) | omega | (simp; omega)))⟩
set_option maxHeartbeats 400000 in
theorem power_pos (m : Int) (j : Nat) (hj : j ≤ 30) (hm : -4611686018427387904 ≤ m * 2 ^ j ∧ m * 2 ^ j ≤ 4611686018427387904) (w : World) :
    Calls Tryd.prog 69 #[.int .i64 m, .int .i64 (j : Int)] w fun e w' => e = .returned (.agg #[.int .i64 (Q.mk (m * 2 ^ j) 1).1, .int .i64 (Q.mk (m * 2 ^ j) 1).2]) ∧ Below w.heap.size w w' := by
  obtain ⟨a, b, hr⟩ : ∃ a b, Hid (Q.mk (m * 2 ^ j) 1 = (a, b)) := ⟨_, _, rfl⟩
  rw [hr.out]
  go_enter Tryd.func69, Tryd.ntmps69
  go_wp2_with fail
  refine (make_any _ _ (by omega) (by omega) _).mono ?_
  rintro e w1 ⟨rfl, hb1⟩
  obtain ⟨hc1, hf1, hz1, hB1⟩ := after (a := w) (B := w.heap.size) (w.heap.size + 1) hb1 (by first | (with_reducible assumption) | (simp; done) | omega | (simp; omega)) (by repeat' (first | (with_reducible exact Below.refl _ _) | (with_reducible assumption) | (with_reducible refine drewN_below ?_ _) | (with_reducible refine Below.drew ?_) | (with_reducible refine Below.alloc ?_ ?_ _) | (with_reducible refine Below.setCell ?_ ?_ _) | (simp; done) | omega | (simp; omega))) (by omega)
  rw [hr.out]
  go_wp2
  exact bodyPost_ret (v := .agg #[.int .i64 a, .int .i64 b]) (by simp [results, Tryd.results69, go_sem, hc1]) rfl ⟨rfl, (by repeat' (first | (with_reducible exact Below.refl _ _) | (with_reducible assumption) | (with_reducible refine drewN_below ?_ _) | (with_reducible refine Below.drew ?_) | (with_reducible refine Below.alloc ?_ ?_ _) | (with_reducible refine Below.setCell ?_ ?_ _) | (simp; done) | omega | (simp; omega)))⟩
set_option maxHeartbeats 400000 in
theorem steps_any (ks r o : ByteArray) (i : Int) (F : Nat) (k : Int) (hF : F ≤ 30) (hk : -4611686018427387904 ≤ k ∧ k ≤ 4611686018427387904) (w : World) :
    Calls Tryd.prog 71 #[.agg #[.string ks, .int .i64 i, .int .i64 (F : Int), .string r, .string o], .int .i64 k] w fun e w' => e = .returned (.agg #[.int .i64 (Q.mk k (2 ^ F)).1, .int .i64 (Q.mk k (2 ^ F)).2]) ∧ Below w.heap.size w w' := by
  obtain ⟨a, b, hr⟩ : ∃ a b, Hid (Q.mk k (2 ^ F) = (a, b)) := ⟨_, _, rfl⟩
  rw [hr.out]
  have hc : ∀ w, Calls Tryd.prog 69 #[.int .i64 k, .int .i64 (-(F : Int))] w fun e w' => e = .returned (.agg #[.int .i64 a, .int .i64 b]) ∧ Below w.heap.size w w' := by
    intro w
    have e := hr.out
    by_cases h : F = 0
    · subst h
      have := power_pos k 0 (by omega) (by omega) w
      rw [Int.pow_zero, Int.mul_one] at this
      rw [Int.pow_zero] at e
      rw [e] at this
      exact this
    · have := power_neg k F (by omega) hk w
      rw [e] at this
      exact this
  go_enter Tryd.func71, Tryd.ntmps71
  go_wp2_with fail
  refine (hc _).mono ?_
  rintro e w1 ⟨rfl, hb1⟩
  obtain ⟨hc1, hf1, hz1, hB1⟩ := after (a := w) (B := w.heap.size) (w.heap.size + 2) hb1 (by first | (with_reducible assumption) | (simp; done) | omega | (simp; omega)) (by repeat' (first | (with_reducible exact Below.refl _ _) | (with_reducible assumption) | (with_reducible refine drewN_below ?_ _) | (with_reducible refine Below.drew ?_) | (with_reducible refine Below.alloc ?_ ?_ _) | (with_reducible refine Below.setCell ?_ ?_ _) | (simp; done) | omega | (simp; omega))) (by omega)
  go_wp2
  exact bodyPost_ret (v := .agg #[.int .i64 a, .int .i64 b]) (by simp [results, Tryd.results71, go_sem, hc1]) rfl ⟨rfl, (by repeat' (first | (with_reducible exact Below.refl _ _) | (with_reducible assumption) | (with_reducible refine drewN_below ?_ _) | (with_reducible refine Below.drew ?_) | (with_reducible refine Below.alloc ?_ ?_ _) | (with_reducible refine Below.setCell ?_ ?_ _) | (simp; done) | omega | (simp; omega)))⟩
end Go.Proofs.YtpdklolfkigefaaDoor
