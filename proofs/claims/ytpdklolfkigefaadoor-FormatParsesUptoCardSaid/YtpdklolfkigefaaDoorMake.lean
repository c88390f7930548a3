/-
  Make and lowest, and the specification's Make: all give Q.mk.
-/
import Derived.Test.YtpdklolfkigefaaDoorLeaf2
set_option linter.all false
namespace Go.Proofs.YtpdklolfkigefaaDoor
open Go.RowKit

set_option maxHeartbeats 400000 in
theorem lowest_zero (s : Bool) (n : Nat) (w : World) :
    Calls Tryd.prog 92 #[.bool s, .int .u64 n, .int .u64 0] w fun e w' => e = .returned (.agg #[.int .i64 0, .int .i64 0]) ∧ Below w.heap.size w w' := by
  go_enter Tryd.func92, Tryd.ntmps92
  go_wp2
  go_returns
  exact ⟨rfl, by go_grown⟩

theorem ret_q {a b c d : Int} (h1 : a = c) (h2 : b = d) : Ending.returned (.agg #[.int .i64 a, .int .i64 b]) = Ending.returned (.agg #[.int .i64 c, .int .i64 d]) := by rw [h1, h2]

set_option maxHeartbeats 400000 in
theorem lowest_out (s : Bool) (n d g : Nat) (hn : n < 18446744073709551616) (hd : d < 18446744073709551616) (h0 : 0 < d) (hg : Hid (n.gcd d = g)) (hgp : 0 < g)
    (h : 1073741824 < n / g ∨ 1073741824 < d / g) (w : World) :
    Calls Tryd.prog 92 #[.bool s, .int .u64 n, .int .u64 d] w fun e w' => e = .returned (.agg #[.int .i64 0, .int .i64 0]) ∧ Below w.heap.size w w' := by
  have q1 := Nat.div_le_self n g
  have q2 := Nat.div_le_self d g
  have e1 : ((n / g : Nat) : Int) = (n : Int) / (g : Int) := by simp
  have e2 : ((d / g : Nat) : Int) = (d : Int) / (g : Int) := by simp
  have p1 : 0 ≤ (n : Int) / (g : Int) := Int.ediv_nonneg (by omega) (by omega)
  have p2 : 0 ≤ (d : Int) / (g : Int) := Int.ediv_nonneg (by omega) (by omega)
  have u1 : IntKind.u64.wrap ((n : Int) / (g : Int)) = (n : Int) / (g : Int) := IntWalk.u64_in _ (by omega)
  have u2 : IntKind.u64.wrap ((d : Int) / (g : Int)) = (d : Int) / (g : Int) := IntWalk.u64_in _ (by omega)
  by_cases a1 : 1073741824 < (n : Int) / (g : Int)
  · have t1 : decide (1073741824 < (n : Int) / (g : Int)) = true := by simp [a1]
    clear e1 e2 q1 q2 h a1
    go_enter Tryd.func92, Tryd.ntmps92
    go_wp2_with (go_at_call 46; refine (divisor_any _ _ (by omega) (by omega) _).mono ?_; rintro e w1 ⟨rfl, hb1⟩; obtain ⟨hc1, hf1⟩ := bcell hb1; rw [hg.out])
    go_quiet (fail)
    go_wp2
    have hz1 := hb1.size
    simp at hz1
    exact bodyPost_ret (v := .agg #[.int .i64 0, .int .i64 0]) (by simp [results, Tryd.results92, go_sem, hc1]) rfl ⟨rfl, Below.setCell (Below.setCell (drewN_below (on_below hb1 (by go_grown) (by simp)) _) (by simp) _) (by simp) _⟩
  · have t1 : decide (1073741824 < (n : Int) / (g : Int)) = false := by simp; omega
    have t2 : decide (1073741824 < (d : Int) / (g : Int)) = true := by simp; omega
    clear e1 e2 q1 q2 h a1
    go_enter Tryd.func92, Tryd.ntmps92
    go_wp2_with (go_at_call 46; refine (divisor_any _ _ (by omega) (by omega) _).mono ?_; rintro e w1 ⟨rfl, hb1⟩; obtain ⟨hc1, hf1⟩ := bcell hb1; rw [hg.out])
    go_quiet (fail)
    go_wp2
    have hz1 := hb1.size
    simp at hz1
    exact bodyPost_ret (v := .agg #[.int .i64 0, .int .i64 0]) (by simp [results, Tryd.results92, go_sem, hc1]) rfl ⟨rfl, Below.setCell (Below.setCell (drewN_below (on_below hb1 (by go_grown) (by simp)) _) (by simp) _) (by simp) _⟩

set_option maxHeartbeats 400000 in
theorem lowest_in (s : Bool) (n d g : Nat) (hn : n < 18446744073709551616) (hd : d < 18446744073709551616) (h0 : 0 < d) (hg : Hid (n.gcd d = g)) (hgp : 0 < g)
    (h1 : n / g ≤ 1073741824) (h2 : d / g ≤ 1073741824) (w : World) :
    Calls Tryd.prog 92 #[.bool s, .int .u64 n, .int .u64 d] w fun e w' => e = .returned (.agg #[.int .i64 (if s then -((n / g : Nat) : Int) else ((n / g : Nat) : Int)), .int .i64 ((d / g : Nat) : Int)]) ∧ Below w.heap.size w w' := by
  have e1 : ((n / g : Nat) : Int) = (n : Int) / (g : Int) := by simp
  have e2 : ((d / g : Nat) : Int) = (d : Int) / (g : Int) := by simp
  have p1 : 0 ≤ (n : Int) / (g : Int) := Int.ediv_nonneg (by omega) (by omega)
  have p2 : 0 ≤ (d : Int) / (g : Int) := Int.ediv_nonneg (by omega) (by omega)
  have u1 : IntKind.u64.wrap ((n : Int) / (g : Int)) = (n : Int) / (g : Int) := IntWalk.u64_in _ (by omega)
  have u2 : IntKind.u64.wrap ((d : Int) / (g : Int)) = (d : Int) / (g : Int) := IntWalk.u64_in _ (by omega)
  have v1 : IntKind.i64.wrap ((n : Int) / (g : Int)) = (n : Int) / (g : Int) := IntWalk.i64_in _ (by omega)
  have v2 : IntKind.i64.wrap ((d : Int) / (g : Int)) = (d : Int) / (g : Int) := IntWalk.i64_in _ (by omega)
  have v3 : IntKind.i64.wrap (-((n : Int) / (g : Int))) = -((n : Int) / (g : Int)) := IntWalk.i64_in _ (by omega)
  have t1 : decide (1073741824 < (n : Int) / (g : Int)) = false := by simp; omega
  have t2 : decide (1073741824 < (d : Int) / (g : Int)) = false := by simp; omega
  rw [e1, e2]
  clear e1 e2 h1 h2
  cases s
  · go_enter Tryd.func92, Tryd.ntmps92
    go_wp2_with (go_at_call 46; refine (divisor_any _ _ (by omega) (by omega) _).mono ?_; rintro e w1 ⟨rfl, hb1⟩; obtain ⟨hc1, hf1⟩ := bcell hb1; rw [hg.out])
    go_quiet (fail)
    go_wp2
    have hz1 := hb1.size
    simp at hz1
    exact bodyPost_ret (v := .agg #[.int .i64 ((n : Int) / (g : Int)), .int .i64 ((d : Int) / (g : Int))]) (by simp [results, Tryd.results92, go_sem, hc1]) rfl ⟨rfl, Below.setCell (Below.setCell (drewN_below (on_below hb1 (by go_grown) (by simp)) _) (by simp) _) (by simp) _⟩
  · go_enter Tryd.func92, Tryd.ntmps92
    go_wp2_with (go_at_call 46; refine (divisor_any _ _ (by omega) (by omega) _).mono ?_; rintro e w1 ⟨rfl, hb1⟩; obtain ⟨hc1, hf1⟩ := bcell hb1; rw [hg.out])
    go_quiet (fail)
    go_wp2
    have hz1 := hb1.size
    simp at hz1
    exact bodyPost_ret (v := .agg #[.int .i64 (-((n : Int) / (g : Int))), .int .i64 ((d : Int) / (g : Int))]) (by simp [results, Tryd.results92, go_sem, hc1]) rfl ⟨rfl, Below.setCell (Below.setCell (drewN_below (on_below hb1 (by go_grown) (by simp)) _) (by simp) _) (by simp) _⟩

theorem lowest_any (s : Bool) (n d : Nat) (hn : n < 18446744073709551616) (hd : d < 18446744073709551616) (w : World) :
    Calls Tryd.prog 92 #[.bool s, .int .u64 n, .int .u64 d] w fun e w' => e = .returned (.agg #[.int .i64 (Q.low s n d).1, .int .i64 (Q.low s n d).2]) ∧ Below w.heap.size w w' := by
  by_cases h0 : d = 0
  · subst h0; rw [Q.low_zero]; exact lowest_zero s n w
  · have hgp : 0 < n.gcd d := Nat.gcd_pos_of_pos_right _ (by omega)
    by_cases h : n / n.gcd d > 1073741824 ∨ d / n.gcd d > 1073741824
    · have e : Q.low s n d = (0, 0) := by unfold Q.low; rw [if_neg h0, if_pos h]
      rw [e]; exact lowest_out s n d _ hn hd (by omega) (Lib.hid rfl) hgp h w
    · have e : Q.low s n d = (if s then -((n / n.gcd d : Nat) : Int) else ((n / n.gcd d : Nat) : Int), ((d / n.gcd d : Nat) : Int)) := by unfold Q.low; rw [if_neg h0, if_neg h]
      rw [e]; exact lowest_in s n d _ hn hd (by omega) (Lib.hid rfl) hgp (by omega) (by omega) w
end Go.Proofs.YtpdklolfkigefaaDoor
