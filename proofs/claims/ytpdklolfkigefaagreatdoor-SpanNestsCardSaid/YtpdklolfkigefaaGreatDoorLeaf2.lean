/-
  The specification's own leaves: None, Divisor, Is, least.
-/
import Derived.Test.YtpdklolfkigefaaGreatDoorLeaf
set_option linter.all false
namespace Go.Proofs.YtpdklolfkigefaaGreatDoor
open Go.RowKit

set_option maxHeartbeats 400000 in
theorem rnone_any (w : World) :
    Calls Tryz.prog 21 #[] w fun e w' => e = .returned (.agg #[.int .i64 0, .int .i64 0]) ∧ Below w.heap.size w w' := by
  go_enter Tryz.func21, Tryz.ntmps21
  go_wp2
  go_returns
  exact ⟨rfl, by go_grown⟩
set_option maxHeartbeats 400000 in
theorem rleast_no (n : Int) (h0 : -9223372036854775807 ≤ n ∧ n ≤ 9223372036854775807) (w : World) :
    Calls Tryz.prog 95 #[.int .i64 n] w fun e w' => e = .returned (.bool false) ∧ w = w' := by
  by_cases hn : n = 0
  · subst hn
    go_enter Tryz.func95, Tryz.ntmps95
    go_wp2
    go_ret
    exact ⟨rfl, rfl⟩
  · have h1 : (n == -n) = false := by rw [beq_eq_false_iff_ne]; omega
    go_enter Tryz.func95, Tryz.ntmps95
    go_wp2
    go_ret
    exact ⟨rfl, rfl⟩
def leastInt : Int := -9223372036854775808
theorem leastInt_wrap : wrap64 (-leastInt) = leastInt := by unfold wrap64 leastInt; omega
theorem leastInt_ne : (leastInt != 0) = true := by decide
set_option maxHeartbeats 400000 in
theorem rleast_yes (w : World) :
    Calls Tryz.prog 95 #[.int .i64 leastInt] w fun e w' => e = .returned (.bool true) ∧ w = w' := by
  have h1 := leastInt_wrap
  have h2 := leastInt_ne
  go_enter Tryz.func95, Tryz.ntmps95
  go_wp2
  go_ret
  exact ⟨rfl, rfl⟩
set_option maxHeartbeats 400000 in
theorem rdivisor_any (a b : Int) (ha : -9223372036854775807 ≤ a ∧ a ≤ 9223372036854775807) (hb : -9223372036854775807 ≤ b ∧ b ≤ 9223372036854775807) (w : World) :
    Calls Tryz.prog 65 #[.int .i64 a, .int .i64 b] w fun e w' => e = .returned (.int .i64 (Nat.gcd a.natAbs b.natAbs : Nat)) ∧ w = w' := by
  by_cases h1 : a < 0
  all_goals by_cases h2 : b < 0
  all_goals
    go_enter Tryz.func65, Tryz.ntmps65
    go_wp2
    go_loop [0, 1, 5] (fun x y _ => ∃ c d : Nat, x = .int .i64 c ∧ y = .int .i64 d ∧ Hid (Nat.gcd c d = Nat.gcd a.natAbs b.natAbs ∧ d < 9223372036854775808 ∧ c < 9223372036854775808)) (fun _ y _ => (intOf y).toNat)
    case atStart => exact ⟨a.natAbs, b.natAbs, by congr 1; omega, by congr 1; omega, Lib.hid ⟨rfl, by omega, by omega⟩⟩
    case round =>
      obtain ⟨c, d, rfl, rfl, H⟩ := hrel
      have hc9 : (c : Int) ≤ 9223372036854775807 := by have := H.out; omega
      have hd9 : (d : Int) ≤ 9223372036854775807 := by have := H.out; omega
      by_cases hd : d = 0
      · subst hd
        go_wp2
        go_ret
        exact ⟨by have := H.out.1; simp at this; rw [← this]; rfl, rfl⟩
      · have hd1 : (0:Int) < (d : Int) := by omega
        go_wp2
        have h := H.out
        refine ⟨⟨d, c % d, rfl, rfl, Lib.hid ⟨?_, ?_, h.2.1⟩⟩, ?_⟩
        · rw [← h.1, Nat.gcd_comm c d, Nat.gcd_rec d c, Nat.gcd_comm]
        · have := Nat.mod_lt c (Nat.pos_of_ne_zero hd); omega
        · simp only [intOf]
          have := Nat.mod_lt c (Nat.pos_of_ne_zero hd); omega
set_option maxHeartbeats 400000 in
theorem ris_any (n d : Int) (w : World) :
    Calls Tryz.prog 20 #[.agg #[.int .i64 n, .int .i64 d]] w fun e w' => e = .returned (.bool (Q.isq n d)) ∧ Below w.heap.size w w' := by
  by_cases h : -1073741824 ≤ n ∧ n ≤ 1073741824 ∧ 1 ≤ d ∧ d ≤ 1073741824
  · obtain ⟨h1, h2, h3, h4⟩ := h
    have HQ : Hid (((n.natAbs.gcd d.natAbs : Nat) == (1 : Int)) = Q.isq n d) := by
      unfold Hid; rw [Bool.eq_iff_iff, Q.isq_iff]; simp; omega
    go_enter Tryz.func20, Tryz.ntmps20
    go_wp2_with (go_at_call 65; refine (rdivisor_any _ _ (by omega) (by omega) _).mono ?_; rintro e w1 ⟨rfl, rfl⟩)
    go_ret
    exact ⟨by rw [← HQ.out]; rfl, by go_grown⟩
  · have hq : Q.isq n d = false := by cases hq : Q.isq n d with | false => rfl | true => have := (Q.isq_iff n d).1 hq; omega
    rw [hq]; clear hq
    by_cases a1 : n < -1073741824
    all_goals by_cases a2 : 1073741824 < n
    all_goals by_cases a3 : d < 1
    all_goals by_cases a4 : 1073741824 < d
    all_goals first | (exfalso; omega) | skip
    all_goals
      clear h
      go_enter Tryz.func20, Tryz.ntmps20
      go_wp2
      go_ret
      exact ⟨rfl, by go_grown⟩
end Go.Proofs.YtpdklolfkigefaaGreatDoor
