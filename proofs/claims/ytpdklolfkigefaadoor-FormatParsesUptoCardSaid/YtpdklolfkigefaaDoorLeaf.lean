/-
  The leaves of numbers: size, divisor, Is, Make, lowest, and the specification's own: what each call gives.
-/
import Derived.Test.YtpdklolfkigefaaDoorRows
import Derived.Test.YtpdklolfkigefaaDoorQ
import Derived.WalkKit
import Derived.WalkSpells
import Derived.WalkLawsBesides
import Derived.BigQuiet
import Derived.Deep.QuietTactic
import Derived.Deep.RegionHeld3
import Derived.Lib.Hide
import Derived.Handy
set_option linter.all false
namespace Go.Proofs.YtpdklolfkigefaaDoor
open Go.RowKit

theorem bcell {W w1 : World} (hb : Below W.heap.size W w1) : (∀ b o, b < W.heap.size → w1.cell? ⟨b, o, none⟩ = W.cell? ⟨b, o, none⟩) ∧ (∀ b o, b < W.heap.size → w1.frozen? ⟨b, o, none⟩ = W.frozen? ⟨b, o, none⟩) :=
  ⟨fun b o h => hb.cell (p := ⟨b, o, none⟩) h, fun b o h => hb.frozen (p := ⟨b, o, none⟩) h⟩
theorem bck {W w1 : World} (k : Nat) (hb : Below W.heap.size W w1) (hk : k ≤ W.heap.size) : (∀ b o, b < k → w1.cell? ⟨b, o, none⟩ = W.cell? ⟨b, o, none⟩) ∧ (∀ b o, b < k → w1.frozen? ⟨b, o, none⟩ = W.frozen? ⟨b, o, none⟩) ∧ k ≤ w1.heap.size :=
  ⟨fun _ _ h => hb.cell (p := ⟨_, _, none⟩) (Nat.lt_of_lt_of_le h hk), fun _ _ h => hb.frozen (p := ⟨_, _, none⟩) (Nat.lt_of_lt_of_le h hk), Nat.le_trans hk hb.size⟩
theorem drewN_below {B : Nat} {a w : World} (h : Below B a w) (n : Nat) : Below B a (w.drewN n) := h.trans ⟨rfl, rfl, rfl, Nat.le_refl _, fun _ _ => rfl⟩
/-- What is below the whole of a world, from below some of it on. -/
theorem on_below {B : Nat} {a W w1 : World} (hb : Below W.heap.size W w1) (h : Below B a W) (hB : B ≤ W.heap.size) : Below B a w1 := h.trans (hb.mono hB)

theorem u64_negs (n : Int) (h0 : -9223372036854775808 ≤ n) (h : n < 0) : IntKind.u64.wrap (-IntKind.u64.wrap n) = (n.natAbs : Int) := by
  simp only [IntKind.wrap, IntKind.bits, IntKind.signed]
  simp
  omega

set_option maxHeartbeats 400000 in
theorem size_neg (n : Int) (h0 : -9223372036854775808 ≤ n) (h : n < 0) (w : World) :
    Calls Tryd.prog 47 #[.int .i64 n] w fun e w' => e = .returned (.int .u64 (n.natAbs : Int)) ∧ w = w' := by
  have HS := Lib.hid (u64_negs n h0 h)
  go_enter Tryd.func47, Tryd.ntmps47
  go_wp2
  go_ret
  exact ⟨by rw [← HS.out]; rfl, rfl⟩
set_option maxHeartbeats 400000 in
theorem size_pos (n : Int) (h0 : n ≤ 9223372036854775807) (h : 0 ≤ n) (w : World) :
    Calls Tryd.prog 47 #[.int .i64 n] w fun e w' => e = .returned (.int .u64 (n.natAbs : Int)) ∧ w = w' := by
  have HS := Lib.hid (show n = (n.natAbs : Int) by omega)
  go_enter Tryd.func47, Tryd.ntmps47
  go_wp2
  go_ret
  exact ⟨by rw [← HS.out]; rfl, rfl⟩
theorem size_any (n : Int) (h0 : -9223372036854775808 ≤ n ∧ n ≤ 9223372036854775807) (w : World) :
    Calls Tryd.prog 47 #[.int .i64 n] w fun e w' => e = .returned (.int .u64 (n.natAbs : Int)) ∧ w = w' := by
  by_cases h : n < 0
  · exact size_neg n h0.1 h w
  · exact size_pos n h0.2 (by omega) w

set_option maxHeartbeats 400000 in
theorem divisor_any (a b : Nat) (ha : a < 18446744073709551616) (hb : b < 18446744073709551616) (w : World) :
    Calls Tryd.prog 46 #[.int .u64 a, .int .u64 b] w fun e w' => e = .returned (.int .u64 (Nat.gcd a b : Nat)) ∧ Below w.heap.size w w' := by
  generalize hB : w.heap.size = B
  have HB := Lib.hid hB; clear hB
  go_enter Tryd.func46, Tryd.ntmps46
  go_wp2
  go_loopw [0, 1] (fun x y wr => ∃ c d : Nat, x = .int .u64 c ∧ y = .int .u64 d ∧ Hid (Nat.gcd c d = Nat.gcd a b ∧ d < 18446744073709551616 ∧ c < 18446744073709551616) ∧ Below B w wr) (fun _ y _ => (intOf y).toNat)
  case atStart => exact ⟨a, b, rfl, rfl, Lib.hid ⟨rfl, hb, ha⟩, Below.refl _ _⟩
  case round =>
    obtain ⟨c, d, rfl, rfl, H, hbel⟩ := hrel
    by_cases hd : d = 0
    · subst hd
      go_wp2
      go_ret
      exact ⟨by have := H.out.1; simp at this; rw [← this]; rfl, hbel⟩
    · have hd1 : (0:Int) < (d : Int) := by omega
      go_wp2
      go_quiet (fail)
      go_wp2
      have h := H.out
      refine ⟨⟨d, c % d, rfl, rfl, Lib.hid ⟨?_, ?_, h.2.1⟩, drewN_below hbel _⟩, ?_⟩
      · rw [← h.1, Nat.gcd_comm c d, Nat.gcd_rec d c, Nat.gcd_comm]
      · have := Nat.mod_lt c (Nat.pos_of_ne_zero hd); omega
      · simp only [intOf]
        have := Nat.mod_lt c (Nat.pos_of_ne_zero hd); omega

set_option maxHeartbeats 400000 in
theorem is_in (n d : Int) (h1 : -1073741824 ≤ n) (h2 : n ≤ 1073741824) (h3 : 1 ≤ d) (h4 : d ≤ 1073741824) (w : World) :
    Calls Tryd.prog 31 #[.agg #[.int .i64 n, .int .i64 d]] w fun e w' => e = .returned (.bool (Q.isq n d)) ∧ Below w.heap.size w w' := by
  have HQ : Hid (((n.natAbs.gcd d.natAbs : Nat) == (1 : Int)) = Q.isq n d) := by
    unfold Hid; rw [Bool.eq_iff_iff, Q.isq_iff]; simp; omega
  go_enter Tryd.func31, Tryd.ntmps31
  go_wp2
  go_region_held3 (fun w' => w'.cell? ⟨w.heap.size, 0, none⟩ = some (.int .i64 n) ∧ w'.cell? ⟨w.heap.size, 1, none⟩ = some (.int .i64 d)) (go_keep)
    (first | (go_at_call 47; refine (size_any _ (by omega) _).mono ?_; rintro e w1 ⟨rfl, rfl⟩) | (go_at_call 46; refine (divisor_any _ _ (by omega) (by omega) _).mono ?_; rintro e w1 ⟨rfl, hb1⟩; obtain ⟨hc1, hf1⟩ := bcell hb1))
  go_wp2
  go_ret
  exact ⟨by rw [← HQ.out]; rfl, on_below hb1 (by go_grown) (by simp)⟩
set_option maxHeartbeats 400000 in
theorem is_out (n d : Int) (h : Q.isq n d = false) (h1 : ¬ (-1073741824 ≤ n ∧ n ≤ 1073741824 ∧ 1 ≤ d ∧ d ≤ 1073741824)) (w : World) :
    Calls Tryd.prog 31 #[.agg #[.int .i64 n, .int .i64 d]] w fun e w' => e = .returned (.bool (Q.isq n d)) ∧ Below w.heap.size w w' := by
  rw [h]; clear h
  by_cases a1 : n < -1073741824
  all_goals by_cases a2 : 1073741824 < n
  all_goals by_cases a3 : d < 1
  all_goals by_cases a4 : 1073741824 < d
  all_goals first | (exfalso; omega) | skip
  all_goals
    clear h1
    go_enter Tryd.func31, Tryd.ntmps31
    go_wp2
    go_ret
    exact ⟨rfl, by go_grown⟩
theorem is_any (n d : Int) (w : World) :
    Calls Tryd.prog 31 #[.agg #[.int .i64 n, .int .i64 d]] w fun e w' => e = .returned (.bool (Q.isq n d)) ∧ Below w.heap.size w w' := by
  by_cases h : -1073741824 ≤ n ∧ n ≤ 1073741824 ∧ 1 ≤ d ∧ d ≤ 1073741824
  · exact is_in n d h.1 h.2.1 h.2.2.1 h.2.2.2 w
  · exact is_out n d (by cases hq : Q.isq n d with | false => rfl | true => have := (Q.isq_iff n d).1 hq; omega) h w
end Go.Proofs.YtpdklolfkigefaaDoor
