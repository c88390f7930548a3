import Derived.Test.YtnidbhfpkjggmaaGreatDoorZf
import Derived.Test.YtnidbhfpkjggmaaGreatDoorZl
import Derived.Test.YtnidbhfpkjggmaaGreatDoorZo
set_option linter.all false
/-
  The specification's rounding: what a call gives.
-/
namespace Go.Proofs.YtnidbhfpkjggmaaGreatDoor
open Go.RowKit
/-- The names of the specification's ways of rounding. -/
def rnmR (m : Nat) : ByteArray := if m = 0 then ⟨#[102, 108, 111, 111, 114]⟩ else if m = 1 then ⟨#[110, 101, 97, 114]⟩ else if m = 2 then ⟨#[122, 101, 114, 111]⟩ else ⟨#[117, 112]⟩
namespace Z
theorem split_div {w d r : Int} (hd : 0 < d) (hr : 0 ≤ r ∧ r < d) : (w * d + r) / d = w ∧ (w * d + r) % d = r :=
  (Int.ediv_emod_unique hd).2 ⟨by rw [Int.mul_comm d w]; omega, hr⟩
theorem split_neg {w d r : Int} (hd : 0 < d) (hr : 0 ≤ r ∧ r < d) : w * d + r < 0 ↔ w < 0 := by
  constructor
  · intro h; apply Classical.byContradiction; intro hc
    have := Int.mul_nonneg (show 0 ≤ w by omega) (show 0 ≤ d by omega); omega
  · intro h
    have : (w + 1) * d ≤ 0 * d := Int.mul_le_mul_of_nonneg_right (by omega) (by omega)
    rw [Int.add_mul] at this; omega
theorem rnd_split (m : Nat) {w d r : Int} (hd : 0 < d) (hr : 0 ≤ r ∧ r < d) : rnd m (w * d + r) d = if m = 1 then (if d < 2 * r ∨ (2 * r = d ∧ w % 2 ≠ 0) then w + 1 else w) else if m = 2 then (if w < 0 ∧ r ≠ 0 then w + 1 else w) else if m = 3 then (if r ≠ 0 then w + 1 else w) else w := by
  obtain ⟨e1, e2⟩ := split_div (w := w) hd hr
  unfold rnd
  rw [e1, e2]
  simp only [split_neg hd hr]
theorem low_bd {u l d r : Int} (hd : 0 < d) (hr : 0 ≤ r ∧ r < d) (hl : 0 ≤ l ∧ l < u) : 0 ≤ l * d + r ∧ l * d + r < u * d := by
  have h1 := Int.mul_nonneg hl.1 (show 0 ≤ d by omega)
  have h2 : (l + 1) * d ≤ u * d := Int.mul_le_mul_of_nonneg_right (by omega) (by omega)
  rw [Int.add_mul] at h2
  omega
theorem rnd_split2 (m : Nat) {w u l d r : Int} (hd : 0 < d) (hu : 0 < u) (hr : 0 ≤ r ∧ r < d) (hl : 0 ≤ l ∧ l < u) : rnd m ((w * u + l) * d + r) (d * u) = if m = 1 then (if u * d < 2 * (l * d + r) ∨ (2 * (l * d + r) = u * d ∧ w % 2 ≠ 0) then w + 1 else w) else if m = 2 then (if w < 0 ∧ l * d + r ≠ 0 then w + 1 else w) else if m = 3 then (if l * d + r ≠ 0 then w + 1 else w) else w := by
  have hb := low_bd hd hr hl
  have e : (w * u + l) * d + r = w * (u * d) + (l * d + r) := by rw [Int.add_mul, Int.mul_assoc]; omega
  rw [e, Int.mul_comm d u]
  exact rnd_split m (Int.mul_pos hu hd) hb
theorem tmod_two (w : Int) : w.tmod 2 = 0 ↔ w % 2 = 0 := by
  have h1 := Int.mul_tdiv_add_tmod w 2
  have h2 := Q.tmod_lt w 2 (by decide)
  omega
theorem low_cases {u l d r : Int} (hd : 0 < d) (hr : 0 ≤ r ∧ r < d) : (l * 2 > u → u * d < 2 * (l * d + r)) ∧ (l * 2 = u → 2 * (l * d + r) = u * d + 2 * r) ∧ (l * 2 ≤ u - 2 → 2 * (l * d + r) < u * d) ∧ (0 < l → 0 < l * d + r) ∧ (l = 0 → l * d + r = r) := by
  refine ⟨fun h => ?_, fun h => ?_, fun h => ?_, fun h => ?_, fun h => by rw [h, Int.zero_mul, Int.zero_add]⟩
  · have : (u + 1) * d ≤ (l * 2) * d := Int.mul_le_mul_of_nonneg_right (by omega) (by omega)
    rw [Int.add_mul, Int.mul_right_comm l 2 d] at this; omega
  · rw [← h, Int.mul_right_comm l 2 d]; omega
  · have : (l * 2) * d ≤ (u - 2) * d := Int.mul_le_mul_of_nonneg_right (by omega) (by omega)
    rw [Int.sub_mul, Int.mul_right_comm l 2 d] at this; omega
  · have := Int.mul_pos h hd; omega
end Z
set_option maxRecDepth 100000 in
set_option maxHeartbeats 400000 in
theorem rrA_floor_s (w0 lo un re d : Int) (hw : -2305843009213693952 ≤ w0 ∧ w0 ≤ 2305843009213693952) (hd : 1 ≤ d ∧ d ≤ 2305843009213693952) (hr : 0 ≤ re ∧ re < d) (hu : un = 1) (hl : lo = 0) (h0 : 0 < re) (w : World) :
    Calls Tryz.prog 212 #[.string ⟨#[102, 108, 111, 111, 114]⟩, .int .i64 w0, .int .i64 lo, .int .i64 un, .int .i64 re, .int .i64 d] w fun e w' => e = .returned (.int .i64 (w0)) ∧ w = w' := by
  have t34666 : decide (0 < re) = true := decide_eq_true (by omega)
  subst hu hl
  go_enter Tryz.func212, Tryz.ntmps212
  go_wp2
  go_ret
  exact ⟨rfl, rfl⟩

set_option maxRecDepth 100000 in
set_option maxHeartbeats 400000 in
theorem rrA_floor_n (w0 lo un re d : Int) (hw : -2305843009213693952 ≤ w0 ∧ w0 ≤ 2305843009213693952) (hd : 1 ≤ d ∧ d ≤ 2305843009213693952) (hr : 0 ≤ re ∧ re < d) (hu : un = 1) (hl : lo = 0) (h0 : re = 0) (w : World) :
    Calls Tryz.prog 212 #[.string ⟨#[102, 108, 111, 111, 114]⟩, .int .i64 w0, .int .i64 lo, .int .i64 un, .int .i64 re, .int .i64 d] w fun e w' => e = .returned (.int .i64 (w0)) ∧ w = w' := by
  have t34666 : decide (0 < re) = false := decide_eq_false (by omega)
  subst hu hl
  go_enter Tryz.func212, Tryz.ntmps212
  go_wp2
  go_ret
  exact ⟨rfl, rfl⟩

set_option maxRecDepth 100000 in
set_option maxHeartbeats 400000 in
theorem rrA_up_s (w0 lo un re d : Int) (hw : -2305843009213693952 ≤ w0 ∧ w0 ≤ 2305843009213693952) (hd : 1 ≤ d ∧ d ≤ 2305843009213693952) (hr : 0 ≤ re ∧ re < d) (hu : un = 1) (hl : lo = 0) (h0 : 0 < re) (w : World) :
    Calls Tryz.prog 212 #[.string ⟨#[117, 112]⟩, .int .i64 w0, .int .i64 lo, .int .i64 un, .int .i64 re, .int .i64 d] w fun e w' => e = .returned (.int .i64 (w0 + 1)) ∧ w = w' := by
  have t34666 : decide (0 < re) = true := decide_eq_true (by omega)
  subst hu hl
  go_enter Tryz.func212, Tryz.ntmps212
  go_wp2
  go_ret
  exact ⟨rfl, rfl⟩

set_option maxRecDepth 100000 in
set_option maxHeartbeats 400000 in
theorem rrA_up_n (w0 lo un re d : Int) (hw : -2305843009213693952 ≤ w0 ∧ w0 ≤ 2305843009213693952) (hd : 1 ≤ d ∧ d ≤ 2305843009213693952) (hr : 0 ≤ re ∧ re < d) (hu : un = 1) (hl : lo = 0) (h0 : re = 0) (w : World) :
    Calls Tryz.prog 212 #[.string ⟨#[117, 112]⟩, .int .i64 w0, .int .i64 lo, .int .i64 un, .int .i64 re, .int .i64 d] w fun e w' => e = .returned (.int .i64 (w0)) ∧ w = w' := by
  have t34666 : decide (0 < re) = false := decide_eq_false (by omega)
  subst hu hl
  go_enter Tryz.func212, Tryz.ntmps212
  go_wp2
  go_ret
  exact ⟨rfl, rfl⟩

set_option maxRecDepth 100000 in
set_option maxHeartbeats 400000 in
theorem rrA_zero_sneg (w0 lo un re d : Int) (hw : -2305843009213693952 ≤ w0 ∧ w0 ≤ 2305843009213693952) (hd : 1 ≤ d ∧ d ≤ 2305843009213693952) (hr : 0 ≤ re ∧ re < d) (hu : un = 1) (hl : lo = 0) (h0 : 0 < re) (h1 : w0 < 0) (w : World) :
    Calls Tryz.prog 212 #[.string ⟨#[122, 101, 114, 111]⟩, .int .i64 w0, .int .i64 lo, .int .i64 un, .int .i64 re, .int .i64 d] w fun e w' => e = .returned (.int .i64 (w0 + 1)) ∧ w = w' := by
  have t34666 : decide (0 < re) = true := decide_eq_true (by omega)
  have t9488 : decide (w0 < 0) = true := decide_eq_true (by omega)
  subst hu hl
  go_enter Tryz.func212, Tryz.ntmps212
  go_wp2
  go_ret
  exact ⟨rfl, rfl⟩

set_option maxRecDepth 100000 in
set_option maxHeartbeats 400000 in
theorem rrA_zero_spos (w0 lo un re d : Int) (hw : -2305843009213693952 ≤ w0 ∧ w0 ≤ 2305843009213693952) (hd : 1 ≤ d ∧ d ≤ 2305843009213693952) (hr : 0 ≤ re ∧ re < d) (hu : un = 1) (hl : lo = 0) (h0 : 0 < re) (h1 : 0 ≤ w0) (w : World) :
    Calls Tryz.prog 212 #[.string ⟨#[122, 101, 114, 111]⟩, .int .i64 w0, .int .i64 lo, .int .i64 un, .int .i64 re, .int .i64 d] w fun e w' => e = .returned (.int .i64 (w0)) ∧ w = w' := by
  have t34666 : decide (0 < re) = true := decide_eq_true (by omega)
  have t9488 : decide (w0 < 0) = false := decide_eq_false (by omega)
  subst hu hl
  go_enter Tryz.func212, Tryz.ntmps212
  go_wp2
  go_ret
  exact ⟨rfl, rfl⟩

set_option maxRecDepth 100000 in
set_option maxHeartbeats 400000 in
theorem rrA_zero_nneg (w0 lo un re d : Int) (hw : -2305843009213693952 ≤ w0 ∧ w0 ≤ 2305843009213693952) (hd : 1 ≤ d ∧ d ≤ 2305843009213693952) (hr : 0 ≤ re ∧ re < d) (hu : un = 1) (hl : lo = 0) (h0 : re = 0) (h1 : w0 < 0) (w : World) :
    Calls Tryz.prog 212 #[.string ⟨#[122, 101, 114, 111]⟩, .int .i64 w0, .int .i64 lo, .int .i64 un, .int .i64 re, .int .i64 d] w fun e w' => e = .returned (.int .i64 (w0)) ∧ w = w' := by
  have t34666 : decide (0 < re) = false := decide_eq_false (by omega)
  have t9488 : decide (w0 < 0) = true := decide_eq_true (by omega)
  subst hu hl
  go_enter Tryz.func212, Tryz.ntmps212
  go_wp2
  go_ret
  exact ⟨rfl, rfl⟩

set_option maxRecDepth 100000 in
set_option maxHeartbeats 400000 in
theorem rrA_zero_npos (w0 lo un re d : Int) (hw : -2305843009213693952 ≤ w0 ∧ w0 ≤ 2305843009213693952) (hd : 1 ≤ d ∧ d ≤ 2305843009213693952) (hr : 0 ≤ re ∧ re < d) (hu : un = 1) (hl : lo = 0) (h0 : re = 0) (h1 : 0 ≤ w0) (w : World) :
    Calls Tryz.prog 212 #[.string ⟨#[122, 101, 114, 111]⟩, .int .i64 w0, .int .i64 lo, .int .i64 un, .int .i64 re, .int .i64 d] w fun e w' => e = .returned (.int .i64 (w0)) ∧ w = w' := by
  have t34666 : decide (0 < re) = false := decide_eq_false (by omega)
  have t9488 : decide (w0 < 0) = false := decide_eq_false (by omega)
  subst hu hl
  go_enter Tryz.func212, Tryz.ntmps212
  go_wp2
  go_ret
  exact ⟨rfl, rfl⟩

set_option maxRecDepth 100000 in
set_option maxHeartbeats 400000 in
theorem rrA_near_over (w0 lo un re d : Int) (hw : -2305843009213693952 ≤ w0 ∧ w0 ≤ 2305843009213693952) (hd : 1 ≤ d ∧ d ≤ 2305843009213693952) (hr : 0 ≤ re ∧ re < d) (hu : un = 1) (hl : lo = 0) (h0 : d < 2 * re) (w : World) :
    Calls Tryz.prog 212 #[.string ⟨#[110, 101, 97, 114]⟩, .int .i64 w0, .int .i64 lo, .int .i64 un, .int .i64 re, .int .i64 d] w fun e w' => e = .returned (.int .i64 (w0 + 1)) ∧ w = w' := by
  have y1 : IntKind.i64.wrap (d - re) = d - re := Z.i64_in _ (by omega)
  have t34666 : decide (0 < re) = true := decide_eq_true (by omega)
  have t49706 : decide (d - re < re) = true := decide_eq_true (by omega)
  have t7564 : (re == d - re) = false := by rw [beq_eq_false_iff_ne]; omega
  subst hu hl
  go_enter Tryz.func212, Tryz.ntmps212
  go_wp2
  go_ret
  exact ⟨rfl, rfl⟩

set_option maxRecDepth 100000 in
set_option maxHeartbeats 400000 in
theorem rrA_near_odd (w0 lo un re d : Int) (hw : -2305843009213693952 ≤ w0 ∧ w0 ≤ 2305843009213693952) (hd : 1 ≤ d ∧ d ≤ 2305843009213693952) (hr : 0 ≤ re ∧ re < d) (hu : un = 1) (hl : lo = 0) (h0 : 2 * re = d) (h1 : w0 % 2 ≠ 0) (w : World) :
    Calls Tryz.prog 212 #[.string ⟨#[110, 101, 97, 114]⟩, .int .i64 w0, .int .i64 lo, .int .i64 un, .int .i64 re, .int .i64 d] w fun e w' => e = .returned (.int .i64 (w0 + 1)) ∧ w = w' := by
  have y1 : IntKind.i64.wrap (d - re) = d - re := Z.i64_in _ (by omega)
  have t34666 : decide (0 < re) = true := decide_eq_true (by omega)
  have t49706 : decide (d - re < re) = false := decide_eq_false (by omega)
  have t7564 : (re == d - re) = true := by rw [beq_iff_eq]; omega
  have y2 : (w0.tmod 2 != 0) = true := by rw [bne_iff_ne, Ne, Z.tmod_two]; omega
  subst hu hl
  go_enter Tryz.func212, Tryz.ntmps212
  go_wp2
  go_ret
  exact ⟨rfl, rfl⟩

set_option maxRecDepth 100000 in
set_option maxHeartbeats 400000 in
theorem rrA_near_even (w0 lo un re d : Int) (hw : -2305843009213693952 ≤ w0 ∧ w0 ≤ 2305843009213693952) (hd : 1 ≤ d ∧ d ≤ 2305843009213693952) (hr : 0 ≤ re ∧ re < d) (hu : un = 1) (hl : lo = 0) (h0 : 2 * re = d) (h1 : w0 % 2 = 0) (w : World) :
    Calls Tryz.prog 212 #[.string ⟨#[110, 101, 97, 114]⟩, .int .i64 w0, .int .i64 lo, .int .i64 un, .int .i64 re, .int .i64 d] w fun e w' => e = .returned (.int .i64 (w0)) ∧ w = w' := by
  have y1 : IntKind.i64.wrap (d - re) = d - re := Z.i64_in _ (by omega)
  have t34666 : decide (0 < re) = true := decide_eq_true (by omega)
  have t49706 : decide (d - re < re) = false := decide_eq_false (by omega)
  have t7564 : (re == d - re) = true := by rw [beq_iff_eq]; omega
  have y2 : (w0.tmod 2 != 0) = false := by rw [bne_eq_false_iff_eq, Z.tmod_two]; omega
  subst hu hl
  go_enter Tryz.func212, Tryz.ntmps212
  go_wp2
  go_ret
  exact ⟨rfl, rfl⟩

set_option maxRecDepth 100000 in
set_option maxHeartbeats 400000 in
theorem rrA_near_lesss (w0 lo un re d : Int) (hw : -2305843009213693952 ≤ w0 ∧ w0 ≤ 2305843009213693952) (hd : 1 ≤ d ∧ d ≤ 2305843009213693952) (hr : 0 ≤ re ∧ re < d) (hu : un = 1) (hl : lo = 0) (h0 : 2 * re < d) (h1 : 0 < re) (w : World) :
    Calls Tryz.prog 212 #[.string ⟨#[110, 101, 97, 114]⟩, .int .i64 w0, .int .i64 lo, .int .i64 un, .int .i64 re, .int .i64 d] w fun e w' => e = .returned (.int .i64 (w0)) ∧ w = w' := by
  have y1 : IntKind.i64.wrap (d - re) = d - re := Z.i64_in _ (by omega)
  have t34666 : decide (0 < re) = true := decide_eq_true (by omega)
  have t49706 : decide (d - re < re) = false := decide_eq_false (by omega)
  have t7564 : (re == d - re) = false := by rw [beq_eq_false_iff_ne]; omega
  subst hu hl
  go_enter Tryz.func212, Tryz.ntmps212
  go_wp2
  go_ret
  exact ⟨rfl, rfl⟩

set_option maxRecDepth 100000 in
set_option maxHeartbeats 400000 in
theorem rrA_near_lessn (w0 lo un re d : Int) (hw : -2305843009213693952 ≤ w0 ∧ w0 ≤ 2305843009213693952) (hd : 1 ≤ d ∧ d ≤ 2305843009213693952) (hr : 0 ≤ re ∧ re < d) (hu : un = 1) (hl : lo = 0) (h0 : re = 0) (w : World) :
    Calls Tryz.prog 212 #[.string ⟨#[110, 101, 97, 114]⟩, .int .i64 w0, .int .i64 lo, .int .i64 un, .int .i64 re, .int .i64 d] w fun e w' => e = .returned (.int .i64 (w0)) ∧ w = w' := by
  have y1 : IntKind.i64.wrap (d - re) = d - re := Z.i64_in _ (by omega)
  have t34666 : decide (0 < re) = false := decide_eq_false (by omega)
  have t49706 : decide (d - re < re) = false := decide_eq_false (by omega)
  have t7564 : (re == d - re) = false := by rw [beq_eq_false_iff_ne]; omega
  subst hu hl
  go_enter Tryz.func212, Tryz.ntmps212
  go_wp2
  go_ret
  exact ⟨rfl, rfl⟩

set_option maxRecDepth 100000 in
set_option maxHeartbeats 400000 in
theorem rrB_floor_l (w0 lo un re d : Int) (hw : -2305843009213693952 ≤ w0 ∧ w0 ≤ 2305843009213693952) (hd : 1 ≤ d ∧ d ≤ 2305843009213693952) (hr : 0 ≤ re ∧ re < d) (hu : 2 ≤ un ∧ un ≤ 1073741824) (hl : 0 ≤ lo ∧ lo < un) (h0 : 0 < lo) (w : World) :
    Calls Tryz.prog 212 #[.string ⟨#[102, 108, 111, 111, 114]⟩, .int .i64 w0, .int .i64 lo, .int .i64 un, .int .i64 re, .int .i64 d] w fun e w' => e = .returned (.int .i64 (w0)) ∧ w = w' := by
  have t21463 : decide (0 < lo) = true := decide_eq_true (by omega)
  go_enter Tryz.func212, Tryz.ntmps212
  go_wp2
  go_ret
  exact ⟨rfl, rfl⟩

set_option maxRecDepth 100000 in
set_option maxHeartbeats 400000 in
theorem rrB_floor_r (w0 lo un re d : Int) (hw : -2305843009213693952 ≤ w0 ∧ w0 ≤ 2305843009213693952) (hd : 1 ≤ d ∧ d ≤ 2305843009213693952) (hr : 0 ≤ re ∧ re < d) (hu : 2 ≤ un ∧ un ≤ 1073741824) (hl : 0 ≤ lo ∧ lo < un) (h0 : lo = 0) (h1 : 0 < re) (w : World) :
    Calls Tryz.prog 212 #[.string ⟨#[102, 108, 111, 111, 114]⟩, .int .i64 w0, .int .i64 lo, .int .i64 un, .int .i64 re, .int .i64 d] w fun e w' => e = .returned (.int .i64 (w0)) ∧ w = w' := by
  have t21463 : decide (0 < lo) = false := decide_eq_false (by omega)
  have t34666 : decide (0 < re) = true := decide_eq_true (by omega)
  go_enter Tryz.func212, Tryz.ntmps212
  go_wp2
  go_ret
  exact ⟨rfl, rfl⟩

set_option maxRecDepth 100000 in
set_option maxHeartbeats 400000 in
theorem rrB_floor_n (w0 lo un re d : Int) (hw : -2305843009213693952 ≤ w0 ∧ w0 ≤ 2305843009213693952) (hd : 1 ≤ d ∧ d ≤ 2305843009213693952) (hr : 0 ≤ re ∧ re < d) (hu : 2 ≤ un ∧ un ≤ 1073741824) (hl : 0 ≤ lo ∧ lo < un) (h0 : lo = 0) (h1 : re = 0) (w : World) :
    Calls Tryz.prog 212 #[.string ⟨#[102, 108, 111, 111, 114]⟩, .int .i64 w0, .int .i64 lo, .int .i64 un, .int .i64 re, .int .i64 d] w fun e w' => e = .returned (.int .i64 (w0)) ∧ w = w' := by
  have t21463 : decide (0 < lo) = false := decide_eq_false (by omega)
  have t34666 : decide (0 < re) = false := decide_eq_false (by omega)
  go_enter Tryz.func212, Tryz.ntmps212
  go_wp2
  go_ret
  exact ⟨rfl, rfl⟩

set_option maxRecDepth 100000 in
set_option maxHeartbeats 400000 in
theorem rrB_up_l (w0 lo un re d : Int) (hw : -2305843009213693952 ≤ w0 ∧ w0 ≤ 2305843009213693952) (hd : 1 ≤ d ∧ d ≤ 2305843009213693952) (hr : 0 ≤ re ∧ re < d) (hu : 2 ≤ un ∧ un ≤ 1073741824) (hl : 0 ≤ lo ∧ lo < un) (h0 : 0 < lo) (w : World) :
    Calls Tryz.prog 212 #[.string ⟨#[117, 112]⟩, .int .i64 w0, .int .i64 lo, .int .i64 un, .int .i64 re, .int .i64 d] w fun e w' => e = .returned (.int .i64 (w0 + 1)) ∧ w = w' := by
  have t21463 : decide (0 < lo) = true := decide_eq_true (by omega)
  go_enter Tryz.func212, Tryz.ntmps212
  go_wp2
  go_ret
  exact ⟨rfl, rfl⟩

set_option maxRecDepth 100000 in
set_option maxHeartbeats 400000 in
theorem rrB_up_r (w0 lo un re d : Int) (hw : -2305843009213693952 ≤ w0 ∧ w0 ≤ 2305843009213693952) (hd : 1 ≤ d ∧ d ≤ 2305843009213693952) (hr : 0 ≤ re ∧ re < d) (hu : 2 ≤ un ∧ un ≤ 1073741824) (hl : 0 ≤ lo ∧ lo < un) (h0 : lo = 0) (h1 : 0 < re) (w : World) :
    Calls Tryz.prog 212 #[.string ⟨#[117, 112]⟩, .int .i64 w0, .int .i64 lo, .int .i64 un, .int .i64 re, .int .i64 d] w fun e w' => e = .returned (.int .i64 (w0 + 1)) ∧ w = w' := by
  have t21463 : decide (0 < lo) = false := decide_eq_false (by omega)
  have t34666 : decide (0 < re) = true := decide_eq_true (by omega)
  go_enter Tryz.func212, Tryz.ntmps212
  go_wp2
  go_ret
  exact ⟨rfl, rfl⟩

set_option maxRecDepth 100000 in
set_option maxHeartbeats 400000 in
theorem rrB_up_n (w0 lo un re d : Int) (hw : -2305843009213693952 ≤ w0 ∧ w0 ≤ 2305843009213693952) (hd : 1 ≤ d ∧ d ≤ 2305843009213693952) (hr : 0 ≤ re ∧ re < d) (hu : 2 ≤ un ∧ un ≤ 1073741824) (hl : 0 ≤ lo ∧ lo < un) (h0 : lo = 0) (h1 : re = 0) (w : World) :
    Calls Tryz.prog 212 #[.string ⟨#[117, 112]⟩, .int .i64 w0, .int .i64 lo, .int .i64 un, .int .i64 re, .int .i64 d] w fun e w' => e = .returned (.int .i64 (w0)) ∧ w = w' := by
  have t21463 : decide (0 < lo) = false := decide_eq_false (by omega)
  have t34666 : decide (0 < re) = false := decide_eq_false (by omega)
  go_enter Tryz.func212, Tryz.ntmps212
  go_wp2
  go_ret
  exact ⟨rfl, rfl⟩

set_option maxRecDepth 100000 in
set_option maxHeartbeats 400000 in
theorem rrB_zero_lneg (w0 lo un re d : Int) (hw : -2305843009213693952 ≤ w0 ∧ w0 ≤ 2305843009213693952) (hd : 1 ≤ d ∧ d ≤ 2305843009213693952) (hr : 0 ≤ re ∧ re < d) (hu : 2 ≤ un ∧ un ≤ 1073741824) (hl : 0 ≤ lo ∧ lo < un) (h0 : 0 < lo) (h1 : w0 < 0) (w : World) :
    Calls Tryz.prog 212 #[.string ⟨#[122, 101, 114, 111]⟩, .int .i64 w0, .int .i64 lo, .int .i64 un, .int .i64 re, .int .i64 d] w fun e w' => e = .returned (.int .i64 (w0 + 1)) ∧ w = w' := by
  have t21463 : decide (0 < lo) = true := decide_eq_true (by omega)
  have t9488 : decide (w0 < 0) = true := decide_eq_true (by omega)
  go_enter Tryz.func212, Tryz.ntmps212
  go_wp2
  go_ret
  exact ⟨rfl, rfl⟩

set_option maxRecDepth 100000 in
set_option maxHeartbeats 400000 in
theorem rrB_zero_lpos (w0 lo un re d : Int) (hw : -2305843009213693952 ≤ w0 ∧ w0 ≤ 2305843009213693952) (hd : 1 ≤ d ∧ d ≤ 2305843009213693952) (hr : 0 ≤ re ∧ re < d) (hu : 2 ≤ un ∧ un ≤ 1073741824) (hl : 0 ≤ lo ∧ lo < un) (h0 : 0 < lo) (h1 : 0 ≤ w0) (w : World) :
    Calls Tryz.prog 212 #[.string ⟨#[122, 101, 114, 111]⟩, .int .i64 w0, .int .i64 lo, .int .i64 un, .int .i64 re, .int .i64 d] w fun e w' => e = .returned (.int .i64 (w0)) ∧ w = w' := by
  have t21463 : decide (0 < lo) = true := decide_eq_true (by omega)
  have t9488 : decide (w0 < 0) = false := decide_eq_false (by omega)
  go_enter Tryz.func212, Tryz.ntmps212
  go_wp2
  go_ret
  exact ⟨rfl, rfl⟩

set_option maxRecDepth 100000 in
set_option maxHeartbeats 400000 in
theorem rrB_zero_rneg (w0 lo un re d : Int) (hw : -2305843009213693952 ≤ w0 ∧ w0 ≤ 2305843009213693952) (hd : 1 ≤ d ∧ d ≤ 2305843009213693952) (hr : 0 ≤ re ∧ re < d) (hu : 2 ≤ un ∧ un ≤ 1073741824) (hl : 0 ≤ lo ∧ lo < un) (h0 : lo = 0) (h1 : 0 < re) (h2 : w0 < 0) (w : World) :
    Calls Tryz.prog 212 #[.string ⟨#[122, 101, 114, 111]⟩, .int .i64 w0, .int .i64 lo, .int .i64 un, .int .i64 re, .int .i64 d] w fun e w' => e = .returned (.int .i64 (w0 + 1)) ∧ w = w' := by
  have t21463 : decide (0 < lo) = false := decide_eq_false (by omega)
  have t34666 : decide (0 < re) = true := decide_eq_true (by omega)
  have t9488 : decide (w0 < 0) = true := decide_eq_true (by omega)
  go_enter Tryz.func212, Tryz.ntmps212
  go_wp2
  go_ret
  exact ⟨rfl, rfl⟩

set_option maxRecDepth 100000 in
set_option maxHeartbeats 400000 in
theorem rrB_zero_rpos (w0 lo un re d : Int) (hw : -2305843009213693952 ≤ w0 ∧ w0 ≤ 2305843009213693952) (hd : 1 ≤ d ∧ d ≤ 2305843009213693952) (hr : 0 ≤ re ∧ re < d) (hu : 2 ≤ un ∧ un ≤ 1073741824) (hl : 0 ≤ lo ∧ lo < un) (h0 : lo = 0) (h1 : 0 < re) (h2 : 0 ≤ w0) (w : World) :
    Calls Tryz.prog 212 #[.string ⟨#[122, 101, 114, 111]⟩, .int .i64 w0, .int .i64 lo, .int .i64 un, .int .i64 re, .int .i64 d] w fun e w' => e = .returned (.int .i64 (w0)) ∧ w = w' := by
  have t21463 : decide (0 < lo) = false := decide_eq_false (by omega)
  have t34666 : decide (0 < re) = true := decide_eq_true (by omega)
  have t9488 : decide (w0 < 0) = false := decide_eq_false (by omega)
  go_enter Tryz.func212, Tryz.ntmps212
  go_wp2
  go_ret
  exact ⟨rfl, rfl⟩

set_option maxRecDepth 100000 in
set_option maxHeartbeats 400000 in
theorem rrB_zero_nneg (w0 lo un re d : Int) (hw : -2305843009213693952 ≤ w0 ∧ w0 ≤ 2305843009213693952) (hd : 1 ≤ d ∧ d ≤ 2305843009213693952) (hr : 0 ≤ re ∧ re < d) (hu : 2 ≤ un ∧ un ≤ 1073741824) (hl : 0 ≤ lo ∧ lo < un) (h0 : lo = 0) (h1 : re = 0) (h2 : w0 < 0) (w : World) :
    Calls Tryz.prog 212 #[.string ⟨#[122, 101, 114, 111]⟩, .int .i64 w0, .int .i64 lo, .int .i64 un, .int .i64 re, .int .i64 d] w fun e w' => e = .returned (.int .i64 (w0)) ∧ w = w' := by
  have t21463 : decide (0 < lo) = false := decide_eq_false (by omega)
  have t34666 : decide (0 < re) = false := decide_eq_false (by omega)
  have t9488 : decide (w0 < 0) = true := decide_eq_true (by omega)
  go_enter Tryz.func212, Tryz.ntmps212
  go_wp2
  go_ret
  exact ⟨rfl, rfl⟩

set_option maxRecDepth 100000 in
set_option maxHeartbeats 400000 in
theorem rrB_zero_npos (w0 lo un re d : Int) (hw : -2305843009213693952 ≤ w0 ∧ w0 ≤ 2305843009213693952) (hd : 1 ≤ d ∧ d ≤ 2305843009213693952) (hr : 0 ≤ re ∧ re < d) (hu : 2 ≤ un ∧ un ≤ 1073741824) (hl : 0 ≤ lo ∧ lo < un) (h0 : lo = 0) (h1 : re = 0) (h2 : 0 ≤ w0) (w : World) :
    Calls Tryz.prog 212 #[.string ⟨#[122, 101, 114, 111]⟩, .int .i64 w0, .int .i64 lo, .int .i64 un, .int .i64 re, .int .i64 d] w fun e w' => e = .returned (.int .i64 (w0)) ∧ w = w' := by
  have t21463 : decide (0 < lo) = false := decide_eq_false (by omega)
  have t34666 : decide (0 < re) = false := decide_eq_false (by omega)
  have t9488 : decide (w0 < 0) = false := decide_eq_false (by omega)
  go_enter Tryz.func212, Tryz.ntmps212
  go_wp2
  go_ret
  exact ⟨rfl, rfl⟩

set_option maxRecDepth 100000 in
set_option maxHeartbeats 400000 in
theorem rrB_near_over (w0 lo un re d : Int) (hw : -2305843009213693952 ≤ w0 ∧ w0 ≤ 2305843009213693952) (hd : 1 ≤ d ∧ d ≤ 2305843009213693952) (hr : 0 ≤ re ∧ re < d) (hu : 2 ≤ un ∧ un ≤ 1073741824) (hl : 0 ≤ lo ∧ lo < un) (h0 : un / 2 < lo) (w : World) :
    Calls Tryz.prog 212 #[.string ⟨#[110, 101, 97, 114]⟩, .int .i64 w0, .int .i64 lo, .int .i64 un, .int .i64 re, .int .i64 d] w fun e w' => e = .returned (.int .i64 (w0 + 1)) ∧ w = w' := by
  have y0 : un.tdiv 2 = un / 2 := Int.tdiv_eq_ediv_of_nonneg (by omega)
  have y1 : IntKind.i64.wrap (un.tdiv 2) = un / 2 := by rw [y0]; exact Z.i64_in _ (by omega)
  have y3 : wrap64 (un.tdiv 2) = un / 2 := by rw [y0]; unfold wrap64; omega
  have t44915 : (un == 1) = false := by rw [beq_eq_false_iff_ne]; omega
  have hu2 : 1 ≤ un / 2 ∧ un / 2 ≤ 1073741824 := by omega
  have t21463 : decide (0 < lo) = true := decide_eq_true (by omega)
  have t80512 : decide (un / 2 < lo) = true := decide_eq_true (by omega)
  have t81776 : (lo == un / 2) = false := by rw [beq_eq_false_iff_ne]; omega
  go_enter Tryz.func212, Tryz.ntmps212
  go_wp2
  go_ret
  exact ⟨rfl, rfl⟩

set_option maxRecDepth 100000 in
set_option maxHeartbeats 400000 in
theorem rrB_near_more (w0 lo un re d : Int) (hw : -2305843009213693952 ≤ w0 ∧ w0 ≤ 2305843009213693952) (hd : 1 ≤ d ∧ d ≤ 2305843009213693952) (hr : 0 ≤ re ∧ re < d) (hu : 2 ≤ un ∧ un ≤ 1073741824) (hl : 0 ≤ lo ∧ lo < un) (h0 : lo = un / 2) (h1 : 0 < re) (w : World) :
    Calls Tryz.prog 212 #[.string ⟨#[110, 101, 97, 114]⟩, .int .i64 w0, .int .i64 lo, .int .i64 un, .int .i64 re, .int .i64 d] w fun e w' => e = .returned (.int .i64 (w0 + 1)) ∧ w = w' := by
  have y0 : un.tdiv 2 = un / 2 := Int.tdiv_eq_ediv_of_nonneg (by omega)
  have y1 : IntKind.i64.wrap (un.tdiv 2) = un / 2 := by rw [y0]; exact Z.i64_in _ (by omega)
  have y3 : wrap64 (un.tdiv 2) = un / 2 := by rw [y0]; unfold wrap64; omega
  have t44915 : (un == 1) = false := by rw [beq_eq_false_iff_ne]; omega
  have hu2 : 1 ≤ un / 2 ∧ un / 2 ≤ 1073741824 := by omega
  have t21463 : decide (0 < lo) = true := decide_eq_true (by omega)
  have t80512 : decide (un / 2 < lo) = false := decide_eq_false (by omega)
  have t81776 : (lo == un / 2) = true := by rw [beq_iff_eq]; omega
  have t34666 : decide (0 < re) = true := decide_eq_true (by omega)
  have t63573 : (re == 0) = false := by rw [beq_eq_false_iff_ne]; omega
  go_enter Tryz.func212, Tryz.ntmps212
  go_wp2
  go_ret
  exact ⟨rfl, rfl⟩

set_option maxRecDepth 100000 in
set_option maxHeartbeats 400000 in
theorem rrB_near_odd (w0 lo un re d : Int) (hw : -2305843009213693952 ≤ w0 ∧ w0 ≤ 2305843009213693952) (hd : 1 ≤ d ∧ d ≤ 2305843009213693952) (hr : 0 ≤ re ∧ re < d) (hu : 2 ≤ un ∧ un ≤ 1073741824) (hl : 0 ≤ lo ∧ lo < un) (h0 : lo = un / 2) (h1 : re = 0) (h2 : w0 % 2 ≠ 0) (w : World) :
    Calls Tryz.prog 212 #[.string ⟨#[110, 101, 97, 114]⟩, .int .i64 w0, .int .i64 lo, .int .i64 un, .int .i64 re, .int .i64 d] w fun e w' => e = .returned (.int .i64 (w0 + 1)) ∧ w = w' := by
  have y0 : un.tdiv 2 = un / 2 := Int.tdiv_eq_ediv_of_nonneg (by omega)
  have y1 : IntKind.i64.wrap (un.tdiv 2) = un / 2 := by rw [y0]; exact Z.i64_in _ (by omega)
  have y3 : wrap64 (un.tdiv 2) = un / 2 := by rw [y0]; unfold wrap64; omega
  have t44915 : (un == 1) = false := by rw [beq_eq_false_iff_ne]; omega
  have hu2 : 1 ≤ un / 2 ∧ un / 2 ≤ 1073741824 := by omega
  have t21463 : decide (0 < lo) = true := decide_eq_true (by omega)
  have t80512 : decide (un / 2 < lo) = false := decide_eq_false (by omega)
  have t81776 : (lo == un / 2) = true := by rw [beq_iff_eq]; omega
  have t34666 : decide (0 < re) = false := decide_eq_false (by omega)
  have t63573 : (re == 0) = true := by rw [beq_iff_eq]; omega
  have y2 : (w0.tmod 2 != 0) = true := by rw [bne_iff_ne, Ne, Z.tmod_two]; omega
  go_enter Tryz.func212, Tryz.ntmps212
  go_wp2
  go_ret
  exact ⟨rfl, rfl⟩

set_option maxRecDepth 100000 in
set_option maxHeartbeats 400000 in
theorem rrB_near_even (w0 lo un re d : Int) (hw : -2305843009213693952 ≤ w0 ∧ w0 ≤ 2305843009213693952) (hd : 1 ≤ d ∧ d ≤ 2305843009213693952) (hr : 0 ≤ re ∧ re < d) (hu : 2 ≤ un ∧ un ≤ 1073741824) (hl : 0 ≤ lo ∧ lo < un) (h0 : lo = un / 2) (h1 : re = 0) (h2 : w0 % 2 = 0) (w : World) :
    Calls Tryz.prog 212 #[.string ⟨#[110, 101, 97, 114]⟩, .int .i64 w0, .int .i64 lo, .int .i64 un, .int .i64 re, .int .i64 d] w fun e w' => e = .returned (.int .i64 (w0)) ∧ w = w' := by
  have y0 : un.tdiv 2 = un / 2 := Int.tdiv_eq_ediv_of_nonneg (by omega)
  have y1 : IntKind.i64.wrap (un.tdiv 2) = un / 2 := by rw [y0]; exact Z.i64_in _ (by omega)
  have y3 : wrap64 (un.tdiv 2) = un / 2 := by rw [y0]; unfold wrap64; omega
  have t44915 : (un == 1) = false := by rw [beq_eq_false_iff_ne]; omega
  have hu2 : 1 ≤ un / 2 ∧ un / 2 ≤ 1073741824 := by omega
  have t21463 : decide (0 < lo) = true := decide_eq_true (by omega)
  have t80512 : decide (un / 2 < lo) = false := decide_eq_false (by omega)
  have t81776 : (lo == un / 2) = true := by rw [beq_iff_eq]; omega
  have t34666 : decide (0 < re) = false := decide_eq_false (by omega)
  have t63573 : (re == 0) = true := by rw [beq_iff_eq]; omega
  have y2 : (w0.tmod 2 != 0) = false := by rw [bne_eq_false_iff_eq, Z.tmod_two]; omega
  go_enter Tryz.func212, Tryz.ntmps212
  go_wp2
  go_ret
  exact ⟨rfl, rfl⟩

set_option maxRecDepth 100000 in
set_option maxHeartbeats 400000 in
theorem rrB_near_lessl (w0 lo un re d : Int) (hw : -2305843009213693952 ≤ w0 ∧ w0 ≤ 2305843009213693952) (hd : 1 ≤ d ∧ d ≤ 2305843009213693952) (hr : 0 ≤ re ∧ re < d) (hu : 2 ≤ un ∧ un ≤ 1073741824) (hl : 0 ≤ lo ∧ lo < un) (h0 : lo < un / 2) (h1 : 0 < lo) (w : World) :
    Calls Tryz.prog 212 #[.string ⟨#[110, 101, 97, 114]⟩, .int .i64 w0, .int .i64 lo, .int .i64 un, .int .i64 re, .int .i64 d] w fun e w' => e = .returned (.int .i64 (w0)) ∧ w = w' := by
  have y0 : un.tdiv 2 = un / 2 := Int.tdiv_eq_ediv_of_nonneg (by omega)
  have y1 : IntKind.i64.wrap (un.tdiv 2) = un / 2 := by rw [y0]; exact Z.i64_in _ (by omega)
  have y3 : wrap64 (un.tdiv 2) = un / 2 := by rw [y0]; unfold wrap64; omega
  have t44915 : (un == 1) = false := by rw [beq_eq_false_iff_ne]; omega
  have hu2 : 1 ≤ un / 2 ∧ un / 2 ≤ 1073741824 := by omega
  have t21463 : decide (0 < lo) = true := decide_eq_true (by omega)
  have t80512 : decide (un / 2 < lo) = false := decide_eq_false (by omega)
  have t81776 : (lo == un / 2) = false := by rw [beq_eq_false_iff_ne]; omega
  go_enter Tryz.func212, Tryz.ntmps212
  go_wp2
  go_ret
  exact ⟨rfl, rfl⟩

set_option maxRecDepth 100000 in
set_option maxHeartbeats 400000 in
theorem rrB_near_lessr (w0 lo un re d : Int) (hw : -2305843009213693952 ≤ w0 ∧ w0 ≤ 2305843009213693952) (hd : 1 ≤ d ∧ d ≤ 2305843009213693952) (hr : 0 ≤ re ∧ re < d) (hu : 2 ≤ un ∧ un ≤ 1073741824) (hl : 0 ≤ lo ∧ lo < un) (h0 : lo < un / 2) (h1 : lo = 0) (h2 : 0 < re) (w : World) :
    Calls Tryz.prog 212 #[.string ⟨#[110, 101, 97, 114]⟩, .int .i64 w0, .int .i64 lo, .int .i64 un, .int .i64 re, .int .i64 d] w fun e w' => e = .returned (.int .i64 (w0)) ∧ w = w' := by
  have y0 : un.tdiv 2 = un / 2 := Int.tdiv_eq_ediv_of_nonneg (by omega)
  have y1 : IntKind.i64.wrap (un.tdiv 2) = un / 2 := by rw [y0]; exact Z.i64_in _ (by omega)
  have y3 : wrap64 (un.tdiv 2) = un / 2 := by rw [y0]; unfold wrap64; omega
  have t44915 : (un == 1) = false := by rw [beq_eq_false_iff_ne]; omega
  have hu2 : 1 ≤ un / 2 ∧ un / 2 ≤ 1073741824 := by omega
  have t21463 : decide (0 < lo) = false := decide_eq_false (by omega)
  have t34666 : decide (0 < re) = true := decide_eq_true (by omega)
  have t80512 : decide (un / 2 < lo) = false := decide_eq_false (by omega)
  have t81776 : (lo == un / 2) = false := by rw [beq_eq_false_iff_ne]; omega
  go_enter Tryz.func212, Tryz.ntmps212
  go_wp2
  go_ret
  exact ⟨rfl, rfl⟩

set_option maxRecDepth 100000 in
set_option maxHeartbeats 400000 in
theorem rrB_near_lessn (w0 lo un re d : Int) (hw : -2305843009213693952 ≤ w0 ∧ w0 ≤ 2305843009213693952) (hd : 1 ≤ d ∧ d ≤ 2305843009213693952) (hr : 0 ≤ re ∧ re < d) (hu : 2 ≤ un ∧ un ≤ 1073741824) (hl : 0 ≤ lo ∧ lo < un) (h0 : lo < un / 2) (h1 : lo = 0) (h2 : re = 0) (w : World) :
    Calls Tryz.prog 212 #[.string ⟨#[110, 101, 97, 114]⟩, .int .i64 w0, .int .i64 lo, .int .i64 un, .int .i64 re, .int .i64 d] w fun e w' => e = .returned (.int .i64 (w0)) ∧ w = w' := by
  have y0 : un.tdiv 2 = un / 2 := Int.tdiv_eq_ediv_of_nonneg (by omega)
  have y1 : IntKind.i64.wrap (un.tdiv 2) = un / 2 := by rw [y0]; exact Z.i64_in _ (by omega)
  have y3 : wrap64 (un.tdiv 2) = un / 2 := by rw [y0]; unfold wrap64; omega
  have t44915 : (un == 1) = false := by rw [beq_eq_false_iff_ne]; omega
  have hu2 : 1 ≤ un / 2 ∧ un / 2 ≤ 1073741824 := by omega
  have t21463 : decide (0 < lo) = false := decide_eq_false (by omega)
  have t34666 : decide (0 < re) = false := decide_eq_false (by omega)
  have t80512 : decide (un / 2 < lo) = false := decide_eq_false (by omega)
  have t81776 : (lo == un / 2) = false := by rw [beq_eq_false_iff_ne]; omega
  go_enter Tryz.func212, Tryz.ntmps212
  go_wp2
  go_ret
  exact ⟨rfl, rfl⟩

set_option maxRecDepth 100000 in
set_option maxHeartbeats 400000 in
theorem rrA_any (m : Nat) (hm : m ≤ 3) (w0 lo un re d : Int) (hw : -2305843009213693952 ≤ w0 ∧ w0 ≤ 2305843009213693952) (hd : 1 ≤ d ∧ d ≤ 2305843009213693952) (hr : 0 ≤ re ∧ re < d) (hu : un = 1) (hl : lo = 0) (w : World) :
    Calls Tryz.prog 212 #[.string (rnmR m), .int .i64 w0, .int .i64 lo, .int .i64 un, .int .i64 re, .int .i64 d] w fun e w' => e = .returned (.int .i64 (Z.rnd m (w0 * d + re) d)) ∧ w = w' := by
  have C : ∀ {v u : Int}, u = v → Calls Tryz.prog 212 #[.string (rnmR m), .int .i64 w0, .int .i64 lo, .int .i64 un, .int .i64 re, .int .i64 d] w (fun e w' => e = .returned (.int .i64 u) ∧ w = w') → Calls Tryz.prog 212 #[.string (rnmR m), .int .i64 w0, .int .i64 lo, .int .i64 un, .int .i64 re, .int .i64 d] w (fun e w' => e = .returned (.int .i64 v) ∧ w = w') := by rintro v u rfl h; exact h
  have hcase : m = 0 ∨ m = 1 ∨ m = 2 ∨ m = 3 := by omega
  rw [Z.rnd_split m (by omega) hr]
  by_cases hs : 0 < re
  · rcases hcase with rfl | rfl | rfl | rfl
    · exact C (by simp) (rrA_floor_s w0 lo un re d hw hd hr hu hl hs w)
    · by_cases h1 : d < 2 * re
      · exact C (by simp [h1]) (rrA_near_over w0 lo un re d hw hd hr hu hl h1 w)
      · by_cases h2 : 2 * re = d
        · by_cases h3 : w0 % 2 = 0
          · exact C (by simp [h1, h2, h3]) (rrA_near_even w0 lo un re d hw hd hr hu hl h2 h3 w)
          · exact C (by simp [h2]; omega) (rrA_near_odd w0 lo un re d hw hd hr hu hl h2 h3 w)
        · exact C (by simp [h1, h2]) (rrA_near_lesss w0 lo un re d hw hd hr hu hl (by omega) hs w)
    · by_cases h1 : w0 < 0
      · exact C (by simp [h1]; omega) (rrA_zero_sneg w0 lo un re d hw hd hr hu hl hs h1 w)
      · exact C (by simp [h1]) (rrA_zero_spos w0 lo un re d hw hd hr hu hl hs (by omega) w)
    · exact C (by simp; omega) (rrA_up_s w0 lo un re d hw hd hr hu hl hs w)
  · have h0 : re = 0 := by omega
    rcases hcase with rfl | rfl | rfl | rfl
    · exact C (by simp) (rrA_floor_n w0 lo un re d hw hd hr hu hl h0 w)
    · exact C (by rw [if_pos rfl, if_neg (by omega)]) (rrA_near_lessn w0 lo un re d hw hd hr hu hl h0 w)
    · by_cases h1 : w0 < 0
      · exact C (by simp [h0]) (rrA_zero_nneg w0 lo un re d hw hd hr hu hl h0 h1 w)
      · exact C (by simp [h0]) (rrA_zero_npos w0 lo un re d hw hd hr hu hl h0 (by omega) w)
    · exact C (by simp [h0]) (rrA_up_n w0 lo un re d hw hd hr hu hl h0 w)

set_option maxRecDepth 100000 in
set_option maxHeartbeats 400000 in
theorem rrB_any (m : Nat) (hm : m ≤ 3) (w0 lo un re d : Int) (hw : -2305843009213693952 ≤ w0 ∧ w0 ≤ 2305843009213693952) (hd : 1 ≤ d ∧ d ≤ 2305843009213693952) (hr : 0 ≤ re ∧ re < d) (hu : 2 ≤ un ∧ un ≤ 1073741824 ∧ un % 2 = 0) (hl : 0 ≤ lo ∧ lo < un) (w : World) :
    Calls Tryz.prog 212 #[.string (rnmR m), .int .i64 w0, .int .i64 lo, .int .i64 un, .int .i64 re, .int .i64 d] w fun e w' => e = .returned (.int .i64 (Z.rnd m ((w0 * un + lo) * d + re) (d * un))) ∧ w = w' := by
  have C : ∀ {v u : Int}, u = v → Calls Tryz.prog 212 #[.string (rnmR m), .int .i64 w0, .int .i64 lo, .int .i64 un, .int .i64 re, .int .i64 d] w (fun e w' => e = .returned (.int .i64 u) ∧ w = w') → Calls Tryz.prog 212 #[.string (rnmR m), .int .i64 w0, .int .i64 lo, .int .i64 un, .int .i64 re, .int .i64 d] w (fun e w' => e = .returned (.int .i64 v) ∧ w = w') := by rintro v u rfl h; exact h
  have hcase : m = 0 ∨ m = 1 ∨ m = 2 ∨ m = 3 := by omega
  rw [Z.rnd_split2 m (by omega) (by omega) hr hl]
  obtain ⟨q1, q2, q3, q4, q5⟩ := Z.low_cases (u := un) (l := lo) (d := d) (r := re) (by omega) hr
  have hbd := Z.low_bd (u := un) (by omega) hr hl
  generalize lo * d + re = L at *
  generalize un * d = U at *
  rcases hcase with rfl | rfl | rfl | rfl
  · skip
    by_cases hlo : 0 < lo
    · have g := q4 hlo
      exact C (by simp) (rrB_floor_l w0 lo un re d hw hd hr ⟨hu.1, hu.2.1⟩ hl hlo w)
    · have hlo0 : lo = 0 := by omega
      have g := q5 hlo0
      by_cases hre : 0 < re
      · exact C (by simp) (rrB_floor_r w0 lo un re d hw hd hr ⟨hu.1, hu.2.1⟩ hl hlo0 hre w)
      · exact C (by simp) (rrB_floor_n w0 lo un re d hw hd hr ⟨hu.1, hu.2.1⟩ hl hlo0 (by omega) w)
  · rw [if_pos rfl]
    by_cases h1 : un / 2 < lo
    · exact C (by rw [if_pos (by have := q1 (by omega); omega)]) (rrB_near_over w0 lo un re d hw hd hr ⟨hu.1, hu.2.1⟩ hl h1 w)
    · by_cases h2 : lo = un / 2
      · have g2 := q2 (by omega)
        by_cases h3 : 0 < re
        · exact C (by rw [if_pos (by omega)]) (rrB_near_more w0 lo un re d hw hd hr ⟨hu.1, hu.2.1⟩ hl h2 h3 w)
        · by_cases h4 : w0 % 2 = 0
          · exact C (by rw [if_neg (by omega)]) (rrB_near_even w0 lo un re d hw hd hr ⟨hu.1, hu.2.1⟩ hl h2 (by omega) h4 w)
          · exact C (by rw [if_pos (by omega)]) (rrB_near_odd w0 lo un re d hw hd hr ⟨hu.1, hu.2.1⟩ hl h2 (by omega) h4 w)
      · have g2 := q3 (by omega)
        rw [if_neg (by omega)]
        by_cases hlo : 0 < lo
        · have g := q4 hlo
          exact C rfl (rrB_near_lessl w0 lo un re d hw hd hr ⟨hu.1, hu.2.1⟩ hl (by omega) hlo w)
        · have hlo0 : lo = 0 := by omega
          have g := q5 hlo0
          by_cases hre : 0 < re
          · exact C rfl (rrB_near_lessr w0 lo un re d hw hd hr ⟨hu.1, hu.2.1⟩ hl (by omega) hlo0 hre w)
          · exact C rfl (rrB_near_lessn w0 lo un re d hw hd hr ⟨hu.1, hu.2.1⟩ hl (by omega) hlo0 (by omega) w)
  · rw [if_neg (by decide), if_pos rfl]
    by_cases h1 : w0 < 0
    · skip
      by_cases hlo : 0 < lo
      · have g := q4 hlo
        exact C (by rw [if_pos (by omega)]) (rrB_zero_lneg w0 lo un re d hw hd hr ⟨hu.1, hu.2.1⟩ hl hlo h1 w)
      · have hlo0 : lo = 0 := by omega
        have g := q5 hlo0
        by_cases hre : 0 < re
        · exact C (by rw [if_pos (by omega)]) (rrB_zero_rneg w0 lo un re d hw hd hr ⟨hu.1, hu.2.1⟩ hl hlo0 hre h1 w)
        · exact C (by rw [if_neg (by omega)]) (rrB_zero_nneg w0 lo un re d hw hd hr ⟨hu.1, hu.2.1⟩ hl hlo0 (by omega) h1 w)
    · skip
      by_cases hlo : 0 < lo
      · have g := q4 hlo
        exact C (by rw [if_neg (by omega)]) (rrB_zero_lpos w0 lo un re d hw hd hr ⟨hu.1, hu.2.1⟩ hl hlo (by omega) w)
      · have hlo0 : lo = 0 := by omega
        have g := q5 hlo0
        by_cases hre : 0 < re
        · exact C (by rw [if_neg (by omega)]) (rrB_zero_rpos w0 lo un re d hw hd hr ⟨hu.1, hu.2.1⟩ hl hlo0 hre (by omega) w)
        · exact C (by rw [if_neg (by omega)]) (rrB_zero_npos w0 lo un re d hw hd hr ⟨hu.1, hu.2.1⟩ hl hlo0 (by omega) (by omega) w)
  · rw [if_neg (by decide), if_neg (by decide), if_pos rfl]
    by_cases hlo : 0 < lo
    · have g := q4 hlo
      exact C (by rw [if_pos (by omega)]) (rrB_up_l w0 lo un re d hw hd hr ⟨hu.1, hu.2.1⟩ hl hlo w)
    · have hlo0 : lo = 0 := by omega
      have g := q5 hlo0
      by_cases hre : 0 < re
      · exact C (by rw [if_pos (by omega)]) (rrB_up_r w0 lo un re d hw hd hr ⟨hu.1, hu.2.1⟩ hl hlo0 hre w)
      · exact C (by rw [if_neg (by omega)]) (rrB_up_n w0 lo un re d hw hd hr ⟨hu.1, hu.2.1⟩ hl hlo0 (by omega) w)

end Go.Proofs.YtnidbhfpkjggmaaGreatDoor

/-
  The specification's shift: what a call gives.
-/
namespace Go.Proofs.YtnidbhfpkjggmaaGreatDoor
open Go.RowKit
namespace Z
/-- Small enough to be told. -/
def near (n d k : Int) : Bool := decide (-1099511627776 ≤ rndE 0 n d k ∧ rndE 0 n d k ≤ 1099511627776)
theorem rndE_d (m : Nat) (n c k : Int) (hc : 0 < c) (hk : 0 < k) : rndE m n c (k - 1) = rndE m n (2 * c) k := by
  obtain ⟨j, hj⟩ := Int.eq_ofNat_of_zero_le (show 0 ≤ k - 1 by omega)
  rw [show k = ((j + 1 : Nat) : Int) by omega, show ((j + 1 : Nat) : Int) - 1 = (j : Int) by omega, rndE_pos, rndE_pos, Int.pow_succ, ← Int.mul_assoc, Int.mul_comm _ 2, rnd_scale _ _ _ _ (by decide) hc]
theorem rndE_n (m : Nat) (c d k : Int) (hd : 0 < d) (hk : k < 0) : rndE m c d (k + 1) = rndE m (2 * c) d k := by
  obtain ⟨j, hj⟩ := Int.eq_ofNat_of_zero_le (show 0 ≤ -k - 1 by omega)
  rw [show k = -((j + 1 : Nat) : Int) by omega, show -((j + 1 : Nat) : Int) + 1 = -(j : Int) by omega, rndE_neg, rndE_neg, Int.pow_succ, ← Int.mul_assoc, Int.mul_comm _ 2, rnd_scale _ _ _ _ (by decide) (Int.mul_pos hd (by have := p2_pos j; omega))]
theorem rndE_dbl (m : Nat) (x d k : Int) (hk : 0 < k) : rndE m (2 * x) d (k - 1) = rndE m x d k := by
  obtain ⟨j, hj⟩ := Int.eq_ofNat_of_zero_le (show 0 ≤ k - 1 by omega)
  rw [show k = ((j + 1 : Nat) : Int) by omega, show ((j + 1 : Nat) : Int) - 1 = (j : Int) by omega, rndE_pos, rndE_pos, Int.pow_succ, ← Int.mul_assoc, Int.mul_comm 2, Int.mul_right_comm]
theorem rndE_far {w d r k : Int} (hd : 0 < d) (hr : 0 ≤ r ∧ r < d) (hk : 0 ≤ k) : (1099511627776 < w → 1099511627776 < rndE 0 (w * d + r) d k) ∧ (w < -1099511627776 → rndE 0 (w * d + r) d k < -1099511627776) := by
  obtain ⟨j, rfl⟩ := Int.eq_ofNat_of_zero_le hk
  rw [rndE_pos, rnd_0]
  have pj := p2_pos j
  constructor
  · intro h
    have h1 : w ≤ (w * d + r) * 2 ^ j / d := by
      rw [Int.le_ediv_iff_mul_le hd]
      have a1 : w * d * 1 ≤ (w * d + r) * 2 ^ j := by
        have b1 : w * d * 1 ≤ (w * d) * 2 ^ j := Int.mul_le_mul_of_nonneg_left pj (Int.mul_nonneg (by omega) (by omega))
        have b2 := Int.mul_nonneg hr.1 (show (0 : Int) ≤ 2 ^ j by omega)
        rw [Int.add_mul]; omega
      omega
    omega
  · intro h
    have h1 : (w * d + r) * 2 ^ j / d < w + 1 := by
      rw [Int.ediv_lt_iff_lt_mul hd]
      have c1 : w * d + r < (w + 1) * d := by rw [Int.add_mul]; omega
      have c2 : (w + 1) * d ≤ 0 * d := Int.mul_le_mul_of_nonneg_right (by omega) (by omega)
      have c3 : (w * d + r) * 2 ^ j ≤ (w * d + r) * 1 := by
        have := Int.mul_le_mul_of_nonneg_left pj (show 0 ≤ -(w * d + r) by omega)
        rw [Int.neg_mul, Int.neg_mul] at this; omega
      omega
    omega
end Z
theorem two40 (w : World) : Calls Tryz.prog 81 #[.int .i64 40] w fun e w' => e = .returned (.int .i64 1099511627776) ∧ w = w' := two_any 40 (by decide) w
/-- What is carried around the loops: the same fraction. -/
def Same (m : Nat) (n d k R W : Int) : Prop := Z.rndE m n d k = R ∧ Z.rndE 0 n d k = W
set_option maxRecDepth 100000 in
set_option maxHeartbeats 16000000 in
theorem shift_any (m : Nat) (hm : m ≤ 3) (n0 d0 k0 : Int) (hn : -4611686018427387904 ≤ n0 ∧ n0 ≤ 4611686018427387904) (hd : 1 ≤ d0 ∧ d0 ≤ 1152921504606846976) (hk : -30 ≤ k0 ∧ k0 ≤ 30) (w : World) :
    Calls Tryz.prog 193 #[.string (rnmR m), .agg #[.int .i64 n0, .int .i64 d0], .int .i64 k0] w fun e w' => ∃ y, e = .returned (.tuple #[.int .i64 y, .bool (Z.near n0 d0 k0)]) ∧ (Z.near n0 d0 k0 = true → y = Z.rndE m n0 d0 k0) ∧ Below w.heap.size w w' := by
  obtain ⟨R, hR⟩ : ∃ R, Hid (Z.rndE m n0 d0 k0 = R) := ⟨_, rfl⟩
  obtain ⟨W, hW⟩ : ∃ W, Hid (Z.rndE 0 n0 d0 k0 = W) := ⟨_, rfl⟩
  obtain ⟨N, hN⟩ : ∃ N, Hid (Z.near n0 d0 k0 = N) := ⟨_, rfl⟩
  have hNW : Hid (N = decide (-1099511627776 ≤ W ∧ W ≤ 1099511627776)) := by unfold Hid; rw [← hN.out, ← hW.out]; rfl
  rw [hR.out, hN.out]
  have S0 : Hid (Same m n0 d0 k0 R W) := ⟨hR.out, hW.out⟩
  clear hR hW hN
  go_enter Tryz.func193, Tryz.ntmps193
  go_wp2
  go_loop [2, 9] (fun s2 s9 => ∃ k d : Int, s2 = .int .i64 k ∧ s9 = .int .i64 d ∧ (-30 ≤ k ∧ k ≤ 30) ∧ (1 ≤ d ∧ d ≤ 1152921504606846976) ∧ Hid (Same m n0 d k R W)) (fun s2 _ => (intOf s2).toNat)
  case atStart => exact ⟨_, _, rfl, rfl, hk, hd, S0⟩
  case round =>
    obtain ⟨k, d, rfl, rfl, hk1, hd1, S1⟩ := hrel
    clear S0
    by_cases hgo : 0 < k ∧ d % 2 = 0
    · have t1 : decide (0 < k) = true := decide_eq_true hgo.1
      have dz : d.tmod 2 = 0 := (Z.tmod_two d).2 hgo.2
      have t2 : (d.tmod 2 == 0) = true := by rw [beq_iff_eq]; exact dz
      have dq : d.tdiv 2 = d / 2 := Int.tdiv_eq_ediv_of_nonneg (by omega)
      have y1 : IntKind.i64.wrap (d.tdiv 2) = d / 2 := by rw [dq]; exact Z.i64_in _ (by omega)
      have y2 : IntKind.i64.wrap (k - 1) = k - 1 := Z.i64_in _ (by omega)
      have y3 : wrap64 (d.tdiv 2) = d / 2 := by rw [dq]; unfold wrap64; omega
      have S2 : Hid (Same m n0 (d / 2) (k - 1) R W) := by
        have e : d = 2 * (d / 2) := by omega
        have s := S1.out
        rw [e] at s
        exact ⟨(Z.rndE_d m n0 _ k (by omega) hgo.1).trans s.1, (Z.rndE_d 0 n0 _ k (by omega) hgo.1).trans s.2⟩
      clear dz dq
      go_wp2
      exact ⟨⟨_, _, rfl, rfl, by omega, by omega, S2⟩, by simp only [intOf]; omega⟩
    · by_cases hg1 : 0 < k
      · have t1 : decide (0 < k) = true := decide_eq_true hg1
        have t2 : (d.tmod 2 == 0) = false := by rw [beq_eq_false_iff_ne, Ne, Z.tmod_two]; omega
        have t2b : (d % 2 == 0) = false := by rw [beq_eq_false_iff_ne]; omega
        clear hgo hg1
        go_wp2
        go_loop [2, 8] (fun s2 s8 => ∃ k n : Int, s2 = .int .i64 k ∧ s8 = .int .i64 n ∧ (-30 ≤ k ∧ k ≤ 30) ∧ (-4611686018427387904 ≤ n ∧ n ≤ 4611686018427387904) ∧ Hid (Same m n d k R W)) (fun s2 _ => (-(intOf s2)).toNat)
        case atStart => exact ⟨_, _, rfl, rfl, hk1, hn, S1⟩
        case round =>
          obtain ⟨k, n, rfl, rfl, hk2, hn2, S3⟩ := hrel
          clear S1 hk1
          (try clear t1)
          (try clear t2)
          (try clear hgo)
          by_cases hgo : k < 0 ∧ n % 2 = 0
          · have t1 : decide (k < 0) = true := decide_eq_true hgo.1
            have dz : n.tmod 2 = 0 := (Z.tmod_two n).2 hgo.2
            have t2 : (n.tmod 2 == 0) = true := by rw [beq_iff_eq]; exact dz
            have dq : n.tdiv 2 = n / 2 := by have := Int.mul_tdiv_add_tmod n 2; omega
            have y1 : IntKind.i64.wrap (n.tdiv 2) = n / 2 := by rw [dq]; exact Z.i64_in _ (by omega)
            have y2 : IntKind.i64.wrap (k + 1) = k + 1 := Z.i64_in _ (by omega)
            have y3 : wrap64 (n.tdiv 2) = n / 2 := by rw [dq]; unfold wrap64; omega
            have S4 : Hid (Same m (n / 2) d (k + 1) R W) := by
              have e : n = 2 * (n / 2) := by omega
              have s := S3.out
              rw [e] at s
              exact ⟨(Z.rndE_n m _ d k (by omega) hgo.1).trans s.1, (Z.rndE_n 0 _ d k (by omega) hgo.1).trans s.2⟩
            clear dz dq
            go_wp2
            exact ⟨⟨_, _, rfl, rfl, by omega, by omega, S4⟩, by simp only [intOf]; omega⟩
          · by_cases hg1 : k < 0
            · have t1 : decide (k < 0) = true := decide_eq_true hg1
              have t2 : (n.tmod 2 == 0) = false := by rw [beq_eq_false_iff_ne, Ne, Z.tmod_two]; omega
              clear hgo
              have wq := Z.split_div (w := n / d) (d := d) (r := n % d) (by omega) ⟨Int.emod_nonneg n (by omega), Int.emod_lt_of_pos n (by omega)⟩
              have hwd : n / d * d + n % d = n := by have := Int.mul_ediv_add_emod n d; rw [Int.mul_comm]; exact this
              have hr0 : 0 ≤ n % d ∧ n % d < d := ⟨Int.emod_nonneg n (by omega), Int.emod_lt_of_pos n (by omega)⟩
              have hw0 := Q.div_bd n d 4611686018427387904 (by omega) hn2
              clear wq
              obtain ⟨w0, hw0e⟩ : ∃ w0, n / d = w0 := ⟨_, rfl⟩
              obtain ⟨r0, hr0e⟩ : ∃ r0, n % d = r0 := ⟨_, rfl⟩
              rw [hw0e, hr0e] at hwd
              rw [hr0e] at hr0
              rw [hw0e] at hw0
              clear hr0e
              have S5 : Hid (Same m (w0 * d + r0) d k R W) := by rw [hwd]; exact S3
              have y4 : IntKind.i64.wrap (n - IntKind.i64.wrap (w0 * d)) = r0 := by rw [Z.i64_in (w0 * d) (by omega)]; rw [Z.i64_in _ (by omega)]; omega
              have y5 : wrap64 (n - wrap64 (w0 * d)) = r0 := by unfold wrap64; omega
              have HWD := Lib.hid hwd
              clear hwd S3
              go_wp2_with (go_at_call 136; refine (floordiv_any _ _ (by omega) (by omega) _).mono ?_; rintro e wx ⟨rfl, rfl⟩)
              (try rw [y5])
              go_loop [2, 10, 11] (fun s2 s10 s11 => ∃ k z r : Int, s2 = .int .i64 k ∧ s10 = .int .i64 z ∧ s11 = .int .i64 r ∧ (-30 ≤ k ∧ k ≤ 30) ∧ (-4611686018427387904 ≤ z ∧ z ≤ 4611686018427387904) ∧ (0 ≤ r ∧ r < d) ∧ Hid (Same m (z * d + r) d k R W)) (fun s2 _ _ => (intOf s2).toNat)
              case atStart => exact ⟨_, _, _, rfl, rfl, rfl, hk2, by omega, hr0, S5⟩
              case round =>
                obtain ⟨k, z, r, rfl, rfl, rfl, hk3, hz, hr, S6⟩ := hrel
                clear S5 hk2 y4 y5 hw0e hw0 hr0 HWD
                (try clear t1)
                (try clear t2)
                (try clear hg1)
                by_cases hgo : 0 < k
                · have t1 : decide (0 < k) = true := decide_eq_true hgo
                  have far := Z.rndE_far (w := z) (d := d) (r := r) (k := k) (by omega) hr (by omega)
                  rw [S6.out.2] at far
                  by_cases f1 : 1099511627776 < z
                  · have t2 : decide (1099511627776 < z) = true := decide_eq_true f1
                    have hNf : N = false := by rw [hNW.out]; exact decide_eq_false (by have := far.1 f1; omega)
                    clear far
                    go_wp2_with (go_at_call 81; refine (two40 _).mono ?_; rintro e wx ⟨rfl, rfl⟩)
                    go_ret2
                    exact ⟨_, by rw [hNf]; rfl, fun h => (by rw [hNf] at h; cases h), by go_grown⟩
                  · have t2 : decide (1099511627776 < z) = false := decide_eq_false f1
                    by_cases f2 : z < -1099511627776
                    · have t3 : decide (z < -1099511627776) = true := decide_eq_true f2
                      have hNf : N = false := by rw [hNW.out]; exact decide_eq_false (by have := far.2 f2; omega)
                      clear far
                      go_wp2_with (go_at_call 81; refine (two40 _).mono ?_; rintro e wx ⟨rfl, rfl⟩)
                      go_ret2
                      exact ⟨_, by rw [hNf]; rfl, fun h => (by rw [hNf] at h; cases h), by go_grown⟩
                    · have t3 : decide (z < -1099511627776) = false := decide_eq_false f2
                      clear far
                      have y6 : IntKind.i64.wrap (2 * z) = 2 * z := Z.i64_in _ (by omega)
                      have y7 : IntKind.i64.wrap (d - r) = d - r := Z.i64_in _ (by omega)
                      have y8 : IntKind.i64.wrap (k - 1) = k - 1 := Z.i64_in _ (by omega)
                      by_cases f3 : d - r ≤ r
                      · have t4 : decide (d - r ≤ r) = true := decide_eq_true f3
                        have y9 : IntKind.i64.wrap (2 * z + 1) = 2 * z + 1 := Z.i64_in _ (by omega)
                        have y10 : IntKind.i64.wrap (r - (d - r)) = r - (d - r) := Z.i64_in _ (by omega)
                        have S7 : Hid (Same m ((2 * z + 1) * d + (r - (d - r))) d (k - 1) R W) := by
                          have e : (2 * z + 1) * d + (r - (d - r)) = 2 * (z * d + r) := by rw [Int.add_mul, Int.mul_assoc]; omega
                          rw [e]; exact ⟨(Z.rndE_dbl m _ d k hgo).trans S6.out.1, (Z.rndE_dbl 0 _ d k hgo).trans S6.out.2⟩
                        go_wp2_with (go_at_call 81; refine (two40 _).mono ?_; rintro e wx ⟨rfl, rfl⟩)
                        exact ⟨⟨_, _, _, rfl, rfl, rfl, by omega, by omega, by omega, S7⟩, by simp only [intOf]; omega⟩
                      · have t4 : decide (d - r ≤ r) = false := decide_eq_false f3
                        have y9 : IntKind.i64.wrap (2 * r) = 2 * r := Z.i64_in _ (by omega)
                        have S7 : Hid (Same m ((2 * z) * d + 2 * r) d (k - 1) R W) := by
                          have e : (2 * z) * d + 2 * r = 2 * (z * d + r) := by rw [Int.mul_assoc]; omega
                          rw [e]; exact ⟨(Z.rndE_dbl m _ d k hgo).trans S6.out.1, (Z.rndE_dbl 0 _ d k hgo).trans S6.out.2⟩
                        go_wp2_with (go_at_call 81; refine (two40 _).mono ?_; rintro e wx ⟨rfl, rfl⟩)
                        exact ⟨⟨_, _, _, rfl, rfl, rfl, by omega, by omega, by omega, S7⟩, by simp only [intOf]; omega⟩
                · have t1 : decide (0 < k) = false := decide_eq_false hgo
                  by_cases hneg : k < 0
                  · obtain ⟨j, hj⟩ := Int.eq_ofNat_of_zero_le (show 0 ≤ -k by omega)
                    have hjb : 1 ≤ j ∧ j ≤ 30 := by omega
                    have hkj : k = -(j : Int) := by omega
                    subst hkj
                    clear hj
                    have P := Z.p2_30 j (by omega)
                    have hev : (2 : Int) ^ j % 2 = 0 := by rw [show j = (j - 1) + 1 by omega, Int.pow_succ]; omega
                    have P2 : 2 ≤ (2 : Int) ^ j := by omega
                    have s := S6.out
                    unfold Same at s
                    rw [Z.rndE_neg, Z.rndE_neg] at s
                    have tw := two_any j (by omega)
                    obtain ⟨u, hu⟩ : ∃ u : Int, (2 : Int) ^ j = u := ⟨_, rfl⟩
                    rw [hu] at s tw P hev P2
                    clear hu
                    have hpd : z / u * u + z % u = z := by have := Int.mul_ediv_add_emod z u; rw [Int.mul_comm]; exact this
                    have hl : 0 ≤ z % u ∧ z % u < u := ⟨Int.emod_nonneg z (by omega), Int.emod_lt_of_pos z (by omega)⟩
                    have hpb := Q.div_bd z u 4611686018427387904 (by omega) hz
                    obtain ⟨p, hp⟩ : ∃ p, z / u = p := ⟨_, rfl⟩
                    obtain ⟨l, hl0⟩ : ∃ l, z % u = l := ⟨_, rfl⟩
                    rw [hp, hl0] at hpd
                    rw [hl0] at hl
                    rw [hp] at hpb
                    clear hl0
                    have y6 : IntKind.i64.wrap (- -(j : Int)) = (j : Int) := Z.i64_in _ (by omega) |>.trans (by omega)
                    have y7 : IntKind.i64.wrap (z - IntKind.i64.wrap (p * u)) = l := by rw [Z.i64_in (p * u) (by omega)]; rw [Z.i64_in _ (by omega)]; omega
                    have y8 : wrap64 (z - wrap64 (p * u)) = l := by unfold wrap64; omega
                    have hWp : W = p := by rw [← s.2, ← hpd, Z.rnd_split2 0 (by omega) (by omega) hr hl]; rfl
                    have hRp : Z.rnd m ((p * u + l) * d + r) (d * u) = R := by rw [hpd]; exact s.1
                    have HRP := Lib.hid hRp
                    have HPD := Lib.hid hpd
                    clear hRp hpd s
                    have t5 : decide (-(j : Int) < 0) = true := decide_eq_true (by omega)
                    have ARM := Lib.hid tw
                    clear tw
                    have HP := Lib.hid hp
                    clear hp
                    by_cases f1 : 1099511627776 < p
                    · have t2 : decide (1099511627776 < p) = true := decide_eq_true f1
                      have hNf : N = false := by rw [hNW.out, hWp]; exact decide_eq_false (by omega)
                      go_wp2_with (first | (go_at_call 81; refine (ARM.out _).mono ?_; rintro e wx ⟨rfl, rfl⟩) | (go_at_call 81; refine (two40 _).mono ?_; rintro e wx ⟨rfl, rfl⟩) | (go_at_call 136; refine (floordiv_any _ _ (by omega) (by omega) _).mono ?_; rintro e wx ⟨rfl, rfl⟩; rw [HP.out]) | (go_at_call 212; refine (rrB_any m hm _ _ _ _ _ (by omega) (by omega) hr ⟨P2, P.2, hev⟩ hl _).mono ?_; rintro e wx ⟨rfl, rfl⟩; rw [HRP.out]))
                      go_ret2
                      exact ⟨_, by rw [hNf]; rfl, fun h => (by rw [hNf] at h; cases h), by go_grown⟩
                    · have t2 : decide (1099511627776 < p) = false := decide_eq_false f1
                      by_cases f2 : p < -1099511627776
                      · have t3 : decide (p < -1099511627776) = true := decide_eq_true f2
                        have hNf : N = false := by rw [hNW.out, hWp]; exact decide_eq_false (by omega)
                        go_wp2_with (first | (go_at_call 81; refine (ARM.out _).mono ?_; rintro e wx ⟨rfl, rfl⟩) | (go_at_call 81; refine (two40 _).mono ?_; rintro e wx ⟨rfl, rfl⟩) | (go_at_call 136; refine (floordiv_any _ _ (by omega) (by omega) _).mono ?_; rintro e wx ⟨rfl, rfl⟩; rw [HP.out]) | (go_at_call 212; refine (rrB_any m hm _ _ _ _ _ (by omega) (by omega) hr ⟨P2, P.2, hev⟩ hl _).mono ?_; rintro e wx ⟨rfl, rfl⟩; rw [HRP.out]))
                        go_ret2
                        exact ⟨_, by rw [hNf]; rfl, fun h => (by rw [hNf] at h; cases h), by go_grown⟩
                      · have t3 : decide (p < -1099511627776) = false := decide_eq_false f2
                        have hNf : N = true := by rw [hNW.out, hWp]; exact decide_eq_true (by omega)
                        go_wp2_with (first | (go_at_call 81; refine (ARM.out _).mono ?_; rintro e wx ⟨rfl, rfl⟩) | (go_at_call 81; refine (two40 _).mono ?_; rintro e wx ⟨rfl, rfl⟩) | (go_at_call 136; refine (floordiv_any _ _ (by omega) (by omega) _).mono ?_; rintro e wx ⟨rfl, rfl⟩; rw [HP.out]) | (go_at_call 212; refine (rrB_any m hm _ _ _ _ _ (by omega) (by omega) hr ⟨P2, P.2, hev⟩ hl _).mono ?_; rintro e wx ⟨rfl, rfl⟩; rw [HRP.out]))
                        go_ret2
                        exact ⟨_, by rw [hNf]; rfl, fun _ => rfl, by go_grown⟩
                  · have hk0 : k = 0 := by omega
                    subst hk0
                    have s := S6.out
                    unfold Same at s
                    have e0 : ∀ q x y, Z.rndE q x y 0 = Z.rnd q x y := fun q x y => by have := Z.rndE_pos q x y 0; simpa using this
                    rw [e0, e0] at s
                    have hWp : W = z := by rw [← s.2, Z.rnd_split 0 (by omega) hr]; rfl
                    have HRP := Lib.hid s.1
                    clear s e0
                    by_cases f1 : 1099511627776 < z
                    · have t2 : decide (1099511627776 < z) = true := decide_eq_true f1
                      have hNf : N = false := by rw [hNW.out, hWp]; exact decide_eq_false (by omega)
                      go_wp2_with (first | (go_at_call 81; refine (two40 _).mono ?_; rintro e wx ⟨rfl, rfl⟩) | (go_at_call 212; refine (rrA_any m hm _ _ _ _ _ (by omega) (by omega) hr rfl rfl _).mono ?_; rintro e wx ⟨rfl, rfl⟩; rw [HRP.out]))
                      go_ret2
                      exact ⟨_, by rw [hNf]; rfl, fun h => (by rw [hNf] at h; cases h), by go_grown⟩
                    · have t2 : decide (1099511627776 < z) = false := decide_eq_false f1
                      by_cases f2 : z < -1099511627776
                      · have t3 : decide (z < -1099511627776) = true := decide_eq_true f2
                        have hNf : N = false := by rw [hNW.out, hWp]; exact decide_eq_false (by omega)
                        go_wp2_with (first | (go_at_call 81; refine (two40 _).mono ?_; rintro e wx ⟨rfl, rfl⟩) | (go_at_call 212; refine (rrA_any m hm _ _ _ _ _ (by omega) (by omega) hr rfl rfl _).mono ?_; rintro e wx ⟨rfl, rfl⟩; rw [HRP.out]))
                        go_ret2
                        exact ⟨_, by rw [hNf]; rfl, fun h => (by rw [hNf] at h; cases h), by go_grown⟩
                      · have t3 : decide (z < -1099511627776) = false := decide_eq_false f2
                        have hNf : N = true := by rw [hNW.out, hWp]; exact decide_eq_true (by omega)
                        go_wp2_with (first | (go_at_call 81; refine (two40 _).mono ?_; rintro e wx ⟨rfl, rfl⟩) | (go_at_call 212; refine (rrA_any m hm _ _ _ _ _ (by omega) (by omega) hr rfl rfl _).mono ?_; rintro e wx ⟨rfl, rfl⟩; rw [HRP.out]))
                        go_ret2
                        exact ⟨_, by rw [hNf]; rfl, fun _ => rfl, by go_grown⟩
            · have t1 : decide (k < 0) = false := decide_eq_false hg1
              clear hgo
              have wq := Z.split_div (w := n / d) (d := d) (r := n % d) (by omega) ⟨Int.emod_nonneg n (by omega), Int.emod_lt_of_pos n (by omega)⟩
              have hwd : n / d * d + n % d = n := by have := Int.mul_ediv_add_emod n d; rw [Int.mul_comm]; exact this
              have hr0 : 0 ≤ n % d ∧ n % d < d := ⟨Int.emod_nonneg n (by omega), Int.emod_lt_of_pos n (by omega)⟩
              have hw0 := Q.div_bd n d 4611686018427387904 (by omega) hn2
              clear wq
              obtain ⟨w0, hw0e⟩ : ∃ w0, n / d = w0 := ⟨_, rfl⟩
              obtain ⟨r0, hr0e⟩ : ∃ r0, n % d = r0 := ⟨_, rfl⟩
              rw [hw0e, hr0e] at hwd
              rw [hr0e] at hr0
              rw [hw0e] at hw0
              clear hr0e
              have S5 : Hid (Same m (w0 * d + r0) d k R W) := by rw [hwd]; exact S3
              have y4 : IntKind.i64.wrap (n - IntKind.i64.wrap (w0 * d)) = r0 := by rw [Z.i64_in (w0 * d) (by omega)]; rw [Z.i64_in _ (by omega)]; omega
              have y5 : wrap64 (n - wrap64 (w0 * d)) = r0 := by unfold wrap64; omega
              have HWD := Lib.hid hwd
              clear hwd S3
              go_wp2_with (go_at_call 136; refine (floordiv_any _ _ (by omega) (by omega) _).mono ?_; rintro e wx ⟨rfl, rfl⟩)
              (try rw [y5])
              go_loop [2, 10, 11] (fun s2 s10 s11 => ∃ k z r : Int, s2 = .int .i64 k ∧ s10 = .int .i64 z ∧ s11 = .int .i64 r ∧ (-30 ≤ k ∧ k ≤ 30) ∧ (-4611686018427387904 ≤ z ∧ z ≤ 4611686018427387904) ∧ (0 ≤ r ∧ r < d) ∧ Hid (Same m (z * d + r) d k R W)) (fun s2 _ _ => (intOf s2).toNat)
              case atStart => exact ⟨_, _, _, rfl, rfl, rfl, hk2, by omega, hr0, S5⟩
              case round =>
                obtain ⟨k, z, r, rfl, rfl, rfl, hk3, hz, hr, S6⟩ := hrel
                clear S5 hk2 y4 y5 hw0e hw0 hr0 HWD
                (try clear t1)
                (try clear t2)
                (try clear hg1)
                by_cases hgo : 0 < k
                · have t1 : decide (0 < k) = true := decide_eq_true hgo
                  have far := Z.rndE_far (w := z) (d := d) (r := r) (k := k) (by omega) hr (by omega)
                  rw [S6.out.2] at far
                  by_cases f1 : 1099511627776 < z
                  · have t2 : decide (1099511627776 < z) = true := decide_eq_true f1
                    have hNf : N = false := by rw [hNW.out]; exact decide_eq_false (by have := far.1 f1; omega)
                    clear far
                    go_wp2_with (go_at_call 81; refine (two40 _).mono ?_; rintro e wx ⟨rfl, rfl⟩)
                    go_ret2
                    exact ⟨_, by rw [hNf]; rfl, fun h => (by rw [hNf] at h; cases h), by go_grown⟩
                  · have t2 : decide (1099511627776 < z) = false := decide_eq_false f1
                    by_cases f2 : z < -1099511627776
                    · have t3 : decide (z < -1099511627776) = true := decide_eq_true f2
                      have hNf : N = false := by rw [hNW.out]; exact decide_eq_false (by have := far.2 f2; omega)
                      clear far
                      go_wp2_with (go_at_call 81; refine (two40 _).mono ?_; rintro e wx ⟨rfl, rfl⟩)
                      go_ret2
                      exact ⟨_, by rw [hNf]; rfl, fun h => (by rw [hNf] at h; cases h), by go_grown⟩
                    · have t3 : decide (z < -1099511627776) = false := decide_eq_false f2
                      clear far
                      have y6 : IntKind.i64.wrap (2 * z) = 2 * z := Z.i64_in _ (by omega)
                      have y7 : IntKind.i64.wrap (d - r) = d - r := Z.i64_in _ (by omega)
                      have y8 : IntKind.i64.wrap (k - 1) = k - 1 := Z.i64_in _ (by omega)
                      by_cases f3 : d - r ≤ r
                      · have t4 : decide (d - r ≤ r) = true := decide_eq_true f3
                        have y9 : IntKind.i64.wrap (2 * z + 1) = 2 * z + 1 := Z.i64_in _ (by omega)
                        have y10 : IntKind.i64.wrap (r - (d - r)) = r - (d - r) := Z.i64_in _ (by omega)
                        have S7 : Hid (Same m ((2 * z + 1) * d + (r - (d - r))) d (k - 1) R W) := by
                          have e : (2 * z + 1) * d + (r - (d - r)) = 2 * (z * d + r) := by rw [Int.add_mul, Int.mul_assoc]; omega
                          rw [e]; exact ⟨(Z.rndE_dbl m _ d k hgo).trans S6.out.1, (Z.rndE_dbl 0 _ d k hgo).trans S6.out.2⟩
                        go_wp2_with (go_at_call 81; refine (two40 _).mono ?_; rintro e wx ⟨rfl, rfl⟩)
                        exact ⟨⟨_, _, _, rfl, rfl, rfl, by omega, by omega, by omega, S7⟩, by simp only [intOf]; omega⟩
                      · have t4 : decide (d - r ≤ r) = false := decide_eq_false f3
                        have y9 : IntKind.i64.wrap (2 * r) = 2 * r := Z.i64_in _ (by omega)
                        have S7 : Hid (Same m ((2 * z) * d + 2 * r) d (k - 1) R W) := by
                          have e : (2 * z) * d + 2 * r = 2 * (z * d + r) := by rw [Int.mul_assoc]; omega
                          rw [e]; exact ⟨(Z.rndE_dbl m _ d k hgo).trans S6.out.1, (Z.rndE_dbl 0 _ d k hgo).trans S6.out.2⟩
                        go_wp2_with (go_at_call 81; refine (two40 _).mono ?_; rintro e wx ⟨rfl, rfl⟩)
                        exact ⟨⟨_, _, _, rfl, rfl, rfl, by omega, by omega, by omega, S7⟩, by simp only [intOf]; omega⟩
                · have t1 : decide (0 < k) = false := decide_eq_false hgo
                  by_cases hneg : k < 0
                  · obtain ⟨j, hj⟩ := Int.eq_ofNat_of_zero_le (show 0 ≤ -k by omega)
                    have hjb : 1 ≤ j ∧ j ≤ 30 := by omega
                    have hkj : k = -(j : Int) := by omega
                    subst hkj
                    clear hj
                    have P := Z.p2_30 j (by omega)
                    have hev : (2 : Int) ^ j % 2 = 0 := by rw [show j = (j - 1) + 1 by omega, Int.pow_succ]; omega
                    have P2 : 2 ≤ (2 : Int) ^ j := by omega
                    have s := S6.out
                    unfold Same at s
                    rw [Z.rndE_neg, Z.rndE_neg] at s
                    have tw := two_any j (by omega)
                    obtain ⟨u, hu⟩ : ∃ u : Int, (2 : Int) ^ j = u := ⟨_, rfl⟩
                    rw [hu] at s tw P hev P2
                    clear hu
                    have hpd : z / u * u + z % u = z := by have := Int.mul_ediv_add_emod z u; rw [Int.mul_comm]; exact this
                    have hl : 0 ≤ z % u ∧ z % u < u := ⟨Int.emod_nonneg z (by omega), Int.emod_lt_of_pos z (by omega)⟩
                    have hpb := Q.div_bd z u 4611686018427387904 (by omega) hz
                    obtain ⟨p, hp⟩ : ∃ p, z / u = p := ⟨_, rfl⟩
                    obtain ⟨l, hl0⟩ : ∃ l, z % u = l := ⟨_, rfl⟩
                    rw [hp, hl0] at hpd
                    rw [hl0] at hl
                    rw [hp] at hpb
                    clear hl0
                    have y6 : IntKind.i64.wrap (- -(j : Int)) = (j : Int) := Z.i64_in _ (by omega) |>.trans (by omega)
                    have y7 : IntKind.i64.wrap (z - IntKind.i64.wrap (p * u)) = l := by rw [Z.i64_in (p * u) (by omega)]; rw [Z.i64_in _ (by omega)]; omega
                    have y8 : wrap64 (z - wrap64 (p * u)) = l := by unfold wrap64; omega
                    have hWp : W = p := by rw [← s.2, ← hpd, Z.rnd_split2 0 (by omega) (by omega) hr hl]; rfl
                    have hRp : Z.rnd m ((p * u + l) * d + r) (d * u) = R := by rw [hpd]; exact s.1
                    have HRP := Lib.hid hRp
                    have HPD := Lib.hid hpd
                    clear hRp hpd s
                    have t5 : decide (-(j : Int) < 0) = true := decide_eq_true (by omega)
                    have ARM := Lib.hid tw
                    clear tw
                    have HP := Lib.hid hp
                    clear hp
                    by_cases f1 : 1099511627776 < p
                    · have t2 : decide (1099511627776 < p) = true := decide_eq_true f1
                      have hNf : N = false := by rw [hNW.out, hWp]; exact decide_eq_false (by omega)
                      go_wp2_with (first | (go_at_call 81; refine (ARM.out _).mono ?_; rintro e wx ⟨rfl, rfl⟩) | (go_at_call 81; refine (two40 _).mono ?_; rintro e wx ⟨rfl, rfl⟩) | (go_at_call 136; refine (floordiv_any _ _ (by omega) (by omega) _).mono ?_; rintro e wx ⟨rfl, rfl⟩; rw [HP.out]) | (go_at_call 212; refine (rrB_any m hm _ _ _ _ _ (by omega) (by omega) hr ⟨P2, P.2, hev⟩ hl _).mono ?_; rintro e wx ⟨rfl, rfl⟩; rw [HRP.out]))
                      go_ret2
                      exact ⟨_, by rw [hNf]; rfl, fun h => (by rw [hNf] at h; cases h), by go_grown⟩
                    · have t2 : decide (1099511627776 < p) = false := decide_eq_false f1
                      by_cases f2 : p < -1099511627776
                      · have t3 : decide (p < -1099511627776) = true := decide_eq_true f2
                        have hNf : N = false := by rw [hNW.out, hWp]; exact decide_eq_false (by omega)
                        go_wp2_with (first | (go_at_call 81; refine (ARM.out _).mono ?_; rintro e wx ⟨rfl, rfl⟩) | (go_at_call 81; refine (two40 _).mono ?_; rintro e wx ⟨rfl, rfl⟩) | (go_at_call 136; refine (floordiv_any _ _ (by omega) (by omega) _).mono ?_; rintro e wx ⟨rfl, rfl⟩; rw [HP.out]) | (go_at_call 212; refine (rrB_any m hm _ _ _ _ _ (by omega) (by omega) hr ⟨P2, P.2, hev⟩ hl _).mono ?_; rintro e wx ⟨rfl, rfl⟩; rw [HRP.out]))
                        go_ret2
                        exact ⟨_, by rw [hNf]; rfl, fun h => (by rw [hNf] at h; cases h), by go_grown⟩
                      · have t3 : decide (p < -1099511627776) = false := decide_eq_false f2
                        have hNf : N = true := by rw [hNW.out, hWp]; exact decide_eq_true (by omega)
                        go_wp2_with (first | (go_at_call 81; refine (ARM.out _).mono ?_; rintro e wx ⟨rfl, rfl⟩) | (go_at_call 81; refine (two40 _).mono ?_; rintro e wx ⟨rfl, rfl⟩) | (go_at_call 136; refine (floordiv_any _ _ (by omega) (by omega) _).mono ?_; rintro e wx ⟨rfl, rfl⟩; rw [HP.out]) | (go_at_call 212; refine (rrB_any m hm _ _ _ _ _ (by omega) (by omega) hr ⟨P2, P.2, hev⟩ hl _).mono ?_; rintro e wx ⟨rfl, rfl⟩; rw [HRP.out]))
                        go_ret2
                        exact ⟨_, by rw [hNf]; rfl, fun _ => rfl, by go_grown⟩
                  · have hk0 : k = 0 := by omega
                    subst hk0
                    have s := S6.out
                    unfold Same at s
                    have e0 : ∀ q x y, Z.rndE q x y 0 = Z.rnd q x y := fun q x y => by have := Z.rndE_pos q x y 0; simpa using this
                    rw [e0, e0] at s
                    have hWp : W = z := by rw [← s.2, Z.rnd_split 0 (by omega) hr]; rfl
                    have HRP := Lib.hid s.1
                    clear s e0
                    by_cases f1 : 1099511627776 < z
                    · have t2 : decide (1099511627776 < z) = true := decide_eq_true f1
                      have hNf : N = false := by rw [hNW.out, hWp]; exact decide_eq_false (by omega)
                      go_wp2_with (first | (go_at_call 81; refine (two40 _).mono ?_; rintro e wx ⟨rfl, rfl⟩) | (go_at_call 212; refine (rrA_any m hm _ _ _ _ _ (by omega) (by omega) hr rfl rfl _).mono ?_; rintro e wx ⟨rfl, rfl⟩; rw [HRP.out]))
                      go_ret2
                      exact ⟨_, by rw [hNf]; rfl, fun h => (by rw [hNf] at h; cases h), by go_grown⟩
                    · have t2 : decide (1099511627776 < z) = false := decide_eq_false f1
                      by_cases f2 : z < -1099511627776
                      · have t3 : decide (z < -1099511627776) = true := decide_eq_true f2
                        have hNf : N = false := by rw [hNW.out, hWp]; exact decide_eq_false (by omega)
                        go_wp2_with (first | (go_at_call 81; refine (two40 _).mono ?_; rintro e wx ⟨rfl, rfl⟩) | (go_at_call 212; refine (rrA_any m hm _ _ _ _ _ (by omega) (by omega) hr rfl rfl _).mono ?_; rintro e wx ⟨rfl, rfl⟩; rw [HRP.out]))
                        go_ret2
                        exact ⟨_, by rw [hNf]; rfl, fun h => (by rw [hNf] at h; cases h), by go_grown⟩
                      · have t3 : decide (z < -1099511627776) = false := decide_eq_false f2
                        have hNf : N = true := by rw [hNW.out, hWp]; exact decide_eq_true (by omega)
                        go_wp2_with (first | (go_at_call 81; refine (two40 _).mono ?_; rintro e wx ⟨rfl, rfl⟩) | (go_at_call 212; refine (rrA_any m hm _ _ _ _ _ (by omega) (by omega) hr rfl rfl _).mono ?_; rintro e wx ⟨rfl, rfl⟩; rw [HRP.out]))
                        go_ret2
                        exact ⟨_, by rw [hNf]; rfl, fun _ => rfl, by go_grown⟩
      · have t1 : decide (0 < k) = false := decide_eq_false hg1
        clear hgo hg1
        go_wp2
        go_loop [2, 8] (fun s2 s8 => ∃ k n : Int, s2 = .int .i64 k ∧ s8 = .int .i64 n ∧ (-30 ≤ k ∧ k ≤ 30) ∧ (-4611686018427387904 ≤ n ∧ n ≤ 4611686018427387904) ∧ Hid (Same m n d k R W)) (fun s2 _ => (-(intOf s2)).toNat)
        case atStart => exact ⟨_, _, rfl, rfl, hk1, hn, S1⟩
        case round =>
          obtain ⟨k, n, rfl, rfl, hk2, hn2, S3⟩ := hrel
          clear S1 hk1
          (try clear t1)
          (try clear t2)
          (try clear hgo)
          by_cases hgo : k < 0 ∧ n % 2 = 0
          · have t1 : decide (k < 0) = true := decide_eq_true hgo.1
            have dz : n.tmod 2 = 0 := (Z.tmod_two n).2 hgo.2
            have t2 : (n.tmod 2 == 0) = true := by rw [beq_iff_eq]; exact dz
            have dq : n.tdiv 2 = n / 2 := by have := Int.mul_tdiv_add_tmod n 2; omega
            have y1 : IntKind.i64.wrap (n.tdiv 2) = n / 2 := by rw [dq]; exact Z.i64_in _ (by omega)
            have y2 : IntKind.i64.wrap (k + 1) = k + 1 := Z.i64_in _ (by omega)
            have y3 : wrap64 (n.tdiv 2) = n / 2 := by rw [dq]; unfold wrap64; omega
            have S4 : Hid (Same m (n / 2) d (k + 1) R W) := by
              have e : n = 2 * (n / 2) := by omega
              have s := S3.out
              rw [e] at s
              exact ⟨(Z.rndE_n m _ d k (by omega) hgo.1).trans s.1, (Z.rndE_n 0 _ d k (by omega) hgo.1).trans s.2⟩
            clear dz dq
            go_wp2
            exact ⟨⟨_, _, rfl, rfl, by omega, by omega, S4⟩, by simp only [intOf]; omega⟩
          · by_cases hg1 : k < 0
            · have t1 : decide (k < 0) = true := decide_eq_true hg1
              have t2 : (n.tmod 2 == 0) = false := by rw [beq_eq_false_iff_ne, Ne, Z.tmod_two]; omega
              clear hgo
              have wq := Z.split_div (w := n / d) (d := d) (r := n % d) (by omega) ⟨Int.emod_nonneg n (by omega), Int.emod_lt_of_pos n (by omega)⟩
              have hwd : n / d * d + n % d = n := by have := Int.mul_ediv_add_emod n d; rw [Int.mul_comm]; exact this
              have hr0 : 0 ≤ n % d ∧ n % d < d := ⟨Int.emod_nonneg n (by omega), Int.emod_lt_of_pos n (by omega)⟩
              have hw0 := Q.div_bd n d 4611686018427387904 (by omega) hn2
              clear wq
              obtain ⟨w0, hw0e⟩ : ∃ w0, n / d = w0 := ⟨_, rfl⟩
              obtain ⟨r0, hr0e⟩ : ∃ r0, n % d = r0 := ⟨_, rfl⟩
              rw [hw0e, hr0e] at hwd
              rw [hr0e] at hr0
              rw [hw0e] at hw0
              clear hr0e
              have S5 : Hid (Same m (w0 * d + r0) d k R W) := by rw [hwd]; exact S3
              have y4 : IntKind.i64.wrap (n - IntKind.i64.wrap (w0 * d)) = r0 := by rw [Z.i64_in (w0 * d) (by omega)]; rw [Z.i64_in _ (by omega)]; omega
              have y5 : wrap64 (n - wrap64 (w0 * d)) = r0 := by unfold wrap64; omega
              have HWD := Lib.hid hwd
              clear hwd S3
              go_wp2_with (go_at_call 136; refine (floordiv_any _ _ (by omega) (by omega) _).mono ?_; rintro e wx ⟨rfl, rfl⟩)
              (try rw [y5])
              go_loop [2, 10, 11] (fun s2 s10 s11 => ∃ k z r : Int, s2 = .int .i64 k ∧ s10 = .int .i64 z ∧ s11 = .int .i64 r ∧ (-30 ≤ k ∧ k ≤ 30) ∧ (-4611686018427387904 ≤ z ∧ z ≤ 4611686018427387904) ∧ (0 ≤ r ∧ r < d) ∧ Hid (Same m (z * d + r) d k R W)) (fun s2 _ _ => (intOf s2).toNat)
              case atStart => exact ⟨_, _, _, rfl, rfl, rfl, hk2, by omega, hr0, S5⟩
              case round =>
                obtain ⟨k, z, r, rfl, rfl, rfl, hk3, hz, hr, S6⟩ := hrel
                clear S5 hk2 y4 y5 hw0e hw0 hr0 HWD
                (try clear t1)
                (try clear t2)
                (try clear hg1)
                by_cases hgo : 0 < k
                · have t1 : decide (0 < k) = true := decide_eq_true hgo
                  have far := Z.rndE_far (w := z) (d := d) (r := r) (k := k) (by omega) hr (by omega)
                  rw [S6.out.2] at far
                  by_cases f1 : 1099511627776 < z
                  · have t2 : decide (1099511627776 < z) = true := decide_eq_true f1
                    have hNf : N = false := by rw [hNW.out]; exact decide_eq_false (by have := far.1 f1; omega)
                    clear far
                    go_wp2_with (go_at_call 81; refine (two40 _).mono ?_; rintro e wx ⟨rfl, rfl⟩)
                    go_ret2
                    exact ⟨_, by rw [hNf]; rfl, fun h => (by rw [hNf] at h; cases h), by go_grown⟩
                  · have t2 : decide (1099511627776 < z) = false := decide_eq_false f1
                    by_cases f2 : z < -1099511627776
                    · have t3 : decide (z < -1099511627776) = true := decide_eq_true f2
                      have hNf : N = false := by rw [hNW.out]; exact decide_eq_false (by have := far.2 f2; omega)
                      clear far
                      go_wp2_with (go_at_call 81; refine (two40 _).mono ?_; rintro e wx ⟨rfl, rfl⟩)
                      go_ret2
                      exact ⟨_, by rw [hNf]; rfl, fun h => (by rw [hNf] at h; cases h), by go_grown⟩
                    · have t3 : decide (z < -1099511627776) = false := decide_eq_false f2
                      clear far
                      have y6 : IntKind.i64.wrap (2 * z) = 2 * z := Z.i64_in _ (by omega)
                      have y7 : IntKind.i64.wrap (d - r) = d - r := Z.i64_in _ (by omega)
                      have y8 : IntKind.i64.wrap (k - 1) = k - 1 := Z.i64_in _ (by omega)
                      by_cases f3 : d - r ≤ r
                      · have t4 : decide (d - r ≤ r) = true := decide_eq_true f3
                        have y9 : IntKind.i64.wrap (2 * z + 1) = 2 * z + 1 := Z.i64_in _ (by omega)
                        have y10 : IntKind.i64.wrap (r - (d - r)) = r - (d - r) := Z.i64_in _ (by omega)
                        have S7 : Hid (Same m ((2 * z + 1) * d + (r - (d - r))) d (k - 1) R W) := by
                          have e : (2 * z + 1) * d + (r - (d - r)) = 2 * (z * d + r) := by rw [Int.add_mul, Int.mul_assoc]; omega
                          rw [e]; exact ⟨(Z.rndE_dbl m _ d k hgo).trans S6.out.1, (Z.rndE_dbl 0 _ d k hgo).trans S6.out.2⟩
                        go_wp2_with (go_at_call 81; refine (two40 _).mono ?_; rintro e wx ⟨rfl, rfl⟩)
                        exact ⟨⟨_, _, _, rfl, rfl, rfl, by omega, by omega, by omega, S7⟩, by simp only [intOf]; omega⟩
                      · have t4 : decide (d - r ≤ r) = false := decide_eq_false f3
                        have y9 : IntKind.i64.wrap (2 * r) = 2 * r := Z.i64_in _ (by omega)
                        have S7 : Hid (Same m ((2 * z) * d + 2 * r) d (k - 1) R W) := by
                          have e : (2 * z) * d + 2 * r = 2 * (z * d + r) := by rw [Int.mul_assoc]; omega
                          rw [e]; exact ⟨(Z.rndE_dbl m _ d k hgo).trans S6.out.1, (Z.rndE_dbl 0 _ d k hgo).trans S6.out.2⟩
                        go_wp2_with (go_at_call 81; refine (two40 _).mono ?_; rintro e wx ⟨rfl, rfl⟩)
                        exact ⟨⟨_, _, _, rfl, rfl, rfl, by omega, by omega, by omega, S7⟩, by simp only [intOf]; omega⟩
                · have t1 : decide (0 < k) = false := decide_eq_false hgo
                  by_cases hneg : k < 0
                  · obtain ⟨j, hj⟩ := Int.eq_ofNat_of_zero_le (show 0 ≤ -k by omega)
                    have hjb : 1 ≤ j ∧ j ≤ 30 := by omega
                    have hkj : k = -(j : Int) := by omega
                    subst hkj
                    clear hj
                    have P := Z.p2_30 j (by omega)
                    have hev : (2 : Int) ^ j % 2 = 0 := by rw [show j = (j - 1) + 1 by omega, Int.pow_succ]; omega
                    have P2 : 2 ≤ (2 : Int) ^ j := by omega
                    have s := S6.out
                    unfold Same at s
                    rw [Z.rndE_neg, Z.rndE_neg] at s
                    have tw := two_any j (by omega)
                    obtain ⟨u, hu⟩ : ∃ u : Int, (2 : Int) ^ j = u := ⟨_, rfl⟩
                    rw [hu] at s tw P hev P2
                    clear hu
                    have hpd : z / u * u + z % u = z := by have := Int.mul_ediv_add_emod z u; rw [Int.mul_comm]; exact this
                    have hl : 0 ≤ z % u ∧ z % u < u := ⟨Int.emod_nonneg z (by omega), Int.emod_lt_of_pos z (by omega)⟩
                    have hpb := Q.div_bd z u 4611686018427387904 (by omega) hz
                    obtain ⟨p, hp⟩ : ∃ p, z / u = p := ⟨_, rfl⟩
                    obtain ⟨l, hl0⟩ : ∃ l, z % u = l := ⟨_, rfl⟩
                    rw [hp, hl0] at hpd
                    rw [hl0] at hl
                    rw [hp] at hpb
                    clear hl0
                    have y6 : IntKind.i64.wrap (- -(j : Int)) = (j : Int) := Z.i64_in _ (by omega) |>.trans (by omega)
                    have y7 : IntKind.i64.wrap (z - IntKind.i64.wrap (p * u)) = l := by rw [Z.i64_in (p * u) (by omega)]; rw [Z.i64_in _ (by omega)]; omega
                    have y8 : wrap64 (z - wrap64 (p * u)) = l := by unfold wrap64; omega
                    have hWp : W = p := by rw [← s.2, ← hpd, Z.rnd_split2 0 (by omega) (by omega) hr hl]; rfl
                    have hRp : Z.rnd m ((p * u + l) * d + r) (d * u) = R := by rw [hpd]; exact s.1
                    have HRP := Lib.hid hRp
                    have HPD := Lib.hid hpd
                    clear hRp hpd s
                    have t5 : decide (-(j : Int) < 0) = true := decide_eq_true (by omega)
                    have ARM := Lib.hid tw
                    clear tw
                    have HP := Lib.hid hp
                    clear hp
                    by_cases f1 : 1099511627776 < p
                    · have t2 : decide (1099511627776 < p) = true := decide_eq_true f1
                      have hNf : N = false := by rw [hNW.out, hWp]; exact decide_eq_false (by omega)
                      go_wp2_with (first | (go_at_call 81; refine (ARM.out _).mono ?_; rintro e wx ⟨rfl, rfl⟩) | (go_at_call 81; refine (two40 _).mono ?_; rintro e wx ⟨rfl, rfl⟩) | (go_at_call 136; refine (floordiv_any _ _ (by omega) (by omega) _).mono ?_; rintro e wx ⟨rfl, rfl⟩; rw [HP.out]) | (go_at_call 212; refine (rrB_any m hm _ _ _ _ _ (by omega) (by omega) hr ⟨P2, P.2, hev⟩ hl _).mono ?_; rintro e wx ⟨rfl, rfl⟩; rw [HRP.out]))
                      go_ret2
                      exact ⟨_, by rw [hNf]; rfl, fun h => (by rw [hNf] at h; cases h), by go_grown⟩
                    · have t2 : decide (1099511627776 < p) = false := decide_eq_false f1
                      by_cases f2 : p < -1099511627776
                      · have t3 : decide (p < -1099511627776) = true := decide_eq_true f2
                        have hNf : N = false := by rw [hNW.out, hWp]; exact decide_eq_false (by omega)
                        go_wp2_with (first | (go_at_call 81; refine (ARM.out _).mono ?_; rintro e wx ⟨rfl, rfl⟩) | (go_at_call 81; refine (two40 _).mono ?_; rintro e wx ⟨rfl, rfl⟩) | (go_at_call 136; refine (floordiv_any _ _ (by omega) (by omega) _).mono ?_; rintro e wx ⟨rfl, rfl⟩; rw [HP.out]) | (go_at_call 212; refine (rrB_any m hm _ _ _ _ _ (by omega) (by omega) hr ⟨P2, P.2, hev⟩ hl _).mono ?_; rintro e wx ⟨rfl, rfl⟩; rw [HRP.out]))
                        go_ret2
                        exact ⟨_, by rw [hNf]; rfl, fun h => (by rw [hNf] at h; cases h), by go_grown⟩
                      · have t3 : decide (p < -1099511627776) = false := decide_eq_false f2
                        have hNf : N = true := by rw [hNW.out, hWp]; exact decide_eq_true (by omega)
                        go_wp2_with (first | (go_at_call 81; refine (ARM.out _).mono ?_; rintro e wx ⟨rfl, rfl⟩) | (go_at_call 81; refine (two40 _).mono ?_; rintro e wx ⟨rfl, rfl⟩) | (go_at_call 136; refine (floordiv_any _ _ (by omega) (by omega) _).mono ?_; rintro e wx ⟨rfl, rfl⟩; rw [HP.out]) | (go_at_call 212; refine (rrB_any m hm _ _ _ _ _ (by omega) (by omega) hr ⟨P2, P.2, hev⟩ hl _).mono ?_; rintro e wx ⟨rfl, rfl⟩; rw [HRP.out]))
                        go_ret2
                        exact ⟨_, by rw [hNf]; rfl, fun _ => rfl, by go_grown⟩
                  · have hk0 : k = 0 := by omega
                    subst hk0
                    have s := S6.out
                    unfold Same at s
                    have e0 : ∀ q x y, Z.rndE q x y 0 = Z.rnd q x y := fun q x y => by have := Z.rndE_pos q x y 0; simpa using this
                    rw [e0, e0] at s
                    have hWp : W = z := by rw [← s.2, Z.rnd_split 0 (by omega) hr]; rfl
                    have HRP := Lib.hid s.1
                    clear s e0
                    by_cases f1 : 1099511627776 < z
                    · have t2 : decide (1099511627776 < z) = true := decide_eq_true f1
                      have hNf : N = false := by rw [hNW.out, hWp]; exact decide_eq_false (by omega)
                      go_wp2_with (first | (go_at_call 81; refine (two40 _).mono ?_; rintro e wx ⟨rfl, rfl⟩) | (go_at_call 212; refine (rrA_any m hm _ _ _ _ _ (by omega) (by omega) hr rfl rfl _).mono ?_; rintro e wx ⟨rfl, rfl⟩; rw [HRP.out]))
                      go_ret2
                      exact ⟨_, by rw [hNf]; rfl, fun h => (by rw [hNf] at h; cases h), by go_grown⟩
                    · have t2 : decide (1099511627776 < z) = false := decide_eq_false f1
                      by_cases f2 : z < -1099511627776
                      · have t3 : decide (z < -1099511627776) = true := decide_eq_true f2
                        have hNf : N = false := by rw [hNW.out, hWp]; exact decide_eq_false (by omega)
                        go_wp2_with (first | (go_at_call 81; refine (two40 _).mono ?_; rintro e wx ⟨rfl, rfl⟩) | (go_at_call 212; refine (rrA_any m hm _ _ _ _ _ (by omega) (by omega) hr rfl rfl _).mono ?_; rintro e wx ⟨rfl, rfl⟩; rw [HRP.out]))
                        go_ret2
                        exact ⟨_, by rw [hNf]; rfl, fun h => (by rw [hNf] at h; cases h), by go_grown⟩
                      · have t3 : decide (z < -1099511627776) = false := decide_eq_false f2
                        have hNf : N = true := by rw [hNW.out, hWp]; exact decide_eq_true (by omega)
                        go_wp2_with (first | (go_at_call 81; refine (two40 _).mono ?_; rintro e wx ⟨rfl, rfl⟩) | (go_at_call 212; refine (rrA_any m hm _ _ _ _ _ (by omega) (by omega) hr rfl rfl _).mono ?_; rintro e wx ⟨rfl, rfl⟩; rw [HRP.out]))
                        go_ret2
                        exact ⟨_, by rw [hNf]; rfl, fun _ => rfl, by go_grown⟩
            · have t1 : decide (k < 0) = false := decide_eq_false hg1
              clear hgo
              have wq := Z.split_div (w := n / d) (d := d) (r := n % d) (by omega) ⟨Int.emod_nonneg n (by omega), Int.emod_lt_of_pos n (by omega)⟩
              have hwd : n / d * d + n % d = n := by have := Int.mul_ediv_add_emod n d; rw [Int.mul_comm]; exact this
              have hr0 : 0 ≤ n % d ∧ n % d < d := ⟨Int.emod_nonneg n (by omega), Int.emod_lt_of_pos n (by omega)⟩
              have hw0 := Q.div_bd n d 4611686018427387904 (by omega) hn2
              clear wq
              obtain ⟨w0, hw0e⟩ : ∃ w0, n / d = w0 := ⟨_, rfl⟩
              obtain ⟨r0, hr0e⟩ : ∃ r0, n % d = r0 := ⟨_, rfl⟩
              rw [hw0e, hr0e] at hwd
              rw [hr0e] at hr0
              rw [hw0e] at hw0
              clear hr0e
              have S5 : Hid (Same m (w0 * d + r0) d k R W) := by rw [hwd]; exact S3
              have y4 : IntKind.i64.wrap (n - IntKind.i64.wrap (w0 * d)) = r0 := by rw [Z.i64_in (w0 * d) (by omega)]; rw [Z.i64_in _ (by omega)]; omega
              have y5 : wrap64 (n - wrap64 (w0 * d)) = r0 := by unfold wrap64; omega
              have HWD := Lib.hid hwd
              clear hwd S3
              go_wp2_with (go_at_call 136; refine (floordiv_any _ _ (by omega) (by omega) _).mono ?_; rintro e wx ⟨rfl, rfl⟩)
              (try rw [y5])
              go_loop [2, 10, 11] (fun s2 s10 s11 => ∃ k z r : Int, s2 = .int .i64 k ∧ s10 = .int .i64 z ∧ s11 = .int .i64 r ∧ (-30 ≤ k ∧ k ≤ 30) ∧ (-4611686018427387904 ≤ z ∧ z ≤ 4611686018427387904) ∧ (0 ≤ r ∧ r < d) ∧ Hid (Same m (z * d + r) d k R W)) (fun s2 _ _ => (intOf s2).toNat)
              case atStart => exact ⟨_, _, _, rfl, rfl, rfl, hk2, by omega, hr0, S5⟩
              case round =>
                obtain ⟨k, z, r, rfl, rfl, rfl, hk3, hz, hr, S6⟩ := hrel
                clear S5 hk2 y4 y5 hw0e hw0 hr0 HWD
                (try clear t1)
                (try clear t2)
                (try clear hg1)
                by_cases hgo : 0 < k
                · have t1 : decide (0 < k) = true := decide_eq_true hgo
                  have far := Z.rndE_far (w := z) (d := d) (r := r) (k := k) (by omega) hr (by omega)
                  rw [S6.out.2] at far
                  by_cases f1 : 1099511627776 < z
                  · have t2 : decide (1099511627776 < z) = true := decide_eq_true f1
                    have hNf : N = false := by rw [hNW.out]; exact decide_eq_false (by have := far.1 f1; omega)
                    clear far
                    go_wp2_with (go_at_call 81; refine (two40 _).mono ?_; rintro e wx ⟨rfl, rfl⟩)
                    go_ret2
                    exact ⟨_, by rw [hNf]; rfl, fun h => (by rw [hNf] at h; cases h), by go_grown⟩
                  · have t2 : decide (1099511627776 < z) = false := decide_eq_false f1
                    by_cases f2 : z < -1099511627776
                    · have t3 : decide (z < -1099511627776) = true := decide_eq_true f2
                      have hNf : N = false := by rw [hNW.out]; exact decide_eq_false (by have := far.2 f2; omega)
                      clear far
                      go_wp2_with (go_at_call 81; refine (two40 _).mono ?_; rintro e wx ⟨rfl, rfl⟩)
                      go_ret2
                      exact ⟨_, by rw [hNf]; rfl, fun h => (by rw [hNf] at h; cases h), by go_grown⟩
                    · have t3 : decide (z < -1099511627776) = false := decide_eq_false f2
                      clear far
                      have y6 : IntKind.i64.wrap (2 * z) = 2 * z := Z.i64_in _ (by omega)
                      have y7 : IntKind.i64.wrap (d - r) = d - r := Z.i64_in _ (by omega)
                      have y8 : IntKind.i64.wrap (k - 1) = k - 1 := Z.i64_in _ (by omega)
                      by_cases f3 : d - r ≤ r
                      · have t4 : decide (d - r ≤ r) = true := decide_eq_true f3
                        have y9 : IntKind.i64.wrap (2 * z + 1) = 2 * z + 1 := Z.i64_in _ (by omega)
                        have y10 : IntKind.i64.wrap (r - (d - r)) = r - (d - r) := Z.i64_in _ (by omega)
                        have S7 : Hid (Same m ((2 * z + 1) * d + (r - (d - r))) d (k - 1) R W) := by
                          have e : (2 * z + 1) * d + (r - (d - r)) = 2 * (z * d + r) := by rw [Int.add_mul, Int.mul_assoc]; omega
                          rw [e]; exact ⟨(Z.rndE_dbl m _ d k hgo).trans S6.out.1, (Z.rndE_dbl 0 _ d k hgo).trans S6.out.2⟩
                        go_wp2_with (go_at_call 81; refine (two40 _).mono ?_; rintro e wx ⟨rfl, rfl⟩)
                        exact ⟨⟨_, _, _, rfl, rfl, rfl, by omega, by omega, by omega, S7⟩, by simp only [intOf]; omega⟩
                      · have t4 : decide (d - r ≤ r) = false := decide_eq_false f3
                        have y9 : IntKind.i64.wrap (2 * r) = 2 * r := Z.i64_in _ (by omega)
                        have S7 : Hid (Same m ((2 * z) * d + 2 * r) d (k - 1) R W) := by
                          have e : (2 * z) * d + 2 * r = 2 * (z * d + r) := by rw [Int.mul_assoc]; omega
                          rw [e]; exact ⟨(Z.rndE_dbl m _ d k hgo).trans S6.out.1, (Z.rndE_dbl 0 _ d k hgo).trans S6.out.2⟩
                        go_wp2_with (go_at_call 81; refine (two40 _).mono ?_; rintro e wx ⟨rfl, rfl⟩)
                        exact ⟨⟨_, _, _, rfl, rfl, rfl, by omega, by omega, by omega, S7⟩, by simp only [intOf]; omega⟩
                · have t1 : decide (0 < k) = false := decide_eq_false hgo
                  by_cases hneg : k < 0
                  · obtain ⟨j, hj⟩ := Int.eq_ofNat_of_zero_le (show 0 ≤ -k by omega)
                    have hjb : 1 ≤ j ∧ j ≤ 30 := by omega
                    have hkj : k = -(j : Int) := by omega
                    subst hkj
                    clear hj
                    have P := Z.p2_30 j (by omega)
                    have hev : (2 : Int) ^ j % 2 = 0 := by rw [show j = (j - 1) + 1 by omega, Int.pow_succ]; omega
                    have P2 : 2 ≤ (2 : Int) ^ j := by omega
                    have s := S6.out
                    unfold Same at s
                    rw [Z.rndE_neg, Z.rndE_neg] at s
                    have tw := two_any j (by omega)
                    obtain ⟨u, hu⟩ : ∃ u : Int, (2 : Int) ^ j = u := ⟨_, rfl⟩
                    rw [hu] at s tw P hev P2
                    clear hu
                    have hpd : z / u * u + z % u = z := by have := Int.mul_ediv_add_emod z u; rw [Int.mul_comm]; exact this
                    have hl : 0 ≤ z % u ∧ z % u < u := ⟨Int.emod_nonneg z (by omega), Int.emod_lt_of_pos z (by omega)⟩
                    have hpb := Q.div_bd z u 4611686018427387904 (by omega) hz
                    obtain ⟨p, hp⟩ : ∃ p, z / u = p := ⟨_, rfl⟩
                    obtain ⟨l, hl0⟩ : ∃ l, z % u = l := ⟨_, rfl⟩
                    rw [hp, hl0] at hpd
                    rw [hl0] at hl
                    rw [hp] at hpb
                    clear hl0
                    have y6 : IntKind.i64.wrap (- -(j : Int)) = (j : Int) := Z.i64_in _ (by omega) |>.trans (by omega)
                    have y7 : IntKind.i64.wrap (z - IntKind.i64.wrap (p * u)) = l := by rw [Z.i64_in (p * u) (by omega)]; rw [Z.i64_in _ (by omega)]; omega
                    have y8 : wrap64 (z - wrap64 (p * u)) = l := by unfold wrap64; omega
                    have hWp : W = p := by rw [← s.2, ← hpd, Z.rnd_split2 0 (by omega) (by omega) hr hl]; rfl
                    have hRp : Z.rnd m ((p * u + l) * d + r) (d * u) = R := by rw [hpd]; exact s.1
                    have HRP := Lib.hid hRp
                    have HPD := Lib.hid hpd
                    clear hRp hpd s
                    have t5 : decide (-(j : Int) < 0) = true := decide_eq_true (by omega)
                    have ARM := Lib.hid tw
                    clear tw
                    have HP := Lib.hid hp
                    clear hp
                    by_cases f1 : 1099511627776 < p
                    · have t2 : decide (1099511627776 < p) = true := decide_eq_true f1
                      have hNf : N = false := by rw [hNW.out, hWp]; exact decide_eq_false (by omega)
                      go_wp2_with (first | (go_at_call 81; refine (ARM.out _).mono ?_; rintro e wx ⟨rfl, rfl⟩) | (go_at_call 81; refine (two40 _).mono ?_; rintro e wx ⟨rfl, rfl⟩) | (go_at_call 136; refine (floordiv_any _ _ (by omega) (by omega) _).mono ?_; rintro e wx ⟨rfl, rfl⟩; rw [HP.out]) | (go_at_call 212; refine (rrB_any m hm _ _ _ _ _ (by omega) (by omega) hr ⟨P2, P.2, hev⟩ hl _).mono ?_; rintro e wx ⟨rfl, rfl⟩; rw [HRP.out]))
                      go_ret2
                      exact ⟨_, by rw [hNf]; rfl, fun h => (by rw [hNf] at h; cases h), by go_grown⟩
                    · have t2 : decide (1099511627776 < p) = false := decide_eq_false f1
                      by_cases f2 : p < -1099511627776
                      · have t3 : decide (p < -1099511627776) = true := decide_eq_true f2
                        have hNf : N = false := by rw [hNW.out, hWp]; exact decide_eq_false (by omega)
                        go_wp2_with (first | (go_at_call 81; refine (ARM.out _).mono ?_; rintro e wx ⟨rfl, rfl⟩) | (go_at_call 81; refine (two40 _).mono ?_; rintro e wx ⟨rfl, rfl⟩) | (go_at_call 136; refine (floordiv_any _ _ (by omega) (by omega) _).mono ?_; rintro e wx ⟨rfl, rfl⟩; rw [HP.out]) | (go_at_call 212; refine (rrB_any m hm _ _ _ _ _ (by omega) (by omega) hr ⟨P2, P.2, hev⟩ hl _).mono ?_; rintro e wx ⟨rfl, rfl⟩; rw [HRP.out]))
                        go_ret2
                        exact ⟨_, by rw [hNf]; rfl, fun h => (by rw [hNf] at h; cases h), by go_grown⟩
                      · have t3 : decide (p < -1099511627776) = false := decide_eq_false f2
                        have hNf : N = true := by rw [hNW.out, hWp]; exact decide_eq_true (by omega)
                        go_wp2_with (first | (go_at_call 81; refine (ARM.out _).mono ?_; rintro e wx ⟨rfl, rfl⟩) | (go_at_call 81; refine (two40 _).mono ?_; rintro e wx ⟨rfl, rfl⟩) | (go_at_call 136; refine (floordiv_any _ _ (by omega) (by omega) _).mono ?_; rintro e wx ⟨rfl, rfl⟩; rw [HP.out]) | (go_at_call 212; refine (rrB_any m hm _ _ _ _ _ (by omega) (by omega) hr ⟨P2, P.2, hev⟩ hl _).mono ?_; rintro e wx ⟨rfl, rfl⟩; rw [HRP.out]))
                        go_ret2
                        exact ⟨_, by rw [hNf]; rfl, fun _ => rfl, by go_grown⟩
                  · have hk0 : k = 0 := by omega
                    subst hk0
                    have s := S6.out
                    unfold Same at s
                    have e0 : ∀ q x y, Z.rndE q x y 0 = Z.rnd q x y := fun q x y => by have := Z.rndE_pos q x y 0; simpa using this
                    rw [e0, e0] at s
                    have hWp : W = z := by rw [← s.2, Z.rnd_split 0 (by omega) hr]; rfl
                    have HRP := Lib.hid s.1
                    clear s e0
                    by_cases f1 : 1099511627776 < z
                    · have t2 : decide (1099511627776 < z) = true := decide_eq_true f1
                      have hNf : N = false := by rw [hNW.out, hWp]; exact decide_eq_false (by omega)
                      go_wp2_with (first | (go_at_call 81; refine (two40 _).mono ?_; rintro e wx ⟨rfl, rfl⟩) | (go_at_call 212; refine (rrA_any m hm _ _ _ _ _ (by omega) (by omega) hr rfl rfl _).mono ?_; rintro e wx ⟨rfl, rfl⟩; rw [HRP.out]))
                      go_ret2
                      exact ⟨_, by rw [hNf]; rfl, fun h => (by rw [hNf] at h; cases h), by go_grown⟩
                    · have t2 : decide (1099511627776 < z) = false := decide_eq_false f1
                      by_cases f2 : z < -1099511627776
                      · have t3 : decide (z < -1099511627776) = true := decide_eq_true f2
                        have hNf : N = false := by rw [hNW.out, hWp]; exact decide_eq_false (by omega)
                        go_wp2_with (first | (go_at_call 81; refine (two40 _).mono ?_; rintro e wx ⟨rfl, rfl⟩) | (go_at_call 212; refine (rrA_any m hm _ _ _ _ _ (by omega) (by omega) hr rfl rfl _).mono ?_; rintro e wx ⟨rfl, rfl⟩; rw [HRP.out]))
                        go_ret2
                        exact ⟨_, by rw [hNf]; rfl, fun h => (by rw [hNf] at h; cases h), by go_grown⟩
                      · have t3 : decide (z < -1099511627776) = false := decide_eq_false f2
                        have hNf : N = true := by rw [hNW.out, hWp]; exact decide_eq_true (by omega)
                        go_wp2_with (first | (go_at_call 81; refine (two40 _).mono ?_; rintro e wx ⟨rfl, rfl⟩) | (go_at_call 212; refine (rrA_any m hm _ _ _ _ _ (by omega) (by omega) hr rfl rfl _).mono ?_; rintro e wx ⟨rfl, rfl⟩; rw [HRP.out]))
                        go_ret2
                        exact ⟨_, by rw [hNf]; rfl, fun _ => rfl, by go_grown⟩
end Go.Proofs.YtnidbhfpkjggmaaGreatDoor
