/-
  The specification's rounding: what a call gives.
-/
import Derived.Test.YtmadhpbdianddaaDoorZf
import Derived.Test.YtmadhpbdianddaaDoorZl
import Derived.Test.YtmadhpbdianddaaDoorZo
namespace Go.Proofs.YtmadhpbdianddaaDoor
open Go.RowKit
/-- The names of the specification's ways of rounding. -/
def rnmR (m : Nat) : ByteArray := if m = 0 then ⟨#[102, 108, 111, 111, 114]⟩ else if m = 1 then ⟨#[110, 101, 97, 114]⟩ else if m = 2 then ⟨#[122, 101, 114, 111]⟩ else ⟨#[117, 112]⟩
namespace Z
theorem split_div {w d r : Int} (hd : 0 < d) (hr : 0 ≤ r ∧ r < d) : (w * d + r) / d = w ∧ (w * d + r) % d = r :=
  (Int.ediv_emod_unique hd).2 ⟨by rw [Int.mul_comm d w]; omega, hr⟩
theorem split_neg {w d r : Int} (hd : 0 < d) (hr : 0 ≤ r ∧ r < d) : w * d + r < 0 ↔ w < 0 := by
  constructor
  · intro h; apply Classical.byContradiction; intro hc
    have := Int.mul_nonneg (show 0 ≤ w by omega) (show 0 ≤ d by omega); omega
  · intro h
    have : (w + 1) * d ≤ 0 * d := Int.mul_le_mul_of_nonneg_right (by omega) (by omega)
    rw [Int.add_mul] at this; omega
theorem rnd_split (m : Nat) {w d r : Int} (hd : 0 < d) (hr : 0 ≤ r ∧ r < d) : rnd m (w * d + r) d = if m = 1 then (if d < 2 * r ∨ (2 * r = d ∧ w % 2 ≠ 0) then w + 1 else w) else if m = 2 then (if w < 0 ∧ r ≠ 0 then w + 1 else w) else if m = 3 then (if r ≠ 0 then w + 1 else w) else w := by
  obtain ⟨e1, e2⟩ := split_div (w := w) hd hr
  unfold rnd
  rw [e1, e2]
  simp only [split_neg hd hr]
theorem low_bd {u l d r : Int} (hd : 0 < d) (hr : 0 ≤ r ∧ r < d) (hl : 0 ≤ l ∧ l < u) : 0 ≤ l * d + r ∧ l * d + r < u * d := by
  have h1 := Int.mul_nonneg hl.1 (show 0 ≤ d by omega)
  have h2 : (l + 1) * d ≤ u * d := Int.mul_le_mul_of_nonneg_right (by omega) (by omega)
  rw [Int.add_mul] at h2
  omega
theorem rnd_split2 (m : Nat) {w u l d r : Int} (hd : 0 < d) (hu : 0 < u) (hr : 0 ≤ r ∧ r < d) (hl : 0 ≤ l ∧ l < u) : rnd m ((w * u + l) * d + r) (d * u) = if m = 1 then (if u * d < 2 * (l * d + r) ∨ (2 * (l * d + r) = u * d ∧ w % 2 ≠ 0) then w + 1 else w) else if m = 2 then (if w < 0 ∧ l * d + r ≠ 0 then w + 1 else w) else if m = 3 then (if l * d + r ≠ 0 then w + 1 else w) else w := by
  have hb := low_bd hd hr hl
  have e : (w * u + l) * d + r = w * (u * d) + (l * d + r) := by rw [Int.add_mul, Int.mul_assoc]; omega
  rw [e, Int.mul_comm d u]
  exact rnd_split m (Int.mul_pos hu hd) hb
theorem tmod_two (w : Int) : w.tmod 2 = 0 ↔ w % 2 = 0 := by
  have h1 := Int.mul_tdiv_add_tmod w 2
  have h2 := Q.tmod_lt w 2 (by decide)
  omega
theorem low_cases {u l d r : Int} (hd : 0 < d) (hr : 0 ≤ r ∧ r < d) : (l * 2 > u → u * d < 2 * (l * d + r)) ∧ (l * 2 = u → 2 * (l * d + r) = u * d + 2 * r) ∧ (l * 2 ≤ u - 2 → 2 * (l * d + r) < u * d) ∧ (0 < l → 0 < l * d + r) ∧ (l = 0 → l * d + r = r) := by
  refine ⟨fun h => ?_, fun h => ?_, fun h => ?_, fun h => ?_, fun h => by rw [h, Int.zero_mul, Int.zero_add]⟩
  · have : (u + 1) * d ≤ (l * 2) * d := Int.mul_le_mul_of_nonneg_right (by omega) (by omega)
    rw [Int.add_mul, Int.mul_right_comm l 2 d] at this; omega
  · rw [← h, Int.mul_right_comm l 2 d]; omega
  · have : (l * 2) * d ≤ (u - 2) * d := Int.mul_le_mul_of_nonneg_right (by omega) (by omega)
    rw [Int.sub_mul, Int.mul_right_comm l 2 d] at this; omega
  · have := Int.mul_pos h hd; omega
end Z
set_option maxRecDepth 100000 in
set_option maxHeartbeats 400000 in
theorem rrA_floor_s (w0 lo un re d : Int) (hw : -2305843009213693952 ≤ w0 ∧ w0 ≤ 2305843009213693952) (hd : 1 ≤ d ∧ d ≤ 2305843009213693952) (hr : 0 ≤ re ∧ re < d) (hu : un = 1) (hl : lo = 0) (h0 : 0 < re) (w : World) :
    Calls Tryd.prog 112 #[.string ⟨#[102, 108, 111, 111, 114]⟩, .int .i64 w0, .int .i64 lo, .int .i64 un, .int .i64 re, .int .i64 d] w fun e w' => e = .returned (.int .i64 (w0)) ∧ w = w' := by
  have t34666 : decide (0 < re) = true := decide_eq_true (by omega)
  subst hu hl
  go_enter Tryd.func112, Tryd.ntmps112
  go_wp2
  go_ret
  exact ⟨rfl, rfl⟩

set_option maxRecDepth 100000 in
set_option maxHeartbeats 400000 in
theorem rrA_floor_n (w0 lo un re d : Int) (hw : -2305843009213693952 ≤ w0 ∧ w0 ≤ 2305843009213693952) (hd : 1 ≤ d ∧ d ≤ 2305843009213693952) (hr : 0 ≤ re ∧ re < d) (hu : un = 1) (hl : lo = 0) (h0 : re = 0) (w : World) :
    Calls Tryd.prog 112 #[.string ⟨#[102, 108, 111, 111, 114]⟩, .int .i64 w0, .int .i64 lo, .int .i64 un, .int .i64 re, .int .i64 d] w fun e w' => e = .returned (.int .i64 (w0)) ∧ w = w' := by
  have t34666 : decide (0 < re) = false := decide_eq_false (by omega)
  subst hu hl
  go_enter Tryd.func112, Tryd.ntmps112
  go_wp2
  go_ret
  exact ⟨rfl, rfl⟩

set_option maxRecDepth 100000 in
set_option maxHeartbeats 400000 in
theorem rrA_up_s (w0 lo un re d : Int) (hw : -2305843009213693952 ≤ w0 ∧ w0 ≤ 2305843009213693952) (hd : 1 ≤ d ∧ d ≤ 2305843009213693952) (hr : 0 ≤ re ∧ re < d) (hu : un = 1) (hl : lo = 0) (h0 : 0 < re) (w : World) :
    Calls Tryd.prog 112 #[.string ⟨#[117, 112]⟩, .int .i64 w0, .int .i64 lo, .int .i64 un, .int .i64 re, .int .i64 d] w fun e w' => e = .returned (.int .i64 (w0 + 1)) ∧ w = w' := by
  have t34666 : decide (0 < re) = true := decide_eq_true (by omega)
  subst hu hl
  go_enter Tryd.func112, Tryd.ntmps112
  go_wp2
  go_ret
  exact ⟨rfl, rfl⟩

set_option maxRecDepth 100000 in
set_option maxHeartbeats 400000 in
theorem rrA_up_n (w0 lo un re d : Int) (hw : -2305843009213693952 ≤ w0 ∧ w0 ≤ 2305843009213693952) (hd : 1 ≤ d ∧ d ≤ 2305843009213693952) (hr : 0 ≤ re ∧ re < d) (hu : un = 1) (hl : lo = 0) (h0 : re = 0) (w : World) :
    Calls Tryd.prog 112 #[.string ⟨#[117, 112]⟩, .int .i64 w0, .int .i64 lo, .int .i64 un, .int .i64 re, .int .i64 d] w fun e w' => e = .returned (.int .i64 (w0)) ∧ w = w' := by
  have t34666 : decide (0 < re) = false := decide_eq_false (by omega)
  subst hu hl
  go_enter Tryd.func112, Tryd.ntmps112
  go_wp2
  go_ret
  exact ⟨rfl, rfl⟩

set_option maxRecDepth 100000 in
set_option maxHeartbeats 400000 in
theorem rrA_zero_sneg (w0 lo un re d : Int) (hw : -2305843009213693952 ≤ w0 ∧ w0 ≤ 2305843009213693952) (hd : 1 ≤ d ∧ d ≤ 2305843009213693952) (hr : 0 ≤ re ∧ re < d) (hu : un = 1) (hl : lo = 0) (h0 : 0 < re) (h1 : w0 < 0) (w : World) :
    Calls Tryd.prog 112 #[.string ⟨#[122, 101, 114, 111]⟩, .int .i64 w0, .int .i64 lo, .int .i64 un, .int .i64 re, .int .i64 d] w fun e w' => e = .returned (.int .i64 (w0 + 1)) ∧ w = w' := by
  have t34666 : decide (0 < re) = true := decide_eq_true (by omega)
  have t9488 : decide (w0 < 0) = true := decide_eq_true (by omega)
  subst hu hl
  go_enter Tryd.func112, Tryd.ntmps112
  go_wp2
  go_ret
  exact ⟨rfl, rfl⟩

set_option maxRecDepth 100000 in
set_option maxHeartbeats 400000 in
theorem rrA_zero_spos (w0 lo un re d : Int) (hw : -2305843009213693952 ≤ w0 ∧ w0 ≤ 2305843009213693952) (hd : 1 ≤ d ∧ d ≤ 2305843009213693952) (hr : 0 ≤ re ∧ re < d) (hu : un = 1) (hl : lo = 0) (h0 : 0 < re) (h1 : 0 ≤ w0) (w : World) :
    Calls Tryd.prog 112 #[.string ⟨#[122, 101, 114, 111]⟩, .int .i64 w0, .int .i64 lo, .int .i64 un, .int .i64 re, .int .i64 d] w fun e w' => e = .returned (.int .i64 (w0)) ∧ w = w' := by
  have t34666 : decide (0 < re) = true := decide_eq_true (by omega)
  have t9488 : decide (w0 < 0) = false := decide_eq_false (by omega)
  subst hu hl
  go_enter Tryd.func112, Tryd.ntmps112
  go_wp2
  go_ret
  exact ⟨rfl, rfl⟩

set_option maxRecDepth 100000 in
set_option maxHeartbeats 400000 in
theorem rrA_zero_nneg (w0 lo un re d : Int) (hw : -2305843009213693952 ≤ w0 ∧ w0 ≤ 2305843009213693952) (hd : 1 ≤ d ∧ d ≤ 2305843009213693952) (hr : 0 ≤ re ∧ re < d) (hu : un = 1) (hl : lo = 0) (h0 : re = 0) (h1 : w0 < 0) (w : World) :
    Calls Tryd.prog 112 #[.string ⟨#[122, 101, 114, 111]⟩, .int .i64 w0, .int .i64 lo, .int .i64 un, .int .i64 re, .int .i64 d] w fun e w' => e = .returned (.int .i64 (w0)) ∧ w = w' := by
  have t34666 : decide (0 < re) = false := decide_eq_false (by omega)
  have t9488 : decide (w0 < 0) = true := decide_eq_true (by omega)
  subst hu hl
  go_enter Tryd.func112, Tryd.ntmps112
  go_wp2
  go_ret
  exact ⟨rfl, rfl⟩

set_option maxRecDepth 100000 in
set_option maxHeartbeats 400000 in
theorem rrA_zero_npos (w0 lo un re d : Int) (hw : -2305843009213693952 ≤ w0 ∧ w0 ≤ 2305843009213693952) (hd : 1 ≤ d ∧ d ≤ 2305843009213693952) (hr : 0 ≤ re ∧ re < d) (hu : un = 1) (hl : lo = 0) (h0 : re = 0) (h1 : 0 ≤ w0) (w : World) :
    Calls Tryd.prog 112 #[.string ⟨#[122, 101, 114, 111]⟩, .int .i64 w0, .int .i64 lo, .int .i64 un, .int .i64 re, .int .i64 d] w fun e w' => e = .returned (.int .i64 (w0)) ∧ w = w' := by
  have t34666 : decide (0 < re) = false := decide_eq_false (by omega)
  have t9488 : decide (w0 < 0) = false := decide_eq_false (by omega)
  subst hu hl
  go_enter Tryd.func112, Tryd.ntmps112
  go_wp2
  go_ret
  exact ⟨rfl, rfl⟩

set_option maxRecDepth 100000 in
set_option maxHeartbeats 400000 in
theorem rrA_near_over (w0 lo un re d : Int) (hw : -2305843009213693952 ≤ w0 ∧ w0 ≤ 2305843009213693952) (hd : 1 ≤ d ∧ d ≤ 2305843009213693952) (hr : 0 ≤ re ∧ re < d) (hu : un = 1) (hl : lo = 0) (h0 : d < 2 * re) (w : World) :
    Calls Tryd.prog 112 #[.string ⟨#[110, 101, 97, 114]⟩, .int .i64 w0, .int .i64 lo, .int .i64 un, .int .i64 re, .int .i64 d] w fun e w' => e = .returned (.int .i64 (w0 + 1)) ∧ w = w' := by
  have y1 : IntKind.i64.wrap (d - re) = d - re := Z.i64_in _ (by omega)
  have t34666 : decide (0 < re) = true := decide_eq_true (by omega)
  have t49706 : decide (d - re < re) = true := decide_eq_true (by omega)
  have t7564 : (re == d - re) = false := by rw [beq_eq_false_iff_ne]; omega
  subst hu hl
  go_enter Tryd.func112, Tryd.ntmps112
  go_wp2
  go_ret
  exact ⟨rfl, rfl⟩

set_option maxRecDepth 100000 in
set_option maxHeartbeats 400000 in
theorem rrA_near_odd (w0 lo un re d : Int) (hw : -2305843009213693952 ≤ w0 ∧ w0 ≤ 2305843009213693952) (hd : 1 ≤ d ∧ d ≤ 2305843009213693952) (hr : 0 ≤ re ∧ re < d) (hu : un = 1) (hl : lo = 0) (h0 : 2 * re = d) (h1 : w0 % 2 ≠ 0) (w : World) :
    Calls Tryd.prog 112 #[.string ⟨#[110, 101, 97, 114]⟩, .int .i64 w0, .int .i64 lo, .int .i64 un, .int .i64 re, .int .i64 d] w fun e w' => e = .returned (.int .i64 (w0 + 1)) ∧ w = w' := by
  have y1 : IntKind.i64.wrap (d - re) = d - re := Z.i64_in _ (by omega)
  have t34666 : decide (0 < re) = true := decide_eq_true (by omega)
  have t49706 : decide (d - re < re) = false := decide_eq_false (by omega)
  have t7564 : (re == d - re) = true := by rw [beq_iff_eq]; omega
  have y2 : (w0.tmod 2 != 0) = true := by rw [bne_iff_ne, Ne, Z.tmod_two]; omega
  subst hu hl
  go_enter Tryd.func112, Tryd.ntmps112
  go_wp2
  go_ret
  exact ⟨rfl, rfl⟩

set_option maxRecDepth 100000 in
set_option maxHeartbeats 400000 in
theorem rrA_near_even (w0 lo un re d : Int) (hw : -2305843009213693952 ≤ w0 ∧ w0 ≤ 2305843009213693952) (hd : 1 ≤ d ∧ d ≤ 2305843009213693952) (hr : 0 ≤ re ∧ re < d) (hu : un = 1) (hl : lo = 0) (h0 : 2 * re = d) (h1 : w0 % 2 = 0) (w : World) :
    Calls Tryd.prog 112 #[.string ⟨#[110, 101, 97, 114]⟩, .int .i64 w0, .int .i64 lo, .int .i64 un, .int .i64 re, .int .i64 d] w fun e w' => e = .returned (.int .i64 (w0)) ∧ w = w' := by
  have y1 : IntKind.i64.wrap (d - re) = d - re := Z.i64_in _ (by omega)
  have t34666 : decide (0 < re) = true := decide_eq_true (by omega)
  have t49706 : decide (d - re < re) = false := decide_eq_false (by omega)
  have t7564 : (re == d - re) = true := by rw [beq_iff_eq]; omega
  have y2 : (w0.tmod 2 != 0) = false := by rw [bne_eq_false_iff_eq, Z.tmod_two]; omega
  subst hu hl
  go_enter Tryd.func112, Tryd.ntmps112
  go_wp2
  go_ret
  exact ⟨rfl, rfl⟩

set_option maxRecDepth 100000 in
set_option maxHeartbeats 400000 in
theorem rrA_near_lesss (w0 lo un re d : Int) (hw : -2305843009213693952 ≤ w0 ∧ w0 ≤ 2305843009213693952) (hd : 1 ≤ d ∧ d ≤ 2305843009213693952) (hr : 0 ≤ re ∧ re < d) (hu : un = 1) (hl : lo = 0) (h0 : 2 * re < d) (h1 : 0 < re) (w : World) :
    Calls Tryd.prog 112 #[.string ⟨#[110, 101, 97, 114]⟩, .int .i64 w0, .int .i64 lo, .int .i64 un, .int .i64 re, .int .i64 d] w fun e w' => e = .returned (.int .i64 (w0)) ∧ w = w' := by
  have y1 : IntKind.i64.wrap (d - re) = d - re := Z.i64_in _ (by omega)
  have t34666 : decide (0 < re) = true := decide_eq_true (by omega)
  have t49706 : decide (d - re < re) = false := decide_eq_false (by omega)
  have t7564 : (re == d - re) = false := by rw [beq_eq_false_iff_ne]; omega
  subst hu hl
  go_enter Tryd.func112, Tryd.ntmps112
  go_wp2
  go_ret
  exact ⟨rfl, rfl⟩

set_option maxRecDepth 100000 in
set_option maxHeartbeats 400000 in
theorem rrA_near_lessn (w0 lo un re d : Int) (hw : -2305843009213693952 ≤ w0 ∧ w0 ≤ 2305843009213693952) (hd : 1 ≤ d ∧ d ≤ 2305843009213693952) (hr : 0 ≤ re ∧ re < d) (hu : un = 1) (hl : lo = 0) (h0 : re = 0) (w : World) :
    Calls Tryd.prog 112 #[.string ⟨#[110, 101, 97, 114]⟩, .int .i64 w0, .int .i64 lo, .int .i64 un, .int .i64 re, .int .i64 d] w fun e w' => e = .returned (.int .i64 (w0)) ∧ w = w' := by
  have y1 : IntKind.i64.wrap (d - re) = d - re := Z.i64_in _ (by omega)
  have t34666 : decide (0 < re) = false := decide_eq_false (by omega)
  have t49706 : decide (d - re < re) = false := decide_eq_false (by omega)
  have t7564 : (re == d - re) = false := by rw [beq_eq_false_iff_ne]; omega
  subst hu hl
  go_enter Tryd.func112, Tryd.ntmps112
  go_wp2
  go_ret
  exact ⟨rfl, rfl⟩

set_option maxRecDepth 100000 in
set_option maxHeartbeats 400000 in
theorem rrB_floor_l (w0 lo un re d : Int) (hw : -2305843009213693952 ≤ w0 ∧ w0 ≤ 2305843009213693952) (hd : 1 ≤ d ∧ d ≤ 2305843009213693952) (hr : 0 ≤ re ∧ re < d) (hu : 2 ≤ un ∧ un ≤ 1073741824) (hl : 0 ≤ lo ∧ lo < un) (h0 : 0 < lo) (w : World) :
    Calls Tryd.prog 112 #[.string ⟨#[102, 108, 111, 111, 114]⟩, .int .i64 w0, .int .i64 lo, .int .i64 un, .int .i64 re, .int .i64 d] w fun e w' => e = .returned (.int .i64 (w0)) ∧ w = w' := by
  have t21463 : decide (0 < lo) = true := decide_eq_true (by omega)
  go_enter Tryd.func112, Tryd.ntmps112
  go_wp2
  go_ret
  exact ⟨rfl, rfl⟩

set_option maxRecDepth 100000 in
set_option maxHeartbeats 400000 in
theorem rrB_floor_r (w0 lo un re d : Int) (hw : -2305843009213693952 ≤ w0 ∧ w0 ≤ 2305843009213693952) (hd : 1 ≤ d ∧ d ≤ 2305843009213693952) (hr : 0 ≤ re ∧ re < d) (hu : 2 ≤ un ∧ un ≤ 1073741824) (hl : 0 ≤ lo ∧ lo < un) (h0 : lo = 0) (h1 : 0 < re) (w : World) :
    Calls Tryd.prog 112 #[.string ⟨#[102, 108, 111, 111, 114]⟩, .int .i64 w0, .int .i64 lo, .int .i64 un, .int .i64 re, .int .i64 d] w fun e w' => e = .returned (.int .i64 (w0)) ∧ w = w' := by
  have t21463 : decide (0 < lo) = false := decide_eq_false (by omega)
  have t34666 : decide (0 < re) = true := decide_eq_true (by omega)
  go_enter Tryd.func112, Tryd.ntmps112
  go_wp2
  go_ret
  exact ⟨rfl, rfl⟩

set_option maxRecDepth 100000 in
set_option maxHeartbeats 400000 in
theorem rrB_floor_n (w0 lo un re d : Int) (hw : -2305843009213693952 ≤ w0 ∧ w0 ≤ 2305843009213693952) (hd : 1 ≤ d ∧ d ≤ 2305843009213693952) (hr : 0 ≤ re ∧ re < d) (hu : 2 ≤ un ∧ un ≤ 1073741824) (hl : 0 ≤ lo ∧ lo < un) (h0 : lo = 0) (h1 : re = 0) (w : World) :
    Calls Tryd.prog 112 #[.string ⟨#[102, 108, 111, 111, 114]⟩, .int .i64 w0, .int .i64 lo, .int .i64 un, .int .i64 re, .int .i64 d] w fun e w' => e = .returned (.int .i64 (w0)) ∧ w = w' := by
  have t21463 : decide (0 < lo) = false := decide_eq_false (by omega)
  have t34666 : decide (0 < re) = false := decide_eq_false (by omega)
  go_enter Tryd.func112, Tryd.ntmps112
  go_wp2
  go_ret
  exact ⟨rfl, rfl⟩

set_option maxRecDepth 100000 in
set_option maxHeartbeats 400000 in
theorem rrB_up_l (w0 lo un re d : Int) (hw : -2305843009213693952 ≤ w0 ∧ w0 ≤ 2305843009213693952) (hd : 1 ≤ d ∧ d ≤ 2305843009213693952) (hr : 0 ≤ re ∧ re < d) (hu : 2 ≤ un ∧ un ≤ 1073741824) (hl : 0 ≤ lo ∧ lo < un) (h0 : 0 < lo) (w : World) :
    Calls Tryd.prog 112 #[.string ⟨#[117, 112]⟩, .int .i64 w0, .int .i64 lo, .int .i64 un, .int .i64 re, .int .i64 d] w fun e w' => e = .returned (.int .i64 (w0 + 1)) ∧ w = w' := by
  have t21463 : decide (0 < lo) = true := decide_eq_true (by omega)
  go_enter Tryd.func112, Tryd.ntmps112
  go_wp2
  go_ret
  exact ⟨rfl, rfl⟩

set_option maxRecDepth 100000 in
set_option maxHeartbeats 400000 in
theorem rrB_up_r (w0 lo un re d : Int) (hw : -2305843009213693952 ≤ w0 ∧ w0 ≤ 2305843009213693952) (hd : 1 ≤ d ∧ d ≤ 2305843009213693952) (hr : 0 ≤ re ∧ re < d) (hu : 2 ≤ un ∧ un ≤ 1073741824) (hl : 0 ≤ lo ∧ lo < un) (h0 : lo = 0) (h1 : 0 < re) (w : World) :
    Calls Tryd.prog 112 #[.string ⟨#[117, 112]⟩, .int .i64 w0, .int .i64 lo, .int .i64 un, .int .i64 re, .int .i64 d] w fun e w' => e = .returned (.int .i64 (w0 + 1)) ∧ w = w' := by
  have t21463 : decide (0 < lo) = false := decide_eq_false (by omega)
  have t34666 : decide (0 < re) = true := decide_eq_true (by omega)
  go_enter Tryd.func112, Tryd.ntmps112
  go_wp2
  go_ret
  exact ⟨rfl, rfl⟩

set_option maxRecDepth 100000 in
set_option maxHeartbeats 400000 in
theorem rrB_up_n (w0 lo un re d : Int) (hw : -2305843009213693952 ≤ w0 ∧ w0 ≤ 2305843009213693952) (hd : 1 ≤ d ∧ d ≤ 2305843009213693952) (hr : 0 ≤ re ∧ re < d) (hu : 2 ≤ un ∧ un ≤ 1073741824) (hl : 0 ≤ lo ∧ lo < un) (h0 : lo = 0) (h1 : re = 0) (w : World) :
    Calls Tryd.prog 112 #[.string ⟨#[117, 112]⟩, .int .i64 w0, .int .i64 lo, .int .i64 un, .int .i64 re, .int .i64 d] w fun e w' => e = .returned (.int .i64 (w0)) ∧ w = w' := by
  have t21463 : decide (0 < lo) = false := decide_eq_false (by omega)
  have t34666 : decide (0 < re) = false := decide_eq_false (by omega)
  go_enter Tryd.func112, Tryd.ntmps112
  go_wp2
  go_ret
  exact ⟨rfl, rfl⟩

set_option maxRecDepth 100000 in
set_option maxHeartbeats 400000 in
theorem rrB_zero_lneg (w0 lo un re d : Int) (hw : -2305843009213693952 ≤ w0 ∧ w0 ≤ 2305843009213693952) (hd : 1 ≤ d ∧ d ≤ 2305843009213693952) (hr : 0 ≤ re ∧ re < d) (hu : 2 ≤ un ∧ un ≤ 1073741824) (hl : 0 ≤ lo ∧ lo < un) (h0 : 0 < lo) (h1 : w0 < 0) (w : World) :
    Calls Tryd.prog 112 #[.string ⟨#[122, 101, 114, 111]⟩, .int .i64 w0, .int .i64 lo, .int .i64 un, .int .i64 re, .int .i64 d] w fun e w' => e = .returned (.int .i64 (w0 + 1)) ∧ w = w' := by
  have t21463 : decide (0 < lo) = true := decide_eq_true (by omega)
  have t9488 : decide (w0 < 0) = true := decide_eq_true (by omega)
  go_enter Tryd.func112, Tryd.ntmps112
  go_wp2
  go_ret
  exact ⟨rfl, rfl⟩

set_option maxRecDepth 100000 in
set_option maxHeartbeats 400000 in
theorem rrB_zero_lpos (w0 lo un re d : Int) (hw : -2305843009213693952 ≤ w0 ∧ w0 ≤ 2305843009213693952) (hd : 1 ≤ d ∧ d ≤ 2305843009213693952) (hr : 0 ≤ re ∧ re < d) (hu : 2 ≤ un ∧ un ≤ 1073741824) (hl : 0 ≤ lo ∧ lo < un) (h0 : 0 < lo) (h1 : 0 ≤ w0) (w : World) :
    Calls Tryd.prog 112 #[.string ⟨#[122, 101, 114, 111]⟩, .int .i64 w0, .int .i64 lo, .int .i64 un, .int .i64 re, .int .i64 d] w fun e w' => e = .returned (.int .i64 (w0)) ∧ w = w' := by
  have t21463 : decide (0 < lo) = true := decide_eq_true (by omega)
  have t9488 : decide (w0 < 0) = false := decide_eq_false (by omega)
  go_enter Tryd.func112, Tryd.ntmps112
  go_wp2
  go_ret
  exact ⟨rfl, rfl⟩

set_option maxRecDepth 100000 in
set_option maxHeartbeats 400000 in
theorem rrB_zero_rneg (w0 lo un re d : Int) (hw : -2305843009213693952 ≤ w0 ∧ w0 ≤ 2305843009213693952) (hd : 1 ≤ d ∧ d ≤ 2305843009213693952) (hr : 0 ≤ re ∧ re < d) (hu : 2 ≤ un ∧ un ≤ 1073741824) (hl : 0 ≤ lo ∧ lo < un) (h0 : lo = 0) (h1 : 0 < re) (h2 : w0 < 0) (w : World) :
    Calls Tryd.prog 112 #[.string ⟨#[122, 101, 114, 111]⟩, .int .i64 w0, .int .i64 lo, .int .i64 un, .int .i64 re, .int .i64 d] w fun e w' => e = .returned (.int .i64 (w0 + 1)) ∧ w = w' := by
  have t21463 : decide (0 < lo) = false := decide_eq_false (by omega)
  have t34666 : decide (0 < re) = true := decide_eq_true (by omega)
  have t9488 : decide (w0 < 0) = true := decide_eq_true (by omega)
  go_enter Tryd.func112, Tryd.ntmps112
  go_wp2
  go_ret
  exact ⟨rfl, rfl⟩

set_option maxRecDepth 100000 in
set_option maxHeartbeats 400000 in
theorem rrB_zero_rpos (w0 lo un re d : Int) (hw : -2305843009213693952 ≤ w0 ∧ w0 ≤ 2305843009213693952) (hd : 1 ≤ d ∧ d ≤ 2305843009213693952) (hr : 0 ≤ re ∧ re < d) (hu : 2 ≤ un ∧ un ≤ 1073741824) (hl : 0 ≤ lo ∧ lo < un) (h0 : lo = 0) (h1 : 0 < re) (h2 : 0 ≤ w0) (w : World) :
    Calls Tryd.prog 112 #[.string ⟨#[122, 101, 114, 111]⟩, .int .i64 w0, .int .i64 lo, .int .i64 un, .int .i64 re, .int .i64 d] w fun e w' => e = .returned (.int .i64 (w0)) ∧ w = w' := by
  have t21463 : decide (0 < lo) = false := decide_eq_false (by omega)
  have t34666 : decide (0 < re) = true := decide_eq_true (by omega)
  have t9488 : decide (w0 < 0) = false := decide_eq_false (by omega)
  go_enter Tryd.func112, Tryd.ntmps112
  go_wp2
  go_ret
  exact ⟨rfl, rfl⟩

set_option maxRecDepth 100000 in
set_option maxHeartbeats 400000 in
theorem rrB_zero_nneg (w0 lo un re d : Int) (hw : -2305843009213693952 ≤ w0 ∧ w0 ≤ 2305843009213693952) (hd : 1 ≤ d ∧ d ≤ 2305843009213693952) (hr : 0 ≤ re ∧ re < d) (hu : 2 ≤ un ∧ un ≤ 1073741824) (hl : 0 ≤ lo ∧ lo < un) (h0 : lo = 0) (h1 : re = 0) (h2 : w0 < 0) (w : World) :
    Calls Tryd.prog 112 #[.string ⟨#[122, 101, 114, 111]⟩, .int .i64 w0, .int .i64 lo, .int .i64 un, .int .i64 re, .int .i64 d] w fun e w' => e = .returned (.int .i64 (w0)) ∧ w = w' := by
  have t21463 : decide (0 < lo) = false := decide_eq_false (by omega)
  have t34666 : decide (0 < re) = false := decide_eq_false (by omega)
  have t9488 : decide (w0 < 0) = true := decide_eq_true (by omega)
  go_enter Tryd.func112, Tryd.ntmps112
  go_wp2
  go_ret
  exact ⟨rfl, rfl⟩

set_option maxRecDepth 100000 in
set_option maxHeartbeats 400000 in
theorem rrB_zero_npos (w0 lo un re d : Int) (hw : -2305843009213693952 ≤ w0 ∧ w0 ≤ 2305843009213693952) (hd : 1 ≤ d ∧ d ≤ 2305843009213693952) (hr : 0 ≤ re ∧ re < d) (hu : 2 ≤ un ∧ un ≤ 1073741824) (hl : 0 ≤ lo ∧ lo < un) (h0 : lo = 0) (h1 : re = 0) (h2 : 0 ≤ w0) (w : World) :
    Calls Tryd.prog 112 #[.string ⟨#[122, 101, 114, 111]⟩, .int .i64 w0, .int .i64 lo, .int .i64 un, .int .i64 re, .int .i64 d] w fun e w' => e = .returned (.int .i64 (w0)) ∧ w = w' := by
  have t21463 : decide (0 < lo) = false := decide_eq_false (by omega)
  have t34666 : decide (0 < re) = false := decide_eq_false (by omega)
  have t9488 : decide (w0 < 0) = false := decide_eq_false (by omega)
  go_enter Tryd.func112, Tryd.ntmps112
  go_wp2
  go_ret
  exact ⟨rfl, rfl⟩

set_option maxRecDepth 100000 in
set_option maxHeartbeats 400000 in
theorem rrB_near_over (w0 lo un re d : Int) (hw : -2305843009213693952 ≤ w0 ∧ w0 ≤ 2305843009213693952) (hd : 1 ≤ d ∧ d ≤ 2305843009213693952) (hr : 0 ≤ re ∧ re < d) (hu : 2 ≤ un ∧ un ≤ 1073741824) (hl : 0 ≤ lo ∧ lo < un) (h0 : un / 2 < lo) (w : World) :
    Calls Tryd.prog 112 #[.string ⟨#[110, 101, 97, 114]⟩, .int .i64 w0, .int .i64 lo, .int .i64 un, .int .i64 re, .int .i64 d] w fun e w' => e = .returned (.int .i64 (w0 + 1)) ∧ w = w' := by
  have y0 : un.tdiv 2 = un / 2 := Int.tdiv_eq_ediv_of_nonneg (by omega)
  have y1 : IntKind.i64.wrap (un.tdiv 2) = un / 2 := by rw [y0]; exact Z.i64_in _ (by omega)
  have y3 : wrap64 (un.tdiv 2) = un / 2 := by rw [y0]; unfold wrap64; omega
  have t44915 : (un == 1) = false := by rw [beq_eq_false_iff_ne]; omega
  have hu2 : 1 ≤ un / 2 ∧ un / 2 ≤ 1073741824 := by omega
  have t21463 : decide (0 < lo) = true := decide_eq_true (by omega)
  have t80512 : decide (un / 2 < lo) = true := decide_eq_true (by omega)
  have t81776 : (lo == un / 2) = false := by rw [beq_eq_false_iff_ne]; omega
  go_enter Tryd.func112, Tryd.ntmps112
  go_wp2
  go_ret
  exact ⟨rfl, rfl⟩

set_option maxRecDepth 100000 in
set_option maxHeartbeats 400000 in
theorem rrB_near_more (w0 lo un re d : Int) (hw : -2305843009213693952 ≤ w0 ∧ w0 ≤ 2305843009213693952) (hd : 1 ≤ d ∧ d ≤ 2305843009213693952) (hr : 0 ≤ re ∧ re < d) (hu : 2 ≤ un ∧ un ≤ 1073741824) (hl : 0 ≤ lo ∧ lo < un) (h0 : lo = un / 2) (h1 : 0 < re) (w : World) :
    Calls Tryd.prog 112 #[.string ⟨#[110, 101, 97, 114]⟩, .int .i64 w0, .int .i64 lo, .int .i64 un, .int .i64 re, .int .i64 d] w fun e w' => e = .returned (.int .i64 (w0 + 1)) ∧ w = w' := by
  have y0 : un.tdiv 2 = un / 2 := Int.tdiv_eq_ediv_of_nonneg (by omega)
  have y1 : IntKind.i64.wrap (un.tdiv 2) = un / 2 := by rw [y0]; exact Z.i64_in _ (by omega)
  have y3 : wrap64 (un.tdiv 2) = un / 2 := by rw [y0]; unfold wrap64; omega
  have t44915 : (un == 1) = false := by rw [beq_eq_false_iff_ne]; omega
  have hu2 : 1 ≤ un / 2 ∧ un / 2 ≤ 1073741824 := by omega
  have t21463 : decide (0 < lo) = true := decide_eq_true (by omega)
  have t80512 : decide (un / 2 < lo) = false := decide_eq_false (by omega)
  have t81776 : (lo == un / 2) = true := by rw [beq_iff_eq]; omega
  have t34666 : decide (0 < re) = true := decide_eq_true (by omega)
  have t63573 : (re == 0) = false := by rw [beq_eq_false_iff_ne]; omega
  go_enter Tryd.func112, Tryd.ntmps112
  go_wp2
  go_ret
  exact ⟨rfl, rfl⟩

set_option maxRecDepth 100000 in
set_option maxHeartbeats 400000 in
theorem rrB_near_odd (w0 lo un re d : Int) (hw : -2305843009213693952 ≤ w0 ∧ w0 ≤ 2305843009213693952) (hd : 1 ≤ d ∧ d ≤ 2305843009213693952) (hr : 0 ≤ re ∧ re < d) (hu : 2 ≤ un ∧ un ≤ 1073741824) (hl : 0 ≤ lo ∧ lo < un) (h0 : lo = un / 2) (h1 : re = 0) (h2 : w0 % 2 ≠ 0) (w : World) :
    Calls Tryd.prog 112 #[.string ⟨#[110, 101, 97, 114]⟩, .int .i64 w0, .int .i64 lo, .int .i64 un, .int .i64 re, .int .i64 d] w fun e w' => e = .returned (.int .i64 (w0 + 1)) ∧ w = w' := by
  have y0 : un.tdiv 2 = un / 2 := Int.tdiv_eq_ediv_of_nonneg (by omega)
  have y1 : IntKind.i64.wrap (un.tdiv 2) = un / 2 := by rw [y0]; exact Z.i64_in _ (by omega)
  have y3 : wrap64 (un.tdiv 2) = un / 2 := by rw [y0]; unfold wrap64; omega
  have t44915 : (un == 1) = false := by rw [beq_eq_false_iff_ne]; omega
  have hu2 : 1 ≤ un / 2 ∧ un / 2 ≤ 1073741824 := by omega
  have t21463 : decide (0 < lo) = true := decide_eq_true (by omega)
  have t80512 : decide (un / 2 < lo) = false := decide_eq_false (by omega)
  have t81776 : (lo == un / 2) = true := by rw [beq_iff_eq]; omega
  have t34666 : decide (0 < re) = false := decide_eq_false (by omega)
  have t63573 : (re == 0) = true := by rw [beq_iff_eq]; omega
  have y2 : (w0.tmod 2 != 0) = true := by rw [bne_iff_ne, Ne, Z.tmod_two]; omega
  go_enter Tryd.func112, Tryd.ntmps112
  go_wp2
  go_ret
  exact ⟨rfl, rfl⟩

set_option maxRecDepth 100000 in
set_option maxHeartbeats 400000 in
theorem rrB_near_even (w0 lo un re d : Int) (hw : -2305843009213693952 ≤ w0 ∧ w0 ≤ 2305843009213693952) (hd : 1 ≤ d ∧ d ≤ 2305843009213693952) (hr : 0 ≤ re ∧ re < d) (hu : 2 ≤ un ∧ un ≤ 1073741824) (hl : 0 ≤ lo ∧ lo < un) (h0 : lo = un / 2) (h1 : re = 0) (h2 : w0 % 2 = 0) (w : World) :
    Calls Tryd.prog 112 #[.string ⟨#[110, 101, 97, 114]⟩, .int .i64 w0, .int .i64 lo, .int .i64 un, .int .i64 re, .int .i64 d] w fun e w' => e = .returned (.int .i64 (w0)) ∧ w = w' := by
  have y0 : un.tdiv 2 = un / 2 := Int.tdiv_eq_ediv_of_nonneg (by omega)
  have y1 : IntKind.i64.wrap (un.tdiv 2) = un / 2 := by rw [y0]; exact Z.i64_in _ (by omega)
  have y3 : wrap64 (un.tdiv 2) = un / 2 := by rw [y0]; unfold wrap64; omega
  have t44915 : (un == 1) = false := by rw [beq_eq_false_iff_ne]; omega
  have hu2 : 1 ≤ un / 2 ∧ un / 2 ≤ 1073741824 := by omega
  have t21463 : decide (0 < lo) = true := decide_eq_true (by omega)
  have t80512 : decide (un / 2 < lo) = false := decide_eq_false (by omega)
  have t81776 : (lo == un / 2) = true := by rw [beq_iff_eq]; omega
  have t34666 : decide (0 < re) = false := decide_eq_false (by omega)
  have t63573 : (re == 0) = true := by rw [beq_iff_eq]; omega
  have y2 : (w0.tmod 2 != 0) = false := by rw [bne_eq_false_iff_eq, Z.tmod_two]; omega
  go_enter Tryd.func112, Tryd.ntmps112
  go_wp2
  go_ret
  exact ⟨rfl, rfl⟩

set_option maxRecDepth 100000 in
set_option maxHeartbeats 400000 in
theorem rrB_near_lessl (w0 lo un re d : Int) (hw : -2305843009213693952 ≤ w0 ∧ w0 ≤ 2305843009213693952) (hd : 1 ≤ d ∧ d ≤ 2305843009213693952) (hr : 0 ≤ re ∧ re < d) (hu : 2 ≤ un ∧ un ≤ 1073741824) (hl : 0 ≤ lo ∧ lo < un) (h0 : lo < un / 2) (h1 : 0 < lo) (w : World) :
    Calls Tryd.prog 112 #[.string ⟨#[110, 101, 97, 114]⟩, .int .i64 w0, .int .i64 lo, .int .i64 un, .int .i64 re, .int .i64 d] w fun e w' => e = .returned (.int .i64 (w0)) ∧ w = w' := by
  have y0 : un.tdiv 2 = un / 2 := Int.tdiv_eq_ediv_of_nonneg (by omega)
  have y1 : IntKind.i64.wrap (un.tdiv 2) = un / 2 := by rw [y0]; exact Z.i64_in _ (by omega)
  have y3 : wrap64 (un.tdiv 2) = un / 2 := by rw [y0]; unfold wrap64; omega
  have t44915 : (un == 1) = false := by rw [beq_eq_false_iff_ne]; omega
  have hu2 : 1 ≤ un / 2 ∧ un / 2 ≤ 1073741824 := by omega
  have t21463 : decide (0 < lo) = true := decide_eq_true (by omega)
  have t80512 : decide (un / 2 < lo) = false := decide_eq_false (by omega)
  have t81776 : (lo == un / 2) = false := by rw [beq_eq_false_iff_ne]; omega
  go_enter Tryd.func112, Tryd.ntmps112
  go_wp2
  go_ret
  exact ⟨rfl, rfl⟩

set_option maxRecDepth 100000 in
set_option maxHeartbeats 400000 in
theorem rrB_near_lessr (w0 lo un re d : Int) (hw : -2305843009213693952 ≤ w0 ∧ w0 ≤ 2305843009213693952) (hd : 1 ≤ d ∧ d ≤ 2305843009213693952) (hr : 0 ≤ re ∧ re < d) (hu : 2 ≤ un ∧ un ≤ 1073741824) (hl : 0 ≤ lo ∧ lo < un) (h0 : lo < un / 2) (h1 : lo = 0) (h2 : 0 < re) (w : World) :
    Calls Tryd.prog 112 #[.string ⟨#[110, 101, 97, 114]⟩, .int .i64 w0, .int .i64 lo, .int .i64 un, .int .i64 re, .int .i64 d] w fun e w' => e = .returned (.int .i64 (w0)) ∧ w = w' := by
  have y0 : un.tdiv 2 = un / 2 := Int.tdiv_eq_ediv_of_nonneg (by omega)
  have y1 : IntKind.i64.wrap (un.tdiv 2) = un / 2 := by rw [y0]; exact Z.i64_in _ (by omega)
  have y3 : wrap64 (un.tdiv 2) = un / 2 := by rw [y0]; unfold wrap64; omega
  have t44915 : (un == 1) = false := by rw [beq_eq_false_iff_ne]; omega
  have hu2 : 1 ≤ un / 2 ∧ un / 2 ≤ 1073741824 := by omega
  have t21463 : decide (0 < lo) = false := decide_eq_false (by omega)
  have t34666 : decide (0 < re) = true := decide_eq_true (by omega)
  have t80512 : decide (un / 2 < lo) = false := decide_eq_false (by omega)
  have t81776 : (lo == un / 2) = false := by rw [beq_eq_false_iff_ne]; omega
  go_enter Tryd.func112, Tryd.ntmps112
  go_wp2
  go_ret
  exact ⟨rfl, rfl⟩

set_option maxRecDepth 100000 in
set_option maxHeartbeats 400000 in
theorem rrB_near_lessn (w0 lo un re d : Int) (hw : -2305843009213693952 ≤ w0 ∧ w0 ≤ 2305843009213693952) (hd : 1 ≤ d ∧ d ≤ 2305843009213693952) (hr : 0 ≤ re ∧ re < d) (hu : 2 ≤ un ∧ un ≤ 1073741824) (hl : 0 ≤ lo ∧ lo < un) (h0 : lo < un / 2) (h1 : lo = 0) (h2 : re = 0) (w : World) :
    Calls Tryd.prog 112 #[.string ⟨#[110, 101, 97, 114]⟩, .int .i64 w0, .int .i64 lo, .int .i64 un, .int .i64 re, .int .i64 d] w fun e w' => e = .returned (.int .i64 (w0)) ∧ w = w' := by
  have y0 : un.tdiv 2 = un / 2 := Int.tdiv_eq_ediv_of_nonneg (by omega)
  have y1 : IntKind.i64.wrap (un.tdiv 2) = un / 2 := by rw [y0]; exact Z.i64_in _ (by omega)
  have y3 : wrap64 (un.tdiv 2) = un / 2 := by rw [y0]; unfold wrap64; omega
  have t44915 : (un == 1) = false := by rw [beq_eq_false_iff_ne]; omega
  have hu2 : 1 ≤ un / 2 ∧ un / 2 ≤ 1073741824 := by omega
  have t21463 : decide (0 < lo) = false := decide_eq_false (by omega)
  have t34666 : decide (0 < re) = false := decide_eq_false (by omega)
  have t80512 : decide (un / 2 < lo) = false := decide_eq_false (by omega)
  have t81776 : (lo == un / 2) = false := by rw [beq_eq_false_iff_ne]; omega
  go_enter Tryd.func112, Tryd.ntmps112
  go_wp2
  go_ret
  exact ⟨rfl, rfl⟩

set_option maxRecDepth 100000 in
set_option maxHeartbeats 400000 in
theorem rrA_any (m : Nat) (hm : m ≤ 3) (w0 lo un re d : Int) (hw : -2305843009213693952 ≤ w0 ∧ w0 ≤ 2305843009213693952) (hd : 1 ≤ d ∧ d ≤ 2305843009213693952) (hr : 0 ≤ re ∧ re < d) (hu : un = 1) (hl : lo = 0) (w : World) :
    Calls Tryd.prog 112 #[.string (rnmR m), .int .i64 w0, .int .i64 lo, .int .i64 un, .int .i64 re, .int .i64 d] w fun e w' => e = .returned (.int .i64 (Z.rnd m (w0 * d + re) d)) ∧ w = w' := by
  have C : ∀ {v u : Int}, u = v → Calls Tryd.prog 112 #[.string (rnmR m), .int .i64 w0, .int .i64 lo, .int .i64 un, .int .i64 re, .int .i64 d] w (fun e w' => e = .returned (.int .i64 u) ∧ w = w') → Calls Tryd.prog 112 #[.string (rnmR m), .int .i64 w0, .int .i64 lo, .int .i64 un, .int .i64 re, .int .i64 d] w (fun e w' => e = .returned (.int .i64 v) ∧ w = w') := by rintro v u rfl h; exact h
  have hcase : m = 0 ∨ m = 1 ∨ m = 2 ∨ m = 3 := by omega
  rw [Z.rnd_split m (by omega) hr]
  by_cases hs : 0 < re
  · rcases hcase with rfl | rfl | rfl | rfl
    · exact C (by simp) (rrA_floor_s w0 lo un re d hw hd hr hu hl hs w)
    · by_cases h1 : d < 2 * re
      · exact C (by simp [h1]) (rrA_near_over w0 lo un re d hw hd hr hu hl h1 w)
      · by_cases h2 : 2 * re = d
        · by_cases h3 : w0 % 2 = 0
          · exact C (by simp [h1, h2, h3]) (rrA_near_even w0 lo un re d hw hd hr hu hl h2 h3 w)
          · exact C (by simp [h2]; omega) (rrA_near_odd w0 lo un re d hw hd hr hu hl h2 h3 w)
        · exact C (by simp [h1, h2]) (rrA_near_lesss w0 lo un re d hw hd hr hu hl (by omega) hs w)
    · by_cases h1 : w0 < 0
      · exact C (by simp [h1]; omega) (rrA_zero_sneg w0 lo un re d hw hd hr hu hl hs h1 w)
      · exact C (by simp [h1]) (rrA_zero_spos w0 lo un re d hw hd hr hu hl hs (by omega) w)
    · exact C (by simp; omega) (rrA_up_s w0 lo un re d hw hd hr hu hl hs w)
  · have h0 : re = 0 := by omega
    rcases hcase with rfl | rfl | rfl | rfl
    · exact C (by simp) (rrA_floor_n w0 lo un re d hw hd hr hu hl h0 w)
    · exact C (by rw [if_pos rfl, if_neg (by omega)]) (rrA_near_lessn w0 lo un re d hw hd hr hu hl h0 w)
    · by_cases h1 : w0 < 0
      · exact C (by simp [h0]) (rrA_zero_nneg w0 lo un re d hw hd hr hu hl h0 h1 w)
      · exact C (by simp [h0]) (rrA_zero_npos w0 lo un re d hw hd hr hu hl h0 (by omega) w)
    · exact C (by simp [h0]) (rrA_up_n w0 lo un re d hw hd hr hu hl h0 w)

set_option maxRecDepth 100000 in
set_option maxHeartbeats 400000 in
theorem rrB_any (m : Nat) (hm : m ≤ 3) (w0 lo un re d : Int) (hw : -2305843009213693952 ≤ w0 ∧ w0 ≤ 2305843009213693952) (hd : 1 ≤ d ∧ d ≤ 2305843009213693952) (hr : 0 ≤ re ∧ re < d) (hu : 2 ≤ un ∧ un ≤ 1073741824 ∧ un % 2 = 0) (hl : 0 ≤ lo ∧ lo < un) (w : World) :
    Calls Tryd.prog 112 #[.string (rnmR m), .int .i64 w0, .int .i64 lo, .int .i64 un, .int .i64 re, .int .i64 d] w fun e w' => e = .returned (.int .i64 (Z.rnd m ((w0 * un + lo) * d + re) (d * un))) ∧ w = w' := by
  have C : ∀ {v u : Int}, u = v → Calls Tryd.prog 112 #[.string (rnmR m), .int .i64 w0, .int .i64 lo, .int .i64 un, .int .i64 re, .int .i64 d] w (fun e w' => e = .returned (.int .i64 u) ∧ w = w') → Calls Tryd.prog 112 #[.string (rnmR m), .int .i64 w0, .int .i64 lo, .int .i64 un, .int .i64 re, .int .i64 d] w (fun e w' => e = .returned (.int .i64 v) ∧ w = w') := by rintro v u rfl h; exact h
  have hcase : m = 0 ∨ m = 1 ∨ m = 2 ∨ m = 3 := by omega
  rw [Z.rnd_split2 m (by omega) (by omega) hr hl]
  obtain ⟨q1, q2, q3, q4, q5⟩ := Z.low_cases (u := un) (l := lo) (d := d) (r := re) (by omega) hr
  have hbd := Z.low_bd (u := un) (by omega) hr hl
  generalize lo * d + re = L at *
  generalize un * d = U at *
  rcases hcase with rfl | rfl | rfl | rfl
  · skip
    by_cases hlo : 0 < lo
    · have g := q4 hlo
      exact C (by simp) (rrB_floor_l w0 lo un re d hw hd hr ⟨hu.1, hu.2.1⟩ hl hlo w)
    · have hlo0 : lo = 0 := by omega
      have g := q5 hlo0
      by_cases hre : 0 < re
      · exact C (by simp) (rrB_floor_r w0 lo un re d hw hd hr ⟨hu.1, hu.2.1⟩ hl hlo0 hre w)
      · exact C (by simp) (rrB_floor_n w0 lo un re d hw hd hr ⟨hu.1, hu.2.1⟩ hl hlo0 (by omega) w)
  · rw [if_pos rfl]
    by_cases h1 : un / 2 < lo
    · exact C (by rw [if_pos (by have := q1 (by omega); omega)]) (rrB_near_over w0 lo un re d hw hd hr ⟨hu.1, hu.2.1⟩ hl h1 w)
    · by_cases h2 : lo = un / 2
      · have g2 := q2 (by omega)
        by_cases h3 : 0 < re
        · exact C (by rw [if_pos (by omega)]) (rrB_near_more w0 lo un re d hw hd hr ⟨hu.1, hu.2.1⟩ hl h2 h3 w)
        · by_cases h4 : w0 % 2 = 0
          · exact C (by rw [if_neg (by omega)]) (rrB_near_even w0 lo un re d hw hd hr ⟨hu.1, hu.2.1⟩ hl h2 (by omega) h4 w)
          · exact C (by rw [if_pos (by omega)]) (rrB_near_odd w0 lo un re d hw hd hr ⟨hu.1, hu.2.1⟩ hl h2 (by omega) h4 w)
      · have g2 := q3 (by omega)
        rw [if_neg (by omega)]
        by_cases hlo : 0 < lo
        · have g := q4 hlo
          exact C rfl (rrB_near_lessl w0 lo un re d hw hd hr ⟨hu.1, hu.2.1⟩ hl (by omega) hlo w)
        · have hlo0 : lo = 0 := by omega
          have g := q5 hlo0
          by_cases hre : 0 < re
          · exact C rfl (rrB_near_lessr w0 lo un re d hw hd hr ⟨hu.1, hu.2.1⟩ hl (by omega) hlo0 hre w)
          · exact C rfl (rrB_near_lessn w0 lo un re d hw hd hr ⟨hu.1, hu.2.1⟩ hl (by omega) hlo0 (by omega) w)
  · rw [if_neg (by decide), if_pos rfl]
    by_cases h1 : w0 < 0
    · skip
      by_cases hlo : 0 < lo
      · have g := q4 hlo
        exact C (by rw [if_pos (by omega)]) (rrB_zero_lneg w0 lo un re d hw hd hr ⟨hu.1, hu.2.1⟩ hl hlo h1 w)
      · have hlo0 : lo = 0 := by omega
        have g := q5 hlo0
        by_cases hre : 0 < re
        · exact C (by rw [if_pos (by omega)]) (rrB_zero_rneg w0 lo un re d hw hd hr ⟨hu.1, hu.2.1⟩ hl hlo0 hre h1 w)
        · exact C (by rw [if_neg (by omega)]) (rrB_zero_nneg w0 lo un re d hw hd hr ⟨hu.1, hu.2.1⟩ hl hlo0 (by omega) h1 w)
    · skip
      by_cases hlo : 0 < lo
      · have g := q4 hlo
        exact C (by rw [if_neg (by omega)]) (rrB_zero_lpos w0 lo un re d hw hd hr ⟨hu.1, hu.2.1⟩ hl hlo (by omega) w)
      · have hlo0 : lo = 0 := by omega
        have g := q5 hlo0
        by_cases hre : 0 < re
        · exact C (by rw [if_neg (by omega)]) (rrB_zero_rpos w0 lo un re d hw hd hr ⟨hu.1, hu.2.1⟩ hl hlo0 hre (by omega) w)
        · exact C (by rw [if_neg (by omega)]) (rrB_zero_npos w0 lo un re d hw hd hr ⟨hu.1, hu.2.1⟩ hl hlo0 (by omega) (by omega) w)
  · rw [if_neg (by decide), if_neg (by decide), if_pos rfl]
    by_cases hlo : 0 < lo
    · have g := q4 hlo
      exact C (by rw [if_pos (by omega)]) (rrB_up_l w0 lo un re d hw hd hr ⟨hu.1, hu.2.1⟩ hl hlo w)
    · have hlo0 : lo = 0 := by omega
      have g := q5 hlo0
      by_cases hre : 0 < re
      · exact C (by rw [if_pos (by omega)]) (rrB_up_r w0 lo un re d hw hd hr ⟨hu.1, hu.2.1⟩ hl hlo0 hre w)
      · exact C (by rw [if_neg (by omega)]) (rrB_up_n w0 lo un re d hw hd hr ⟨hu.1, hu.2.1⟩ hl hlo0 (by omega) w)

end Go.Proofs.YtmadhpbdianddaaDoor
