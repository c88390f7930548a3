/-
  Operations of two in, one by one.
-/
import Derived.Test.YtnidbhfpkjggmaaGreatDoorOg
set_option linter.all false
namespace Go.Proofs.YtnidbhfpkjggmaaGreatDoor
open Go.Pv Go.RowKit
/-- Whether two texts are alike. -/
abbrev E (l m : List UInt8) : Bool := ByteArray.toList (⟨l.toArray⟩) == ByteArray.toList (⟨m.toArray⟩)
theorem lc_add_add : E [97, 100, 100] [97, 100, 100] = true := by kernel_rfl
theorem lc_add_sub : E [97, 100, 100] [115, 117, 98] = false := by kernel_rfl
theorem lc_add_mul : E [97, 100, 100] [109, 117, 108] = false := by kernel_rfl
theorem lc_add_div : E [97, 100, 100] [100, 105, 118] = false := by kernel_rfl
theorem lc_add_mod : E [97, 100, 100] [109, 111, 100] = false := by kernel_rfl
theorem lc_add_min : E [97, 100, 100] [109, 105, 110] = false := by kernel_rfl
theorem lc_add_max : E [97, 100, 100] [109, 97, 120] = false := by kernel_rfl
theorem lc_add_lt : E [97, 100, 100] [108, 116] = false := by kernel_rfl
theorem lc_add_le : E [97, 100, 100] [108, 101] = false := by kernel_rfl
theorem lc_add_eq : E [97, 100, 100] [101, 113] = false := by kernel_rfl
theorem lc_add_ne : E [97, 100, 100] [110, 101] = false := by kernel_rfl
theorem lc_add_and : E [97, 100, 100] [97, 110, 100] = false := by kernel_rfl
theorem lc_add_or : E [97, 100, 100] [111, 114] = false := by kernel_rfl
theorem lc_add_xor : E [97, 100, 100] [120, 111, 114] = false := by kernel_rfl
theorem lc_add_shl : E [97, 100, 100] [115, 104, 108] = false := by kernel_rfl
theorem lc_add_shr : E [97, 100, 100] [115, 104, 114] = false := by kernel_rfl
theorem lc_add_neg : E [97, 100, 100] [110, 101, 103] = false := by kernel_rfl
theorem lc_add_abs : E [97, 100, 100] [97, 98, 115] = false := by kernel_rfl
theorem lc_add_floor : E [97, 100, 100] [102, 108, 111, 111, 114] = false := by kernel_rfl
theorem lc_add_round : E [97, 100, 100] [114, 111, 117, 110, 100] = false := by kernel_rfl
theorem lc_add_frac : E [97, 100, 100] [102, 114, 97, 99] = false := by kernel_rfl
theorem lc_add_not : E [97, 100, 100] [110, 111, 116] = false := by kernel_rfl
theorem lc_add_pick : E [97, 100, 100] [112, 105, 99, 107] = false := by kernel_rfl
theorem lc_sub_add : E [115, 117, 98] [97, 100, 100] = false := by kernel_rfl
theorem lc_sub_sub : E [115, 117, 98] [115, 117, 98] = true := by kernel_rfl
theorem lc_sub_mul : E [115, 117, 98] [109, 117, 108] = false := by kernel_rfl
theorem lc_sub_div : E [115, 117, 98] [100, 105, 118] = false := by kernel_rfl
theorem lc_sub_mod : E [115, 117, 98] [109, 111, 100] = false := by kernel_rfl
theorem lc_sub_min : E [115, 117, 98] [109, 105, 110] = false := by kernel_rfl
theorem lc_sub_max : E [115, 117, 98] [109, 97, 120] = false := by kernel_rfl
theorem lc_sub_lt : E [115, 117, 98] [108, 116] = false := by kernel_rfl
theorem lc_sub_le : E [115, 117, 98] [108, 101] = false := by kernel_rfl
theorem lc_sub_eq : E [115, 117, 98] [101, 113] = false := by kernel_rfl
theorem lc_sub_ne : E [115, 117, 98] [110, 101] = false := by kernel_rfl
theorem lc_sub_and : E [115, 117, 98] [97, 110, 100] = false := by kernel_rfl
theorem lc_sub_or : E [115, 117, 98] [111, 114] = false := by kernel_rfl
theorem lc_sub_xor : E [115, 117, 98] [120, 111, 114] = false := by kernel_rfl
theorem lc_sub_shl : E [115, 117, 98] [115, 104, 108] = false := by kernel_rfl
theorem lc_sub_shr : E [115, 117, 98] [115, 104, 114] = false := by kernel_rfl
theorem lc_sub_neg : E [115, 117, 98] [110, 101, 103] = false := by kernel_rfl
theorem lc_sub_abs : E [115, 117, 98] [97, 98, 115] = false := by kernel_rfl
theorem lc_sub_floor : E [115, 117, 98] [102, 108, 111, 111, 114] = false := by kernel_rfl
theorem lc_sub_round : E [115, 117, 98] [114, 111, 117, 110, 100] = false := by kernel_rfl
theorem lc_sub_frac : E [115, 117, 98] [102, 114, 97, 99] = false := by kernel_rfl
theorem lc_sub_not : E [115, 117, 98] [110, 111, 116] = false := by kernel_rfl
theorem lc_sub_pick : E [115, 117, 98] [112, 105, 99, 107] = false := by kernel_rfl
theorem lc_mul_add : E [109, 117, 108] [97, 100, 100] = false := by kernel_rfl
theorem lc_mul_sub : E [109, 117, 108] [115, 117, 98] = false := by kernel_rfl
theorem lc_mul_mul : E [109, 117, 108] [109, 117, 108] = true := by kernel_rfl
theorem lc_mul_div : E [109, 117, 108] [100, 105, 118] = false := by kernel_rfl
theorem lc_mul_mod : E [109, 117, 108] [109, 111, 100] = false := by kernel_rfl
theorem lc_mul_min : E [109, 117, 108] [109, 105, 110] = false := by kernel_rfl
theorem lc_mul_max : E [109, 117, 108] [109, 97, 120] = false := by kernel_rfl
theorem lc_mul_lt : E [109, 117, 108] [108, 116] = false := by kernel_rfl
theorem lc_mul_le : E [109, 117, 108] [108, 101] = false := by kernel_rfl
theorem lc_mul_eq : E [109, 117, 108] [101, 113] = false := by kernel_rfl
theorem lc_mul_ne : E [109, 117, 108] [110, 101] = false := by kernel_rfl
theorem lc_mul_and : E [109, 117, 108] [97, 110, 100] = false := by kernel_rfl
theorem lc_mul_or : E [109, 117, 108] [111, 114] = false := by kernel_rfl
theorem lc_mul_xor : E [109, 117, 108] [120, 111, 114] = false := by kernel_rfl
theorem lc_mul_shl : E [109, 117, 108] [115, 104, 108] = false := by kernel_rfl
theorem lc_mul_shr : E [109, 117, 108] [115, 104, 114] = false := by kernel_rfl
theorem lc_mul_neg : E [109, 117, 108] [110, 101, 103] = false := by kernel_rfl
theorem lc_mul_abs : E [109, 117, 108] [97, 98, 115] = false := by kernel_rfl
theorem lc_mul_floor : E [109, 117, 108] [102, 108, 111, 111, 114] = false := by kernel_rfl
theorem lc_mul_round : E [109, 117, 108] [114, 111, 117, 110, 100] = false := by kernel_rfl
theorem lc_mul_frac : E [109, 117, 108] [102, 114, 97, 99] = false := by kernel_rfl
theorem lc_mul_not : E [109, 117, 108] [110, 111, 116] = false := by kernel_rfl
theorem lc_mul_pick : E [109, 117, 108] [112, 105, 99, 107] = false := by kernel_rfl
theorem lc_div_add : E [100, 105, 118] [97, 100, 100] = false := by kernel_rfl
theorem lc_div_sub : E [100, 105, 118] [115, 117, 98] = false := by kernel_rfl
theorem lc_div_mul : E [100, 105, 118] [109, 117, 108] = false := by kernel_rfl
theorem lc_div_div : E [100, 105, 118] [100, 105, 118] = true := by kernel_rfl
theorem lc_div_mod : E [100, 105, 118] [109, 111, 100] = false := by kernel_rfl
theorem lc_div_min : E [100, 105, 118] [109, 105, 110] = false := by kernel_rfl
theorem lc_div_max : E [100, 105, 118] [109, 97, 120] = false := by kernel_rfl
theorem lc_div_lt : E [100, 105, 118] [108, 116] = false := by kernel_rfl
theorem lc_div_le : E [100, 105, 118] [108, 101] = false := by kernel_rfl
theorem lc_div_eq : E [100, 105, 118] [101, 113] = false := by kernel_rfl
theorem lc_div_ne : E [100, 105, 118] [110, 101] = false := by kernel_rfl
theorem lc_div_and : E [100, 105, 118] [97, 110, 100] = false := by kernel_rfl
theorem lc_div_or : E [100, 105, 118] [111, 114] = false := by kernel_rfl
theorem lc_div_xor : E [100, 105, 118] [120, 111, 114] = false := by kernel_rfl
theorem lc_div_shl : E [100, 105, 118] [115, 104, 108] = false := by kernel_rfl
theorem lc_div_shr : E [100, 105, 118] [115, 104, 114] = false := by kernel_rfl
theorem lc_div_neg : E [100, 105, 118] [110, 101, 103] = false := by kernel_rfl
theorem lc_div_abs : E [100, 105, 118] [97, 98, 115] = false := by kernel_rfl
theorem lc_div_floor : E [100, 105, 118] [102, 108, 111, 111, 114] = false := by kernel_rfl
theorem lc_div_round : E [100, 105, 118] [114, 111, 117, 110, 100] = false := by kernel_rfl
theorem lc_div_frac : E [100, 105, 118] [102, 114, 97, 99] = false := by kernel_rfl
theorem lc_div_not : E [100, 105, 118] [110, 111, 116] = false := by kernel_rfl
theorem lc_div_pick : E [100, 105, 118] [112, 105, 99, 107] = false := by kernel_rfl
theorem lc_mod_add : E [109, 111, 100] [97, 100, 100] = false := by kernel_rfl
theorem lc_mod_sub : E [109, 111, 100] [115, 117, 98] = false := by kernel_rfl
theorem lc_mod_mul : E [109, 111, 100] [109, 117, 108] = false := by kernel_rfl
theorem lc_mod_div : E [109, 111, 100] [100, 105, 118] = false := by kernel_rfl
theorem lc_mod_mod : E [109, 111, 100] [109, 111, 100] = true := by kernel_rfl
theorem lc_mod_min : E [109, 111, 100] [109, 105, 110] = false := by kernel_rfl
theorem lc_mod_max : E [109, 111, 100] [109, 97, 120] = false := by kernel_rfl
theorem lc_mod_lt : E [109, 111, 100] [108, 116] = false := by kernel_rfl
theorem lc_mod_le : E [109, 111, 100] [108, 101] = false := by kernel_rfl
theorem lc_mod_eq : E [109, 111, 100] [101, 113] = false := by kernel_rfl
theorem lc_mod_ne : E [109, 111, 100] [110, 101] = false := by kernel_rfl
theorem lc_mod_and : E [109, 111, 100] [97, 110, 100] = false := by kernel_rfl
theorem lc_mod_or : E [109, 111, 100] [111, 114] = false := by kernel_rfl
theorem lc_mod_xor : E [109, 111, 100] [120, 111, 114] = false := by kernel_rfl
theorem lc_mod_shl : E [109, 111, 100] [115, 104, 108] = false := by kernel_rfl
theorem lc_mod_shr : E [109, 111, 100] [115, 104, 114] = false := by kernel_rfl
theorem lc_mod_neg : E [109, 111, 100] [110, 101, 103] = false := by kernel_rfl
theorem lc_mod_abs : E [109, 111, 100] [97, 98, 115] = false := by kernel_rfl
theorem lc_mod_floor : E [109, 111, 100] [102, 108, 111, 111, 114] = false := by kernel_rfl
theorem lc_mod_round : E [109, 111, 100] [114, 111, 117, 110, 100] = false := by kernel_rfl
theorem lc_mod_frac : E [109, 111, 100] [102, 114, 97, 99] = false := by kernel_rfl
theorem lc_mod_not : E [109, 111, 100] [110, 111, 116] = false := by kernel_rfl
theorem lc_mod_pick : E [109, 111, 100] [112, 105, 99, 107] = false := by kernel_rfl
theorem lc_min_add : E [109, 105, 110] [97, 100, 100] = false := by kernel_rfl
theorem lc_min_sub : E [109, 105, 110] [115, 117, 98] = false := by kernel_rfl
theorem lc_min_mul : E [109, 105, 110] [109, 117, 108] = false := by kernel_rfl
theorem lc_min_div : E [109, 105, 110] [100, 105, 118] = false := by kernel_rfl
theorem lc_min_mod : E [109, 105, 110] [109, 111, 100] = false := by kernel_rfl
theorem lc_min_min : E [109, 105, 110] [109, 105, 110] = true := by kernel_rfl
theorem lc_min_max : E [109, 105, 110] [109, 97, 120] = false := by kernel_rfl
theorem lc_min_lt : E [109, 105, 110] [108, 116] = false := by kernel_rfl
theorem lc_min_le : E [109, 105, 110] [108, 101] = false := by kernel_rfl
theorem lc_min_eq : E [109, 105, 110] [101, 113] = false := by kernel_rfl
theorem lc_min_ne : E [109, 105, 110] [110, 101] = false := by kernel_rfl
theorem lc_min_and : E [109, 105, 110] [97, 110, 100] = false := by kernel_rfl
theorem lc_min_or : E [109, 105, 110] [111, 114] = false := by kernel_rfl
theorem lc_min_xor : E [109, 105, 110] [120, 111, 114] = false := by kernel_rfl
theorem lc_min_shl : E [109, 105, 110] [115, 104, 108] = false := by kernel_rfl
theorem lc_min_shr : E [109, 105, 110] [115, 104, 114] = false := by kernel_rfl
theorem lc_min_neg : E [109, 105, 110] [110, 101, 103] = false := by kernel_rfl
theorem lc_min_abs : E [109, 105, 110] [97, 98, 115] = false := by kernel_rfl
theorem lc_min_floor : E [109, 105, 110] [102, 108, 111, 111, 114] = false := by kernel_rfl
theorem lc_min_round : E [109, 105, 110] [114, 111, 117, 110, 100] = false := by kernel_rfl
theorem lc_min_frac : E [109, 105, 110] [102, 114, 97, 99] = false := by kernel_rfl
theorem lc_min_not : E [109, 105, 110] [110, 111, 116] = false := by kernel_rfl
theorem lc_min_pick : E [109, 105, 110] [112, 105, 99, 107] = false := by kernel_rfl
theorem lc_max_add : E [109, 97, 120] [97, 100, 100] = false := by kernel_rfl
theorem lc_max_sub : E [109, 97, 120] [115, 117, 98] = false := by kernel_rfl
theorem lc_max_mul : E [109, 97, 120] [109, 117, 108] = false := by kernel_rfl
theorem lc_max_div : E [109, 97, 120] [100, 105, 118] = false := by kernel_rfl
theorem lc_max_mod : E [109, 97, 120] [109, 111, 100] = false := by kernel_rfl
theorem lc_max_min : E [109, 97, 120] [109, 105, 110] = false := by kernel_rfl
theorem lc_max_max : E [109, 97, 120] [109, 97, 120] = true := by kernel_rfl
theorem lc_max_lt : E [109, 97, 120] [108, 116] = false := by kernel_rfl
theorem lc_max_le : E [109, 97, 120] [108, 101] = false := by kernel_rfl
theorem lc_max_eq : E [109, 97, 120] [101, 113] = false := by kernel_rfl
theorem lc_max_ne : E [109, 97, 120] [110, 101] = false := by kernel_rfl
theorem lc_max_and : E [109, 97, 120] [97, 110, 100] = false := by kernel_rfl
theorem lc_max_or : E [109, 97, 120] [111, 114] = false := by kernel_rfl
theorem lc_max_xor : E [109, 97, 120] [120, 111, 114] = false := by kernel_rfl
theorem lc_max_shl : E [109, 97, 120] [115, 104, 108] = false := by kernel_rfl
theorem lc_max_shr : E [109, 97, 120] [115, 104, 114] = false := by kernel_rfl
theorem lc_max_neg : E [109, 97, 120] [110, 101, 103] = false := by kernel_rfl
theorem lc_max_abs : E [109, 97, 120] [97, 98, 115] = false := by kernel_rfl
theorem lc_max_floor : E [109, 97, 120] [102, 108, 111, 111, 114] = false := by kernel_rfl
theorem lc_max_round : E [109, 97, 120] [114, 111, 117, 110, 100] = false := by kernel_rfl
theorem lc_max_frac : E [109, 97, 120] [102, 114, 97, 99] = false := by kernel_rfl
theorem lc_max_not : E [109, 97, 120] [110, 111, 116] = false := by kernel_rfl
theorem lc_max_pick : E [109, 97, 120] [112, 105, 99, 107] = false := by kernel_rfl
theorem lc_lt_add : E [108, 116] [97, 100, 100] = false := by kernel_rfl
theorem lc_lt_sub : E [108, 116] [115, 117, 98] = false := by kernel_rfl
theorem lc_lt_mul : E [108, 116] [109, 117, 108] = false := by kernel_rfl
theorem lc_lt_div : E [108, 116] [100, 105, 118] = false := by kernel_rfl
theorem lc_lt_mod : E [108, 116] [109, 111, 100] = false := by kernel_rfl
theorem lc_lt_min : E [108, 116] [109, 105, 110] = false := by kernel_rfl
theorem lc_lt_max : E [108, 116] [109, 97, 120] = false := by kernel_rfl
theorem lc_lt_lt : E [108, 116] [108, 116] = true := by kernel_rfl
theorem lc_lt_le : E [108, 116] [108, 101] = false := by kernel_rfl
theorem lc_lt_eq : E [108, 116] [101, 113] = false := by kernel_rfl
theorem lc_lt_ne : E [108, 116] [110, 101] = false := by kernel_rfl
theorem lc_lt_and : E [108, 116] [97, 110, 100] = false := by kernel_rfl
theorem lc_lt_or : E [108, 116] [111, 114] = false := by kernel_rfl
theorem lc_lt_xor : E [108, 116] [120, 111, 114] = false := by kernel_rfl
theorem lc_lt_shl : E [108, 116] [115, 104, 108] = false := by kernel_rfl
theorem lc_lt_shr : E [108, 116] [115, 104, 114] = false := by kernel_rfl
theorem lc_lt_neg : E [108, 116] [110, 101, 103] = false := by kernel_rfl
theorem lc_lt_abs : E [108, 116] [97, 98, 115] = false := by kernel_rfl
theorem lc_lt_floor : E [108, 116] [102, 108, 111, 111, 114] = false := by kernel_rfl
theorem lc_lt_round : E [108, 116] [114, 111, 117, 110, 100] = false := by kernel_rfl
theorem lc_lt_frac : E [108, 116] [102, 114, 97, 99] = false := by kernel_rfl
theorem lc_lt_not : E [108, 116] [110, 111, 116] = false := by kernel_rfl
theorem lc_lt_pick : E [108, 116] [112, 105, 99, 107] = false := by kernel_rfl
theorem lc_le_add : E [108, 101] [97, 100, 100] = false := by kernel_rfl
theorem lc_le_sub : E [108, 101] [115, 117, 98] = false := by kernel_rfl
theorem lc_le_mul : E [108, 101] [109, 117, 108] = false := by kernel_rfl
theorem lc_le_div : E [108, 101] [100, 105, 118] = false := by kernel_rfl
theorem lc_le_mod : E [108, 101] [109, 111, 100] = false := by kernel_rfl
theorem lc_le_min : E [108, 101] [109, 105, 110] = false := by kernel_rfl
theorem lc_le_max : E [108, 101] [109, 97, 120] = false := by kernel_rfl
theorem lc_le_lt : E [108, 101] [108, 116] = false := by kernel_rfl
theorem lc_le_le : E [108, 101] [108, 101] = true := by kernel_rfl
theorem lc_le_eq : E [108, 101] [101, 113] = false := by kernel_rfl
theorem lc_le_ne : E [108, 101] [110, 101] = false := by kernel_rfl
theorem lc_le_and : E [108, 101] [97, 110, 100] = false := by kernel_rfl
theorem lc_le_or : E [108, 101] [111, 114] = false := by kernel_rfl
theorem lc_le_xor : E [108, 101] [120, 111, 114] = false := by kernel_rfl
theorem lc_le_shl : E [108, 101] [115, 104, 108] = false := by kernel_rfl
theorem lc_le_shr : E [108, 101] [115, 104, 114] = false := by kernel_rfl
theorem lc_le_neg : E [108, 101] [110, 101, 103] = false := by kernel_rfl
theorem lc_le_abs : E [108, 101] [97, 98, 115] = false := by kernel_rfl
theorem lc_le_floor : E [108, 101] [102, 108, 111, 111, 114] = false := by kernel_rfl
theorem lc_le_round : E [108, 101] [114, 111, 117, 110, 100] = false := by kernel_rfl
theorem lc_le_frac : E [108, 101] [102, 114, 97, 99] = false := by kernel_rfl
theorem lc_le_not : E [108, 101] [110, 111, 116] = false := by kernel_rfl
theorem lc_le_pick : E [108, 101] [112, 105, 99, 107] = false := by kernel_rfl
theorem lc_eq_add : E [101, 113] [97, 100, 100] = false := by kernel_rfl
theorem lc_eq_sub : E [101, 113] [115, 117, 98] = false := by kernel_rfl
theorem lc_eq_mul : E [101, 113] [109, 117, 108] = false := by kernel_rfl
theorem lc_eq_div : E [101, 113] [100, 105, 118] = false := by kernel_rfl
theorem lc_eq_mod : E [101, 113] [109, 111, 100] = false := by kernel_rfl
theorem lc_eq_min : E [101, 113] [109, 105, 110] = false := by kernel_rfl
theorem lc_eq_max : E [101, 113] [109, 97, 120] = false := by kernel_rfl
theorem lc_eq_lt : E [101, 113] [108, 116] = false := by kernel_rfl
theorem lc_eq_le : E [101, 113] [108, 101] = false := by kernel_rfl
theorem lc_eq_eq : E [101, 113] [101, 113] = true := by kernel_rfl
theorem lc_eq_ne : E [101, 113] [110, 101] = false := by kernel_rfl
theorem lc_eq_and : E [101, 113] [97, 110, 100] = false := by kernel_rfl
theorem lc_eq_or : E [101, 113] [111, 114] = false := by kernel_rfl
theorem lc_eq_xor : E [101, 113] [120, 111, 114] = false := by kernel_rfl
theorem lc_eq_shl : E [101, 113] [115, 104, 108] = false := by kernel_rfl
theorem lc_eq_shr : E [101, 113] [115, 104, 114] = false := by kernel_rfl
theorem lc_eq_neg : E [101, 113] [110, 101, 103] = false := by kernel_rfl
theorem lc_eq_abs : E [101, 113] [97, 98, 115] = false := by kernel_rfl
theorem lc_eq_floor : E [101, 113] [102, 108, 111, 111, 114] = false := by kernel_rfl
theorem lc_eq_round : E [101, 113] [114, 111, 117, 110, 100] = false := by kernel_rfl
theorem lc_eq_frac : E [101, 113] [102, 114, 97, 99] = false := by kernel_rfl
theorem lc_eq_not : E [101, 113] [110, 111, 116] = false := by kernel_rfl
theorem lc_eq_pick : E [101, 113] [112, 105, 99, 107] = false := by kernel_rfl
theorem lc_ne_add : E [110, 101] [97, 100, 100] = false := by kernel_rfl
theorem lc_ne_sub : E [110, 101] [115, 117, 98] = false := by kernel_rfl
theorem lc_ne_mul : E [110, 101] [109, 117, 108] = false := by kernel_rfl
theorem lc_ne_div : E [110, 101] [100, 105, 118] = false := by kernel_rfl
theorem lc_ne_mod : E [110, 101] [109, 111, 100] = false := by kernel_rfl
theorem lc_ne_min : E [110, 101] [109, 105, 110] = false := by kernel_rfl
theorem lc_ne_max : E [110, 101] [109, 97, 120] = false := by kernel_rfl
theorem lc_ne_lt : E [110, 101] [108, 116] = false := by kernel_rfl
theorem lc_ne_le : E [110, 101] [108, 101] = false := by kernel_rfl
theorem lc_ne_eq : E [110, 101] [101, 113] = false := by kernel_rfl
theorem lc_ne_ne : E [110, 101] [110, 101] = true := by kernel_rfl
theorem lc_ne_and : E [110, 101] [97, 110, 100] = false := by kernel_rfl
theorem lc_ne_or : E [110, 101] [111, 114] = false := by kernel_rfl
theorem lc_ne_xor : E [110, 101] [120, 111, 114] = false := by kernel_rfl
theorem lc_ne_shl : E [110, 101] [115, 104, 108] = false := by kernel_rfl
theorem lc_ne_shr : E [110, 101] [115, 104, 114] = false := by kernel_rfl
theorem lc_ne_neg : E [110, 101] [110, 101, 103] = false := by kernel_rfl
theorem lc_ne_abs : E [110, 101] [97, 98, 115] = false := by kernel_rfl
theorem lc_ne_floor : E [110, 101] [102, 108, 111, 111, 114] = false := by kernel_rfl
theorem lc_ne_round : E [110, 101] [114, 111, 117, 110, 100] = false := by kernel_rfl
theorem lc_ne_frac : E [110, 101] [102, 114, 97, 99] = false := by kernel_rfl
theorem lc_ne_not : E [110, 101] [110, 111, 116] = false := by kernel_rfl
theorem lc_ne_pick : E [110, 101] [112, 105, 99, 107] = false := by kernel_rfl
theorem lc_and_add : E [97, 110, 100] [97, 100, 100] = false := by kernel_rfl
theorem lc_and_sub : E [97, 110, 100] [115, 117, 98] = false := by kernel_rfl
theorem lc_and_mul : E [97, 110, 100] [109, 117, 108] = false := by kernel_rfl
theorem lc_and_div : E [97, 110, 100] [100, 105, 118] = false := by kernel_rfl
theorem lc_and_mod : E [97, 110, 100] [109, 111, 100] = false := by kernel_rfl
theorem lc_and_min : E [97, 110, 100] [109, 105, 110] = false := by kernel_rfl
theorem lc_and_max : E [97, 110, 100] [109, 97, 120] = false := by kernel_rfl
theorem lc_and_lt : E [97, 110, 100] [108, 116] = false := by kernel_rfl
theorem lc_and_le : E [97, 110, 100] [108, 101] = false := by kernel_rfl
theorem lc_and_eq : E [97, 110, 100] [101, 113] = false := by kernel_rfl
theorem lc_and_ne : E [97, 110, 100] [110, 101] = false := by kernel_rfl
theorem lc_and_and : E [97, 110, 100] [97, 110, 100] = true := by kernel_rfl
theorem lc_and_or : E [97, 110, 100] [111, 114] = false := by kernel_rfl
theorem lc_and_xor : E [97, 110, 100] [120, 111, 114] = false := by kernel_rfl
theorem lc_and_shl : E [97, 110, 100] [115, 104, 108] = false := by kernel_rfl
theorem lc_and_shr : E [97, 110, 100] [115, 104, 114] = false := by kernel_rfl
theorem lc_and_neg : E [97, 110, 100] [110, 101, 103] = false := by kernel_rfl
theorem lc_and_abs : E [97, 110, 100] [97, 98, 115] = false := by kernel_rfl
theorem lc_and_floor : E [97, 110, 100] [102, 108, 111, 111, 114] = false := by kernel_rfl
theorem lc_and_round : E [97, 110, 100] [114, 111, 117, 110, 100] = false := by kernel_rfl
theorem lc_and_frac : E [97, 110, 100] [102, 114, 97, 99] = false := by kernel_rfl
theorem lc_and_not : E [97, 110, 100] [110, 111, 116] = false := by kernel_rfl
theorem lc_and_pick : E [97, 110, 100] [112, 105, 99, 107] = false := by kernel_rfl
theorem lc_or_add : E [111, 114] [97, 100, 100] = false := by kernel_rfl
theorem lc_or_sub : E [111, 114] [115, 117, 98] = false := by kernel_rfl
theorem lc_or_mul : E [111, 114] [109, 117, 108] = false := by kernel_rfl
theorem lc_or_div : E [111, 114] [100, 105, 118] = false := by kernel_rfl
theorem lc_or_mod : E [111, 114] [109, 111, 100] = false := by kernel_rfl
theorem lc_or_min : E [111, 114] [109, 105, 110] = false := by kernel_rfl
theorem lc_or_max : E [111, 114] [109, 97, 120] = false := by kernel_rfl
theorem lc_or_lt : E [111, 114] [108, 116] = false := by kernel_rfl
theorem lc_or_le : E [111, 114] [108, 101] = false := by kernel_rfl
theorem lc_or_eq : E [111, 114] [101, 113] = false := by kernel_rfl
theorem lc_or_ne : E [111, 114] [110, 101] = false := by kernel_rfl
theorem lc_or_and : E [111, 114] [97, 110, 100] = false := by kernel_rfl
theorem lc_or_or : E [111, 114] [111, 114] = true := by kernel_rfl
theorem lc_or_xor : E [111, 114] [120, 111, 114] = false := by kernel_rfl
theorem lc_or_shl : E [111, 114] [115, 104, 108] = false := by kernel_rfl
theorem lc_or_shr : E [111, 114] [115, 104, 114] = false := by kernel_rfl
theorem lc_or_neg : E [111, 114] [110, 101, 103] = false := by kernel_rfl
theorem lc_or_abs : E [111, 114] [97, 98, 115] = false := by kernel_rfl
theorem lc_or_floor : E [111, 114] [102, 108, 111, 111, 114] = false := by kernel_rfl
theorem lc_or_round : E [111, 114] [114, 111, 117, 110, 100] = false := by kernel_rfl
theorem lc_or_frac : E [111, 114] [102, 114, 97, 99] = false := by kernel_rfl
theorem lc_or_not : E [111, 114] [110, 111, 116] = false := by kernel_rfl
theorem lc_or_pick : E [111, 114] [112, 105, 99, 107] = false := by kernel_rfl
theorem lc_xor_add : E [120, 111, 114] [97, 100, 100] = false := by kernel_rfl
theorem lc_xor_sub : E [120, 111, 114] [115, 117, 98] = false := by kernel_rfl
theorem lc_xor_mul : E [120, 111, 114] [109, 117, 108] = false := by kernel_rfl
theorem lc_xor_div : E [120, 111, 114] [100, 105, 118] = false := by kernel_rfl
theorem lc_xor_mod : E [120, 111, 114] [109, 111, 100] = false := by kernel_rfl
theorem lc_xor_min : E [120, 111, 114] [109, 105, 110] = false := by kernel_rfl
theorem lc_xor_max : E [120, 111, 114] [109, 97, 120] = false := by kernel_rfl
theorem lc_xor_lt : E [120, 111, 114] [108, 116] = false := by kernel_rfl
theorem lc_xor_le : E [120, 111, 114] [108, 101] = false := by kernel_rfl
theorem lc_xor_eq : E [120, 111, 114] [101, 113] = false := by kernel_rfl
theorem lc_xor_ne : E [120, 111, 114] [110, 101] = false := by kernel_rfl
theorem lc_xor_and : E [120, 111, 114] [97, 110, 100] = false := by kernel_rfl
theorem lc_xor_or : E [120, 111, 114] [111, 114] = false := by kernel_rfl
theorem lc_xor_xor : E [120, 111, 114] [120, 111, 114] = true := by kernel_rfl
theorem lc_xor_shl : E [120, 111, 114] [115, 104, 108] = false := by kernel_rfl
theorem lc_xor_shr : E [120, 111, 114] [115, 104, 114] = false := by kernel_rfl
theorem lc_xor_neg : E [120, 111, 114] [110, 101, 103] = false := by kernel_rfl
theorem lc_xor_abs : E [120, 111, 114] [97, 98, 115] = false := by kernel_rfl
theorem lc_xor_floor : E [120, 111, 114] [102, 108, 111, 111, 114] = false := by kernel_rfl
theorem lc_xor_round : E [120, 111, 114] [114, 111, 117, 110, 100] = false := by kernel_rfl
theorem lc_xor_frac : E [120, 111, 114] [102, 114, 97, 99] = false := by kernel_rfl
theorem lc_xor_not : E [120, 111, 114] [110, 111, 116] = false := by kernel_rfl
theorem lc_xor_pick : E [120, 111, 114] [112, 105, 99, 107] = false := by kernel_rfl
theorem lc_shl_add : E [115, 104, 108] [97, 100, 100] = false := by kernel_rfl
theorem lc_shl_sub : E [115, 104, 108] [115, 117, 98] = false := by kernel_rfl
theorem lc_shl_mul : E [115, 104, 108] [109, 117, 108] = false := by kernel_rfl
theorem lc_shl_div : E [115, 104, 108] [100, 105, 118] = false := by kernel_rfl
theorem lc_shl_mod : E [115, 104, 108] [109, 111, 100] = false := by kernel_rfl
theorem lc_shl_min : E [115, 104, 108] [109, 105, 110] = false := by kernel_rfl
theorem lc_shl_max : E [115, 104, 108] [109, 97, 120] = false := by kernel_rfl
theorem lc_shl_lt : E [115, 104, 108] [108, 116] = false := by kernel_rfl
theorem lc_shl_le : E [115, 104, 108] [108, 101] = false := by kernel_rfl
theorem lc_shl_eq : E [115, 104, 108] [101, 113] = false := by kernel_rfl
theorem lc_shl_ne : E [115, 104, 108] [110, 101] = false := by kernel_rfl
theorem lc_shl_and : E [115, 104, 108] [97, 110, 100] = false := by kernel_rfl
theorem lc_shl_or : E [115, 104, 108] [111, 114] = false := by kernel_rfl
theorem lc_shl_xor : E [115, 104, 108] [120, 111, 114] = false := by kernel_rfl
theorem lc_shl_shl : E [115, 104, 108] [115, 104, 108] = true := by kernel_rfl
theorem lc_shl_shr : E [115, 104, 108] [115, 104, 114] = false := by kernel_rfl
theorem lc_shl_neg : E [115, 104, 108] [110, 101, 103] = false := by kernel_rfl
theorem lc_shl_abs : E [115, 104, 108] [97, 98, 115] = false := by kernel_rfl
theorem lc_shl_floor : E [115, 104, 108] [102, 108, 111, 111, 114] = false := by kernel_rfl
theorem lc_shl_round : E [115, 104, 108] [114, 111, 117, 110, 100] = false := by kernel_rfl
theorem lc_shl_frac : E [115, 104, 108] [102, 114, 97, 99] = false := by kernel_rfl
theorem lc_shl_not : E [115, 104, 108] [110, 111, 116] = false := by kernel_rfl
theorem lc_shl_pick : E [115, 104, 108] [112, 105, 99, 107] = false := by kernel_rfl
theorem lc_shr_add : E [115, 104, 114] [97, 100, 100] = false := by kernel_rfl
theorem lc_shr_sub : E [115, 104, 114] [115, 117, 98] = false := by kernel_rfl
theorem lc_shr_mul : E [115, 104, 114] [109, 117, 108] = false := by kernel_rfl
theorem lc_shr_div : E [115, 104, 114] [100, 105, 118] = false := by kernel_rfl
theorem lc_shr_mod : E [115, 104, 114] [109, 111, 100] = false := by kernel_rfl
theorem lc_shr_min : E [115, 104, 114] [109, 105, 110] = false := by kernel_rfl
theorem lc_shr_max : E [115, 104, 114] [109, 97, 120] = false := by kernel_rfl
theorem lc_shr_lt : E [115, 104, 114] [108, 116] = false := by kernel_rfl
theorem lc_shr_le : E [115, 104, 114] [108, 101] = false := by kernel_rfl
theorem lc_shr_eq : E [115, 104, 114] [101, 113] = false := by kernel_rfl
theorem lc_shr_ne : E [115, 104, 114] [110, 101] = false := by kernel_rfl
theorem lc_shr_and : E [115, 104, 114] [97, 110, 100] = false := by kernel_rfl
theorem lc_shr_or : E [115, 104, 114] [111, 114] = false := by kernel_rfl
theorem lc_shr_xor : E [115, 104, 114] [120, 111, 114] = false := by kernel_rfl
theorem lc_shr_shl : E [115, 104, 114] [115, 104, 108] = false := by kernel_rfl
theorem lc_shr_shr : E [115, 104, 114] [115, 104, 114] = true := by kernel_rfl
theorem lc_shr_neg : E [115, 104, 114] [110, 101, 103] = false := by kernel_rfl
theorem lc_shr_abs : E [115, 104, 114] [97, 98, 115] = false := by kernel_rfl
theorem lc_shr_floor : E [115, 104, 114] [102, 108, 111, 111, 114] = false := by kernel_rfl
theorem lc_shr_round : E [115, 104, 114] [114, 111, 117, 110, 100] = false := by kernel_rfl
theorem lc_shr_frac : E [115, 104, 114] [102, 114, 97, 99] = false := by kernel_rfl
theorem lc_shr_not : E [115, 104, 114] [110, 111, 116] = false := by kernel_rfl
theorem lc_shr_pick : E [115, 104, 114] [112, 105, 99, 107] = false := by kernel_rfl
theorem lc_neg_add : E [110, 101, 103] [97, 100, 100] = false := by kernel_rfl
theorem lc_neg_sub : E [110, 101, 103] [115, 117, 98] = false := by kernel_rfl
theorem lc_neg_mul : E [110, 101, 103] [109, 117, 108] = false := by kernel_rfl
theorem lc_neg_div : E [110, 101, 103] [100, 105, 118] = false := by kernel_rfl
theorem lc_neg_mod : E [110, 101, 103] [109, 111, 100] = false := by kernel_rfl
theorem lc_neg_min : E [110, 101, 103] [109, 105, 110] = false := by kernel_rfl
theorem lc_neg_max : E [110, 101, 103] [109, 97, 120] = false := by kernel_rfl
theorem lc_neg_lt : E [110, 101, 103] [108, 116] = false := by kernel_rfl
theorem lc_neg_le : E [110, 101, 103] [108, 101] = false := by kernel_rfl
theorem lc_neg_eq : E [110, 101, 103] [101, 113] = false := by kernel_rfl
theorem lc_neg_ne : E [110, 101, 103] [110, 101] = false := by kernel_rfl
theorem lc_neg_and : E [110, 101, 103] [97, 110, 100] = false := by kernel_rfl
theorem lc_neg_or : E [110, 101, 103] [111, 114] = false := by kernel_rfl
theorem lc_neg_xor : E [110, 101, 103] [120, 111, 114] = false := by kernel_rfl
theorem lc_neg_shl : E [110, 101, 103] [115, 104, 108] = false := by kernel_rfl
theorem lc_neg_shr : E [110, 101, 103] [115, 104, 114] = false := by kernel_rfl
theorem lc_neg_neg : E [110, 101, 103] [110, 101, 103] = true := by kernel_rfl
theorem lc_neg_abs : E [110, 101, 103] [97, 98, 115] = false := by kernel_rfl
theorem lc_neg_floor : E [110, 101, 103] [102, 108, 111, 111, 114] = false := by kernel_rfl
theorem lc_neg_round : E [110, 101, 103] [114, 111, 117, 110, 100] = false := by kernel_rfl
theorem lc_neg_frac : E [110, 101, 103] [102, 114, 97, 99] = false := by kernel_rfl
theorem lc_neg_not : E [110, 101, 103] [110, 111, 116] = false := by kernel_rfl
theorem lc_neg_pick : E [110, 101, 103] [112, 105, 99, 107] = false := by kernel_rfl
theorem lc_abs_add : E [97, 98, 115] [97, 100, 100] = false := by kernel_rfl
theorem lc_abs_sub : E [97, 98, 115] [115, 117, 98] = false := by kernel_rfl
theorem lc_abs_mul : E [97, 98, 115] [109, 117, 108] = false := by kernel_rfl
theorem lc_abs_div : E [97, 98, 115] [100, 105, 118] = false := by kernel_rfl
theorem lc_abs_mod : E [97, 98, 115] [109, 111, 100] = false := by kernel_rfl
theorem lc_abs_min : E [97, 98, 115] [109, 105, 110] = false := by kernel_rfl
theorem lc_abs_max : E [97, 98, 115] [109, 97, 120] = false := by kernel_rfl
theorem lc_abs_lt : E [97, 98, 115] [108, 116] = false := by kernel_rfl
theorem lc_abs_le : E [97, 98, 115] [108, 101] = false := by kernel_rfl
theorem lc_abs_eq : E [97, 98, 115] [101, 113] = false := by kernel_rfl
theorem lc_abs_ne : E [97, 98, 115] [110, 101] = false := by kernel_rfl
theorem lc_abs_and : E [97, 98, 115] [97, 110, 100] = false := by kernel_rfl
theorem lc_abs_or : E [97, 98, 115] [111, 114] = false := by kernel_rfl
theorem lc_abs_xor : E [97, 98, 115] [120, 111, 114] = false := by kernel_rfl
theorem lc_abs_shl : E [97, 98, 115] [115, 104, 108] = false := by kernel_rfl
theorem lc_abs_shr : E [97, 98, 115] [115, 104, 114] = false := by kernel_rfl
theorem lc_abs_neg : E [97, 98, 115] [110, 101, 103] = false := by kernel_rfl
theorem lc_abs_abs : E [97, 98, 115] [97, 98, 115] = true := by kernel_rfl
theorem lc_abs_floor : E [97, 98, 115] [102, 108, 111, 111, 114] = false := by kernel_rfl
theorem lc_abs_round : E [97, 98, 115] [114, 111, 117, 110, 100] = false := by kernel_rfl
theorem lc_abs_frac : E [97, 98, 115] [102, 114, 97, 99] = false := by kernel_rfl
theorem lc_abs_not : E [97, 98, 115] [110, 111, 116] = false := by kernel_rfl
theorem lc_abs_pick : E [97, 98, 115] [112, 105, 99, 107] = false := by kernel_rfl
theorem lc_floor_add : E [102, 108, 111, 111, 114] [97, 100, 100] = false := by kernel_rfl
theorem lc_floor_sub : E [102, 108, 111, 111, 114] [115, 117, 98] = false := by kernel_rfl
theorem lc_floor_mul : E [102, 108, 111, 111, 114] [109, 117, 108] = false := by kernel_rfl
theorem lc_floor_div : E [102, 108, 111, 111, 114] [100, 105, 118] = false := by kernel_rfl
theorem lc_floor_mod : E [102, 108, 111, 111, 114] [109, 111, 100] = false := by kernel_rfl
theorem lc_floor_min : E [102, 108, 111, 111, 114] [109, 105, 110] = false := by kernel_rfl
theorem lc_floor_max : E [102, 108, 111, 111, 114] [109, 97, 120] = false := by kernel_rfl
theorem lc_floor_lt : E [102, 108, 111, 111, 114] [108, 116] = false := by kernel_rfl
theorem lc_floor_le : E [102, 108, 111, 111, 114] [108, 101] = false := by kernel_rfl
theorem lc_floor_eq : E [102, 108, 111, 111, 114] [101, 113] = false := by kernel_rfl
theorem lc_floor_ne : E [102, 108, 111, 111, 114] [110, 101] = false := by kernel_rfl
theorem lc_floor_and : E [102, 108, 111, 111, 114] [97, 110, 100] = false := by kernel_rfl
theorem lc_floor_or : E [102, 108, 111, 111, 114] [111, 114] = false := by kernel_rfl
theorem lc_floor_xor : E [102, 108, 111, 111, 114] [120, 111, 114] = false := by kernel_rfl
theorem lc_floor_shl : E [102, 108, 111, 111, 114] [115, 104, 108] = false := by kernel_rfl
theorem lc_floor_shr : E [102, 108, 111, 111, 114] [115, 104, 114] = false := by kernel_rfl
theorem lc_floor_neg : E [102, 108, 111, 111, 114] [110, 101, 103] = false := by kernel_rfl
theorem lc_floor_abs : E [102, 108, 111, 111, 114] [97, 98, 115] = false := by kernel_rfl
theorem lc_floor_floor : E [102, 108, 111, 111, 114] [102, 108, 111, 111, 114] = true := by kernel_rfl
theorem lc_floor_round : E [102, 108, 111, 111, 114] [114, 111, 117, 110, 100] = false := by kernel_rfl
theorem lc_floor_frac : E [102, 108, 111, 111, 114] [102, 114, 97, 99] = false := by kernel_rfl
theorem lc_floor_not : E [102, 108, 111, 111, 114] [110, 111, 116] = false := by kernel_rfl
theorem lc_floor_pick : E [102, 108, 111, 111, 114] [112, 105, 99, 107] = false := by kernel_rfl
theorem lc_round_add : E [114, 111, 117, 110, 100] [97, 100, 100] = false := by kernel_rfl
theorem lc_round_sub : E [114, 111, 117, 110, 100] [115, 117, 98] = false := by kernel_rfl
theorem lc_round_mul : E [114, 111, 117, 110, 100] [109, 117, 108] = false := by kernel_rfl
theorem lc_round_div : E [114, 111, 117, 110, 100] [100, 105, 118] = false := by kernel_rfl
theorem lc_round_mod : E [114, 111, 117, 110, 100] [109, 111, 100] = false := by kernel_rfl
theorem lc_round_min : E [114, 111, 117, 110, 100] [109, 105, 110] = false := by kernel_rfl
theorem lc_round_max : E [114, 111, 117, 110, 100] [109, 97, 120] = false := by kernel_rfl
theorem lc_round_lt : E [114, 111, 117, 110, 100] [108, 116] = false := by kernel_rfl
theorem lc_round_le : E [114, 111, 117, 110, 100] [108, 101] = false := by kernel_rfl
theorem lc_round_eq : E [114, 111, 117, 110, 100] [101, 113] = false := by kernel_rfl
theorem lc_round_ne : E [114, 111, 117, 110, 100] [110, 101] = false := by kernel_rfl
theorem lc_round_and : E [114, 111, 117, 110, 100] [97, 110, 100] = false := by kernel_rfl
theorem lc_round_or : E [114, 111, 117, 110, 100] [111, 114] = false := by kernel_rfl
theorem lc_round_xor : E [114, 111, 117, 110, 100] [120, 111, 114] = false := by kernel_rfl
theorem lc_round_shl : E [114, 111, 117, 110, 100] [115, 104, 108] = false := by kernel_rfl
theorem lc_round_shr : E [114, 111, 117, 110, 100] [115, 104, 114] = false := by kernel_rfl
theorem lc_round_neg : E [114, 111, 117, 110, 100] [110, 101, 103] = false := by kernel_rfl
theorem lc_round_abs : E [114, 111, 117, 110, 100] [97, 98, 115] = false := by kernel_rfl
theorem lc_round_floor : E [114, 111, 117, 110, 100] [102, 108, 111, 111, 114] = false := by kernel_rfl
theorem lc_round_round : E [114, 111, 117, 110, 100] [114, 111, 117, 110, 100] = true := by kernel_rfl
theorem lc_round_frac : E [114, 111, 117, 110, 100] [102, 114, 97, 99] = false := by kernel_rfl
theorem lc_round_not : E [114, 111, 117, 110, 100] [110, 111, 116] = false := by kernel_rfl
theorem lc_round_pick : E [114, 111, 117, 110, 100] [112, 105, 99, 107] = false := by kernel_rfl
theorem lc_frac_add : E [102, 114, 97, 99] [97, 100, 100] = false := by kernel_rfl
theorem lc_frac_sub : E [102, 114, 97, 99] [115, 117, 98] = false := by kernel_rfl
theorem lc_frac_mul : E [102, 114, 97, 99] [109, 117, 108] = false := by kernel_rfl
theorem lc_frac_div : E [102, 114, 97, 99] [100, 105, 118] = false := by kernel_rfl
theorem lc_frac_mod : E [102, 114, 97, 99] [109, 111, 100] = false := by kernel_rfl
theorem lc_frac_min : E [102, 114, 97, 99] [109, 105, 110] = false := by kernel_rfl
theorem lc_frac_max : E [102, 114, 97, 99] [109, 97, 120] = false := by kernel_rfl
theorem lc_frac_lt : E [102, 114, 97, 99] [108, 116] = false := by kernel_rfl
theorem lc_frac_le : E [102, 114, 97, 99] [108, 101] = false := by kernel_rfl
theorem lc_frac_eq : E [102, 114, 97, 99] [101, 113] = false := by kernel_rfl
theorem lc_frac_ne : E [102, 114, 97, 99] [110, 101] = false := by kernel_rfl
theorem lc_frac_and : E [102, 114, 97, 99] [97, 110, 100] = false := by kernel_rfl
theorem lc_frac_or : E [102, 114, 97, 99] [111, 114] = false := by kernel_rfl
theorem lc_frac_xor : E [102, 114, 97, 99] [120, 111, 114] = false := by kernel_rfl
theorem lc_frac_shl : E [102, 114, 97, 99] [115, 104, 108] = false := by kernel_rfl
theorem lc_frac_shr : E [102, 114, 97, 99] [115, 104, 114] = false := by kernel_rfl
theorem lc_frac_neg : E [102, 114, 97, 99] [110, 101, 103] = false := by kernel_rfl
theorem lc_frac_abs : E [102, 114, 97, 99] [97, 98, 115] = false := by kernel_rfl
theorem lc_frac_floor : E [102, 114, 97, 99] [102, 108, 111, 111, 114] = false := by kernel_rfl
theorem lc_frac_round : E [102, 114, 97, 99] [114, 111, 117, 110, 100] = false := by kernel_rfl
theorem lc_frac_frac : E [102, 114, 97, 99] [102, 114, 97, 99] = true := by kernel_rfl
theorem lc_frac_not : E [102, 114, 97, 99] [110, 111, 116] = false := by kernel_rfl
theorem lc_frac_pick : E [102, 114, 97, 99] [112, 105, 99, 107] = false := by kernel_rfl
theorem lc_not_add : E [110, 111, 116] [97, 100, 100] = false := by kernel_rfl
theorem lc_not_sub : E [110, 111, 116] [115, 117, 98] = false := by kernel_rfl
theorem lc_not_mul : E [110, 111, 116] [109, 117, 108] = false := by kernel_rfl
theorem lc_not_div : E [110, 111, 116] [100, 105, 118] = false := by kernel_rfl
theorem lc_not_mod : E [110, 111, 116] [109, 111, 100] = false := by kernel_rfl
theorem lc_not_min : E [110, 111, 116] [109, 105, 110] = false := by kernel_rfl
theorem lc_not_max : E [110, 111, 116] [109, 97, 120] = false := by kernel_rfl
theorem lc_not_lt : E [110, 111, 116] [108, 116] = false := by kernel_rfl
theorem lc_not_le : E [110, 111, 116] [108, 101] = false := by kernel_rfl
theorem lc_not_eq : E [110, 111, 116] [101, 113] = false := by kernel_rfl
theorem lc_not_ne : E [110, 111, 116] [110, 101] = false := by kernel_rfl
theorem lc_not_and : E [110, 111, 116] [97, 110, 100] = false := by kernel_rfl
theorem lc_not_or : E [110, 111, 116] [111, 114] = false := by kernel_rfl
theorem lc_not_xor : E [110, 111, 116] [120, 111, 114] = false := by kernel_rfl
theorem lc_not_shl : E [110, 111, 116] [115, 104, 108] = false := by kernel_rfl
theorem lc_not_shr : E [110, 111, 116] [115, 104, 114] = false := by kernel_rfl
theorem lc_not_neg : E [110, 111, 116] [110, 101, 103] = false := by kernel_rfl
theorem lc_not_abs : E [110, 111, 116] [97, 98, 115] = false := by kernel_rfl
theorem lc_not_floor : E [110, 111, 116] [102, 108, 111, 111, 114] = false := by kernel_rfl
theorem lc_not_round : E [110, 111, 116] [114, 111, 117, 110, 100] = false := by kernel_rfl
theorem lc_not_frac : E [110, 111, 116] [102, 114, 97, 99] = false := by kernel_rfl
theorem lc_not_not : E [110, 111, 116] [110, 111, 116] = true := by kernel_rfl
theorem lc_not_pick : E [110, 111, 116] [112, 105, 99, 107] = false := by kernel_rfl
theorem lc_pick_add : E [112, 105, 99, 107] [97, 100, 100] = false := by kernel_rfl
theorem lc_pick_sub : E [112, 105, 99, 107] [115, 117, 98] = false := by kernel_rfl
theorem lc_pick_mul : E [112, 105, 99, 107] [109, 117, 108] = false := by kernel_rfl
theorem lc_pick_div : E [112, 105, 99, 107] [100, 105, 118] = false := by kernel_rfl
theorem lc_pick_mod : E [112, 105, 99, 107] [109, 111, 100] = false := by kernel_rfl
theorem lc_pick_min : E [112, 105, 99, 107] [109, 105, 110] = false := by kernel_rfl
theorem lc_pick_max : E [112, 105, 99, 107] [109, 97, 120] = false := by kernel_rfl
theorem lc_pick_lt : E [112, 105, 99, 107] [108, 116] = false := by kernel_rfl
theorem lc_pick_le : E [112, 105, 99, 107] [108, 101] = false := by kernel_rfl
theorem lc_pick_eq : E [112, 105, 99, 107] [101, 113] = false := by kernel_rfl
theorem lc_pick_ne : E [112, 105, 99, 107] [110, 101] = false := by kernel_rfl
theorem lc_pick_and : E [112, 105, 99, 107] [97, 110, 100] = false := by kernel_rfl
theorem lc_pick_or : E [112, 105, 99, 107] [111, 114] = false := by kernel_rfl
theorem lc_pick_xor : E [112, 105, 99, 107] [120, 111, 114] = false := by kernel_rfl
theorem lc_pick_shl : E [112, 105, 99, 107] [115, 104, 108] = false := by kernel_rfl
theorem lc_pick_shr : E [112, 105, 99, 107] [115, 104, 114] = false := by kernel_rfl
theorem lc_pick_neg : E [112, 105, 99, 107] [110, 101, 103] = false := by kernel_rfl
theorem lc_pick_abs : E [112, 105, 99, 107] [97, 98, 115] = false := by kernel_rfl
theorem lc_pick_floor : E [112, 105, 99, 107] [102, 108, 111, 111, 114] = false := by kernel_rfl
theorem lc_pick_round : E [112, 105, 99, 107] [114, 111, 117, 110, 100] = false := by kernel_rfl
theorem lc_pick_frac : E [112, 105, 99, 107] [102, 114, 97, 99] = false := by kernel_rfl
theorem lc_pick_not : E [112, 105, 99, 107] [110, 111, 116] = false := by kernel_rfl
theorem lc_pick_pick : E [112, 105, 99, 107] [112, 105, 99, 107] = true := by kernel_rfl
theorem tw_add (a b c d n : Int) (o e : Bool) (a' b' c' d' n' : Int) (o' e' : Bool) (k : Int → Int → Int → Int → Int → Bool → Bool → Option DV) : span_ofTwo ⟨#[97, 100, 100]⟩ a b c d n o e a' b' c' d' n' o' e' k = span_sum a b c d n o e a' b' c' d' n' o' e' k := by unfold span_ofTwo B_span_ofTwo; simp only [lc_add_add, lc_add_sub, lc_add_mul, lc_add_div, lc_add_mod, lc_add_min, lc_add_max, lc_add_lt, lc_add_le, lc_add_eq, lc_add_ne, lc_add_and, lc_add_or, lc_add_xor, lc_add_shl, lc_add_shr, lc_add_neg, lc_add_abs, lc_add_floor, lc_add_round, lc_add_frac, lc_add_not, lc_add_pick, cond_true, cond_false, Bool.not_true, Bool.not_false, Bool.true_or, Bool.false_or]
theorem rtw_add (a b c d n : Int) (o e : Bool) (a' b' c' d' n' : Int) (o' e' : Bool) (k : Int → Int → Int → Int → Int → Bool → Bool → Option DV) : serinetteref03_two ⟨#[97, 100, 100]⟩ a b c d n o e a' b' c' d' n' o' e' k = serinetteref03_Common n n' (fun r1 => serinetteref03_end a b (fun r2 r3 r4 => serinetteref03_end a' b' (fun r5 r6 r7 => serinetteref03_plus r2 r3 r4 r5 r6 r7 (fun r8 r9 r10 => serinetteref03_end c d (fun r11 r12 r13 => serinetteref03_end c' d' (fun r14 r15 r16 => serinetteref03_plus r11 r12 r13 r14 r15 r16 (fun r17 r18 r19 => serinetteref03_closed r8 r9 r10 r17 r18 r19 r1 (o || o') k))))))) := by unfold serinetteref03_two B_serinetteref03_two; cases o <;> simp only [lc_add_add, lc_add_sub, lc_add_mul, lc_add_div, lc_add_mod, lc_add_min, lc_add_max, lc_add_lt, lc_add_le, lc_add_eq, lc_add_ne, lc_add_and, lc_add_or, lc_add_xor, lc_add_shl, lc_add_shr, lc_add_neg, lc_add_abs, lc_add_floor, lc_add_round, lc_add_frac, lc_add_not, lc_add_pick, cond_true, cond_false, Bool.not_true, Bool.not_false, Bool.true_or, Bool.false_or]
theorem tw_sub (a b c d n : Int) (o e : Bool) (a' b' c' d' n' : Int) (o' e' : Bool) (k : Int → Int → Int → Int → Int → Bool → Bool → Option DV) : span_ofTwo ⟨#[115, 117, 98]⟩ a b c d n o e a' b' c' d' n' o' e' k = span_turned a' b' c' d' n' o' e' (fun r1 r2 r3 r4 r5 r6 r7 => span_sum a b c d n o e r1 r2 r3 r4 r5 r6 r7 k) := by unfold span_ofTwo B_span_ofTwo; simp only [lc_sub_add, lc_sub_sub, lc_sub_mul, lc_sub_div, lc_sub_mod, lc_sub_min, lc_sub_max, lc_sub_lt, lc_sub_le, lc_sub_eq, lc_sub_ne, lc_sub_and, lc_sub_or, lc_sub_xor, lc_sub_shl, lc_sub_shr, lc_sub_neg, lc_sub_abs, lc_sub_floor, lc_sub_round, lc_sub_frac, lc_sub_not, lc_sub_pick, cond_true, cond_false, Bool.not_true, Bool.not_false, Bool.true_or, Bool.false_or]
theorem rtw_sub (a b c d n : Int) (o e : Bool) (a' b' c' d' n' : Int) (o' e' : Bool) (k : Int → Int → Int → Int → Int → Bool → Bool → Option DV) : serinetteref03_two ⟨#[115, 117, 98]⟩ a b c d n o e a' b' c' d' n' o' e' k = serinetteref03_Common n n' (fun r1 => serinetteref03_end a b (fun r2 r3 r4 => serinetteref03_end c' d' (fun s1 s2 s3 => serinetteref03_minus s1 s2 s3 (fun r5 r6 r7 => serinetteref03_plus r2 r3 r4 r5 r6 r7 (fun r8 r9 r10 => serinetteref03_end c d (fun r11 r12 r13 => serinetteref03_end a' b' (fun s4 s5 s6 => serinetteref03_minus s4 s5 s6 (fun r14 r15 r16 => serinetteref03_plus r11 r12 r13 r14 r15 r16 (fun r17 r18 r19 => serinetteref03_closed r8 r9 r10 r17 r18 r19 r1 (o || o') k))))))))) := by unfold serinetteref03_two B_serinetteref03_two; cases o <;> simp only [lc_sub_add, lc_sub_sub, lc_sub_mul, lc_sub_div, lc_sub_mod, lc_sub_min, lc_sub_max, lc_sub_lt, lc_sub_le, lc_sub_eq, lc_sub_ne, lc_sub_and, lc_sub_or, lc_sub_xor, lc_sub_shl, lc_sub_shr, lc_sub_neg, lc_sub_abs, lc_sub_floor, lc_sub_round, lc_sub_frac, lc_sub_not, lc_sub_pick, cond_true, cond_false, Bool.not_true, Bool.not_false, Bool.true_or, Bool.false_or]
theorem tw_mul (a b c d n : Int) (o e : Bool) (a' b' c' d' n' : Int) (o' e' : Bool) (k : Int → Int → Int → Int → Int → Bool → Bool → Option DV) : span_ofTwo ⟨#[109, 117, 108]⟩ a b c d n o e a' b' c' d' n' o' e' k = span_product a b c d n o e a' b' c' d' n' o' e' (fun r1 r2 r3 r4 r5 r6 r7 => k r1 r2 r3 r4 r5 r6 r7) := by unfold span_ofTwo B_span_ofTwo; rw [show (ByteArray.toList (⟨#[109, 117, 108]⟩ : ByteArray) == ByteArray.toList (⟨#[97, 100, 100]⟩ : ByteArray)) = false from lc_mul_add, cond_false, show (ByteArray.toList (⟨#[109, 117, 108]⟩ : ByteArray) == ByteArray.toList (⟨#[115, 117, 98]⟩ : ByteArray)) = false from lc_mul_sub, cond_false, show (ByteArray.toList (⟨#[109, 117, 108]⟩ : ByteArray) == ByteArray.toList (⟨#[109, 117, 108]⟩ : ByteArray)) = true from lc_mul_mul, cond_true]
theorem rtw_mul (a b c d n : Int) (o e : Bool) (a' b' c' d' n' : Int) (o' e' : Bool) (k : Int → Int → Int → Int → Int → Bool → Bool → Option DV) : serinetteref03_two ⟨#[109, 117, 108]⟩ a b c d n o e a' b' c' d' n' o' e' k = serinetteref03_Common n n' (fun _ => serinetteref03_product a b c d n o e a' b' c' d' n' o' e' (o || o') k) := by unfold serinetteref03_two B_serinetteref03_two; cases o <;> simp only [lc_mul_add, lc_mul_sub, lc_mul_mul, lc_mul_div, lc_mul_mod, lc_mul_min, lc_mul_max, lc_mul_lt, lc_mul_le, lc_mul_eq, lc_mul_ne, lc_mul_and, lc_mul_or, lc_mul_xor, lc_mul_shl, lc_mul_shr, lc_mul_neg, lc_mul_abs, lc_mul_floor, lc_mul_round, lc_mul_frac, lc_mul_not, lc_mul_pick, cond_true, cond_false, Bool.not_true, Bool.not_false, Bool.true_or, Bool.false_or]
theorem tw_div (a b c d n : Int) (o e : Bool) (a' b' c' d' n' : Int) (o' e' : Bool) (k : Int → Int → Int → Int → Int → Bool → Bool → Option DV) : span_ofTwo ⟨#[100, 105, 118]⟩ a b c d n o e a' b' c' d' n' o' e' k = span_quotient a b c d n o e a' b' c' d' n' o' e' k := by unfold span_ofTwo B_span_ofTwo; simp only [lc_div_add, lc_div_sub, lc_div_mul, lc_div_div, lc_div_mod, lc_div_min, lc_div_max, lc_div_lt, lc_div_le, lc_div_eq, lc_div_ne, lc_div_and, lc_div_or, lc_div_xor, lc_div_shl, lc_div_shr, lc_div_neg, lc_div_abs, lc_div_floor, lc_div_round, lc_div_frac, lc_div_not, lc_div_pick, cond_true, cond_false, Bool.not_true, Bool.not_false, Bool.true_or, Bool.false_or]
theorem rtw_div (a b c d n : Int) (o e : Bool) (a' b' c' d' n' : Int) (o' e' : Bool) (k : Int → Int → Int → Int → Int → Bool → Bool → Option DV) : serinetteref03_two ⟨#[100, 105, 118]⟩ a b c d n o e a' b' c' d' n' o' e' k = serinetteref03_Common n n' (fun _ => serinetteref03_isPoint a' b' c' d' n' o' e' (fun r => bif r then (bif a' != 0 then serinetteref01_Whole 1 (fun r1 r2 => serinetteref01_Div r1 r2 a' b' (fun r3 r4 => serinetteref03_Point r3 r4 (fun t1 t2 t3 t4 t5 t6 t7 => serinetteref03_product a b c d n o e t1 t2 t3 t4 t5 t6 t7 (o || o') k))) else serinetteref03_unknown k) else serinetteref03_unknown k)) := by unfold serinetteref03_two B_serinetteref03_two; cases o <;> simp only [lc_div_add, lc_div_sub, lc_div_mul, lc_div_div, lc_div_mod, lc_div_min, lc_div_max, lc_div_lt, lc_div_le, lc_div_eq, lc_div_ne, lc_div_and, lc_div_or, lc_div_xor, lc_div_shl, lc_div_shr, lc_div_neg, lc_div_abs, lc_div_floor, lc_div_round, lc_div_frac, lc_div_not, lc_div_pick, cond_true, cond_false, Bool.not_true, Bool.not_false, Bool.true_or, Bool.false_or]
theorem tw_mod (a b c d n : Int) (o e : Bool) (a' b' c' d' n' : Int) (o' e' : Bool) (k : Int → Int → Int → Int → Int → Bool → Bool → Option DV) : span_ofTwo ⟨#[109, 111, 100]⟩ a b c d n o e a' b' c' d' n' o' e' k = span_modulo a b c d n o e a' b' c' d' n' o' e' k := by unfold span_ofTwo B_span_ofTwo; simp only [lc_mod_add, lc_mod_sub, lc_mod_mul, lc_mod_div, lc_mod_mod, lc_mod_min, lc_mod_max, lc_mod_lt, lc_mod_le, lc_mod_eq, lc_mod_ne, lc_mod_and, lc_mod_or, lc_mod_xor, lc_mod_shl, lc_mod_shr, lc_mod_neg, lc_mod_abs, lc_mod_floor, lc_mod_round, lc_mod_frac, lc_mod_not, lc_mod_pick, cond_true, cond_false, Bool.not_true, Bool.not_false, Bool.true_or, Bool.false_or]
theorem rtw_mod (a b c d n : Int) (o e : Bool) (a' b' c' d' n' : Int) (o' e' : Bool) (k : Int → Int → Int → Int → Int → Bool → Bool → Option DV) : serinetteref03_two ⟨#[109, 111, 100]⟩ a b c d n o e a' b' c' d' n' o' e' k = serinetteref03_Common n n' (fun r1 => serinetteref01_Whole 0 (fun r2 r3 => serinetteref03_less r2 r3 a' b' false (fun r => bif r then serinetteref03_end c' d' (fun r4 r5 r6 => serinetteref03_closed 0 1 false r4 r5 r6 r1 (o || o') k) else serinetteref03_unknown k))) := by unfold serinetteref03_two B_serinetteref03_two; cases o <;> simp only [lc_mod_add, lc_mod_sub, lc_mod_mul, lc_mod_div, lc_mod_mod, lc_mod_min, lc_mod_max, lc_mod_lt, lc_mod_le, lc_mod_eq, lc_mod_ne, lc_mod_and, lc_mod_or, lc_mod_xor, lc_mod_shl, lc_mod_shr, lc_mod_neg, lc_mod_abs, lc_mod_floor, lc_mod_round, lc_mod_frac, lc_mod_not, lc_mod_pick, cond_true, cond_false, Bool.not_true, Bool.not_false, Bool.true_or, Bool.false_or]
theorem tw_min (a b c d n : Int) (o e : Bool) (a' b' c' d' n' : Int) (o' e' : Bool) (k : Int → Int → Int → Int → Int → Bool → Bool → Option DV) : span_ofTwo ⟨#[109, 105, 110]⟩ a b c d n o e a' b' c' d' n' o' e' k = ratio_Min a b a' b' (fun r1 r2 => span_givingWay_ratio_Min c d c' d' (fun r3 r4 => span_lowestCommon n n' (fun r5 => span_Make r1 r2 r3 r4 r5 k))) := by unfold span_ofTwo B_span_ofTwo; simp only [lc_min_add, lc_min_sub, lc_min_mul, lc_min_div, lc_min_mod, lc_min_min, lc_min_max, lc_min_lt, lc_min_le, lc_min_eq, lc_min_ne, lc_min_and, lc_min_or, lc_min_xor, lc_min_shl, lc_min_shr, lc_min_neg, lc_min_abs, lc_min_floor, lc_min_round, lc_min_frac, lc_min_not, lc_min_pick, cond_true, cond_false, Bool.not_true, Bool.not_false, Bool.true_or, Bool.false_or]
theorem rtw_min (a b c d n : Int) (o e : Bool) (a' b' c' d' n' : Int) (o' e' : Bool) (k : Int → Int → Int → Int → Int → Bool → Bool → Option DV) : serinetteref03_two ⟨#[109, 105, 110]⟩ a b c d n o e a' b' c' d' n' o' e' k = serinetteref03_Common n n' (fun r1 => serinetteref03_lower a b a' b' (fun r2 r3 => serinetteref03_inner c d c' d' false (fun r4 r5 => k r2 r3 r4 r5 r1 (o || o') false))) := by unfold serinetteref03_two B_serinetteref03_two; cases o <;> simp only [lc_min_add, lc_min_sub, lc_min_mul, lc_min_div, lc_min_mod, lc_min_min, lc_min_max, lc_min_lt, lc_min_le, lc_min_eq, lc_min_ne, lc_min_and, lc_min_or, lc_min_xor, lc_min_shl, lc_min_shr, lc_min_neg, lc_min_abs, lc_min_floor, lc_min_round, lc_min_frac, lc_min_not, lc_min_pick, cond_true, cond_false, Bool.not_true, Bool.not_false, Bool.true_or, Bool.false_or]
theorem tw_max (a b c d n : Int) (o e : Bool) (a' b' c' d' n' : Int) (o' e' : Bool) (k : Int → Int → Int → Int → Int → Bool → Bool → Option DV) : span_ofTwo ⟨#[109, 97, 120]⟩ a b c d n o e a' b' c' d' n' o' e' k = span_givingWay_ratio_Max a b a' b' (fun r1 r2 => ratio_Max c d c' d' (fun r3 r4 => span_lowestCommon n n' (fun r5 => span_Make r1 r2 r3 r4 r5 k))) := by unfold span_ofTwo B_span_ofTwo; simp only [lc_max_add, lc_max_sub, lc_max_mul, lc_max_div, lc_max_mod, lc_max_min, lc_max_max, lc_max_lt, lc_max_le, lc_max_eq, lc_max_ne, lc_max_and, lc_max_or, lc_max_xor, lc_max_shl, lc_max_shr, lc_max_neg, lc_max_abs, lc_max_floor, lc_max_round, lc_max_frac, lc_max_not, lc_max_pick, cond_true, cond_false, Bool.not_true, Bool.not_false, Bool.true_or, Bool.false_or]
theorem rtw_max (a b c d n : Int) (o e : Bool) (a' b' c' d' n' : Int) (o' e' : Bool) (k : Int → Int → Int → Int → Int → Bool → Bool → Option DV) : serinetteref03_two ⟨#[109, 97, 120]⟩ a b c d n o e a' b' c' d' n' o' e' k = serinetteref03_Common n n' (fun r1 => serinetteref03_inner a b a' b' true (fun r2 r3 => serinetteref03_upper c d c' d' (fun r4 r5 => k r2 r3 r4 r5 r1 (o || o') false))) := by unfold serinetteref03_two B_serinetteref03_two; cases o <;> simp only [lc_max_add, lc_max_sub, lc_max_mul, lc_max_div, lc_max_mod, lc_max_min, lc_max_max, lc_max_lt, lc_max_le, lc_max_eq, lc_max_ne, lc_max_and, lc_max_or, lc_max_xor, lc_max_shl, lc_max_shr, lc_max_neg, lc_max_abs, lc_max_floor, lc_max_round, lc_max_frac, lc_max_not, lc_max_pick, cond_true, cond_false, Bool.not_true, Bool.not_false, Bool.true_or, Bool.false_or]
theorem tw_lt (a b c d n : Int) (o e : Bool) (a' b' c' d' n' : Int) (o' e' : Bool) (k : Int → Int → Int → Int → Int → Bool → Bool → Option DV) : span_ofTwo ⟨#[108, 116]⟩ a b c d n o e a' b' c' d' n' o' e' k = span_truths ⟨#[108, 116]⟩ a b c d n o e a' b' c' d' n' o' e' k := by unfold span_ofTwo B_span_ofTwo; simp only [lc_lt_add, lc_lt_sub, lc_lt_mul, lc_lt_div, lc_lt_mod, lc_lt_min, lc_lt_max, lc_lt_lt, lc_lt_le, lc_lt_eq, lc_lt_ne, lc_lt_and, lc_lt_or, lc_lt_xor, lc_lt_shl, lc_lt_shr, lc_lt_neg, lc_lt_abs, lc_lt_floor, lc_lt_round, lc_lt_frac, lc_lt_not, lc_lt_pick, cond_true, cond_false, Bool.not_true, Bool.not_false, Bool.true_or, Bool.false_or]
theorem rtw_lt (a b c d n : Int) (o e : Bool) (a' b' c' d' n' : Int) (o' e' : Bool) (k : Int → Int → Int → Int → Int → Bool → Bool → Option DV) : serinetteref03_two ⟨#[108, 116]⟩ a b c d n o e a' b' c' d' n' o' e' k = serinetteref03_Common n n' (fun _ => serinetteref03_compared ⟨#[108, 116]⟩ a b c d n o e a' b' c' d' n' o' e' (o || o') k) := by unfold serinetteref03_two B_serinetteref03_two; cases o <;> simp only [lc_lt_add, lc_lt_sub, lc_lt_mul, lc_lt_div, lc_lt_mod, lc_lt_min, lc_lt_max, lc_lt_lt, lc_lt_le, lc_lt_eq, lc_lt_ne, lc_lt_and, lc_lt_or, lc_lt_xor, lc_lt_shl, lc_lt_shr, lc_lt_neg, lc_lt_abs, lc_lt_floor, lc_lt_round, lc_lt_frac, lc_lt_not, lc_lt_pick, cond_true, cond_false, Bool.not_true, Bool.not_false, Bool.true_or, Bool.false_or]
theorem tw_le (a b c d n : Int) (o e : Bool) (a' b' c' d' n' : Int) (o' e' : Bool) (k : Int → Int → Int → Int → Int → Bool → Bool → Option DV) : span_ofTwo ⟨#[108, 101]⟩ a b c d n o e a' b' c' d' n' o' e' k = span_truths ⟨#[108, 101]⟩ a b c d n o e a' b' c' d' n' o' e' k := by unfold span_ofTwo B_span_ofTwo; simp only [lc_le_add, lc_le_sub, lc_le_mul, lc_le_div, lc_le_mod, lc_le_min, lc_le_max, lc_le_lt, lc_le_le, lc_le_eq, lc_le_ne, lc_le_and, lc_le_or, lc_le_xor, lc_le_shl, lc_le_shr, lc_le_neg, lc_le_abs, lc_le_floor, lc_le_round, lc_le_frac, lc_le_not, lc_le_pick, cond_true, cond_false, Bool.not_true, Bool.not_false, Bool.true_or, Bool.false_or]
theorem rtw_le (a b c d n : Int) (o e : Bool) (a' b' c' d' n' : Int) (o' e' : Bool) (k : Int → Int → Int → Int → Int → Bool → Bool → Option DV) : serinetteref03_two ⟨#[108, 101]⟩ a b c d n o e a' b' c' d' n' o' e' k = serinetteref03_Common n n' (fun _ => serinetteref03_compared ⟨#[108, 101]⟩ a b c d n o e a' b' c' d' n' o' e' (o || o') k) := by unfold serinetteref03_two B_serinetteref03_two; cases o <;> simp only [lc_le_add, lc_le_sub, lc_le_mul, lc_le_div, lc_le_mod, lc_le_min, lc_le_max, lc_le_lt, lc_le_le, lc_le_eq, lc_le_ne, lc_le_and, lc_le_or, lc_le_xor, lc_le_shl, lc_le_shr, lc_le_neg, lc_le_abs, lc_le_floor, lc_le_round, lc_le_frac, lc_le_not, lc_le_pick, cond_true, cond_false, Bool.not_true, Bool.not_false, Bool.true_or, Bool.false_or]
theorem tw_eq (a b c d n : Int) (o e : Bool) (a' b' c' d' n' : Int) (o' e' : Bool) (k : Int → Int → Int → Int → Int → Bool → Bool → Option DV) : span_ofTwo ⟨#[101, 113]⟩ a b c d n o e a' b' c' d' n' o' e' k = span_truths ⟨#[101, 113]⟩ a b c d n o e a' b' c' d' n' o' e' k := by unfold span_ofTwo B_span_ofTwo; simp only [lc_eq_add, lc_eq_sub, lc_eq_mul, lc_eq_div, lc_eq_mod, lc_eq_min, lc_eq_max, lc_eq_lt, lc_eq_le, lc_eq_eq, lc_eq_ne, lc_eq_and, lc_eq_or, lc_eq_xor, lc_eq_shl, lc_eq_shr, lc_eq_neg, lc_eq_abs, lc_eq_floor, lc_eq_round, lc_eq_frac, lc_eq_not, lc_eq_pick, cond_true, cond_false, Bool.not_true, Bool.not_false, Bool.true_or, Bool.false_or]
theorem rtw_eq (a b c d n : Int) (o e : Bool) (a' b' c' d' n' : Int) (o' e' : Bool) (k : Int → Int → Int → Int → Int → Bool → Bool → Option DV) : serinetteref03_two ⟨#[101, 113]⟩ a b c d n o e a' b' c' d' n' o' e' k = serinetteref03_Common n n' (fun _ => serinetteref03_compared ⟨#[101, 113]⟩ a b c d n o e a' b' c' d' n' o' e' (o || o') k) := by unfold serinetteref03_two B_serinetteref03_two; cases o <;> simp only [lc_eq_add, lc_eq_sub, lc_eq_mul, lc_eq_div, lc_eq_mod, lc_eq_min, lc_eq_max, lc_eq_lt, lc_eq_le, lc_eq_eq, lc_eq_ne, lc_eq_and, lc_eq_or, lc_eq_xor, lc_eq_shl, lc_eq_shr, lc_eq_neg, lc_eq_abs, lc_eq_floor, lc_eq_round, lc_eq_frac, lc_eq_not, lc_eq_pick, cond_true, cond_false, Bool.not_true, Bool.not_false, Bool.true_or, Bool.false_or]
theorem tw_ne (a b c d n : Int) (o e : Bool) (a' b' c' d' n' : Int) (o' e' : Bool) (k : Int → Int → Int → Int → Int → Bool → Bool → Option DV) : span_ofTwo ⟨#[110, 101]⟩ a b c d n o e a' b' c' d' n' o' e' k = span_truths ⟨#[110, 101]⟩ a b c d n o e a' b' c' d' n' o' e' k := by unfold span_ofTwo B_span_ofTwo; simp only [lc_ne_add, lc_ne_sub, lc_ne_mul, lc_ne_div, lc_ne_mod, lc_ne_min, lc_ne_max, lc_ne_lt, lc_ne_le, lc_ne_eq, lc_ne_ne, lc_ne_and, lc_ne_or, lc_ne_xor, lc_ne_shl, lc_ne_shr, lc_ne_neg, lc_ne_abs, lc_ne_floor, lc_ne_round, lc_ne_frac, lc_ne_not, lc_ne_pick, cond_true, cond_false, Bool.not_true, Bool.not_false, Bool.true_or, Bool.false_or]
theorem rtw_ne (a b c d n : Int) (o e : Bool) (a' b' c' d' n' : Int) (o' e' : Bool) (k : Int → Int → Int → Int → Int → Bool → Bool → Option DV) : serinetteref03_two ⟨#[110, 101]⟩ a b c d n o e a' b' c' d' n' o' e' k = serinetteref03_Common n n' (fun _ => serinetteref03_compared ⟨#[110, 101]⟩ a b c d n o e a' b' c' d' n' o' e' (o || o') k) := by unfold serinetteref03_two B_serinetteref03_two; cases o <;> simp only [lc_ne_add, lc_ne_sub, lc_ne_mul, lc_ne_div, lc_ne_mod, lc_ne_min, lc_ne_max, lc_ne_lt, lc_ne_le, lc_ne_eq, lc_ne_ne, lc_ne_and, lc_ne_or, lc_ne_xor, lc_ne_shl, lc_ne_shr, lc_ne_neg, lc_ne_abs, lc_ne_floor, lc_ne_round, lc_ne_frac, lc_ne_not, lc_ne_pick, cond_true, cond_false, Bool.not_true, Bool.not_false, Bool.true_or, Bool.false_or]
theorem tw_and (a b c d n : Int) (o e : Bool) (a' b' c' d' n' : Int) (o' e' : Bool) (k : Int → Int → Int → Int → Int → Bool → Bool → Option DV) : span_ofTwo ⟨#[97, 110, 100]⟩ a b c d n o e a' b' c' d' n' o' e' k = span_digits ⟨#[97, 110, 100]⟩ a b c d n o e a' b' c' d' n' o' e' k := by unfold span_ofTwo B_span_ofTwo; simp only [lc_and_add, lc_and_sub, lc_and_mul, lc_and_div, lc_and_mod, lc_and_min, lc_and_max, lc_and_lt, lc_and_le, lc_and_eq, lc_and_ne, lc_and_and, lc_and_or, lc_and_xor, lc_and_shl, lc_and_shr, lc_and_neg, lc_and_abs, lc_and_floor, lc_and_round, lc_and_frac, lc_and_not, lc_and_pick, cond_true, cond_false, Bool.not_true, Bool.not_false, Bool.true_or, Bool.false_or]
theorem rtw_and (a b c d n : Int) (o e : Bool) (a' b' c' d' n' : Int) (o' e' : Bool) (k : Int → Int → Int → Int → Int → Bool → Bool → Option DV) : serinetteref03_two ⟨#[97, 110, 100]⟩ a b c d n o e a' b' c' d' n' o' e' k = serinetteref03_Common n n' (fun _ => serinetteref03_digits ⟨#[97, 110, 100]⟩ a b c d n o e a' b' c' d' n' o' e' (o || o') k) := by unfold serinetteref03_two B_serinetteref03_two; cases o <;> simp only [lc_and_add, lc_and_sub, lc_and_mul, lc_and_div, lc_and_mod, lc_and_min, lc_and_max, lc_and_lt, lc_and_le, lc_and_eq, lc_and_ne, lc_and_and, lc_and_or, lc_and_xor, lc_and_shl, lc_and_shr, lc_and_neg, lc_and_abs, lc_and_floor, lc_and_round, lc_and_frac, lc_and_not, lc_and_pick, cond_true, cond_false, Bool.not_true, Bool.not_false, Bool.true_or, Bool.false_or]
theorem tw_or (a b c d n : Int) (o e : Bool) (a' b' c' d' n' : Int) (o' e' : Bool) (k : Int → Int → Int → Int → Int → Bool → Bool → Option DV) : span_ofTwo ⟨#[111, 114]⟩ a b c d n o e a' b' c' d' n' o' e' k = span_digits ⟨#[111, 114]⟩ a b c d n o e a' b' c' d' n' o' e' k := by unfold span_ofTwo B_span_ofTwo; simp only [lc_or_add, lc_or_sub, lc_or_mul, lc_or_div, lc_or_mod, lc_or_min, lc_or_max, lc_or_lt, lc_or_le, lc_or_eq, lc_or_ne, lc_or_and, lc_or_or, lc_or_xor, lc_or_shl, lc_or_shr, lc_or_neg, lc_or_abs, lc_or_floor, lc_or_round, lc_or_frac, lc_or_not, lc_or_pick, cond_true, cond_false, Bool.not_true, Bool.not_false, Bool.true_or, Bool.false_or]
theorem rtw_or (a b c d n : Int) (o e : Bool) (a' b' c' d' n' : Int) (o' e' : Bool) (k : Int → Int → Int → Int → Int → Bool → Bool → Option DV) : serinetteref03_two ⟨#[111, 114]⟩ a b c d n o e a' b' c' d' n' o' e' k = serinetteref03_Common n n' (fun _ => serinetteref03_digits ⟨#[111, 114]⟩ a b c d n o e a' b' c' d' n' o' e' (o || o') k) := by unfold serinetteref03_two B_serinetteref03_two; cases o <;> simp only [lc_or_add, lc_or_sub, lc_or_mul, lc_or_div, lc_or_mod, lc_or_min, lc_or_max, lc_or_lt, lc_or_le, lc_or_eq, lc_or_ne, lc_or_and, lc_or_or, lc_or_xor, lc_or_shl, lc_or_shr, lc_or_neg, lc_or_abs, lc_or_floor, lc_or_round, lc_or_frac, lc_or_not, lc_or_pick, cond_true, cond_false, Bool.not_true, Bool.not_false, Bool.true_or, Bool.false_or]
theorem tw_xor (a b c d n : Int) (o e : Bool) (a' b' c' d' n' : Int) (o' e' : Bool) (k : Int → Int → Int → Int → Int → Bool → Bool → Option DV) : span_ofTwo ⟨#[120, 111, 114]⟩ a b c d n o e a' b' c' d' n' o' e' k = span_digits ⟨#[120, 111, 114]⟩ a b c d n o e a' b' c' d' n' o' e' k := by unfold span_ofTwo B_span_ofTwo; simp only [lc_xor_add, lc_xor_sub, lc_xor_mul, lc_xor_div, lc_xor_mod, lc_xor_min, lc_xor_max, lc_xor_lt, lc_xor_le, lc_xor_eq, lc_xor_ne, lc_xor_and, lc_xor_or, lc_xor_xor, lc_xor_shl, lc_xor_shr, lc_xor_neg, lc_xor_abs, lc_xor_floor, lc_xor_round, lc_xor_frac, lc_xor_not, lc_xor_pick, cond_true, cond_false, Bool.not_true, Bool.not_false, Bool.true_or, Bool.false_or]
theorem rtw_xor (a b c d n : Int) (o e : Bool) (a' b' c' d' n' : Int) (o' e' : Bool) (k : Int → Int → Int → Int → Int → Bool → Bool → Option DV) : serinetteref03_two ⟨#[120, 111, 114]⟩ a b c d n o e a' b' c' d' n' o' e' k = serinetteref03_Common n n' (fun _ => serinetteref03_digits ⟨#[120, 111, 114]⟩ a b c d n o e a' b' c' d' n' o' e' (o || o') k) := by unfold serinetteref03_two B_serinetteref03_two; cases o <;> simp only [lc_xor_add, lc_xor_sub, lc_xor_mul, lc_xor_div, lc_xor_mod, lc_xor_min, lc_xor_max, lc_xor_lt, lc_xor_le, lc_xor_eq, lc_xor_ne, lc_xor_and, lc_xor_or, lc_xor_xor, lc_xor_shl, lc_xor_shr, lc_xor_neg, lc_xor_abs, lc_xor_floor, lc_xor_round, lc_xor_frac, lc_xor_not, lc_xor_pick, cond_true, cond_false, Bool.not_true, Bool.not_false, Bool.true_or, Bool.false_or]
theorem tw_shl (a b c d n : Int) (o e : Bool) (a' b' c' d' n' : Int) (o' e' : Bool) (k : Int → Int → Int → Int → Int → Bool → Bool → Option DV) : span_ofTwo ⟨#[115, 104, 108]⟩ a b c d n o e a' b' c' d' n' o' e' k = span_All k := by unfold span_ofTwo B_span_ofTwo; simp only [lc_shl_add, lc_shl_sub, lc_shl_mul, lc_shl_div, lc_shl_mod, lc_shl_min, lc_shl_max, lc_shl_lt, lc_shl_le, lc_shl_eq, lc_shl_ne, lc_shl_and, lc_shl_or, lc_shl_xor, lc_shl_shl, lc_shl_shr, lc_shl_neg, lc_shl_abs, lc_shl_floor, lc_shl_round, lc_shl_frac, lc_shl_not, lc_shl_pick, cond_true, cond_false, Bool.not_true, Bool.not_false, Bool.true_or, Bool.false_or]
theorem rtw_shl (a b c d n : Int) (o e : Bool) (a' b' c' d' n' : Int) (o' e' : Bool) (k : Int → Int → Int → Int → Int → Bool → Bool → Option DV) : serinetteref03_two ⟨#[115, 104, 108]⟩ a b c d n o e a' b' c' d' n' o' e' k = serinetteref03_Common n n' (fun _ => serinetteref03_unknown k) := by unfold serinetteref03_two B_serinetteref03_two; cases o <;> simp only [lc_shl_add, lc_shl_sub, lc_shl_mul, lc_shl_div, lc_shl_mod, lc_shl_min, lc_shl_max, lc_shl_lt, lc_shl_le, lc_shl_eq, lc_shl_ne, lc_shl_and, lc_shl_or, lc_shl_xor, lc_shl_shl, lc_shl_shr, lc_shl_neg, lc_shl_abs, lc_shl_floor, lc_shl_round, lc_shl_frac, lc_shl_not, lc_shl_pick, cond_true, cond_false, Bool.not_true, Bool.not_false, Bool.true_or, Bool.false_or]
theorem tw_shr (a b c d n : Int) (o e : Bool) (a' b' c' d' n' : Int) (o' e' : Bool) (k : Int → Int → Int → Int → Int → Bool → Bool → Option DV) : span_ofTwo ⟨#[115, 104, 114]⟩ a b c d n o e a' b' c' d' n' o' e' k = span_All k := by unfold span_ofTwo B_span_ofTwo; simp only [lc_shr_add, lc_shr_sub, lc_shr_mul, lc_shr_div, lc_shr_mod, lc_shr_min, lc_shr_max, lc_shr_lt, lc_shr_le, lc_shr_eq, lc_shr_ne, lc_shr_and, lc_shr_or, lc_shr_xor, lc_shr_shl, lc_shr_shr, lc_shr_neg, lc_shr_abs, lc_shr_floor, lc_shr_round, lc_shr_frac, lc_shr_not, lc_shr_pick, cond_true, cond_false, Bool.not_true, Bool.not_false, Bool.true_or, Bool.false_or]
theorem rtw_shr (a b c d n : Int) (o e : Bool) (a' b' c' d' n' : Int) (o' e' : Bool) (k : Int → Int → Int → Int → Int → Bool → Bool → Option DV) : serinetteref03_two ⟨#[115, 104, 114]⟩ a b c d n o e a' b' c' d' n' o' e' k = serinetteref03_Common n n' (fun _ => serinetteref03_unknown k) := by unfold serinetteref03_two B_serinetteref03_two; cases o <;> simp only [lc_shr_add, lc_shr_sub, lc_shr_mul, lc_shr_div, lc_shr_mod, lc_shr_min, lc_shr_max, lc_shr_lt, lc_shr_le, lc_shr_eq, lc_shr_ne, lc_shr_and, lc_shr_or, lc_shr_xor, lc_shr_shl, lc_shr_shr, lc_shr_neg, lc_shr_abs, lc_shr_floor, lc_shr_round, lc_shr_frac, lc_shr_not, lc_shr_pick, cond_true, cond_false, Bool.not_true, Bool.not_false, Bool.true_or, Bool.false_or]
end Go.Proofs.YtnidbhfpkjggmaaGreatDoor
