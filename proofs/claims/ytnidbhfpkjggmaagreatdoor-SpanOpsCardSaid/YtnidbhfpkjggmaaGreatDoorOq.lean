/-
  What an operation of any name makes of any spans: the law's reading is true.
-/
import Derived.Test.YtnidbhfpkjggmaaGreatDoorOp
set_option linter.all false
namespace Go.Proofs.YtnidbhfpkjggmaaGreatDoor
open Go.Pv Go.RowKit

/-- The names of operations, and how many spans they take. -/
inductive OpIs : ByteArray → Int → Prop
  | neg : OpIs ⟨#[110, 101, 103]⟩ 1
  | abs : OpIs ⟨#[97, 98, 115]⟩ 1
  | floor : OpIs ⟨#[102, 108, 111, 111, 114]⟩ 1
  | round : OpIs ⟨#[114, 111, 117, 110, 100]⟩ 1
  | frac : OpIs ⟨#[102, 114, 97, 99]⟩ 1
  | not : OpIs ⟨#[110, 111, 116]⟩ 1
  | add : OpIs ⟨#[97, 100, 100]⟩ 2
  | sub : OpIs ⟨#[115, 117, 98]⟩ 2
  | mul : OpIs ⟨#[109, 117, 108]⟩ 2
  | div : OpIs ⟨#[100, 105, 118]⟩ 2
  | mod : OpIs ⟨#[109, 111, 100]⟩ 2
  | min : OpIs ⟨#[109, 105, 110]⟩ 2
  | max : OpIs ⟨#[109, 97, 120]⟩ 2
  | lt : OpIs ⟨#[108, 116]⟩ 2
  | le : OpIs ⟨#[108, 101]⟩ 2
  | eq : OpIs ⟨#[101, 113]⟩ 2
  | ne : OpIs ⟨#[110, 101]⟩ 2
  | and : OpIs ⟨#[97, 110, 100]⟩ 2
  | or : OpIs ⟨#[111, 114]⟩ 2
  | xor : OpIs ⟨#[120, 111, 114]⟩ 2
  | shl : OpIs ⟨#[115, 104, 108]⟩ 2
  | shr : OpIs ⟨#[115, 104, 114]⟩ 2
  | pick : OpIs ⟨#[112, 105, 99, 107]⟩ 3
theorem ins_same (op : ByteArray) (k : Int → Option DV) : span_ins op k = serinetteref03_Takes op k := rfl
theorem ba_of {s : ByteArray} {l : List UInt8} (h : s.toList = l) : s = ⟨l.toArray⟩ := by
  rw [ByteArray.toList_eq] at h
  cases s with | mk d => cases d with | mk l' => simp at h; rw [h]
theorem takes_neg (k : Int → Option DV) : serinetteref03_Takes ⟨#[110, 101, 103]⟩ k = k 1 := by unfold serinetteref03_Takes B_serinetteref03_Takes; simp only [lc_neg_neg, lc_neg_abs, lc_neg_floor, lc_neg_round, lc_neg_frac, lc_neg_not, lc_neg_add, lc_neg_sub, lc_neg_mul, lc_neg_div, lc_neg_mod, lc_neg_min, lc_neg_max, lc_neg_lt, lc_neg_le, lc_neg_eq, lc_neg_ne, lc_neg_and, lc_neg_or, lc_neg_xor, lc_neg_shl, lc_neg_shr, lc_neg_pick, cT, cF]
theorem takes_abs (k : Int → Option DV) : serinetteref03_Takes ⟨#[97, 98, 115]⟩ k = k 1 := by unfold serinetteref03_Takes B_serinetteref03_Takes; simp only [lc_abs_neg, lc_abs_abs, lc_abs_floor, lc_abs_round, lc_abs_frac, lc_abs_not, lc_abs_add, lc_abs_sub, lc_abs_mul, lc_abs_div, lc_abs_mod, lc_abs_min, lc_abs_max, lc_abs_lt, lc_abs_le, lc_abs_eq, lc_abs_ne, lc_abs_and, lc_abs_or, lc_abs_xor, lc_abs_shl, lc_abs_shr, lc_abs_pick, cT, cF]
theorem takes_floor (k : Int → Option DV) : serinetteref03_Takes ⟨#[102, 108, 111, 111, 114]⟩ k = k 1 := by unfold serinetteref03_Takes B_serinetteref03_Takes; simp only [lc_floor_neg, lc_floor_abs, lc_floor_floor, lc_floor_round, lc_floor_frac, lc_floor_not, lc_floor_add, lc_floor_sub, lc_floor_mul, lc_floor_div, lc_floor_mod, lc_floor_min, lc_floor_max, lc_floor_lt, lc_floor_le, lc_floor_eq, lc_floor_ne, lc_floor_and, lc_floor_or, lc_floor_xor, lc_floor_shl, lc_floor_shr, lc_floor_pick, cT, cF]
theorem takes_round (k : Int → Option DV) : serinetteref03_Takes ⟨#[114, 111, 117, 110, 100]⟩ k = k 1 := by unfold serinetteref03_Takes B_serinetteref03_Takes; simp only [lc_round_neg, lc_round_abs, lc_round_floor, lc_round_round, lc_round_frac, lc_round_not, lc_round_add, lc_round_sub, lc_round_mul, lc_round_div, lc_round_mod, lc_round_min, lc_round_max, lc_round_lt, lc_round_le, lc_round_eq, lc_round_ne, lc_round_and, lc_round_or, lc_round_xor, lc_round_shl, lc_round_shr, lc_round_pick, cT, cF]
theorem takes_frac (k : Int → Option DV) : serinetteref03_Takes ⟨#[102, 114, 97, 99]⟩ k = k 1 := by unfold serinetteref03_Takes B_serinetteref03_Takes; simp only [lc_frac_neg, lc_frac_abs, lc_frac_floor, lc_frac_round, lc_frac_frac, lc_frac_not, lc_frac_add, lc_frac_sub, lc_frac_mul, lc_frac_div, lc_frac_mod, lc_frac_min, lc_frac_max, lc_frac_lt, lc_frac_le, lc_frac_eq, lc_frac_ne, lc_frac_and, lc_frac_or, lc_frac_xor, lc_frac_shl, lc_frac_shr, lc_frac_pick, cT, cF]
theorem takes_not (k : Int → Option DV) : serinetteref03_Takes ⟨#[110, 111, 116]⟩ k = k 1 := by unfold serinetteref03_Takes B_serinetteref03_Takes; simp only [lc_not_neg, lc_not_abs, lc_not_floor, lc_not_round, lc_not_frac, lc_not_not, lc_not_add, lc_not_sub, lc_not_mul, lc_not_div, lc_not_mod, lc_not_min, lc_not_max, lc_not_lt, lc_not_le, lc_not_eq, lc_not_ne, lc_not_and, lc_not_or, lc_not_xor, lc_not_shl, lc_not_shr, lc_not_pick, cT, cF]
theorem takes_add (k : Int → Option DV) : serinetteref03_Takes ⟨#[97, 100, 100]⟩ k = k 2 := by unfold serinetteref03_Takes B_serinetteref03_Takes; simp only [lc_add_neg, lc_add_abs, lc_add_floor, lc_add_round, lc_add_frac, lc_add_not, lc_add_add, lc_add_sub, lc_add_mul, lc_add_div, lc_add_mod, lc_add_min, lc_add_max, lc_add_lt, lc_add_le, lc_add_eq, lc_add_ne, lc_add_and, lc_add_or, lc_add_xor, lc_add_shl, lc_add_shr, lc_add_pick, cT, cF]
theorem takes_sub (k : Int → Option DV) : serinetteref03_Takes ⟨#[115, 117, 98]⟩ k = k 2 := by unfold serinetteref03_Takes B_serinetteref03_Takes; simp only [lc_sub_neg, lc_sub_abs, lc_sub_floor, lc_sub_round, lc_sub_frac, lc_sub_not, lc_sub_add, lc_sub_sub, lc_sub_mul, lc_sub_div, lc_sub_mod, lc_sub_min, lc_sub_max, lc_sub_lt, lc_sub_le, lc_sub_eq, lc_sub_ne, lc_sub_and, lc_sub_or, lc_sub_xor, lc_sub_shl, lc_sub_shr, lc_sub_pick, cT, cF]
theorem takes_mul (k : Int → Option DV) : serinetteref03_Takes ⟨#[109, 117, 108]⟩ k = k 2 := by unfold serinetteref03_Takes B_serinetteref03_Takes; simp only [lc_mul_neg, lc_mul_abs, lc_mul_floor, lc_mul_round, lc_mul_frac, lc_mul_not, lc_mul_add, lc_mul_sub, lc_mul_mul, lc_mul_div, lc_mul_mod, lc_mul_min, lc_mul_max, lc_mul_lt, lc_mul_le, lc_mul_eq, lc_mul_ne, lc_mul_and, lc_mul_or, lc_mul_xor, lc_mul_shl, lc_mul_shr, lc_mul_pick, cT, cF]
theorem takes_div (k : Int → Option DV) : serinetteref03_Takes ⟨#[100, 105, 118]⟩ k = k 2 := by unfold serinetteref03_Takes B_serinetteref03_Takes; simp only [lc_div_neg, lc_div_abs, lc_div_floor, lc_div_round, lc_div_frac, lc_div_not, lc_div_add, lc_div_sub, lc_div_mul, lc_div_div, lc_div_mod, lc_div_min, lc_div_max, lc_div_lt, lc_div_le, lc_div_eq, lc_div_ne, lc_div_and, lc_div_or, lc_div_xor, lc_div_shl, lc_div_shr, lc_div_pick, cT, cF]
theorem takes_mod (k : Int → Option DV) : serinetteref03_Takes ⟨#[109, 111, 100]⟩ k = k 2 := by unfold serinetteref03_Takes B_serinetteref03_Takes; simp only [lc_mod_neg, lc_mod_abs, lc_mod_floor, lc_mod_round, lc_mod_frac, lc_mod_not, lc_mod_add, lc_mod_sub, lc_mod_mul, lc_mod_div, lc_mod_mod, lc_mod_min, lc_mod_max, lc_mod_lt, lc_mod_le, lc_mod_eq, lc_mod_ne, lc_mod_and, lc_mod_or, lc_mod_xor, lc_mod_shl, lc_mod_shr, lc_mod_pick, cT, cF]
theorem takes_min (k : Int → Option DV) : serinetteref03_Takes ⟨#[109, 105, 110]⟩ k = k 2 := by unfold serinetteref03_Takes B_serinetteref03_Takes; simp only [lc_min_neg, lc_min_abs, lc_min_floor, lc_min_round, lc_min_frac, lc_min_not, lc_min_add, lc_min_sub, lc_min_mul, lc_min_div, lc_min_mod, lc_min_min, lc_min_max, lc_min_lt, lc_min_le, lc_min_eq, lc_min_ne, lc_min_and, lc_min_or, lc_min_xor, lc_min_shl, lc_min_shr, lc_min_pick, cT, cF]
theorem takes_max (k : Int → Option DV) : serinetteref03_Takes ⟨#[109, 97, 120]⟩ k = k 2 := by unfold serinetteref03_Takes B_serinetteref03_Takes; simp only [lc_max_neg, lc_max_abs, lc_max_floor, lc_max_round, lc_max_frac, lc_max_not, lc_max_add, lc_max_sub, lc_max_mul, lc_max_div, lc_max_mod, lc_max_min, lc_max_max, lc_max_lt, lc_max_le, lc_max_eq, lc_max_ne, lc_max_and, lc_max_or, lc_max_xor, lc_max_shl, lc_max_shr, lc_max_pick, cT, cF]
theorem takes_lt (k : Int → Option DV) : serinetteref03_Takes ⟨#[108, 116]⟩ k = k 2 := by unfold serinetteref03_Takes B_serinetteref03_Takes; simp only [lc_lt_neg, lc_lt_abs, lc_lt_floor, lc_lt_round, lc_lt_frac, lc_lt_not, lc_lt_add, lc_lt_sub, lc_lt_mul, lc_lt_div, lc_lt_mod, lc_lt_min, lc_lt_max, lc_lt_lt, lc_lt_le, lc_lt_eq, lc_lt_ne, lc_lt_and, lc_lt_or, lc_lt_xor, lc_lt_shl, lc_lt_shr, lc_lt_pick, cT, cF]
theorem takes_le (k : Int → Option DV) : serinetteref03_Takes ⟨#[108, 101]⟩ k = k 2 := by unfold serinetteref03_Takes B_serinetteref03_Takes; simp only [lc_le_neg, lc_le_abs, lc_le_floor, lc_le_round, lc_le_frac, lc_le_not, lc_le_add, lc_le_sub, lc_le_mul, lc_le_div, lc_le_mod, lc_le_min, lc_le_max, lc_le_lt, lc_le_le, lc_le_eq, lc_le_ne, lc_le_and, lc_le_or, lc_le_xor, lc_le_shl, lc_le_shr, lc_le_pick, cT, cF]
theorem takes_eq (k : Int → Option DV) : serinetteref03_Takes ⟨#[101, 113]⟩ k = k 2 := by unfold serinetteref03_Takes B_serinetteref03_Takes; simp only [lc_eq_neg, lc_eq_abs, lc_eq_floor, lc_eq_round, lc_eq_frac, lc_eq_not, lc_eq_add, lc_eq_sub, lc_eq_mul, lc_eq_div, lc_eq_mod, lc_eq_min, lc_eq_max, lc_eq_lt, lc_eq_le, lc_eq_eq, lc_eq_ne, lc_eq_and, lc_eq_or, lc_eq_xor, lc_eq_shl, lc_eq_shr, lc_eq_pick, cT, cF]
theorem takes_ne (k : Int → Option DV) : serinetteref03_Takes ⟨#[110, 101]⟩ k = k 2 := by unfold serinetteref03_Takes B_serinetteref03_Takes; simp only [lc_ne_neg, lc_ne_abs, lc_ne_floor, lc_ne_round, lc_ne_frac, lc_ne_not, lc_ne_add, lc_ne_sub, lc_ne_mul, lc_ne_div, lc_ne_mod, lc_ne_min, lc_ne_max, lc_ne_lt, lc_ne_le, lc_ne_eq, lc_ne_ne, lc_ne_and, lc_ne_or, lc_ne_xor, lc_ne_shl, lc_ne_shr, lc_ne_pick, cT, cF]
theorem takes_and (k : Int → Option DV) : serinetteref03_Takes ⟨#[97, 110, 100]⟩ k = k 2 := by unfold serinetteref03_Takes B_serinetteref03_Takes; simp only [lc_and_neg, lc_and_abs, lc_and_floor, lc_and_round, lc_and_frac, lc_and_not, lc_and_add, lc_and_sub, lc_and_mul, lc_and_div, lc_and_mod, lc_and_min, lc_and_max, lc_and_lt, lc_and_le, lc_and_eq, lc_and_ne, lc_and_and, lc_and_or, lc_and_xor, lc_and_shl, lc_and_shr, lc_and_pick, cT, cF]
theorem takes_or (k : Int → Option DV) : serinetteref03_Takes ⟨#[111, 114]⟩ k = k 2 := by unfold serinetteref03_Takes B_serinetteref03_Takes; simp only [lc_or_neg, lc_or_abs, lc_or_floor, lc_or_round, lc_or_frac, lc_or_not, lc_or_add, lc_or_sub, lc_or_mul, lc_or_div, lc_or_mod, lc_or_min, lc_or_max, lc_or_lt, lc_or_le, lc_or_eq, lc_or_ne, lc_or_and, lc_or_or, lc_or_xor, lc_or_shl, lc_or_shr, lc_or_pick, cT, cF]
theorem takes_xor (k : Int → Option DV) : serinetteref03_Takes ⟨#[120, 111, 114]⟩ k = k 2 := by unfold serinetteref03_Takes B_serinetteref03_Takes; simp only [lc_xor_neg, lc_xor_abs, lc_xor_floor, lc_xor_round, lc_xor_frac, lc_xor_not, lc_xor_add, lc_xor_sub, lc_xor_mul, lc_xor_div, lc_xor_mod, lc_xor_min, lc_xor_max, lc_xor_lt, lc_xor_le, lc_xor_eq, lc_xor_ne, lc_xor_and, lc_xor_or, lc_xor_xor, lc_xor_shl, lc_xor_shr, lc_xor_pick, cT, cF]
theorem takes_shl (k : Int → Option DV) : serinetteref03_Takes ⟨#[115, 104, 108]⟩ k = k 2 := by unfold serinetteref03_Takes B_serinetteref03_Takes; simp only [lc_shl_neg, lc_shl_abs, lc_shl_floor, lc_shl_round, lc_shl_frac, lc_shl_not, lc_shl_add, lc_shl_sub, lc_shl_mul, lc_shl_div, lc_shl_mod, lc_shl_min, lc_shl_max, lc_shl_lt, lc_shl_le, lc_shl_eq, lc_shl_ne, lc_shl_and, lc_shl_or, lc_shl_xor, lc_shl_shl, lc_shl_shr, lc_shl_pick, cT, cF]
theorem takes_shr (k : Int → Option DV) : serinetteref03_Takes ⟨#[115, 104, 114]⟩ k = k 2 := by unfold serinetteref03_Takes B_serinetteref03_Takes; simp only [lc_shr_neg, lc_shr_abs, lc_shr_floor, lc_shr_round, lc_shr_frac, lc_shr_not, lc_shr_add, lc_shr_sub, lc_shr_mul, lc_shr_div, lc_shr_mod, lc_shr_min, lc_shr_max, lc_shr_lt, lc_shr_le, lc_shr_eq, lc_shr_ne, lc_shr_and, lc_shr_or, lc_shr_xor, lc_shr_shl, lc_shr_shr, lc_shr_pick, cT, cF]
theorem takes_pick (k : Int → Option DV) : serinetteref03_Takes ⟨#[112, 105, 99, 107]⟩ k = k 3 := by unfold serinetteref03_Takes B_serinetteref03_Takes; simp only [lc_pick_neg, lc_pick_abs, lc_pick_floor, lc_pick_round, lc_pick_frac, lc_pick_not, lc_pick_add, lc_pick_sub, lc_pick_mul, lc_pick_div, lc_pick_mod, lc_pick_min, lc_pick_max, lc_pick_lt, lc_pick_le, lc_pick_eq, lc_pick_ne, lc_pick_and, lc_pick_or, lc_pick_xor, lc_pick_shl, lc_pick_shr, lc_pick_pick, cT, cF]
/-- What Takes says of a name. -/
theorem takes_cases (op : ByteArray) : (∃ n, OpIs op n ∧ ∀ k, serinetteref03_Takes op k = k n) ∨ (∀ k, serinetteref03_Takes op k = k 0) := by
  have is : ∀ (l : List UInt8), (ByteArray.toList op == ByteArray.toList ⟨l.toArray⟩) = true → op = ⟨l.toArray⟩ := by
    intro l h
    rw [beq_iff_eq, ByteArray.toList_eq (⟨l.toArray⟩ : ByteArray)] at h
    exact ba_of (by simpa using h)
  cases h_neg : (ByteArray.toList op == ByteArray.toList (⟨#[110, 101, 103]⟩))
  case true => obtain rfl := is [110, 101, 103] h_neg; exact .inl ⟨1, .neg, takes_neg⟩
  cases h_abs : (ByteArray.toList op == ByteArray.toList (⟨#[97, 98, 115]⟩))
  case true => obtain rfl := is [97, 98, 115] h_abs; exact .inl ⟨1, .abs, takes_abs⟩
  cases h_floor : (ByteArray.toList op == ByteArray.toList (⟨#[102, 108, 111, 111, 114]⟩))
  case true => obtain rfl := is [102, 108, 111, 111, 114] h_floor; exact .inl ⟨1, .floor, takes_floor⟩
  cases h_round : (ByteArray.toList op == ByteArray.toList (⟨#[114, 111, 117, 110, 100]⟩))
  case true => obtain rfl := is [114, 111, 117, 110, 100] h_round; exact .inl ⟨1, .round, takes_round⟩
  cases h_frac : (ByteArray.toList op == ByteArray.toList (⟨#[102, 114, 97, 99]⟩))
  case true => obtain rfl := is [102, 114, 97, 99] h_frac; exact .inl ⟨1, .frac, takes_frac⟩
  cases h_not : (ByteArray.toList op == ByteArray.toList (⟨#[110, 111, 116]⟩))
  case true => obtain rfl := is [110, 111, 116] h_not; exact .inl ⟨1, .not, takes_not⟩
  cases h_add : (ByteArray.toList op == ByteArray.toList (⟨#[97, 100, 100]⟩))
  case true => obtain rfl := is [97, 100, 100] h_add; exact .inl ⟨2, .add, takes_add⟩
  cases h_sub : (ByteArray.toList op == ByteArray.toList (⟨#[115, 117, 98]⟩))
  case true => obtain rfl := is [115, 117, 98] h_sub; exact .inl ⟨2, .sub, takes_sub⟩
  cases h_mul : (ByteArray.toList op == ByteArray.toList (⟨#[109, 117, 108]⟩))
  case true => obtain rfl := is [109, 117, 108] h_mul; exact .inl ⟨2, .mul, takes_mul⟩
  cases h_div : (ByteArray.toList op == ByteArray.toList (⟨#[100, 105, 118]⟩))
  case true => obtain rfl := is [100, 105, 118] h_div; exact .inl ⟨2, .div, takes_div⟩
  cases h_mod : (ByteArray.toList op == ByteArray.toList (⟨#[109, 111, 100]⟩))
  case true => obtain rfl := is [109, 111, 100] h_mod; exact .inl ⟨2, .mod, takes_mod⟩
  cases h_min : (ByteArray.toList op == ByteArray.toList (⟨#[109, 105, 110]⟩))
  case true => obtain rfl := is [109, 105, 110] h_min; exact .inl ⟨2, .min, takes_min⟩
  cases h_max : (ByteArray.toList op == ByteArray.toList (⟨#[109, 97, 120]⟩))
  case true => obtain rfl := is [109, 97, 120] h_max; exact .inl ⟨2, .max, takes_max⟩
  cases h_lt : (ByteArray.toList op == ByteArray.toList (⟨#[108, 116]⟩))
  case true => obtain rfl := is [108, 116] h_lt; exact .inl ⟨2, .lt, takes_lt⟩
  cases h_le : (ByteArray.toList op == ByteArray.toList (⟨#[108, 101]⟩))
  case true => obtain rfl := is [108, 101] h_le; exact .inl ⟨2, .le, takes_le⟩
  cases h_eq : (ByteArray.toList op == ByteArray.toList (⟨#[101, 113]⟩))
  case true => obtain rfl := is [101, 113] h_eq; exact .inl ⟨2, .eq, takes_eq⟩
  cases h_ne : (ByteArray.toList op == ByteArray.toList (⟨#[110, 101]⟩))
  case true => obtain rfl := is [110, 101] h_ne; exact .inl ⟨2, .ne, takes_ne⟩
  cases h_and : (ByteArray.toList op == ByteArray.toList (⟨#[97, 110, 100]⟩))
  case true => obtain rfl := is [97, 110, 100] h_and; exact .inl ⟨2, .and, takes_and⟩
  cases h_or : (ByteArray.toList op == ByteArray.toList (⟨#[111, 114]⟩))
  case true => obtain rfl := is [111, 114] h_or; exact .inl ⟨2, .or, takes_or⟩
  cases h_xor : (ByteArray.toList op == ByteArray.toList (⟨#[120, 111, 114]⟩))
  case true => obtain rfl := is [120, 111, 114] h_xor; exact .inl ⟨2, .xor, takes_xor⟩
  cases h_shl : (ByteArray.toList op == ByteArray.toList (⟨#[115, 104, 108]⟩))
  case true => obtain rfl := is [115, 104, 108] h_shl; exact .inl ⟨2, .shl, takes_shl⟩
  cases h_shr : (ByteArray.toList op == ByteArray.toList (⟨#[115, 104, 114]⟩))
  case true => obtain rfl := is [115, 104, 114] h_shr; exact .inl ⟨2, .shr, takes_shr⟩
  cases h_pick : (ByteArray.toList op == ByteArray.toList (⟨#[112, 105, 99, 107]⟩))
  case true => obtain rfl := is [112, 105, 99, 107] h_pick; exact .inl ⟨3, .pick, takes_pick⟩
  right
  intro k
  unfold serinetteref03_Takes B_serinetteref03_Takes
  simp only [h_neg, h_abs, h_floor, h_round, h_frac, h_not, h_add, h_sub, h_mul, h_div, h_mod, h_min, h_max, h_lt, h_le, h_eq, h_ne, h_and, h_or, h_xor, h_shl, h_shr, h_pick, cT, cF]
theorem OpIs.notpick {op : ByteArray} {n : Int} (h : OpIs op n) : n = 3 ∧ op = ⟨#[112, 105, 99, 107]⟩ ∨ (n ≠ 3 ∧ (n = 1 ∨ n = 2) ∧ (ByteArray.toList op == ByteArray.toList (⟨#[112, 105, 99, 107]⟩)) = false) := by
  cases h
  case neg => exact .inr ⟨by omega, by omega, lc_neg_pick⟩
  case abs => exact .inr ⟨by omega, by omega, lc_abs_pick⟩
  case floor => exact .inr ⟨by omega, by omega, lc_floor_pick⟩
  case round => exact .inr ⟨by omega, by omega, lc_round_pick⟩
  case frac => exact .inr ⟨by omega, by omega, lc_frac_pick⟩
  case not => exact .inr ⟨by omega, by omega, lc_not_pick⟩
  case add => exact .inr ⟨by omega, by omega, lc_add_pick⟩
  case sub => exact .inr ⟨by omega, by omega, lc_sub_pick⟩
  case mul => exact .inr ⟨by omega, by omega, lc_mul_pick⟩
  case div => exact .inr ⟨by omega, by omega, lc_div_pick⟩
  case mod => exact .inr ⟨by omega, by omega, lc_mod_pick⟩
  case min => exact .inr ⟨by omega, by omega, lc_min_pick⟩
  case max => exact .inr ⟨by omega, by omega, lc_max_pick⟩
  case lt => exact .inr ⟨by omega, by omega, lc_lt_pick⟩
  case le => exact .inr ⟨by omega, by omega, lc_le_pick⟩
  case eq => exact .inr ⟨by omega, by omega, lc_eq_pick⟩
  case ne => exact .inr ⟨by omega, by omega, lc_ne_pick⟩
  case and => exact .inr ⟨by omega, by omega, lc_and_pick⟩
  case or => exact .inr ⟨by omega, by omega, lc_or_pick⟩
  case xor => exact .inr ⟨by omega, by omega, lc_xor_pick⟩
  case shl => exact .inr ⟨by omega, by omega, lc_shl_pick⟩
  case shr => exact .inr ⟨by omega, by omega, lc_shr_pick⟩
  case pick => exact .inl ⟨rfl, rfl⟩
theorem OpIs.one {op : ByteArray} (h : OpIs op 1) {s : Sp} (hs : S.Ok s) (he : s.em = false) (hk : S.known s = s) : ∃ R, OneIs op s R := by
  cases h
  case neg => exact ⟨_, one_neg hs he⟩
  case abs => exact ⟨_, one_abs hs he hk⟩
  case floor => exact ⟨_, one_floor hs he⟩
  case round => exact ⟨_, one_round hs he⟩
  case frac => exact ⟨_, one_frac hs he⟩
  case not => exact ⟨_, one_not hs he hk⟩
theorem OpIs.two {op : ByteArray} (h : OpIs op 2) {s t : Sp} (hs : S.Ok s) (ht : S.Ok t) (he : s.em = false) (he' : t.em = false) : ∃ R, TwoIs op s t R := by
  cases h
  case add => exact ⟨_, two_add hs ht⟩
  case sub => exact ⟨_, two_sub hs ht⟩
  case mul => exact ⟨_, two_mul hs ht he he'⟩
  case div => exact ⟨_, two_div hs ht he he'⟩
  case mod => exact ⟨_, two_mod hs ht⟩
  case min => exact ⟨_, two_min hs ht⟩
  case max => exact ⟨_, two_max hs ht⟩
  case lt => exact ⟨_, two_lt hs ht⟩
  case le => exact ⟨_, two_le hs ht⟩
  case eq => exact ⟨_, two_eq hs ht he he'⟩
  case ne => exact ⟨_, two_ne hs ht he he'⟩
  case and => exact ⟨_, two_and hs ht⟩
  case or => exact ⟨_, two_or hs ht⟩
  case xor => exact ⟨_, two_xor hs ht⟩
  case shl => exact ⟨_, two_shl hs ht⟩
  case shr => exact ⟨_, two_shr hs ht⟩
/-- A span and an error code, handed on. -/
def Sp.ape (s : Sp) (e : Int) (k : Int → Int → Int → Int → Int → Bool → Bool → Int → Option DV) : Option DV := k s.ln s.ld s.hn s.hd s.den s.no s.em e
/-- Both sides give the same. -/
def Same (f g : (Int → Int → Int → Int → Int → Bool → Bool → Int → Option DV) → Option DV) : Prop := ∃ (R : Sp) (e : Int), (∀ k, f k = R.ape e k) ∧ ∀ k, g k = R.ape e k
theorem empty_eq (o : Bool) (k : Int → Int → Int → Int → Int → Bool → Bool → Option DV) : serinetteref03_Empty o k = k 0 0 0 0 0 o true := by
  unfold serinetteref03_Empty B_serinetteref03_Empty; rfl
theorem nothing_eq (o : Bool) (k : Int → Int → Int → Int → Int → Bool → Bool → Option DV) : span_nothing o k = k 0 0 0 0 0 o true := by
  unfold span_nothing B_span_nothing; rfl
theorem of1 (op : ByteArray) (a b c d n : Int) (o e : Bool) (k : Int → Int → Int → Int → Int → Bool → Bool → Option DV) : span_of_n1 op a b c d n o e k = span_ofOne op a b c d n o e k := rfl
theorem of2 (op : ByteArray) (a b c d n : Int) (o e : Bool) (a' b' c' d' n' : Int) (o' e' : Bool) (k : Int → Int → Int → Int → Int → Bool → Bool → Option DV) : span_of_n2 op a b c d n o e a' b' c' d' n' o' e' k = span_ofTwo op a b c d n o e a' b' c' d' n' o' e' k := rfl
/-- None told besides. -/
theorem orn_bif (R : Sp) (z : Bool) (e : Int) (k : Int → Int → Int → Int → Int → Bool → Bool → Int → Option DV) : R.ap (fun a b c d n o em => bif !o then k a b c d n z em e else k a b c d n true em e) = (S.orn R z).ape e k := by
  unfold Sp.ap Sp.ape S.orn
  cases R.no <;> rfl
theorem orn_true (R : Sp) (e : Int) (k : Int → Int → Int → Int → Int → Bool → Bool → Int → Option DV) : R.ap (fun a b c d n o em => bif !o then k a b c d n true em e else k a b c d n true em e) = (S.orn R true).ape e k := orn_bif R true e k
theorem op1_same (op : ByteArray) (a1_0_0 a1_0_1 a1_0_2 a1_0_3 a1_0_4 : Int) (a1_0_5 a1_0_6 : Bool) : Same (span_Op_n1 op a1_0_0 a1_0_1 a1_0_2 a1_0_3 a1_0_4 a1_0_5 a1_0_6) (serinetteref03_Op_n1 op a1_0_0 a1_0_1 a1_0_2 a1_0_3 a1_0_4 a1_0_5 a1_0_6) := by
  have err : ∀ n : Int, n ≠ 1 → (∀ k, serinetteref03_Takes op k = k n) → Same (span_Op_n1 op a1_0_0 a1_0_1 a1_0_2 a1_0_3 a1_0_4 a1_0_5 a1_0_6) (serinetteref03_Op_n1 op a1_0_0 a1_0_1 a1_0_2 a1_0_3 a1_0_4 a1_0_5 a1_0_6) := by
    intro n hn ht
    refine ⟨⟨0, 0, 0, 0, 0, false, false⟩, 2, fun k => ?_, fun k => ?_⟩
    · unfold span_Op_n1 B_span_Op_n1
      have e : (1 != n) = true := by simp; omega
      rw [ins_same, ht, e, cT]; rfl
    · unfold serinetteref03_Op_n1 B_serinetteref03_Op_n1
      have e : (1 != n) = true := by simp; omega
      rw [ht, e, cT]
      cases (n == 0) <;> rfl
  rcases takes_cases op with ⟨n, hop, ht⟩ | ht
  · rcases hop.notpick with ⟨rfl, _⟩ | ⟨_, rfl | rfl, hp⟩
    · exact err 3 (by omega) ht
    · have hk := S.known_ok ⟨a1_0_0, a1_0_1, a1_0_2, a1_0_3, a1_0_4, a1_0_5, a1_0_6⟩
      have hkk := known_known ⟨a1_0_0, a1_0_1, a1_0_2, a1_0_3, a1_0_4, a1_0_5, a1_0_6⟩
      unfold span_Op_n1 B_span_Op_n1 serinetteref03_Op_n1 B_serinetteref03_Op_n1
      simp only [ins_same, ht, known_eq, rknown_eq, hp, nothing_eq, empty_eq, Sp.ap, cF]
      generalize S.known ⟨a1_0_0, a1_0_1, a1_0_2, a1_0_3, a1_0_4, a1_0_5, a1_0_6⟩ = s at *
      rw [show ((1 : Int) != 1) = false from rfl, show ((1 : Int) == 0) = false from rfl, show ((1 : Int) == 1) = true from rfl, show ((1 : Int) == 3) = false from rfl]
      simp only [cF, cT, Bool.not_false]
      cases he : s.em
      · obtain ⟨R, h1, h2, h3⟩ := hop.one hk he hkk
        rw [he] at h1 h2
        refine ⟨S.orn R s.no, 0, fun k => ?_, fun k => ?_⟩
        · simp only [cF, of1]
          exact (h1 _).trans (orn_bif R s.no 0 k)
        · simp only [cF]
          exact h2 _
      · exact ⟨⟨0, 0, 0, 0, 0, s.no, true⟩, 0, fun k => rfl, fun k => rfl⟩
    · exact err 2 (by omega) ht
  · exact err 0 (by omega) ht
theorem op2_same (op : ByteArray) (a1_0_0 a1_0_1 a1_0_2 a1_0_3 a1_0_4 : Int) (a1_0_5 a1_0_6 : Bool) (a1_1_0 a1_1_1 a1_1_2 a1_1_3 a1_1_4 : Int) (a1_1_5 a1_1_6 : Bool) : Same (span_Op_n2 op a1_0_0 a1_0_1 a1_0_2 a1_0_3 a1_0_4 a1_0_5 a1_0_6 a1_1_0 a1_1_1 a1_1_2 a1_1_3 a1_1_4 a1_1_5 a1_1_6) (serinetteref03_Op_n2 op a1_0_0 a1_0_1 a1_0_2 a1_0_3 a1_0_4 a1_0_5 a1_0_6 a1_1_0 a1_1_1 a1_1_2 a1_1_3 a1_1_4 a1_1_5 a1_1_6) := by
  have err : ∀ n : Int, n ≠ 2 → (∀ k, serinetteref03_Takes op k = k n) → Same (span_Op_n2 op a1_0_0 a1_0_1 a1_0_2 a1_0_3 a1_0_4 a1_0_5 a1_0_6 a1_1_0 a1_1_1 a1_1_2 a1_1_3 a1_1_4 a1_1_5 a1_1_6) (serinetteref03_Op_n2 op a1_0_0 a1_0_1 a1_0_2 a1_0_3 a1_0_4 a1_0_5 a1_0_6 a1_1_0 a1_1_1 a1_1_2 a1_1_3 a1_1_4 a1_1_5 a1_1_6) := by
    intro n hn ht
    refine ⟨⟨0, 0, 0, 0, 0, false, false⟩, 2, fun k => ?_, fun k => ?_⟩
    · unfold span_Op_n2 B_span_Op_n2
      have e : (2 != n) = true := by simp; omega
      rw [ins_same, ht, e, cT]; rfl
    · unfold serinetteref03_Op_n2 B_serinetteref03_Op_n2
      have e : (2 != n) = true := by simp; omega
      rw [ht, e, cT]
      cases (n == 0) <;> rfl
  rcases takes_cases op with ⟨n, hop, ht⟩ | ht
  · rcases hop.notpick with ⟨rfl, _⟩ | ⟨_, rfl | rfl, hp⟩
    · exact err 3 (by omega) ht
    · exact err 1 (by omega) ht
    · have hk := S.known_ok ⟨a1_0_0, a1_0_1, a1_0_2, a1_0_3, a1_0_4, a1_0_5, a1_0_6⟩
      have hk' := S.known_ok ⟨a1_1_0, a1_1_1, a1_1_2, a1_1_3, a1_1_4, a1_1_5, a1_1_6⟩
      unfold span_Op_n2 B_span_Op_n2 serinetteref03_Op_n2 B_serinetteref03_Op_n2
      simp only [ins_same, ht, known_eq, rknown_eq, hp, nothing_eq, empty_eq, Sp.ap, cF]
      generalize S.known ⟨a1_0_0, a1_0_1, a1_0_2, a1_0_3, a1_0_4, a1_0_5, a1_0_6⟩ = s at *
      generalize S.known ⟨a1_1_0, a1_1_1, a1_1_2, a1_1_3, a1_1_4, a1_1_5, a1_1_6⟩ = t at *
      rw [show ((2 : Int) != 2) = false from rfl, show ((2 : Int) == 0) = false from rfl, show ((2 : Int) == 1) = false from rfl, show ((2 : Int) == 2) = true from rfl, show ((2 : Int) == 3) = false from rfl]
      simp only [cF, cT, Bool.not_false]
      cases he : s.em
      · cases he' : t.em
        · obtain ⟨R, h1, h2, h3⟩ := hop.two hk hk' he he'
          rw [he, he'] at h1 h2
          refine ⟨S.orn R (s.no || t.no), 0, fun k => ?_, fun k => ?_⟩
          · cases hn : s.no
            · rw [hn] at h1
              simp only [Bool.not_false, cT, cF, Bool.false_or, of2]
              exact (h1 _).trans (orn_bif R t.no 0 k)
            · rw [hn] at h1
              simp only [Bool.not_true, Bool.not_false, cT, cF, Bool.true_or, of2]
              exact (h1 _).trans (orn_bif R true 0 k)
          · cases hn : s.no
            · rw [hn] at h2
              simp only [Bool.not_false, cT, cF, Bool.false_or]
              exact h2 _
            · rw [hn] at h2
              simp only [Bool.not_true, Bool.not_false, cT, cF, Bool.true_or]
              exact h2 _
        · refine ⟨⟨0, 0, 0, 0, 0, s.no || t.no, true⟩, 0, fun k => ?_, fun k => ?_⟩ <;> cases s.no <;> rfl
      · refine ⟨⟨0, 0, 0, 0, 0, s.no || t.no, true⟩, 0, fun k => ?_, fun k => ?_⟩ <;> cases s.no <;> rfl
  · exact err 0 (by omega) ht
theorem pick_same {s t u : Sp} (hs : S.Ok s) : ∃ R : Sp, (∀ k, span_pick s.ln s.ld s.hn s.hd s.den s.no s.em t.ln t.ld t.hn t.hd t.den t.no t.em u.ln u.ld u.hn u.hd u.den u.no u.em k = R.ap k) ∧ ∀ k, serinetteref03_picked s.ln s.ld s.hn s.hd s.den s.no s.em t.ln t.ld t.hn t.hd t.den t.no t.em u.ln u.ld u.hn u.hd u.den u.no u.em k = R.ap k := by
  unfold span_pick B_span_pick serinetteref03_picked B_serinetteref03_picked
  simp only [zero_eq, whole0, has_eq, rhas_eq, iszero_eq hs, riszero_eq hs, join_eq, rjoin_eq]
  generalize S.has _ 0 1 = x
  generalize S.join _ _ = j
  generalize S.iszero s = z
  cases he : s.em
  · simp only [cF, Bool.not_false, Bool.true_and, Sp.ap]
    cases x
    · exact ⟨S.orn u s.no, fun k => by cases h : u.no <;> simp [S.orn, h], fun k => by cases h : u.no <;> simp [S.orn, h]⟩
    · cases z
      · exact ⟨S.orn j s.no, fun k => by cases h : j.no <;> simp [S.orn, h], fun k => by cases h : j.no <;> simp [S.orn, h]⟩
      · exact ⟨S.orn t s.no, fun k => by cases h : t.no <;> simp [S.orn, h], fun k => by cases h : t.no <;> simp [S.orn, h]⟩
  · exact ⟨⟨s.ln, s.ld, s.hn, s.hd, s.den, s.no, true⟩, fun k => rfl, fun k => rfl⟩
theorem op3_same (op : ByteArray) (a1_0_0 a1_0_1 a1_0_2 a1_0_3 a1_0_4 : Int) (a1_0_5 a1_0_6 : Bool) (a1_1_0 a1_1_1 a1_1_2 a1_1_3 a1_1_4 : Int) (a1_1_5 a1_1_6 : Bool) (a1_2_0 a1_2_1 a1_2_2 a1_2_3 a1_2_4 : Int) (a1_2_5 a1_2_6 : Bool) : Same (span_Op_n3 op a1_0_0 a1_0_1 a1_0_2 a1_0_3 a1_0_4 a1_0_5 a1_0_6 a1_1_0 a1_1_1 a1_1_2 a1_1_3 a1_1_4 a1_1_5 a1_1_6 a1_2_0 a1_2_1 a1_2_2 a1_2_3 a1_2_4 a1_2_5 a1_2_6) (serinetteref03_Op_n3 op a1_0_0 a1_0_1 a1_0_2 a1_0_3 a1_0_4 a1_0_5 a1_0_6 a1_1_0 a1_1_1 a1_1_2 a1_1_3 a1_1_4 a1_1_5 a1_1_6 a1_2_0 a1_2_1 a1_2_2 a1_2_3 a1_2_4 a1_2_5 a1_2_6) := by
  have err : ∀ n : Int, n ≠ 3 → (∀ k, serinetteref03_Takes op k = k n) → Same (span_Op_n3 op a1_0_0 a1_0_1 a1_0_2 a1_0_3 a1_0_4 a1_0_5 a1_0_6 a1_1_0 a1_1_1 a1_1_2 a1_1_3 a1_1_4 a1_1_5 a1_1_6 a1_2_0 a1_2_1 a1_2_2 a1_2_3 a1_2_4 a1_2_5 a1_2_6) (serinetteref03_Op_n3 op a1_0_0 a1_0_1 a1_0_2 a1_0_3 a1_0_4 a1_0_5 a1_0_6 a1_1_0 a1_1_1 a1_1_2 a1_1_3 a1_1_4 a1_1_5 a1_1_6 a1_2_0 a1_2_1 a1_2_2 a1_2_3 a1_2_4 a1_2_5 a1_2_6) := by
    intro n hn ht
    refine ⟨⟨0, 0, 0, 0, 0, false, false⟩, 2, fun k => ?_, fun k => ?_⟩
    · unfold span_Op_n3 B_span_Op_n3
      have e : (3 != n) = true := by simp; omega
      rw [ins_same, ht, e, cT]; rfl
    · unfold serinetteref03_Op_n3 B_serinetteref03_Op_n3
      have e : (3 != n) = true := by simp; omega
      rw [ht, e, cT]
      cases (n == 0) <;> rfl
  rcases takes_cases op with ⟨n, hop, ht⟩ | ht
  · rcases hop.notpick with ⟨rfl, rfl⟩ | ⟨h3, _⟩
    · have hk := S.known_ok ⟨a1_0_0, a1_0_1, a1_0_2, a1_0_3, a1_0_4, a1_0_5, a1_0_6⟩
      unfold span_Op_n3 B_span_Op_n3 serinetteref03_Op_n3 B_serinetteref03_Op_n3
      simp only [ins_same, ht, known_eq, rknown_eq, lc_pick_pick, Sp.ap, cT]
      generalize S.known ⟨a1_0_0, a1_0_1, a1_0_2, a1_0_3, a1_0_4, a1_0_5, a1_0_6⟩ = s at *
      generalize S.known ⟨a1_1_0, a1_1_1, a1_1_2, a1_1_3, a1_1_4, a1_1_5, a1_1_6⟩ = t at *
      generalize S.known ⟨a1_2_0, a1_2_1, a1_2_2, a1_2_3, a1_2_4, a1_2_5, a1_2_6⟩ = u at *
      rw [show ((3 : Int) != 3) = false from rfl, show ((3 : Int) == 0) = false from rfl, show ((3 : Int) == 3) = true from rfl]
      simp only [cF, cT, Bool.not_false]
      obtain ⟨R, h1, h2⟩ := @pick_same s t u hk
      refine ⟨R, 0, fun k => ?_, fun k => ?_⟩
      · simp only [h1]
        cases s.no <;> cases s.em <;> cases t.no <;> cases t.em <;> rfl
      · simp only [h2]
        cases s.no <;> cases s.em <;> cases t.no <;> cases t.em <;> rfl
    · exact err n h3 ht
  · exact err 0 (by omega) ht
theorem op0_same (op : ByteArray) : Same (span_Op_n0 op) (serinetteref03_Op_n0 op) := by
  refine ⟨⟨0, 0, 0, 0, 0, false, false⟩, 2, fun k => rfl, fun k => ?_⟩
  unfold serinetteref03_Op_n0 B_serinetteref03_Op_n0
  rcases takes_cases op with ⟨n, hop, ht⟩ | ht
  · rcases hop.notpick with ⟨rfl, _⟩ | ⟨_, rfl | rfl, _⟩ <;> rw [ht] <;> rfl
  · rw [ht]; rfl
theorem op4_same (op : ByteArray) (a1_0_0 a1_0_1 a1_0_2 a1_0_3 a1_0_4 : Int) (a1_0_5 a1_0_6 : Bool) (a1_1_0 a1_1_1 a1_1_2 a1_1_3 a1_1_4 : Int) (a1_1_5 a1_1_6 : Bool) (a1_2_0 a1_2_1 a1_2_2 a1_2_3 a1_2_4 : Int) (a1_2_5 a1_2_6 : Bool) (a1_3_0 a1_3_1 a1_3_2 a1_3_3 a1_3_4 : Int) (a1_3_5 a1_3_6 : Bool) (l : List (List DV)) : Same (span_Op_m4 op a1_0_0 a1_0_1 a1_0_2 a1_0_3 a1_0_4 a1_0_5 a1_0_6 a1_1_0 a1_1_1 a1_1_2 a1_1_3 a1_1_4 a1_1_5 a1_1_6 a1_2_0 a1_2_1 a1_2_2 a1_2_3 a1_2_4 a1_2_5 a1_2_6 a1_3_0 a1_3_1 a1_3_2 a1_3_3 a1_3_4 a1_3_5 a1_3_6 l) (serinetteref03_Op_m4 op a1_0_0 a1_0_1 a1_0_2 a1_0_3 a1_0_4 a1_0_5 a1_0_6 a1_1_0 a1_1_1 a1_1_2 a1_1_3 a1_1_4 a1_1_5 a1_1_6 a1_2_0 a1_2_1 a1_2_2 a1_2_3 a1_2_4 a1_2_5 a1_2_6 a1_3_0 a1_3_1 a1_3_2 a1_3_3 a1_3_4 a1_3_5 a1_3_6 l) := by
  have no : ∀ n : Int, n ≤ 3 → ((((Nat.succ (Nat.succ (Nat.succ (Nat.succ (List.length l)))) : Nat) : Int) == 0) = false ∧ (((Nat.succ (Nat.succ (Nat.succ (Nat.succ (List.length l)))) : Nat) : Int) != n) = true) := by
    intro n hn
    have : ((Nat.succ (Nat.succ (Nat.succ (Nat.succ (List.length l)))) : Nat) : Int) ≥ 4 := by omega
    exact ⟨by simp; omega, by simp; omega⟩
  refine ⟨⟨0, 0, 0, 0, 0, false, false⟩, 2, fun k => ?_, fun k => ?_⟩
  · unfold span_Op_m4 B_span_Op_m4
    rw [ins_same, (no 0 (by omega)).1, Bool.not_false, cT]
    rcases takes_cases op with ⟨n, hop, ht⟩ | ht
    · have hn : n ≤ 3 := by rcases hop.notpick with ⟨h, _⟩ | ⟨_, h | h, _⟩ <;> omega
      rw [ht, (no n hn).2, cT]; rfl
    · rw [ht, (no 0 (by omega)).2, cT]; rfl
  · unfold serinetteref03_Op_m4 B_serinetteref03_Op_m4
    rcases takes_cases op with ⟨n, hop, ht⟩ | ht
    · have hn : n ≤ 3 := by rcases hop.notpick with ⟨h, _⟩ | ⟨_, h | h, _⟩ <;> omega
      rw [ht, (no n hn).2, cT]
      cases (n == 0) <;> rfl
    · rw [ht]; rfl
theorem spanops_n0 (op : ByteArray)  (k : Bool → Option DV) : serinettelaw03_SpanOps_n0 op  k = k true := by
  obtain ⟨R, e, h1, h2⟩ := op0_same op 
  unfold serinettelaw03_SpanOps_n0 B_serinettelaw03_SpanOps_n0
  simp only [h1, h2, Sp.ape, awake_true]
  simp
theorem spanops_n1 (op : ByteArray) (a1_0_0 a1_0_1 a1_0_2 a1_0_3 a1_0_4 : Int) (a1_0_5 a1_0_6 : Bool) (k : Bool → Option DV) : serinettelaw03_SpanOps_n1 op a1_0_0 a1_0_1 a1_0_2 a1_0_3 a1_0_4 a1_0_5 a1_0_6 k = k true := by
  obtain ⟨R, e, h1, h2⟩ := op1_same op a1_0_0 a1_0_1 a1_0_2 a1_0_3 a1_0_4 a1_0_5 a1_0_6
  unfold serinettelaw03_SpanOps_n1 B_serinettelaw03_SpanOps_n1
  simp only [h1, h2, Sp.ape, awake_true]
  simp
theorem spanops_n2 (op : ByteArray) (a1_0_0 a1_0_1 a1_0_2 a1_0_3 a1_0_4 : Int) (a1_0_5 a1_0_6 : Bool) (a1_1_0 a1_1_1 a1_1_2 a1_1_3 a1_1_4 : Int) (a1_1_5 a1_1_6 : Bool) (k : Bool → Option DV) : serinettelaw03_SpanOps_n2 op a1_0_0 a1_0_1 a1_0_2 a1_0_3 a1_0_4 a1_0_5 a1_0_6 a1_1_0 a1_1_1 a1_1_2 a1_1_3 a1_1_4 a1_1_5 a1_1_6 k = k true := by
  obtain ⟨R, e, h1, h2⟩ := op2_same op a1_0_0 a1_0_1 a1_0_2 a1_0_3 a1_0_4 a1_0_5 a1_0_6 a1_1_0 a1_1_1 a1_1_2 a1_1_3 a1_1_4 a1_1_5 a1_1_6
  unfold serinettelaw03_SpanOps_n2 B_serinettelaw03_SpanOps_n2
  simp only [h1, h2, Sp.ape, awake_true]
  simp
theorem spanops_n3 (op : ByteArray) (a1_0_0 a1_0_1 a1_0_2 a1_0_3 a1_0_4 : Int) (a1_0_5 a1_0_6 : Bool) (a1_1_0 a1_1_1 a1_1_2 a1_1_3 a1_1_4 : Int) (a1_1_5 a1_1_6 : Bool) (a1_2_0 a1_2_1 a1_2_2 a1_2_3 a1_2_4 : Int) (a1_2_5 a1_2_6 : Bool) (k : Bool → Option DV) : serinettelaw03_SpanOps_n3 op a1_0_0 a1_0_1 a1_0_2 a1_0_3 a1_0_4 a1_0_5 a1_0_6 a1_1_0 a1_1_1 a1_1_2 a1_1_3 a1_1_4 a1_1_5 a1_1_6 a1_2_0 a1_2_1 a1_2_2 a1_2_3 a1_2_4 a1_2_5 a1_2_6 k = k true := by
  obtain ⟨R, e, h1, h2⟩ := op3_same op a1_0_0 a1_0_1 a1_0_2 a1_0_3 a1_0_4 a1_0_5 a1_0_6 a1_1_0 a1_1_1 a1_1_2 a1_1_3 a1_1_4 a1_1_5 a1_1_6 a1_2_0 a1_2_1 a1_2_2 a1_2_3 a1_2_4 a1_2_5 a1_2_6
  unfold serinettelaw03_SpanOps_n3 B_serinettelaw03_SpanOps_n3
  simp only [h1, h2, Sp.ape, awake_true]
  simp
theorem spanops_m4 (op : ByteArray) (a1_0_0 a1_0_1 a1_0_2 a1_0_3 a1_0_4 : Int) (a1_0_5 a1_0_6 : Bool) (a1_1_0 a1_1_1 a1_1_2 a1_1_3 a1_1_4 : Int) (a1_1_5 a1_1_6 : Bool) (a1_2_0 a1_2_1 a1_2_2 a1_2_3 a1_2_4 : Int) (a1_2_5 a1_2_6 : Bool) (a1_3_0 a1_3_1 a1_3_2 a1_3_3 a1_3_4 : Int) (a1_3_5 a1_3_6 : Bool) (l : List (List DV)) (k : Bool → Option DV) : serinettelaw03_SpanOps_m4 op a1_0_0 a1_0_1 a1_0_2 a1_0_3 a1_0_4 a1_0_5 a1_0_6 a1_1_0 a1_1_1 a1_1_2 a1_1_3 a1_1_4 a1_1_5 a1_1_6 a1_2_0 a1_2_1 a1_2_2 a1_2_3 a1_2_4 a1_2_5 a1_2_6 a1_3_0 a1_3_1 a1_3_2 a1_3_3 a1_3_4 a1_3_5 a1_3_6 l k = k true := by
  obtain ⟨R, e, h1, h2⟩ := op4_same op a1_0_0 a1_0_1 a1_0_2 a1_0_3 a1_0_4 a1_0_5 a1_0_6 a1_1_0 a1_1_1 a1_1_2 a1_1_3 a1_1_4 a1_1_5 a1_1_6 a1_2_0 a1_2_1 a1_2_2 a1_2_3 a1_2_4 a1_2_5 a1_2_6 a1_3_0 a1_3_1 a1_3_2 a1_3_3 a1_3_4 a1_3_5 a1_3_6 l
  unfold serinettelaw03_SpanOps_m4 B_serinettelaw03_SpanOps_m4
  simp only [h1, h2, Sp.ape, awake_true]
  simp
end Go.Proofs.YtnidbhfpkjggmaaGreatDoor
