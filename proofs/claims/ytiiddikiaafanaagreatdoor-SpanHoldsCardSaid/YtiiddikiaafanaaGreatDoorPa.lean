import Derived.Test.YtiiddikiaafanaaGreatDoorTests
import Derived.Test.YtiiddikiaafanaaGreatDoorFmt
import Derived.Test.YtiiddikiaafanaaGreatDoorPv
set_option linter.all false
/-
  Numbers, as they were walked, read as plain functions.
-/
namespace Go.Proofs.YtiiddikiaafanaaGreatDoor
open Go.Pv Go.RowKit
/-- Kinds of what is gone on with. -/
abbrev KI := Int → Option DV
abbrev KB := Bool → Option DV
abbrev KT := ByteArray → Option DV
abbrev KQ := Int → Int → Option DV
abbrev KQQ := Int → Int → Int → Int → Option DV
abbrev KS := Int → Int → Int → Int → Int → Bool → Bool → Option DV
abbrev KSE := Int → Int → Int → Int → Int → Bool → Bool → Int → Option DV
theorem mixed : Tryz.prog.follows .mixedOrders = true := by kernel_rfl
def ratio_Is (n : Int) (d : Int) (k : Bool → Option DV) : Option DV :=
  k ((Q.isq n d))
noncomputable def KK_ratio_Is (f0 : Int → Int → (Bool → Option DV) → Option DV) (ds : List DV) (k : DV → Option DV) : Option DV :=
  match ds with
  | [.val (.agg ⟨[.int .i64 a0_0, .int .i64 a0_1]⟩)] => f0 a0_0 a0_1 (fun r0_0 => k (.val (.bool r0_0)))
  | _ => none
theorem m_ratio_Is : Meets Tryz.prog Inv 31 (KK_ratio_Is ratio_Is) :=
  meets_flat (by kernel_rfl) (by
    intro ds; unfold KK_ratio_Is; split
    · rename_i n d
      unfold ratio_Is
      exact .inr ⟨[.agg #[.int .i64 n, .int .i64 d]], _, rfl, fun _ => rfl, fun w hI => (is_any n d w)⟩
    · exact .inl (fun _ => rfl))
def ratio_Make (n : Int) (d : Int) (k : Int → Int → Option DV) : Option DV :=
  bif decide ((-9223372036854775808 ≤ n ∧ n ≤ 9223372036854775807) ∧ (-9223372036854775808 ≤ d ∧ d ≤ 9223372036854775807)) then k ((Q.mk n d).1) ((Q.mk n d).2) else none
noncomputable def KK_ratio_Make (f0 : Int → Int → (Int → Int → Option DV) → Option DV) (ds : List DV) (k : DV → Option DV) : Option DV :=
  match ds with
  | [.val (.int .i64 a0), .val (.int .i64 a1)] => f0 a0 a1 (fun r0_0 r0_1 => k (.val (.agg ⟨[.int .i64 r0_0, .int .i64 r0_1]⟩)))
  | _ => none
theorem m_ratio_Make : Meets Tryz.prog Inv 90 (KK_ratio_Make ratio_Make) :=
  meets_flat (by kernel_rfl) (by
    intro ds; unfold KK_ratio_Make; split
    · rename_i n d
      unfold ratio_Make
      by_cases hp : (-9223372036854775808 ≤ n ∧ n ≤ 9223372036854775807) ∧ (-9223372036854775808 ≤ d ∧ d ≤ 9223372036854775807)
      · simp only [decide_eq_true hp, cond_true]
        exact .inr ⟨[.int .i64 n, .int .i64 d], _, rfl, fun _ => rfl, fun w hI => (make_any n d (hp.1) (hp.2) w)⟩
      · left; intro _; simp only [decide_eq_false hp, cond_false]
    · exact .inl (fun _ => rfl))
def ratio_Cmp (an : Int) (ad : Int) (bn : Int) (bd : Int) (k : Int → Option DV) : Option DV :=
  k ((Q.cmp (an, ad) (bn, bd)))
noncomputable def KK_ratio_Cmp (f0 : Int → Int → Int → Int → (Int → Option DV) → Option DV) (ds : List DV) (k : DV → Option DV) : Option DV :=
  match ds with
  | [.val (.agg ⟨[.int .i64 a0_0, .int .i64 a0_1]⟩), .val (.agg ⟨[.int .i64 a1_0, .int .i64 a1_1]⟩)] => f0 a0_0 a0_1 a1_0 a1_1 (fun r0_0 => k (.val (.int .i64 r0_0)))
  | _ => none
theorem m_ratio_Cmp : Meets Tryz.prog Inv 68 (KK_ratio_Cmp ratio_Cmp) :=
  meets_flat (by kernel_rfl) (by
    intro ds; unfold KK_ratio_Cmp; split
    · rename_i an ad bn bd
      unfold ratio_Cmp
      exact .inr ⟨[.agg #[.int .i64 an, .int .i64 ad], .agg #[.int .i64 bn, .int .i64 bd]], _, rfl, fun _ => rfl, fun w hI => (R.cmp_any an ad bn bd w)⟩
    · exact .inl (fun _ => rfl))
def ratio_Neg (an : Int) (ad : Int) (k : Int → Int → Option DV) : Option DV :=
  k ((Q.neg (an, ad)).1) ((Q.neg (an, ad)).2)
noncomputable def KK_ratio_Neg (f0 : Int → Int → (Int → Int → Option DV) → Option DV) (ds : List DV) (k : DV → Option DV) : Option DV :=
  match ds with
  | [.val (.agg ⟨[.int .i64 a0_0, .int .i64 a0_1]⟩)] => f0 a0_0 a0_1 (fun r0_0 r0_1 => k (.val (.agg ⟨[.int .i64 r0_0, .int .i64 r0_1]⟩)))
  | _ => none
theorem m_ratio_Neg : Meets Tryz.prog Inv 64 (KK_ratio_Neg ratio_Neg) :=
  meets_flat (by kernel_rfl) (by
    intro ds; unfold KK_ratio_Neg; split
    · rename_i an ad
      unfold ratio_Neg
      exact .inr ⟨[.agg #[.int .i64 an, .int .i64 ad]], _, rfl, fun _ => rfl, fun w hI => (R.neg_any an ad w)⟩
    · exact .inl (fun _ => rfl))
def ratio_Floor (an : Int) (ad : Int) (k : Int → Int → Option DV) : Option DV :=
  k ((Q.floor (an, ad)).1) ((Q.floor (an, ad)).2)
noncomputable def KK_ratio_Floor (f0 : Int → Int → (Int → Int → Option DV) → Option DV) (ds : List DV) (k : DV → Option DV) : Option DV :=
  match ds with
  | [.val (.agg ⟨[.int .i64 a0_0, .int .i64 a0_1]⟩)] => f0 a0_0 a0_1 (fun r0_0 r0_1 => k (.val (.agg ⟨[.int .i64 r0_0, .int .i64 r0_1]⟩)))
  | _ => none
theorem m_ratio_Floor : Meets Tryz.prog Inv 101 (KK_ratio_Floor ratio_Floor) :=
  meets_flat (by kernel_rfl) (by
    intro ds; unfold KK_ratio_Floor; split
    · rename_i an ad
      unfold ratio_Floor
      exact .inr ⟨[.agg #[.int .i64 an, .int .i64 ad]], _, rfl, fun _ => rfl, fun w hI => (R.floor_any an ad w)⟩
    · exact .inl (fun _ => rfl))
def ratio_Min (an : Int) (ad : Int) (bn : Int) (bd : Int) (k : Int → Int → Option DV) : Option DV :=
  k ((Q.min (an, ad) (bn, bd)).1) ((Q.min (an, ad) (bn, bd)).2)
noncomputable def KK_ratio_Min (f0 : Int → Int → Int → Int → (Int → Int → Option DV) → Option DV) (ds : List DV) (k : DV → Option DV) : Option DV :=
  match ds with
  | [.val (.agg ⟨[.int .i64 a0_0, .int .i64 a0_1]⟩), .val (.agg ⟨[.int .i64 a1_0, .int .i64 a1_1]⟩)] => f0 a0_0 a0_1 a1_0 a1_1 (fun r0_0 r0_1 => k (.val (.agg ⟨[.int .i64 r0_0, .int .i64 r0_1]⟩)))
  | _ => none
theorem m_ratio_Min : Meets Tryz.prog Inv 96 (KK_ratio_Min ratio_Min) :=
  meets_flat (by kernel_rfl) (by
    intro ds; unfold KK_ratio_Min; split
    · rename_i an ad bn bd
      unfold ratio_Min
      exact .inr ⟨[.agg #[.int .i64 an, .int .i64 ad], .agg #[.int .i64 bn, .int .i64 bd]], _, rfl, fun _ => rfl, fun w hI => (R.min_any an ad bn bd w)⟩
    · exact .inl (fun _ => rfl))
def ratio_Max (an : Int) (ad : Int) (bn : Int) (bd : Int) (k : Int → Int → Option DV) : Option DV :=
  k ((Q.max (an, ad) (bn, bd)).1) ((Q.max (an, ad) (bn, bd)).2)
noncomputable def KK_ratio_Max (f0 : Int → Int → Int → Int → (Int → Int → Option DV) → Option DV) (ds : List DV) (k : DV → Option DV) : Option DV :=
  match ds with
  | [.val (.agg ⟨[.int .i64 a0_0, .int .i64 a0_1]⟩), .val (.agg ⟨[.int .i64 a1_0, .int .i64 a1_1]⟩)] => f0 a0_0 a0_1 a1_0 a1_1 (fun r0_0 r0_1 => k (.val (.agg ⟨[.int .i64 r0_0, .int .i64 r0_1]⟩)))
  | _ => none
theorem m_ratio_Max : Meets Tryz.prog Inv 97 (KK_ratio_Max ratio_Max) :=
  meets_flat (by kernel_rfl) (by
    intro ds; unfold KK_ratio_Max; split
    · rename_i an ad bn bd
      unfold ratio_Max
      exact .inr ⟨[.agg #[.int .i64 an, .int .i64 ad], .agg #[.int .i64 bn, .int .i64 bd]], _, rfl, fun _ => rfl, fun w hI => (R.max_any an ad bn bd w)⟩
    · exact .inl (fun _ => rfl))
def ratio_Round (an : Int) (ad : Int) (k : Int → Int → Option DV) : Option DV :=
  k ((Q.round (an, ad)).1) ((Q.round (an, ad)).2)
noncomputable def KK_ratio_Round (f0 : Int → Int → (Int → Int → Option DV) → Option DV) (ds : List DV) (k : DV → Option DV) : Option DV :=
  match ds with
  | [.val (.agg ⟨[.int .i64 a0_0, .int .i64 a0_1]⟩)] => f0 a0_0 a0_1 (fun r0_0 r0_1 => k (.val (.agg ⟨[.int .i64 r0_0, .int .i64 r0_1]⟩)))
  | _ => none
theorem m_ratio_Round : Meets Tryz.prog Inv 102 (KK_ratio_Round ratio_Round) :=
  meets_flat (by kernel_rfl) (by
    intro ds; unfold KK_ratio_Round; split
    · rename_i an ad
      unfold ratio_Round
      exact .inr ⟨[.agg #[.int .i64 an, .int .i64 ad]], _, rfl, fun _ => rfl, fun w hI => (R.round_any an ad w)⟩
    · exact .inl (fun _ => rfl))
def ratio_Abs (an : Int) (ad : Int) (k : Int → Int → Option DV) : Option DV :=
  k ((Q.abs (an, ad)).1) ((Q.abs (an, ad)).2)
noncomputable def KK_ratio_Abs (f0 : Int → Int → (Int → Int → Option DV) → Option DV) (ds : List DV) (k : DV → Option DV) : Option DV :=
  match ds with
  | [.val (.agg ⟨[.int .i64 a0_0, .int .i64 a0_1]⟩)] => f0 a0_0 a0_1 (fun r0_0 r0_1 => k (.val (.agg ⟨[.int .i64 r0_0, .int .i64 r0_1]⟩)))
  | _ => none
theorem m_ratio_Abs : Meets Tryz.prog Inv 126 (KK_ratio_Abs ratio_Abs) :=
  meets_flat (by kernel_rfl) (by
    intro ds; unfold KK_ratio_Abs; split
    · rename_i an ad
      unfold ratio_Abs
      exact .inr ⟨[.agg #[.int .i64 an, .int .i64 ad]], _, rfl, fun _ => rfl, fun w hI => (R.abs_any an ad w)⟩
    · exact .inl (fun _ => rfl))
def ratio_Valid (an : Int) (ad : Int) (k : Bool → Option DV) : Option DV :=
  k ((Q.valid (an, ad)))
noncomputable def KK_ratio_Valid (f0 : Int → Int → (Bool → Option DV) → Option DV) (ds : List DV) (k : DV → Option DV) : Option DV :=
  match ds with
  | [.val (.agg ⟨[.int .i64 a0_0, .int .i64 a0_1]⟩)] => f0 a0_0 a0_1 (fun r0_0 => k (.val (.bool r0_0)))
  | _ => none
theorem m_ratio_Valid : Meets Tryz.prog Inv 87 (KK_ratio_Valid ratio_Valid) :=
  meets_flat (by kernel_rfl) (by
    intro ds; unfold KK_ratio_Valid; split
    · rename_i an ad
      unfold ratio_Valid
      exact .inr ⟨[.agg #[.int .i64 an, .int .i64 ad]], _, rfl, fun _ => rfl, fun w hI => (R.valid_any an ad w)⟩
    · exact .inl (fun _ => rfl))
def ratio_Div (an : Int) (ad : Int) (bn : Int) (bd : Int) (k : Int → Int → Option DV) : Option DV :=
  k ((Q.div (an, ad) (bn, bd)).1) ((Q.div (an, ad) (bn, bd)).2)
noncomputable def KK_ratio_Div (f0 : Int → Int → Int → Int → (Int → Int → Option DV) → Option DV) (ds : List DV) (k : DV → Option DV) : Option DV :=
  match ds with
  | [.val (.agg ⟨[.int .i64 a0_0, .int .i64 a0_1]⟩), .val (.agg ⟨[.int .i64 a1_0, .int .i64 a1_1]⟩)] => f0 a0_0 a0_1 a1_0 a1_1 (fun r0_0 r0_1 => k (.val (.agg ⟨[.int .i64 r0_0, .int .i64 r0_1]⟩)))
  | _ => none
theorem m_ratio_Div : Meets Tryz.prog Inv 135 (KK_ratio_Div ratio_Div) :=
  meets_flat (by kernel_rfl) (by
    intro ds; unfold KK_ratio_Div; split
    · rename_i an ad bn bd
      unfold ratio_Div
      exact .inr ⟨[.agg #[.int .i64 an, .int .i64 ad], .agg #[.int .i64 bn, .int .i64 bd]], _, rfl, fun _ => rfl, fun w hI => (R.div_any an ad bn bd w)⟩
    · exact .inl (fun _ => rfl))
def ratio_Test (s : ByteArray) (an : Int) (ad : Int) (bn : Int) (bd : Int) (k : Int → Int → Option DV) : Option DV :=
  k ((Q.tst s.toList (an, ad) (bn, bd)).1) ((Q.tst s.toList (an, ad) (bn, bd)).2)
noncomputable def KK_ratio_Test (f0 : ByteArray → Int → Int → Int → Int → (Int → Int → Option DV) → Option DV) (ds : List DV) (k : DV → Option DV) : Option DV :=
  match ds with
  | [.val (.string a0), .val (.agg ⟨[.int .i64 a1_0, .int .i64 a1_1]⟩), .val (.agg ⟨[.int .i64 a2_0, .int .i64 a2_1]⟩)] => f0 a0 a1_0 a1_1 a2_0 a2_1 (fun r0_0 r0_1 => k (.val (.agg ⟨[.int .i64 r0_0, .int .i64 r0_1]⟩)))
  | _ => none
theorem m_ratio_Test : Meets Tryz.prog Inv 137 (KK_ratio_Test ratio_Test) :=
  meets_flat (by kernel_rfl) (by
    intro ds; unfold KK_ratio_Test; split
    · rename_i s an ad bn bd
      unfold ratio_Test
      exact .inr ⟨[.string s, .agg #[.int .i64 an, .int .i64 ad], .agg #[.int .i64 bn, .int .i64 bd]], _, rfl, fun _ => rfl, fun w hI => (R.test_any s an ad bn bd w)⟩
    · exact .inl (fun _ => rfl))
def s1_None  (k : Int → Int → Option DV) : Option DV :=
  k (0) (0)
noncomputable def KK_s1_None (f0 : (Int → Int → Option DV) → Option DV) (ds : List DV) (k : DV → Option DV) : Option DV :=
  match ds with
  | [] => f0  (fun r0_0 r0_1 => k (.val (.agg ⟨[.int .i64 r0_0, .int .i64 r0_1]⟩)))
  | _ => none
theorem m_s1_None : Meets Tryz.prog Inv 16 (KK_s1_None s1_None) :=
  meets_flat (by kernel_rfl) (by
    intro ds; unfold KK_s1_None; split
    · unfold s1_None
      exact .inr ⟨[], _, rfl, fun _ => rfl, fun w hI => (rnone_any w)⟩
    · exact .inl (fun _ => rfl))
def s1_Is (n : Int) (d : Int) (k : Bool → Option DV) : Option DV :=
  k ((Q.isq n d))
noncomputable def KK_s1_Is (f0 : Int → Int → (Bool → Option DV) → Option DV) (ds : List DV) (k : DV → Option DV) : Option DV :=
  match ds with
  | [.val (.agg ⟨[.int .i64 a0_0, .int .i64 a0_1]⟩)] => f0 a0_0 a0_1 (fun r0_0 => k (.val (.bool r0_0)))
  | _ => none
theorem m_s1_Is : Meets Tryz.prog Inv 15 (KK_s1_Is s1_Is) :=
  meets_flat (by kernel_rfl) (by
    intro ds; unfold KK_s1_Is; split
    · rename_i n d
      unfold s1_Is
      exact .inr ⟨[.agg #[.int .i64 n, .int .i64 d]], _, rfl, fun _ => rfl, fun w hI => (ris_any n d w)⟩
    · exact .inl (fun _ => rfl))
def s1_Make (n : Int) (d : Int) (k : Int → Int → Option DV) : Option DV :=
  bif decide ((-9223372036854775808 ≤ n ∧ n ≤ 9223372036854775807) ∧ (-9223372036854775808 ≤ d ∧ d ≤ 9223372036854775807)) then k ((Q.mk n d).1) ((Q.mk n d).2) else none
noncomputable def KK_s1_Make (f0 : Int → Int → (Int → Int → Option DV) → Option DV) (ds : List DV) (k : DV → Option DV) : Option DV :=
  match ds with
  | [.val (.int .i64 a0), .val (.int .i64 a1)] => f0 a0 a1 (fun r0_0 r0_1 => k (.val (.agg ⟨[.int .i64 r0_0, .int .i64 r0_1]⟩)))
  | _ => none
theorem m_s1_Make : Meets Tryz.prog Inv 52 (KK_s1_Make s1_Make) :=
  meets_flat (by kernel_rfl) (by
    intro ds; unfold KK_s1_Make; split
    · rename_i n d
      unfold s1_Make
      by_cases hp : (-9223372036854775808 ≤ n ∧ n ≤ 9223372036854775807) ∧ (-9223372036854775808 ≤ d ∧ d ≤ 9223372036854775807)
      · simp only [decide_eq_true hp, cond_true]
        exact .inr ⟨[.int .i64 n, .int .i64 d], _, rfl, fun _ => rfl, fun w hI => (rmake_all n d (hp.1) (hp.2) w)⟩
      · left; intro _; simp only [decide_eq_false hp, cond_false]
    · exact .inl (fun _ => rfl))
def s1_both (an : Int) (ad : Int) (bn : Int) (bd : Int) (k : Bool → Option DV) : Option DV :=
  k ((Q.both (an, ad) (bn, bd)))
noncomputable def KK_s1_both (f0 : Int → Int → Int → Int → (Bool → Option DV) → Option DV) (ds : List DV) (k : DV → Option DV) : Option DV :=
  match ds with
  | [.val (.agg ⟨[.int .i64 a0_0, .int .i64 a0_1]⟩), .val (.agg ⟨[.int .i64 a1_0, .int .i64 a1_1]⟩)] => f0 a0_0 a0_1 a1_0 a1_1 (fun r0_0 => k (.val (.bool r0_0)))
  | _ => none
theorem m_s1_both : Meets Tryz.prog Inv 77 (KK_s1_both s1_both) :=
  meets_flat (by kernel_rfl) (by
    intro ds; unfold KK_s1_both; split
    · rename_i an ad bn bd
      unfold s1_both
      exact .inr ⟨[.agg #[.int .i64 an, .int .i64 ad], .agg #[.int .i64 bn, .int .i64 bd]], _, rfl, fun _ => rfl, fun w hI => (R.rboth_any an ad bn bd w)⟩
    · exact .inl (fun _ => rfl))
def s1_Add (an : Int) (ad : Int) (bn : Int) (bd : Int) (k : Int → Int → Option DV) : Option DV :=
  k ((Q.add (an, ad) (bn, bd)).1) ((Q.add (an, ad) (bn, bd)).2)
noncomputable def KK_s1_Add (f0 : Int → Int → Int → Int → (Int → Int → Option DV) → Option DV) (ds : List DV) (k : DV → Option DV) : Option DV :=
  match ds with
  | [.val (.agg ⟨[.int .i64 a0_0, .int .i64 a0_1]⟩), .val (.agg ⟨[.int .i64 a1_0, .int .i64 a1_1]⟩)] => f0 a0_0 a0_1 a1_0 a1_1 (fun r0_0 r0_1 => k (.val (.agg ⟨[.int .i64 r0_0, .int .i64 r0_1]⟩)))
  | _ => none
theorem m_s1_Add : Meets Tryz.prog Inv 37 (KK_s1_Add s1_Add) :=
  meets_flat (by kernel_rfl) (by
    intro ds; unfold KK_s1_Add; split
    · rename_i an ad bn bd
      unfold s1_Add
      exact .inr ⟨[.agg #[.int .i64 an, .int .i64 ad], .agg #[.int .i64 bn, .int .i64 bd]], _, rfl, fun _ => rfl, fun w hI => (R.radd_any an ad bn bd w)⟩
    · exact .inl (fun _ => rfl))
def s1_Mul (an : Int) (ad : Int) (bn : Int) (bd : Int) (k : Int → Int → Option DV) : Option DV :=
  k ((Q.mul (an, ad) (bn, bd)).1) ((Q.mul (an, ad) (bn, bd)).2)
noncomputable def KK_s1_Mul (f0 : Int → Int → Int → Int → (Int → Int → Option DV) → Option DV) (ds : List DV) (k : DV → Option DV) : Option DV :=
  match ds with
  | [.val (.agg ⟨[.int .i64 a0_0, .int .i64 a0_1]⟩), .val (.agg ⟨[.int .i64 a1_0, .int .i64 a1_1]⟩)] => f0 a0_0 a0_1 a1_0 a1_1 (fun r0_0 r0_1 => k (.val (.agg ⟨[.int .i64 r0_0, .int .i64 r0_1]⟩)))
  | _ => none
theorem m_s1_Mul : Meets Tryz.prog Inv 39 (KK_s1_Mul s1_Mul) :=
  meets_flat (by kernel_rfl) (by
    intro ds; unfold KK_s1_Mul; split
    · rename_i an ad bn bd
      unfold s1_Mul
      exact .inr ⟨[.agg #[.int .i64 an, .int .i64 ad], .agg #[.int .i64 bn, .int .i64 bd]], _, rfl, fun _ => rfl, fun w hI => (R.rmul_any an ad bn bd w)⟩
    · exact .inl (fun _ => rfl))
def s1_Div (an : Int) (ad : Int) (bn : Int) (bd : Int) (k : Int → Int → Option DV) : Option DV :=
  k ((Q.div (an, ad) (bn, bd)).1) ((Q.div (an, ad) (bn, bd)).2)
noncomputable def KK_s1_Div (f0 : Int → Int → Int → Int → (Int → Int → Option DV) → Option DV) (ds : List DV) (k : DV → Option DV) : Option DV :=
  match ds with
  | [.val (.agg ⟨[.int .i64 a0_0, .int .i64 a0_1]⟩), .val (.agg ⟨[.int .i64 a1_0, .int .i64 a1_1]⟩)] => f0 a0_0 a0_1 a1_0 a1_1 (fun r0_0 r0_1 => k (.val (.agg ⟨[.int .i64 r0_0, .int .i64 r0_1]⟩)))
  | _ => none
theorem m_s1_Div : Meets Tryz.prog Inv 40 (KK_s1_Div s1_Div) :=
  meets_flat (by kernel_rfl) (by
    intro ds; unfold KK_s1_Div; split
    · rename_i an ad bn bd
      unfold s1_Div
      exact .inr ⟨[.agg #[.int .i64 an, .int .i64 ad], .agg #[.int .i64 bn, .int .i64 bd]], _, rfl, fun _ => rfl, fun w hI => (R.rdiv_any an ad bn bd w)⟩
    · exact .inl (fun _ => rfl))
def s1_Cmp (an : Int) (ad : Int) (bn : Int) (bd : Int) (k : Int → Option DV) : Option DV :=
  k ((Q.cmp (an, ad) (bn, bd)))
noncomputable def KK_s1_Cmp (f0 : Int → Int → Int → Int → (Int → Option DV) → Option DV) (ds : List DV) (k : DV → Option DV) : Option DV :=
  match ds with
  | [.val (.agg ⟨[.int .i64 a0_0, .int .i64 a0_1]⟩), .val (.agg ⟨[.int .i64 a1_0, .int .i64 a1_1]⟩)] => f0 a0_0 a0_1 a1_0 a1_1 (fun r0_0 => k (.val (.int .i64 r0_0)))
  | _ => none
theorem m_s1_Cmp : Meets Tryz.prog Inv 18 (KK_s1_Cmp s1_Cmp) :=
  meets_flat (by kernel_rfl) (by
    intro ds; unfold KK_s1_Cmp; split
    · rename_i an ad bn bd
      unfold s1_Cmp
      exact .inr ⟨[.agg #[.int .i64 an, .int .i64 ad], .agg #[.int .i64 bn, .int .i64 bd]], _, rfl, fun _ => rfl, fun w hI => (R.rcmp_any an ad bn bd w)⟩
    · exact .inl (fun _ => rfl))
def s1_Whole (n : Int) (k : Int → Int → Option DV) : Option DV :=
  bif decide ((-9223372036854775808 ≤ n ∧ n ≤ 9223372036854775807)) then k ((Q.mk n 1).1) ((Q.mk n 1).2) else none
noncomputable def KK_s1_Whole (f0 : Int → (Int → Int → Option DV) → Option DV) (ds : List DV) (k : DV → Option DV) : Option DV :=
  match ds with
  | [.val (.int .i64 a0)] => f0 a0 (fun r0_0 r0_1 => k (.val (.agg ⟨[.int .i64 r0_0, .int .i64 r0_1]⟩)))
  | _ => none
theorem m_s1_Whole : Meets Tryz.prog Inv 13 (KK_s1_Whole s1_Whole) :=
  meets_flat (by kernel_rfl) (by
    intro ds; unfold KK_s1_Whole; split
    · rename_i n
      unfold s1_Whole
      by_cases hp : (-9223372036854775808 ≤ n ∧ n ≤ 9223372036854775807)
      · simp only [decide_eq_true hp, cond_true]
        exact .inr ⟨[.int .i64 n], _, rfl, fun _ => rfl, fun w hI => (R.rwhole_any n (hp) w)⟩
      · left; intro _; simp only [decide_eq_false hp, cond_false]
    · exact .inl (fun _ => rfl))
def s1_Neg (an : Int) (ad : Int) (k : Int → Int → Option DV) : Option DV :=
  k ((Q.neg (an, ad)).1) ((Q.neg (an, ad)).2)
noncomputable def KK_s1_Neg (f0 : Int → Int → (Int → Int → Option DV) → Option DV) (ds : List DV) (k : DV → Option DV) : Option DV :=
  match ds with
  | [.val (.agg ⟨[.int .i64 a0_0, .int .i64 a0_1]⟩)] => f0 a0_0 a0_1 (fun r0_0 r0_1 => k (.val (.agg ⟨[.int .i64 r0_0, .int .i64 r0_1]⟩)))
  | _ => none
theorem m_s1_Neg : Meets Tryz.prog Inv 32 (KK_s1_Neg s1_Neg) :=
  meets_flat (by kernel_rfl) (by
    intro ds; unfold KK_s1_Neg; split
    · rename_i an ad
      unfold s1_Neg
      exact .inr ⟨[.agg #[.int .i64 an, .int .i64 ad]], _, rfl, fun _ => rfl, fun w hI => (R.rneg_any an ad w)⟩
    · exact .inl (fun _ => rfl))
def s1_Floor (an : Int) (ad : Int) (k : Int → Int → Option DV) : Option DV :=
  k ((Q.floor (an, ad)).1) ((Q.floor (an, ad)).2)
noncomputable def KK_s1_Floor (f0 : Int → Int → (Int → Int → Option DV) → Option DV) (ds : List DV) (k : DV → Option DV) : Option DV :=
  match ds with
  | [.val (.agg ⟨[.int .i64 a0_0, .int .i64 a0_1]⟩)] => f0 a0_0 a0_1 (fun r0_0 r0_1 => k (.val (.agg ⟨[.int .i64 r0_0, .int .i64 r0_1]⟩)))
  | _ => none
theorem m_s1_Floor : Meets Tryz.prog Inv 34 (KK_s1_Floor s1_Floor) :=
  meets_flat (by kernel_rfl) (by
    intro ds; unfold KK_s1_Floor; split
    · rename_i an ad
      unfold s1_Floor
      exact .inr ⟨[.agg #[.int .i64 an, .int .i64 ad]], _, rfl, fun _ => rfl, fun w hI => (R.rfloor_any an ad w)⟩
    · exact .inl (fun _ => rfl))
def s1_Min (an : Int) (ad : Int) (bn : Int) (bd : Int) (k : Int → Int → Option DV) : Option DV :=
  k ((Q.min (an, ad) (bn, bd)).1) ((Q.min (an, ad) (bn, bd)).2)
noncomputable def KK_s1_Min (f0 : Int → Int → Int → Int → (Int → Int → Option DV) → Option DV) (ds : List DV) (k : DV → Option DV) : Option DV :=
  match ds with
  | [.val (.agg ⟨[.int .i64 a0_0, .int .i64 a0_1]⟩), .val (.agg ⟨[.int .i64 a1_0, .int .i64 a1_1]⟩)] => f0 a0_0 a0_1 a1_0 a1_1 (fun r0_0 r0_1 => k (.val (.agg ⟨[.int .i64 r0_0, .int .i64 r0_1]⟩)))
  | _ => none
theorem m_s1_Min : Meets Tryz.prog Inv 42 (KK_s1_Min s1_Min) :=
  meets_flat (by kernel_rfl) (by
    intro ds; unfold KK_s1_Min; split
    · rename_i an ad bn bd
      unfold s1_Min
      exact .inr ⟨[.agg #[.int .i64 an, .int .i64 ad], .agg #[.int .i64 bn, .int .i64 bd]], _, rfl, fun _ => rfl, fun w hI => (R.rmin_any an ad bn bd w)⟩
    · exact .inl (fun _ => rfl))
def s1_Max (an : Int) (ad : Int) (bn : Int) (bd : Int) (k : Int → Int → Option DV) : Option DV :=
  k ((Q.max (an, ad) (bn, bd)).1) ((Q.max (an, ad) (bn, bd)).2)
noncomputable def KK_s1_Max (f0 : Int → Int → Int → Int → (Int → Int → Option DV) → Option DV) (ds : List DV) (k : DV → Option DV) : Option DV :=
  match ds with
  | [.val (.agg ⟨[.int .i64 a0_0, .int .i64 a0_1]⟩), .val (.agg ⟨[.int .i64 a1_0, .int .i64 a1_1]⟩)] => f0 a0_0 a0_1 a1_0 a1_1 (fun r0_0 r0_1 => k (.val (.agg ⟨[.int .i64 r0_0, .int .i64 r0_1]⟩)))
  | _ => none
theorem m_s1_Max : Meets Tryz.prog Inv 43 (KK_s1_Max s1_Max) :=
  meets_flat (by kernel_rfl) (by
    intro ds; unfold KK_s1_Max; split
    · rename_i an ad bn bd
      unfold s1_Max
      exact .inr ⟨[.agg #[.int .i64 an, .int .i64 ad], .agg #[.int .i64 bn, .int .i64 bd]], _, rfl, fun _ => rfl, fun w hI => (R.rmax_any an ad bn bd w)⟩
    · exact .inl (fun _ => rfl))
def s1_Round (an : Int) (ad : Int) (k : Int → Int → Option DV) : Option DV :=
  k ((Q.round (an, ad)).1) ((Q.round (an, ad)).2)
noncomputable def KK_s1_Round (f0 : Int → Int → (Int → Int → Option DV) → Option DV) (ds : List DV) (k : DV → Option DV) : Option DV :=
  match ds with
  | [.val (.agg ⟨[.int .i64 a0_0, .int .i64 a0_1]⟩)] => f0 a0_0 a0_1 (fun r0_0 r0_1 => k (.val (.agg ⟨[.int .i64 r0_0, .int .i64 r0_1]⟩)))
  | _ => none
theorem m_s1_Round : Meets Tryz.prog Inv 35 (KK_s1_Round s1_Round) :=
  meets_flat (by kernel_rfl) (by
    intro ds; unfold KK_s1_Round; split
    · rename_i an ad
      unfold s1_Round
      exact .inr ⟨[.agg #[.int .i64 an, .int .i64 ad]], _, rfl, fun _ => rfl, fun w hI => (R.rround_any an ad w)⟩
    · exact .inl (fun _ => rfl))
def s1_Clean (an : Int) (ad : Int) (k : Int → Int → Option DV) : Option DV :=
  k ((Q.clean (an, ad)).1) ((Q.clean (an, ad)).2)
noncomputable def KK_s1_Clean (f0 : Int → Int → (Int → Int → Option DV) → Option DV) (ds : List DV) (k : DV → Option DV) : Option DV :=
  match ds with
  | [.val (.agg ⟨[.int .i64 a0_0, .int .i64 a0_1]⟩)] => f0 a0_0 a0_1 (fun r0_0 r0_1 => k (.val (.agg ⟨[.int .i64 r0_0, .int .i64 r0_1]⟩)))
  | _ => none
theorem m_s1_Clean : Meets Tryz.prog Inv 6 (KK_s1_Clean s1_Clean) :=
  meets_flat (by kernel_rfl) (by
    intro ds; unfold KK_s1_Clean; split
    · rename_i an ad
      unfold s1_Clean
      exact .inr ⟨[.agg #[.int .i64 an, .int .i64 ad]], _, rfl, fun _ => rfl, fun w hI => (R.rclean_any an ad w)⟩
    · exact .inl (fun _ => rfl))
def s1_Abs (an : Int) (ad : Int) (k : Int → Int → Option DV) : Option DV :=
  k ((Q.abs (an, ad)).1) ((Q.abs (an, ad)).2)
noncomputable def KK_s1_Abs (f0 : Int → Int → (Int → Int → Option DV) → Option DV) (ds : List DV) (k : DV → Option DV) : Option DV :=
  match ds with
  | [.val (.agg ⟨[.int .i64 a0_0, .int .i64 a0_1]⟩)] => f0 a0_0 a0_1 (fun r0_0 r0_1 => k (.val (.agg ⟨[.int .i64 r0_0, .int .i64 r0_1]⟩)))
  | _ => none
theorem m_s1_Abs : Meets Tryz.prog Inv 33 (KK_s1_Abs s1_Abs) :=
  meets_flat (by kernel_rfl) (by
    intro ds; unfold KK_s1_Abs; split
    · rename_i an ad
      unfold s1_Abs
      exact .inr ⟨[.agg #[.int .i64 an, .int .i64 ad]], _, rfl, fun _ => rfl, fun w hI => (R.rabs_any an ad w)⟩
    · exact .inl (fun _ => rfl))
def s1_Sub (an : Int) (ad : Int) (bn : Int) (bd : Int) (k : Int → Int → Option DV) : Option DV :=
  k ((Q.sub (an, ad) (bn, bd)).1) ((Q.sub (an, ad) (bn, bd)).2)
noncomputable def KK_s1_Sub (f0 : Int → Int → Int → Int → (Int → Int → Option DV) → Option DV) (ds : List DV) (k : DV → Option DV) : Option DV :=
  match ds with
  | [.val (.agg ⟨[.int .i64 a0_0, .int .i64 a0_1]⟩), .val (.agg ⟨[.int .i64 a1_0, .int .i64 a1_1]⟩)] => f0 a0_0 a0_1 a1_0 a1_1 (fun r0_0 r0_1 => k (.val (.agg ⟨[.int .i64 r0_0, .int .i64 r0_1]⟩)))
  | _ => none
theorem m_s1_Sub : Meets Tryz.prog Inv 38 (KK_s1_Sub s1_Sub) :=
  meets_flat (by kernel_rfl) (by
    intro ds; unfold KK_s1_Sub; split
    · rename_i an ad bn bd
      unfold s1_Sub
      exact .inr ⟨[.agg #[.int .i64 an, .int .i64 ad], .agg #[.int .i64 bn, .int .i64 bd]], _, rfl, fun _ => rfl, fun w hI => (R.rsub_any an ad bn bd w)⟩
    · exact .inl (fun _ => rfl))
def s1_Frac (an : Int) (ad : Int) (k : Int → Int → Option DV) : Option DV :=
  k ((Q.frac (an, ad)).1) ((Q.frac (an, ad)).2)
noncomputable def KK_s1_Frac (f0 : Int → Int → (Int → Int → Option DV) → Option DV) (ds : List DV) (k : DV → Option DV) : Option DV :=
  match ds with
  | [.val (.agg ⟨[.int .i64 a0_0, .int .i64 a0_1]⟩)] => f0 a0_0 a0_1 (fun r0_0 r0_1 => k (.val (.agg ⟨[.int .i64 r0_0, .int .i64 r0_1]⟩)))
  | _ => none
theorem m_s1_Frac : Meets Tryz.prog Inv 36 (KK_s1_Frac s1_Frac) :=
  meets_flat (by kernel_rfl) (by
    intro ds; unfold KK_s1_Frac; split
    · rename_i an ad
      unfold s1_Frac
      exact .inr ⟨[.agg #[.int .i64 an, .int .i64 ad]], _, rfl, fun _ => rfl, fun w hI => (R.rfrac_any an ad w)⟩
    · exact .inl (fun _ => rfl))
def s1_Mod (an : Int) (ad : Int) (bn : Int) (bd : Int) (k : Int → Int → Option DV) : Option DV :=
  k ((Q.mod (an, ad) (bn, bd)).1) ((Q.mod (an, ad) (bn, bd)).2)
noncomputable def KK_s1_Mod (f0 : Int → Int → Int → Int → (Int → Int → Option DV) → Option DV) (ds : List DV) (k : DV → Option DV) : Option DV :=
  match ds with
  | [.val (.agg ⟨[.int .i64 a0_0, .int .i64 a0_1]⟩), .val (.agg ⟨[.int .i64 a1_0, .int .i64 a1_1]⟩)] => f0 a0_0 a0_1 a1_0 a1_1 (fun r0_0 r0_1 => k (.val (.agg ⟨[.int .i64 r0_0, .int .i64 r0_1]⟩)))
  | _ => none
theorem m_s1_Mod : Meets Tryz.prog Inv 41 (KK_s1_Mod s1_Mod) :=
  meets_flat (by kernel_rfl) (by
    intro ds; unfold KK_s1_Mod; split
    · rename_i an ad bn bd
      unfold s1_Mod
      exact .inr ⟨[.agg #[.int .i64 an, .int .i64 ad], .agg #[.int .i64 bn, .int .i64 bd]], _, rfl, fun _ => rfl, fun w hI => (R.rmod_any an ad bn bd w)⟩
    · exact .inl (fun _ => rfl))
def s1_Valid (an : Int) (ad : Int) (k : Bool → Option DV) : Option DV :=
  k ((Q.valid (an, ad)))
noncomputable def KK_s1_Valid (f0 : Int → Int → (Bool → Option DV) → Option DV) (ds : List DV) (k : DV → Option DV) : Option DV :=
  match ds with
  | [.val (.agg ⟨[.int .i64 a0_0, .int .i64 a0_1]⟩)] => f0 a0_0 a0_1 (fun r0_0 => k (.val (.bool r0_0)))
  | _ => none
theorem m_s1_Valid : Meets Tryz.prog Inv 86 (KK_s1_Valid s1_Valid) :=
  meets_flat (by kernel_rfl) (by
    intro ds; unfold KK_s1_Valid; split
    · rename_i an ad
      unfold s1_Valid
      exact .inr ⟨[.agg #[.int .i64 an, .int .i64 ad]], _, rfl, fun _ => rfl, fun w hI => (R.rvalid_any an ad w)⟩
    · exact .inl (fun _ => rfl))
def s1_Test (s : ByteArray) (an : Int) (ad : Int) (bn : Int) (bd : Int) (k : Int → Int → Option DV) : Option DV :=
  k ((Q.tst s.toList (an, ad) (bn, bd)).1) ((Q.tst s.toList (an, ad) (bn, bd)).2)
noncomputable def KK_s1_Test (f0 : ByteArray → Int → Int → Int → Int → (Int → Int → Option DV) → Option DV) (ds : List DV) (k : DV → Option DV) : Option DV :=
  match ds with
  | [.val (.string a0), .val (.agg ⟨[.int .i64 a1_0, .int .i64 a1_1]⟩), .val (.agg ⟨[.int .i64 a2_0, .int .i64 a2_1]⟩)] => f0 a0 a1_0 a1_1 a2_0 a2_1 (fun r0_0 r0_1 => k (.val (.agg ⟨[.int .i64 r0_0, .int .i64 r0_1]⟩)))
  | _ => none
theorem m_s1_Test : Meets Tryz.prog Inv 44 (KK_s1_Test s1_Test) :=
  meets_flat (by kernel_rfl) (by
    intro ds; unfold KK_s1_Test; split
    · rename_i s an ad bn bd
      unfold s1_Test
      exact .inr ⟨[.string s, .agg #[.int .i64 an, .int .i64 ad], .agg #[.int .i64 bn, .int .i64 bd]], _, rfl, fun _ => rfl, fun w hI => (R.rtest_any s an ad bn bd w)⟩
    · exact .inl (fun _ => rfl))
def s1_FloorDiv (p : Int) (d : Int) (k : Int → Option DV) : Option DV :=
  bif decide ((-4611686018427387904 ≤ p ∧ p ≤ 4611686018427387904) ∧ (1 ≤ d ∧ d ≤ 4611686018427387904)) then k ((p / d)) else none
noncomputable def KK_s1_FloorDiv (f0 : Int → Int → (Int → Option DV) → Option DV) (ds : List DV) (k : DV → Option DV) : Option DV :=
  match ds with
  | [.val (.int .i64 a0), .val (.int .i64 a1)] => f0 a0 a1 (fun r0_0 => k (.val (.int .i64 r0_0)))
  | _ => none
theorem m_s1_FloorDiv : Meets Tryz.prog Inv 76 (KK_s1_FloorDiv s1_FloorDiv) :=
  meets_flat (by kernel_rfl) (by
    intro ds; unfold KK_s1_FloorDiv; split
    · rename_i p d
      unfold s1_FloorDiv
      by_cases hp : (-4611686018427387904 ≤ p ∧ p ≤ 4611686018427387904) ∧ (1 ≤ d ∧ d ≤ 4611686018427387904)
      · simp only [decide_eq_true hp, cond_true]
        exact .inr ⟨[.int .i64 p, .int .i64 d], _, rfl, fun _ => rfl, fun w hI => (R.floordiv_any p d (hp.1) (hp.2) w).mono fun e w' ⟨he, hw⟩ => ⟨he, hw ▸ Below.refl _ _⟩⟩
      · left; intro _; simp only [decide_eq_false hp, cond_false]
    · exact .inl (fun _ => rfl))
def cmp_Compare_int64 (x : Int) (y : Int) (k : Int → Option DV) : Option DV :=
  k ((Q.cmpi x y))
noncomputable def KK_cmp_Compare_int64 (f0 : Int → Int → (Int → Option DV) → Option DV) (ds : List DV) (k : DV → Option DV) : Option DV :=
  match ds with
  | [.val (.int .i64 a0), .val (.int .i64 a1)] => f0 a0 a1 (fun r0_0 => k (.val (.int .i64 r0_0)))
  | _ => none
theorem m_cmp_Compare_int64 : Meets Tryz.prog Inv 94 (KK_cmp_Compare_int64 cmp_Compare_int64) :=
  meets_flat (by kernel_rfl) (by
    intro ds; unfold KK_cmp_Compare_int64; split
    · rename_i x y
      unfold cmp_Compare_int64
      exact .inr ⟨[.int .i64 x, .int .i64 y], _, rfl, fun _ => rfl, fun w hI => (R.compare_int64 x y w).mono fun e w' ⟨he, hw⟩ => ⟨he, hw ▸ Below.refl _ _⟩⟩
    · exact .inl (fun _ => rfl))
def strconv_FormatInt (n m : Int) (k : ByteArray → Option DV) : Option DV :=
  bif decide (m = 10 ∧ -9223372036854775808 ≤ n ∧ n ≤ 9223372036854775807) then k ⟨(Lib.itoa n).toArray⟩ else none
noncomputable def KK_strconv_FormatInt (f0 : Int → Int → (ByteArray → Option DV) → Option DV) (ds : List DV) (k : DV → Option DV) : Option DV :=
  match ds with
  | [.val (.int .i64 a0), .val (.int .i64 a1)] => f0 a0 a1 (fun r0_0 => k (.val (.string r0_0)))
  | _ => none
theorem m_strconv_FormatInt : Meets Tryz.prog Inv 54 (KK_strconv_FormatInt strconv_FormatInt) :=
  meets_flat (by kernel_rfl) (by
    intro ds; unfold KK_strconv_FormatInt; split
    · rename_i n m
      unfold strconv_FormatInt
      by_cases hp : m = 10 ∧ -9223372036854775808 ≤ n ∧ n ≤ 9223372036854775807
      · simp only [decide_eq_true hp, cond_true]
        obtain ⟨rfl, h1, h2⟩ := hp
        exact .inr ⟨[.int .i64 n, .int .i64 10], _, rfl, fun _ => rfl, fun w hI => fmt_any n h1 h2 w hI⟩
      · left; intro _; simp only [decide_eq_false hp, cond_false]
    · exact .inl (fun _ => rfl))
end Go.Proofs.YtiiddikiaafanaaGreatDoor
