import Derived.Test.YtnidbhfpkjggmaaGreatDoorPa
import Derived.Test.YtnidbhfpkjggmaaGreatDoorWh
set_option linter.all false
/-
  Formats, as they were walked, read as plain functions.
-/
namespace Go.Proofs.YtnidbhfpkjggmaaGreatDoor
open Go.Pv Go.RowKit
def quant_Valid (k0 : ByteArray) (I : Int) (F : Int) (r : ByteArray) (o : ByteArray) (k : Bool → Option DV) : Option DV :=
  bif decide ((-9223372036854775808 ≤ I ∧ I ≤ 9223372036854775807) ∧ (-9223372036854775808 ≤ F ∧ F ≤ 9223372036854775807)) then k ((Z.vld k0 r o I F)) else none
noncomputable def KK_quant_Valid (f0 : ByteArray → Int → Int → ByteArray → ByteArray → (Bool → Option DV) → Option DV) (ds : List DV) (k : DV → Option DV) : Option DV :=
  match ds with
  | [.val (.agg ⟨[.string a0_0, .int .i64 a0_1, .int .i64 a0_2, .string a0_3, .string a0_4]⟩)] => f0 a0_0 a0_1 a0_2 a0_3 a0_4 (fun r0_0 => k (.val (.bool r0_0)))
  | _ => none
theorem m_quant_Valid : Meets Tryz.prog Inv 71 (KK_quant_Valid quant_Valid) :=
  meets_flat (by kernel_rfl) (by
    intro ds; unfold KK_quant_Valid; split
    · rename_i k0 I F r o
      unfold quant_Valid
      by_cases hp : (-9223372036854775808 ≤ I ∧ I ≤ 9223372036854775807) ∧ (-9223372036854775808 ≤ F ∧ F ≤ 9223372036854775807)
      · simp only [decide_eq_true hp, cond_true]
        exact .inr ⟨[.agg #[.string k0, .int .i64 I, .int .i64 F, .string r, .string o]], _, rfl, fun _ => rfl, fun w hI => (valid_any k0 r o I F (hp.1) (hp.2) w)⟩
      · left; intro _; simp only [decide_eq_false hp, cond_false]
    · exact .inl (fun _ => rfl))
def quant_Fit (k0 : ByteArray) (I : Int) (F : Int) (r : ByteArray) (o : ByteArray) (n : Int) (d : Int) (k : Int → Int → Option DV) : Option DV :=
  bif decide ((-9223372036854775808 ≤ I ∧ I ≤ 9223372036854775807) ∧ (-9223372036854775808 ≤ F ∧ F ≤ 9223372036854775807)) then k ((Z.fitQ k0 r o I F n d).1) ((Z.fitQ k0 r o I F n d).2) else none
noncomputable def KK_quant_Fit (f0 : ByteArray → Int → Int → ByteArray → ByteArray → Int → Int → (Int → Int → Option DV) → Option DV) (ds : List DV) (k : DV → Option DV) : Option DV :=
  match ds with
  | [.val (.agg ⟨[.string a0_0, .int .i64 a0_1, .int .i64 a0_2, .string a0_3, .string a0_4]⟩), .val (.agg ⟨[.int .i64 a1_0, .int .i64 a1_1]⟩)] => f0 a0_0 a0_1 a0_2 a0_3 a0_4 a1_0 a1_1 (fun r0_0 r0_1 => k (.val (.agg ⟨[.int .i64 r0_0, .int .i64 r0_1]⟩)))
  | _ => none
theorem m_quant_Fit : Meets Tryz.prog Inv 72 (KK_quant_Fit quant_Fit) :=
  meets_flat (by kernel_rfl) (by
    intro ds; unfold KK_quant_Fit; split
    · rename_i k0 I F r o n d
      unfold quant_Fit
      by_cases hp : (-9223372036854775808 ≤ I ∧ I ≤ 9223372036854775807) ∧ (-9223372036854775808 ≤ F ∧ F ≤ 9223372036854775807)
      · simp only [decide_eq_true hp, cond_true]
        exact .inr ⟨[.agg #[.string k0, .int .i64 I, .int .i64 F, .string r, .string o], .agg #[.int .i64 n, .int .i64 d]], _, rfl, fun _ => rfl, fun w hI => (Fit_any k0 r o I F n d (hp.1) (hp.2) w)⟩
      · left; intro _; simp only [decide_eq_false hp, cond_false]
    · exact .inl (fun _ => rfl))
def quant_Least (k0 : ByteArray) (I : Int) (F : Int) (r : ByteArray) (o : ByteArray) (k : Int → Int → Option DV) : Option DV :=
  bif decide ((-9223372036854775808 ≤ I ∧ I ≤ 9223372036854775807) ∧ (-9223372036854775808 ≤ F ∧ F ≤ 9223372036854775807)) then k ((Z.lstQ k0 r o I F).1) ((Z.lstQ k0 r o I F).2) else none
noncomputable def KK_quant_Least (f0 : ByteArray → Int → Int → ByteArray → ByteArray → (Int → Int → Option DV) → Option DV) (ds : List DV) (k : DV → Option DV) : Option DV :=
  match ds with
  | [.val (.agg ⟨[.string a0_0, .int .i64 a0_1, .int .i64 a0_2, .string a0_3, .string a0_4]⟩)] => f0 a0_0 a0_1 a0_2 a0_3 a0_4 (fun r0_0 r0_1 => k (.val (.agg ⟨[.int .i64 r0_0, .int .i64 r0_1]⟩)))
  | _ => none
theorem m_quant_Least : Meets Tryz.prog Inv 73 (KK_quant_Least quant_Least) :=
  meets_flat (by kernel_rfl) (by
    intro ds; unfold KK_quant_Least; split
    · rename_i k0 I F r o
      unfold quant_Least
      by_cases hp : (-9223372036854775808 ≤ I ∧ I ≤ 9223372036854775807) ∧ (-9223372036854775808 ≤ F ∧ F ≤ 9223372036854775807)
      · simp only [decide_eq_true hp, cond_true]
        exact .inr ⟨[.agg #[.string k0, .int .i64 I, .int .i64 F, .string r, .string o]], _, rfl, fun _ => rfl, fun w hI => (Least_any k0 r o I F (hp.1) (hp.2) w)⟩
      · left; intro _; simp only [decide_eq_false hp, cond_false]
    · exact .inl (fun _ => rfl))
def quant_Greatest (k0 : ByteArray) (I : Int) (F : Int) (r : ByteArray) (o : ByteArray) (k : Int → Int → Option DV) : Option DV :=
  bif decide ((-9223372036854775808 ≤ I ∧ I ≤ 9223372036854775807) ∧ (-9223372036854775808 ≤ F ∧ F ≤ 9223372036854775807)) then k ((Z.grtQ k0 r o I F).1) ((Z.grtQ k0 r o I F).2) else none
noncomputable def KK_quant_Greatest (f0 : ByteArray → Int → Int → ByteArray → ByteArray → (Int → Int → Option DV) → Option DV) (ds : List DV) (k : DV → Option DV) : Option DV :=
  match ds with
  | [.val (.agg ⟨[.string a0_0, .int .i64 a0_1, .int .i64 a0_2, .string a0_3, .string a0_4]⟩)] => f0 a0_0 a0_1 a0_2 a0_3 a0_4 (fun r0_0 r0_1 => k (.val (.agg ⟨[.int .i64 r0_0, .int .i64 r0_1]⟩)))
  | _ => none
theorem m_quant_Greatest : Meets Tryz.prog Inv 74 (KK_quant_Greatest quant_Greatest) :=
  meets_flat (by kernel_rfl) (by
    intro ds; unfold KK_quant_Greatest; split
    · rename_i k0 I F r o
      unfold quant_Greatest
      by_cases hp : (-9223372036854775808 ≤ I ∧ I ≤ 9223372036854775807) ∧ (-9223372036854775808 ≤ F ∧ F ≤ 9223372036854775807)
      · simp only [decide_eq_true hp, cond_true]
        exact .inr ⟨[.agg #[.string k0, .int .i64 I, .int .i64 F, .string r, .string o]], _, rfl, fun _ => rfl, fun w hI => (Greatest_any k0 r o I F (hp.1) (hp.2) w)⟩
      · left; intro _; simp only [decide_eq_false hp, cond_false]
    · exact .inl (fun _ => rfl))
def quant_Step (k0 : ByteArray) (I : Int) (F : Int) (r : ByteArray) (o : ByteArray) (k : Int → Int → Option DV) : Option DV :=
  bif decide ((-9223372036854775808 ≤ I ∧ I ≤ 9223372036854775807) ∧ (-9223372036854775808 ≤ F ∧ F ≤ 9223372036854775807)) then k ((Z.stpQ k0 r o I F).1) ((Z.stpQ k0 r o I F).2) else none
noncomputable def KK_quant_Step (f0 : ByteArray → Int → Int → ByteArray → ByteArray → (Int → Int → Option DV) → Option DV) (ds : List DV) (k : DV → Option DV) : Option DV :=
  match ds with
  | [.val (.agg ⟨[.string a0_0, .int .i64 a0_1, .int .i64 a0_2, .string a0_3, .string a0_4]⟩)] => f0 a0_0 a0_1 a0_2 a0_3 a0_4 (fun r0_0 r0_1 => k (.val (.agg ⟨[.int .i64 r0_0, .int .i64 r0_1]⟩)))
  | _ => none
theorem m_quant_Step : Meets Tryz.prog Inv 75 (KK_quant_Step quant_Step) :=
  meets_flat (by kernel_rfl) (by
    intro ds; unfold KK_quant_Step; split
    · rename_i k0 I F r o
      unfold quant_Step
      by_cases hp : (-9223372036854775808 ≤ I ∧ I ≤ 9223372036854775807) ∧ (-9223372036854775808 ≤ F ∧ F ≤ 9223372036854775807)
      · simp only [decide_eq_true hp, cond_true]
        exact .inr ⟨[.agg #[.string k0, .int .i64 I, .int .i64 F, .string r, .string o]], _, rfl, fun _ => rfl, fun w hI => (Step_any k0 r o I F (hp.1) (hp.2) w)⟩
      · left; intro _; simp only [decide_eq_false hp, cond_false]
    · exact .inl (fun _ => rfl))
def serinetteref02_Valid (k0 : ByteArray) (I : Int) (F : Int) (r : ByteArray) (o : ByteArray) (k : Bool → Option DV) : Option DV :=
  bif decide ((-9223372036854775808 ≤ I ∧ I ≤ 9223372036854775807) ∧ (-9223372036854775808 ≤ F ∧ F ≤ 9223372036854775807)) then k ((Z.vld k0 r o I F)) else none
noncomputable def KK_serinetteref02_Valid (f0 : ByteArray → Int → Int → ByteArray → ByteArray → (Bool → Option DV) → Option DV) (ds : List DV) (k : DV → Option DV) : Option DV :=
  match ds with
  | [.val (.agg ⟨[.string a0_0, .int .i64 a0_1, .int .i64 a0_2, .string a0_3, .string a0_4]⟩)] => f0 a0_0 a0_1 a0_2 a0_3 a0_4 (fun r0_0 => k (.val (.bool r0_0)))
  | _ => none
theorem m_serinetteref02_Valid : Meets Tryz.prog Inv 77 (KK_serinetteref02_Valid serinetteref02_Valid) :=
  meets_flat (by kernel_rfl) (by
    intro ds; unfold KK_serinetteref02_Valid; split
    · rename_i k0 I F r o
      unfold serinetteref02_Valid
      by_cases hp : (-9223372036854775808 ≤ I ∧ I ≤ 9223372036854775807) ∧ (-9223372036854775808 ≤ F ∧ F ≤ 9223372036854775807)
      · simp only [decide_eq_true hp, cond_true]
        exact .inr ⟨[.agg #[.string k0, .int .i64 I, .int .i64 F, .string r, .string o]], _, rfl, fun _ => rfl, fun w hI => (rvalid_any k0 r o I F (hp.1) (hp.2) w)⟩
      · left; intro _; simp only [decide_eq_false hp, cond_false]
    · exact .inl (fun _ => rfl))
def serinetteref02_Fit (k0 : ByteArray) (I : Int) (F : Int) (r : ByteArray) (o : ByteArray) (n : Int) (d : Int) (k : Int → Int → Option DV) : Option DV :=
  bif decide ((-9223372036854775808 ≤ I ∧ I ≤ 9223372036854775807) ∧ (-9223372036854775808 ≤ F ∧ F ≤ 9223372036854775807)) then k ((Z.fitQ k0 r o I F n d).1) ((Z.fitQ k0 r o I F n d).2) else none
noncomputable def KK_serinetteref02_Fit (f0 : ByteArray → Int → Int → ByteArray → ByteArray → Int → Int → (Int → Int → Option DV) → Option DV) (ds : List DV) (k : DV → Option DV) : Option DV :=
  match ds with
  | [.val (.agg ⟨[.string a0_0, .int .i64 a0_1, .int .i64 a0_2, .string a0_3, .string a0_4]⟩), .val (.agg ⟨[.int .i64 a1_0, .int .i64 a1_1]⟩)] => f0 a0_0 a0_1 a0_2 a0_3 a0_4 a1_0 a1_1 (fun r0_0 r0_1 => k (.val (.agg ⟨[.int .i64 r0_0, .int .i64 r0_1]⟩)))
  | _ => none
theorem m_serinetteref02_Fit : Meets Tryz.prog Inv 80 (KK_serinetteref02_Fit serinetteref02_Fit) :=
  meets_flat (by kernel_rfl) (by
    intro ds; unfold KK_serinetteref02_Fit; split
    · rename_i k0 I F r o n d
      unfold serinetteref02_Fit
      by_cases hp : (-9223372036854775808 ≤ I ∧ I ≤ 9223372036854775807) ∧ (-9223372036854775808 ≤ F ∧ F ≤ 9223372036854775807)
      · simp only [decide_eq_true hp, cond_true]
        exact .inr ⟨[.agg #[.string k0, .int .i64 I, .int .i64 F, .string r, .string o], .agg #[.int .i64 n, .int .i64 d]], _, rfl, fun _ => rfl, fun w hI => (rFit_any k0 r o I F n d (hp.1) (hp.2) w)⟩
      · left; intro _; simp only [decide_eq_false hp, cond_false]
    · exact .inl (fun _ => rfl))
def serinetteref02_Least (k0 : ByteArray) (I : Int) (F : Int) (r : ByteArray) (o : ByteArray) (k : Int → Int → Option DV) : Option DV :=
  bif decide ((-9223372036854775808 ≤ I ∧ I ≤ 9223372036854775807) ∧ (-9223372036854775808 ≤ F ∧ F ≤ 9223372036854775807)) then k ((Z.lstQ k0 r o I F).1) ((Z.lstQ k0 r o I F).2) else none
noncomputable def KK_serinetteref02_Least (f0 : ByteArray → Int → Int → ByteArray → ByteArray → (Int → Int → Option DV) → Option DV) (ds : List DV) (k : DV → Option DV) : Option DV :=
  match ds with
  | [.val (.agg ⟨[.string a0_0, .int .i64 a0_1, .int .i64 a0_2, .string a0_3, .string a0_4]⟩)] => f0 a0_0 a0_1 a0_2 a0_3 a0_4 (fun r0_0 r0_1 => k (.val (.agg ⟨[.int .i64 r0_0, .int .i64 r0_1]⟩)))
  | _ => none
theorem m_serinetteref02_Least : Meets Tryz.prog Inv 78 (KK_serinetteref02_Least serinetteref02_Least) :=
  meets_flat (by kernel_rfl) (by
    intro ds; unfold KK_serinetteref02_Least; split
    · rename_i k0 I F r o
      unfold serinetteref02_Least
      by_cases hp : (-9223372036854775808 ≤ I ∧ I ≤ 9223372036854775807) ∧ (-9223372036854775808 ≤ F ∧ F ≤ 9223372036854775807)
      · simp only [decide_eq_true hp, cond_true]
        exact .inr ⟨[.agg #[.string k0, .int .i64 I, .int .i64 F, .string r, .string o]], _, rfl, fun _ => rfl, fun w hI => (rLeast_any k0 r o I F (hp.1) (hp.2) w)⟩
      · left; intro _; simp only [decide_eq_false hp, cond_false]
    · exact .inl (fun _ => rfl))
def serinetteref02_Greatest (k0 : ByteArray) (I : Int) (F : Int) (r : ByteArray) (o : ByteArray) (k : Int → Int → Option DV) : Option DV :=
  bif decide ((-9223372036854775808 ≤ I ∧ I ≤ 9223372036854775807) ∧ (-9223372036854775808 ≤ F ∧ F ≤ 9223372036854775807)) then k ((Z.grtQ k0 r o I F).1) ((Z.grtQ k0 r o I F).2) else none
noncomputable def KK_serinetteref02_Greatest (f0 : ByteArray → Int → Int → ByteArray → ByteArray → (Int → Int → Option DV) → Option DV) (ds : List DV) (k : DV → Option DV) : Option DV :=
  match ds with
  | [.val (.agg ⟨[.string a0_0, .int .i64 a0_1, .int .i64 a0_2, .string a0_3, .string a0_4]⟩)] => f0 a0_0 a0_1 a0_2 a0_3 a0_4 (fun r0_0 r0_1 => k (.val (.agg ⟨[.int .i64 r0_0, .int .i64 r0_1]⟩)))
  | _ => none
theorem m_serinetteref02_Greatest : Meets Tryz.prog Inv 79 (KK_serinetteref02_Greatest serinetteref02_Greatest) :=
  meets_flat (by kernel_rfl) (by
    intro ds; unfold KK_serinetteref02_Greatest; split
    · rename_i k0 I F r o
      unfold serinetteref02_Greatest
      by_cases hp : (-9223372036854775808 ≤ I ∧ I ≤ 9223372036854775807) ∧ (-9223372036854775808 ≤ F ∧ F ≤ 9223372036854775807)
      · simp only [decide_eq_true hp, cond_true]
        exact .inr ⟨[.agg #[.string k0, .int .i64 I, .int .i64 F, .string r, .string o]], _, rfl, fun _ => rfl, fun w hI => (rGreatest_any k0 r o I F (hp.1) (hp.2) w)⟩
      · left; intro _; simp only [decide_eq_false hp, cond_false]
    · exact .inl (fun _ => rfl))
end Go.Proofs.YtnidbhfpkjggmaaGreatDoor
