/-
  FormatParses, read as plain functions.
-/
import Derived.Test.YtpdklolfkigefaaDoorPg
set_option linter.all false
namespace Go.Proofs.YtpdklolfkigefaaDoor
open Go.Pv Go.RowKit
def ld_s (e : List DV) (o : Nat) (k : ByteArray → Option DV) : Option DV :=
  bif isS (nth e o) then (k (asS (nth e o))) else none
noncomputable def B_quant_Parse (f0 : ByteArray → Int → Int → ByteArray → ByteArray → KT → Option DV) (f1 : ByteArray → Int → Int → ByteArray → ByteArray → KB → Option DV) (f2 : ByteArray → KI → KI → Option DV) (f3 : ByteArray → ByteArray → Int → (List (List DV) → Option DV) → Option DV) (f4 : ByteArray → ByteArray → KT → Option DV) (f5 : ByteArray → ByteArray → (ByteArray → ByteArray → Bool → Option DV) → Option DV) (a0 : ByteArray) (k : ByteArray → Int → Int → ByteArray → ByteArray → Int → Option DV) : Option DV :=
  f5 a0 (⟨#[40]⟩) (fun r1 r2 r3 => f4 r2 (⟨#[41]⟩) (fun r4 => f3 r4 (⟨#[44]⟩) 5 (fun r5 => bif ((List.length r5 : Nat) : Int) != 4 then (k (⟨#[]⟩) 0 0 (⟨#[]⟩) (⟨#[]⟩) 3) else (optE (r5[Int.toNat 0]?) (fun e6 => ld_s e6 0 (fun v7 => f2 v7 (fun r8 => optE (r5[Int.toNat 1]?) (fun e9 => ld_s e9 0 (fun v10 => f2 v10 (fun r11 => optE (r5[Int.toNat 2]?) (fun e12 => ld_s e12 0 (fun v13 => optE (r5[Int.toNat 3]?) (fun e14 => ld_s e14 0 (fun v15 => f1 r1 r8 r11 v13 v15 (fun r16 => bif !(!r16) then (f0 r1 r8 r11 v13 v15 (fun r17 => bif !(ByteArray.toList r17 == ByteArray.toList a0) then (k (⟨#[]⟩) 0 0 (⟨#[]⟩) (⟨#[]⟩) 3) else (k r1 r8 r11 v13 v15 0))) else (k (⟨#[]⟩) 0 0 (⟨#[]⟩) (⟨#[]⟩) 3))))))) (fun r18 => k (⟨#[]⟩) 0 0 (⟨#[]⟩) (⟨#[]⟩) 3)))) (fun r19 => optE (r5[Int.toNat 1]?) (fun e20 => ld_s e20 0 (fun v21 => f2 v21 (fun r22 => k (⟨#[]⟩) 0 0 (⟨#[]⟩) (⟨#[]⟩) 3) (fun r23 => k (⟨#[]⟩) 0 0 (⟨#[]⟩) (⟨#[]⟩) 3))))))))))
noncomputable def quant_Parse (a0 : ByteArray) (k : ByteArray → Int → Int → ByteArray → ByteArray → Int → Option DV) : Option DV := B_quant_Parse quant_Text quant_Valid strconv_Atoi strings_SplitN strings_TrimSuffix strings_Cut a0 k

noncomputable def KK_quant_Parse (f0 : ByteArray → (ByteArray → Int → Int → ByteArray → ByteArray → Int → Option DV) → Option DV) (ds : List DV) (k : DV → Option DV) : Option DV :=
  match ds with
  | [.val (.string a0)] => f0 a0 (fun r0_0 r0_1 r0_2 r0_3 r0_4 r1_0 => k (.val (.tuple ⟨[.agg ⟨[.string r0_0, .int .i64 r0_1, .int .i64 r0_2, .string r0_3, .string r0_4]⟩, .int .i64 r1_0]⟩)))
  | _ => none

theorem r_quant_Parse (f0 : ByteArray → Int → Int → ByteArray → ByteArray → KT → Option DV) (f1 : ByteArray → Int → Int → ByteArray → ByteArray → KB → Option DV) (f2 : ByteArray → KI → KI → Option DV) (f3 : ByteArray → ByteArray → Int → (List (List DV) → Option DV) → Option DV) (f4 : ByteArray → ByteArray → KT → Option DV) (f5 : ByteArray → ByteArray → (ByteArray → ByteArray → Bool → Option DV) → Option DV) (a0 : ByteArray) (k : DV → Option DV) : B_quant_Parse f0 f1 f2 f3 f4 f5 a0 (fun r0_0 r0_1 r0_2 r0_3 r0_4 r1_0 => k (.val (.tuple ⟨[.agg ⟨[.string r0_0, .int .i64 r0_1, .int .i64 r0_2, .string r0_3, .string r0_4]⟩, .int .i64 r1_0]⟩))) = pevF Tryd.prog (tab [(6, (KK_quant_Text f0)), (10, (KK_strings_Cut f5)), (11, (KK_strings_SplitN f3)), (12, (KK_strings_TrimSuffix f4)), (13, (KK_strconv_Atoi f2)), (14, (KK_quant_Valid f1))]) [] 64 Tryd.f4 (bodyOf Tryd.f4) [.val (.string a0)] k := by kernel_rfl

theorem m_quant_Parse : Meets Tryd.prog Inv 4 (KK_quant_Parse quant_Parse) :=
  meets_of_pev mixed stab (tab_cons m_quant_Text (tab_cons m_strings_Cut (tab_cons m_strings_SplitN (tab_cons m_strings_TrimSuffix (tab_cons m_strconv_Atoi (tab_cons m_quant_Valid (tab_nil _ _))))))) Tryd.func4 (by kernel_rfl) (by kernel_rfl) (by
    intro ds; unfold KK_quant_Parse; split
    · exact .inr ⟨[], 64, fun k => r_quant_Parse quant_Text quant_Valid strconv_Atoi strings_SplitN strings_TrimSuffix strings_Cut _ k⟩
    · exact .inl (fun _ => rfl))

noncomputable def B_serinetteref02_Text (f0 : Int → KT → Option DV) (f1 : ByteArray → Int → Int → ByteArray → ByteArray → KB → Option DV) (a0_0 : ByteArray) (a0_1 a0_2 : Int) (a0_3 a0_4 : ByteArray) (k : KT) : Option DV :=
  f1 a0_0 a0_1 a0_2 a0_3 a0_4 (fun r1 => bif !r1 then (k (⟨#[]⟩)) else (bif decide (((ByteArray.size a0_0 + ByteArray.size (⟨#[40]⟩) : Nat) : Int) > IntKind.max .i64) then none else (f0 a0_1 (fun r2 => bif decide (((ByteArray.size (a0_0 ++ (⟨#[40]⟩)) + ByteArray.size r2 : Nat) : Int) > IntKind.max .i64) then none else (bif decide (((ByteArray.size ((a0_0 ++ (⟨#[40]⟩)) ++ r2) + ByteArray.size (⟨#[44]⟩) : Nat) : Int) > IntKind.max .i64) then none else (f0 a0_2 (fun r3 => bif decide (((ByteArray.size (((a0_0 ++ (⟨#[40]⟩)) ++ r2) ++ (⟨#[44]⟩)) + ByteArray.size r3 : Nat) : Int) > IntKind.max .i64) then none else (bif decide (((ByteArray.size ((((a0_0 ++ (⟨#[40]⟩)) ++ r2) ++ (⟨#[44]⟩)) ++ r3) + ByteArray.size (⟨#[44]⟩) : Nat) : Int) > IntKind.max .i64) then none else (bif decide (((ByteArray.size (((((a0_0 ++ (⟨#[40]⟩)) ++ r2) ++ (⟨#[44]⟩)) ++ r3) ++ (⟨#[44]⟩)) + ByteArray.size a0_3 : Nat) : Int) > IntKind.max .i64) then none else (bif decide (((ByteArray.size ((((((a0_0 ++ (⟨#[40]⟩)) ++ r2) ++ (⟨#[44]⟩)) ++ r3) ++ (⟨#[44]⟩)) ++ a0_3) + ByteArray.size (⟨#[44]⟩) : Nat) : Int) > IntKind.max .i64) then none else (bif decide (((ByteArray.size (((((((a0_0 ++ (⟨#[40]⟩)) ++ r2) ++ (⟨#[44]⟩)) ++ r3) ++ (⟨#[44]⟩)) ++ a0_3) ++ (⟨#[44]⟩)) + ByteArray.size a0_4 : Nat) : Int) > IntKind.max .i64) then none else (bif decide (((ByteArray.size ((((((((a0_0 ++ (⟨#[40]⟩)) ++ r2) ++ (⟨#[44]⟩)) ++ r3) ++ (⟨#[44]⟩)) ++ a0_3) ++ (⟨#[44]⟩)) ++ a0_4) + ByteArray.size (⟨#[41]⟩) : Nat) : Int) > IntKind.max .i64) then none else (k (((((((((a0_0 ++ (⟨#[40]⟩)) ++ r2) ++ (⟨#[44]⟩)) ++ r3) ++ (⟨#[44]⟩)) ++ a0_3) ++ (⟨#[44]⟩)) ++ a0_4) ++ (⟨#[41]⟩)))))))))))))))
noncomputable def serinetteref02_Text (a0_0 : ByteArray) (a0_1 a0_2 : Int) (a0_3 a0_4 : ByteArray) (k : KT) : Option DV := B_serinetteref02_Text strconv_Itoa serinetteref02_Valid a0_0 a0_1 a0_2 a0_3 a0_4 k

noncomputable def KK_serinetteref02_Text (f0 : ByteArray → Int → Int → ByteArray → ByteArray → KT → Option DV) (ds : List DV) (k : DV → Option DV) : Option DV :=
  match ds with
  | [.val (.agg ⟨[.string a0_0, .int .i64 a0_1, .int .i64 a0_2, .string a0_3, .string a0_4]⟩)] => f0 a0_0 a0_1 a0_2 a0_3 a0_4 (fun r0_0 => k (.val (.string r0_0)))
  | _ => none

theorem r_serinetteref02_Text (f0 : Int → KT → Option DV) (f1 : ByteArray → Int → Int → ByteArray → ByteArray → KB → Option DV) (a0_0 : ByteArray) (a0_1 a0_2 : Int) (a0_3 a0_4 : ByteArray) (k : DV → Option DV) : B_serinetteref02_Text f0 f1 a0_0 a0_1 a0_2 a0_3 a0_4 (fun r0_0 => k (.val (.string r0_0))) = pevF Tryd.prog (tab [(8, (KK_serinetteref02_Valid f1)), (16, (KK_strconv_Itoa f0))]) [] 64 Tryd.f7 (bodyOf Tryd.f7) [.val (.agg ⟨[.string a0_0, .int .i64 a0_1, .int .i64 a0_2, .string a0_3, .string a0_4]⟩)] k := by kernel_rfl

theorem m_serinetteref02_Text : Meets Tryd.prog Inv 7 (KK_serinetteref02_Text serinetteref02_Text) :=
  meets_of_pev mixed stab (tab_cons m_serinetteref02_Valid (tab_cons m_strconv_Itoa (tab_nil _ _))) Tryd.func7 (by kernel_rfl) (by kernel_rfl) (by
    intro ds; unfold KK_serinetteref02_Text; split
    · exact .inr ⟨[], 64, fun k => r_serinetteref02_Text strconv_Itoa serinetteref02_Valid _ _ _ _ _ k⟩
    · exact .inl (fun _ => rfl))

noncomputable def B_serinetteref02_choice  (a0 a1 a2 : Int) (k : ByteArray → Int → Int → ByteArray → ByteArray → Option DV) : Option DV :=
  bif (Int.tmod a2 2) == 1 then (bif (Int.tmod (IntKind.wrap .i64 (Int.tdiv a2 2)) 3) == 1 then (bif (IntKind.wrap .i64 (Int.tdiv a2 6)) == 1 then (k (⟨#[102, 108, 111, 97, 116]⟩) a0 a1 (⟨#[110, 101, 97, 114]⟩) (⟨#[119, 114, 97, 112]⟩)) else (bif (IntKind.wrap .i64 (Int.tdiv a2 6)) == 2 then (k (⟨#[102, 108, 111, 97, 116]⟩) a0 a1 (⟨#[110, 101, 97, 114]⟩) (⟨#[110, 111, 110, 101]⟩)) else (k (⟨#[102, 108, 111, 97, 116]⟩) a0 a1 (⟨#[110, 101, 97, 114]⟩) (⟨#[115, 97, 116]⟩)))) else (bif (Int.tmod (IntKind.wrap .i64 (Int.tdiv a2 2)) 3) == 2 then (bif (IntKind.wrap .i64 (Int.tdiv a2 6)) == 1 then (k (⟨#[102, 108, 111, 97, 116]⟩) a0 a1 (⟨#[122, 101, 114, 111]⟩) (⟨#[119, 114, 97, 112]⟩)) else (bif (IntKind.wrap .i64 (Int.tdiv a2 6)) == 2 then (k (⟨#[102, 108, 111, 97, 116]⟩) a0 a1 (⟨#[122, 101, 114, 111]⟩) (⟨#[110, 111, 110, 101]⟩)) else (k (⟨#[102, 108, 111, 97, 116]⟩) a0 a1 (⟨#[122, 101, 114, 111]⟩) (⟨#[115, 97, 116]⟩)))) else (bif (IntKind.wrap .i64 (Int.tdiv a2 6)) == 1 then (k (⟨#[102, 108, 111, 97, 116]⟩) a0 a1 (⟨#[102, 108, 111, 111, 114]⟩) (⟨#[119, 114, 97, 112]⟩)) else (bif (IntKind.wrap .i64 (Int.tdiv a2 6)) == 2 then (k (⟨#[102, 108, 111, 97, 116]⟩) a0 a1 (⟨#[102, 108, 111, 111, 114]⟩) (⟨#[110, 111, 110, 101]⟩)) else (k (⟨#[102, 108, 111, 97, 116]⟩) a0 a1 (⟨#[102, 108, 111, 111, 114]⟩) (⟨#[115, 97, 116]⟩)))))) else (bif (Int.tmod (IntKind.wrap .i64 (Int.tdiv a2 2)) 3) == 1 then (bif (IntKind.wrap .i64 (Int.tdiv a2 6)) == 1 then (k (⟨#[102, 105, 120]⟩) a0 a1 (⟨#[110, 101, 97, 114]⟩) (⟨#[119, 114, 97, 112]⟩)) else (bif (IntKind.wrap .i64 (Int.tdiv a2 6)) == 2 then (k (⟨#[102, 105, 120]⟩) a0 a1 (⟨#[110, 101, 97, 114]⟩) (⟨#[110, 111, 110, 101]⟩)) else (k (⟨#[102, 105, 120]⟩) a0 a1 (⟨#[110, 101, 97, 114]⟩) (⟨#[115, 97, 116]⟩)))) else (bif (Int.tmod (IntKind.wrap .i64 (Int.tdiv a2 2)) 3) == 2 then (bif (IntKind.wrap .i64 (Int.tdiv a2 6)) == 1 then (k (⟨#[102, 105, 120]⟩) a0 a1 (⟨#[122, 101, 114, 111]⟩) (⟨#[119, 114, 97, 112]⟩)) else (bif (IntKind.wrap .i64 (Int.tdiv a2 6)) == 2 then (k (⟨#[102, 105, 120]⟩) a0 a1 (⟨#[122, 101, 114, 111]⟩) (⟨#[110, 111, 110, 101]⟩)) else (k (⟨#[102, 105, 120]⟩) a0 a1 (⟨#[122, 101, 114, 111]⟩) (⟨#[115, 97, 116]⟩)))) else (bif (IntKind.wrap .i64 (Int.tdiv a2 6)) == 1 then (k (⟨#[102, 105, 120]⟩) a0 a1 (⟨#[102, 108, 111, 111, 114]⟩) (⟨#[119, 114, 97, 112]⟩)) else (bif (IntKind.wrap .i64 (Int.tdiv a2 6)) == 2 then (k (⟨#[102, 105, 120]⟩) a0 a1 (⟨#[102, 108, 111, 111, 114]⟩) (⟨#[110, 111, 110, 101]⟩)) else (k (⟨#[102, 105, 120]⟩) a0 a1 (⟨#[102, 108, 111, 111, 114]⟩) (⟨#[115, 97, 116]⟩))))))
noncomputable def serinetteref02_choice (a0 a1 a2 : Int) (k : ByteArray → Int → Int → ByteArray → ByteArray → Option DV) : Option DV := B_serinetteref02_choice  a0 a1 a2 k

noncomputable def KK_serinetteref02_choice (f0 : Int → Int → Int → (ByteArray → Int → Int → ByteArray → ByteArray → Option DV) → Option DV) (ds : List DV) (k : DV → Option DV) : Option DV :=
  match ds with
  | [.val (.int .i64 a0), .val (.int .i64 a1), .val (.int .i64 a2)] => f0 a0 a1 a2 (fun r0_0 r0_1 r0_2 r0_3 r0_4 => k (.val (.agg ⟨[.string r0_0, .int .i64 r0_1, .int .i64 r0_2, .string r0_3, .string r0_4]⟩)))
  | _ => none

theorem r_serinetteref02_choice  (a0 a1 a2 : Int) (k : DV → Option DV) : B_serinetteref02_choice  a0 a1 a2 (fun r0_0 r0_1 r0_2 r0_3 r0_4 => k (.val (.agg ⟨[.string r0_0, .int .i64 r0_1, .int .i64 r0_2, .string r0_3, .string r0_4]⟩))) = pevF Tryd.prog (tab []) [] 64 Tryd.f15 (bodyOf Tryd.f15) [.val (.int .i64 a0), .val (.int .i64 a1), .val (.int .i64 a2)] k := by kernel_rfl

theorem m_serinetteref02_choice : Meets Tryd.prog Inv 15 (KK_serinetteref02_choice serinetteref02_choice) :=
  meets_of_pev mixed stab (tab_nil _ _) Tryd.func15 (by kernel_rfl) (by kernel_rfl) (by
    intro ds; unfold KK_serinetteref02_choice; split
    · exact .inr ⟨[], 64, fun k => r_serinetteref02_choice  _ _ _ k⟩
    · exact .inl (fun _ => rfl))

inductive X_serinetteref02_Parse_l10 where
  | h0 (x0 : ByteArray) (x1 : Int) (x2 : Int) (x3 : Int) (x4 : ByteArray) (x5 : Int) (x6 : Int) (x7 : ByteArray) (x8 : ByteArray)
def φ_serinetteref02_Parse_l10 : X_serinetteref02_Parse_l10 → Nat
  | .h0 x0 x1 x2 x3 x4 x5 x6 x7 x8 => Int.toNat (18 - x3) + 1

inductive X_serinetteref02_Parse_l7 where
  | h0 (x0 : ByteArray) (x1 : Int) (x2 : Int) (x3 : ByteArray) (x4 : Int) (x5 : Int) (x6 : ByteArray) (x7 : ByteArray)
def φ_serinetteref02_Parse_l7 : X_serinetteref02_Parse_l7 → Nat
  | .h0 x0 x1 x2 x3 x4 x5 x6 x7 => Int.toNat (31 - x1 - x2) + 1

inductive X_serinetteref02_Parse_l4 where
  | h0 (x0 : ByteArray) (x1 : Int) (x2 : ByteArray) (x3 : Int) (x4 : Int) (x5 : ByteArray) (x6 : ByteArray)
def φ_serinetteref02_Parse_l4 : X_serinetteref02_Parse_l4 → Nat
  | .h0 x0 x1 x2 x3 x4 x5 x6 => Int.toNat (30 - x1) + 2

noncomputable def S_serinetteref02_Parse_l10 : X_serinetteref02_Parse_l10 → St
  | .h0 x0 x1 x2 x3 x4 x5 x6 x7 x8 => ⟨mkT [(0, .dv (.val (.string x0))), (2, .ptr 0 0), (4, .dv (.val (.int .i64 x1))), (5, .dv (.val (.int .i64 x2))), (6, .dv (.val (.int .i64 x3)))] (.leaf .dead), 40, [some (.cells [.val (.string x4), .val (.int .i64 x5), .val (.int .i64 x6), .val (.string x7), .val (.string x8)])]⟩

noncomputable def oc_serinetteref02_Parse_l10 (k : KC) : (ByteArray → Int → Int → Int → ByteArray → Int → Int → ByteArray → ByteArray → Option DV) × (ByteArray → Int → Int → ByteArray → Int → Int → ByteArray → ByteArray → Option DV) := (fun y0 y1 y2 y3 y4 y5 y6 y7 y8 => k .ret ⟨mkT [(0, .dv (.val (.string y0))), (2, .ptr 0 0), (3, .dv (.val (.int .i64 y1))), (4, .dv (.val (.int .i64 y2))), (5, .dv (.val (.int .i64 y3)))] (.leaf .dead), 40, [some (.cells [.val (.string y4), .val (.int .i64 y5), .val (.int .i64 y6), .val (.string y7), .val (.string y8)])]⟩, fun y0 y1 y2 y3 y4 y5 y6 y7 => k (.exit 4) ⟨mkT [(0, .dv (.val (.string y0))), (2, .ptr 0 0), (3, .dead), (4, .dv (.val (.int .i64 y1))), (5, .dv (.val (.int .i64 y2)))] (.leaf .dead), 40, [some (.cells [.val (.string y3), .val (.int .i64 y4), .val (.int .i64 y5), .val (.string y6), .val (.string y7)])]⟩)

noncomputable def B_serinetteref02_Parse_l10_h0 (f0 : ByteArray → Int → Int → ByteArray → ByteArray → KT → Option DV) (f1 : ByteArray → Int → Int → ByteArray → ByteArray → KB → Option DV) (f2 : Int → Int → Int → (ByteArray → Int → Int → ByteArray → ByteArray → Option DV) → Option DV) (p10 : X_serinetteref02_Parse_l10 → Nat) (p7 : X_serinetteref02_Parse_l7 → Nat) (p4 : X_serinetteref02_Parse_l4 → Nat) (x0 : ByteArray) (x1 : Int) (x2 : Int) (x3 : Int) (x4 : ByteArray) (x5 : Int) (x6 : Int) (x7 : ByteArray) (x8 : ByteArray) (κn : X_serinetteref02_Parse_l10 → Option DV) (κ0 : ByteArray → Int → Int → Int → ByteArray → Int → Int → ByteArray → ByteArray → Option DV) (κ1 : ByteArray → Int → Int → ByteArray → Int → Int → ByteArray → ByteArray → Option DV) : Option DV :=
  bif decide (x3 < 18) then (f2 x1 x2 x3 (fun r1 r2 r3 r4 r5 => f1 r1 r2 r3 r4 r5 (fun r6 => bif r6 then (f0 r1 r2 r3 r4 r5 (fun r7 => bif (ByteArray.toList r7 == ByteArray.toList x0) then (κ0 x0 0 x1 x2 r1 r2 r3 r4 r5) else (κn (X_serinetteref02_Parse_l10.h0 x0 x1 x2 (IntKind.wrap .i64 (x3 + 1)) x4 x5 x6 x7 x8)))) else (κn (X_serinetteref02_Parse_l10.h0 x0 x1 x2 (IntKind.wrap .i64 (x3 + 1)) x4 x5 x6 x7 x8))))) else (κ1 x0 x1 x2 x4 x5 x6 x7 x8)

noncomputable def F_serinetteref02_Parse_l10 (f0 : ByteArray → Int → Int → ByteArray → ByteArray → KT → Option DV) (f1 : ByteArray → Int → Int → ByteArray → ByteArray → KB → Option DV) (f2 : Int → Int → Int → (ByteArray → Int → Int → ByteArray → ByteArray → Option DV) → Option DV) (p10 : X_serinetteref02_Parse_l10 → Nat) (p7 : X_serinetteref02_Parse_l7 → Nat) (p4 : X_serinetteref02_Parse_l4 → Nat) : X_serinetteref02_Parse_l10 → (X_serinetteref02_Parse_l10 → Option DV) → ((ByteArray → Int → Int → Int → ByteArray → Int → Int → ByteArray → ByteArray → Option DV) × (ByteArray → Int → Int → ByteArray → Int → Int → ByteArray → ByteArray → Option DV)) → Option DV
  | .h0 x0 x1 x2 x3 x4 x5 x6 x7 x8, κn, κ => B_serinetteref02_Parse_l10_h0 f0 f1 f2 p10 p7 p4 x0 x1 x2 x3 x4 x5 x6 x7 x8 κn κ.1 κ.2

noncomputable def dec_serinetteref02_Parse_l10 (s : St) : Option X_serinetteref02_Parse_l10 :=
  bindO (xN s.n 40) fun u => bindO (xD (s.tmps.get 0)) fun d1 => bindO (xS d1) fun x0 => bindO (xP 0 0 (s.tmps.get 2)) fun u3 => bindO (xD (s.tmps.get 4)) fun d4 => bindO (xI .i64 d4) fun x1 => bindO (xD (s.tmps.get 5)) fun d6 => bindO (xI .i64 d6) fun x2 => bindO (xD (s.tmps.get 6)) fun d8 => bindO (xI .i64 d8) fun x3 => bindO (xBlk s.heap) fun p10 => bindO (xUn p10.1) fun q11 => bindO (xS q11.1) fun x4 => bindO (xUn q11.2) fun q13 => bindO (xI .i64 q13.1) fun x5 => bindO (xUn q13.2) fun q15 => bindO (xI .i64 q15.1) fun x6 => bindO (xUn q15.2) fun q17 => bindO (xS q17.1) fun x7 => bindO (xUn q17.2) fun q19 => bindO (xS q19.1) fun x8 => bindO (xEnd q19.2) fun u21 => bindO (xEnd p10.2) fun u22 => some (.h0 x0 x1 x2 x3 x4 x5 x6 x7 x8)

noncomputable def R_serinetteref02_Parse_l10 (f0 : ByteArray → Int → Int → ByteArray → ByteArray → KT → Option DV) (f1 : ByteArray → Int → Int → ByteArray → ByteArray → KB → Option DV) (f2 : Int → Int → Int → (ByteArray → Int → Int → ByteArray → ByteArray → Option DV) → Option DV) (p10 : X_serinetteref02_Parse_l10 → Nat) (p7 : X_serinetteref02_Parse_l7 → Nat) (p4 : X_serinetteref02_Parse_l4 → Nat) : St → KC → Option DV := decR dec_serinetteref02_Parse_l10 (F_serinetteref02_Parse_l10 f0 f1 f2 p10 p7 p4) p10 oc_serinetteref02_Parse_l10

theorem d_serinetteref02_Parse_l10 : ∀ s x, dec_serinetteref02_Parse_l10 s = some x → SLe s (S_serinetteref02_Parse_l10 x) := by
  intro s x h
  unfold dec_serinetteref02_Parse_l10 at h
  · obtain ⟨u, en, h⟩ := bindO_some h
    obtain ⟨d1, e1, h⟩ := bindO_some h
    obtain ⟨x0, e2, h⟩ := bindO_some h
    obtain ⟨u3, e3, h⟩ := bindO_some h
    obtain ⟨d4, e4, h⟩ := bindO_some h
    obtain ⟨x1, e5, h⟩ := bindO_some h
    obtain ⟨d6, e6, h⟩ := bindO_some h
    obtain ⟨x2, e7, h⟩ := bindO_some h
    obtain ⟨d8, e8, h⟩ := bindO_some h
    obtain ⟨x3, e9, h⟩ := bindO_some h
    obtain ⟨p10, e10, h⟩ := bindO_some h
    obtain ⟨q11, e11, h⟩ := bindO_some h
    obtain ⟨x4, e12, h⟩ := bindO_some h
    obtain ⟨q13, e13, h⟩ := bindO_some h
    obtain ⟨x5, e14, h⟩ := bindO_some h
    obtain ⟨q15, e15, h⟩ := bindO_some h
    obtain ⟨x6, e16, h⟩ := bindO_some h
    obtain ⟨q17, e17, h⟩ := bindO_some h
    obtain ⟨x7, e18, h⟩ := bindO_some h
    obtain ⟨q19, e19, h⟩ := bindO_some h
    obtain ⟨x8, e20, h⟩ := bindO_some h
    obtain ⟨u21, e21, h⟩ := bindO_some h
    obtain ⟨u22, e22, h⟩ := bindO_some h
    cases h
    exact ⟨le_mkT _ _ (Le.dead _) ⟨.inr ((xD_eq e1).trans (congrArg VV.dv (xS_eq e2))), .inr (xP_eq e3), .inr ((xD_eq e4).trans (congrArg VV.dv (xI_eq e5))), .inr ((xD_eq e6).trans (congrArg VV.dv (xI_eq e7))), .inr ((xD_eq e8).trans (congrArg VV.dv (xI_eq e9))), trivial⟩, (xN_eq en).symm, by rw [xBlk_eq e10, xUn_eq e11, xS_eq e12, xUn_eq e13, xI_eq e14, xUn_eq e15, xI_eq e16, xUn_eq e17, xS_eq e18, xUn_eq e19, xS_eq e20, xEnd_eq e21, xEnd_eq e22]; rfl⟩

noncomputable def S_serinetteref02_Parse_l7 : X_serinetteref02_Parse_l7 → St
  | .h0 x0 x1 x2 x3 x4 x5 x6 x7 => ⟨mkT [(0, .dv (.val (.string x0))), (2, .ptr 0 0), (4, .dv (.val (.int .i64 x1))), (5, .dv (.val (.int .i64 x2)))] (.leaf .dead), 40, [some (.cells [.val (.string x3), .val (.int .i64 x4), .val (.int .i64 x5), .val (.string x6), .val (.string x7)])]⟩

noncomputable def oc_serinetteref02_Parse_l7 (k : KC) : (ByteArray → Int → Int → ByteArray → Int → Int → ByteArray → ByteArray → Option DV) × (ByteArray → Int → ByteArray → Int → Int → ByteArray → ByteArray → Option DV) := (fun y0 y1 y2 y3 y4 y5 y6 y7 => k .ret ⟨mkT [(0, .dv (.val (.string y0))), (2, .ptr 0 0), (3, .dv (.val (.int .i64 y1))), (4, .dv (.val (.int .i64 y2)))] (.leaf .dead), 40, [some (.cells [.val (.string y3), .val (.int .i64 y4), .val (.int .i64 y5), .val (.string y6), .val (.string y7)])]⟩, fun y0 y1 y2 y3 y4 y5 y6 => k (.exit 2) ⟨mkT [(0, .dv (.val (.string y0))), (2, .ptr 0 0), (3, .dead), (4, .dv (.val (.int .i64 y1)))] (.leaf .dead), 40, [some (.cells [.val (.string y2), .val (.int .i64 y3), .val (.int .i64 y4), .val (.string y5), .val (.string y6)])]⟩)

noncomputable def B_serinetteref02_Parse_l7_h0 (f0 : ByteArray → Int → Int → ByteArray → ByteArray → KT → Option DV) (f1 : ByteArray → Int → Int → ByteArray → ByteArray → KB → Option DV) (f2 : Int → Int → Int → (ByteArray → Int → Int → ByteArray → ByteArray → Option DV) → Option DV) (p10 : X_serinetteref02_Parse_l10 → Nat) (p7 : X_serinetteref02_Parse_l7 → Nat) (p4 : X_serinetteref02_Parse_l4 → Nat) (x0 : ByteArray) (x1 : Int) (x2 : Int) (x3 : ByteArray) (x4 : Int) (x5 : Int) (x6 : ByteArray) (x7 : ByteArray) (κn : X_serinetteref02_Parse_l7 → Option DV) (κ0 : ByteArray → Int → Int → ByteArray → Int → Int → ByteArray → ByteArray → Option DV) (κ1 : ByteArray → Int → ByteArray → Int → Int → ByteArray → ByteArray → Option DV) : Option DV :=
  bif decide (IntKind.wrap .i64 (x1 + x2) ≤ 30) then (LF (F_serinetteref02_Parse_l10 f0 f1 f2 p10 p7 p4) (p10 (X_serinetteref02_Parse_l10.h0 x0 x1 x2 0 x3 x4 x5 x6 x7)) (X_serinetteref02_Parse_l10.h0 x0 x1 x2 0 x3 x4 x5 x6 x7) ((fun z8_0 z8_1 z8_2 z8_3 z8_4 z8_5 z8_6 z8_7 z8_8 => κ0 z8_0 z8_1 z8_2 z8_4 z8_5 z8_6 z8_7 z8_8), (fun z9_0 z9_1 z9_2 z9_3 z9_4 z9_5 z9_6 z9_7 => κn (X_serinetteref02_Parse_l7.h0 z9_0 z9_1 (IntKind.wrap .i64 (z9_2 + 1)) z9_3 z9_4 z9_5 z9_6 z9_7)))) else (κ1 x0 x1 x3 x4 x5 x6 x7)

noncomputable def F_serinetteref02_Parse_l7 (f0 : ByteArray → Int → Int → ByteArray → ByteArray → KT → Option DV) (f1 : ByteArray → Int → Int → ByteArray → ByteArray → KB → Option DV) (f2 : Int → Int → Int → (ByteArray → Int → Int → ByteArray → ByteArray → Option DV) → Option DV) (p10 : X_serinetteref02_Parse_l10 → Nat) (p7 : X_serinetteref02_Parse_l7 → Nat) (p4 : X_serinetteref02_Parse_l4 → Nat) : X_serinetteref02_Parse_l7 → (X_serinetteref02_Parse_l7 → Option DV) → ((ByteArray → Int → Int → ByteArray → Int → Int → ByteArray → ByteArray → Option DV) × (ByteArray → Int → ByteArray → Int → Int → ByteArray → ByteArray → Option DV)) → Option DV
  | .h0 x0 x1 x2 x3 x4 x5 x6 x7, κn, κ => B_serinetteref02_Parse_l7_h0 f0 f1 f2 p10 p7 p4 x0 x1 x2 x3 x4 x5 x6 x7 κn κ.1 κ.2

noncomputable def dec_serinetteref02_Parse_l7 (s : St) : Option X_serinetteref02_Parse_l7 :=
  bindO (xN s.n 40) fun u => bindO (xD (s.tmps.get 0)) fun d1 => bindO (xS d1) fun x0 => bindO (xP 0 0 (s.tmps.get 2)) fun u3 => bindO (xD (s.tmps.get 4)) fun d4 => bindO (xI .i64 d4) fun x1 => bindO (xD (s.tmps.get 5)) fun d6 => bindO (xI .i64 d6) fun x2 => bindO (xBlk s.heap) fun p8 => bindO (xUn p8.1) fun q9 => bindO (xS q9.1) fun x3 => bindO (xUn q9.2) fun q11 => bindO (xI .i64 q11.1) fun x4 => bindO (xUn q11.2) fun q13 => bindO (xI .i64 q13.1) fun x5 => bindO (xUn q13.2) fun q15 => bindO (xS q15.1) fun x6 => bindO (xUn q15.2) fun q17 => bindO (xS q17.1) fun x7 => bindO (xEnd q17.2) fun u19 => bindO (xEnd p8.2) fun u20 => some (.h0 x0 x1 x2 x3 x4 x5 x6 x7)

noncomputable def R_serinetteref02_Parse_l7 (f0 : ByteArray → Int → Int → ByteArray → ByteArray → KT → Option DV) (f1 : ByteArray → Int → Int → ByteArray → ByteArray → KB → Option DV) (f2 : Int → Int → Int → (ByteArray → Int → Int → ByteArray → ByteArray → Option DV) → Option DV) (p10 : X_serinetteref02_Parse_l10 → Nat) (p7 : X_serinetteref02_Parse_l7 → Nat) (p4 : X_serinetteref02_Parse_l4 → Nat) : St → KC → Option DV := decR dec_serinetteref02_Parse_l7 (F_serinetteref02_Parse_l7 f0 f1 f2 p10 p7 p4) p7 oc_serinetteref02_Parse_l7

theorem d_serinetteref02_Parse_l7 : ∀ s x, dec_serinetteref02_Parse_l7 s = some x → SLe s (S_serinetteref02_Parse_l7 x) := by
  intro s x h
  unfold dec_serinetteref02_Parse_l7 at h
  · obtain ⟨u, en, h⟩ := bindO_some h
    obtain ⟨d1, e1, h⟩ := bindO_some h
    obtain ⟨x0, e2, h⟩ := bindO_some h
    obtain ⟨u3, e3, h⟩ := bindO_some h
    obtain ⟨d4, e4, h⟩ := bindO_some h
    obtain ⟨x1, e5, h⟩ := bindO_some h
    obtain ⟨d6, e6, h⟩ := bindO_some h
    obtain ⟨x2, e7, h⟩ := bindO_some h
    obtain ⟨p8, e8, h⟩ := bindO_some h
    obtain ⟨q9, e9, h⟩ := bindO_some h
    obtain ⟨x3, e10, h⟩ := bindO_some h
    obtain ⟨q11, e11, h⟩ := bindO_some h
    obtain ⟨x4, e12, h⟩ := bindO_some h
    obtain ⟨q13, e13, h⟩ := bindO_some h
    obtain ⟨x5, e14, h⟩ := bindO_some h
    obtain ⟨q15, e15, h⟩ := bindO_some h
    obtain ⟨x6, e16, h⟩ := bindO_some h
    obtain ⟨q17, e17, h⟩ := bindO_some h
    obtain ⟨x7, e18, h⟩ := bindO_some h
    obtain ⟨u19, e19, h⟩ := bindO_some h
    obtain ⟨u20, e20, h⟩ := bindO_some h
    cases h
    exact ⟨le_mkT _ _ (Le.dead _) ⟨.inr ((xD_eq e1).trans (congrArg VV.dv (xS_eq e2))), .inr (xP_eq e3), .inr ((xD_eq e4).trans (congrArg VV.dv (xI_eq e5))), .inr ((xD_eq e6).trans (congrArg VV.dv (xI_eq e7))), trivial⟩, (xN_eq en).symm, by rw [xBlk_eq e8, xUn_eq e9, xS_eq e10, xUn_eq e11, xI_eq e12, xUn_eq e13, xI_eq e14, xUn_eq e15, xS_eq e16, xUn_eq e17, xS_eq e18, xEnd_eq e19, xEnd_eq e20]; rfl⟩

noncomputable def S_serinetteref02_Parse_l4 : X_serinetteref02_Parse_l4 → St
  | .h0 x0 x1 x2 x3 x4 x5 x6 => ⟨mkT [(0, .dv (.val (.string x0))), (2, .ptr 0 0), (4, .dv (.val (.int .i64 x1)))] (.leaf .dead), 40, [some (.cells [.val (.string x2), .val (.int .i64 x3), .val (.int .i64 x4), .val (.string x5), .val (.string x6)])]⟩

noncomputable def oc_serinetteref02_Parse_l4 (k : KC) : (Int → ByteArray → Int → Int → ByteArray → ByteArray → Option DV) × (ByteArray → Int → Int → ByteArray → ByteArray → Option DV) := (fun y0 y1 y2 y3 y4 y5 => k .ret ⟨mkT [(2, .ptr 0 0), (3, .dv (.val (.int .i64 y0)))] (.leaf .dead), 40, [some (.cells [.val (.string y1), .val (.int .i64 y2), .val (.int .i64 y3), .val (.string y4), .val (.string y5)])]⟩, fun y0 y1 y2 y3 y4 => k (.exit 0) ⟨mkT [(2, .ptr 0 0), (3, .dead)] (.leaf .dead), 40, [some (.cells [.val (.string y0), .val (.int .i64 y1), .val (.int .i64 y2), .val (.string y3), .val (.string y4)])]⟩)

noncomputable def B_serinetteref02_Parse_l4_h0 (f0 : ByteArray → Int → Int → ByteArray → ByteArray → KT → Option DV) (f1 : ByteArray → Int → Int → ByteArray → ByteArray → KB → Option DV) (f2 : Int → Int → Int → (ByteArray → Int → Int → ByteArray → ByteArray → Option DV) → Option DV) (p10 : X_serinetteref02_Parse_l10 → Nat) (p7 : X_serinetteref02_Parse_l7 → Nat) (p4 : X_serinetteref02_Parse_l4 → Nat) (x0 : ByteArray) (x1 : Int) (x2 : ByteArray) (x3 : Int) (x4 : Int) (x5 : ByteArray) (x6 : ByteArray) (κn : X_serinetteref02_Parse_l4 → Option DV) (κ0 : Int → ByteArray → Int → Int → ByteArray → ByteArray → Option DV) (κ1 : ByteArray → Int → Int → ByteArray → ByteArray → Option DV) : Option DV :=
  bif decide (x1 ≤ 30) then (LF (F_serinetteref02_Parse_l7 f0 f1 f2 p10 p7 p4) (p7 (X_serinetteref02_Parse_l7.h0 x0 x1 0 x2 x3 x4 x5 x6)) (X_serinetteref02_Parse_l7.h0 x0 x1 0 x2 x3 x4 x5 x6) ((fun z10_0 z10_1 z10_2 z10_3 z10_4 z10_5 z10_6 z10_7 => κ0 z10_1 z10_3 z10_4 z10_5 z10_6 z10_7), (fun z11_0 z11_1 z11_2 z11_3 z11_4 z11_5 z11_6 => κn (X_serinetteref02_Parse_l4.h0 z11_0 (IntKind.wrap .i64 (z11_1 + 1)) z11_2 z11_3 z11_4 z11_5 z11_6)))) else (κ1 x2 x3 x4 x5 x6)

noncomputable def F_serinetteref02_Parse_l4 (f0 : ByteArray → Int → Int → ByteArray → ByteArray → KT → Option DV) (f1 : ByteArray → Int → Int → ByteArray → ByteArray → KB → Option DV) (f2 : Int → Int → Int → (ByteArray → Int → Int → ByteArray → ByteArray → Option DV) → Option DV) (p10 : X_serinetteref02_Parse_l10 → Nat) (p7 : X_serinetteref02_Parse_l7 → Nat) (p4 : X_serinetteref02_Parse_l4 → Nat) : X_serinetteref02_Parse_l4 → (X_serinetteref02_Parse_l4 → Option DV) → ((Int → ByteArray → Int → Int → ByteArray → ByteArray → Option DV) × (ByteArray → Int → Int → ByteArray → ByteArray → Option DV)) → Option DV
  | .h0 x0 x1 x2 x3 x4 x5 x6, κn, κ => B_serinetteref02_Parse_l4_h0 f0 f1 f2 p10 p7 p4 x0 x1 x2 x3 x4 x5 x6 κn κ.1 κ.2

noncomputable def dec_serinetteref02_Parse_l4 (s : St) : Option X_serinetteref02_Parse_l4 :=
  bindO (xN s.n 40) fun u => bindO (xD (s.tmps.get 0)) fun d1 => bindO (xS d1) fun x0 => bindO (xP 0 0 (s.tmps.get 2)) fun u3 => bindO (xD (s.tmps.get 4)) fun d4 => bindO (xI .i64 d4) fun x1 => bindO (xBlk s.heap) fun p6 => bindO (xUn p6.1) fun q7 => bindO (xS q7.1) fun x2 => bindO (xUn q7.2) fun q9 => bindO (xI .i64 q9.1) fun x3 => bindO (xUn q9.2) fun q11 => bindO (xI .i64 q11.1) fun x4 => bindO (xUn q11.2) fun q13 => bindO (xS q13.1) fun x5 => bindO (xUn q13.2) fun q15 => bindO (xS q15.1) fun x6 => bindO (xEnd q15.2) fun u17 => bindO (xEnd p6.2) fun u18 => some (.h0 x0 x1 x2 x3 x4 x5 x6)

noncomputable def R_serinetteref02_Parse_l4 (f0 : ByteArray → Int → Int → ByteArray → ByteArray → KT → Option DV) (f1 : ByteArray → Int → Int → ByteArray → ByteArray → KB → Option DV) (f2 : Int → Int → Int → (ByteArray → Int → Int → ByteArray → ByteArray → Option DV) → Option DV) (p10 : X_serinetteref02_Parse_l10 → Nat) (p7 : X_serinetteref02_Parse_l7 → Nat) (p4 : X_serinetteref02_Parse_l4 → Nat) : St → KC → Option DV := decR dec_serinetteref02_Parse_l4 (F_serinetteref02_Parse_l4 f0 f1 f2 p10 p7 p4) p4 oc_serinetteref02_Parse_l4

theorem d_serinetteref02_Parse_l4 : ∀ s x, dec_serinetteref02_Parse_l4 s = some x → SLe s (S_serinetteref02_Parse_l4 x) := by
  intro s x h
  unfold dec_serinetteref02_Parse_l4 at h
  · obtain ⟨u, en, h⟩ := bindO_some h
    obtain ⟨d1, e1, h⟩ := bindO_some h
    obtain ⟨x0, e2, h⟩ := bindO_some h
    obtain ⟨u3, e3, h⟩ := bindO_some h
    obtain ⟨d4, e4, h⟩ := bindO_some h
    obtain ⟨x1, e5, h⟩ := bindO_some h
    obtain ⟨p6, e6, h⟩ := bindO_some h
    obtain ⟨q7, e7, h⟩ := bindO_some h
    obtain ⟨x2, e8, h⟩ := bindO_some h
    obtain ⟨q9, e9, h⟩ := bindO_some h
    obtain ⟨x3, e10, h⟩ := bindO_some h
    obtain ⟨q11, e11, h⟩ := bindO_some h
    obtain ⟨x4, e12, h⟩ := bindO_some h
    obtain ⟨q13, e13, h⟩ := bindO_some h
    obtain ⟨x5, e14, h⟩ := bindO_some h
    obtain ⟨q15, e15, h⟩ := bindO_some h
    obtain ⟨x6, e16, h⟩ := bindO_some h
    obtain ⟨u17, e17, h⟩ := bindO_some h
    obtain ⟨u18, e18, h⟩ := bindO_some h
    cases h
    exact ⟨le_mkT _ _ (Le.dead _) ⟨.inr ((xD_eq e1).trans (congrArg VV.dv (xS_eq e2))), .inr (xP_eq e3), .inr ((xD_eq e4).trans (congrArg VV.dv (xI_eq e5))), trivial⟩, (xN_eq en).symm, by rw [xBlk_eq e6, xUn_eq e7, xS_eq e8, xUn_eq e9, xI_eq e10, xUn_eq e11, xI_eq e12, xUn_eq e13, xS_eq e14, xUn_eq e15, xS_eq e16, xEnd_eq e17, xEnd_eq e18]; rfl⟩

noncomputable def B_serinetteref02_Parse (f0 : ByteArray → Int → Int → ByteArray → ByteArray → KT → Option DV) (f1 : ByteArray → Int → Int → ByteArray → ByteArray → KB → Option DV) (f2 : Int → Int → Int → (ByteArray → Int → Int → ByteArray → ByteArray → Option DV) → Option DV) (p10 : X_serinetteref02_Parse_l10 → Nat) (p7 : X_serinetteref02_Parse_l7 → Nat) (p4 : X_serinetteref02_Parse_l4 → Nat) (a0 : ByteArray) (k : ByteArray → Int → Int → ByteArray → ByteArray → Int → Option DV) : Option DV :=
  bif decide (((ByteArray.size a0 : Nat) : Int) > 30) then (k (⟨#[]⟩) 0 0 (⟨#[]⟩) (⟨#[]⟩) 3) else (LF (F_serinetteref02_Parse_l4 f0 f1 f2 p10 p7 p4) (p4 (X_serinetteref02_Parse_l4.h0 a0 0 (⟨#[]⟩) 0 0 (⟨#[]⟩) (⟨#[]⟩))) (X_serinetteref02_Parse_l4.h0 a0 0 (⟨#[]⟩) 0 0 (⟨#[]⟩) (⟨#[]⟩)) ((fun z12_0 z12_1 z12_2 z12_3 z12_4 z12_5 => k z12_1 z12_2 z12_3 z12_4 z12_5 z12_0), (fun z13_0 z13_1 z13_2 z13_3 z13_4 => k (⟨#[]⟩) 0 0 (⟨#[]⟩) (⟨#[]⟩) 3)))
noncomputable def serinetteref02_Parse (a0 : ByteArray) (k : ByteArray → Int → Int → ByteArray → ByteArray → Int → Option DV) : Option DV := B_serinetteref02_Parse serinetteref02_Text serinetteref02_Valid serinetteref02_choice φ_serinetteref02_Parse_l10 φ_serinetteref02_Parse_l7 φ_serinetteref02_Parse_l4 a0 k

noncomputable def KK_serinetteref02_Parse (f0 : ByteArray → (ByteArray → Int → Int → ByteArray → ByteArray → Int → Option DV) → Option DV) (ds : List DV) (k : DV → Option DV) : Option DV :=
  match ds with
  | [.val (.string a0)] => f0 a0 (fun r0_0 r0_1 r0_2 r0_3 r0_4 r1_0 => k (.val (.tuple ⟨[.agg ⟨[.string r0_0, .int .i64 r0_1, .int .i64 r0_2, .string r0_3, .string r0_4]⟩, .int .i64 r1_0]⟩)))
  | _ => none

theorem q_serinetteref02_Parse_l10_h0 (f0 : ByteArray → Int → Int → ByteArray → ByteArray → KT → Option DV) (f1 : ByteArray → Int → Int → ByteArray → ByteArray → KB → Option DV) (f2 : Int → Int → Int → (ByteArray → Int → Int → ByteArray → ByteArray → Option DV) → Option DV) (p10 : X_serinetteref02_Parse_l10 → Nat) (p7 : X_serinetteref02_Parse_l7 → Nat) (p4 : X_serinetteref02_Parse_l4 → Nat) (x0 : ByteArray) (x1 : Int) (x2 : Int) (x3 : Int) (x4 : ByteArray) (x5 : Int) (x6 : Int) (x7 : ByteArray) (x8 : ByteArray) (κn : St → Option DV) (κ : KC) : pev Tryd.prog (tab [(7, (KK_serinetteref02_Text f0)), (8, (KK_serinetteref02_Valid f1)), (15, (KK_serinetteref02_choice f2))]) (ltab [(10, R_serinetteref02_Parse_l10 f0 f1 f2 p10 p7 p4), (7, R_serinetteref02_Parse_l7 f0 f1 f2 p10 p7 p4), (4, R_serinetteref02_Parse_l4 f0 f1 f2 p10 p7 p4)]) [(0, [0]), (0, []), (10, [0, 2, 4, 5, 6]), (100010, [0, 2, 3, 4, 5]), (7, [0, 2, 4, 5]), (100007, [0, 2, 3, 4]), (4, [0, 2, 4]), (100004, [2, 3])] 64 (loopB (bodyOf Tryd.f5) 2) (S_serinetteref02_Parse_l10 (.h0 x0 x1 x2 x3 x4 x5 x6 x7 x8)) (contL [0, 2, 4, 5, 6] [0, 2, 3, 4, 5] κn κ) = F_serinetteref02_Parse_l10 f0 f1 f2 p10 p7 p4 (.h0 x0 x1 x2 x3 x4 x5 x6 x7 x8) (fun x => κn (S_serinetteref02_Parse_l10 x)) (oc_serinetteref02_Parse_l10 κ) := by kernel_rfl

theorem g_serinetteref02_Parse_l10 (f0 : ByteArray → Int → Int → ByteArray → ByteArray → KT → Option DV) (f1 : ByteArray → Int → Int → ByteArray → ByteArray → KB → Option DV) (f2 : Int → Int → Int → (ByteArray → Int → Int → ByteArray → ByteArray → Option DV) → Option DV) (p10 : X_serinetteref02_Parse_l10 → Nat) (p7 : X_serinetteref02_Parse_l7 → Nat) (p4 : X_serinetteref02_Parse_l4 → Nat) (HK : ∀ g, Meets Tryd.prog Inv g (tab [(7, (KK_serinetteref02_Text f0)), (8, (KK_serinetteref02_Valid f1)), (15, (KK_serinetteref02_choice f2))] g)) : RGood Tryd.prog Inv (loopB (bodyOf Tryd.f5) 2) (R_serinetteref02_Parse_l10 f0 f1 f2 p10 p7 p4) :=
  have hL : LGood Tryd.prog Inv (ltab [(10, R_serinetteref02_Parse_l10 f0 f1 f2 p10 p7 p4), (7, R_serinetteref02_Parse_l7 f0 f1 f2 p10 p7 p4), (4, R_serinetteref02_Parse_l4 f0 f1 f2 p10 p7 p4)]) (loopB (bodyOf Tryd.f5) 2) := (lgood_of (bs := []) (by kernel_rfl) lgood_nil)
  rgood_dec (body := fun s k => pev Tryd.prog (tab [(7, (KK_serinetteref02_Text f0)), (8, (KK_serinetteref02_Valid f1)), (15, (KK_serinetteref02_choice f2))]) (ltab [(10, R_serinetteref02_Parse_l10 f0 f1 f2 p10 p7 p4), (7, R_serinetteref02_Parse_l7 f0 f1 f2 p10 p7 p4), (4, R_serinetteref02_Parse_l4 f0 f1 f2 p10 p7 p4)]) [(0, [0]), (0, []), (10, [0, 2, 4, 5, 6]), (100010, [0, 2, 3, 4, 5]), (7, [0, 2, 4, 5]), (100007, [0, 2, 3, 4]), (4, [0, 2, 4]), (100004, [2, 3])] 64 (loopB (bodyOf Tryd.f5) 2) s k) (live := [0, 2, 4, 5, 6]) (out := [0, 2, 3, 4, 5]) (S := S_serinetteref02_Parse_l10) (pev_ok mixed stab HK (ltab [(10, R_serinetteref02_Parse_l10 f0 f1 f2 p10 p7 p4), (7, R_serinetteref02_Parse_l7 f0 f1 f2 p10 p7 p4), (4, R_serinetteref02_Parse_l4 f0 f1 f2 p10 p7 p4)]) [(0, [0]), (0, []), (10, [0, 2, 4, 5, 6]), (100010, [0, 2, 3, 4, 5]), (7, [0, 2, 4, 5]), (100007, [0, 2, 3, 4]), (4, [0, 2, 4]), (100004, [2, 3])] 64 _ hL) (pev_nat HK (ltab [(10, R_serinetteref02_Parse_l10 f0 f1 f2 p10 p7 p4), (7, R_serinetteref02_Parse_l7 f0 f1 f2 p10 p7 p4), (4, R_serinetteref02_Parse_l4 f0 f1 f2 p10 p7 p4)]) [(0, [0]), (0, []), (10, [0, 2, 4, 5, 6]), (100010, [0, 2, 3, 4, 5]), (7, [0, 2, 4, 5]), (100007, [0, 2, 3, 4]), (4, [0, 2, 4]), (100004, [2, 3])] 64 _ hL)
    (fun x κn κ => match x with
      | .h0 _ _ _ _ _ _ _ _ _ => q_serinetteref02_Parse_l10_h0 f0 f1 f2 p10 p7 p4 _ _ _ _ _ _ _ _ _ κn κ
    ) d_serinetteref02_Parse_l10 p10

theorem q_serinetteref02_Parse_l7_h0 (f0 : ByteArray → Int → Int → ByteArray → ByteArray → KT → Option DV) (f1 : ByteArray → Int → Int → ByteArray → ByteArray → KB → Option DV) (f2 : Int → Int → Int → (ByteArray → Int → Int → ByteArray → ByteArray → Option DV) → Option DV) (p10 : X_serinetteref02_Parse_l10 → Nat) (p7 : X_serinetteref02_Parse_l7 → Nat) (p4 : X_serinetteref02_Parse_l4 → Nat) (x0 : ByteArray) (x1 : Int) (x2 : Int) (x3 : ByteArray) (x4 : Int) (x5 : Int) (x6 : ByteArray) (x7 : ByteArray) (κn : St → Option DV) (κ : KC) : pev Tryd.prog (tab [(7, (KK_serinetteref02_Text f0)), (8, (KK_serinetteref02_Valid f1)), (15, (KK_serinetteref02_choice f2))]) (ltab [(10, R_serinetteref02_Parse_l10 f0 f1 f2 p10 p7 p4), (7, R_serinetteref02_Parse_l7 f0 f1 f2 p10 p7 p4), (4, R_serinetteref02_Parse_l4 f0 f1 f2 p10 p7 p4)]) [(0, [0]), (0, []), (10, [0, 2, 4, 5, 6]), (100010, [0, 2, 3, 4, 5]), (7, [0, 2, 4, 5]), (100007, [0, 2, 3, 4]), (4, [0, 2, 4]), (100004, [2, 3])] 64 (loopB (bodyOf Tryd.f5) 1) (S_serinetteref02_Parse_l7 (.h0 x0 x1 x2 x3 x4 x5 x6 x7)) (contL [0, 2, 4, 5] [0, 2, 3, 4] κn κ) = F_serinetteref02_Parse_l7 f0 f1 f2 p10 p7 p4 (.h0 x0 x1 x2 x3 x4 x5 x6 x7) (fun x => κn (S_serinetteref02_Parse_l7 x)) (oc_serinetteref02_Parse_l7 κ) := by kernel_rfl

theorem g_serinetteref02_Parse_l7 (f0 : ByteArray → Int → Int → ByteArray → ByteArray → KT → Option DV) (f1 : ByteArray → Int → Int → ByteArray → ByteArray → KB → Option DV) (f2 : Int → Int → Int → (ByteArray → Int → Int → ByteArray → ByteArray → Option DV) → Option DV) (p10 : X_serinetteref02_Parse_l10 → Nat) (p7 : X_serinetteref02_Parse_l7 → Nat) (p4 : X_serinetteref02_Parse_l4 → Nat) (HK : ∀ g, Meets Tryd.prog Inv g (tab [(7, (KK_serinetteref02_Text f0)), (8, (KK_serinetteref02_Valid f1)), (15, (KK_serinetteref02_choice f2))] g)) : RGood Tryd.prog Inv (loopB (bodyOf Tryd.f5) 1) (R_serinetteref02_Parse_l7 f0 f1 f2 p10 p7 p4) :=
  have hL : LGood Tryd.prog Inv (ltab [(10, R_serinetteref02_Parse_l10 f0 f1 f2 p10 p7 p4), (7, R_serinetteref02_Parse_l7 f0 f1 f2 p10 p7 p4), (4, R_serinetteref02_Parse_l4 f0 f1 f2 p10 p7 p4)]) (loopB (bodyOf Tryd.f5) 1) := (lgood_of (bs := [loopB (bodyOf Tryd.f5) 2]) (by kernel_rfl) (lgood_cons (by kernel_rfl) (g_serinetteref02_Parse_l10 f0 f1 f2 p10 p7 p4 HK) lgood_nil))
  rgood_dec (body := fun s k => pev Tryd.prog (tab [(7, (KK_serinetteref02_Text f0)), (8, (KK_serinetteref02_Valid f1)), (15, (KK_serinetteref02_choice f2))]) (ltab [(10, R_serinetteref02_Parse_l10 f0 f1 f2 p10 p7 p4), (7, R_serinetteref02_Parse_l7 f0 f1 f2 p10 p7 p4), (4, R_serinetteref02_Parse_l4 f0 f1 f2 p10 p7 p4)]) [(0, [0]), (0, []), (10, [0, 2, 4, 5, 6]), (100010, [0, 2, 3, 4, 5]), (7, [0, 2, 4, 5]), (100007, [0, 2, 3, 4]), (4, [0, 2, 4]), (100004, [2, 3])] 64 (loopB (bodyOf Tryd.f5) 1) s k) (live := [0, 2, 4, 5]) (out := [0, 2, 3, 4]) (S := S_serinetteref02_Parse_l7) (pev_ok mixed stab HK (ltab [(10, R_serinetteref02_Parse_l10 f0 f1 f2 p10 p7 p4), (7, R_serinetteref02_Parse_l7 f0 f1 f2 p10 p7 p4), (4, R_serinetteref02_Parse_l4 f0 f1 f2 p10 p7 p4)]) [(0, [0]), (0, []), (10, [0, 2, 4, 5, 6]), (100010, [0, 2, 3, 4, 5]), (7, [0, 2, 4, 5]), (100007, [0, 2, 3, 4]), (4, [0, 2, 4]), (100004, [2, 3])] 64 _ hL) (pev_nat HK (ltab [(10, R_serinetteref02_Parse_l10 f0 f1 f2 p10 p7 p4), (7, R_serinetteref02_Parse_l7 f0 f1 f2 p10 p7 p4), (4, R_serinetteref02_Parse_l4 f0 f1 f2 p10 p7 p4)]) [(0, [0]), (0, []), (10, [0, 2, 4, 5, 6]), (100010, [0, 2, 3, 4, 5]), (7, [0, 2, 4, 5]), (100007, [0, 2, 3, 4]), (4, [0, 2, 4]), (100004, [2, 3])] 64 _ hL)
    (fun x κn κ => match x with
      | .h0 _ _ _ _ _ _ _ _ => q_serinetteref02_Parse_l7_h0 f0 f1 f2 p10 p7 p4 _ _ _ _ _ _ _ _ κn κ
    ) d_serinetteref02_Parse_l7 p7

theorem q_serinetteref02_Parse_l4_h0 (f0 : ByteArray → Int → Int → ByteArray → ByteArray → KT → Option DV) (f1 : ByteArray → Int → Int → ByteArray → ByteArray → KB → Option DV) (f2 : Int → Int → Int → (ByteArray → Int → Int → ByteArray → ByteArray → Option DV) → Option DV) (p10 : X_serinetteref02_Parse_l10 → Nat) (p7 : X_serinetteref02_Parse_l7 → Nat) (p4 : X_serinetteref02_Parse_l4 → Nat) (x0 : ByteArray) (x1 : Int) (x2 : ByteArray) (x3 : Int) (x4 : Int) (x5 : ByteArray) (x6 : ByteArray) (κn : St → Option DV) (κ : KC) : pev Tryd.prog (tab [(7, (KK_serinetteref02_Text f0)), (8, (KK_serinetteref02_Valid f1)), (15, (KK_serinetteref02_choice f2))]) (ltab [(10, R_serinetteref02_Parse_l10 f0 f1 f2 p10 p7 p4), (7, R_serinetteref02_Parse_l7 f0 f1 f2 p10 p7 p4), (4, R_serinetteref02_Parse_l4 f0 f1 f2 p10 p7 p4)]) [(0, [0]), (0, []), (10, [0, 2, 4, 5, 6]), (100010, [0, 2, 3, 4, 5]), (7, [0, 2, 4, 5]), (100007, [0, 2, 3, 4]), (4, [0, 2, 4]), (100004, [2, 3])] 64 (loopB (bodyOf Tryd.f5) 0) (S_serinetteref02_Parse_l4 (.h0 x0 x1 x2 x3 x4 x5 x6)) (contL [0, 2, 4] [2, 3] κn κ) = F_serinetteref02_Parse_l4 f0 f1 f2 p10 p7 p4 (.h0 x0 x1 x2 x3 x4 x5 x6) (fun x => κn (S_serinetteref02_Parse_l4 x)) (oc_serinetteref02_Parse_l4 κ) := by kernel_rfl

theorem g_serinetteref02_Parse_l4 (f0 : ByteArray → Int → Int → ByteArray → ByteArray → KT → Option DV) (f1 : ByteArray → Int → Int → ByteArray → ByteArray → KB → Option DV) (f2 : Int → Int → Int → (ByteArray → Int → Int → ByteArray → ByteArray → Option DV) → Option DV) (p10 : X_serinetteref02_Parse_l10 → Nat) (p7 : X_serinetteref02_Parse_l7 → Nat) (p4 : X_serinetteref02_Parse_l4 → Nat) (HK : ∀ g, Meets Tryd.prog Inv g (tab [(7, (KK_serinetteref02_Text f0)), (8, (KK_serinetteref02_Valid f1)), (15, (KK_serinetteref02_choice f2))] g)) : RGood Tryd.prog Inv (loopB (bodyOf Tryd.f5) 0) (R_serinetteref02_Parse_l4 f0 f1 f2 p10 p7 p4) :=
  have hL : LGood Tryd.prog Inv (ltab [(10, R_serinetteref02_Parse_l10 f0 f1 f2 p10 p7 p4), (7, R_serinetteref02_Parse_l7 f0 f1 f2 p10 p7 p4), (4, R_serinetteref02_Parse_l4 f0 f1 f2 p10 p7 p4)]) (loopB (bodyOf Tryd.f5) 0) := (lgood_of (bs := [loopB (bodyOf Tryd.f5) 1, loopB (bodyOf Tryd.f5) 2]) (by kernel_rfl) (lgood_cons (by kernel_rfl) (g_serinetteref02_Parse_l7 f0 f1 f2 p10 p7 p4 HK) (lgood_cons (by kernel_rfl) (g_serinetteref02_Parse_l10 f0 f1 f2 p10 p7 p4 HK) lgood_nil)))
  rgood_dec (body := fun s k => pev Tryd.prog (tab [(7, (KK_serinetteref02_Text f0)), (8, (KK_serinetteref02_Valid f1)), (15, (KK_serinetteref02_choice f2))]) (ltab [(10, R_serinetteref02_Parse_l10 f0 f1 f2 p10 p7 p4), (7, R_serinetteref02_Parse_l7 f0 f1 f2 p10 p7 p4), (4, R_serinetteref02_Parse_l4 f0 f1 f2 p10 p7 p4)]) [(0, [0]), (0, []), (10, [0, 2, 4, 5, 6]), (100010, [0, 2, 3, 4, 5]), (7, [0, 2, 4, 5]), (100007, [0, 2, 3, 4]), (4, [0, 2, 4]), (100004, [2, 3])] 64 (loopB (bodyOf Tryd.f5) 0) s k) (live := [0, 2, 4]) (out := [2, 3]) (S := S_serinetteref02_Parse_l4) (pev_ok mixed stab HK (ltab [(10, R_serinetteref02_Parse_l10 f0 f1 f2 p10 p7 p4), (7, R_serinetteref02_Parse_l7 f0 f1 f2 p10 p7 p4), (4, R_serinetteref02_Parse_l4 f0 f1 f2 p10 p7 p4)]) [(0, [0]), (0, []), (10, [0, 2, 4, 5, 6]), (100010, [0, 2, 3, 4, 5]), (7, [0, 2, 4, 5]), (100007, [0, 2, 3, 4]), (4, [0, 2, 4]), (100004, [2, 3])] 64 _ hL) (pev_nat HK (ltab [(10, R_serinetteref02_Parse_l10 f0 f1 f2 p10 p7 p4), (7, R_serinetteref02_Parse_l7 f0 f1 f2 p10 p7 p4), (4, R_serinetteref02_Parse_l4 f0 f1 f2 p10 p7 p4)]) [(0, [0]), (0, []), (10, [0, 2, 4, 5, 6]), (100010, [0, 2, 3, 4, 5]), (7, [0, 2, 4, 5]), (100007, [0, 2, 3, 4]), (4, [0, 2, 4]), (100004, [2, 3])] 64 _ hL)
    (fun x κn κ => match x with
      | .h0 _ _ _ _ _ _ _ => q_serinetteref02_Parse_l4_h0 f0 f1 f2 p10 p7 p4 _ _ _ _ _ _ _ κn κ
    ) d_serinetteref02_Parse_l4 p4

theorem r_serinetteref02_Parse (f0 : ByteArray → Int → Int → ByteArray → ByteArray → KT → Option DV) (f1 : ByteArray → Int → Int → ByteArray → ByteArray → KB → Option DV) (f2 : Int → Int → Int → (ByteArray → Int → Int → ByteArray → ByteArray → Option DV) → Option DV) (p10 : X_serinetteref02_Parse_l10 → Nat) (p7 : X_serinetteref02_Parse_l7 → Nat) (p4 : X_serinetteref02_Parse_l4 → Nat) (a0 : ByteArray) (k : DV → Option DV) : B_serinetteref02_Parse f0 f1 f2 p10 p7 p4 a0 (fun r0_0 r0_1 r0_2 r0_3 r0_4 r1_0 => k (.val (.tuple ⟨[.agg ⟨[.string r0_0, .int .i64 r0_1, .int .i64 r0_2, .string r0_3, .string r0_4]⟩, .int .i64 r1_0]⟩))) = pevL Tryd.prog (tab [(7, (KK_serinetteref02_Text f0)), (8, (KK_serinetteref02_Valid f1)), (15, (KK_serinetteref02_choice f2))]) (ltab [(10, R_serinetteref02_Parse_l10 f0 f1 f2 p10 p7 p4), (7, R_serinetteref02_Parse_l7 f0 f1 f2 p10 p7 p4), (4, R_serinetteref02_Parse_l4 f0 f1 f2 p10 p7 p4)]) [(0, [0]), (0, []), (10, [0, 2, 4, 5, 6]), (100010, [0, 2, 3, 4, 5]), (7, [0, 2, 4, 5]), (100007, [0, 2, 3, 4]), (4, [0, 2, 4]), (100004, [2, 3])] 64 Tryd.f5 (bodyOf Tryd.f5) [.val (.string a0)] k := by kernel_rfl

theorem m_serinetteref02_Parse : Meets Tryd.prog Inv 5 (KK_serinetteref02_Parse serinetteref02_Parse) :=
  meets_of_pevL mixed stab (tab_cons m_serinetteref02_Text (tab_cons m_serinetteref02_Valid (tab_cons m_serinetteref02_choice (tab_nil _ _)))) Tryd.func5 (by kernel_rfl) (by kernel_rfl) (by
    intro ds; unfold KK_serinetteref02_Parse; split
    · exact .inr ⟨(ltab [(10, R_serinetteref02_Parse_l10 serinetteref02_Text serinetteref02_Valid serinetteref02_choice φ_serinetteref02_Parse_l10 φ_serinetteref02_Parse_l7 φ_serinetteref02_Parse_l4), (7, R_serinetteref02_Parse_l7 serinetteref02_Text serinetteref02_Valid serinetteref02_choice φ_serinetteref02_Parse_l10 φ_serinetteref02_Parse_l7 φ_serinetteref02_Parse_l4), (4, R_serinetteref02_Parse_l4 serinetteref02_Text serinetteref02_Valid serinetteref02_choice φ_serinetteref02_Parse_l10 φ_serinetteref02_Parse_l7 φ_serinetteref02_Parse_l4)]), [(0, [0]), (0, []), (10, [0, 2, 4, 5, 6]), (100010, [0, 2, 3, 4, 5]), (7, [0, 2, 4, 5]), (100007, [0, 2, 3, 4]), (4, [0, 2, 4]), (100004, [2, 3])], 64, lgood_of (bs := [loopB (bodyOf Tryd.f5) 0, loopB (bodyOf Tryd.f5) 1, loopB (bodyOf Tryd.f5) 2]) (by kernel_rfl) (lgood_cons (by kernel_rfl) (g_serinetteref02_Parse_l4 serinetteref02_Text serinetteref02_Valid serinetteref02_choice φ_serinetteref02_Parse_l10 φ_serinetteref02_Parse_l7 φ_serinetteref02_Parse_l4 (tab_cons m_serinetteref02_Text (tab_cons m_serinetteref02_Valid (tab_cons m_serinetteref02_choice (tab_nil _ _))))) (lgood_cons (by kernel_rfl) (g_serinetteref02_Parse_l7 serinetteref02_Text serinetteref02_Valid serinetteref02_choice φ_serinetteref02_Parse_l10 φ_serinetteref02_Parse_l7 φ_serinetteref02_Parse_l4 (tab_cons m_serinetteref02_Text (tab_cons m_serinetteref02_Valid (tab_cons m_serinetteref02_choice (tab_nil _ _))))) (lgood_cons (by kernel_rfl) (g_serinetteref02_Parse_l10 serinetteref02_Text serinetteref02_Valid serinetteref02_choice φ_serinetteref02_Parse_l10 φ_serinetteref02_Parse_l7 φ_serinetteref02_Parse_l4 (tab_cons m_serinetteref02_Text (tab_cons m_serinetteref02_Valid (tab_cons m_serinetteref02_choice (tab_nil _ _))))) lgood_nil))), fun k => r_serinetteref02_Parse serinetteref02_Text serinetteref02_Valid serinetteref02_choice φ_serinetteref02_Parse_l10 φ_serinetteref02_Parse_l7 φ_serinetteref02_Parse_l4 _ k⟩
    · exact .inl (fun _ => rfl))

noncomputable def B_serinettelaw02_FormatParses (f0 : KB → Option DV) (f1 : ByteArray → Int → Int → ByteArray → ByteArray → KB → Option DV) (f2 : ByteArray → (ByteArray → Int → Int → ByteArray → ByteArray → Int → Option DV) → Option DV) (f3 : ByteArray → Int → Int → ByteArray → ByteArray → KT → Option DV) (f4 : ByteArray → Int → Int → ByteArray → ByteArray → KT → Option DV) (f5 : ByteArray → (ByteArray → Int → Int → ByteArray → ByteArray → Int → Option DV) → Option DV) (a0 a1_0 : ByteArray) (a1_1 a1_2 : Int) (a1_3 a1_4 : ByteArray) (k : KB) : Option DV :=
  f2 a0 (fun r1 r2 r3 r4 r5 r6 => f5 a0 (fun r7 r8 r9 r10 r11 r12 => f4 a1_0 a1_1 a1_2 a1_3 a1_4 (fun r13 => bif !(!(((ByteArray.toList r1 == ByteArray.toList r7) && ((r2 == r8) && ((r3 == r9) && ((ByteArray.toList r4 == ByteArray.toList r10) && ((ByteArray.toList r5 == ByteArray.toList r11) && true))))))) then (bif !(r6 != r12) then (f3 a1_0 a1_1 a1_2 a1_3 a1_4 (fun r14 => bif !(ByteArray.toList r13 == ByteArray.toList r14) then (k false) else (f2 r13 (fun r15 r16 r17 r18 r19 r20 => f1 a1_0 a1_1 a1_2 a1_3 a1_4 (fun r21 => bif !r21 then (bif (ByteArray.toList r13 == ByteArray.toList (⟨#[]⟩)) then (bif r20 == 3 then (f0  (fun r22 => k r22)) else (k false)) else (k false)) else (bif r20 == 0 then (bif ((ByteArray.toList r15 == ByteArray.toList a1_0) && ((r16 == a1_1) && ((r17 == a1_2) && ((ByteArray.toList r18 == ByteArray.toList a1_3) && ((ByteArray.toList r19 == ByteArray.toList a1_4) && true))))) then (f0  (fun r23 => k r23)) else (k false)) else (k false))))))) else (k false)) else (k false))))
noncomputable def serinettelaw02_FormatParses (a0 a1_0 : ByteArray) (a1_1 a1_2 : Int) (a1_3 a1_4 : ByteArray) (k : KB) : Option DV := B_serinettelaw02_FormatParses serinettelaw02_awake serinetteref02_Valid quant_Parse serinetteref02_Text quant_Text serinetteref02_Parse a0 a1_0 a1_1 a1_2 a1_3 a1_4 k

noncomputable def KK_serinettelaw02_FormatParses (f0 : ByteArray → ByteArray → Int → Int → ByteArray → ByteArray → KB → Option DV) (ds : List DV) (k : DV → Option DV) : Option DV :=
  match ds with
  | [.val (.string a0), .val (.agg ⟨[.string a1_0, .int .i64 a1_1, .int .i64 a1_2, .string a1_3, .string a1_4]⟩)] => f0 a0 a1_0 a1_1 a1_2 a1_3 a1_4 (fun r0_0 => k (.val (.bool r0_0)))
  | _ => none

theorem r_serinettelaw02_FormatParses (f0 : KB → Option DV) (f1 : ByteArray → Int → Int → ByteArray → ByteArray → KB → Option DV) (f2 : ByteArray → (ByteArray → Int → Int → ByteArray → ByteArray → Int → Option DV) → Option DV) (f3 : ByteArray → Int → Int → ByteArray → ByteArray → KT → Option DV) (f4 : ByteArray → Int → Int → ByteArray → ByteArray → KT → Option DV) (f5 : ByteArray → (ByteArray → Int → Int → ByteArray → ByteArray → Int → Option DV) → Option DV) (a0 a1_0 : ByteArray) (a1_1 a1_2 : Int) (a1_3 a1_4 : ByteArray) (k : DV → Option DV) : B_serinettelaw02_FormatParses f0 f1 f2 f3 f4 f5 a0 a1_0 a1_1 a1_2 a1_3 a1_4 (fun r0_0 => k (.val (.bool r0_0))) = pevF Tryd.prog (tab [(4, (KK_quant_Parse f2)), (5, (KK_serinetteref02_Parse f5)), (6, (KK_quant_Text f4)), (7, (KK_serinetteref02_Text f3)), (8, (KK_serinetteref02_Valid f1)), (9, (KK_serinettelaw02_awake f0))]) [] 64 Tryd.f3 (bodyOf Tryd.f3) [.val (.string a0), .val (.agg ⟨[.string a1_0, .int .i64 a1_1, .int .i64 a1_2, .string a1_3, .string a1_4]⟩)] k := by kernel_rfl

theorem m_serinettelaw02_FormatParses : Meets Tryd.prog Inv 3 (KK_serinettelaw02_FormatParses serinettelaw02_FormatParses) :=
  meets_of_pev mixed stab (tab_cons m_quant_Parse (tab_cons m_serinetteref02_Parse (tab_cons m_quant_Text (tab_cons m_serinetteref02_Text (tab_cons m_serinetteref02_Valid (tab_cons m_serinettelaw02_awake (tab_nil _ _))))))) Tryd.func3 (by kernel_rfl) (by kernel_rfl) (by
    intro ds; unfold KK_serinettelaw02_FormatParses; split
    · exact .inr ⟨[], 64, fun k => r_serinettelaw02_FormatParses serinettelaw02_awake serinetteref02_Valid quant_Parse serinetteref02_Text quant_Text serinetteref02_Parse _ _ _ _ _ _ k⟩
    · exact .inl (fun _ => rfl))

end Go.Proofs.YtpdklolfkigefaaDoor
