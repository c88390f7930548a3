/-
  Diagrams, read as plain functions.
-/
import Derived.Test.YtofmclaoihaenaaRi
set_option linter.all false
namespace Go.Proofs.Ytofmclaoihaenaa
open Go.Pv Go.RowKit
set_option maxRecDepth 100000
noncomputable def B_serinetteref05_Row (f0 : ByteArray → List (List DV) → (ByteArray → ByteArray → Int → Int → List (List DV) → ByteArray → Int → Int → ByteArray → ByteArray → List (List DV) → Option DV) → Option DV) (a0 : List (List DV)) (k : ByteArray → ByteArray → Int → Int → List (List DV) → ByteArray → Int → Int → ByteArray → ByteArray → List (List DV) → Option DV) : Option DV :=
  f0 (⟨#[112, 97, 114]⟩) a0 (fun r1 r2 r3 r4 r5 r6 r7 r8 r9 r10 r11 => k r1 r2 r3 r4 r5 r6 r7 r8 r9 r10 r11)

noncomputable def KK_serinetteref05_Row (f0 : List (List DV) → (ByteArray → ByteArray → Int → Int → List (List DV) → ByteArray → Int → Int → ByteArray → ByteArray → List (List DV) → Option DV) → Option DV) (ds : List DV) (k : DV → Option DV) : Option DV :=
  match ds with
  | [.lst 11 a0] => f0 a0 (fun r0_0 r0_1 r0_2 r0_3 r0_4 r0_5 r0_6 r0_7 r0_8 r0_9 r0_10 => k (.agg [.val (.string r0_0), .val (.string r0_1), .val (.int .i64 r0_2), .val (.int .i64 r0_3), .lst 2 r0_4, .val (.string r0_5), .val (.int .i64 r0_6), .val (.int .i64 r0_7), .val (.string r0_8), .val (.string r0_9), .lst 11 r0_10]))
  | _ => none

noncomputable def serinetteref05_Row (a0 : List (List DV)) (k : ByteArray → ByteArray → Int → Int → List (List DV) → ByteArray → Int → Int → ByteArray → ByteArray → List (List DV) → Option DV) : Option DV := B_serinetteref05_Row serinetteref05_all a0 k

theorem r_serinetteref05_Row (f0 : ByteArray → List (List DV) → (ByteArray → ByteArray → Int → Int → List (List DV) → ByteArray → Int → Int → ByteArray → ByteArray → List (List DV) → Option DV) → Option DV) (a0 : List (List DV)) (k : DV → Option DV) : B_serinetteref05_Row f0 a0 (fun r0_0 r0_1 r0_2 r0_3 r0_4 r0_5 r0_6 r0_7 r0_8 r0_9 r0_10 => k (.agg [.val (.string r0_0), .val (.string r0_1), .val (.int .i64 r0_2), .val (.int .i64 r0_3), .lst 2 r0_4, .val (.string r0_5), .val (.int .i64 r0_6), .val (.int .i64 r0_7), .val (.string r0_8), .val (.string r0_9), .lst 11 r0_10])) = pevL Try.prog (tab [(33, (KK_serinetteref05_all f0))] []) noL [] 64 Try.f17 (bodyOf Try.f17) [.lst 11 a0] k := by kernel_rfl

theorem m_serinetteref05_Row : Meets Try.prog Inv 17 (KK_serinetteref05_Row serinetteref05_Row) :=
  meets_of_pevL mixed stab (kgood stab (tab_cons m_serinetteref05_all (tab_nil _ _)) (tabH_nil _ _)) Try.func17 (by kernel_rfl) (by kernel_rfl) (by
    intro ds; unfold KK_serinetteref05_Row; split
    · exact .inr ⟨noL, [], 64, LGood.none _ _ _, fun k => r_serinetteref05_Row serinetteref05_all _ k⟩
    · exact .inl (fun _ => rfl))

noncomputable def B_block_Chain (f0 : ByteArray → List (List DV) → (ByteArray → ByteArray → Int → Int → List (List DV) → ByteArray → Int → Int → ByteArray → ByteArray → List (List DV) → Option DV) → Option DV) (a0 : List (List DV)) (k : ByteArray → ByteArray → Int → Int → List (List DV) → ByteArray → Int → Int → ByteArray → ByteArray → List (List DV) → Option DV) : Option DV :=
  f0 (⟨#[115, 101, 113]⟩) a0 (fun r1 r2 r3 r4 r5 r6 r7 r8 r9 r10 r11 => k r1 r2 r3 r4 r5 r6 r7 r8 r9 r10 r11)

noncomputable def KK_block_Chain (f0 : List (List DV) → (ByteArray → ByteArray → Int → Int → List (List DV) → ByteArray → Int → Int → ByteArray → ByteArray → List (List DV) → Option DV) → Option DV) (ds : List DV) (k : DV → Option DV) : Option DV :=
  match ds with
  | [.lst 11 a0] => f0 a0 (fun r0_0 r0_1 r0_2 r0_3 r0_4 r0_5 r0_6 r0_7 r0_8 r0_9 r0_10 => k (.agg [.val (.string r0_0), .val (.string r0_1), .val (.int .i64 r0_2), .val (.int .i64 r0_3), .lst 2 r0_4, .val (.string r0_5), .val (.int .i64 r0_6), .val (.int .i64 r0_7), .val (.string r0_8), .val (.string r0_9), .lst 11 r0_10]))
  | _ => none

noncomputable def block_Chain (N : Nat) (a0 : List (List DV)) (k : ByteArray → ByteArray → Int → Int → List (List DV) → ByteArray → Int → Int → ByteArray → ByteArray → List (List DV) → Option DV) : Option DV := B_block_Chain (block_joined N) a0 k

theorem r_block_Chain (f0 : ByteArray → List (List DV) → (ByteArray → ByteArray → Int → Int → List (List DV) → ByteArray → Int → Int → ByteArray → ByteArray → List (List DV) → Option DV) → Option DV) (a0 : List (List DV)) (k : DV → Option DV) : B_block_Chain f0 a0 (fun r0_0 r0_1 r0_2 r0_3 r0_4 r0_5 r0_6 r0_7 r0_8 r0_9 r0_10 => k (.agg [.val (.string r0_0), .val (.string r0_1), .val (.int .i64 r0_2), .val (.int .i64 r0_3), .lst 2 r0_4, .val (.string r0_5), .val (.int .i64 r0_6), .val (.int .i64 r0_7), .val (.string r0_8), .val (.string r0_9), .lst 11 r0_10])) = pevL Try.prog (tab [(32, (KK_block_joined f0))] []) noL [] 64 Try.f18 (bodyOf Try.f18) [.lst 11 a0] k := by kernel_rfl

theorem m_block_Chain (N : Nat) : Meets Try.prog Inv 18 (KK_block_Chain (block_Chain N)) :=
  meets_of_pevL mixed stab (kgood stab (tab_cons (m_block_joined N) (tab_nil _ _)) (tabH_nil _ _)) Try.func18 (by kernel_rfl) (by kernel_rfl) (by
    intro ds; unfold KK_block_Chain; split
    · exact .inr ⟨noL, [], 64, LGood.none _ _ _, fun k => r_block_Chain (block_joined N) _ k⟩
    · exact .inl (fun _ => rfl))

noncomputable def B_serinetteref05_Chain (f0 : ByteArray → List (List DV) → (ByteArray → ByteArray → Int → Int → List (List DV) → ByteArray → Int → Int → ByteArray → ByteArray → List (List DV) → Option DV) → Option DV) (a0 : List (List DV)) (k : ByteArray → ByteArray → Int → Int → List (List DV) → ByteArray → Int → Int → ByteArray → ByteArray → List (List DV) → Option DV) : Option DV :=
  f0 (⟨#[115, 101, 113]⟩) a0 (fun r1 r2 r3 r4 r5 r6 r7 r8 r9 r10 r11 => k r1 r2 r3 r4 r5 r6 r7 r8 r9 r10 r11)

noncomputable def KK_serinetteref05_Chain (f0 : List (List DV) → (ByteArray → ByteArray → Int → Int → List (List DV) → ByteArray → Int → Int → ByteArray → ByteArray → List (List DV) → Option DV) → Option DV) (ds : List DV) (k : DV → Option DV) : Option DV :=
  match ds with
  | [.lst 11 a0] => f0 a0 (fun r0_0 r0_1 r0_2 r0_3 r0_4 r0_5 r0_6 r0_7 r0_8 r0_9 r0_10 => k (.agg [.val (.string r0_0), .val (.string r0_1), .val (.int .i64 r0_2), .val (.int .i64 r0_3), .lst 2 r0_4, .val (.string r0_5), .val (.int .i64 r0_6), .val (.int .i64 r0_7), .val (.string r0_8), .val (.string r0_9), .lst 11 r0_10]))
  | _ => none

noncomputable def serinetteref05_Chain (a0 : List (List DV)) (k : ByteArray → ByteArray → Int → Int → List (List DV) → ByteArray → Int → Int → ByteArray → ByteArray → List (List DV) → Option DV) : Option DV := B_serinetteref05_Chain serinetteref05_all a0 k

theorem r_serinetteref05_Chain (f0 : ByteArray → List (List DV) → (ByteArray → ByteArray → Int → Int → List (List DV) → ByteArray → Int → Int → ByteArray → ByteArray → List (List DV) → Option DV) → Option DV) (a0 : List (List DV)) (k : DV → Option DV) : B_serinetteref05_Chain f0 a0 (fun r0_0 r0_1 r0_2 r0_3 r0_4 r0_5 r0_6 r0_7 r0_8 r0_9 r0_10 => k (.agg [.val (.string r0_0), .val (.string r0_1), .val (.int .i64 r0_2), .val (.int .i64 r0_3), .lst 2 r0_4, .val (.string r0_5), .val (.int .i64 r0_6), .val (.int .i64 r0_7), .val (.string r0_8), .val (.string r0_9), .lst 11 r0_10])) = pevL Try.prog (tab [(33, (KK_serinetteref05_all f0))] []) noL [] 64 Try.f19 (bodyOf Try.f19) [.lst 11 a0] k := by kernel_rfl

theorem m_serinetteref05_Chain : Meets Try.prog Inv 19 (KK_serinetteref05_Chain serinetteref05_Chain) :=
  meets_of_pevL mixed stab (kgood stab (tab_cons m_serinetteref05_all (tab_nil _ _)) (tabH_nil _ _)) Try.func19 (by kernel_rfl) (by kernel_rfl) (by
    intro ds; unfold KK_serinetteref05_Chain; split
    · exact .inr ⟨noL, [], 64, LGood.none _ _ _, fun k => r_serinetteref05_Chain serinetteref05_all _ k⟩
    · exact .inl (fun _ => rfl))

noncomputable def B_block_Wires (f0 : List (List DV) → (ByteArray → ByteArray → Int → Int → List (List DV) → ByteArray → Int → Int → ByteArray → ByteArray → List (List DV) → Option DV) → Option DV) (f1 : List (List DV) → Int → (List (List DV) → Option DV) → Option DV) (f2 : ByteArray → (ByteArray → ByteArray → Int → Int → List (List DV) → ByteArray → Int → Int → ByteArray → ByteArray → List (List DV) → Option DV) → Option DV) (a0 : Int) (k : ByteArray → ByteArray → Int → Int → List (List DV) → ByteArray → Int → Int → ByteArray → ByteArray → List (List DV) → Option DV) : Option DV :=
  bx (!(decide (a0 < 1))) (bx (decide (a0 > 64)) (k (⟨#[]⟩) (⟨#[]⟩) 0 0 [] (⟨#[]⟩) 0 0 (⟨#[]⟩) (⟨#[]⟩) []) (f2 (⟨#[119, 105, 114, 101]⟩) (fun r1 r2 r3 r4 r5 r6 r7 r8 r9 r10 r11 => f1 ([[.val (.string r1), .val (.string r2), .val (.int .i64 r3), .val (.int .i64 r4), .lst 2 r5, .val (.string r6), .val (.int .i64 r7), .val (.int .i64 r8), .val (.string r9), .val (.string r10), .lst 11 r11]]) a0 (fun r12 => f0 r12 (fun r13 r14 r15 r16 r17 r18 r19 r20 r21 r22 r23 => k r13 r14 r15 r16 r17 r18 r19 r20 r21 r22 r23))))) (k (⟨#[]⟩) (⟨#[]⟩) 0 0 [] (⟨#[]⟩) 0 0 (⟨#[]⟩) (⟨#[]⟩) [])

noncomputable def KK_block_Wires (f0 : Int → (ByteArray → ByteArray → Int → Int → List (List DV) → ByteArray → Int → Int → ByteArray → ByteArray → List (List DV) → Option DV) → Option DV) (ds : List DV) (k : DV → Option DV) : Option DV :=
  match ds with
  | [.val (.int .i64 a0)] => f0 a0 (fun r0_0 r0_1 r0_2 r0_3 r0_4 r0_5 r0_6 r0_7 r0_8 r0_9 r0_10 => k (.agg [.val (.string r0_0), .val (.string r0_1), .val (.int .i64 r0_2), .val (.int .i64 r0_3), .lst 2 r0_4, .val (.string r0_5), .val (.int .i64 r0_6), .val (.int .i64 r0_7), .val (.string r0_8), .val (.string r0_9), .lst 11 r0_10]))
  | _ => none

noncomputable def block_Wires (N : Nat) (a0 : Int) (k : ByteArray → ByteArray → Int → Int → List (List DV) → ByteArray → Int → Int → ByteArray → ByteArray → List (List DV) → Option DV) : Option DV := B_block_Wires (block_Row N) slices_Repeat_serinette_api_Block block_Leaf a0 k

theorem r_block_Wires (f0 : List (List DV) → (ByteArray → ByteArray → Int → Int → List (List DV) → ByteArray → Int → Int → ByteArray → ByteArray → List (List DV) → Option DV) → Option DV) (f1 : List (List DV) → Int → (List (List DV) → Option DV) → Option DV) (f2 : ByteArray → (ByteArray → ByteArray → Int → Int → List (List DV) → ByteArray → Int → Int → ByteArray → ByteArray → List (List DV) → Option DV) → Option DV) (a0 : Int) (k : DV → Option DV) : B_block_Wires f0 f1 f2 a0 (fun r0_0 r0_1 r0_2 r0_3 r0_4 r0_5 r0_6 r0_7 r0_8 r0_9 r0_10 => k (.agg [.val (.string r0_0), .val (.string r0_1), .val (.int .i64 r0_2), .val (.int .i64 r0_3), .lst 2 r0_4, .val (.string r0_5), .val (.int .i64 r0_6), .val (.int .i64 r0_7), .val (.string r0_8), .val (.string r0_9), .lst 11 r0_10])) = pevL Try.prog (tab [(14, (KK_block_Leaf f2)), (16, (KK_block_Row f0)), (34, (KK_slices_Repeat_serinette_api_Block f1))] []) noL [] 64 Try.f20 (bodyOf Try.f20) [.val (.int .i64 a0)] k := by kernel_rfl

theorem m_block_Wires (N : Nat) : Meets Try.prog Inv 20 (KK_block_Wires (block_Wires N)) :=
  meets_of_pevL mixed stab (kgood stab (tab_cons m_block_Leaf (tab_cons (m_block_Row N) (tab_cons m_slices_Repeat_serinette_api_Block (tab_nil _ _)))) (tabH_nil _ _)) Try.func20 (by kernel_rfl) (by kernel_rfl) (by
    intro ds; unfold KK_block_Wires; split
    · exact .inr ⟨noL, [], 64, LGood.none _ _ _, fun k => r_block_Wires (block_Row N) slices_Repeat_serinette_api_Block block_Leaf _ k⟩
    · exact .inl (fun _ => rfl))

inductive X_serinetteref05_Wires_l5 where
  | h0 (x0 : Int) (x1 : Int) (x2 : ByteArray) (x3 : ByteArray) (x4 : Int) (x5 : Int) (x6 : ByteArray) (x7 : Int) (x8 : Int) (x9 : ByteArray) (x10 : ByteArray)
  | h1 (x0 : Int) (x1 : Nat) (x2 : Int) (x3 : ByteArray) (x4 : ByteArray) (x5 : Int) (x6 : Int) (x7 : ByteArray) (x8 : Int) (x9 : Int) (x10 : ByteArray) (x11 : ByteArray) (x12 : List DV)
def φ_serinetteref05_Wires_l5 : X_serinetteref05_Wires_l5 → Nat
  | .h0 x0 x1 x2 x3 x4 x5 x6 x7 x8 x9 x10 => Int.toNat (x0 - x1) + 1
  | .h1 x0 x1 x2 x3 x4 x5 x6 x7 x8 x9 x10 x11 x12 => Int.toNat (x0 - x2) + 1
noncomputable def S_serinetteref05_Wires_l5 : X_serinetteref05_Wires_l5 → St
  | .h0 x0 x1 x2 x3 x4 x5 x6 x7 x8 x9 x10 => ⟨mkT [(0, .dv (.val (.int .i64 x0))), (2, .ptr 0 0), (3, .dv (.val (.slice none 0 0))), (4, .dv (.val (.int .i64 x1)))] (.leaf .dead), 23, [some (.mix [.dv (.val (.string x2)), .dv (.val (.string x3)), .dv (.val (.int .i64 x4)), .dv (.val (.int .i64 x5)), .dv (.val (.slice none 0 0)), .dv (.val (.string x6)), .dv (.val (.int .i64 x7)), .dv (.val (.int .i64 x8)), .dv (.val (.string x9)), .dv (.val (.string x10)), .dv (.val (.slice none 0 0))])]⟩
  | .h1 x0 x1 x2 x3 x4 x5 x6 x7 x8 x9 x10 x11 x12 => ⟨mkT [(0, .dv (.val (.int .i64 x0))), (2, .ptr 0 0), (3, .osl 27 11 1 0 x1), (4, .dv (.val (.int .i64 x2)))] (.leaf .dead), 23, [some (.mix [.dv (.val (.string x3)), .dv (.val (.string x4)), .dv (.val (.int .i64 x5)), .dv (.val (.int .i64 x6)), .dv (.val (.slice none 0 0)), .dv (.val (.string x7)), .dv (.val (.int .i64 x8)), .dv (.val (.int .i64 x9)), .dv (.val (.string x10)), .dv (.val (.string x11)), .dv (.val (.slice none 0 0))]), some (.cells x12)]⟩

noncomputable def oc_serinetteref05_Wires_l5 (k : KC) : (ByteArray → ByteArray → Int → Int → ByteArray → Int → Int → ByteArray → ByteArray → Option DV) × (Nat → ByteArray → ByteArray → Int → Int → ByteArray → Int → Int → ByteArray → ByteArray → List DV → Option DV) := (fun y0 y1 y2 y3 y4 y5 y6 y7 y8 => k (.exit 0) ⟨mkT [(2, .ptr 0 0), (3, .dv (.val (.slice none 0 0)))] (.leaf .dead), 23, [some (.mix [.dv (.val (.string y0)), .dv (.val (.string y1)), .dv (.val (.int .i64 y2)), .dv (.val (.int .i64 y3)), .dv (.val (.slice none 0 0)), .dv (.val (.string y4)), .dv (.val (.int .i64 y5)), .dv (.val (.int .i64 y6)), .dv (.val (.string y7)), .dv (.val (.string y8)), .dv (.val (.slice none 0 0))])]⟩, fun y0 y1 y2 y3 y4 y5 y6 y7 y8 y9 y10 => k (.exit 0) ⟨mkT [(2, .ptr 0 0), (3, .osl 27 11 1 0 y0)] (.leaf .dead), 23, [some (.mix [.dv (.val (.string y1)), .dv (.val (.string y2)), .dv (.val (.int .i64 y3)), .dv (.val (.int .i64 y4)), .dv (.val (.slice none 0 0)), .dv (.val (.string y5)), .dv (.val (.int .i64 y6)), .dv (.val (.int .i64 y7)), .dv (.val (.string y8)), .dv (.val (.string y9)), .dv (.val (.slice none 0 0))]), some (.cells y10)]⟩)

noncomputable def B_serinetteref05_Wires_l5_h0 (f0 : ByteArray → (ByteArray → ByteArray → Int → Int → List (List DV) → ByteArray → Int → Int → ByteArray → ByteArray → List (List DV) → Option DV) → Option DV) (f1 : List (List DV) → (ByteArray → ByteArray → Int → Int → List (List DV) → ByteArray → Int → Int → ByteArray → ByteArray → List (List DV) → Option DV) → Option DV) (x0 : Int) (x1 : Int) (x2 : ByteArray) (x3 : ByteArray) (x4 : Int) (x5 : Int) (x6 : ByteArray) (x7 : Int) (x8 : Int) (x9 : ByteArray) (x10 : ByteArray) (κn : X_serinetteref05_Wires_l5 → Option DV) (κ0 : ByteArray → ByteArray → Int → Int → ByteArray → Int → Int → ByteArray → ByteArray → Option DV) (κ1 : Nat → ByteArray → ByteArray → Int → Int → ByteArray → Int → Int → ByteArray → ByteArray → List DV → Option DV) : Option DV :=
  bx (decide (x1 < x0)) (f0 (⟨#[119, 105, 114, 101]⟩) (fun r1 r2 r3 r4 r5 r6 r7 r8 r9 r10 r11 => κn (X_serinetteref05_Wires_l5.h1 x0 1 (IntKind.wrap .i64 (x1 + 1)) x2 x3 x4 x5 x6 x7 x8 x9 x10 ([.val (.string r1), .val (.string r2), .val (.int .i64 r3), .val (.int .i64 r4), .lst 2 r5, .val (.string r6), .val (.int .i64 r7), .val (.int .i64 r8), .val (.string r9), .val (.string r10), .lst 11 r11])))) (κ0 x2 x3 x4 x5 x6 x7 x8 x9 x10)

noncomputable def B_serinetteref05_Wires_l5_h1 (f0 : ByteArray → (ByteArray → ByteArray → Int → Int → List (List DV) → ByteArray → Int → Int → ByteArray → ByteArray → List (List DV) → Option DV) → Option DV) (f1 : List (List DV) → (ByteArray → ByteArray → Int → Int → List (List DV) → ByteArray → Int → Int → ByteArray → ByteArray → List (List DV) → Option DV) → Option DV) (x0 : Int) (x1 : Nat) (x2 : Int) (x3 : ByteArray) (x4 : ByteArray) (x5 : Int) (x6 : Int) (x7 : ByteArray) (x8 : Int) (x9 : Int) (x10 : ByteArray) (x11 : ByteArray) (x12 : List DV) (κn : X_serinetteref05_Wires_l5 → Option DV) (κ0 : ByteArray → ByteArray → Int → Int → ByteArray → Int → Int → ByteArray → ByteArray → Option DV) (κ1 : Nat → ByteArray → ByteArray → Int → Int → ByteArray → Int → Int → ByteArray → ByteArray → List DV → Option DV) : Option DV :=
  bx (decide (x2 < x0)) (f0 (⟨#[119, 105, 114, 101]⟩) (fun r12 r13 r14 r15 r16 r17 r18 r19 r20 r21 r22 => bx ((true && true && Nat.ble (x1 * 11) (List.length x12) && Nat.ble (x1 + 1) maxLen && Nat.ble ((x1 + 1) * 160) 140737488355328)) (κn (X_serinetteref05_Wires_l5.h1 x0 (x1 + 1) (IntKind.wrap .i64 (x2 + 1)) x3 x4 x5 x6 x7 x8 x9 x10 x11 (List.take (x1 * 11) x12 ++ [.val (.string r12), .val (.string r13), .val (.int .i64 r14), .val (.int .i64 r15), .lst 2 r16, .val (.string r17), .val (.int .i64 r18), .val (.int .i64 r19), .val (.string r20), .val (.string r21), .lst 11 r22]))) none)) (κ1 x1 x3 x4 x5 x6 x7 x8 x9 x10 x11 x12)

noncomputable def F_serinetteref05_Wires_l5 (f0 : ByteArray → (ByteArray → ByteArray → Int → Int → List (List DV) → ByteArray → Int → Int → ByteArray → ByteArray → List (List DV) → Option DV) → Option DV) (f1 : List (List DV) → (ByteArray → ByteArray → Int → Int → List (List DV) → ByteArray → Int → Int → ByteArray → ByteArray → List (List DV) → Option DV) → Option DV) : X_serinetteref05_Wires_l5 → (X_serinetteref05_Wires_l5 → Option DV) → ((ByteArray → ByteArray → Int → Int → ByteArray → Int → Int → ByteArray → ByteArray → Option DV) × (Nat → ByteArray → ByteArray → Int → Int → ByteArray → Int → Int → ByteArray → ByteArray → List DV → Option DV)) → Option DV
  | .h0 x0 x1 x2 x3 x4 x5 x6 x7 x8 x9 x10, κn, κ => B_serinetteref05_Wires_l5_h0 f0 f1 x0 x1 x2 x3 x4 x5 x6 x7 x8 x9 x10 κn κ.1 κ.2
  | .h1 x0 x1 x2 x3 x4 x5 x6 x7 x8 x9 x10 x11 x12, κn, κ => B_serinetteref05_Wires_l5_h1 f0 f1 x0 x1 x2 x3 x4 x5 x6 x7 x8 x9 x10 x11 x12 κn κ.1 κ.2

noncomputable def dec_serinetteref05_Wires_l5 (s : St) : Option X_serinetteref05_Wires_l5 :=
  orO (bindO (xN s.n 23) fun u => bindO (xD (s.tmps.get 0)) fun d1 => bindO (xI .i64 d1) fun x0 => bindO (xP 0 0 (s.tmps.get 2)) fun u3 => bindO (xD (s.tmps.get 3)) fun d4 => bindO (xNil d4) fun u5 => bindO (xD (s.tmps.get 4)) fun d6 => bindO (xI .i64 d6) fun x1 => bindO (xMix s.heap) fun p8 => bindO (xUn p8.1) fun q9 => bindO (xD q9.1) fun d10 => bindO (xS d10) fun x2 => bindO (xUn q9.2) fun q12 => bindO (xD q12.1) fun d13 => bindO (xS d13) fun x3 => bindO (xUn q12.2) fun q15 => bindO (xD q15.1) fun d16 => bindO (xI .i64 d16) fun x4 => bindO (xUn q15.2) fun q18 => bindO (xD q18.1) fun d19 => bindO (xI .i64 d19) fun x5 => bindO (xUn q18.2) fun q21 => bindO (xD q21.1) fun d22 => bindO (xNil d22) fun u23 => bindO (xUn q21.2) fun q24 => bindO (xD q24.1) fun d25 => bindO (xS d25) fun x6 => bindO (xUn q24.2) fun q27 => bindO (xD q27.1) fun d28 => bindO (xI .i64 d28) fun x7 => bindO (xUn q27.2) fun q30 => bindO (xD q30.1) fun d31 => bindO (xI .i64 d31) fun x8 => bindO (xUn q30.2) fun q33 => bindO (xD q33.1) fun d34 => bindO (xS d34) fun x9 => bindO (xUn q33.2) fun q36 => bindO (xD q36.1) fun d37 => bindO (xS d37) fun x10 => bindO (xUn q36.2) fun q39 => bindO (xD q39.1) fun d40 => bindO (xNil d40) fun u41 => bindO (xEnd q39.2) fun u42 => bindO (xEnd p8.2) fun u43 => some (.h0 x0 x1 x2 x3 x4 x5 x6 x7 x8 x9 x10)) (bindO (xN s.n 23) fun u => bindO (xD (s.tmps.get 0)) fun d1 => bindO (xI .i64 d1) fun x0 => bindO (xP 0 0 (s.tmps.get 2)) fun u3 => bindO (xO 27 11 1 0 (s.tmps.get 3)) fun x1 => bindO (xD (s.tmps.get 4)) fun d5 => bindO (xI .i64 d5) fun x2 => bindO (xMix s.heap) fun p7 => bindO (xUn p7.1) fun q8 => bindO (xD q8.1) fun d9 => bindO (xS d9) fun x3 => bindO (xUn q8.2) fun q11 => bindO (xD q11.1) fun d12 => bindO (xS d12) fun x4 => bindO (xUn q11.2) fun q14 => bindO (xD q14.1) fun d15 => bindO (xI .i64 d15) fun x5 => bindO (xUn q14.2) fun q17 => bindO (xD q17.1) fun d18 => bindO (xI .i64 d18) fun x6 => bindO (xUn q17.2) fun q20 => bindO (xD q20.1) fun d21 => bindO (xNil d21) fun u22 => bindO (xUn q20.2) fun q23 => bindO (xD q23.1) fun d24 => bindO (xS d24) fun x7 => bindO (xUn q23.2) fun q26 => bindO (xD q26.1) fun d27 => bindO (xI .i64 d27) fun x8 => bindO (xUn q26.2) fun q29 => bindO (xD q29.1) fun d30 => bindO (xI .i64 d30) fun x9 => bindO (xUn q29.2) fun q32 => bindO (xD q32.1) fun d33 => bindO (xS d33) fun x10 => bindO (xUn q32.2) fun q35 => bindO (xD q35.1) fun d36 => bindO (xS d36) fun x11 => bindO (xUn q35.2) fun q38 => bindO (xD q38.1) fun d39 => bindO (xNil d39) fun u40 => bindO (xEnd q38.2) fun u41 => bindO (xBlk p7.2) fun p42 => bindO (xEnd p42.2) fun u43 => some (.h1 x0 x1 x2 x3 x4 x5 x6 x7 x8 x9 x10 x11 p42.1))

noncomputable def R_serinetteref05_Wires_l5 (f0 : ByteArray → (ByteArray → ByteArray → Int → Int → List (List DV) → ByteArray → Int → Int → ByteArray → ByteArray → List (List DV) → Option DV) → Option DV) (f1 : List (List DV) → (ByteArray → ByteArray → Int → Int → List (List DV) → ByteArray → Int → Int → ByteArray → ByteArray → List (List DV) → Option DV) → Option DV) : St → KC → Option DV := decR dec_serinetteref05_Wires_l5 (F_serinetteref05_Wires_l5 f0 f1) φ_serinetteref05_Wires_l5 oc_serinetteref05_Wires_l5

theorem d_serinetteref05_Wires_l5 : ∀ s x, dec_serinetteref05_Wires_l5 s = some x → SLe s (S_serinetteref05_Wires_l5 x) := by
  intro s x h
  unfold dec_serinetteref05_Wires_l5 at h
  rcases orO_some h with h | h
  · obtain ⟨u, en, h⟩ := bindO_some h
    obtain ⟨d1, e1, h⟩ := bindO_some h
    obtain ⟨x0, e2, h⟩ := bindO_some h
    obtain ⟨u3, e3, h⟩ := bindO_some h
    obtain ⟨d4, e4, h⟩ := bindO_some h
    obtain ⟨u5, e5, h⟩ := bindO_some h
    obtain ⟨d6, e6, h⟩ := bindO_some h
    obtain ⟨x1, e7, h⟩ := bindO_some h
    obtain ⟨p8, e8, h⟩ := bindO_some h
    obtain ⟨q9, e9, h⟩ := bindO_some h
    obtain ⟨d10, e10, h⟩ := bindO_some h
    obtain ⟨x2, e11, h⟩ := bindO_some h
    obtain ⟨q12, e12, h⟩ := bindO_some h
    obtain ⟨d13, e13, h⟩ := bindO_some h
    obtain ⟨x3, e14, h⟩ := bindO_some h
    obtain ⟨q15, e15, h⟩ := bindO_some h
    obtain ⟨d16, e16, h⟩ := bindO_some h
    obtain ⟨x4, e17, h⟩ := bindO_some h
    obtain ⟨q18, e18, h⟩ := bindO_some h
    obtain ⟨d19, e19, h⟩ := bindO_some h
    obtain ⟨x5, e20, h⟩ := bindO_some h
    obtain ⟨q21, e21, h⟩ := bindO_some h
    obtain ⟨d22, e22, h⟩ := bindO_some h
    obtain ⟨u23, e23, h⟩ := bindO_some h
    obtain ⟨q24, e24, h⟩ := bindO_some h
    obtain ⟨d25, e25, h⟩ := bindO_some h
    obtain ⟨x6, e26, h⟩ := bindO_some h
    obtain ⟨q27, e27, h⟩ := bindO_some h
    obtain ⟨d28, e28, h⟩ := bindO_some h
    obtain ⟨x7, e29, h⟩ := bindO_some h
    obtain ⟨q30, e30, h⟩ := bindO_some h
    obtain ⟨d31, e31, h⟩ := bindO_some h
    obtain ⟨x8, e32, h⟩ := bindO_some h
    obtain ⟨q33, e33, h⟩ := bindO_some h
    obtain ⟨d34, e34, h⟩ := bindO_some h
    obtain ⟨x9, e35, h⟩ := bindO_some h
    obtain ⟨q36, e36, h⟩ := bindO_some h
    obtain ⟨d37, e37, h⟩ := bindO_some h
    obtain ⟨x10, e38, h⟩ := bindO_some h
    obtain ⟨q39, e39, h⟩ := bindO_some h
    obtain ⟨d40, e40, h⟩ := bindO_some h
    obtain ⟨u41, e41, h⟩ := bindO_some h
    obtain ⟨u42, e42, h⟩ := bindO_some h
    obtain ⟨u43, e43, h⟩ := bindO_some h
    cases h
    exact ⟨le_mkT _ _ (Le.dead _) ⟨.inr ((xD_eq e1).trans (congrArg VV.dv (xI_eq e2))), .inr (xP_eq e3), .inr ((xD_eq e4).trans (congrArg VV.dv (xNil_eq e5))), .inr ((xD_eq e6).trans (congrArg VV.dv (xI_eq e7))), trivial⟩, (xN_eq en).symm, by rw [xMix_eq e8, xUn_eq e9, xD_eq e10, xS_eq e11, xUn_eq e12, xD_eq e13, xS_eq e14, xUn_eq e15, xD_eq e16, xI_eq e17, xUn_eq e18, xD_eq e19, xI_eq e20, xUn_eq e21, xD_eq e22, xNil_eq e23, xUn_eq e24, xD_eq e25, xS_eq e26, xUn_eq e27, xD_eq e28, xI_eq e29, xUn_eq e30, xD_eq e31, xI_eq e32, xUn_eq e33, xD_eq e34, xS_eq e35, xUn_eq e36, xD_eq e37, xS_eq e38, xUn_eq e39, xD_eq e40, xNil_eq e41, xEnd_eq e42, xEnd_eq e43]; rfl⟩
  · obtain ⟨u, en, h⟩ := bindO_some h
    obtain ⟨d1, e1, h⟩ := bindO_some h
    obtain ⟨x0, e2, h⟩ := bindO_some h
    obtain ⟨u3, e3, h⟩ := bindO_some h
    obtain ⟨x1, e4, h⟩ := bindO_some h
    obtain ⟨d5, e5, h⟩ := bindO_some h
    obtain ⟨x2, e6, h⟩ := bindO_some h
    obtain ⟨p7, e7, h⟩ := bindO_some h
    obtain ⟨q8, e8, h⟩ := bindO_some h
    obtain ⟨d9, e9, h⟩ := bindO_some h
    obtain ⟨x3, e10, h⟩ := bindO_some h
    obtain ⟨q11, e11, h⟩ := bindO_some h
    obtain ⟨d12, e12, h⟩ := bindO_some h
    obtain ⟨x4, e13, h⟩ := bindO_some h
    obtain ⟨q14, e14, h⟩ := bindO_some h
    obtain ⟨d15, e15, h⟩ := bindO_some h
    obtain ⟨x5, e16, h⟩ := bindO_some h
    obtain ⟨q17, e17, h⟩ := bindO_some h
    obtain ⟨d18, e18, h⟩ := bindO_some h
    obtain ⟨x6, e19, h⟩ := bindO_some h
    obtain ⟨q20, e20, h⟩ := bindO_some h
    obtain ⟨d21, e21, h⟩ := bindO_some h
    obtain ⟨u22, e22, h⟩ := bindO_some h
    obtain ⟨q23, e23, h⟩ := bindO_some h
    obtain ⟨d24, e24, h⟩ := bindO_some h
    obtain ⟨x7, e25, h⟩ := bindO_some h
    obtain ⟨q26, e26, h⟩ := bindO_some h
    obtain ⟨d27, e27, h⟩ := bindO_some h
    obtain ⟨x8, e28, h⟩ := bindO_some h
    obtain ⟨q29, e29, h⟩ := bindO_some h
    obtain ⟨d30, e30, h⟩ := bindO_some h
    obtain ⟨x9, e31, h⟩ := bindO_some h
    obtain ⟨q32, e32, h⟩ := bindO_some h
    obtain ⟨d33, e33, h⟩ := bindO_some h
    obtain ⟨x10, e34, h⟩ := bindO_some h
    obtain ⟨q35, e35, h⟩ := bindO_some h
    obtain ⟨d36, e36, h⟩ := bindO_some h
    obtain ⟨x11, e37, h⟩ := bindO_some h
    obtain ⟨q38, e38, h⟩ := bindO_some h
    obtain ⟨d39, e39, h⟩ := bindO_some h
    obtain ⟨u40, e40, h⟩ := bindO_some h
    obtain ⟨u41, e41, h⟩ := bindO_some h
    obtain ⟨p42, e42, h⟩ := bindO_some h
    obtain ⟨u43, e43, h⟩ := bindO_some h
    cases h
    exact ⟨le_mkT _ _ (Le.dead _) ⟨.inr ((xD_eq e1).trans (congrArg VV.dv (xI_eq e2))), .inr (xP_eq e3), .inr (xO_eq e4), .inr ((xD_eq e5).trans (congrArg VV.dv (xI_eq e6))), trivial⟩, (xN_eq en).symm, by rw [xMix_eq e7, xUn_eq e8, xD_eq e9, xS_eq e10, xUn_eq e11, xD_eq e12, xS_eq e13, xUn_eq e14, xD_eq e15, xI_eq e16, xUn_eq e17, xD_eq e18, xI_eq e19, xUn_eq e20, xD_eq e21, xNil_eq e22, xUn_eq e23, xD_eq e24, xS_eq e25, xUn_eq e26, xD_eq e27, xI_eq e28, xUn_eq e29, xD_eq e30, xI_eq e31, xUn_eq e32, xD_eq e33, xS_eq e34, xUn_eq e35, xD_eq e36, xS_eq e37, xUn_eq e38, xD_eq e39, xNil_eq e40, xEnd_eq e41, xBlk_eq e42, xEnd_eq e43]; rfl⟩
noncomputable def B_serinetteref05_Wires (f0 : ByteArray → (ByteArray → ByteArray → Int → Int → List (List DV) → ByteArray → Int → Int → ByteArray → ByteArray → List (List DV) → Option DV) → Option DV) (f1 : List (List DV) → (ByteArray → ByteArray → Int → Int → List (List DV) → ByteArray → Int → Int → ByteArray → ByteArray → List (List DV) → Option DV) → Option DV) (a0 : Int) (k : ByteArray → ByteArray → Int → Int → List (List DV) → ByteArray → Int → Int → ByteArray → ByteArray → List (List DV) → Option DV) : Option DV :=
  bx (!(decide (a0 < 1))) (bx (decide (a0 > 64)) (k (⟨#[]⟩) (⟨#[]⟩) 0 0 [] (⟨#[]⟩) 0 0 (⟨#[]⟩) (⟨#[]⟩) []) (LF (F_serinetteref05_Wires_l5 f0 f1) (φ_serinetteref05_Wires_l5 (X_serinetteref05_Wires_l5.h0 a0 0 (⟨#[]⟩) (⟨#[]⟩) 0 0 (⟨#[]⟩) 0 0 (⟨#[]⟩) (⟨#[]⟩))) (X_serinetteref05_Wires_l5.h0 a0 0 (⟨#[]⟩) (⟨#[]⟩) 0 0 (⟨#[]⟩) 0 0 (⟨#[]⟩) (⟨#[]⟩)) ((fun z23_0 z23_1 z23_2 z23_3 z23_4 z23_5 z23_6 z23_7 z23_8 => f1 [] (fun r24 r25 r26 r27 r28 r29 r30 r31 r32 r33 r34 => k r24 r25 r26 r27 r28 r29 r30 r31 r32 r33 r34)), (fun z35_0 z35_1 z35_2 z35_3 z35_4 z35_5 z35_6 z35_7 z35_8 z35_9 z35_10 => bx (Nat.ble (0 + z35_0 * 11) (List.length z35_10)) (f1 (chunks 11 z35_0 (List.drop 0 z35_10)) (fun r36 r37 r38 r39 r40 r41 r42 r43 r44 r45 r46 => k r36 r37 r38 r39 r40 r41 r42 r43 r44 r45 r46)) none)))) (k (⟨#[]⟩) (⟨#[]⟩) 0 0 [] (⟨#[]⟩) 0 0 (⟨#[]⟩) (⟨#[]⟩) [])

noncomputable def KK_serinetteref05_Wires (f0 : Int → (ByteArray → ByteArray → Int → Int → List (List DV) → ByteArray → Int → Int → ByteArray → ByteArray → List (List DV) → Option DV) → Option DV) (ds : List DV) (k : DV → Option DV) : Option DV :=
  match ds with
  | [.val (.int .i64 a0)] => f0 a0 (fun r0_0 r0_1 r0_2 r0_3 r0_4 r0_5 r0_6 r0_7 r0_8 r0_9 r0_10 => k (.agg [.val (.string r0_0), .val (.string r0_1), .val (.int .i64 r0_2), .val (.int .i64 r0_3), .lst 2 r0_4, .val (.string r0_5), .val (.int .i64 r0_6), .val (.int .i64 r0_7), .val (.string r0_8), .val (.string r0_9), .lst 11 r0_10]))
  | _ => none

noncomputable def serinetteref05_Wires (a0 : Int) (k : ByteArray → ByteArray → Int → Int → List (List DV) → ByteArray → Int → Int → ByteArray → ByteArray → List (List DV) → Option DV) : Option DV := B_serinetteref05_Wires serinetteref05_Leaf serinetteref05_Row a0 k

theorem q_serinetteref05_Wires_l5_h0 (f0 : ByteArray → (ByteArray → ByteArray → Int → Int → List (List DV) → ByteArray → Int → Int → ByteArray → ByteArray → List (List DV) → Option DV) → Option DV) (f1 : List (List DV) → (ByteArray → ByteArray → Int → Int → List (List DV) → ByteArray → Int → Int → ByteArray → ByteArray → List (List DV) → Option DV) → Option DV) (x0 : Int) (x1 : Int) (x2 : ByteArray) (x3 : ByteArray) (x4 : Int) (x5 : Int) (x6 : ByteArray) (x7 : Int) (x8 : Int) (x9 : ByteArray) (x10 : ByteArray) (κn : St → Option DV) (κ : KC) : pev Try.prog (tab [(15, (KK_serinetteref05_Leaf f0)), (17, (KK_serinetteref05_Row f1))] []) (ltab [(5, R_serinetteref05_Wires_l5 f0 f1)]) [(0, [0]), (0, []), (5, [0, 2, 3, 4]), (100005, [2, 3])] 64 (loopB (bodyOf Try.f21) 0) (S_serinetteref05_Wires_l5 (.h0 x0 x1 x2 x3 x4 x5 x6 x7 x8 x9 x10)) (contL 0 [0, 2, 3, 4] [2, 3] κn κ) = F_serinetteref05_Wires_l5 f0 f1 (.h0 x0 x1 x2 x3 x4 x5 x6 x7 x8 x9 x10) (fun x => κn (S_serinetteref05_Wires_l5 x)) (oc_serinetteref05_Wires_l5 κ) := by kernel_rfl

theorem q_serinetteref05_Wires_l5_h1 (f0 : ByteArray → (ByteArray → ByteArray → Int → Int → List (List DV) → ByteArray → Int → Int → ByteArray → ByteArray → List (List DV) → Option DV) → Option DV) (f1 : List (List DV) → (ByteArray → ByteArray → Int → Int → List (List DV) → ByteArray → Int → Int → ByteArray → ByteArray → List (List DV) → Option DV) → Option DV) (x0 : Int) (x1 : Nat) (x2 : Int) (x3 : ByteArray) (x4 : ByteArray) (x5 : Int) (x6 : Int) (x7 : ByteArray) (x8 : Int) (x9 : Int) (x10 : ByteArray) (x11 : ByteArray) (x12 : List DV) (κn : St → Option DV) (κ : KC) : pev Try.prog (tab [(15, (KK_serinetteref05_Leaf f0)), (17, (KK_serinetteref05_Row f1))] []) (ltab [(5, R_serinetteref05_Wires_l5 f0 f1)]) [(0, [0]), (0, []), (5, [0, 2, 3, 4]), (100005, [2, 3])] 64 (loopB (bodyOf Try.f21) 0) (S_serinetteref05_Wires_l5 (.h1 x0 x1 x2 x3 x4 x5 x6 x7 x8 x9 x10 x11 x12)) (contL 0 [0, 2, 3, 4] [2, 3] κn κ) = F_serinetteref05_Wires_l5 f0 f1 (.h1 x0 x1 x2 x3 x4 x5 x6 x7 x8 x9 x10 x11 x12) (fun x => κn (S_serinetteref05_Wires_l5 x)) (oc_serinetteref05_Wires_l5 κ) := by kernel_rfl

theorem g_serinetteref05_Wires_l5 (f0 : ByteArray → (ByteArray → ByteArray → Int → Int → List (List DV) → ByteArray → Int → Int → ByteArray → ByteArray → List (List DV) → Option DV) → Option DV) (f1 : List (List DV) → (ByteArray → ByteArray → Int → Int → List (List DV) → ByteArray → Int → Int → ByteArray → ByteArray → List (List DV) → Option DV) → Option DV) (HK : KGood Try.prog Inv (tab [(15, (KK_serinetteref05_Leaf f0)), (17, (KK_serinetteref05_Row f1))] [])) : RGood 0 Try.prog Inv (loopB (bodyOf Try.f21) 0) (R_serinetteref05_Wires_l5 f0 f1) :=
  have hL : LGood 0 Try.prog Inv (ltab [(5, R_serinetteref05_Wires_l5 f0 f1)]) (loopB (bodyOf Try.f21) 0) := (lgood_of (bs := []) (by kernel_rfl) lgood_nil)
  rgood_dec (body := fun s k => pev Try.prog (tab [(15, (KK_serinetteref05_Leaf f0)), (17, (KK_serinetteref05_Row f1))] []) (ltab [(5, R_serinetteref05_Wires_l5 f0 f1)]) [(0, [0]), (0, []), (5, [0, 2, 3, 4]), (100005, [2, 3])] 64 (loopB (bodyOf Try.f21) 0) s k) (live := [0, 2, 3, 4]) (out := [2, 3]) (S := S_serinetteref05_Wires_l5) (pev_ok mixed HK (ltab [(5, R_serinetteref05_Wires_l5 f0 f1)]) [(0, [0]), (0, []), (5, [0, 2, 3, 4]), (100005, [2, 3])] 64 _ hL) (pev_nat HK (ltab [(5, R_serinetteref05_Wires_l5 f0 f1)]) [(0, [0]), (0, []), (5, [0, 2, 3, 4]), (100005, [2, 3])] 64 _ hL)
    (fun x κn κ => match x with
      | .h0 _ _ _ _ _ _ _ _ _ _ _ => q_serinetteref05_Wires_l5_h0 f0 f1 _ _ _ _ _ _ _ _ _ _ _ κn κ
      | .h1 _ _ _ _ _ _ _ _ _ _ _ _ _ => q_serinetteref05_Wires_l5_h1 f0 f1 _ _ _ _ _ _ _ _ _ _ _ _ _ κn κ
    ) d_serinetteref05_Wires_l5 φ_serinetteref05_Wires_l5

theorem r_serinetteref05_Wires (f0 : ByteArray → (ByteArray → ByteArray → Int → Int → List (List DV) → ByteArray → Int → Int → ByteArray → ByteArray → List (List DV) → Option DV) → Option DV) (f1 : List (List DV) → (ByteArray → ByteArray → Int → Int → List (List DV) → ByteArray → Int → Int → ByteArray → ByteArray → List (List DV) → Option DV) → Option DV) (a0 : Int) (k : DV → Option DV) : B_serinetteref05_Wires f0 f1 a0 (fun r0_0 r0_1 r0_2 r0_3 r0_4 r0_5 r0_6 r0_7 r0_8 r0_9 r0_10 => k (.agg [.val (.string r0_0), .val (.string r0_1), .val (.int .i64 r0_2), .val (.int .i64 r0_3), .lst 2 r0_4, .val (.string r0_5), .val (.int .i64 r0_6), .val (.int .i64 r0_7), .val (.string r0_8), .val (.string r0_9), .lst 11 r0_10])) = pevL Try.prog (tab [(15, (KK_serinetteref05_Leaf f0)), (17, (KK_serinetteref05_Row f1))] []) (ltab [(5, R_serinetteref05_Wires_l5 f0 f1)]) [(0, [0]), (0, []), (5, [0, 2, 3, 4]), (100005, [2, 3])] 64 Try.f21 (bodyOf Try.f21) [.val (.int .i64 a0)] k := by kernel_rfl

theorem m_serinetteref05_Wires : Meets Try.prog Inv 21 (KK_serinetteref05_Wires serinetteref05_Wires) :=
  meets_of_pevL mixed stab (kgood stab (tab_cons m_serinetteref05_Leaf (tab_cons m_serinetteref05_Row (tab_nil _ _))) (tabH_nil _ _)) Try.func21 (by kernel_rfl) (by kernel_rfl) (by
    intro ds; unfold KK_serinetteref05_Wires; split
    · exact .inr ⟨(ltab [(5, R_serinetteref05_Wires_l5 serinetteref05_Leaf serinetteref05_Row)]), [(0, [0]), (0, []), (5, [0, 2, 3, 4]), (100005, [2, 3])], 64, lgood_of (bs := [loopB (bodyOf Try.f21) 0]) (by kernel_rfl) (lgood_cons (by kernel_rfl) (g_serinetteref05_Wires_l5 serinetteref05_Leaf serinetteref05_Row (kgood stab (tab_cons m_serinetteref05_Leaf (tab_cons m_serinetteref05_Row (tab_nil _ _))) (tabH_nil _ _))) lgood_nil), fun k => r_serinetteref05_Wires serinetteref05_Leaf serinetteref05_Row _ k⟩
    · exact .inl (fun _ => rfl))

noncomputable def B_block_isSameNumber (f0 : Int → Int → Int → Int → KI → Option DV) (a0_0 a0_1 a1_0 a1_1 : Int) (k : KB) : Option DV :=
  f0 a0_0 a0_1 a1_0 a1_1 (fun r1 => k (r1 == 0))

noncomputable def KK_block_isSameNumber (f0 : Int → Int → Int → Int → KB → Option DV) (ds : List DV) (k : DV → Option DV) : Option DV :=
  match ds with
  | [.val (.agg ⟨[.int .i64 a0_0, .int .i64 a0_1]⟩), .val (.agg ⟨[.int .i64 a1_0, .int .i64 a1_1]⟩)] => f0 a0_0 a0_1 a1_0 a1_1 (fun r0_0 => k (.val (.bool r0_0)))
  | _ => none

noncomputable def block_isSameNumber (a0_0 a0_1 a1_0 a1_1 : Int) (k : KB) : Option DV := B_block_isSameNumber ratio_Cmp a0_0 a0_1 a1_0 a1_1 k

theorem r_block_isSameNumber (f0 : Int → Int → Int → Int → KI → Option DV) (a0_0 a0_1 a1_0 a1_1 : Int) (k : DV → Option DV) : B_block_isSameNumber f0 a0_0 a0_1 a1_0 a1_1 (fun r0_0 => k (.val (.bool r0_0))) = pevL Try.prog (tab [(46, (KK_ratio_Cmp f0))] []) noL [] 64 Try.f36 (bodyOf Try.f36) [.val (.agg ⟨[.int .i64 a0_0, .int .i64 a0_1]⟩), .val (.agg ⟨[.int .i64 a1_0, .int .i64 a1_1]⟩)] k := by kernel_rfl

theorem m_block_isSameNumber : Meets Try.prog Inv 36 (KK_block_isSameNumber block_isSameNumber) :=
  meets_of_pevL mixed stab (kgood stab (tab_cons m_ratio_Cmp (tab_nil _ _)) (tabH_nil _ _)) Try.func36 (by kernel_rfl) (by kernel_rfl) (by
    intro ds; unfold KK_block_isSameNumber; split
    · exact .inr ⟨noL, [], 64, LGood.none _ _ _, fun k => r_block_isSameNumber ratio_Cmp _ _ _ _ k⟩
    · exact .inl (fun _ => rfl))

inductive X_slices_EqualFunc_serinette_api_Q_block_isSameNumber_l4 where
  | h0 (x0 : List (List DV)) (x1 : List (List DV)) (x2 : Int) (x3 : Int)
def φ_slices_EqualFunc_serinette_api_Q_block_isSameNumber_l4 : X_slices_EqualFunc_serinette_api_Q_block_isSameNumber_l4 → Nat
  | .h0 x0 x1 x2 x3 => Int.toNat (x2 - x3) + 1
noncomputable def S_slices_EqualFunc_serinette_api_Q_block_isSameNumber_l4 : X_slices_EqualFunc_serinette_api_Q_block_isSameNumber_l4 → St
  | .h0 x0 x1 x2 x3 => ⟨mkT [(1, .dv (.lst 2 x0)), (2, .dv (.val (.func (.func 36) ⟨[]⟩ ⟨[]⟩))), (15, .dv (.lst 2 x1)), (16, .dv (.val (.int .i64 x2))), (17, .dv (.val (.int .i64 x3)))] (.leaf .dead), 32, []⟩

noncomputable def oc_slices_EqualFunc_serinette_api_Q_block_isSameNumber_l4 (k : KC) : KB × (Option DV) := (fun y0 => k .ret ⟨mkT [(6, .dv (.val (.bool y0)))] (.leaf .dead), 32, []⟩, k (.exit 0) ⟨mkT [(6, .dead)] (.leaf .dead), 32, []⟩)

noncomputable def B_slices_EqualFunc_serinette_api_Q_block_isSameNumber_l4_h0 (f0 : Int → Int → Int → Int → KB → Option DV) (x0 : List (List DV)) (x1 : List (List DV)) (x2 : Int) (x3 : Int) (κn : X_slices_EqualFunc_serinette_api_Q_block_isSameNumber_l4 → Option DV) (κ0 : KB) (κ1 : Option DV) : Option DV :=
  bx (decide (x3 < x2)) (bx (decide (0 ≤ x3)) (optE (x1[Int.toNat x3]?) (fun e1 => ld_ii e1 0 (fun v2 v3 => bx (decide (0 ≤ x3)) (optE (x0[Int.toNat x3]?) (fun e4 => ld_ii e4 0 (fun v5 v6 => f0 v2 v3 v5 v6 (fun r7 => bx (!r7) (κ0 false) (κn (X_slices_EqualFunc_serinette_api_Q_block_isSameNumber_l4.h0 x0 x1 x2 (IntKind.wrap .i64 (x3 + 1)))))))) none))) none) κ1

noncomputable def F_slices_EqualFunc_serinette_api_Q_block_isSameNumber_l4 (f0 : Int → Int → Int → Int → KB → Option DV) : X_slices_EqualFunc_serinette_api_Q_block_isSameNumber_l4 → (X_slices_EqualFunc_serinette_api_Q_block_isSameNumber_l4 → Option DV) → (KB × (Option DV)) → Option DV
  | .h0 x0 x1 x2 x3, κn, κ => B_slices_EqualFunc_serinette_api_Q_block_isSameNumber_l4_h0 f0 x0 x1 x2 x3 κn κ.1 κ.2

noncomputable def dec_slices_EqualFunc_serinette_api_Q_block_isSameNumber_l4 (s : St) : Option X_slices_EqualFunc_serinette_api_Q_block_isSameNumber_l4 :=
  bindO (xN s.n 32) fun u => bindO (xD (s.tmps.get 1)) fun d1 => bindO (xL 2 d1) fun x0 => bindO (xD (s.tmps.get 2)) fun d3 => bindO (xF 36 d3) fun u4 => bindO (xD (s.tmps.get 15)) fun d5 => bindO (xL 2 d5) fun x1 => bindO (xD (s.tmps.get 16)) fun d7 => bindO (xI .i64 d7) fun x2 => bindO (xD (s.tmps.get 17)) fun d9 => bindO (xI .i64 d9) fun x3 => bindO (xEnd s.heap) fun u11 => some (.h0 x0 x1 x2 x3)

noncomputable def R_slices_EqualFunc_serinette_api_Q_block_isSameNumber_l4 (f0 : Int → Int → Int → Int → KB → Option DV) : St → KC → Option DV := decR dec_slices_EqualFunc_serinette_api_Q_block_isSameNumber_l4 (F_slices_EqualFunc_serinette_api_Q_block_isSameNumber_l4 f0) φ_slices_EqualFunc_serinette_api_Q_block_isSameNumber_l4 oc_slices_EqualFunc_serinette_api_Q_block_isSameNumber_l4

theorem d_slices_EqualFunc_serinette_api_Q_block_isSameNumber_l4 : ∀ s x, dec_slices_EqualFunc_serinette_api_Q_block_isSameNumber_l4 s = some x → SLe s (S_slices_EqualFunc_serinette_api_Q_block_isSameNumber_l4 x) := by
  intro s x h
  unfold dec_slices_EqualFunc_serinette_api_Q_block_isSameNumber_l4 at h
  · obtain ⟨u, en, h⟩ := bindO_some h
    obtain ⟨d1, e1, h⟩ := bindO_some h
    obtain ⟨x0, e2, h⟩ := bindO_some h
    obtain ⟨d3, e3, h⟩ := bindO_some h
    obtain ⟨u4, e4, h⟩ := bindO_some h
    obtain ⟨d5, e5, h⟩ := bindO_some h
    obtain ⟨x1, e6, h⟩ := bindO_some h
    obtain ⟨d7, e7, h⟩ := bindO_some h
    obtain ⟨x2, e8, h⟩ := bindO_some h
    obtain ⟨d9, e9, h⟩ := bindO_some h
    obtain ⟨x3, e10, h⟩ := bindO_some h
    obtain ⟨u11, e11, h⟩ := bindO_some h
    cases h
    exact ⟨le_mkT _ _ (Le.dead _) ⟨.inr ((xD_eq e1).trans (congrArg VV.dv (xL_eq e2))), .inr ((xD_eq e3).trans (congrArg VV.dv (xF_eq e4))), .inr ((xD_eq e5).trans (congrArg VV.dv (xL_eq e6))), .inr ((xD_eq e7).trans (congrArg VV.dv (xI_eq e8))), .inr ((xD_eq e9).trans (congrArg VV.dv (xI_eq e10))), trivial⟩, (xN_eq en).symm, by rw [xEnd_eq e11]; rfl⟩
noncomputable def B_slices_EqualFunc_serinette_api_Q_block_isSameNumber (f0 : Int → Int → Int → Int → KB → Option DV) (a0 : List (List DV)) (a1 : List (List DV)) (k : KB) : Option DV :=
  bx (((List.length a0 : Nat) : Int) != ((List.length a1 : Nat) : Int)) (k false) (LF (F_slices_EqualFunc_serinette_api_Q_block_isSameNumber_l4 f0) (φ_slices_EqualFunc_serinette_api_Q_block_isSameNumber_l4 (X_slices_EqualFunc_serinette_api_Q_block_isSameNumber_l4.h0 a1 a0 ((List.length a0 : Nat) : Int) 0)) (X_slices_EqualFunc_serinette_api_Q_block_isSameNumber_l4.h0 a1 a0 ((List.length a0 : Nat) : Int) 0) ((fun z8_0 => k z8_0), (k true)))

noncomputable def KK_slices_EqualFunc_serinette_api_Q (f0 : List (List DV) → List (List DV) → KB → Option DV) (ds : List DV) (k : DV → Option DV) : Option DV :=
  match ds with
  | [.lst 2 a0, .lst 2 a1, .val (.func (.func 36) ⟨[]⟩ ⟨[]⟩)] => f0 a0 a1 (fun r0_0 => k (.val (.bool r0_0)))
  | _ => none

noncomputable def slices_EqualFunc_serinette_api_Q_block_isSameNumber (a0 : List (List DV)) (a1 : List (List DV)) (k : KB) : Option DV := B_slices_EqualFunc_serinette_api_Q_block_isSameNumber block_isSameNumber a0 a1 k

theorem q_slices_EqualFunc_serinette_api_Q_block_isSameNumber_l4_h0 (f0 : Int → Int → Int → Int → KB → Option DV) (x0 : List (List DV)) (x1 : List (List DV)) (x2 : Int) (x3 : Int) (κn : St → Option DV) (κ : KC) : pev Try.prog (tab [(36, (KK_block_isSameNumber f0))] []) (ltab [(4, R_slices_EqualFunc_serinette_api_Q_block_isSameNumber_l4 f0)]) [(0, [0]), (0, []), (4, [1, 2, 15, 16, 17]), (100004, [6])] 64 (loopB (bodyOf Try.f35) 0) (S_slices_EqualFunc_serinette_api_Q_block_isSameNumber_l4 (.h0 x0 x1 x2 x3)) (contL 0 [1, 2, 15, 16, 17] [6] κn κ) = F_slices_EqualFunc_serinette_api_Q_block_isSameNumber_l4 f0 (.h0 x0 x1 x2 x3) (fun x => κn (S_slices_EqualFunc_serinette_api_Q_block_isSameNumber_l4 x)) (oc_slices_EqualFunc_serinette_api_Q_block_isSameNumber_l4 κ) := by kernel_rfl

theorem g_slices_EqualFunc_serinette_api_Q_block_isSameNumber_l4 (f0 : Int → Int → Int → Int → KB → Option DV) (HK : KGood Try.prog Inv (tab [(36, (KK_block_isSameNumber f0))] [])) : RGood 0 Try.prog Inv (loopB (bodyOf Try.f35) 0) (R_slices_EqualFunc_serinette_api_Q_block_isSameNumber_l4 f0) :=
  have hL : LGood 0 Try.prog Inv (ltab [(4, R_slices_EqualFunc_serinette_api_Q_block_isSameNumber_l4 f0)]) (loopB (bodyOf Try.f35) 0) := (lgood_of (bs := []) (by kernel_rfl) lgood_nil)
  rgood_dec (body := fun s k => pev Try.prog (tab [(36, (KK_block_isSameNumber f0))] []) (ltab [(4, R_slices_EqualFunc_serinette_api_Q_block_isSameNumber_l4 f0)]) [(0, [0]), (0, []), (4, [1, 2, 15, 16, 17]), (100004, [6])] 64 (loopB (bodyOf Try.f35) 0) s k) (live := [1, 2, 15, 16, 17]) (out := [6]) (S := S_slices_EqualFunc_serinette_api_Q_block_isSameNumber_l4) (pev_ok mixed HK (ltab [(4, R_slices_EqualFunc_serinette_api_Q_block_isSameNumber_l4 f0)]) [(0, [0]), (0, []), (4, [1, 2, 15, 16, 17]), (100004, [6])] 64 _ hL) (pev_nat HK (ltab [(4, R_slices_EqualFunc_serinette_api_Q_block_isSameNumber_l4 f0)]) [(0, [0]), (0, []), (4, [1, 2, 15, 16, 17]), (100004, [6])] 64 _ hL)
    (fun x κn κ => match x with
      | .h0 _ _ _ _ => q_slices_EqualFunc_serinette_api_Q_block_isSameNumber_l4_h0 f0 _ _ _ _ κn κ
    ) d_slices_EqualFunc_serinette_api_Q_block_isSameNumber_l4 φ_slices_EqualFunc_serinette_api_Q_block_isSameNumber_l4

theorem r_slices_EqualFunc_serinette_api_Q_block_isSameNumber (f0 : Int → Int → Int → Int → KB → Option DV) (a0 : List (List DV)) (a1 : List (List DV)) (k : DV → Option DV) : B_slices_EqualFunc_serinette_api_Q_block_isSameNumber f0 a0 a1 (fun r0_0 => k (.val (.bool r0_0))) = pevL Try.prog (tab [(36, (KK_block_isSameNumber f0))] []) (ltab [(4, R_slices_EqualFunc_serinette_api_Q_block_isSameNumber_l4 f0)]) [(0, [0]), (0, []), (4, [1, 2, 15, 16, 17]), (100004, [6])] 64 Try.f35 (bodyOf Try.f35) [.lst 2 a0, .lst 2 a1, .val (.func (.func 36) ⟨[]⟩ ⟨[]⟩)] k := by kernel_rfl

theorem m_slices_EqualFunc_serinette_api_Q : Meets Try.prog Inv 35 (KK_slices_EqualFunc_serinette_api_Q slices_EqualFunc_serinette_api_Q_block_isSameNumber) :=
  meets_of_pevL mixed stab (kgood stab (tab_cons m_block_isSameNumber (tab_nil _ _)) (tabH_nil _ _)) Try.func35 (by kernel_rfl) (by kernel_rfl) (by
    intro ds; unfold KK_slices_EqualFunc_serinette_api_Q; split
    · exact .inr ⟨(ltab [(4, R_slices_EqualFunc_serinette_api_Q_block_isSameNumber_l4 block_isSameNumber)]), [(0, [0]), (0, []), (4, [1, 2, 15, 16, 17]), (100004, [6])], 64, lgood_of (bs := [loopB (bodyOf Try.f35) 0]) (by kernel_rfl) (lgood_cons (by kernel_rfl) (g_slices_EqualFunc_serinette_api_Q_block_isSameNumber_l4 block_isSameNumber (kgood stab (tab_cons m_block_isSameNumber (tab_nil _ _)) (tabH_nil _ _))) lgood_nil), fun k => r_slices_EqualFunc_serinette_api_Q_block_isSameNumber block_isSameNumber _ _ k⟩
    · exact .inl (fun _ => rfl))

end Go.Proofs.Ytofmclaoihaenaa
