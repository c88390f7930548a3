/-
  Diagrams, read as plain functions.
-/
import Derived.Test.YtdfhakhapblhgaaRf
set_option linter.all false
namespace Go.Proofs.Ytdfhakhapblhgaa
open Go.Pv Go.RowKit
set_option maxRecDepth 100000
noncomputable def B_block_isMultiple  (a0 a1 : Int) (k : KB) : Option DV :=
  bx (decide (a1 > 0)) (bx (decide (a0 > 0)) (bx (a1 == 0) none (k ((Int.tmod a0 a1) == 0))) (k false)) (k false)

noncomputable def KK_block_isMultiple (f0 : Int → Int → KB → Option DV) (ds : List DV) (k : DV → Option DV) : Option DV :=
  match ds with
  | [.val (.int .i64 a0), .val (.int .i64 a1)] => f0 a0 a1 (fun r0_0 => k (.val (.bool r0_0)))
  | _ => none

noncomputable def block_isMultiple (a0 a1 : Int) (k : KB) : Option DV := B_block_isMultiple  a0 a1 k

theorem r_block_isMultiple  (a0 a1 : Int) (k : DV → Option DV) : B_block_isMultiple  a0 a1 (fun r0_0 => k (.val (.bool r0_0))) = pevL Try.prog (tab [] []) noL [] 64 Try.f81 (bodyOf Try.f81) [.val (.int .i64 a0), .val (.int .i64 a1)] k := by kernel_rfl

theorem m_block_isMultiple : Meets Try.prog Inv 81 (KK_block_isMultiple block_isMultiple) :=
  meets_of_pevL mixed stab (kgood stab (tab_nil _ _) (tabH_nil _ _)) Try.func81 (by kernel_rfl) (by kernel_rfl) (by
    intro ds; unfold KK_block_isMultiple; split
    · exact .inr ⟨noL, [], 64, LGood.none _ _ _, fun k => r_block_isMultiple  _ _ k⟩
    · exact .inl (fun _ => rfl))

noncomputable def B_block_portsOfTwo (f0 : Int → Int → KB → Option DV) (a0 : ByteArray) (a1_0 a1_1 a2_0 a2_1 : Int) (k : Int → Int → Bool → Option DV) : Option DV :=
  bx ((ByteArray.toList a0 == ByteArray.toList (⟨#[112, 97, 114]⟩))) (k (IntKind.wrap .i64 (a1_0 + a2_0)) (IntKind.wrap .i64 (a1_1 + a2_1)) true) (bx ((ByteArray.toList a0 == ByteArray.toList (⟨#[115, 101, 113]⟩))) (k a1_0 a2_1 (a1_1 == a2_0)) (bx ((ByteArray.toList a0 == ByteArray.toList (⟨#[115, 112, 108, 105, 116]⟩))) (f0 a2_0 a1_1 (fun r1 => k a1_0 a2_1 r1)) (bx ((ByteArray.toList a0 == ByteArray.toList (⟨#[109, 101, 114, 103, 101]⟩))) (f0 a1_1 a2_0 (fun r2 => k a1_0 a2_1 r2)) (bx (decide (a2_0 ≤ a1_1)) (k (IntKind.wrap .i64 (a1_0 - a2_1)) a1_1 (decide (a2_1 ≤ a1_0))) (k (IntKind.wrap .i64 (a1_0 - a2_1)) a1_1 false)))))

noncomputable def KK_block_portsOfTwo (f0 : ByteArray → Int → Int → Int → Int → (Int → Int → Bool → Option DV) → Option DV) (ds : List DV) (k : DV → Option DV) : Option DV :=
  match ds with
  | [.val (.string a0), .val (.agg ⟨[.int .i64 a1_0, .int .i64 a1_1]⟩), .val (.agg ⟨[.int .i64 a2_0, .int .i64 a2_1]⟩)] => f0 a0 a1_0 a1_1 a2_0 a2_1 (fun r0_0 r0_1 r1_0 => k (.val (.tuple ⟨[.agg ⟨[.int .i64 r0_0, .int .i64 r0_1]⟩, .bool r1_0]⟩)))
  | _ => none

noncomputable def block_portsOfTwo (a0 : ByteArray) (a1_0 a1_1 a2_0 a2_1 : Int) (k : Int → Int → Bool → Option DV) : Option DV := B_block_portsOfTwo block_isMultiple a0 a1_0 a1_1 a2_0 a2_1 k

theorem r_block_portsOfTwo (f0 : Int → Int → KB → Option DV) (a0 : ByteArray) (a1_0 a1_1 a2_0 a2_1 : Int) (k : DV → Option DV) : B_block_portsOfTwo f0 a0 a1_0 a1_1 a2_0 a2_1 (fun r0_0 r0_1 r1_0 => k (.val (.tuple ⟨[.agg ⟨[.int .i64 r0_0, .int .i64 r0_1]⟩, .bool r1_0]⟩))) = pevL Try.prog (tab [(81, (KK_block_isMultiple f0))] []) noL [] 64 Try.f68 (bodyOf Try.f68) [.val (.string a0), .val (.agg ⟨[.int .i64 a1_0, .int .i64 a1_1]⟩), .val (.agg ⟨[.int .i64 a2_0, .int .i64 a2_1]⟩)] k := by kernel_rfl

theorem m_block_portsOfTwo : Meets Try.prog Inv 68 (KK_block_portsOfTwo block_portsOfTwo) :=
  meets_of_pevL mixed stab (kgood stab (tab_cons m_block_isMultiple (tab_nil _ _)) (tabH_nil _ _)) Try.func68 (by kernel_rfl) (by kernel_rfl) (by
    intro ds; unfold KK_block_portsOfTwo; split
    · exact .inr ⟨noL, [], 64, LGood.none _ _ _, fun k => r_block_portsOfTwo block_isMultiple _ _ _ _ _ k⟩
    · exact .inl (fun _ => rfl))

noncomputable def B_block_portsOfOne  (a0 : ByteArray) (a1_0 a1_1 : Int) (k : KQ) : Option DV :=
  bx (!(ByteArray.toList a0 == ByteArray.toList (⟨#[103, 97, 116, 101]⟩))) (bx ((ByteArray.toList a0 == ByteArray.toList (⟨#[114, 101, 115, 101, 116]⟩))) (k (IntKind.wrap .i64 (a1_0 + 1)) a1_1) (k a1_0 a1_1)) (k (IntKind.wrap .i64 (a1_0 + 1)) a1_1)

noncomputable def KK_block_portsOfOne (f0 : ByteArray → Int → Int → KQ → Option DV) (ds : List DV) (k : DV → Option DV) : Option DV :=
  match ds with
  | [.val (.string a0), .val (.agg ⟨[.int .i64 a1_0, .int .i64 a1_1]⟩)] => f0 a0 a1_0 a1_1 (fun r0_0 r0_1 => k (.val (.agg ⟨[.int .i64 r0_0, .int .i64 r0_1]⟩)))
  | _ => none

noncomputable def block_portsOfOne (a0 : ByteArray) (a1_0 a1_1 : Int) (k : KQ) : Option DV := B_block_portsOfOne  a0 a1_0 a1_1 k

theorem r_block_portsOfOne  (a0 : ByteArray) (a1_0 a1_1 : Int) (k : DV → Option DV) : B_block_portsOfOne  a0 a1_0 a1_1 (fun r0_0 r0_1 => k (.val (.agg ⟨[.int .i64 r0_0, .int .i64 r0_1]⟩))) = pevL Try.prog (tab [] []) noL [] 64 Try.f69 (bodyOf Try.f69) [.val (.string a0), .val (.agg ⟨[.int .i64 a1_0, .int .i64 a1_1]⟩)] k := by kernel_rfl

theorem m_block_portsOfOne : Meets Try.prog Inv 69 (KK_block_portsOfOne block_portsOfOne) :=
  meets_of_pevL mixed stab (kgood stab (tab_nil _ _) (tabH_nil _ _)) Try.func69 (by kernel_rfl) (by kernel_rfl) (by
    intro ds; unfold KK_block_portsOfOne; split
    · exact .inr ⟨noL, [], 64, LGood.none _ _ _, fun k => r_block_portsOfOne  _ _ _ k⟩
    · exact .inl (fun _ => rfl))

noncomputable def B_block_portsWith (f0 : ByteArray → Int → Int → Int → Int → (Int → Int → Bool → Option DV) → Option DV) (f1 : ByteArray → Int → Int → KQ → Option DV) (f2 : ByteArray → (Int → Int → Int → Int → Bool → Bool → Bool → Bool → Option DV) → Option DV) (a0 : ByteArray) (a1 : List (List DV)) (k : Int → Int → Bool → Option DV) : Option DV :=
  bx (((List.length a1 : Nat) : Int) == 2) (optE (a1[Int.toNat 0]?) (fun e1 => ld_ii e1 0 (fun v2 v3 => optE (a1[Int.toNat 1]?) (fun e4 => ld_ii e4 0 (fun v5 v6 => f0 a0 v2 v3 v5 v6 (fun r7 r8 r9 => k r7 r8 r9)))))) (bx (((List.length a1 : Nat) : Int) == 1) (optE (a1[Int.toNat 0]?) (fun e10 => ld_ii e10 0 (fun v11 v12 => f1 a0 v11 v12 (fun r13 r14 => k r13 r14 true)))) (f2 a0 (fun r15 r16 r17 r18 r19 r20 r21 r22 => k r15 r16 r22)))

noncomputable def KK_block_portsWith (f0 : ByteArray → List (List DV) → (Int → Int → Bool → Option DV) → Option DV) (ds : List DV) (k : DV → Option DV) : Option DV :=
  match ds with
  | [.val (.string a0), .lst 2 a1] => f0 a0 a1 (fun r0_0 r0_1 r1_0 => k (.val (.tuple ⟨[.agg ⟨[.int .i64 r0_0, .int .i64 r0_1]⟩, .bool r1_0]⟩)))
  | _ => none

noncomputable def block_portsWith (a0 : ByteArray) (a1 : List (List DV)) (k : Int → Int → Bool → Option DV) : Option DV := B_block_portsWith block_portsOfTwo block_portsOfOne block_shapeOf a0 a1 k

theorem r_block_portsWith (f0 : ByteArray → Int → Int → Int → Int → (Int → Int → Bool → Option DV) → Option DV) (f1 : ByteArray → Int → Int → KQ → Option DV) (f2 : ByteArray → (Int → Int → Int → Int → Bool → Bool → Bool → Bool → Option DV) → Option DV) (a0 : ByteArray) (a1 : List (List DV)) (k : DV → Option DV) : B_block_portsWith f0 f1 f2 a0 a1 (fun r0_0 r0_1 r1_0 => k (.val (.tuple ⟨[.agg ⟨[.int .i64 r0_0, .int .i64 r0_1]⟩, .bool r1_0]⟩))) = pevL Try.prog (tab [(61, (KK_block_shapeOf f2)), (68, (KK_block_portsOfTwo f0)), (69, (KK_block_portsOfOne f1))] []) noL [] 64 Try.f51 (bodyOf Try.f51) [.val (.string a0), .lst 2 a1] k := by kernel_rfl

theorem m_block_portsWith : Meets Try.prog Inv 51 (KK_block_portsWith block_portsWith) :=
  meets_of_pevL mixed stab (kgood stab (tab_cons m_block_shapeOf (tab_cons m_block_portsOfTwo (tab_cons m_block_portsOfOne (tab_nil _ _)))) (tabH_nil _ _)) Try.func51 (by kernel_rfl) (by kernel_rfl) (by
    intro ds; unfold KK_block_portsWith; split
    · exact .inr ⟨noL, [], 64, LGood.none _ _ _, fun k => r_block_portsWith block_portsOfTwo block_portsOfOne block_shapeOf _ _ k⟩
    · exact .inl (fun _ => rfl))

inductive X_block_portsOf_l3 where
  | h0 (x0 : List (List DV)) (x1 : Int) (x2 : Int) (x3 : ByteArray) (x4 : ByteArray) (x5 : Int) (x6 : Int) (x7 : List (List DV)) (x8 : ByteArray) (x9 : Int) (x10 : Int) (x11 : ByteArray) (x12 : ByteArray) (x13 : List (List DV)) (x14 : Int) (x15 : Int)
  | h1 (x0 : Nat) (x1 : List (List DV)) (x2 : Int) (x3 : Int) (x4 : ByteArray) (x5 : ByteArray) (x6 : Int) (x7 : Int) (x8 : List (List DV)) (x9 : ByteArray) (x10 : Int) (x11 : Int) (x12 : ByteArray) (x13 : ByteArray) (x14 : List (List DV)) (x15 : Int) (x16 : Int) (x17 : List DV)
def φ_block_portsOf_l3 : X_block_portsOf_l3 → Nat
  | .h0 x0 x1 x2 x3 x4 x5 x6 x7 x8 x9 x10 x11 x12 x13 x14 x15 => Int.toNat (x1 - x2) + 1
  | .h1 x0 x1 x2 x3 x4 x5 x6 x7 x8 x9 x10 x11 x12 x13 x14 x15 x16 x17 => Int.toNat (x2 - x3) + 1
noncomputable def S_block_portsOf_l3 : X_block_portsOf_l3 → St
  | .h0 x0 x1 x2 x3 x4 x5 x6 x7 x8 x9 x10 x11 x12 x13 x14 x15 => ⟨mkT [(1, .ptr 0 0), (2, .ptr 1 0), (4, .dv (.val (.slice none 0 0))), (12, .dv (.lst 11 x0)), (13, .dv (.val (.int .i64 x1))), (14, .dv (.val (.int .i64 x2)))] (.leaf .dead), 52, [some (.mix [.dv (.val (.string x3)), .dv (.val (.string x4)), .dv (.val (.int .i64 x5)), .dv (.val (.int .i64 x6)), .dv (.lst 2 x7), .dv (.val (.string x8)), .dv (.val (.int .i64 x9)), .dv (.val (.int .i64 x10)), .dv (.val (.string x11)), .dv (.val (.string x12)), .dv (.lst 11 x13)]), some (.cells [.val (.int .i64 x14), .val (.int .i64 x15)])]⟩
  | .h1 x0 x1 x2 x3 x4 x5 x6 x7 x8 x9 x10 x11 x12 x13 x14 x15 x16 x17 => ⟨mkT [(1, .ptr 0 0), (2, .ptr 1 0), (4, .osl 58 2 2 0 x0), (12, .dv (.lst 11 x1)), (13, .dv (.val (.int .i64 x2))), (14, .dv (.val (.int .i64 x3)))] (.leaf .dead), 52, [some (.mix [.dv (.val (.string x4)), .dv (.val (.string x5)), .dv (.val (.int .i64 x6)), .dv (.val (.int .i64 x7)), .dv (.lst 2 x8), .dv (.val (.string x9)), .dv (.val (.int .i64 x10)), .dv (.val (.int .i64 x11)), .dv (.val (.string x12)), .dv (.val (.string x13)), .dv (.lst 11 x14)]), some (.cells [.val (.int .i64 x15), .val (.int .i64 x16)]), some (.cells x17)]⟩

noncomputable def oc_block_portsOf_l3 (k : KC) : (Int → ByteArray → ByteArray → Int → Int → List (List DV) → ByteArray → Int → Int → ByteArray → ByteArray → List (List DV) → Int → Int → Option DV) × (ByteArray → ByteArray → Int → Int → List (List DV) → ByteArray → Int → Int → ByteArray → ByteArray → List (List DV) → Int → Int → Option DV) × (Int → Nat → ByteArray → ByteArray → Int → Int → List (List DV) → ByteArray → Int → Int → ByteArray → ByteArray → List (List DV) → Int → Int → List DV → Option DV) × (Nat → ByteArray → ByteArray → Int → Int → List (List DV) → ByteArray → Int → Int → ByteArray → ByteArray → List (List DV) → Int → Int → List DV → Option DV) := (fun y0 y1 y2 y3 y4 y5 y6 y7 y8 y9 y10 y11 y12 y13 => k .ret ⟨mkT [(1, .ptr 0 0), (2, .ptr 1 0), (3, .dv (.val (.int .i64 y0))), (4, .dv (.val (.slice none 0 0)))] (.leaf .dead), 52, [some (.mix [.dv (.val (.string y1)), .dv (.val (.string y2)), .dv (.val (.int .i64 y3)), .dv (.val (.int .i64 y4)), .dv (.lst 2 y5), .dv (.val (.string y6)), .dv (.val (.int .i64 y7)), .dv (.val (.int .i64 y8)), .dv (.val (.string y9)), .dv (.val (.string y10)), .dv (.lst 11 y11)]), some (.cells [.val (.int .i64 y12), .val (.int .i64 y13)])]⟩, fun y0 y1 y2 y3 y4 y5 y6 y7 y8 y9 y10 y11 y12 => k (.exit 0) ⟨mkT [(1, .ptr 0 0), (2, .ptr 1 0), (3, .dead), (4, .dv (.val (.slice none 0 0)))] (.leaf .dead), 52, [some (.mix [.dv (.val (.string y0)), .dv (.val (.string y1)), .dv (.val (.int .i64 y2)), .dv (.val (.int .i64 y3)), .dv (.lst 2 y4), .dv (.val (.string y5)), .dv (.val (.int .i64 y6)), .dv (.val (.int .i64 y7)), .dv (.val (.string y8)), .dv (.val (.string y9)), .dv (.lst 11 y10)]), some (.cells [.val (.int .i64 y11), .val (.int .i64 y12)])]⟩, fun y0 y1 y2 y3 y4 y5 y6 y7 y8 y9 y10 y11 y12 y13 y14 y15 => k .ret ⟨mkT [(1, .ptr 0 0), (2, .ptr 1 0), (3, .dv (.val (.int .i64 y0))), (4, .osl 58 2 2 0 y1)] (.leaf .dead), 52, [some (.mix [.dv (.val (.string y2)), .dv (.val (.string y3)), .dv (.val (.int .i64 y4)), .dv (.val (.int .i64 y5)), .dv (.lst 2 y6), .dv (.val (.string y7)), .dv (.val (.int .i64 y8)), .dv (.val (.int .i64 y9)), .dv (.val (.string y10)), .dv (.val (.string y11)), .dv (.lst 11 y12)]), some (.cells [.val (.int .i64 y13), .val (.int .i64 y14)]), some (.cells y15)]⟩, fun y0 y1 y2 y3 y4 y5 y6 y7 y8 y9 y10 y11 y12 y13 y14 => k (.exit 0) ⟨mkT [(1, .ptr 0 0), (2, .ptr 1 0), (3, .dead), (4, .osl 58 2 2 0 y0)] (.leaf .dead), 52, [some (.mix [.dv (.val (.string y1)), .dv (.val (.string y2)), .dv (.val (.int .i64 y3)), .dv (.val (.int .i64 y4)), .dv (.lst 2 y5), .dv (.val (.string y6)), .dv (.val (.int .i64 y7)), .dv (.val (.int .i64 y8)), .dv (.val (.string y9)), .dv (.val (.string y10)), .dv (.lst 11 y11)]), some (.cells [.val (.int .i64 y12), .val (.int .i64 y13)]), some (.cells y14)]⟩)

noncomputable def B_block_portsOf_l3_h0 (f0 : ByteArray → ByteArray → Int → Int → List (List DV) → ByteArray → Int → Int → ByteArray → ByteArray → List (List DV) → (Int → Int → Int → Option DV) → Option DV) (f1 : ByteArray → List (List DV) → (Int → Int → Bool → Option DV) → Option DV) (x0 : List (List DV)) (x1 : Int) (x2 : Int) (x3 : ByteArray) (x4 : ByteArray) (x5 : Int) (x6 : Int) (x7 : List (List DV)) (x8 : ByteArray) (x9 : Int) (x10 : Int) (x11 : ByteArray) (x12 : ByteArray) (x13 : List (List DV)) (x14 : Int) (x15 : Int) (κn : X_block_portsOf_l3 → Option DV) (κ0 : Int → ByteArray → ByteArray → Int → Int → List (List DV) → ByteArray → Int → Int → ByteArray → ByteArray → List (List DV) → Int → Int → Option DV) (κ1 : ByteArray → ByteArray → Int → Int → List (List DV) → ByteArray → Int → Int → ByteArray → ByteArray → List (List DV) → Int → Int → Option DV) (κ2 : Int → Nat → ByteArray → ByteArray → Int → Int → List (List DV) → ByteArray → Int → Int → ByteArray → ByteArray → List (List DV) → Int → Int → List DV → Option DV) (κ3 : Nat → ByteArray → ByteArray → Int → Int → List (List DV) → ByteArray → Int → Int → ByteArray → ByteArray → List (List DV) → Int → Int → List DV → Option DV) : Option DV :=
  bx (decide (x2 < x1)) (bx (decide (0 ≤ x2)) (optE (x0[Int.toNat x2]?) (fun e1 => ld_ssiil2siissl11 e1 0 (fun v2 v3 v4 v5 v6 v7 v8 v9 v10 v11 v12 => f0 v2 v3 v4 v5 v6 v7 v8 v9 v10 v11 v12 (fun r13 r14 r15 => bx (r15 != 0) (κ0 r15 x3 x4 x5 x6 x7 x8 x9 x10 x11 x12 x13 0 0) (κn (X_block_portsOf_l3.h1 1 x0 x1 (IntKind.wrap .i64 (x2 + 1)) x3 x4 x5 x6 x7 x8 x9 x10 x11 x12 x13 x14 x15 ([.val (.int .i64 r13), .val (.int .i64 r14)]))))))) none) (κ1 x3 x4 x5 x6 x7 x8 x9 x10 x11 x12 x13 x14 x15)

noncomputable def B_block_portsOf_l3_h1 (f0 : ByteArray → ByteArray → Int → Int → List (List DV) → ByteArray → Int → Int → ByteArray → ByteArray → List (List DV) → (Int → Int → Int → Option DV) → Option DV) (f1 : ByteArray → List (List DV) → (Int → Int → Bool → Option DV) → Option DV) (x0 : Nat) (x1 : List (List DV)) (x2 : Int) (x3 : Int) (x4 : ByteArray) (x5 : ByteArray) (x6 : Int) (x7 : Int) (x8 : List (List DV)) (x9 : ByteArray) (x10 : Int) (x11 : Int) (x12 : ByteArray) (x13 : ByteArray) (x14 : List (List DV)) (x15 : Int) (x16 : Int) (x17 : List DV) (κn : X_block_portsOf_l3 → Option DV) (κ0 : Int → ByteArray → ByteArray → Int → Int → List (List DV) → ByteArray → Int → Int → ByteArray → ByteArray → List (List DV) → Int → Int → Option DV) (κ1 : ByteArray → ByteArray → Int → Int → List (List DV) → ByteArray → Int → Int → ByteArray → ByteArray → List (List DV) → Int → Int → Option DV) (κ2 : Int → Nat → ByteArray → ByteArray → Int → Int → List (List DV) → ByteArray → Int → Int → ByteArray → ByteArray → List (List DV) → Int → Int → List DV → Option DV) (κ3 : Nat → ByteArray → ByteArray → Int → Int → List (List DV) → ByteArray → Int → Int → ByteArray → ByteArray → List (List DV) → Int → Int → List DV → Option DV) : Option DV :=
  bx (decide (x3 < x2)) (bx (decide (0 ≤ x3)) (optE (x1[Int.toNat x3]?) (fun e16 => ld_ssiil2siissl11 e16 0 (fun v17 v18 v19 v20 v21 v22 v23 v24 v25 v26 v27 => f0 v17 v18 v19 v20 v21 v22 v23 v24 v25 v26 v27 (fun r28 r29 r30 => bx (r30 != 0) (κ2 r30 x0 x4 x5 x6 x7 x8 x9 x10 x11 x12 x13 x14 0 0 x17) (bx ((true && true && Nat.ble (x0 * 2) (List.length x17) && Nat.ble (x0 + 1) maxLen && Nat.ble ((x0 + 1) * 16) 140737488355328)) (κn (X_block_portsOf_l3.h1 (x0 + 1) x1 x2 (IntKind.wrap .i64 (x3 + 1)) x4 x5 x6 x7 x8 x9 x10 x11 x12 x13 x14 x15 x16 (List.take (x0 * 2) x17 ++ [.val (.int .i64 r28), .val (.int .i64 r29)]))) none))))) none) (κ3 x0 x4 x5 x6 x7 x8 x9 x10 x11 x12 x13 x14 x15 x16 x17)

noncomputable def F_block_portsOf_l3 (f0 : ByteArray → ByteArray → Int → Int → List (List DV) → ByteArray → Int → Int → ByteArray → ByteArray → List (List DV) → (Int → Int → Int → Option DV) → Option DV) (f1 : ByteArray → List (List DV) → (Int → Int → Bool → Option DV) → Option DV) : X_block_portsOf_l3 → (X_block_portsOf_l3 → Option DV) → ((Int → ByteArray → ByteArray → Int → Int → List (List DV) → ByteArray → Int → Int → ByteArray → ByteArray → List (List DV) → Int → Int → Option DV) × (ByteArray → ByteArray → Int → Int → List (List DV) → ByteArray → Int → Int → ByteArray → ByteArray → List (List DV) → Int → Int → Option DV) × (Int → Nat → ByteArray → ByteArray → Int → Int → List (List DV) → ByteArray → Int → Int → ByteArray → ByteArray → List (List DV) → Int → Int → List DV → Option DV) × (Nat → ByteArray → ByteArray → Int → Int → List (List DV) → ByteArray → Int → Int → ByteArray → ByteArray → List (List DV) → Int → Int → List DV → Option DV)) → Option DV
  | .h0 x0 x1 x2 x3 x4 x5 x6 x7 x8 x9 x10 x11 x12 x13 x14 x15, κn, κ => B_block_portsOf_l3_h0 f0 f1 x0 x1 x2 x3 x4 x5 x6 x7 x8 x9 x10 x11 x12 x13 x14 x15 κn κ.1 κ.2.1 κ.2.2.1 κ.2.2.2
  | .h1 x0 x1 x2 x3 x4 x5 x6 x7 x8 x9 x10 x11 x12 x13 x14 x15 x16 x17, κn, κ => B_block_portsOf_l3_h1 f0 f1 x0 x1 x2 x3 x4 x5 x6 x7 x8 x9 x10 x11 x12 x13 x14 x15 x16 x17 κn κ.1 κ.2.1 κ.2.2.1 κ.2.2.2

noncomputable def dec_block_portsOf_l3 (s : St) : Option X_block_portsOf_l3 :=
  orO (bindO (xN s.n 52) fun u => bindO (xP 0 0 (s.tmps.get 1)) fun u1 => bindO (xP 1 0 (s.tmps.get 2)) fun u2 => bindO (xD (s.tmps.get 4)) fun d3 => bindO (xNil d3) fun u4 => bindO (xD (s.tmps.get 12)) fun d5 => bindO (xL 11 d5) fun x0 => bindO (xD (s.tmps.get 13)) fun d7 => bindO (xI .i64 d7) fun x1 => bindO (xD (s.tmps.get 14)) fun d9 => bindO (xI .i64 d9) fun x2 => bindO (xMix s.heap) fun p11 => bindO (xUn p11.1) fun q12 => bindO (xD q12.1) fun d13 => bindO (xS d13) fun x3 => bindO (xUn q12.2) fun q15 => bindO (xD q15.1) fun d16 => bindO (xS d16) fun x4 => bindO (xUn q15.2) fun q18 => bindO (xD q18.1) fun d19 => bindO (xI .i64 d19) fun x5 => bindO (xUn q18.2) fun q21 => bindO (xD q21.1) fun d22 => bindO (xI .i64 d22) fun x6 => bindO (xUn q21.2) fun q24 => bindO (xD q24.1) fun d25 => bindO (xL 2 d25) fun x7 => bindO (xUn q24.2) fun q27 => bindO (xD q27.1) fun d28 => bindO (xS d28) fun x8 => bindO (xUn q27.2) fun q30 => bindO (xD q30.1) fun d31 => bindO (xI .i64 d31) fun x9 => bindO (xUn q30.2) fun q33 => bindO (xD q33.1) fun d34 => bindO (xI .i64 d34) fun x10 => bindO (xUn q33.2) fun q36 => bindO (xD q36.1) fun d37 => bindO (xS d37) fun x11 => bindO (xUn q36.2) fun q39 => bindO (xD q39.1) fun d40 => bindO (xS d40) fun x12 => bindO (xUn q39.2) fun q42 => bindO (xD q42.1) fun d43 => bindO (xL 11 d43) fun x13 => bindO (xEnd q42.2) fun u45 => bindO (xBlk p11.2) fun p46 => bindO (xUn p46.1) fun q47 => bindO (xI .i64 q47.1) fun x14 => bindO (xUn q47.2) fun q49 => bindO (xI .i64 q49.1) fun x15 => bindO (xEnd q49.2) fun u51 => bindO (xEnd p46.2) fun u52 => some (.h0 x0 x1 x2 x3 x4 x5 x6 x7 x8 x9 x10 x11 x12 x13 x14 x15)) (bindO (xN s.n 52) fun u => bindO (xP 0 0 (s.tmps.get 1)) fun u1 => bindO (xP 1 0 (s.tmps.get 2)) fun u2 => bindO (xO 58 2 2 0 (s.tmps.get 4)) fun x0 => bindO (xD (s.tmps.get 12)) fun d4 => bindO (xL 11 d4) fun x1 => bindO (xD (s.tmps.get 13)) fun d6 => bindO (xI .i64 d6) fun x2 => bindO (xD (s.tmps.get 14)) fun d8 => bindO (xI .i64 d8) fun x3 => bindO (xMix s.heap) fun p10 => bindO (xUn p10.1) fun q11 => bindO (xD q11.1) fun d12 => bindO (xS d12) fun x4 => bindO (xUn q11.2) fun q14 => bindO (xD q14.1) fun d15 => bindO (xS d15) fun x5 => bindO (xUn q14.2) fun q17 => bindO (xD q17.1) fun d18 => bindO (xI .i64 d18) fun x6 => bindO (xUn q17.2) fun q20 => bindO (xD q20.1) fun d21 => bindO (xI .i64 d21) fun x7 => bindO (xUn q20.2) fun q23 => bindO (xD q23.1) fun d24 => bindO (xL 2 d24) fun x8 => bindO (xUn q23.2) fun q26 => bindO (xD q26.1) fun d27 => bindO (xS d27) fun x9 => bindO (xUn q26.2) fun q29 => bindO (xD q29.1) fun d30 => bindO (xI .i64 d30) fun x10 => bindO (xUn q29.2) fun q32 => bindO (xD q32.1) fun d33 => bindO (xI .i64 d33) fun x11 => bindO (xUn q32.2) fun q35 => bindO (xD q35.1) fun d36 => bindO (xS d36) fun x12 => bindO (xUn q35.2) fun q38 => bindO (xD q38.1) fun d39 => bindO (xS d39) fun x13 => bindO (xUn q38.2) fun q41 => bindO (xD q41.1) fun d42 => bindO (xL 11 d42) fun x14 => bindO (xEnd q41.2) fun u44 => bindO (xBlk p10.2) fun p45 => bindO (xUn p45.1) fun q46 => bindO (xI .i64 q46.1) fun x15 => bindO (xUn q46.2) fun q48 => bindO (xI .i64 q48.1) fun x16 => bindO (xEnd q48.2) fun u50 => bindO (xBlk p45.2) fun p51 => bindO (xEnd p51.2) fun u52 => some (.h1 x0 x1 x2 x3 x4 x5 x6 x7 x8 x9 x10 x11 x12 x13 x14 x15 x16 p51.1))

noncomputable def R_block_portsOf_l3 (f0 : ByteArray → ByteArray → Int → Int → List (List DV) → ByteArray → Int → Int → ByteArray → ByteArray → List (List DV) → (Int → Int → Int → Option DV) → Option DV) (f1 : ByteArray → List (List DV) → (Int → Int → Bool → Option DV) → Option DV) : St → KC → Option DV := decR dec_block_portsOf_l3 (F_block_portsOf_l3 f0 f1) φ_block_portsOf_l3 oc_block_portsOf_l3

theorem d_block_portsOf_l3 : ∀ s x, dec_block_portsOf_l3 s = some x → SLe s (S_block_portsOf_l3 x) := by
  intro s x h
  unfold dec_block_portsOf_l3 at h
  rcases orO_some h with h | h
  · obtain ⟨u, en, h⟩ := bindO_some h
    obtain ⟨u1, e1, h⟩ := bindO_some h
    obtain ⟨u2, e2, h⟩ := bindO_some h
    obtain ⟨d3, e3, h⟩ := bindO_some h
    obtain ⟨u4, e4, h⟩ := bindO_some h
    obtain ⟨d5, e5, h⟩ := bindO_some h
    obtain ⟨x0, e6, h⟩ := bindO_some h
    obtain ⟨d7, e7, h⟩ := bindO_some h
    obtain ⟨x1, e8, h⟩ := bindO_some h
    obtain ⟨d9, e9, h⟩ := bindO_some h
    obtain ⟨x2, e10, h⟩ := bindO_some h
    obtain ⟨p11, e11, h⟩ := bindO_some h
    obtain ⟨q12, e12, h⟩ := bindO_some h
    obtain ⟨d13, e13, h⟩ := bindO_some h
    obtain ⟨x3, e14, h⟩ := bindO_some h
    obtain ⟨q15, e15, h⟩ := bindO_some h
    obtain ⟨d16, e16, h⟩ := bindO_some h
    obtain ⟨x4, e17, h⟩ := bindO_some h
    obtain ⟨q18, e18, h⟩ := bindO_some h
    obtain ⟨d19, e19, h⟩ := bindO_some h
    obtain ⟨x5, e20, h⟩ := bindO_some h
    obtain ⟨q21, e21, h⟩ := bindO_some h
    obtain ⟨d22, e22, h⟩ := bindO_some h
    obtain ⟨x6, e23, h⟩ := bindO_some h
    obtain ⟨q24, e24, h⟩ := bindO_some h
    obtain ⟨d25, e25, h⟩ := bindO_some h
    obtain ⟨x7, e26, h⟩ := bindO_some h
    obtain ⟨q27, e27, h⟩ := bindO_some h
    obtain ⟨d28, e28, h⟩ := bindO_some h
    obtain ⟨x8, e29, h⟩ := bindO_some h
    obtain ⟨q30, e30, h⟩ := bindO_some h
    obtain ⟨d31, e31, h⟩ := bindO_some h
    obtain ⟨x9, e32, h⟩ := bindO_some h
    obtain ⟨q33, e33, h⟩ := bindO_some h
    obtain ⟨d34, e34, h⟩ := bindO_some h
    obtain ⟨x10, e35, h⟩ := bindO_some h
    obtain ⟨q36, e36, h⟩ := bindO_some h
    obtain ⟨d37, e37, h⟩ := bindO_some h
    obtain ⟨x11, e38, h⟩ := bindO_some h
    obtain ⟨q39, e39, h⟩ := bindO_some h
    obtain ⟨d40, e40, h⟩ := bindO_some h
    obtain ⟨x12, e41, h⟩ := bindO_some h
    obtain ⟨q42, e42, h⟩ := bindO_some h
    obtain ⟨d43, e43, h⟩ := bindO_some h
    obtain ⟨x13, e44, h⟩ := bindO_some h
    obtain ⟨u45, e45, h⟩ := bindO_some h
    obtain ⟨p46, e46, h⟩ := bindO_some h
    obtain ⟨q47, e47, h⟩ := bindO_some h
    obtain ⟨x14, e48, h⟩ := bindO_some h
    obtain ⟨q49, e49, h⟩ := bindO_some h
    obtain ⟨x15, e50, h⟩ := bindO_some h
    obtain ⟨u51, e51, h⟩ := bindO_some h
    obtain ⟨u52, e52, h⟩ := bindO_some h
    cases h
    exact ⟨le_mkT _ _ (Le.dead _) ⟨.inr (xP_eq e1), .inr (xP_eq e2), .inr ((xD_eq e3).trans (congrArg VV.dv (xNil_eq e4))), .inr ((xD_eq e5).trans (congrArg VV.dv (xL_eq e6))), .inr ((xD_eq e7).trans (congrArg VV.dv (xI_eq e8))), .inr ((xD_eq e9).trans (congrArg VV.dv (xI_eq e10))), trivial⟩, (xN_eq en).symm, by rw [xMix_eq e11, xUn_eq e12, xD_eq e13, xS_eq e14, xUn_eq e15, xD_eq e16, xS_eq e17, xUn_eq e18, xD_eq e19, xI_eq e20, xUn_eq e21, xD_eq e22, xI_eq e23, xUn_eq e24, xD_eq e25, xL_eq e26, xUn_eq e27, xD_eq e28, xS_eq e29, xUn_eq e30, xD_eq e31, xI_eq e32, xUn_eq e33, xD_eq e34, xI_eq e35, xUn_eq e36, xD_eq e37, xS_eq e38, xUn_eq e39, xD_eq e40, xS_eq e41, xUn_eq e42, xD_eq e43, xL_eq e44, xEnd_eq e45, xBlk_eq e46, xUn_eq e47, xI_eq e48, xUn_eq e49, xI_eq e50, xEnd_eq e51, xEnd_eq e52]; rfl⟩
  · obtain ⟨u, en, h⟩ := bindO_some h
    obtain ⟨u1, e1, h⟩ := bindO_some h
    obtain ⟨u2, e2, h⟩ := bindO_some h
    obtain ⟨x0, e3, h⟩ := bindO_some h
    obtain ⟨d4, e4, h⟩ := bindO_some h
    obtain ⟨x1, e5, h⟩ := bindO_some h
    obtain ⟨d6, e6, h⟩ := bindO_some h
    obtain ⟨x2, e7, h⟩ := bindO_some h
    obtain ⟨d8, e8, h⟩ := bindO_some h
    obtain ⟨x3, e9, h⟩ := bindO_some h
    obtain ⟨p10, e10, h⟩ := bindO_some h
    obtain ⟨q11, e11, h⟩ := bindO_some h
    obtain ⟨d12, e12, h⟩ := bindO_some h
    obtain ⟨x4, e13, h⟩ := bindO_some h
    obtain ⟨q14, e14, h⟩ := bindO_some h
    obtain ⟨d15, e15, h⟩ := bindO_some h
    obtain ⟨x5, e16, h⟩ := bindO_some h
    obtain ⟨q17, e17, h⟩ := bindO_some h
    obtain ⟨d18, e18, h⟩ := bindO_some h
    obtain ⟨x6, e19, h⟩ := bindO_some h
    obtain ⟨q20, e20, h⟩ := bindO_some h
    obtain ⟨d21, e21, h⟩ := bindO_some h
    obtain ⟨x7, e22, h⟩ := bindO_some h
    obtain ⟨q23, e23, h⟩ := bindO_some h
    obtain ⟨d24, e24, h⟩ := bindO_some h
    obtain ⟨x8, e25, h⟩ := bindO_some h
    obtain ⟨q26, e26, h⟩ := bindO_some h
    obtain ⟨d27, e27, h⟩ := bindO_some h
    obtain ⟨x9, e28, h⟩ := bindO_some h
    obtain ⟨q29, e29, h⟩ := bindO_some h
    obtain ⟨d30, e30, h⟩ := bindO_some h
    obtain ⟨x10, e31, h⟩ := bindO_some h
    obtain ⟨q32, e32, h⟩ := bindO_some h
    obtain ⟨d33, e33, h⟩ := bindO_some h
    obtain ⟨x11, e34, h⟩ := bindO_some h
    obtain ⟨q35, e35, h⟩ := bindO_some h
    obtain ⟨d36, e36, h⟩ := bindO_some h
    obtain ⟨x12, e37, h⟩ := bindO_some h
    obtain ⟨q38, e38, h⟩ := bindO_some h
    obtain ⟨d39, e39, h⟩ := bindO_some h
    obtain ⟨x13, e40, h⟩ := bindO_some h
    obtain ⟨q41, e41, h⟩ := bindO_some h
    obtain ⟨d42, e42, h⟩ := bindO_some h
    obtain ⟨x14, e43, h⟩ := bindO_some h
    obtain ⟨u44, e44, h⟩ := bindO_some h
    obtain ⟨p45, e45, h⟩ := bindO_some h
    obtain ⟨q46, e46, h⟩ := bindO_some h
    obtain ⟨x15, e47, h⟩ := bindO_some h
    obtain ⟨q48, e48, h⟩ := bindO_some h
    obtain ⟨x16, e49, h⟩ := bindO_some h
    obtain ⟨u50, e50, h⟩ := bindO_some h
    obtain ⟨p51, e51, h⟩ := bindO_some h
    obtain ⟨u52, e52, h⟩ := bindO_some h
    cases h
    exact ⟨le_mkT _ _ (Le.dead _) ⟨.inr (xP_eq e1), .inr (xP_eq e2), .inr (xO_eq e3), .inr ((xD_eq e4).trans (congrArg VV.dv (xL_eq e5))), .inr ((xD_eq e6).trans (congrArg VV.dv (xI_eq e7))), .inr ((xD_eq e8).trans (congrArg VV.dv (xI_eq e9))), trivial⟩, (xN_eq en).symm, by rw [xMix_eq e10, xUn_eq e11, xD_eq e12, xS_eq e13, xUn_eq e14, xD_eq e15, xS_eq e16, xUn_eq e17, xD_eq e18, xI_eq e19, xUn_eq e20, xD_eq e21, xI_eq e22, xUn_eq e23, xD_eq e24, xL_eq e25, xUn_eq e26, xD_eq e27, xS_eq e28, xUn_eq e29, xD_eq e30, xI_eq e31, xUn_eq e32, xD_eq e33, xI_eq e34, xUn_eq e35, xD_eq e36, xS_eq e37, xUn_eq e38, xD_eq e39, xS_eq e40, xUn_eq e41, xD_eq e42, xL_eq e43, xEnd_eq e44, xBlk_eq e45, xUn_eq e46, xI_eq e47, xUn_eq e48, xI_eq e49, xEnd_eq e50, xBlk_eq e51, xEnd_eq e52]; rfl⟩
noncomputable def B_block_portsOf (f0 : ByteArray → ByteArray → Int → Int → List (List DV) → ByteArray → Int → Int → ByteArray → ByteArray → List (List DV) → (Int → Int → Int → Option DV) → Option DV) (f1 : ByteArray → List (List DV) → (Int → Int → Bool → Option DV) → Option DV) (a0_0 a0_1 : ByteArray) (a0_2 a0_3 : Int) (a0_4 : List (List DV)) (a0_5 : ByteArray) (a0_6 a0_7 : Int) (a0_8 a0_9 : ByteArray) (a0_10 : List (List DV)) (k : Int → Int → Int → Option DV) : Option DV :=
  LF (F_block_portsOf_l3 f0 f1) (φ_block_portsOf_l3 (X_block_portsOf_l3.h0 a0_10 ((List.length a0_10 : Nat) : Int) 0 a0_0 a0_1 a0_2 a0_3 a0_4 a0_5 a0_6 a0_7 a0_8 a0_9 a0_10 0 0)) (X_block_portsOf_l3.h0 a0_10 ((List.length a0_10 : Nat) : Int) 0 a0_0 a0_1 a0_2 a0_3 a0_4 a0_5 a0_6 a0_7 a0_8 a0_9 a0_10 0 0) ((fun z31_0 z31_1 z31_2 z31_3 z31_4 z31_5 z31_6 z31_7 z31_8 z31_9 z31_10 z31_11 z31_12 z31_13 => k z31_12 z31_13 z31_0), (fun z32_0 z32_1 z32_2 z32_3 z32_4 z32_5 z32_6 z32_7 z32_8 z32_9 z32_10 z32_11 z32_12 => f1 z32_0 [] (fun r33 r34 r35 => bx (!r35) (k 0 0 50) (bx (!(decide (r33 > 64))) (bx (decide (r34 > 64)) (k 0 0 4) (k r33 r34 0)) (k 0 0 4)))), (fun z36_0 z36_1 z36_2 z36_3 z36_4 z36_5 z36_6 z36_7 z36_8 z36_9 z36_10 z36_11 z36_12 z36_13 z36_14 z36_15 => k z36_13 z36_14 z36_0), (fun z37_0 z37_1 z37_2 z37_3 z37_4 z37_5 z37_6 z37_7 z37_8 z37_9 z37_10 z37_11 z37_12 z37_13 z37_14 => bx (Nat.ble (0 + z37_0 * 2) (List.length z37_14)) (f1 z37_1 (chunks 2 z37_0 (List.drop 0 z37_14)) (fun r38 r39 r40 => bx (!r40) (k 0 0 50) (bx (!(decide (r38 > 64))) (bx (decide (r39 > 64)) (k 0 0 4) (k r38 r39 0)) (k 0 0 4)))) none))

noncomputable def KK_block_portsOf (f0 : ByteArray → ByteArray → Int → Int → List (List DV) → ByteArray → Int → Int → ByteArray → ByteArray → List (List DV) → (Int → Int → Int → Option DV) → Option DV) (ds : List DV) (k : DV → Option DV) : Option DV :=
  match ds with
  | [.agg [.val (.string a0_0), .val (.string a0_1), .val (.int .i64 a0_2), .val (.int .i64 a0_3), .lst 2 a0_4, .val (.string a0_5), .val (.int .i64 a0_6), .val (.int .i64 a0_7), .val (.string a0_8), .val (.string a0_9), .lst 11 a0_10]] => f0 a0_0 a0_1 a0_2 a0_3 a0_4 a0_5 a0_6 a0_7 a0_8 a0_9 a0_10 (fun r0_0 r0_1 r1_0 => k (.val (.tuple ⟨[.agg ⟨[.int .i64 r0_0, .int .i64 r0_1]⟩, .int .i64 r1_0]⟩)))
  | _ => none

noncomputable def G_block_portsOf (N : Nat) : Nat → (ByteArray → ByteArray → Int → Int → List (List DV) → ByteArray → Int → Int → ByteArray → ByteArray → List (List DV) → (Int → Int → Int → Option DV) → Option DV)
  | 0 => (fun _ _ _ _ _ _ _ _ _ _ _ _ => none)
  | n + 1 => (fun a0_0 a0_1 a0_2 a0_3 a0_4 a0_5 a0_6 a0_7 a0_8 a0_9 a0_10 k => B_block_portsOf (G_block_portsOf N n) block_portsWith a0_0 a0_1 a0_2 a0_3 a0_4 a0_5 a0_6 a0_7 a0_8 a0_9 a0_10 k)

noncomputable def block_portsOf_n (N n : Nat) : ByteArray → ByteArray → Int → Int → List (List DV) → ByteArray → Int → Int → ByteArray → ByteArray → List (List DV) → (Int → Int → Int → Option DV) → Option DV := (G_block_portsOf N n)
noncomputable def block_portsOf (N : Nat) : ByteArray → ByteArray → Int → Int → List (List DV) → ByteArray → Int → Int → ByteArray → ByteArray → List (List DV) → (Int → Int → Int → Option DV) → Option DV := block_portsOf_n N N

theorem q_block_portsOf_l3_h0 (f0 : ByteArray → ByteArray → Int → Int → List (List DV) → ByteArray → Int → Int → ByteArray → ByteArray → List (List DV) → (Int → Int → Int → Option DV) → Option DV) (f1 : ByteArray → List (List DV) → (Int → Int → Bool → Option DV) → Option DV) (x0 : List (List DV)) (x1 : Int) (x2 : Int) (x3 : ByteArray) (x4 : ByteArray) (x5 : Int) (x6 : Int) (x7 : List (List DV)) (x8 : ByteArray) (x9 : Int) (x10 : Int) (x11 : ByteArray) (x12 : ByteArray) (x13 : List (List DV)) (x14 : Int) (x15 : Int) (κn : St → Option DV) (κ : KC) : pev Try.prog (tab [(40, (KK_block_portsOf f0)), (51, (KK_block_portsWith f1))] []) (ltab [(3, R_block_portsOf_l3 f0 f1)]) [(0, [0]), (0, []), (3, [1, 2, 4, 12, 13, 14]), (100003, [1, 2, 3, 4])] 64 (loopB (bodyOf Try.f40) 0) (S_block_portsOf_l3 (.h0 x0 x1 x2 x3 x4 x5 x6 x7 x8 x9 x10 x11 x12 x13 x14 x15)) (contL 0 [1, 2, 4, 12, 13, 14] [1, 2, 3, 4] κn κ) = F_block_portsOf_l3 f0 f1 (.h0 x0 x1 x2 x3 x4 x5 x6 x7 x8 x9 x10 x11 x12 x13 x14 x15) (fun x => κn (S_block_portsOf_l3 x)) (oc_block_portsOf_l3 κ) := by kernel_rfl

theorem q_block_portsOf_l3_h1 (f0 : ByteArray → ByteArray → Int → Int → List (List DV) → ByteArray → Int → Int → ByteArray → ByteArray → List (List DV) → (Int → Int → Int → Option DV) → Option DV) (f1 : ByteArray → List (List DV) → (Int → Int → Bool → Option DV) → Option DV) (x0 : Nat) (x1 : List (List DV)) (x2 : Int) (x3 : Int) (x4 : ByteArray) (x5 : ByteArray) (x6 : Int) (x7 : Int) (x8 : List (List DV)) (x9 : ByteArray) (x10 : Int) (x11 : Int) (x12 : ByteArray) (x13 : ByteArray) (x14 : List (List DV)) (x15 : Int) (x16 : Int) (x17 : List DV) (κn : St → Option DV) (κ : KC) : pev Try.prog (tab [(40, (KK_block_portsOf f0)), (51, (KK_block_portsWith f1))] []) (ltab [(3, R_block_portsOf_l3 f0 f1)]) [(0, [0]), (0, []), (3, [1, 2, 4, 12, 13, 14]), (100003, [1, 2, 3, 4])] 64 (loopB (bodyOf Try.f40) 0) (S_block_portsOf_l3 (.h1 x0 x1 x2 x3 x4 x5 x6 x7 x8 x9 x10 x11 x12 x13 x14 x15 x16 x17)) (contL 0 [1, 2, 4, 12, 13, 14] [1, 2, 3, 4] κn κ) = F_block_portsOf_l3 f0 f1 (.h1 x0 x1 x2 x3 x4 x5 x6 x7 x8 x9 x10 x11 x12 x13 x14 x15 x16 x17) (fun x => κn (S_block_portsOf_l3 x)) (oc_block_portsOf_l3 κ) := by kernel_rfl

theorem g_block_portsOf_l3 (f0 : ByteArray → ByteArray → Int → Int → List (List DV) → ByteArray → Int → Int → ByteArray → ByteArray → List (List DV) → (Int → Int → Int → Option DV) → Option DV) (f1 : ByteArray → List (List DV) → (Int → Int → Bool → Option DV) → Option DV) (HK : KGood Try.prog Inv (tab [(40, (KK_block_portsOf f0)), (51, (KK_block_portsWith f1))] [])) : RGood 0 Try.prog Inv (loopB (bodyOf Try.f40) 0) (R_block_portsOf_l3 f0 f1) :=
  have hL : LGood 0 Try.prog Inv (ltab [(3, R_block_portsOf_l3 f0 f1)]) (loopB (bodyOf Try.f40) 0) := (lgood_of (bs := []) (by kernel_rfl) lgood_nil)
  rgood_dec (body := fun s k => pev Try.prog (tab [(40, (KK_block_portsOf f0)), (51, (KK_block_portsWith f1))] []) (ltab [(3, R_block_portsOf_l3 f0 f1)]) [(0, [0]), (0, []), (3, [1, 2, 4, 12, 13, 14]), (100003, [1, 2, 3, 4])] 64 (loopB (bodyOf Try.f40) 0) s k) (live := [1, 2, 4, 12, 13, 14]) (out := [1, 2, 3, 4]) (S := S_block_portsOf_l3) (pev_ok mixed HK (ltab [(3, R_block_portsOf_l3 f0 f1)]) [(0, [0]), (0, []), (3, [1, 2, 4, 12, 13, 14]), (100003, [1, 2, 3, 4])] 64 _ hL) (pev_nat HK (ltab [(3, R_block_portsOf_l3 f0 f1)]) [(0, [0]), (0, []), (3, [1, 2, 4, 12, 13, 14]), (100003, [1, 2, 3, 4])] 64 _ hL)
    (fun x κn κ => match x with
      | .h0 _ _ _ _ _ _ _ _ _ _ _ _ _ _ _ _ => q_block_portsOf_l3_h0 f0 f1 _ _ _ _ _ _ _ _ _ _ _ _ _ _ _ _ κn κ
      | .h1 _ _ _ _ _ _ _ _ _ _ _ _ _ _ _ _ _ _ => q_block_portsOf_l3_h1 f0 f1 _ _ _ _ _ _ _ _ _ _ _ _ _ _ _ _ _ _ κn κ
    ) d_block_portsOf_l3 φ_block_portsOf_l3

theorem r_block_portsOf (f0 : ByteArray → ByteArray → Int → Int → List (List DV) → ByteArray → Int → Int → ByteArray → ByteArray → List (List DV) → (Int → Int → Int → Option DV) → Option DV) (f1 : ByteArray → List (List DV) → (Int → Int → Bool → Option DV) → Option DV) (a0_0 a0_1 : ByteArray) (a0_2 a0_3 : Int) (a0_4 : List (List DV)) (a0_5 : ByteArray) (a0_6 a0_7 : Int) (a0_8 a0_9 : ByteArray) (a0_10 : List (List DV)) (k : DV → Option DV) : B_block_portsOf f0 f1 a0_0 a0_1 a0_2 a0_3 a0_4 a0_5 a0_6 a0_7 a0_8 a0_9 a0_10 (fun r0_0 r0_1 r1_0 => k (.val (.tuple ⟨[.agg ⟨[.int .i64 r0_0, .int .i64 r0_1]⟩, .int .i64 r1_0]⟩))) = pevL Try.prog (tab [(40, (KK_block_portsOf f0)), (51, (KK_block_portsWith f1))] []) (ltab [(3, R_block_portsOf_l3 f0 f1)]) [(0, [0]), (0, []), (3, [1, 2, 4, 12, 13, 14]), (100003, [1, 2, 3, 4])] 64 Try.f40 (bodyOf Try.f40) [.agg [.val (.string a0_0), .val (.string a0_1), .val (.int .i64 a0_2), .val (.int .i64 a0_3), .lst 2 a0_4, .val (.string a0_5), .val (.int .i64 a0_6), .val (.int .i64 a0_7), .val (.string a0_8), .val (.string a0_9), .lst 11 a0_10]] k := by kernel_rfl

theorem m_G_block_portsOf (N : Nat) : ∀ n, Meets Try.prog Inv 40 (KK_block_portsOf (block_portsOf_n N n))
  | 0 => meets_none (by intro ds k; unfold KK_block_portsOf; split <;> rfl)
  | n + 1 => by
    have ih := m_G_block_portsOf N n
    exact meets_of_pevL mixed stab (kgood stab (tab_cons (ih) (tab_cons m_block_portsWith (tab_nil _ _))) (tabH_nil _ _)) Try.func40 (by kernel_rfl) (by kernel_rfl) (by
    intro ds; unfold KK_block_portsOf; split
    · exact .inr ⟨(ltab [(3, R_block_portsOf_l3 (block_portsOf_n N n) block_portsWith)]), [(0, [0]), (0, []), (3, [1, 2, 4, 12, 13, 14]), (100003, [1, 2, 3, 4])], 64, lgood_of (bs := [loopB (bodyOf Try.f40) 0]) (by kernel_rfl) (lgood_cons (by kernel_rfl) (g_block_portsOf_l3 (block_portsOf_n N n) block_portsWith (kgood stab (tab_cons (ih) (tab_cons m_block_portsWith (tab_nil _ _))) (tabH_nil _ _))) lgood_nil), fun k => r_block_portsOf (block_portsOf_n N n) block_portsWith _ _ _ _ _ _ _ _ _ _ _ k⟩
    · exact .inl (fun _ => rfl))

theorem m_block_portsOf (N : Nat) : Meets Try.prog Inv 40 (KK_block_portsOf (block_portsOf N)) := (m_G_block_portsOf N N)

inductive X_block_having_l5 where
  | h0 (x0 : ByteArray) (x1 : Nat) (x2 : List (List DV)) (x3 : Int) (x4 : Int) (x5 : List DV)
  | h1 (x0 : ByteArray) (x1 : List (List DV)) (x2 : Int) (x3 : Int)
def φ_block_having_l5 : X_block_having_l5 → Nat
  | .h0 x0 x1 x2 x3 x4 x5 => Int.toNat (x3 - x4) + 1
  | .h1 x0 x1 x2 x3 => Int.toNat (x2 - x3) + 1
noncomputable def S_block_having_l5 : X_block_having_l5 → St
  | .h0 x0 x1 x2 x3 x4 x5 => ⟨mkT [(0, .dv (.val (.string x0))), (5, .osl 27 11 0 0 x1), (17, .dv (.lst 11 x2)), (18, .dv (.val (.int .i64 x3))), (19, .dv (.val (.int .i64 x4)))] (.leaf .dead), 30, [some (.cells x5)]⟩
  | .h1 x0 x1 x2 x3 => ⟨mkT [(0, .dv (.val (.string x0))), (5, .dv (.val (.slice none 0 0))), (17, .dv (.lst 11 x1)), (18, .dv (.val (.int .i64 x2))), (19, .dv (.val (.int .i64 x3)))] (.leaf .dead), 30, []⟩

noncomputable def oc_block_having_l5 (k : KC) : (Nat → List DV → Option DV) × (Option DV) := (fun y0 y1 => k (.exit 0) ⟨mkT [(5, .osl 27 11 0 0 y0)] (.leaf .dead), 30, [some (.cells y1)]⟩, k (.exit 0) ⟨mkT [(5, .dv (.val (.slice none 0 0)))] (.leaf .dead), 30, []⟩)

noncomputable def B_block_having_l5_h0 (f0 : ByteArray → ByteArray → ByteArray → Int → Int → List (List DV) → ByteArray → Int → Int → ByteArray → ByteArray → List (List DV) → (List (List DV) → Option DV) → Option DV) (x0 : ByteArray) (x1 : Nat) (x2 : List (List DV)) (x3 : Int) (x4 : Int) (x5 : List DV) (κn : X_block_having_l5 → Option DV) (κ0 : Nat → List DV → Option DV) (κ1 : Option DV) : Option DV :=
  bx (decide (x4 < x3)) (bx (decide (0 ≤ x4)) (optE (x2[Int.toNat x4]?) (fun e1 => ld_ssiil2siissl11 e1 0 (fun v2 v3 v4 v5 v6 v7 v8 v9 v10 v11 v12 => f0 x0 v2 v3 v4 v5 v6 v7 v8 v9 v10 v11 v12 (fun r13 => bx (Nat.beq (List.length r13) 0) (κn (X_block_having_l5.h0 x0 x1 x2 x3 (IntKind.wrap .i64 (x4 + 1)) x5)) (bx (List.all (List.flatten r13) oneCellD) (bx ((true && true && Nat.ble (x1 * 11) (List.length x5) && Nat.ble (x1 + List.length r13) maxLen && Nat.ble ((x1 + List.length r13) * 160) 140737488355328)) (κn (X_block_having_l5.h0 x0 (x1 + List.length r13) x2 x3 (IntKind.wrap .i64 (x4 + 1)) (List.take (x1 * 11) x5 ++ (List.flatten r13)))) none) none))))) none) (κ0 x1 x5)

noncomputable def B_block_having_l5_h1 (f0 : ByteArray → ByteArray → ByteArray → Int → Int → List (List DV) → ByteArray → Int → Int → ByteArray → ByteArray → List (List DV) → (List (List DV) → Option DV) → Option DV) (x0 : ByteArray) (x1 : List (List DV)) (x2 : Int) (x3 : Int) (κn : X_block_having_l5 → Option DV) (κ0 : Nat → List DV → Option DV) (κ1 : Option DV) : Option DV :=
  bx (decide (x3 < x2)) (bx (decide (0 ≤ x3)) (optE (x1[Int.toNat x3]?) (fun e14 => ld_ssiil2siissl11 e14 0 (fun v15 v16 v17 v18 v19 v20 v21 v22 v23 v24 v25 => f0 x0 v15 v16 v17 v18 v19 v20 v21 v22 v23 v24 v25 (fun r26 => bx (Nat.beq (List.length r26) 0) (κn (X_block_having_l5.h1 x0 x1 x2 (IntKind.wrap .i64 (x3 + 1)))) (bx (List.all (List.flatten r26) oneCellD) (bx ((Nat.ble (List.length r26) maxLen && Nat.ble (List.length r26 * 160) 140737488355328)) (κn (X_block_having_l5.h0 x0 (List.length r26) x1 x2 (IntKind.wrap .i64 (x3 + 1)) (List.flatten r26))) none) none))))) none) κ1

noncomputable def F_block_having_l5 (f0 : ByteArray → ByteArray → ByteArray → Int → Int → List (List DV) → ByteArray → Int → Int → ByteArray → ByteArray → List (List DV) → (List (List DV) → Option DV) → Option DV) : X_block_having_l5 → (X_block_having_l5 → Option DV) → ((Nat → List DV → Option DV) × (Option DV)) → Option DV
  | .h0 x0 x1 x2 x3 x4 x5, κn, κ => B_block_having_l5_h0 f0 x0 x1 x2 x3 x4 x5 κn κ.1 κ.2
  | .h1 x0 x1 x2 x3, κn, κ => B_block_having_l5_h1 f0 x0 x1 x2 x3 κn κ.1 κ.2

noncomputable def dec_block_having_l5 (s : St) : Option X_block_having_l5 :=
  orO (bindO (xN s.n 30) fun u => bindO (xD (s.tmps.get 0)) fun d1 => bindO (xS d1) fun x0 => bindO (xO 27 11 0 0 (s.tmps.get 5)) fun x1 => bindO (xD (s.tmps.get 17)) fun d4 => bindO (xL 11 d4) fun x2 => bindO (xD (s.tmps.get 18)) fun d6 => bindO (xI .i64 d6) fun x3 => bindO (xD (s.tmps.get 19)) fun d8 => bindO (xI .i64 d8) fun x4 => bindO (xBlk s.heap) fun p10 => bindO (xEnd p10.2) fun u11 => some (.h0 x0 x1 x2 x3 x4 p10.1)) (bindO (xN s.n 30) fun u => bindO (xD (s.tmps.get 0)) fun d1 => bindO (xS d1) fun x0 => bindO (xD (s.tmps.get 5)) fun d3 => bindO (xNil d3) fun u4 => bindO (xD (s.tmps.get 17)) fun d5 => bindO (xL 11 d5) fun x1 => bindO (xD (s.tmps.get 18)) fun d7 => bindO (xI .i64 d7) fun x2 => bindO (xD (s.tmps.get 19)) fun d9 => bindO (xI .i64 d9) fun x3 => bindO (xEnd s.heap) fun u11 => some (.h1 x0 x1 x2 x3))

noncomputable def R_block_having_l5 (f0 : ByteArray → ByteArray → ByteArray → Int → Int → List (List DV) → ByteArray → Int → Int → ByteArray → ByteArray → List (List DV) → (List (List DV) → Option DV) → Option DV) : St → KC → Option DV := decR dec_block_having_l5 (F_block_having_l5 f0) φ_block_having_l5 oc_block_having_l5

theorem d_block_having_l5 : ∀ s x, dec_block_having_l5 s = some x → SLe s (S_block_having_l5 x) := by
  intro s x h
  unfold dec_block_having_l5 at h
  rcases orO_some h with h | h
  · obtain ⟨u, en, h⟩ := bindO_some h
    obtain ⟨d1, e1, h⟩ := bindO_some h
    obtain ⟨x0, e2, h⟩ := bindO_some h
    obtain ⟨x1, e3, h⟩ := bindO_some h
    obtain ⟨d4, e4, h⟩ := bindO_some h
    obtain ⟨x2, e5, h⟩ := bindO_some h
    obtain ⟨d6, e6, h⟩ := bindO_some h
    obtain ⟨x3, e7, h⟩ := bindO_some h
    obtain ⟨d8, e8, h⟩ := bindO_some h
    obtain ⟨x4, e9, h⟩ := bindO_some h
    obtain ⟨p10, e10, h⟩ := bindO_some h
    obtain ⟨u11, e11, h⟩ := bindO_some h
    cases h
    exact ⟨le_mkT _ _ (Le.dead _) ⟨.inr ((xD_eq e1).trans (congrArg VV.dv (xS_eq e2))), .inr (xO_eq e3), .inr ((xD_eq e4).trans (congrArg VV.dv (xL_eq e5))), .inr ((xD_eq e6).trans (congrArg VV.dv (xI_eq e7))), .inr ((xD_eq e8).trans (congrArg VV.dv (xI_eq e9))), trivial⟩, (xN_eq en).symm, by rw [xBlk_eq e10, xEnd_eq e11]; rfl⟩
  · obtain ⟨u, en, h⟩ := bindO_some h
    obtain ⟨d1, e1, h⟩ := bindO_some h
    obtain ⟨x0, e2, h⟩ := bindO_some h
    obtain ⟨d3, e3, h⟩ := bindO_some h
    obtain ⟨u4, e4, h⟩ := bindO_some h
    obtain ⟨d5, e5, h⟩ := bindO_some h
    obtain ⟨x1, e6, h⟩ := bindO_some h
    obtain ⟨d7, e7, h⟩ := bindO_some h
    obtain ⟨x2, e8, h⟩ := bindO_some h
    obtain ⟨d9, e9, h⟩ := bindO_some h
    obtain ⟨x3, e10, h⟩ := bindO_some h
    obtain ⟨u11, e11, h⟩ := bindO_some h
    cases h
    exact ⟨le_mkT _ _ (Le.dead _) ⟨.inr ((xD_eq e1).trans (congrArg VV.dv (xS_eq e2))), .inr ((xD_eq e3).trans (congrArg VV.dv (xNil_eq e4))), .inr ((xD_eq e5).trans (congrArg VV.dv (xL_eq e6))), .inr ((xD_eq e7).trans (congrArg VV.dv (xI_eq e8))), .inr ((xD_eq e9).trans (congrArg VV.dv (xI_eq e10))), trivial⟩, (xN_eq en).symm, by rw [xEnd_eq e11]; rfl⟩
noncomputable def B_block_having (f0 : ByteArray → ByteArray → ByteArray → Int → Int → List (List DV) → ByteArray → Int → Int → ByteArray → ByteArray → List (List DV) → (List (List DV) → Option DV) → Option DV) (a0 a1_0 a1_1 : ByteArray) (a1_2 a1_3 : Int) (a1_4 : List (List DV)) (a1_5 : ByteArray) (a1_6 a1_7 : Int) (a1_8 a1_9 : ByteArray) (a1_10 : List (List DV)) (k : List (List DV) → Option DV) : Option DV :=
  bx ((ByteArray.toList a1_0 == ByteArray.toList a0)) (LF (F_block_having_l5 f0) (φ_block_having_l5 (X_block_having_l5.h0 a0 1 a1_10 ((List.length a1_10 : Nat) : Int) 0 ([.val (.string a1_0), .val (.string a1_1), .val (.int .i64 a1_2), .val (.int .i64 a1_3), .lst 2 a1_4, .val (.string a1_5), .val (.int .i64 a1_6), .val (.int .i64 a1_7), .val (.string a1_8), .val (.string a1_9), .lst 11 a1_10]))) (X_block_having_l5.h0 a0 1 a1_10 ((List.length a1_10 : Nat) : Int) 0 ([.val (.string a1_0), .val (.string a1_1), .val (.int .i64 a1_2), .val (.int .i64 a1_3), .lst 2 a1_4, .val (.string a1_5), .val (.int .i64 a1_6), .val (.int .i64 a1_7), .val (.string a1_8), .val (.string a1_9), .lst 11 a1_10])) ((fun z27_0 z27_1 => bx (Nat.ble (0 + z27_0 * 11) (List.length z27_1)) (k (chunks 11 z27_0 (List.drop 0 z27_1))) none), (k []))) (LF (F_block_having_l5 f0) (φ_block_having_l5 (X_block_having_l5.h1 a0 a1_10 ((List.length a1_10 : Nat) : Int) 0)) (X_block_having_l5.h1 a0 a1_10 ((List.length a1_10 : Nat) : Int) 0) ((fun z29_0 z29_1 => bx (Nat.ble (0 + z29_0 * 11) (List.length z29_1)) (k (chunks 11 z29_0 (List.drop 0 z29_1))) none), (k [])))

noncomputable def KK_block_having (f0 : ByteArray → ByteArray → ByteArray → Int → Int → List (List DV) → ByteArray → Int → Int → ByteArray → ByteArray → List (List DV) → (List (List DV) → Option DV) → Option DV) (ds : List DV) (k : DV → Option DV) : Option DV :=
  match ds with
  | [.val (.string a0), .agg [.val (.string a1_0), .val (.string a1_1), .val (.int .i64 a1_2), .val (.int .i64 a1_3), .lst 2 a1_4, .val (.string a1_5), .val (.int .i64 a1_6), .val (.int .i64 a1_7), .val (.string a1_8), .val (.string a1_9), .lst 11 a1_10]] => f0 a0 a1_0 a1_1 a1_2 a1_3 a1_4 a1_5 a1_6 a1_7 a1_8 a1_9 a1_10 (fun r0_0 => k (.lst 11 r0_0))
  | _ => none

noncomputable def G_block_having (N : Nat) : Nat → (ByteArray → ByteArray → ByteArray → Int → Int → List (List DV) → ByteArray → Int → Int → ByteArray → ByteArray → List (List DV) → (List (List DV) → Option DV) → Option DV)
  | 0 => (fun _ _ _ _ _ _ _ _ _ _ _ _ _ => none)
  | n + 1 => (fun a0 a1_0 a1_1 a1_2 a1_3 a1_4 a1_5 a1_6 a1_7 a1_8 a1_9 a1_10 k => B_block_having (G_block_having N n) a0 a1_0 a1_1 a1_2 a1_3 a1_4 a1_5 a1_6 a1_7 a1_8 a1_9 a1_10 k)

noncomputable def block_having_n (N n : Nat) : ByteArray → ByteArray → ByteArray → Int → Int → List (List DV) → ByteArray → Int → Int → ByteArray → ByteArray → List (List DV) → (List (List DV) → Option DV) → Option DV := (G_block_having N n)
noncomputable def block_having (N : Nat) : ByteArray → ByteArray → ByteArray → Int → Int → List (List DV) → ByteArray → Int → Int → ByteArray → ByteArray → List (List DV) → (List (List DV) → Option DV) → Option DV := block_having_n N N

theorem q_block_having_l5_h0 (f0 : ByteArray → ByteArray → ByteArray → Int → Int → List (List DV) → ByteArray → Int → Int → ByteArray → ByteArray → List (List DV) → (List (List DV) → Option DV) → Option DV) (x0 : ByteArray) (x1 : Nat) (x2 : List (List DV)) (x3 : Int) (x4 : Int) (x5 : List DV) (κn : St → Option DV) (κ : KC) : pev Try.prog (tab [(52, (KK_block_having f0))] []) (ltab [(5, R_block_having_l5 f0)]) [(0, [0]), (0, []), (5, [0, 5, 17, 18, 19]), (100005, [5])] 64 (loopB (bodyOf Try.f52) 0) (S_block_having_l5 (.h0 x0 x1 x2 x3 x4 x5)) (contL 0 [0, 5, 17, 18, 19] [5] κn κ) = F_block_having_l5 f0 (.h0 x0 x1 x2 x3 x4 x5) (fun x => κn (S_block_having_l5 x)) (oc_block_having_l5 κ) := by kernel_rfl

theorem q_block_having_l5_h1 (f0 : ByteArray → ByteArray → ByteArray → Int → Int → List (List DV) → ByteArray → Int → Int → ByteArray → ByteArray → List (List DV) → (List (List DV) → Option DV) → Option DV) (x0 : ByteArray) (x1 : List (List DV)) (x2 : Int) (x3 : Int) (κn : St → Option DV) (κ : KC) : pev Try.prog (tab [(52, (KK_block_having f0))] []) (ltab [(5, R_block_having_l5 f0)]) [(0, [0]), (0, []), (5, [0, 5, 17, 18, 19]), (100005, [5])] 64 (loopB (bodyOf Try.f52) 0) (S_block_having_l5 (.h1 x0 x1 x2 x3)) (contL 0 [0, 5, 17, 18, 19] [5] κn κ) = F_block_having_l5 f0 (.h1 x0 x1 x2 x3) (fun x => κn (S_block_having_l5 x)) (oc_block_having_l5 κ) := by kernel_rfl

theorem g_block_having_l5 (f0 : ByteArray → ByteArray → ByteArray → Int → Int → List (List DV) → ByteArray → Int → Int → ByteArray → ByteArray → List (List DV) → (List (List DV) → Option DV) → Option DV) (HK : KGood Try.prog Inv (tab [(52, (KK_block_having f0))] [])) : RGood 0 Try.prog Inv (loopB (bodyOf Try.f52) 0) (R_block_having_l5 f0) :=
  have hL : LGood 0 Try.prog Inv (ltab [(5, R_block_having_l5 f0)]) (loopB (bodyOf Try.f52) 0) := (lgood_of (bs := []) (by kernel_rfl) lgood_nil)
  rgood_dec (body := fun s k => pev Try.prog (tab [(52, (KK_block_having f0))] []) (ltab [(5, R_block_having_l5 f0)]) [(0, [0]), (0, []), (5, [0, 5, 17, 18, 19]), (100005, [5])] 64 (loopB (bodyOf Try.f52) 0) s k) (live := [0, 5, 17, 18, 19]) (out := [5]) (S := S_block_having_l5) (pev_ok mixed HK (ltab [(5, R_block_having_l5 f0)]) [(0, [0]), (0, []), (5, [0, 5, 17, 18, 19]), (100005, [5])] 64 _ hL) (pev_nat HK (ltab [(5, R_block_having_l5 f0)]) [(0, [0]), (0, []), (5, [0, 5, 17, 18, 19]), (100005, [5])] 64 _ hL)
    (fun x κn κ => match x with
      | .h0 _ _ _ _ _ _ => q_block_having_l5_h0 f0 _ _ _ _ _ _ κn κ
      | .h1 _ _ _ _ => q_block_having_l5_h1 f0 _ _ _ _ κn κ
    ) d_block_having_l5 φ_block_having_l5

theorem r_block_having (f0 : ByteArray → ByteArray → ByteArray → Int → Int → List (List DV) → ByteArray → Int → Int → ByteArray → ByteArray → List (List DV) → (List (List DV) → Option DV) → Option DV) (a0 a1_0 a1_1 : ByteArray) (a1_2 a1_3 : Int) (a1_4 : List (List DV)) (a1_5 : ByteArray) (a1_6 a1_7 : Int) (a1_8 a1_9 : ByteArray) (a1_10 : List (List DV)) (k : DV → Option DV) : B_block_having f0 a0 a1_0 a1_1 a1_2 a1_3 a1_4 a1_5 a1_6 a1_7 a1_8 a1_9 a1_10 (fun r0_0 => k (.lst 11 r0_0)) = pevL Try.prog (tab [(52, (KK_block_having f0))] []) (ltab [(5, R_block_having_l5 f0)]) [(0, [0]), (0, []), (5, [0, 5, 17, 18, 19]), (100005, [5])] 64 Try.f52 (bodyOf Try.f52) [.val (.string a0), .agg [.val (.string a1_0), .val (.string a1_1), .val (.int .i64 a1_2), .val (.int .i64 a1_3), .lst 2 a1_4, .val (.string a1_5), .val (.int .i64 a1_6), .val (.int .i64 a1_7), .val (.string a1_8), .val (.string a1_9), .lst 11 a1_10]] k := by kernel_rfl

theorem m_G_block_having (N : Nat) : ∀ n, Meets Try.prog Inv 52 (KK_block_having (block_having_n N n))
  | 0 => meets_none (by intro ds k; unfold KK_block_having; split <;> rfl)
  | n + 1 => by
    have ih := m_G_block_having N n
    exact meets_of_pevL mixed stab (kgood stab (tab_cons (ih) (tab_nil _ _)) (tabH_nil _ _)) Try.func52 (by kernel_rfl) (by kernel_rfl) (by
    intro ds; unfold KK_block_having; split
    · exact .inr ⟨(ltab [(5, R_block_having_l5 (block_having_n N n))]), [(0, [0]), (0, []), (5, [0, 5, 17, 18, 19]), (100005, [5])], 64, lgood_of (bs := [loopB (bodyOf Try.f52) 0]) (by kernel_rfl) (lgood_cons (by kernel_rfl) (g_block_having_l5 (block_having_n N n) (kgood stab (tab_cons (ih) (tab_nil _ _)) (tabH_nil _ _))) lgood_nil), fun k => r_block_having (block_having_n N n) _ _ _ _ _ _ _ _ _ _ _ _ k⟩
    · exact .inl (fun _ => rfl))

theorem m_block_having (N : Nat) : Meets Try.prog Inv 52 (KK_block_having (block_having N)) := (m_G_block_having N N)

end Go.Proofs.Ytdfhakhapblhgaa
