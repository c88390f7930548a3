/-
  Diagrams, read as plain functions.
-/
import Derived.Test.YtdfhakhapblhgaaRb
set_option linter.all false
namespace Go.Proofs.Ytdfhakhapblhgaa
open Go.Pv Go.RowKit
set_option maxRecDepth 100000
inductive X_block_copied_l4 where
  | h0 (x0 : List (List DV)) (x1 : Int) (x2 : Int) (x3 : ByteArray) (x4 : ByteArray) (x5 : Int) (x6 : Int) (x7 : List (List DV)) (x8 : ByteArray) (x9 : Int) (x10 : Int) (x11 : ByteArray) (x12 : ByteArray) (x13 : List (List DV)) (x14 : ByteArray) (x15 : ByteArray) (x16 : Int) (x17 : Int) (x18 : ByteArray) (x19 : Int) (x20 : Int) (x21 : ByteArray) (x22 : ByteArray)
  | h1 (x0 : Nat) (x1 : Int) (x2 : Int) (x3 : ByteArray) (x4 : ByteArray) (x5 : Int) (x6 : Int) (x7 : List (List DV)) (x8 : ByteArray) (x9 : Int) (x10 : Int) (x11 : ByteArray) (x12 : ByteArray) (x13 : Nat) (x14 : ByteArray) (x15 : ByteArray) (x16 : Int) (x17 : Int) (x18 : ByteArray) (x19 : Int) (x20 : Int) (x21 : ByteArray) (x22 : ByteArray) (x23 : List DV)
  | h2 (x0 : List (List DV)) (x1 : Int) (x2 : Int) (x3 : ByteArray) (x4 : ByteArray) (x5 : Int) (x6 : Int) (x7 : Nat) (x8 : ByteArray) (x9 : Int) (x10 : Int) (x11 : ByteArray) (x12 : ByteArray) (x13 : List (List DV)) (x14 : ByteArray) (x15 : ByteArray) (x16 : Int) (x17 : Int) (x18 : ByteArray) (x19 : Int) (x20 : Int) (x21 : ByteArray) (x22 : ByteArray) (x23 : List DV)
  | h3 (x0 : Nat) (x1 : Int) (x2 : Int) (x3 : ByteArray) (x4 : ByteArray) (x5 : Int) (x6 : Int) (x7 : Nat) (x8 : ByteArray) (x9 : Int) (x10 : Int) (x11 : ByteArray) (x12 : ByteArray) (x13 : Nat) (x14 : ByteArray) (x15 : ByteArray) (x16 : Int) (x17 : Int) (x18 : ByteArray) (x19 : Int) (x20 : Int) (x21 : ByteArray) (x22 : ByteArray) (x23 : List DV) (x24 : List DV)
def φ_block_copied_l4 : X_block_copied_l4 → Nat
  | .h0 x0 x1 x2 x3 x4 x5 x6 x7 x8 x9 x10 x11 x12 x13 x14 x15 x16 x17 x18 x19 x20 x21 x22 => Int.toNat (x1 - x2) + 1
  | .h1 x0 x1 x2 x3 x4 x5 x6 x7 x8 x9 x10 x11 x12 x13 x14 x15 x16 x17 x18 x19 x20 x21 x22 x23 => Int.toNat (x1 - x2) + 1
  | .h2 x0 x1 x2 x3 x4 x5 x6 x7 x8 x9 x10 x11 x12 x13 x14 x15 x16 x17 x18 x19 x20 x21 x22 x23 => Int.toNat (x1 - x2) + 1
  | .h3 x0 x1 x2 x3 x4 x5 x6 x7 x8 x9 x10 x11 x12 x13 x14 x15 x16 x17 x18 x19 x20 x21 x22 x23 x24 => Int.toNat (x1 - x2) + 1
noncomputable def S_block_copied_l4 : X_block_copied_l4 → St
  | .h0 x0 x1 x2 x3 x4 x5 x6 x7 x8 x9 x10 x11 x12 x13 x14 x15 x16 x17 x18 x19 x20 x21 x22 => ⟨mkT [(1, .ptr 0 0), (2, .ptr 1 0), (14, .dv (.lst 11 x0)), (15, .dv (.val (.int .i64 x1))), (16, .dv (.val (.int .i64 x2)))] (.leaf .dead), 29, [some (.mix [.dv (.val (.string x3)), .dv (.val (.string x4)), .dv (.val (.int .i64 x5)), .dv (.val (.int .i64 x6)), .dv (.lst 2 x7), .dv (.val (.string x8)), .dv (.val (.int .i64 x9)), .dv (.val (.int .i64 x10)), .dv (.val (.string x11)), .dv (.val (.string x12)), .dv (.lst 11 x13)]), some (.mix [.dv (.val (.string x14)), .dv (.val (.string x15)), .dv (.val (.int .i64 x16)), .dv (.val (.int .i64 x17)), .dv (.val (.slice none 0 0)), .dv (.val (.string x18)), .dv (.val (.int .i64 x19)), .dv (.val (.int .i64 x20)), .dv (.val (.string x21)), .dv (.val (.string x22)), .dv (.val (.slice none 0 0))])]⟩
  | .h1 x0 x1 x2 x3 x4 x5 x6 x7 x8 x9 x10 x11 x12 x13 x14 x15 x16 x17 x18 x19 x20 x21 x22 x23 => ⟨mkT [(1, .ptr 0 0), (2, .ptr 1 0), (14, .osl 27 11 2 0 x0), (15, .dv (.val (.int .i64 x1))), (16, .dv (.val (.int .i64 x2)))] (.leaf .dead), 29, [some (.mix [.dv (.val (.string x3)), .dv (.val (.string x4)), .dv (.val (.int .i64 x5)), .dv (.val (.int .i64 x6)), .dv (.lst 2 x7), .dv (.val (.string x8)), .dv (.val (.int .i64 x9)), .dv (.val (.int .i64 x10)), .dv (.val (.string x11)), .dv (.val (.string x12)), .osl 27 11 2 0 x13]), some (.mix [.dv (.val (.string x14)), .dv (.val (.string x15)), .dv (.val (.int .i64 x16)), .dv (.val (.int .i64 x17)), .dv (.val (.slice none 0 0)), .dv (.val (.string x18)), .dv (.val (.int .i64 x19)), .dv (.val (.int .i64 x20)), .dv (.val (.string x21)), .dv (.val (.string x22)), .dv (.val (.slice none 0 0))]), some (.cells x23)]⟩
  | .h2 x0 x1 x2 x3 x4 x5 x6 x7 x8 x9 x10 x11 x12 x13 x14 x15 x16 x17 x18 x19 x20 x21 x22 x23 => ⟨mkT [(1, .ptr 0 0), (2, .ptr 1 0), (14, .dv (.lst 11 x0)), (15, .dv (.val (.int .i64 x1))), (16, .dv (.val (.int .i64 x2)))] (.leaf .dead), 29, [some (.mix [.dv (.val (.string x3)), .dv (.val (.string x4)), .dv (.val (.int .i64 x5)), .dv (.val (.int .i64 x6)), .osl 38 2 2 0 x7, .dv (.val (.string x8)), .dv (.val (.int .i64 x9)), .dv (.val (.int .i64 x10)), .dv (.val (.string x11)), .dv (.val (.string x12)), .dv (.lst 11 x13)]), some (.mix [.dv (.val (.string x14)), .dv (.val (.string x15)), .dv (.val (.int .i64 x16)), .dv (.val (.int .i64 x17)), .dv (.val (.slice none 0 0)), .dv (.val (.string x18)), .dv (.val (.int .i64 x19)), .dv (.val (.int .i64 x20)), .dv (.val (.string x21)), .dv (.val (.string x22)), .dv (.val (.slice none 0 0))]), some (.cells x23)]⟩
  | .h3 x0 x1 x2 x3 x4 x5 x6 x7 x8 x9 x10 x11 x12 x13 x14 x15 x16 x17 x18 x19 x20 x21 x22 x23 x24 => ⟨mkT [(1, .ptr 0 0), (2, .ptr 1 0), (14, .osl 27 11 2 0 x0), (15, .dv (.val (.int .i64 x1))), (16, .dv (.val (.int .i64 x2)))] (.leaf .dead), 29, [some (.mix [.dv (.val (.string x3)), .dv (.val (.string x4)), .dv (.val (.int .i64 x5)), .dv (.val (.int .i64 x6)), .osl 38 2 3 0 x7, .dv (.val (.string x8)), .dv (.val (.int .i64 x9)), .dv (.val (.int .i64 x10)), .dv (.val (.string x11)), .dv (.val (.string x12)), .osl 27 11 2 0 x13]), some (.mix [.dv (.val (.string x14)), .dv (.val (.string x15)), .dv (.val (.int .i64 x16)), .dv (.val (.int .i64 x17)), .dv (.val (.slice none 0 0)), .dv (.val (.string x18)), .dv (.val (.int .i64 x19)), .dv (.val (.int .i64 x20)), .dv (.val (.string x21)), .dv (.val (.string x22)), .dv (.val (.slice none 0 0))]), some (.cells x23), some (.cells x24)]⟩

noncomputable def oc_block_copied_l4 (k : KC) : (ByteArray → ByteArray → Int → Int → List (List DV) → ByteArray → Int → Int → ByteArray → ByteArray → List (List DV) → ByteArray → ByteArray → Int → Int → ByteArray → Int → Int → ByteArray → ByteArray → Option DV) × (ByteArray → ByteArray → Int → Int → List (List DV) → ByteArray → Int → Int → ByteArray → ByteArray → Nat → ByteArray → ByteArray → Int → Int → ByteArray → Int → Int → ByteArray → ByteArray → List DV → Option DV) × (ByteArray → ByteArray → Int → Int → Nat → ByteArray → Int → Int → ByteArray → ByteArray → List (List DV) → ByteArray → ByteArray → Int → Int → ByteArray → Int → Int → ByteArray → ByteArray → List DV → Option DV) × (ByteArray → ByteArray → Int → Int → Nat → ByteArray → Int → Int → ByteArray → ByteArray → Nat → ByteArray → ByteArray → Int → Int → ByteArray → Int → Int → ByteArray → ByteArray → List DV → List DV → Option DV) := (fun y0 y1 y2 y3 y4 y5 y6 y7 y8 y9 y10 y11 y12 y13 y14 y15 y16 y17 y18 y19 => k (.exit 0) ⟨mkT [(1, .ptr 0 0), (2, .ptr 1 0)] (.leaf .dead), 29, [some (.mix [.dv (.val (.string y0)), .dv (.val (.string y1)), .dv (.val (.int .i64 y2)), .dv (.val (.int .i64 y3)), .dv (.lst 2 y4), .dv (.val (.string y5)), .dv (.val (.int .i64 y6)), .dv (.val (.int .i64 y7)), .dv (.val (.string y8)), .dv (.val (.string y9)), .dv (.lst 11 y10)]), some (.mix [.dv (.val (.string y11)), .dv (.val (.string y12)), .dv (.val (.int .i64 y13)), .dv (.val (.int .i64 y14)), .dv (.val (.slice none 0 0)), .dv (.val (.string y15)), .dv (.val (.int .i64 y16)), .dv (.val (.int .i64 y17)), .dv (.val (.string y18)), .dv (.val (.string y19)), .dv (.val (.slice none 0 0))])]⟩, fun y0 y1 y2 y3 y4 y5 y6 y7 y8 y9 y10 y11 y12 y13 y14 y15 y16 y17 y18 y19 y20 => k (.exit 0) ⟨mkT [(1, .ptr 0 0), (2, .ptr 1 0)] (.leaf .dead), 29, [some (.mix [.dv (.val (.string y0)), .dv (.val (.string y1)), .dv (.val (.int .i64 y2)), .dv (.val (.int .i64 y3)), .dv (.lst 2 y4), .dv (.val (.string y5)), .dv (.val (.int .i64 y6)), .dv (.val (.int .i64 y7)), .dv (.val (.string y8)), .dv (.val (.string y9)), .osl 27 11 2 0 y10]), some (.mix [.dv (.val (.string y11)), .dv (.val (.string y12)), .dv (.val (.int .i64 y13)), .dv (.val (.int .i64 y14)), .dv (.val (.slice none 0 0)), .dv (.val (.string y15)), .dv (.val (.int .i64 y16)), .dv (.val (.int .i64 y17)), .dv (.val (.string y18)), .dv (.val (.string y19)), .dv (.val (.slice none 0 0))]), some (.cells y20)]⟩, fun y0 y1 y2 y3 y4 y5 y6 y7 y8 y9 y10 y11 y12 y13 y14 y15 y16 y17 y18 y19 y20 => k (.exit 0) ⟨mkT [(1, .ptr 0 0), (2, .ptr 1 0)] (.leaf .dead), 29, [some (.mix [.dv (.val (.string y0)), .dv (.val (.string y1)), .dv (.val (.int .i64 y2)), .dv (.val (.int .i64 y3)), .osl 38 2 2 0 y4, .dv (.val (.string y5)), .dv (.val (.int .i64 y6)), .dv (.val (.int .i64 y7)), .dv (.val (.string y8)), .dv (.val (.string y9)), .dv (.lst 11 y10)]), some (.mix [.dv (.val (.string y11)), .dv (.val (.string y12)), .dv (.val (.int .i64 y13)), .dv (.val (.int .i64 y14)), .dv (.val (.slice none 0 0)), .dv (.val (.string y15)), .dv (.val (.int .i64 y16)), .dv (.val (.int .i64 y17)), .dv (.val (.string y18)), .dv (.val (.string y19)), .dv (.val (.slice none 0 0))]), some (.cells y20)]⟩, fun y0 y1 y2 y3 y4 y5 y6 y7 y8 y9 y10 y11 y12 y13 y14 y15 y16 y17 y18 y19 y20 y21 => k (.exit 0) ⟨mkT [(1, .ptr 0 0), (2, .ptr 1 0)] (.leaf .dead), 29, [some (.mix [.dv (.val (.string y0)), .dv (.val (.string y1)), .dv (.val (.int .i64 y2)), .dv (.val (.int .i64 y3)), .osl 38 2 2 0 y4, .dv (.val (.string y5)), .dv (.val (.int .i64 y6)), .dv (.val (.int .i64 y7)), .dv (.val (.string y8)), .dv (.val (.string y9)), .osl 27 11 3 0 y10]), some (.mix [.dv (.val (.string y11)), .dv (.val (.string y12)), .dv (.val (.int .i64 y13)), .dv (.val (.int .i64 y14)), .dv (.val (.slice none 0 0)), .dv (.val (.string y15)), .dv (.val (.int .i64 y16)), .dv (.val (.int .i64 y17)), .dv (.val (.string y18)), .dv (.val (.string y19)), .dv (.val (.slice none 0 0))]), some (.cells y20), some (.cells y21)]⟩)

noncomputable def B_block_copied_l4_h0 (f0 : ByteArray → ByteArray → Int → Int → List (List DV) → ByteArray → Int → Int → ByteArray → ByteArray → List (List DV) → (ByteArray → ByteArray → Int → Int → List (List DV) → ByteArray → Int → Int → ByteArray → ByteArray → List (List DV) → Option DV) → Option DV) (x0 : List (List DV)) (x1 : Int) (x2 : Int) (x3 : ByteArray) (x4 : ByteArray) (x5 : Int) (x6 : Int) (x7 : List (List DV)) (x8 : ByteArray) (x9 : Int) (x10 : Int) (x11 : ByteArray) (x12 : ByteArray) (x13 : List (List DV)) (x14 : ByteArray) (x15 : ByteArray) (x16 : Int) (x17 : Int) (x18 : ByteArray) (x19 : Int) (x20 : Int) (x21 : ByteArray) (x22 : ByteArray) (κn : X_block_copied_l4 → Option DV) (κ0 : ByteArray → ByteArray → Int → Int → List (List DV) → ByteArray → Int → Int → ByteArray → ByteArray → List (List DV) → ByteArray → ByteArray → Int → Int → ByteArray → Int → Int → ByteArray → ByteArray → Option DV) (κ1 : ByteArray → ByteArray → Int → Int → List (List DV) → ByteArray → Int → Int → ByteArray → ByteArray → Nat → ByteArray → ByteArray → Int → Int → ByteArray → Int → Int → ByteArray → ByteArray → List DV → Option DV) (κ2 : ByteArray → ByteArray → Int → Int → Nat → ByteArray → Int → Int → ByteArray → ByteArray → List (List DV) → ByteArray → ByteArray → Int → Int → ByteArray → Int → Int → ByteArray → ByteArray → List DV → Option DV) (κ3 : ByteArray → ByteArray → Int → Int → Nat → ByteArray → Int → Int → ByteArray → ByteArray → Nat → ByteArray → ByteArray → Int → Int → ByteArray → Int → Int → ByteArray → ByteArray → List DV → List DV → Option DV) : Option DV :=
  bx (decide (x2 < x1)) (bx (decide (0 ≤ x2)) (optE (x0[Int.toNat x2]?) (fun e1 => ld_ssiil2siissl11 e1 0 (fun v2 v3 v4 v5 v6 v7 v8 v9 v10 v11 v12 => f0 v2 v3 v4 v5 v6 v7 v8 v9 v10 v11 v12 (fun r13 r14 r15 r16 r17 r18 r19 r20 r21 r22 r23 => bx (decide (0 ≤ x2)) (optE (x13[Int.toNat x2]?) (fun e24 => none)) none)))) none) (κ0 x3 x4 x5 x6 x7 x8 x9 x10 x11 x12 x13 x14 x15 x16 x17 x18 x19 x20 x21 x22)

noncomputable def B_block_copied_l4_h1 (f0 : ByteArray → ByteArray → Int → Int → List (List DV) → ByteArray → Int → Int → ByteArray → ByteArray → List (List DV) → (ByteArray → ByteArray → Int → Int → List (List DV) → ByteArray → Int → Int → ByteArray → ByteArray → List (List DV) → Option DV) → Option DV) (x0 : Nat) (x1 : Int) (x2 : Int) (x3 : ByteArray) (x4 : ByteArray) (x5 : Int) (x6 : Int) (x7 : List (List DV)) (x8 : ByteArray) (x9 : Int) (x10 : Int) (x11 : ByteArray) (x12 : ByteArray) (x13 : Nat) (x14 : ByteArray) (x15 : ByteArray) (x16 : Int) (x17 : Int) (x18 : ByteArray) (x19 : Int) (x20 : Int) (x21 : ByteArray) (x22 : ByteArray) (x23 : List DV) (κn : X_block_copied_l4 → Option DV) (κ0 : ByteArray → ByteArray → Int → Int → List (List DV) → ByteArray → Int → Int → ByteArray → ByteArray → List (List DV) → ByteArray → ByteArray → Int → Int → ByteArray → Int → Int → ByteArray → ByteArray → Option DV) (κ1 : ByteArray → ByteArray → Int → Int → List (List DV) → ByteArray → Int → Int → ByteArray → ByteArray → Nat → ByteArray → ByteArray → Int → Int → ByteArray → Int → Int → ByteArray → ByteArray → List DV → Option DV) (κ2 : ByteArray → ByteArray → Int → Int → Nat → ByteArray → Int → Int → ByteArray → ByteArray → List (List DV) → ByteArray → ByteArray → Int → Int → ByteArray → Int → Int → ByteArray → ByteArray → List DV → Option DV) (κ3 : ByteArray → ByteArray → Int → Int → Nat → ByteArray → Int → Int → ByteArray → ByteArray → Nat → ByteArray → ByteArray → Int → Int → ByteArray → Int → Int → ByteArray → ByteArray → List DV → List DV → Option DV) : Option DV :=
  bx (decide (x2 < x1)) (bx ((decide (0 ≤ x2) && decide (x2 < ((x0 : Nat) : Int)))) (ld_ssiil2siissl11 x23 (0 + Int.toNat x2 * 11) (fun v25 v26 v27 v28 v29 v30 v31 v32 v33 v34 v35 => f0 v25 v26 v27 v28 v29 v30 v31 v32 v33 v34 v35 (fun r36 r37 r38 r39 r40 r41 r42 r43 r44 r45 r46 => bx ((decide (0 ≤ x2) && decide (x2 < ((x13 : Nat) : Int)))) (bx ((true && Nat.ble (0 + Int.toNat x2 * 11 + 11) (List.length x23) && true)) (κn (X_block_copied_l4.h1 x0 x1 (IntKind.wrap .i64 (x2 + 1)) x3 x4 x5 x6 x7 x8 x9 x10 x11 x12 x13 x14 x15 x16 x17 x18 x19 x20 x21 x22 (List.take (0 + Int.toNat x2 * 11) x23 ++ [.val (.string r36), .val (.string r37), .val (.int .i64 r38), .val (.int .i64 r39), .lst 2 r40, .val (.string r41), .val (.int .i64 r42), .val (.int .i64 r43), .val (.string r44), .val (.string r45), .lst 11 r46] ++ List.drop (0 + Int.toNat x2 * 11 + 11) x23))) none) none))) none) (κ1 x3 x4 x5 x6 x7 x8 x9 x10 x11 x12 x13 x14 x15 x16 x17 x18 x19 x20 x21 x22 x23)

noncomputable def B_block_copied_l4_h2 (f0 : ByteArray → ByteArray → Int → Int → List (List DV) → ByteArray → Int → Int → ByteArray → ByteArray → List (List DV) → (ByteArray → ByteArray → Int → Int → List (List DV) → ByteArray → Int → Int → ByteArray → ByteArray → List (List DV) → Option DV) → Option DV) (x0 : List (List DV)) (x1 : Int) (x2 : Int) (x3 : ByteArray) (x4 : ByteArray) (x5 : Int) (x6 : Int) (x7 : Nat) (x8 : ByteArray) (x9 : Int) (x10 : Int) (x11 : ByteArray) (x12 : ByteArray) (x13 : List (List DV)) (x14 : ByteArray) (x15 : ByteArray) (x16 : Int) (x17 : Int) (x18 : ByteArray) (x19 : Int) (x20 : Int) (x21 : ByteArray) (x22 : ByteArray) (x23 : List DV) (κn : X_block_copied_l4 → Option DV) (κ0 : ByteArray → ByteArray → Int → Int → List (List DV) → ByteArray → Int → Int → ByteArray → ByteArray → List (List DV) → ByteArray → ByteArray → Int → Int → ByteArray → Int → Int → ByteArray → ByteArray → Option DV) (κ1 : ByteArray → ByteArray → Int → Int → List (List DV) → ByteArray → Int → Int → ByteArray → ByteArray → Nat → ByteArray → ByteArray → Int → Int → ByteArray → Int → Int → ByteArray → ByteArray → List DV → Option DV) (κ2 : ByteArray → ByteArray → Int → Int → Nat → ByteArray → Int → Int → ByteArray → ByteArray → List (List DV) → ByteArray → ByteArray → Int → Int → ByteArray → Int → Int → ByteArray → ByteArray → List DV → Option DV) (κ3 : ByteArray → ByteArray → Int → Int → Nat → ByteArray → Int → Int → ByteArray → ByteArray → Nat → ByteArray → ByteArray → Int → Int → ByteArray → Int → Int → ByteArray → ByteArray → List DV → List DV → Option DV) : Option DV :=
  bx (decide (x2 < x1)) (bx (decide (0 ≤ x2)) (optE (x0[Int.toNat x2]?) (fun e47 => ld_ssiil2siissl11 e47 0 (fun v48 v49 v50 v51 v52 v53 v54 v55 v56 v57 v58 => f0 v48 v49 v50 v51 v52 v53 v54 v55 v56 v57 v58 (fun r59 r60 r61 r62 r63 r64 r65 r66 r67 r68 r69 => bx (decide (0 ≤ x2)) (optE (x13[Int.toNat x2]?) (fun e70 => none)) none)))) none) (κ2 x3 x4 x5 x6 x7 x8 x9 x10 x11 x12 x13 x14 x15 x16 x17 x18 x19 x20 x21 x22 x23)

noncomputable def B_block_copied_l4_h3 (f0 : ByteArray → ByteArray → Int → Int → List (List DV) → ByteArray → Int → Int → ByteArray → ByteArray → List (List DV) → (ByteArray → ByteArray → Int → Int → List (List DV) → ByteArray → Int → Int → ByteArray → ByteArray → List (List DV) → Option DV) → Option DV) (x0 : Nat) (x1 : Int) (x2 : Int) (x3 : ByteArray) (x4 : ByteArray) (x5 : Int) (x6 : Int) (x7 : Nat) (x8 : ByteArray) (x9 : Int) (x10 : Int) (x11 : ByteArray) (x12 : ByteArray) (x13 : Nat) (x14 : ByteArray) (x15 : ByteArray) (x16 : Int) (x17 : Int) (x18 : ByteArray) (x19 : Int) (x20 : Int) (x21 : ByteArray) (x22 : ByteArray) (x23 : List DV) (x24 : List DV) (κn : X_block_copied_l4 → Option DV) (κ0 : ByteArray → ByteArray → Int → Int → List (List DV) → ByteArray → Int → Int → ByteArray → ByteArray → List (List DV) → ByteArray → ByteArray → Int → Int → ByteArray → Int → Int → ByteArray → ByteArray → Option DV) (κ1 : ByteArray → ByteArray → Int → Int → List (List DV) → ByteArray → Int → Int → ByteArray → ByteArray → Nat → ByteArray → ByteArray → Int → Int → ByteArray → Int → Int → ByteArray → ByteArray → List DV → Option DV) (κ2 : ByteArray → ByteArray → Int → Int → Nat → ByteArray → Int → Int → ByteArray → ByteArray → List (List DV) → ByteArray → ByteArray → Int → Int → ByteArray → Int → Int → ByteArray → ByteArray → List DV → Option DV) (κ3 : ByteArray → ByteArray → Int → Int → Nat → ByteArray → Int → Int → ByteArray → ByteArray → Nat → ByteArray → ByteArray → Int → Int → ByteArray → Int → Int → ByteArray → ByteArray → List DV → List DV → Option DV) : Option DV :=
  bx (decide (x2 < x1)) (bx ((decide (0 ≤ x2) && decide (x2 < ((x0 : Nat) : Int)))) (ld_ssiil2siissl11 x23 (0 + Int.toNat x2 * 11) (fun v71 v72 v73 v74 v75 v76 v77 v78 v79 v80 v81 => f0 v71 v72 v73 v74 v75 v76 v77 v78 v79 v80 v81 (fun r82 r83 r84 r85 r86 r87 r88 r89 r90 r91 r92 => bx ((decide (0 ≤ x2) && decide (x2 < ((x13 : Nat) : Int)))) (bx ((true && Nat.ble (0 + Int.toNat x2 * 11 + 11) (List.length x23) && true)) (κn (X_block_copied_l4.h3 x0 x1 (IntKind.wrap .i64 (x2 + 1)) x3 x4 x5 x6 x7 x8 x9 x10 x11 x12 x13 x14 x15 x16 x17 x18 x19 x20 x21 x22 (List.take (0 + Int.toNat x2 * 11) x23 ++ [.val (.string r82), .val (.string r83), .val (.int .i64 r84), .val (.int .i64 r85), .lst 2 r86, .val (.string r87), .val (.int .i64 r88), .val (.int .i64 r89), .val (.string r90), .val (.string r91), .lst 11 r92] ++ List.drop (0 + Int.toNat x2 * 11 + 11) x23) x24)) none) none))) none) (κ3 x3 x4 x5 x6 x7 x8 x9 x10 x11 x12 x13 x14 x15 x16 x17 x18 x19 x20 x21 x22 x24 x23)

noncomputable def F_block_copied_l4 (f0 : ByteArray → ByteArray → Int → Int → List (List DV) → ByteArray → Int → Int → ByteArray → ByteArray → List (List DV) → (ByteArray → ByteArray → Int → Int → List (List DV) → ByteArray → Int → Int → ByteArray → ByteArray → List (List DV) → Option DV) → Option DV) : X_block_copied_l4 → (X_block_copied_l4 → Option DV) → ((ByteArray → ByteArray → Int → Int → List (List DV) → ByteArray → Int → Int → ByteArray → ByteArray → List (List DV) → ByteArray → ByteArray → Int → Int → ByteArray → Int → Int → ByteArray → ByteArray → Option DV) × (ByteArray → ByteArray → Int → Int → List (List DV) → ByteArray → Int → Int → ByteArray → ByteArray → Nat → ByteArray → ByteArray → Int → Int → ByteArray → Int → Int → ByteArray → ByteArray → List DV → Option DV) × (ByteArray → ByteArray → Int → Int → Nat → ByteArray → Int → Int → ByteArray → ByteArray → List (List DV) → ByteArray → ByteArray → Int → Int → ByteArray → Int → Int → ByteArray → ByteArray → List DV → Option DV) × (ByteArray → ByteArray → Int → Int → Nat → ByteArray → Int → Int → ByteArray → ByteArray → Nat → ByteArray → ByteArray → Int → Int → ByteArray → Int → Int → ByteArray → ByteArray → List DV → List DV → Option DV)) → Option DV
  | .h0 x0 x1 x2 x3 x4 x5 x6 x7 x8 x9 x10 x11 x12 x13 x14 x15 x16 x17 x18 x19 x20 x21 x22, κn, κ => B_block_copied_l4_h0 f0 x0 x1 x2 x3 x4 x5 x6 x7 x8 x9 x10 x11 x12 x13 x14 x15 x16 x17 x18 x19 x20 x21 x22 κn κ.1 κ.2.1 κ.2.2.1 κ.2.2.2
  | .h1 x0 x1 x2 x3 x4 x5 x6 x7 x8 x9 x10 x11 x12 x13 x14 x15 x16 x17 x18 x19 x20 x21 x22 x23, κn, κ => B_block_copied_l4_h1 f0 x0 x1 x2 x3 x4 x5 x6 x7 x8 x9 x10 x11 x12 x13 x14 x15 x16 x17 x18 x19 x20 x21 x22 x23 κn κ.1 κ.2.1 κ.2.2.1 κ.2.2.2
  | .h2 x0 x1 x2 x3 x4 x5 x6 x7 x8 x9 x10 x11 x12 x13 x14 x15 x16 x17 x18 x19 x20 x21 x22 x23, κn, κ => B_block_copied_l4_h2 f0 x0 x1 x2 x3 x4 x5 x6 x7 x8 x9 x10 x11 x12 x13 x14 x15 x16 x17 x18 x19 x20 x21 x22 x23 κn κ.1 κ.2.1 κ.2.2.1 κ.2.2.2
  | .h3 x0 x1 x2 x3 x4 x5 x6 x7 x8 x9 x10 x11 x12 x13 x14 x15 x16 x17 x18 x19 x20 x21 x22 x23 x24, κn, κ => B_block_copied_l4_h3 f0 x0 x1 x2 x3 x4 x5 x6 x7 x8 x9 x10 x11 x12 x13 x14 x15 x16 x17 x18 x19 x20 x21 x22 x23 x24 κn κ.1 κ.2.1 κ.2.2.1 κ.2.2.2

noncomputable def dec_block_copied_l4 (s : St) : Option X_block_copied_l4 :=
  orO (bindO (xN s.n 29) fun u => bindO (xP 0 0 (s.tmps.get 1)) fun u1 => bindO (xP 1 0 (s.tmps.get 2)) fun u2 => bindO (xD (s.tmps.get 14)) fun d3 => bindO (xL 11 d3) fun x0 => bindO (xD (s.tmps.get 15)) fun d5 => bindO (xI .i64 d5) fun x1 => bindO (xD (s.tmps.get 16)) fun d7 => bindO (xI .i64 d7) fun x2 => bindO (xMix s.heap) fun p9 => bindO (xUn p9.1) fun q10 => bindO (xD q10.1) fun d11 => bindO (xS d11) fun x3 => bindO (xUn q10.2) fun q13 => bindO (xD q13.1) fun d14 => bindO (xS d14) fun x4 => bindO (xUn q13.2) fun q16 => bindO (xD q16.1) fun d17 => bindO (xI .i64 d17) fun x5 => bindO (xUn q16.2) fun q19 => bindO (xD q19.1) fun d20 => bindO (xI .i64 d20) fun x6 => bindO (xUn q19.2) fun q22 => bindO (xD q22.1) fun d23 => bindO (xL 2 d23) fun x7 => bindO (xUn q22.2) fun q25 => bindO (xD q25.1) fun d26 => bindO (xS d26) fun x8 => bindO (xUn q25.2) fun q28 => bindO (xD q28.1) fun d29 => bindO (xI .i64 d29) fun x9 => bindO (xUn q28.2) fun q31 => bindO (xD q31.1) fun d32 => bindO (xI .i64 d32) fun x10 => bindO (xUn q31.2) fun q34 => bindO (xD q34.1) fun d35 => bindO (xS d35) fun x11 => bindO (xUn q34.2) fun q37 => bindO (xD q37.1) fun d38 => bindO (xS d38) fun x12 => bindO (xUn q37.2) fun q40 => bindO (xD q40.1) fun d41 => bindO (xL 11 d41) fun x13 => bindO (xEnd q40.2) fun u43 => bindO (xMix p9.2) fun p44 => bindO (xUn p44.1) fun q45 => bindO (xD q45.1) fun d46 => bindO (xS d46) fun x14 => bindO (xUn q45.2) fun q48 => bindO (xD q48.1) fun d49 => bindO (xS d49) fun x15 => bindO (xUn q48.2) fun q51 => bindO (xD q51.1) fun d52 => bindO (xI .i64 d52) fun x16 => bindO (xUn q51.2) fun q54 => bindO (xD q54.1) fun d55 => bindO (xI .i64 d55) fun x17 => bindO (xUn q54.2) fun q57 => bindO (xD q57.1) fun d58 => bindO (xNil d58) fun u59 => bindO (xUn q57.2) fun q60 => bindO (xD q60.1) fun d61 => bindO (xS d61) fun x18 => bindO (xUn q60.2) fun q63 => bindO (xD q63.1) fun d64 => bindO (xI .i64 d64) fun x19 => bindO (xUn q63.2) fun q66 => bindO (xD q66.1) fun d67 => bindO (xI .i64 d67) fun x20 => bindO (xUn q66.2) fun q69 => bindO (xD q69.1) fun d70 => bindO (xS d70) fun x21 => bindO (xUn q69.2) fun q72 => bindO (xD q72.1) fun d73 => bindO (xS d73) fun x22 => bindO (xUn q72.2) fun q75 => bindO (xD q75.1) fun d76 => bindO (xNil d76) fun u77 => bindO (xEnd q75.2) fun u78 => bindO (xEnd p44.2) fun u79 => some (.h0 x0 x1 x2 x3 x4 x5 x6 x7 x8 x9 x10 x11 x12 x13 x14 x15 x16 x17 x18 x19 x20 x21 x22)) (orO (bindO (xN s.n 29) fun u => bindO (xP 0 0 (s.tmps.get 1)) fun u1 => bindO (xP 1 0 (s.tmps.get 2)) fun u2 => bindO (xO 27 11 2 0 (s.tmps.get 14)) fun x0 => bindO (xD (s.tmps.get 15)) fun d4 => bindO (xI .i64 d4) fun x1 => bindO (xD (s.tmps.get 16)) fun d6 => bindO (xI .i64 d6) fun x2 => bindO (xMix s.heap) fun p8 => bindO (xUn p8.1) fun q9 => bindO (xD q9.1) fun d10 => bindO (xS d10) fun x3 => bindO (xUn q9.2) fun q12 => bindO (xD q12.1) fun d13 => bindO (xS d13) fun x4 => bindO (xUn q12.2) fun q15 => bindO (xD q15.1) fun d16 => bindO (xI .i64 d16) fun x5 => bindO (xUn q15.2) fun q18 => bindO (xD q18.1) fun d19 => bindO (xI .i64 d19) fun x6 => bindO (xUn q18.2) fun q21 => bindO (xD q21.1) fun d22 => bindO (xL 2 d22) fun x7 => bindO (xUn q21.2) fun q24 => bindO (xD q24.1) fun d25 => bindO (xS d25) fun x8 => bindO (xUn q24.2) fun q27 => bindO (xD q27.1) fun d28 => bindO (xI .i64 d28) fun x9 => bindO (xUn q27.2) fun q30 => bindO (xD q30.1) fun d31 => bindO (xI .i64 d31) fun x10 => bindO (xUn q30.2) fun q33 => bindO (xD q33.1) fun d34 => bindO (xS d34) fun x11 => bindO (xUn q33.2) fun q36 => bindO (xD q36.1) fun d37 => bindO (xS d37) fun x12 => bindO (xUn q36.2) fun q39 => bindO (xO 27 11 2 0 q39.1) fun x13 => bindO (xEnd q39.2) fun u41 => bindO (xMix p8.2) fun p42 => bindO (xUn p42.1) fun q43 => bindO (xD q43.1) fun d44 => bindO (xS d44) fun x14 => bindO (xUn q43.2) fun q46 => bindO (xD q46.1) fun d47 => bindO (xS d47) fun x15 => bindO (xUn q46.2) fun q49 => bindO (xD q49.1) fun d50 => bindO (xI .i64 d50) fun x16 => bindO (xUn q49.2) fun q52 => bindO (xD q52.1) fun d53 => bindO (xI .i64 d53) fun x17 => bindO (xUn q52.2) fun q55 => bindO (xD q55.1) fun d56 => bindO (xNil d56) fun u57 => bindO (xUn q55.2) fun q58 => bindO (xD q58.1) fun d59 => bindO (xS d59) fun x18 => bindO (xUn q58.2) fun q61 => bindO (xD q61.1) fun d62 => bindO (xI .i64 d62) fun x19 => bindO (xUn q61.2) fun q64 => bindO (xD q64.1) fun d65 => bindO (xI .i64 d65) fun x20 => bindO (xUn q64.2) fun q67 => bindO (xD q67.1) fun d68 => bindO (xS d68) fun x21 => bindO (xUn q67.2) fun q70 => bindO (xD q70.1) fun d71 => bindO (xS d71) fun x22 => bindO (xUn q70.2) fun q73 => bindO (xD q73.1) fun d74 => bindO (xNil d74) fun u75 => bindO (xEnd q73.2) fun u76 => bindO (xBlk p42.2) fun p77 => bindO (xEnd p77.2) fun u78 => some (.h1 x0 x1 x2 x3 x4 x5 x6 x7 x8 x9 x10 x11 x12 x13 x14 x15 x16 x17 x18 x19 x20 x21 x22 p77.1)) (orO (bindO (xN s.n 29) fun u => bindO (xP 0 0 (s.tmps.get 1)) fun u1 => bindO (xP 1 0 (s.tmps.get 2)) fun u2 => bindO (xD (s.tmps.get 14)) fun d3 => bindO (xL 11 d3) fun x0 => bindO (xD (s.tmps.get 15)) fun d5 => bindO (xI .i64 d5) fun x1 => bindO (xD (s.tmps.get 16)) fun d7 => bindO (xI .i64 d7) fun x2 => bindO (xMix s.heap) fun p9 => bindO (xUn p9.1) fun q10 => bindO (xD q10.1) fun d11 => bindO (xS d11) fun x3 => bindO (xUn q10.2) fun q13 => bindO (xD q13.1) fun d14 => bindO (xS d14) fun x4 => bindO (xUn q13.2) fun q16 => bindO (xD q16.1) fun d17 => bindO (xI .i64 d17) fun x5 => bindO (xUn q16.2) fun q19 => bindO (xD q19.1) fun d20 => bindO (xI .i64 d20) fun x6 => bindO (xUn q19.2) fun q22 => bindO (xO 38 2 2 0 q22.1) fun x7 => bindO (xUn q22.2) fun q24 => bindO (xD q24.1) fun d25 => bindO (xS d25) fun x8 => bindO (xUn q24.2) fun q27 => bindO (xD q27.1) fun d28 => bindO (xI .i64 d28) fun x9 => bindO (xUn q27.2) fun q30 => bindO (xD q30.1) fun d31 => bindO (xI .i64 d31) fun x10 => bindO (xUn q30.2) fun q33 => bindO (xD q33.1) fun d34 => bindO (xS d34) fun x11 => bindO (xUn q33.2) fun q36 => bindO (xD q36.1) fun d37 => bindO (xS d37) fun x12 => bindO (xUn q36.2) fun q39 => bindO (xD q39.1) fun d40 => bindO (xL 11 d40) fun x13 => bindO (xEnd q39.2) fun u42 => bindO (xMix p9.2) fun p43 => bindO (xUn p43.1) fun q44 => bindO (xD q44.1) fun d45 => bindO (xS d45) fun x14 => bindO (xUn q44.2) fun q47 => bindO (xD q47.1) fun d48 => bindO (xS d48) fun x15 => bindO (xUn q47.2) fun q50 => bindO (xD q50.1) fun d51 => bindO (xI .i64 d51) fun x16 => bindO (xUn q50.2) fun q53 => bindO (xD q53.1) fun d54 => bindO (xI .i64 d54) fun x17 => bindO (xUn q53.2) fun q56 => bindO (xD q56.1) fun d57 => bindO (xNil d57) fun u58 => bindO (xUn q56.2) fun q59 => bindO (xD q59.1) fun d60 => bindO (xS d60) fun x18 => bindO (xUn q59.2) fun q62 => bindO (xD q62.1) fun d63 => bindO (xI .i64 d63) fun x19 => bindO (xUn q62.2) fun q65 => bindO (xD q65.1) fun d66 => bindO (xI .i64 d66) fun x20 => bindO (xUn q65.2) fun q68 => bindO (xD q68.1) fun d69 => bindO (xS d69) fun x21 => bindO (xUn q68.2) fun q71 => bindO (xD q71.1) fun d72 => bindO (xS d72) fun x22 => bindO (xUn q71.2) fun q74 => bindO (xD q74.1) fun d75 => bindO (xNil d75) fun u76 => bindO (xEnd q74.2) fun u77 => bindO (xBlk p43.2) fun p78 => bindO (xEnd p78.2) fun u79 => some (.h2 x0 x1 x2 x3 x4 x5 x6 x7 x8 x9 x10 x11 x12 x13 x14 x15 x16 x17 x18 x19 x20 x21 x22 p78.1)) (bindO (xN s.n 29) fun u => bindO (xP 0 0 (s.tmps.get 1)) fun u1 => bindO (xP 1 0 (s.tmps.get 2)) fun u2 => bindO (xO 27 11 2 0 (s.tmps.get 14)) fun x0 => bindO (xD (s.tmps.get 15)) fun d4 => bindO (xI .i64 d4) fun x1 => bindO (xD (s.tmps.get 16)) fun d6 => bindO (xI .i64 d6) fun x2 => bindO (xMix s.heap) fun p8 => bindO (xUn p8.1) fun q9 => bindO (xD q9.1) fun d10 => bindO (xS d10) fun x3 => bindO (xUn q9.2) fun q12 => bindO (xD q12.1) fun d13 => bindO (xS d13) fun x4 => bindO (xUn q12.2) fun q15 => bindO (xD q15.1) fun d16 => bindO (xI .i64 d16) fun x5 => bindO (xUn q15.2) fun q18 => bindO (xD q18.1) fun d19 => bindO (xI .i64 d19) fun x6 => bindO (xUn q18.2) fun q21 => bindO (xO 38 2 3 0 q21.1) fun x7 => bindO (xUn q21.2) fun q23 => bindO (xD q23.1) fun d24 => bindO (xS d24) fun x8 => bindO (xUn q23.2) fun q26 => bindO (xD q26.1) fun d27 => bindO (xI .i64 d27) fun x9 => bindO (xUn q26.2) fun q29 => bindO (xD q29.1) fun d30 => bindO (xI .i64 d30) fun x10 => bindO (xUn q29.2) fun q32 => bindO (xD q32.1) fun d33 => bindO (xS d33) fun x11 => bindO (xUn q32.2) fun q35 => bindO (xD q35.1) fun d36 => bindO (xS d36) fun x12 => bindO (xUn q35.2) fun q38 => bindO (xO 27 11 2 0 q38.1) fun x13 => bindO (xEnd q38.2) fun u40 => bindO (xMix p8.2) fun p41 => bindO (xUn p41.1) fun q42 => bindO (xD q42.1) fun d43 => bindO (xS d43) fun x14 => bindO (xUn q42.2) fun q45 => bindO (xD q45.1) fun d46 => bindO (xS d46) fun x15 => bindO (xUn q45.2) fun q48 => bindO (xD q48.1) fun d49 => bindO (xI .i64 d49) fun x16 => bindO (xUn q48.2) fun q51 => bindO (xD q51.1) fun d52 => bindO (xI .i64 d52) fun x17 => bindO (xUn q51.2) fun q54 => bindO (xD q54.1) fun d55 => bindO (xNil d55) fun u56 => bindO (xUn q54.2) fun q57 => bindO (xD q57.1) fun d58 => bindO (xS d58) fun x18 => bindO (xUn q57.2) fun q60 => bindO (xD q60.1) fun d61 => bindO (xI .i64 d61) fun x19 => bindO (xUn q60.2) fun q63 => bindO (xD q63.1) fun d64 => bindO (xI .i64 d64) fun x20 => bindO (xUn q63.2) fun q66 => bindO (xD q66.1) fun d67 => bindO (xS d67) fun x21 => bindO (xUn q66.2) fun q69 => bindO (xD q69.1) fun d70 => bindO (xS d70) fun x22 => bindO (xUn q69.2) fun q72 => bindO (xD q72.1) fun d73 => bindO (xNil d73) fun u74 => bindO (xEnd q72.2) fun u75 => bindO (xBlk p41.2) fun p76 => bindO (xBlk p76.2) fun p77 => bindO (xEnd p77.2) fun u78 => some (.h3 x0 x1 x2 x3 x4 x5 x6 x7 x8 x9 x10 x11 x12 x13 x14 x15 x16 x17 x18 x19 x20 x21 x22 p76.1 p77.1))))

noncomputable def R_block_copied_l4 (f0 : ByteArray → ByteArray → Int → Int → List (List DV) → ByteArray → Int → Int → ByteArray → ByteArray → List (List DV) → (ByteArray → ByteArray → Int → Int → List (List DV) → ByteArray → Int → Int → ByteArray → ByteArray → List (List DV) → Option DV) → Option DV) : St → KC → Option DV := decR dec_block_copied_l4 (F_block_copied_l4 f0) φ_block_copied_l4 oc_block_copied_l4

theorem d_block_copied_l4 : ∀ s x, dec_block_copied_l4 s = some x → SLe s (S_block_copied_l4 x) := by
  intro s x h
  unfold dec_block_copied_l4 at h
  rcases orO_some h with h | h
  · obtain ⟨u, en, h⟩ := bindO_some h
    obtain ⟨u1, e1, h⟩ := bindO_some h
    obtain ⟨u2, e2, h⟩ := bindO_some h
    obtain ⟨d3, e3, h⟩ := bindO_some h
    obtain ⟨x0, e4, h⟩ := bindO_some h
    obtain ⟨d5, e5, h⟩ := bindO_some h
    obtain ⟨x1, e6, h⟩ := bindO_some h
    obtain ⟨d7, e7, h⟩ := bindO_some h
    obtain ⟨x2, e8, h⟩ := bindO_some h
    obtain ⟨p9, e9, h⟩ := bindO_some h
    obtain ⟨q10, e10, h⟩ := bindO_some h
    obtain ⟨d11, e11, h⟩ := bindO_some h
    obtain ⟨x3, e12, h⟩ := bindO_some h
    obtain ⟨q13, e13, h⟩ := bindO_some h
    obtain ⟨d14, e14, h⟩ := bindO_some h
    obtain ⟨x4, e15, h⟩ := bindO_some h
    obtain ⟨q16, e16, h⟩ := bindO_some h
    obtain ⟨d17, e17, h⟩ := bindO_some h
    obtain ⟨x5, e18, h⟩ := bindO_some h
    obtain ⟨q19, e19, h⟩ := bindO_some h
    obtain ⟨d20, e20, h⟩ := bindO_some h
    obtain ⟨x6, e21, h⟩ := bindO_some h
    obtain ⟨q22, e22, h⟩ := bindO_some h
    obtain ⟨d23, e23, h⟩ := bindO_some h
    obtain ⟨x7, e24, h⟩ := bindO_some h
    obtain ⟨q25, e25, h⟩ := bindO_some h
    obtain ⟨d26, e26, h⟩ := bindO_some h
    obtain ⟨x8, e27, h⟩ := bindO_some h
    obtain ⟨q28, e28, h⟩ := bindO_some h
    obtain ⟨d29, e29, h⟩ := bindO_some h
    obtain ⟨x9, e30, h⟩ := bindO_some h
    obtain ⟨q31, e31, h⟩ := bindO_some h
    obtain ⟨d32, e32, h⟩ := bindO_some h
    obtain ⟨x10, e33, h⟩ := bindO_some h
    obtain ⟨q34, e34, h⟩ := bindO_some h
    obtain ⟨d35, e35, h⟩ := bindO_some h
    obtain ⟨x11, e36, h⟩ := bindO_some h
    obtain ⟨q37, e37, h⟩ := bindO_some h
    obtain ⟨d38, e38, h⟩ := bindO_some h
    obtain ⟨x12, e39, h⟩ := bindO_some h
    obtain ⟨q40, e40, h⟩ := bindO_some h
    obtain ⟨d41, e41, h⟩ := bindO_some h
    obtain ⟨x13, e42, h⟩ := bindO_some h
    obtain ⟨u43, e43, h⟩ := bindO_some h
    obtain ⟨p44, e44, h⟩ := bindO_some h
    obtain ⟨q45, e45, h⟩ := bindO_some h
    obtain ⟨d46, e46, h⟩ := bindO_some h
    obtain ⟨x14, e47, h⟩ := bindO_some h
    obtain ⟨q48, e48, h⟩ := bindO_some h
    obtain ⟨d49, e49, h⟩ := bindO_some h
    obtain ⟨x15, e50, h⟩ := bindO_some h
    obtain ⟨q51, e51, h⟩ := bindO_some h
    obtain ⟨d52, e52, h⟩ := bindO_some h
    obtain ⟨x16, e53, h⟩ := bindO_some h
    obtain ⟨q54, e54, h⟩ := bindO_some h
    obtain ⟨d55, e55, h⟩ := bindO_some h
    obtain ⟨x17, e56, h⟩ := bindO_some h
    obtain ⟨q57, e57, h⟩ := bindO_some h
    obtain ⟨d58, e58, h⟩ := bindO_some h
    obtain ⟨u59, e59, h⟩ := bindO_some h
    obtain ⟨q60, e60, h⟩ := bindO_some h
    obtain ⟨d61, e61, h⟩ := bindO_some h
    obtain ⟨x18, e62, h⟩ := bindO_some h
    obtain ⟨q63, e63, h⟩ := bindO_some h
    obtain ⟨d64, e64, h⟩ := bindO_some h
    obtain ⟨x19, e65, h⟩ := bindO_some h
    obtain ⟨q66, e66, h⟩ := bindO_some h
    obtain ⟨d67, e67, h⟩ := bindO_some h
    obtain ⟨x20, e68, h⟩ := bindO_some h
    obtain ⟨q69, e69, h⟩ := bindO_some h
    obtain ⟨d70, e70, h⟩ := bindO_some h
    obtain ⟨x21, e71, h⟩ := bindO_some h
    obtain ⟨q72, e72, h⟩ := bindO_some h
    obtain ⟨d73, e73, h⟩ := bindO_some h
    obtain ⟨x22, e74, h⟩ := bindO_some h
    obtain ⟨q75, e75, h⟩ := bindO_some h
    obtain ⟨d76, e76, h⟩ := bindO_some h
    obtain ⟨u77, e77, h⟩ := bindO_some h
    obtain ⟨u78, e78, h⟩ := bindO_some h
    obtain ⟨u79, e79, h⟩ := bindO_some h
    cases h
    exact ⟨le_mkT _ _ (Le.dead _) ⟨.inr (xP_eq e1), .inr (xP_eq e2), .inr ((xD_eq e3).trans (congrArg VV.dv (xL_eq e4))), .inr ((xD_eq e5).trans (congrArg VV.dv (xI_eq e6))), .inr ((xD_eq e7).trans (congrArg VV.dv (xI_eq e8))), trivial⟩, (xN_eq en).symm, by rw [xMix_eq e9, xUn_eq e10, xD_eq e11, xS_eq e12, xUn_eq e13, xD_eq e14, xS_eq e15, xUn_eq e16, xD_eq e17, xI_eq e18, xUn_eq e19, xD_eq e20, xI_eq e21, xUn_eq e22, xD_eq e23, xL_eq e24, xUn_eq e25, xD_eq e26, xS_eq e27, xUn_eq e28, xD_eq e29, xI_eq e30, xUn_eq e31, xD_eq e32, xI_eq e33, xUn_eq e34, xD_eq e35, xS_eq e36, xUn_eq e37, xD_eq e38, xS_eq e39, xUn_eq e40, xD_eq e41, xL_eq e42, xEnd_eq e43, xMix_eq e44, xUn_eq e45, xD_eq e46, xS_eq e47, xUn_eq e48, xD_eq e49, xS_eq e50, xUn_eq e51, xD_eq e52, xI_eq e53, xUn_eq e54, xD_eq e55, xI_eq e56, xUn_eq e57, xD_eq e58, xNil_eq e59, xUn_eq e60, xD_eq e61, xS_eq e62, xUn_eq e63, xD_eq e64, xI_eq e65, xUn_eq e66, xD_eq e67, xI_eq e68, xUn_eq e69, xD_eq e70, xS_eq e71, xUn_eq e72, xD_eq e73, xS_eq e74, xUn_eq e75, xD_eq e76, xNil_eq e77, xEnd_eq e78, xEnd_eq e79]; rfl⟩
  rcases orO_some h with h | h
  · obtain ⟨u, en, h⟩ := bindO_some h
    obtain ⟨u1, e1, h⟩ := bindO_some h
    obtain ⟨u2, e2, h⟩ := bindO_some h
    obtain ⟨x0, e3, h⟩ := bindO_some h
    obtain ⟨d4, e4, h⟩ := bindO_some h
    obtain ⟨x1, e5, h⟩ := bindO_some h
    obtain ⟨d6, e6, h⟩ := bindO_some h
    obtain ⟨x2, e7, h⟩ := bindO_some h
    obtain ⟨p8, e8, h⟩ := bindO_some h
    obtain ⟨q9, e9, h⟩ := bindO_some h
    obtain ⟨d10, e10, h⟩ := bindO_some h
    obtain ⟨x3, e11, h⟩ := bindO_some h
    obtain ⟨q12, e12, h⟩ := bindO_some h
    obtain ⟨d13, e13, h⟩ := bindO_some h
    obtain ⟨x4, e14, h⟩ := bindO_some h
    obtain ⟨q15, e15, h⟩ := bindO_some h
    obtain ⟨d16, e16, h⟩ := bindO_some h
    obtain ⟨x5, e17, h⟩ := bindO_some h
    obtain ⟨q18, e18, h⟩ := bindO_some h
    obtain ⟨d19, e19, h⟩ := bindO_some h
    obtain ⟨x6, e20, h⟩ := bindO_some h
    obtain ⟨q21, e21, h⟩ := bindO_some h
    obtain ⟨d22, e22, h⟩ := bindO_some h
    obtain ⟨x7, e23, h⟩ := bindO_some h
    obtain ⟨q24, e24, h⟩ := bindO_some h
    obtain ⟨d25, e25, h⟩ := bindO_some h
    obtain ⟨x8, e26, h⟩ := bindO_some h
    obtain ⟨q27, e27, h⟩ := bindO_some h
    obtain ⟨d28, e28, h⟩ := bindO_some h
    obtain ⟨x9, e29, h⟩ := bindO_some h
    obtain ⟨q30, e30, h⟩ := bindO_some h
    obtain ⟨d31, e31, h⟩ := bindO_some h
    obtain ⟨x10, e32, h⟩ := bindO_some h
    obtain ⟨q33, e33, h⟩ := bindO_some h
    obtain ⟨d34, e34, h⟩ := bindO_some h
    obtain ⟨x11, e35, h⟩ := bindO_some h
    obtain ⟨q36, e36, h⟩ := bindO_some h
    obtain ⟨d37, e37, h⟩ := bindO_some h
    obtain ⟨x12, e38, h⟩ := bindO_some h
    obtain ⟨q39, e39, h⟩ := bindO_some h
    obtain ⟨x13, e40, h⟩ := bindO_some h
    obtain ⟨u41, e41, h⟩ := bindO_some h
    obtain ⟨p42, e42, h⟩ := bindO_some h
    obtain ⟨q43, e43, h⟩ := bindO_some h
    obtain ⟨d44, e44, h⟩ := bindO_some h
    obtain ⟨x14, e45, h⟩ := bindO_some h
    obtain ⟨q46, e46, h⟩ := bindO_some h
    obtain ⟨d47, e47, h⟩ := bindO_some h
    obtain ⟨x15, e48, h⟩ := bindO_some h
    obtain ⟨q49, e49, h⟩ := bindO_some h
    obtain ⟨d50, e50, h⟩ := bindO_some h
    obtain ⟨x16, e51, h⟩ := bindO_some h
    obtain ⟨q52, e52, h⟩ := bindO_some h
    obtain ⟨d53, e53, h⟩ := bindO_some h
    obtain ⟨x17, e54, h⟩ := bindO_some h
    obtain ⟨q55, e55, h⟩ := bindO_some h
    obtain ⟨d56, e56, h⟩ := bindO_some h
    obtain ⟨u57, e57, h⟩ := bindO_some h
    obtain ⟨q58, e58, h⟩ := bindO_some h
    obtain ⟨d59, e59, h⟩ := bindO_some h
    obtain ⟨x18, e60, h⟩ := bindO_some h
    obtain ⟨q61, e61, h⟩ := bindO_some h
    obtain ⟨d62, e62, h⟩ := bindO_some h
    obtain ⟨x19, e63, h⟩ := bindO_some h
    obtain ⟨q64, e64, h⟩ := bindO_some h
    obtain ⟨d65, e65, h⟩ := bindO_some h
    obtain ⟨x20, e66, h⟩ := bindO_some h
    obtain ⟨q67, e67, h⟩ := bindO_some h
    obtain ⟨d68, e68, h⟩ := bindO_some h
    obtain ⟨x21, e69, h⟩ := bindO_some h
    obtain ⟨q70, e70, h⟩ := bindO_some h
    obtain ⟨d71, e71, h⟩ := bindO_some h
    obtain ⟨x22, e72, h⟩ := bindO_some h
    obtain ⟨q73, e73, h⟩ := bindO_some h
    obtain ⟨d74, e74, h⟩ := bindO_some h
    obtain ⟨u75, e75, h⟩ := bindO_some h
    obtain ⟨u76, e76, h⟩ := bindO_some h
    obtain ⟨p77, e77, h⟩ := bindO_some h
    obtain ⟨u78, e78, h⟩ := bindO_some h
    cases h
    exact ⟨le_mkT _ _ (Le.dead _) ⟨.inr (xP_eq e1), .inr (xP_eq e2), .inr (xO_eq e3), .inr ((xD_eq e4).trans (congrArg VV.dv (xI_eq e5))), .inr ((xD_eq e6).trans (congrArg VV.dv (xI_eq e7))), trivial⟩, (xN_eq en).symm, by rw [xMix_eq e8, xUn_eq e9, xD_eq e10, xS_eq e11, xUn_eq e12, xD_eq e13, xS_eq e14, xUn_eq e15, xD_eq e16, xI_eq e17, xUn_eq e18, xD_eq e19, xI_eq e20, xUn_eq e21, xD_eq e22, xL_eq e23, xUn_eq e24, xD_eq e25, xS_eq e26, xUn_eq e27, xD_eq e28, xI_eq e29, xUn_eq e30, xD_eq e31, xI_eq e32, xUn_eq e33, xD_eq e34, xS_eq e35, xUn_eq e36, xD_eq e37, xS_eq e38, xUn_eq e39, xO_eq e40, xEnd_eq e41, xMix_eq e42, xUn_eq e43, xD_eq e44, xS_eq e45, xUn_eq e46, xD_eq e47, xS_eq e48, xUn_eq e49, xD_eq e50, xI_eq e51, xUn_eq e52, xD_eq e53, xI_eq e54, xUn_eq e55, xD_eq e56, xNil_eq e57, xUn_eq e58, xD_eq e59, xS_eq e60, xUn_eq e61, xD_eq e62, xI_eq e63, xUn_eq e64, xD_eq e65, xI_eq e66, xUn_eq e67, xD_eq e68, xS_eq e69, xUn_eq e70, xD_eq e71, xS_eq e72, xUn_eq e73, xD_eq e74, xNil_eq e75, xEnd_eq e76, xBlk_eq e77, xEnd_eq e78]; rfl⟩
  rcases orO_some h with h | h
  · obtain ⟨u, en, h⟩ := bindO_some h
    obtain ⟨u1, e1, h⟩ := bindO_some h
    obtain ⟨u2, e2, h⟩ := bindO_some h
    obtain ⟨d3, e3, h⟩ := bindO_some h
    obtain ⟨x0, e4, h⟩ := bindO_some h
    obtain ⟨d5, e5, h⟩ := bindO_some h
    obtain ⟨x1, e6, h⟩ := bindO_some h
    obtain ⟨d7, e7, h⟩ := bindO_some h
    obtain ⟨x2, e8, h⟩ := bindO_some h
    obtain ⟨p9, e9, h⟩ := bindO_some h
    obtain ⟨q10, e10, h⟩ := bindO_some h
    obtain ⟨d11, e11, h⟩ := bindO_some h
    obtain ⟨x3, e12, h⟩ := bindO_some h
    obtain ⟨q13, e13, h⟩ := bindO_some h
    obtain ⟨d14, e14, h⟩ := bindO_some h
    obtain ⟨x4, e15, h⟩ := bindO_some h
    obtain ⟨q16, e16, h⟩ := bindO_some h
    obtain ⟨d17, e17, h⟩ := bindO_some h
    obtain ⟨x5, e18, h⟩ := bindO_some h
    obtain ⟨q19, e19, h⟩ := bindO_some h
    obtain ⟨d20, e20, h⟩ := bindO_some h
    obtain ⟨x6, e21, h⟩ := bindO_some h
    obtain ⟨q22, e22, h⟩ := bindO_some h
    obtain ⟨x7, e23, h⟩ := bindO_some h
    obtain ⟨q24, e24, h⟩ := bindO_some h
    obtain ⟨d25, e25, h⟩ := bindO_some h
    obtain ⟨x8, e26, h⟩ := bindO_some h
    obtain ⟨q27, e27, h⟩ := bindO_some h
    obtain ⟨d28, e28, h⟩ := bindO_some h
    obtain ⟨x9, e29, h⟩ := bindO_some h
    obtain ⟨q30, e30, h⟩ := bindO_some h
    obtain ⟨d31, e31, h⟩ := bindO_some h
    obtain ⟨x10, e32, h⟩ := bindO_some h
    obtain ⟨q33, e33, h⟩ := bindO_some h
    obtain ⟨d34, e34, h⟩ := bindO_some h
    obtain ⟨x11, e35, h⟩ := bindO_some h
    obtain ⟨q36, e36, h⟩ := bindO_some h
    obtain ⟨d37, e37, h⟩ := bindO_some h
    obtain ⟨x12, e38, h⟩ := bindO_some h
    obtain ⟨q39, e39, h⟩ := bindO_some h
    obtain ⟨d40, e40, h⟩ := bindO_some h
    obtain ⟨x13, e41, h⟩ := bindO_some h
    obtain ⟨u42, e42, h⟩ := bindO_some h
    obtain ⟨p43, e43, h⟩ := bindO_some h
    obtain ⟨q44, e44, h⟩ := bindO_some h
    obtain ⟨d45, e45, h⟩ := bindO_some h
    obtain ⟨x14, e46, h⟩ := bindO_some h
    obtain ⟨q47, e47, h⟩ := bindO_some h
    obtain ⟨d48, e48, h⟩ := bindO_some h
    obtain ⟨x15, e49, h⟩ := bindO_some h
    obtain ⟨q50, e50, h⟩ := bindO_some h
    obtain ⟨d51, e51, h⟩ := bindO_some h
    obtain ⟨x16, e52, h⟩ := bindO_some h
    obtain ⟨q53, e53, h⟩ := bindO_some h
    obtain ⟨d54, e54, h⟩ := bindO_some h
    obtain ⟨x17, e55, h⟩ := bindO_some h
    obtain ⟨q56, e56, h⟩ := bindO_some h
    obtain ⟨d57, e57, h⟩ := bindO_some h
    obtain ⟨u58, e58, h⟩ := bindO_some h
    obtain ⟨q59, e59, h⟩ := bindO_some h
    obtain ⟨d60, e60, h⟩ := bindO_some h
    obtain ⟨x18, e61, h⟩ := bindO_some h
    obtain ⟨q62, e62, h⟩ := bindO_some h
    obtain ⟨d63, e63, h⟩ := bindO_some h
    obtain ⟨x19, e64, h⟩ := bindO_some h
    obtain ⟨q65, e65, h⟩ := bindO_some h
    obtain ⟨d66, e66, h⟩ := bindO_some h
    obtain ⟨x20, e67, h⟩ := bindO_some h
    obtain ⟨q68, e68, h⟩ := bindO_some h
    obtain ⟨d69, e69, h⟩ := bindO_some h
    obtain ⟨x21, e70, h⟩ := bindO_some h
    obtain ⟨q71, e71, h⟩ := bindO_some h
    obtain ⟨d72, e72, h⟩ := bindO_some h
    obtain ⟨x22, e73, h⟩ := bindO_some h
    obtain ⟨q74, e74, h⟩ := bindO_some h
    obtain ⟨d75, e75, h⟩ := bindO_some h
    obtain ⟨u76, e76, h⟩ := bindO_some h
    obtain ⟨u77, e77, h⟩ := bindO_some h
    obtain ⟨p78, e78, h⟩ := bindO_some h
    obtain ⟨u79, e79, h⟩ := bindO_some h
    cases h
    exact ⟨le_mkT _ _ (Le.dead _) ⟨.inr (xP_eq e1), .inr (xP_eq e2), .inr ((xD_eq e3).trans (congrArg VV.dv (xL_eq e4))), .inr ((xD_eq e5).trans (congrArg VV.dv (xI_eq e6))), .inr ((xD_eq e7).trans (congrArg VV.dv (xI_eq e8))), trivial⟩, (xN_eq en).symm, by rw [xMix_eq e9, xUn_eq e10, xD_eq e11, xS_eq e12, xUn_eq e13, xD_eq e14, xS_eq e15, xUn_eq e16, xD_eq e17, xI_eq e18, xUn_eq e19, xD_eq e20, xI_eq e21, xUn_eq e22, xO_eq e23, xUn_eq e24, xD_eq e25, xS_eq e26, xUn_eq e27, xD_eq e28, xI_eq e29, xUn_eq e30, xD_eq e31, xI_eq e32, xUn_eq e33, xD_eq e34, xS_eq e35, xUn_eq e36, xD_eq e37, xS_eq e38, xUn_eq e39, xD_eq e40, xL_eq e41, xEnd_eq e42, xMix_eq e43, xUn_eq e44, xD_eq e45, xS_eq e46, xUn_eq e47, xD_eq e48, xS_eq e49, xUn_eq e50, xD_eq e51, xI_eq e52, xUn_eq e53, xD_eq e54, xI_eq e55, xUn_eq e56, xD_eq e57, xNil_eq e58, xUn_eq e59, xD_eq e60, xS_eq e61, xUn_eq e62, xD_eq e63, xI_eq e64, xUn_eq e65, xD_eq e66, xI_eq e67, xUn_eq e68, xD_eq e69, xS_eq e70, xUn_eq e71, xD_eq e72, xS_eq e73, xUn_eq e74, xD_eq e75, xNil_eq e76, xEnd_eq e77, xBlk_eq e78, xEnd_eq e79]; rfl⟩
  · obtain ⟨u, en, h⟩ := bindO_some h
    obtain ⟨u1, e1, h⟩ := bindO_some h
    obtain ⟨u2, e2, h⟩ := bindO_some h
    obtain ⟨x0, e3, h⟩ := bindO_some h
    obtain ⟨d4, e4, h⟩ := bindO_some h
    obtain ⟨x1, e5, h⟩ := bindO_some h
    obtain ⟨d6, e6, h⟩ := bindO_some h
    obtain ⟨x2, e7, h⟩ := bindO_some h
    obtain ⟨p8, e8, h⟩ := bindO_some h
    obtain ⟨q9, e9, h⟩ := bindO_some h
    obtain ⟨d10, e10, h⟩ := bindO_some h
    obtain ⟨x3, e11, h⟩ := bindO_some h
    obtain ⟨q12, e12, h⟩ := bindO_some h
    obtain ⟨d13, e13, h⟩ := bindO_some h
    obtain ⟨x4, e14, h⟩ := bindO_some h
    obtain ⟨q15, e15, h⟩ := bindO_some h
    obtain ⟨d16, e16, h⟩ := bindO_some h
    obtain ⟨x5, e17, h⟩ := bindO_some h
    obtain ⟨q18, e18, h⟩ := bindO_some h
    obtain ⟨d19, e19, h⟩ := bindO_some h
    obtain ⟨x6, e20, h⟩ := bindO_some h
    obtain ⟨q21, e21, h⟩ := bindO_some h
    obtain ⟨x7, e22, h⟩ := bindO_some h
    obtain ⟨q23, e23, h⟩ := bindO_some h
    obtain ⟨d24, e24, h⟩ := bindO_some h
    obtain ⟨x8, e25, h⟩ := bindO_some h
    obtain ⟨q26, e26, h⟩ := bindO_some h
    obtain ⟨d27, e27, h⟩ := bindO_some h
    obtain ⟨x9, e28, h⟩ := bindO_some h
    obtain ⟨q29, e29, h⟩ := bindO_some h
    obtain ⟨d30, e30, h⟩ := bindO_some h
    obtain ⟨x10, e31, h⟩ := bindO_some h
    obtain ⟨q32, e32, h⟩ := bindO_some h
    obtain ⟨d33, e33, h⟩ := bindO_some h
    obtain ⟨x11, e34, h⟩ := bindO_some h
    obtain ⟨q35, e35, h⟩ := bindO_some h
    obtain ⟨d36, e36, h⟩ := bindO_some h
    obtain ⟨x12, e37, h⟩ := bindO_some h
    obtain ⟨q38, e38, h⟩ := bindO_some h
    obtain ⟨x13, e39, h⟩ := bindO_some h
    obtain ⟨u40, e40, h⟩ := bindO_some h
    obtain ⟨p41, e41, h⟩ := bindO_some h
    obtain ⟨q42, e42, h⟩ := bindO_some h
    obtain ⟨d43, e43, h⟩ := bindO_some h
    obtain ⟨x14, e44, h⟩ := bindO_some h
    obtain ⟨q45, e45, h⟩ := bindO_some h
    obtain ⟨d46, e46, h⟩ := bindO_some h
    obtain ⟨x15, e47, h⟩ := bindO_some h
    obtain ⟨q48, e48, h⟩ := bindO_some h
    obtain ⟨d49, e49, h⟩ := bindO_some h
    obtain ⟨x16, e50, h⟩ := bindO_some h
    obtain ⟨q51, e51, h⟩ := bindO_some h
    obtain ⟨d52, e52, h⟩ := bindO_some h
    obtain ⟨x17, e53, h⟩ := bindO_some h
    obtain ⟨q54, e54, h⟩ := bindO_some h
    obtain ⟨d55, e55, h⟩ := bindO_some h
    obtain ⟨u56, e56, h⟩ := bindO_some h
    obtain ⟨q57, e57, h⟩ := bindO_some h
    obtain ⟨d58, e58, h⟩ := bindO_some h
    obtain ⟨x18, e59, h⟩ := bindO_some h
    obtain ⟨q60, e60, h⟩ := bindO_some h
    obtain ⟨d61, e61, h⟩ := bindO_some h
    obtain ⟨x19, e62, h⟩ := bindO_some h
    obtain ⟨q63, e63, h⟩ := bindO_some h
    obtain ⟨d64, e64, h⟩ := bindO_some h
    obtain ⟨x20, e65, h⟩ := bindO_some h
    obtain ⟨q66, e66, h⟩ := bindO_some h
    obtain ⟨d67, e67, h⟩ := bindO_some h
    obtain ⟨x21, e68, h⟩ := bindO_some h
    obtain ⟨q69, e69, h⟩ := bindO_some h
    obtain ⟨d70, e70, h⟩ := bindO_some h
    obtain ⟨x22, e71, h⟩ := bindO_some h
    obtain ⟨q72, e72, h⟩ := bindO_some h
    obtain ⟨d73, e73, h⟩ := bindO_some h
    obtain ⟨u74, e74, h⟩ := bindO_some h
    obtain ⟨u75, e75, h⟩ := bindO_some h
    obtain ⟨p76, e76, h⟩ := bindO_some h
    obtain ⟨p77, e77, h⟩ := bindO_some h
    obtain ⟨u78, e78, h⟩ := bindO_some h
    cases h
    exact ⟨le_mkT _ _ (Le.dead _) ⟨.inr (xP_eq e1), .inr (xP_eq e2), .inr (xO_eq e3), .inr ((xD_eq e4).trans (congrArg VV.dv (xI_eq e5))), .inr ((xD_eq e6).trans (congrArg VV.dv (xI_eq e7))), trivial⟩, (xN_eq en).symm, by rw [xMix_eq e8, xUn_eq e9, xD_eq e10, xS_eq e11, xUn_eq e12, xD_eq e13, xS_eq e14, xUn_eq e15, xD_eq e16, xI_eq e17, xUn_eq e18, xD_eq e19, xI_eq e20, xUn_eq e21, xO_eq e22, xUn_eq e23, xD_eq e24, xS_eq e25, xUn_eq e26, xD_eq e27, xI_eq e28, xUn_eq e29, xD_eq e30, xI_eq e31, xUn_eq e32, xD_eq e33, xS_eq e34, xUn_eq e35, xD_eq e36, xS_eq e37, xUn_eq e38, xO_eq e39, xEnd_eq e40, xMix_eq e41, xUn_eq e42, xD_eq e43, xS_eq e44, xUn_eq e45, xD_eq e46, xS_eq e47, xUn_eq e48, xD_eq e49, xI_eq e50, xUn_eq e51, xD_eq e52, xI_eq e53, xUn_eq e54, xD_eq e55, xNil_eq e56, xUn_eq e57, xD_eq e58, xS_eq e59, xUn_eq e60, xD_eq e61, xI_eq e62, xUn_eq e63, xD_eq e64, xI_eq e65, xUn_eq e66, xD_eq e67, xS_eq e68, xUn_eq e69, xD_eq e70, xS_eq e71, xUn_eq e72, xD_eq e73, xNil_eq e74, xEnd_eq e75, xBlk_eq e76, xBlk_eq e77, xEnd_eq e78]; rfl⟩
noncomputable def B_block_copied (f0 : ByteArray → ByteArray → Int → Int → List (List DV) → ByteArray → Int → Int → ByteArray → ByteArray → List (List DV) → (ByteArray → ByteArray → Int → Int → List (List DV) → ByteArray → Int → Int → ByteArray → ByteArray → List (List DV) → Option DV) → Option DV) (a0_0 a0_1 : ByteArray) (a0_2 a0_3 : Int) (a0_4 : List (List DV)) (a0_5 : ByteArray) (a0_6 a0_7 : Int) (a0_8 a0_9 : ByteArray) (a0_10 : List (List DV)) (k : ByteArray → ByteArray → Int → Int → List (List DV) → ByteArray → Int → Int → ByteArray → ByteArray → List (List DV) → Option DV) : Option DV :=
  bx (Nat.beq (List.length a0_4) 0) (bx (Nat.beq (List.length a0_10) 0) (LF (F_block_copied_l4 f0) (φ_block_copied_l4 (X_block_copied_l4.h0 ([]) 0 0 a0_0 a0_1 a0_2 a0_3 ([]) a0_5 a0_6 a0_7 a0_8 a0_9 ([]) (⟨#[]⟩) (⟨#[]⟩) 0 0 (⟨#[]⟩) 0 0 (⟨#[]⟩) (⟨#[]⟩))) (X_block_copied_l4.h0 ([]) 0 0 a0_0 a0_1 a0_2 a0_3 ([]) a0_5 a0_6 a0_7 a0_8 a0_9 ([]) (⟨#[]⟩) (⟨#[]⟩) 0 0 (⟨#[]⟩) 0 0 (⟨#[]⟩) (⟨#[]⟩)) ((fun z93_0 z93_1 z93_2 z93_3 z93_4 z93_5 z93_6 z93_7 z93_8 z93_9 z93_10 z93_11 z93_12 z93_13 z93_14 z93_15 z93_16 z93_17 z93_18 z93_19 => k z93_0 z93_1 z93_2 z93_3 z93_4 z93_5 z93_6 z93_7 z93_8 z93_9 z93_10), (fun z94_0 z94_1 z94_2 z94_3 z94_4 z94_5 z94_6 z94_7 z94_8 z94_9 z94_10 z94_11 z94_12 z94_13 z94_14 z94_15 z94_16 z94_17 z94_18 z94_19 z94_20 => bx (Nat.ble (0 + z94_10 * 11) (List.length z94_20)) (k z94_0 z94_1 z94_2 z94_3 z94_4 z94_5 z94_6 z94_7 z94_8 z94_9 (chunks 11 z94_10 (List.drop 0 z94_20))) none), (fun z95_0 z95_1 z95_2 z95_3 z95_4 z95_5 z95_6 z95_7 z95_8 z95_9 z95_10 z95_11 z95_12 z95_13 z95_14 z95_15 z95_16 z95_17 z95_18 z95_19 z95_20 => bx (Nat.ble (0 + z95_4 * 2) (List.length z95_20)) (k z95_0 z95_1 z95_2 z95_3 (chunks 2 z95_4 (List.drop 0 z95_20)) z95_5 z95_6 z95_7 z95_8 z95_9 z95_10) none), (fun z96_0 z96_1 z96_2 z96_3 z96_4 z96_5 z96_6 z96_7 z96_8 z96_9 z96_10 z96_11 z96_12 z96_13 z96_14 z96_15 z96_16 z96_17 z96_18 z96_19 z96_20 z96_21 => bx (Nat.ble (0 + z96_4 * 2) (List.length z96_20)) (bx (Nat.ble (0 + z96_10 * 11) (List.length z96_21)) (k z96_0 z96_1 z96_2 z96_3 (chunks 2 z96_4 (List.drop 0 z96_20)) z96_5 z96_6 z96_7 z96_8 z96_9 (chunks 11 z96_10 (List.drop 0 z96_21))) none) none))) (bx (cloneOk 160 a0_10) (LF (F_block_copied_l4 f0) (φ_block_copied_l4 (X_block_copied_l4.h1 (List.length a0_10) (((List.length a0_10) : Nat) : Int) 0 a0_0 a0_1 a0_2 a0_3 ([]) a0_5 a0_6 a0_7 a0_8 a0_9 (List.length a0_10) (⟨#[]⟩) (⟨#[]⟩) 0 0 (⟨#[]⟩) 0 0 (⟨#[]⟩) (⟨#[]⟩) (List.flatten a0_10))) (X_block_copied_l4.h1 (List.length a0_10) (((List.length a0_10) : Nat) : Int) 0 a0_0 a0_1 a0_2 a0_3 ([]) a0_5 a0_6 a0_7 a0_8 a0_9 (List.length a0_10) (⟨#[]⟩) (⟨#[]⟩) 0 0 (⟨#[]⟩) 0 0 (⟨#[]⟩) (⟨#[]⟩) (List.flatten a0_10)) ((fun z97_0 z97_1 z97_2 z97_3 z97_4 z97_5 z97_6 z97_7 z97_8 z97_9 z97_10 z97_11 z97_12 z97_13 z97_14 z97_15 z97_16 z97_17 z97_18 z97_19 => k z97_0 z97_1 z97_2 z97_3 z97_4 z97_5 z97_6 z97_7 z97_8 z97_9 z97_10), (fun z98_0 z98_1 z98_2 z98_3 z98_4 z98_5 z98_6 z98_7 z98_8 z98_9 z98_10 z98_11 z98_12 z98_13 z98_14 z98_15 z98_16 z98_17 z98_18 z98_19 z98_20 => bx (Nat.ble (0 + z98_10 * 11) (List.length z98_20)) (k z98_0 z98_1 z98_2 z98_3 z98_4 z98_5 z98_6 z98_7 z98_8 z98_9 (chunks 11 z98_10 (List.drop 0 z98_20))) none), (fun z99_0 z99_1 z99_2 z99_3 z99_4 z99_5 z99_6 z99_7 z99_8 z99_9 z99_10 z99_11 z99_12 z99_13 z99_14 z99_15 z99_16 z99_17 z99_18 z99_19 z99_20 => bx (Nat.ble (0 + z99_4 * 2) (List.length z99_20)) (k z99_0 z99_1 z99_2 z99_3 (chunks 2 z99_4 (List.drop 0 z99_20)) z99_5 z99_6 z99_7 z99_8 z99_9 z99_10) none), (fun z100_0 z100_1 z100_2 z100_3 z100_4 z100_5 z100_6 z100_7 z100_8 z100_9 z100_10 z100_11 z100_12 z100_13 z100_14 z100_15 z100_16 z100_17 z100_18 z100_19 z100_20 z100_21 => bx (Nat.ble (0 + z100_4 * 2) (List.length z100_20)) (bx (Nat.ble (0 + z100_10 * 11) (List.length z100_21)) (k z100_0 z100_1 z100_2 z100_3 (chunks 2 z100_4 (List.drop 0 z100_20)) z100_5 z100_6 z100_7 z100_8 z100_9 (chunks 11 z100_10 (List.drop 0 z100_21))) none) none))) none)) (bx (cloneOk 16 a0_4) (bx (Nat.beq (List.length a0_10) 0) (LF (F_block_copied_l4 f0) (φ_block_copied_l4 (X_block_copied_l4.h2 ([]) 0 0 a0_0 a0_1 a0_2 a0_3 (List.length a0_4) a0_5 a0_6 a0_7 a0_8 a0_9 ([]) (⟨#[]⟩) (⟨#[]⟩) 0 0 (⟨#[]⟩) 0 0 (⟨#[]⟩) (⟨#[]⟩) (List.flatten a0_4))) (X_block_copied_l4.h2 ([]) 0 0 a0_0 a0_1 a0_2 a0_3 (List.length a0_4) a0_5 a0_6 a0_7 a0_8 a0_9 ([]) (⟨#[]⟩) (⟨#[]⟩) 0 0 (⟨#[]⟩) 0 0 (⟨#[]⟩) (⟨#[]⟩) (List.flatten a0_4)) ((fun z101_0 z101_1 z101_2 z101_3 z101_4 z101_5 z101_6 z101_7 z101_8 z101_9 z101_10 z101_11 z101_12 z101_13 z101_14 z101_15 z101_16 z101_17 z101_18 z101_19 => k z101_0 z101_1 z101_2 z101_3 z101_4 z101_5 z101_6 z101_7 z101_8 z101_9 z101_10), (fun z102_0 z102_1 z102_2 z102_3 z102_4 z102_5 z102_6 z102_7 z102_8 z102_9 z102_10 z102_11 z102_12 z102_13 z102_14 z102_15 z102_16 z102_17 z102_18 z102_19 z102_20 => bx (Nat.ble (0 + z102_10 * 11) (List.length z102_20)) (k z102_0 z102_1 z102_2 z102_3 z102_4 z102_5 z102_6 z102_7 z102_8 z102_9 (chunks 11 z102_10 (List.drop 0 z102_20))) none), (fun z103_0 z103_1 z103_2 z103_3 z103_4 z103_5 z103_6 z103_7 z103_8 z103_9 z103_10 z103_11 z103_12 z103_13 z103_14 z103_15 z103_16 z103_17 z103_18 z103_19 z103_20 => bx (Nat.ble (0 + z103_4 * 2) (List.length z103_20)) (k z103_0 z103_1 z103_2 z103_3 (chunks 2 z103_4 (List.drop 0 z103_20)) z103_5 z103_6 z103_7 z103_8 z103_9 z103_10) none), (fun z104_0 z104_1 z104_2 z104_3 z104_4 z104_5 z104_6 z104_7 z104_8 z104_9 z104_10 z104_11 z104_12 z104_13 z104_14 z104_15 z104_16 z104_17 z104_18 z104_19 z104_20 z104_21 => bx (Nat.ble (0 + z104_4 * 2) (List.length z104_20)) (bx (Nat.ble (0 + z104_10 * 11) (List.length z104_21)) (k z104_0 z104_1 z104_2 z104_3 (chunks 2 z104_4 (List.drop 0 z104_20)) z104_5 z104_6 z104_7 z104_8 z104_9 (chunks 11 z104_10 (List.drop 0 z104_21))) none) none))) (bx (cloneOk 160 a0_10) (LF (F_block_copied_l4 f0) (φ_block_copied_l4 (X_block_copied_l4.h3 (List.length a0_10) (((List.length a0_10) : Nat) : Int) 0 a0_0 a0_1 a0_2 a0_3 (List.length a0_4) a0_5 a0_6 a0_7 a0_8 a0_9 (List.length a0_10) (⟨#[]⟩) (⟨#[]⟩) 0 0 (⟨#[]⟩) 0 0 (⟨#[]⟩) (⟨#[]⟩) (List.flatten a0_10) (List.flatten a0_4))) (X_block_copied_l4.h3 (List.length a0_10) (((List.length a0_10) : Nat) : Int) 0 a0_0 a0_1 a0_2 a0_3 (List.length a0_4) a0_5 a0_6 a0_7 a0_8 a0_9 (List.length a0_10) (⟨#[]⟩) (⟨#[]⟩) 0 0 (⟨#[]⟩) 0 0 (⟨#[]⟩) (⟨#[]⟩) (List.flatten a0_10) (List.flatten a0_4)) ((fun z105_0 z105_1 z105_2 z105_3 z105_4 z105_5 z105_6 z105_7 z105_8 z105_9 z105_10 z105_11 z105_12 z105_13 z105_14 z105_15 z105_16 z105_17 z105_18 z105_19 => k z105_0 z105_1 z105_2 z105_3 z105_4 z105_5 z105_6 z105_7 z105_8 z105_9 z105_10), (fun z106_0 z106_1 z106_2 z106_3 z106_4 z106_5 z106_6 z106_7 z106_8 z106_9 z106_10 z106_11 z106_12 z106_13 z106_14 z106_15 z106_16 z106_17 z106_18 z106_19 z106_20 => bx (Nat.ble (0 + z106_10 * 11) (List.length z106_20)) (k z106_0 z106_1 z106_2 z106_3 z106_4 z106_5 z106_6 z106_7 z106_8 z106_9 (chunks 11 z106_10 (List.drop 0 z106_20))) none), (fun z107_0 z107_1 z107_2 z107_3 z107_4 z107_5 z107_6 z107_7 z107_8 z107_9 z107_10 z107_11 z107_12 z107_13 z107_14 z107_15 z107_16 z107_17 z107_18 z107_19 z107_20 => bx (Nat.ble (0 + z107_4 * 2) (List.length z107_20)) (k z107_0 z107_1 z107_2 z107_3 (chunks 2 z107_4 (List.drop 0 z107_20)) z107_5 z107_6 z107_7 z107_8 z107_9 z107_10) none), (fun z108_0 z108_1 z108_2 z108_3 z108_4 z108_5 z108_6 z108_7 z108_8 z108_9 z108_10 z108_11 z108_12 z108_13 z108_14 z108_15 z108_16 z108_17 z108_18 z108_19 z108_20 z108_21 => bx (Nat.ble (0 + z108_4 * 2) (List.length z108_20)) (bx (Nat.ble (0 + z108_10 * 11) (List.length z108_21)) (k z108_0 z108_1 z108_2 z108_3 (chunks 2 z108_4 (List.drop 0 z108_20)) z108_5 z108_6 z108_7 z108_8 z108_9 (chunks 11 z108_10 (List.drop 0 z108_21))) none) none))) none)) none)

noncomputable def KK_block_copied (f0 : ByteArray → ByteArray → Int → Int → List (List DV) → ByteArray → Int → Int → ByteArray → ByteArray → List (List DV) → (ByteArray → ByteArray → Int → Int → List (List DV) → ByteArray → Int → Int → ByteArray → ByteArray → List (List DV) → Option DV) → Option DV) (ds : List DV) (k : DV → Option DV) : Option DV :=
  match ds with
  | [.agg [.val (.string a0_0), .val (.string a0_1), .val (.int .i64 a0_2), .val (.int .i64 a0_3), .lst 2 a0_4, .val (.string a0_5), .val (.int .i64 a0_6), .val (.int .i64 a0_7), .val (.string a0_8), .val (.string a0_9), .lst 11 a0_10]] => f0 a0_0 a0_1 a0_2 a0_3 a0_4 a0_5 a0_6 a0_7 a0_8 a0_9 a0_10 (fun r0_0 r0_1 r0_2 r0_3 r0_4 r0_5 r0_6 r0_7 r0_8 r0_9 r0_10 => k (.agg [.val (.string r0_0), .val (.string r0_1), .val (.int .i64 r0_2), .val (.int .i64 r0_3), .lst 2 r0_4, .val (.string r0_5), .val (.int .i64 r0_6), .val (.int .i64 r0_7), .val (.string r0_8), .val (.string r0_9), .lst 11 r0_10]))
  | _ => none

noncomputable def G_block_copied (N : Nat) : Nat → (ByteArray → ByteArray → Int → Int → List (List DV) → ByteArray → Int → Int → ByteArray → ByteArray → List (List DV) → (ByteArray → ByteArray → Int → Int → List (List DV) → ByteArray → Int → Int → ByteArray → ByteArray → List (List DV) → Option DV) → Option DV)
  | 0 => (fun _ _ _ _ _ _ _ _ _ _ _ _ => none)
  | n + 1 => (fun a0_0 a0_1 a0_2 a0_3 a0_4 a0_5 a0_6 a0_7 a0_8 a0_9 a0_10 k => B_block_copied (G_block_copied N n) a0_0 a0_1 a0_2 a0_3 a0_4 a0_5 a0_6 a0_7 a0_8 a0_9 a0_10 k)

noncomputable def block_copied_n (N n : Nat) : ByteArray → ByteArray → Int → Int → List (List DV) → ByteArray → Int → Int → ByteArray → ByteArray → List (List DV) → (ByteArray → ByteArray → Int → Int → List (List DV) → ByteArray → Int → Int → ByteArray → ByteArray → List (List DV) → Option DV) → Option DV := (G_block_copied N n)
noncomputable def block_copied (N : Nat) : ByteArray → ByteArray → Int → Int → List (List DV) → ByteArray → Int → Int → ByteArray → ByteArray → List (List DV) → (ByteArray → ByteArray → Int → Int → List (List DV) → ByteArray → Int → Int → ByteArray → ByteArray → List (List DV) → Option DV) → Option DV := block_copied_n N N

theorem q_block_copied_l4_h0 (f0 : ByteArray → ByteArray → Int → Int → List (List DV) → ByteArray → Int → Int → ByteArray → ByteArray → List (List DV) → (ByteArray → ByteArray → Int → Int → List (List DV) → ByteArray → Int → Int → ByteArray → ByteArray → List (List DV) → Option DV) → Option DV) (x0 : List (List DV)) (x1 : Int) (x2 : Int) (x3 : ByteArray) (x4 : ByteArray) (x5 : Int) (x6 : Int) (x7 : List (List DV)) (x8 : ByteArray) (x9 : Int) (x10 : Int) (x11 : ByteArray) (x12 : ByteArray) (x13 : List (List DV)) (x14 : ByteArray) (x15 : ByteArray) (x16 : Int) (x17 : Int) (x18 : ByteArray) (x19 : Int) (x20 : Int) (x21 : ByteArray) (x22 : ByteArray) (κn : St → Option DV) (κ : KC) : pev Try.prog (tab [(30, (KK_block_copied f0))] [(42, (cloneR 38 2 16)), (43, (cloneR 27 11 160))]) (ltab [(4, R_block_copied_l4 f0)]) [(0, [0]), (0, []), (4, [1, 2, 14, 15, 16]), (100004, [1, 2])] 64 (loopB (bodyOf Try.f30) 0) (S_block_copied_l4 (.h0 x0 x1 x2 x3 x4 x5 x6 x7 x8 x9 x10 x11 x12 x13 x14 x15 x16 x17 x18 x19 x20 x21 x22)) (contL 0 [1, 2, 14, 15, 16] [1, 2] κn κ) = F_block_copied_l4 f0 (.h0 x0 x1 x2 x3 x4 x5 x6 x7 x8 x9 x10 x11 x12 x13 x14 x15 x16 x17 x18 x19 x20 x21 x22) (fun x => κn (S_block_copied_l4 x)) (oc_block_copied_l4 κ) := by kernel_rfl

theorem q_block_copied_l4_h1 (f0 : ByteArray → ByteArray → Int → Int → List (List DV) → ByteArray → Int → Int → ByteArray → ByteArray → List (List DV) → (ByteArray → ByteArray → Int → Int → List (List DV) → ByteArray → Int → Int → ByteArray → ByteArray → List (List DV) → Option DV) → Option DV) (x0 : Nat) (x1 : Int) (x2 : Int) (x3 : ByteArray) (x4 : ByteArray) (x5 : Int) (x6 : Int) (x7 : List (List DV)) (x8 : ByteArray) (x9 : Int) (x10 : Int) (x11 : ByteArray) (x12 : ByteArray) (x13 : Nat) (x14 : ByteArray) (x15 : ByteArray) (x16 : Int) (x17 : Int) (x18 : ByteArray) (x19 : Int) (x20 : Int) (x21 : ByteArray) (x22 : ByteArray) (x23 : List DV) (κn : St → Option DV) (κ : KC) : pev Try.prog (tab [(30, (KK_block_copied f0))] [(42, (cloneR 38 2 16)), (43, (cloneR 27 11 160))]) (ltab [(4, R_block_copied_l4 f0)]) [(0, [0]), (0, []), (4, [1, 2, 14, 15, 16]), (100004, [1, 2])] 64 (loopB (bodyOf Try.f30) 0) (S_block_copied_l4 (.h1 x0 x1 x2 x3 x4 x5 x6 x7 x8 x9 x10 x11 x12 x13 x14 x15 x16 x17 x18 x19 x20 x21 x22 x23)) (contL 0 [1, 2, 14, 15, 16] [1, 2] κn κ) = F_block_copied_l4 f0 (.h1 x0 x1 x2 x3 x4 x5 x6 x7 x8 x9 x10 x11 x12 x13 x14 x15 x16 x17 x18 x19 x20 x21 x22 x23) (fun x => κn (S_block_copied_l4 x)) (oc_block_copied_l4 κ) := by kernel_rfl

theorem q_block_copied_l4_h2 (f0 : ByteArray → ByteArray → Int → Int → List (List DV) → ByteArray → Int → Int → ByteArray → ByteArray → List (List DV) → (ByteArray → ByteArray → Int → Int → List (List DV) → ByteArray → Int → Int → ByteArray → ByteArray → List (List DV) → Option DV) → Option DV) (x0 : List (List DV)) (x1 : Int) (x2 : Int) (x3 : ByteArray) (x4 : ByteArray) (x5 : Int) (x6 : Int) (x7 : Nat) (x8 : ByteArray) (x9 : Int) (x10 : Int) (x11 : ByteArray) (x12 : ByteArray) (x13 : List (List DV)) (x14 : ByteArray) (x15 : ByteArray) (x16 : Int) (x17 : Int) (x18 : ByteArray) (x19 : Int) (x20 : Int) (x21 : ByteArray) (x22 : ByteArray) (x23 : List DV) (κn : St → Option DV) (κ : KC) : pev Try.prog (tab [(30, (KK_block_copied f0))] [(42, (cloneR 38 2 16)), (43, (cloneR 27 11 160))]) (ltab [(4, R_block_copied_l4 f0)]) [(0, [0]), (0, []), (4, [1, 2, 14, 15, 16]), (100004, [1, 2])] 64 (loopB (bodyOf Try.f30) 0) (S_block_copied_l4 (.h2 x0 x1 x2 x3 x4 x5 x6 x7 x8 x9 x10 x11 x12 x13 x14 x15 x16 x17 x18 x19 x20 x21 x22 x23)) (contL 0 [1, 2, 14, 15, 16] [1, 2] κn κ) = F_block_copied_l4 f0 (.h2 x0 x1 x2 x3 x4 x5 x6 x7 x8 x9 x10 x11 x12 x13 x14 x15 x16 x17 x18 x19 x20 x21 x22 x23) (fun x => κn (S_block_copied_l4 x)) (oc_block_copied_l4 κ) := by kernel_rfl

theorem q_block_copied_l4_h3 (f0 : ByteArray → ByteArray → Int → Int → List (List DV) → ByteArray → Int → Int → ByteArray → ByteArray → List (List DV) → (ByteArray → ByteArray → Int → Int → List (List DV) → ByteArray → Int → Int → ByteArray → ByteArray → List (List DV) → Option DV) → Option DV) (x0 : Nat) (x1 : Int) (x2 : Int) (x3 : ByteArray) (x4 : ByteArray) (x5 : Int) (x6 : Int) (x7 : Nat) (x8 : ByteArray) (x9 : Int) (x10 : Int) (x11 : ByteArray) (x12 : ByteArray) (x13 : Nat) (x14 : ByteArray) (x15 : ByteArray) (x16 : Int) (x17 : Int) (x18 : ByteArray) (x19 : Int) (x20 : Int) (x21 : ByteArray) (x22 : ByteArray) (x23 : List DV) (x24 : List DV) (κn : St → Option DV) (κ : KC) : pev Try.prog (tab [(30, (KK_block_copied f0))] [(42, (cloneR 38 2 16)), (43, (cloneR 27 11 160))]) (ltab [(4, R_block_copied_l4 f0)]) [(0, [0]), (0, []), (4, [1, 2, 14, 15, 16]), (100004, [1, 2])] 64 (loopB (bodyOf Try.f30) 0) (S_block_copied_l4 (.h3 x0 x1 x2 x3 x4 x5 x6 x7 x8 x9 x10 x11 x12 x13 x14 x15 x16 x17 x18 x19 x20 x21 x22 x23 x24)) (contL 0 [1, 2, 14, 15, 16] [1, 2] κn κ) = F_block_copied_l4 f0 (.h3 x0 x1 x2 x3 x4 x5 x6 x7 x8 x9 x10 x11 x12 x13 x14 x15 x16 x17 x18 x19 x20 x21 x22 x23 x24) (fun x => κn (S_block_copied_l4 x)) (oc_block_copied_l4 κ) := by kernel_rfl

theorem g_block_copied_l4 (f0 : ByteArray → ByteArray → Int → Int → List (List DV) → ByteArray → Int → Int → ByteArray → ByteArray → List (List DV) → (ByteArray → ByteArray → Int → Int → List (List DV) → ByteArray → Int → Int → ByteArray → ByteArray → List (List DV) → Option DV) → Option DV) (HK : KGood Try.prog Inv (tab [(30, (KK_block_copied f0))] [(42, (cloneR 38 2 16)), (43, (cloneR 27 11 160))])) : RGood 0 Try.prog Inv (loopB (bodyOf Try.f30) 0) (R_block_copied_l4 f0) :=
  have hL : LGood 0 Try.prog Inv (ltab [(4, R_block_copied_l4 f0)]) (loopB (bodyOf Try.f30) 0) := (lgood_of (bs := []) (by kernel_rfl) lgood_nil)
  rgood_dec (body := fun s k => pev Try.prog (tab [(30, (KK_block_copied f0))] [(42, (cloneR 38 2 16)), (43, (cloneR 27 11 160))]) (ltab [(4, R_block_copied_l4 f0)]) [(0, [0]), (0, []), (4, [1, 2, 14, 15, 16]), (100004, [1, 2])] 64 (loopB (bodyOf Try.f30) 0) s k) (live := [1, 2, 14, 15, 16]) (out := [1, 2]) (S := S_block_copied_l4) (pev_ok mixed HK (ltab [(4, R_block_copied_l4 f0)]) [(0, [0]), (0, []), (4, [1, 2, 14, 15, 16]), (100004, [1, 2])] 64 _ hL) (pev_nat HK (ltab [(4, R_block_copied_l4 f0)]) [(0, [0]), (0, []), (4, [1, 2, 14, 15, 16]), (100004, [1, 2])] 64 _ hL)
    (fun x κn κ => match x with
      | .h0 _ _ _ _ _ _ _ _ _ _ _ _ _ _ _ _ _ _ _ _ _ _ _ => q_block_copied_l4_h0 f0 _ _ _ _ _ _ _ _ _ _ _ _ _ _ _ _ _ _ _ _ _ _ _ κn κ
      | .h1 _ _ _ _ _ _ _ _ _ _ _ _ _ _ _ _ _ _ _ _ _ _ _ _ => q_block_copied_l4_h1 f0 _ _ _ _ _ _ _ _ _ _ _ _ _ _ _ _ _ _ _ _ _ _ _ _ κn κ
      | .h2 _ _ _ _ _ _ _ _ _ _ _ _ _ _ _ _ _ _ _ _ _ _ _ _ => q_block_copied_l4_h2 f0 _ _ _ _ _ _ _ _ _ _ _ _ _ _ _ _ _ _ _ _ _ _ _ _ κn κ
      | .h3 _ _ _ _ _ _ _ _ _ _ _ _ _ _ _ _ _ _ _ _ _ _ _ _ _ => q_block_copied_l4_h3 f0 _ _ _ _ _ _ _ _ _ _ _ _ _ _ _ _ _ _ _ _ _ _ _ _ _ κn κ
    ) d_block_copied_l4 φ_block_copied_l4

theorem r_block_copied (f0 : ByteArray → ByteArray → Int → Int → List (List DV) → ByteArray → Int → Int → ByteArray → ByteArray → List (List DV) → (ByteArray → ByteArray → Int → Int → List (List DV) → ByteArray → Int → Int → ByteArray → ByteArray → List (List DV) → Option DV) → Option DV) (a0_0 a0_1 : ByteArray) (a0_2 a0_3 : Int) (a0_4 : List (List DV)) (a0_5 : ByteArray) (a0_6 a0_7 : Int) (a0_8 a0_9 : ByteArray) (a0_10 : List (List DV)) (k : DV → Option DV) : B_block_copied f0 a0_0 a0_1 a0_2 a0_3 a0_4 a0_5 a0_6 a0_7 a0_8 a0_9 a0_10 (fun r0_0 r0_1 r0_2 r0_3 r0_4 r0_5 r0_6 r0_7 r0_8 r0_9 r0_10 => k (.agg [.val (.string r0_0), .val (.string r0_1), .val (.int .i64 r0_2), .val (.int .i64 r0_3), .lst 2 r0_4, .val (.string r0_5), .val (.int .i64 r0_6), .val (.int .i64 r0_7), .val (.string r0_8), .val (.string r0_9), .lst 11 r0_10])) = pevL Try.prog (tab [(30, (KK_block_copied f0))] [(42, (cloneR 38 2 16)), (43, (cloneR 27 11 160))]) (ltab [(4, R_block_copied_l4 f0)]) [(0, [0]), (0, []), (4, [1, 2, 14, 15, 16]), (100004, [1, 2])] 64 Try.f30 (bodyOf Try.f30) [.agg [.val (.string a0_0), .val (.string a0_1), .val (.int .i64 a0_2), .val (.int .i64 a0_3), .lst 2 a0_4, .val (.string a0_5), .val (.int .i64 a0_6), .val (.int .i64 a0_7), .val (.string a0_8), .val (.string a0_9), .lst 11 a0_10]] k := by kernel_rfl

theorem m_G_block_copied (N : Nat) : ∀ n, Meets Try.prog Inv 30 (KK_block_copied (block_copied_n N n))
  | 0 => meets_none (by intro ds k; unfold KK_block_copied; split <;> rfl)
  | n + 1 => by
    have ih := m_G_block_copied N n
    exact meets_of_pevL mixed stab (kgood stab (tab_cons (ih) (tab_nil _ _)) (tabH_cons clone_Q (tabH_cons clone_B (tabH_nil _ _)))) Try.func30 (by kernel_rfl) (by kernel_rfl) (by
    intro ds; unfold KK_block_copied; split
    · exact .inr ⟨(ltab [(4, R_block_copied_l4 (block_copied_n N n))]), [(0, [0]), (0, []), (4, [1, 2, 14, 15, 16]), (100004, [1, 2])], 64, lgood_of (bs := [loopB (bodyOf Try.f30) 0]) (by kernel_rfl) (lgood_cons (by kernel_rfl) (g_block_copied_l4 (block_copied_n N n) (kgood stab (tab_cons (ih) (tab_nil _ _)) (tabH_cons clone_Q (tabH_cons clone_B (tabH_nil _ _))))) lgood_nil), fun k => r_block_copied (block_copied_n N n) _ _ _ _ _ _ _ _ _ _ _ k⟩
    · exact .inl (fun _ => rfl))

theorem m_block_copied (N : Nat) : Meets Try.prog Inv 30 (KK_block_copied (block_copied N)) := (m_G_block_copied N N)

end Go.Proofs.Ytdfhakhapblhgaa
