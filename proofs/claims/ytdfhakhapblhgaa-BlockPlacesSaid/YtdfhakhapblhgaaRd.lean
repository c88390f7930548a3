/-
  Diagrams, read as plain functions.
-/
import Derived.Test.YtdfhakhapblhgaaRc
set_option linter.all false
namespace Go.Proofs.Ytdfhakhapblhgaa
open Go.Pv Go.RowKit
set_option maxRecDepth 100000
inductive X_block_joined_l5 where
  | h0 (x0 : ByteArray) (x1 : List (List DV)) (x2 : Int) (x3 : Int) (x4 : ByteArray) (x5 : ByteArray) (x6 : Int) (x7 : Int) (x8 : ByteArray) (x9 : Int) (x10 : Int) (x11 : ByteArray) (x12 : ByteArray) (x13 : ByteArray) (x14 : ByteArray) (x15 : Int) (x16 : Int) (x17 : List (List DV)) (x18 : ByteArray) (x19 : Int) (x20 : Int) (x21 : ByteArray) (x22 : ByteArray) (x23 : List (List DV))
  | h1 (x0 : ByteArray) (x1 : List (List DV)) (x2 : Int) (x3 : Int) (x4 : ByteArray) (x5 : ByteArray) (x6 : Int) (x7 : Int) (x8 : ByteArray) (x9 : Int) (x10 : Int) (x11 : ByteArray) (x12 : ByteArray) (x13 : ByteArray) (x14 : ByteArray) (x15 : Int) (x16 : Int) (x17 : ByteArray) (x18 : Int) (x19 : Int) (x20 : ByteArray) (x21 : ByteArray) (x22 : Nat) (x23 : List DV)
def φ_block_joined_l5 : X_block_joined_l5 → Nat
  | .h0 x0 x1 x2 x3 x4 x5 x6 x7 x8 x9 x10 x11 x12 x13 x14 x15 x16 x17 x18 x19 x20 x21 x22 x23 => Int.toNat (x2 - x3) + 1
  | .h1 x0 x1 x2 x3 x4 x5 x6 x7 x8 x9 x10 x11 x12 x13 x14 x15 x16 x17 x18 x19 x20 x21 x22 x23 => Int.toNat (x2 - x3) + 1
noncomputable def S_block_joined_l5 : X_block_joined_l5 → St
  | .h0 x0 x1 x2 x3 x4 x5 x6 x7 x8 x9 x10 x11 x12 x13 x14 x15 x16 x17 x18 x19 x20 x21 x22 x23 => ⟨mkT [(0, .dv (.val (.string x0))), (4, .ptr 0 0), (5, .ptr 1 0), (17, .dv (.lst 11 x1)), (18, .dv (.val (.int .i64 x2))), (19, .dv (.val (.int .i64 x3)))] (.leaf .dead), 31, [some (.mix [.dv (.val (.string x4)), .dv (.val (.string x5)), .dv (.val (.int .i64 x6)), .dv (.val (.int .i64 x7)), .dv (.val (.slice none 0 0)), .dv (.val (.string x8)), .dv (.val (.int .i64 x9)), .dv (.val (.int .i64 x10)), .dv (.val (.string x11)), .dv (.val (.string x12)), .dv (.val (.slice none 0 0))]), some (.mix [.dv (.val (.string x13)), .dv (.val (.string x14)), .dv (.val (.int .i64 x15)), .dv (.val (.int .i64 x16)), .dv (.lst 2 x17), .dv (.val (.string x18)), .dv (.val (.int .i64 x19)), .dv (.val (.int .i64 x20)), .dv (.val (.string x21)), .dv (.val (.string x22)), .dv (.lst 11 x23)])]⟩
  | .h1 x0 x1 x2 x3 x4 x5 x6 x7 x8 x9 x10 x11 x12 x13 x14 x15 x16 x17 x18 x19 x20 x21 x22 x23 => ⟨mkT [(0, .dv (.val (.string x0))), (4, .ptr 0 0), (5, .ptr 1 0), (17, .dv (.lst 11 x1)), (18, .dv (.val (.int .i64 x2))), (19, .dv (.val (.int .i64 x3)))] (.leaf .dead), 31, [some (.mix [.dv (.val (.string x4)), .dv (.val (.string x5)), .dv (.val (.int .i64 x6)), .dv (.val (.int .i64 x7)), .dv (.val (.slice none 0 0)), .dv (.val (.string x8)), .dv (.val (.int .i64 x9)), .dv (.val (.int .i64 x10)), .dv (.val (.string x11)), .dv (.val (.string x12)), .dv (.val (.slice none 0 0))]), some (.mix [.dv (.val (.string x13)), .dv (.val (.string x14)), .dv (.val (.int .i64 x15)), .dv (.val (.int .i64 x16)), .dv (.val (.slice none 0 0)), .dv (.val (.string x17)), .dv (.val (.int .i64 x18)), .dv (.val (.int .i64 x19)), .dv (.val (.string x20)), .dv (.val (.string x21)), .osl 27 11 2 0 x22]), some (.cells x23)]⟩

noncomputable def oc_block_joined_l5 (k : KC) : (ByteArray → ByteArray → Int → Int → ByteArray → Int → Int → ByteArray → ByteArray → ByteArray → ByteArray → Int → Int → List (List DV) → ByteArray → Int → Int → ByteArray → ByteArray → List (List DV) → Option DV) × (ByteArray → ByteArray → Int → Int → ByteArray → Int → Int → ByteArray → ByteArray → ByteArray → ByteArray → Int → Int → ByteArray → Int → Int → ByteArray → ByteArray → Nat → List DV → Option DV) := (fun y0 y1 y2 y3 y4 y5 y6 y7 y8 y9 y10 y11 y12 y13 y14 y15 y16 y17 y18 y19 => k (.exit 0) ⟨mkT [(4, .ptr 0 0), (5, .ptr 1 0)] (.leaf .dead), 31, [some (.mix [.dv (.val (.string y0)), .dv (.val (.string y1)), .dv (.val (.int .i64 y2)), .dv (.val (.int .i64 y3)), .dv (.val (.slice none 0 0)), .dv (.val (.string y4)), .dv (.val (.int .i64 y5)), .dv (.val (.int .i64 y6)), .dv (.val (.string y7)), .dv (.val (.string y8)), .dv (.val (.slice none 0 0))]), some (.mix [.dv (.val (.string y9)), .dv (.val (.string y10)), .dv (.val (.int .i64 y11)), .dv (.val (.int .i64 y12)), .dv (.lst 2 y13), .dv (.val (.string y14)), .dv (.val (.int .i64 y15)), .dv (.val (.int .i64 y16)), .dv (.val (.string y17)), .dv (.val (.string y18)), .dv (.lst 11 y19)])]⟩, fun y0 y1 y2 y3 y4 y5 y6 y7 y8 y9 y10 y11 y12 y13 y14 y15 y16 y17 y18 y19 => k (.exit 0) ⟨mkT [(4, .ptr 0 0), (5, .ptr 1 0)] (.leaf .dead), 31, [some (.mix [.dv (.val (.string y0)), .dv (.val (.string y1)), .dv (.val (.int .i64 y2)), .dv (.val (.int .i64 y3)), .dv (.val (.slice none 0 0)), .dv (.val (.string y4)), .dv (.val (.int .i64 y5)), .dv (.val (.int .i64 y6)), .dv (.val (.string y7)), .dv (.val (.string y8)), .dv (.val (.slice none 0 0))]), some (.mix [.dv (.val (.string y9)), .dv (.val (.string y10)), .dv (.val (.int .i64 y11)), .dv (.val (.int .i64 y12)), .dv (.val (.slice none 0 0)), .dv (.val (.string y13)), .dv (.val (.int .i64 y14)), .dv (.val (.int .i64 y15)), .dv (.val (.string y16)), .dv (.val (.string y17)), .osl 27 11 2 0 y18]), some (.cells y19)]⟩)

noncomputable def B_block_joined_l5_h0 (f0 : ByteArray → ByteArray → Int → Int → List (List DV) → ByteArray → Int → Int → ByteArray → ByteArray → List (List DV) → (ByteArray → ByteArray → Int → Int → List (List DV) → ByteArray → Int → Int → ByteArray → ByteArray → List (List DV) → Option DV) → Option DV) (x0 : ByteArray) (x1 : List (List DV)) (x2 : Int) (x3 : Int) (x4 : ByteArray) (x5 : ByteArray) (x6 : Int) (x7 : Int) (x8 : ByteArray) (x9 : Int) (x10 : Int) (x11 : ByteArray) (x12 : ByteArray) (x13 : ByteArray) (x14 : ByteArray) (x15 : Int) (x16 : Int) (x17 : List (List DV)) (x18 : ByteArray) (x19 : Int) (x20 : Int) (x21 : ByteArray) (x22 : ByteArray) (x23 : List (List DV)) (κn : X_block_joined_l5 → Option DV) (κ0 : ByteArray → ByteArray → Int → Int → ByteArray → Int → Int → ByteArray → ByteArray → ByteArray → ByteArray → Int → Int → List (List DV) → ByteArray → Int → Int → ByteArray → ByteArray → List (List DV) → Option DV) (κ1 : ByteArray → ByteArray → Int → Int → ByteArray → Int → Int → ByteArray → ByteArray → ByteArray → ByteArray → Int → Int → ByteArray → Int → Int → ByteArray → ByteArray → Nat → List DV → Option DV) : Option DV :=
  bx (decide (x3 < x2)) (bx (decide (0 ≤ x3)) (optE (x1[Int.toNat x3]?) (fun e24 => ld_ssiil2siissl11 e24 0 (fun v25 v26 v27 v28 v29 v30 v31 v32 v33 v34 v35 => f0 v25 v26 v27 v28 v29 v30 v31 v32 v33 v34 v35 (fun r36 r37 r38 r39 r40 r41 r42 r43 r44 r45 r46 => κn (X_block_joined_l5.h1 x0 x1 x2 (IntKind.wrap .i64 (x3 + 1)) x4 x5 x6 x7 x8 x9 x10 x11 x12 x0 (⟨#[]⟩) 0 0 (⟨#[]⟩) 0 0 (⟨#[]⟩) (⟨#[]⟩) 2 ([.val (.string x13), .val (.string x14), .val (.int .i64 x15), .val (.int .i64 x16), .lst 2 x17, .val (.string x18), .val (.int .i64 x19), .val (.int .i64 x20), .val (.string x21), .val (.string x22), .lst 11 x23, .val (.string r36), .val (.string r37), .val (.int .i64 r38), .val (.int .i64 r39), .lst 2 r40, .val (.string r41), .val (.int .i64 r42), .val (.int .i64 r43), .val (.string r44), .val (.string r45), .lst 11 r46])))))) none) (κ0 x4 x5 x6 x7 x8 x9 x10 x11 x12 x13 x14 x15 x16 x17 x18 x19 x20 x21 x22 x23)

noncomputable def B_block_joined_l5_h1 (f0 : ByteArray → ByteArray → Int → Int → List (List DV) → ByteArray → Int → Int → ByteArray → ByteArray → List (List DV) → (ByteArray → ByteArray → Int → Int → List (List DV) → ByteArray → Int → Int → ByteArray → ByteArray → List (List DV) → Option DV) → Option DV) (x0 : ByteArray) (x1 : List (List DV)) (x2 : Int) (x3 : Int) (x4 : ByteArray) (x5 : ByteArray) (x6 : Int) (x7 : Int) (x8 : ByteArray) (x9 : Int) (x10 : Int) (x11 : ByteArray) (x12 : ByteArray) (x13 : ByteArray) (x14 : ByteArray) (x15 : Int) (x16 : Int) (x17 : ByteArray) (x18 : Int) (x19 : Int) (x20 : ByteArray) (x21 : ByteArray) (x22 : Nat) (x23 : List DV) (κn : X_block_joined_l5 → Option DV) (κ0 : ByteArray → ByteArray → Int → Int → ByteArray → Int → Int → ByteArray → ByteArray → ByteArray → ByteArray → Int → Int → List (List DV) → ByteArray → Int → Int → ByteArray → ByteArray → List (List DV) → Option DV) (κ1 : ByteArray → ByteArray → Int → Int → ByteArray → Int → Int → ByteArray → ByteArray → ByteArray → ByteArray → Int → Int → ByteArray → Int → Int → ByteArray → ByteArray → Nat → List DV → Option DV) : Option DV :=
  bx (decide (x3 < x2)) (bx (decide (0 ≤ x3)) (optE (x1[Int.toNat x3]?) (fun e47 => ld_ssiil2siissl11 e47 0 (fun v48 v49 v50 v51 v52 v53 v54 v55 v56 v57 v58 => bx (Nat.ble (0 + x22 * 11) (List.length x23)) (f0 v48 v49 v50 v51 v52 v53 v54 v55 v56 v57 v58 (fun r59 r60 r61 r62 r63 r64 r65 r66 r67 r68 r69 => κn (X_block_joined_l5.h1 x0 x1 x2 (IntKind.wrap .i64 (x3 + 1)) x4 x5 x6 x7 x8 x9 x10 x11 x12 x0 (⟨#[]⟩) 0 0 (⟨#[]⟩) 0 0 (⟨#[]⟩) (⟨#[]⟩) 2 ([.val (.string x13), .val (.string x14), .val (.int .i64 x15), .val (.int .i64 x16), .lst 2 [], .val (.string x17), .val (.int .i64 x18), .val (.int .i64 x19), .val (.string x20), .val (.string x21), .lst 11 (chunks 11 x22 (List.drop 0 x23)), .val (.string r59), .val (.string r60), .val (.int .i64 r61), .val (.int .i64 r62), .lst 2 r63, .val (.string r64), .val (.int .i64 r65), .val (.int .i64 r66), .val (.string r67), .val (.string r68), .lst 11 r69])))) none))) none) (κ1 x4 x5 x6 x7 x8 x9 x10 x11 x12 x13 x14 x15 x16 x17 x18 x19 x20 x21 x22 x23)

noncomputable def F_block_joined_l5 (f0 : ByteArray → ByteArray → Int → Int → List (List DV) → ByteArray → Int → Int → ByteArray → ByteArray → List (List DV) → (ByteArray → ByteArray → Int → Int → List (List DV) → ByteArray → Int → Int → ByteArray → ByteArray → List (List DV) → Option DV) → Option DV) : X_block_joined_l5 → (X_block_joined_l5 → Option DV) → ((ByteArray → ByteArray → Int → Int → ByteArray → Int → Int → ByteArray → ByteArray → ByteArray → ByteArray → Int → Int → List (List DV) → ByteArray → Int → Int → ByteArray → ByteArray → List (List DV) → Option DV) × (ByteArray → ByteArray → Int → Int → ByteArray → Int → Int → ByteArray → ByteArray → ByteArray → ByteArray → Int → Int → ByteArray → Int → Int → ByteArray → ByteArray → Nat → List DV → Option DV)) → Option DV
  | .h0 x0 x1 x2 x3 x4 x5 x6 x7 x8 x9 x10 x11 x12 x13 x14 x15 x16 x17 x18 x19 x20 x21 x22 x23, κn, κ => B_block_joined_l5_h0 f0 x0 x1 x2 x3 x4 x5 x6 x7 x8 x9 x10 x11 x12 x13 x14 x15 x16 x17 x18 x19 x20 x21 x22 x23 κn κ.1 κ.2
  | .h1 x0 x1 x2 x3 x4 x5 x6 x7 x8 x9 x10 x11 x12 x13 x14 x15 x16 x17 x18 x19 x20 x21 x22 x23, κn, κ => B_block_joined_l5_h1 f0 x0 x1 x2 x3 x4 x5 x6 x7 x8 x9 x10 x11 x12 x13 x14 x15 x16 x17 x18 x19 x20 x21 x22 x23 κn κ.1 κ.2

noncomputable def dec_block_joined_l5 (s : St) : Option X_block_joined_l5 :=
  orO (bindO (xN s.n 31) fun u => bindO (xD (s.tmps.get 0)) fun d1 => bindO (xS d1) fun x0 => bindO (xP 0 0 (s.tmps.get 4)) fun u3 => bindO (xP 1 0 (s.tmps.get 5)) fun u4 => bindO (xD (s.tmps.get 17)) fun d5 => bindO (xL 11 d5) fun x1 => bindO (xD (s.tmps.get 18)) fun d7 => bindO (xI .i64 d7) fun x2 => bindO (xD (s.tmps.get 19)) fun d9 => bindO (xI .i64 d9) fun x3 => bindO (xMix s.heap) fun p11 => bindO (xUn p11.1) fun q12 => bindO (xD q12.1) fun d13 => bindO (xS d13) fun x4 => bindO (xUn q12.2) fun q15 => bindO (xD q15.1) fun d16 => bindO (xS d16) fun x5 => bindO (xUn q15.2) fun q18 => bindO (xD q18.1) fun d19 => bindO (xI .i64 d19) fun x6 => bindO (xUn q18.2) fun q21 => bindO (xD q21.1) fun d22 => bindO (xI .i64 d22) fun x7 => bindO (xUn q21.2) fun q24 => bindO (xD q24.1) fun d25 => bindO (xNil d25) fun u26 => bindO (xUn q24.2) fun q27 => bindO (xD q27.1) fun d28 => bindO (xS d28) fun x8 => bindO (xUn q27.2) fun q30 => bindO (xD q30.1) fun d31 => bindO (xI .i64 d31) fun x9 => bindO (xUn q30.2) fun q33 => bindO (xD q33.1) fun d34 => bindO (xI .i64 d34) fun x10 => bindO (xUn q33.2) fun q36 => bindO (xD q36.1) fun d37 => bindO (xS d37) fun x11 => bindO (xUn q36.2) fun q39 => bindO (xD q39.1) fun d40 => bindO (xS d40) fun x12 => bindO (xUn q39.2) fun q42 => bindO (xD q42.1) fun d43 => bindO (xNil d43) fun u44 => bindO (xEnd q42.2) fun u45 => bindO (xMix p11.2) fun p46 => bindO (xUn p46.1) fun q47 => bindO (xD q47.1) fun d48 => bindO (xS d48) fun x13 => bindO (xUn q47.2) fun q50 => bindO (xD q50.1) fun d51 => bindO (xS d51) fun x14 => bindO (xUn q50.2) fun q53 => bindO (xD q53.1) fun d54 => bindO (xI .i64 d54) fun x15 => bindO (xUn q53.2) fun q56 => bindO (xD q56.1) fun d57 => bindO (xI .i64 d57) fun x16 => bindO (xUn q56.2) fun q59 => bindO (xD q59.1) fun d60 => bindO (xL 2 d60) fun x17 => bindO (xUn q59.2) fun q62 => bindO (xD q62.1) fun d63 => bindO (xS d63) fun x18 => bindO (xUn q62.2) fun q65 => bindO (xD q65.1) fun d66 => bindO (xI .i64 d66) fun x19 => bindO (xUn q65.2) fun q68 => bindO (xD q68.1) fun d69 => bindO (xI .i64 d69) fun x20 => bindO (xUn q68.2) fun q71 => bindO (xD q71.1) fun d72 => bindO (xS d72) fun x21 => bindO (xUn q71.2) fun q74 => bindO (xD q74.1) fun d75 => bindO (xS d75) fun x22 => bindO (xUn q74.2) fun q77 => bindO (xD q77.1) fun d78 => bindO (xL 11 d78) fun x23 => bindO (xEnd q77.2) fun u80 => bindO (xEnd p46.2) fun u81 => some (.h0 x0 x1 x2 x3 x4 x5 x6 x7 x8 x9 x10 x11 x12 x13 x14 x15 x16 x17 x18 x19 x20 x21 x22 x23)) (bindO (xN s.n 31) fun u => bindO (xD (s.tmps.get 0)) fun d1 => bindO (xS d1) fun x0 => bindO (xP 0 0 (s.tmps.get 4)) fun u3 => bindO (xP 1 0 (s.tmps.get 5)) fun u4 => bindO (xD (s.tmps.get 17)) fun d5 => bindO (xL 11 d5) fun x1 => bindO (xD (s.tmps.get 18)) fun d7 => bindO (xI .i64 d7) fun x2 => bindO (xD (s.tmps.get 19)) fun d9 => bindO (xI .i64 d9) fun x3 => bindO (xMix s.heap) fun p11 => bindO (xUn p11.1) fun q12 => bindO (xD q12.1) fun d13 => bindO (xS d13) fun x4 => bindO (xUn q12.2) fun q15 => bindO (xD q15.1) fun d16 => bindO (xS d16) fun x5 => bindO (xUn q15.2) fun q18 => bindO (xD q18.1) fun d19 => bindO (xI .i64 d19) fun x6 => bindO (xUn q18.2) fun q21 => bindO (xD q21.1) fun d22 => bindO (xI .i64 d22) fun x7 => bindO (xUn q21.2) fun q24 => bindO (xD q24.1) fun d25 => bindO (xNil d25) fun u26 => bindO (xUn q24.2) fun q27 => bindO (xD q27.1) fun d28 => bindO (xS d28) fun x8 => bindO (xUn q27.2) fun q30 => bindO (xD q30.1) fun d31 => bindO (xI .i64 d31) fun x9 => bindO (xUn q30.2) fun q33 => bindO (xD q33.1) fun d34 => bindO (xI .i64 d34) fun x10 => bindO (xUn q33.2) fun q36 => bindO (xD q36.1) fun d37 => bindO (xS d37) fun x11 => bindO (xUn q36.2) fun q39 => bindO (xD q39.1) fun d40 => bindO (xS d40) fun x12 => bindO (xUn q39.2) fun q42 => bindO (xD q42.1) fun d43 => bindO (xNil d43) fun u44 => bindO (xEnd q42.2) fun u45 => bindO (xMix p11.2) fun p46 => bindO (xUn p46.1) fun q47 => bindO (xD q47.1) fun d48 => bindO (xS d48) fun x13 => bindO (xUn q47.2) fun q50 => bindO (xD q50.1) fun d51 => bindO (xS d51) fun x14 => bindO (xUn q50.2) fun q53 => bindO (xD q53.1) fun d54 => bindO (xI .i64 d54) fun x15 => bindO (xUn q53.2) fun q56 => bindO (xD q56.1) fun d57 => bindO (xI .i64 d57) fun x16 => bindO (xUn q56.2) fun q59 => bindO (xD q59.1) fun d60 => bindO (xNil d60) fun u61 => bindO (xUn q59.2) fun q62 => bindO (xD q62.1) fun d63 => bindO (xS d63) fun x17 => bindO (xUn q62.2) fun q65 => bindO (xD q65.1) fun d66 => bindO (xI .i64 d66) fun x18 => bindO (xUn q65.2) fun q68 => bindO (xD q68.1) fun d69 => bindO (xI .i64 d69) fun x19 => bindO (xUn q68.2) fun q71 => bindO (xD q71.1) fun d72 => bindO (xS d72) fun x20 => bindO (xUn q71.2) fun q74 => bindO (xD q74.1) fun d75 => bindO (xS d75) fun x21 => bindO (xUn q74.2) fun q77 => bindO (xO 27 11 2 0 q77.1) fun x22 => bindO (xEnd q77.2) fun u79 => bindO (xBlk p46.2) fun p80 => bindO (xEnd p80.2) fun u81 => some (.h1 x0 x1 x2 x3 x4 x5 x6 x7 x8 x9 x10 x11 x12 x13 x14 x15 x16 x17 x18 x19 x20 x21 x22 p80.1))

noncomputable def R_block_joined_l5 (f0 : ByteArray → ByteArray → Int → Int → List (List DV) → ByteArray → Int → Int → ByteArray → ByteArray → List (List DV) → (ByteArray → ByteArray → Int → Int → List (List DV) → ByteArray → Int → Int → ByteArray → ByteArray → List (List DV) → Option DV) → Option DV) : St → KC → Option DV := decR dec_block_joined_l5 (F_block_joined_l5 f0) φ_block_joined_l5 oc_block_joined_l5

theorem d_block_joined_l5 : ∀ s x, dec_block_joined_l5 s = some x → SLe s (S_block_joined_l5 x) := by
  intro s x h
  unfold dec_block_joined_l5 at h
  rcases orO_some h with h | h
  · obtain ⟨u, en, h⟩ := bindO_some h
    obtain ⟨d1, e1, h⟩ := bindO_some h
    obtain ⟨x0, e2, h⟩ := bindO_some h
    obtain ⟨u3, e3, h⟩ := bindO_some h
    obtain ⟨u4, e4, h⟩ := bindO_some h
    obtain ⟨d5, e5, h⟩ := bindO_some h
    obtain ⟨x1, e6, h⟩ := bindO_some h
    obtain ⟨d7, e7, h⟩ := bindO_some h
    obtain ⟨x2, e8, h⟩ := bindO_some h
    obtain ⟨d9, e9, h⟩ := bindO_some h
    obtain ⟨x3, e10, h⟩ := bindO_some h
    obtain ⟨p11, e11, h⟩ := bindO_some h
    obtain ⟨q12, e12, h⟩ := bindO_some h
    obtain ⟨d13, e13, h⟩ := bindO_some h
    obtain ⟨x4, e14, h⟩ := bindO_some h
    obtain ⟨q15, e15, h⟩ := bindO_some h
    obtain ⟨d16, e16, h⟩ := bindO_some h
    obtain ⟨x5, e17, h⟩ := bindO_some h
    obtain ⟨q18, e18, h⟩ := bindO_some h
    obtain ⟨d19, e19, h⟩ := bindO_some h
    obtain ⟨x6, e20, h⟩ := bindO_some h
    obtain ⟨q21, e21, h⟩ := bindO_some h
    obtain ⟨d22, e22, h⟩ := bindO_some h
    obtain ⟨x7, e23, h⟩ := bindO_some h
    obtain ⟨q24, e24, h⟩ := bindO_some h
    obtain ⟨d25, e25, h⟩ := bindO_some h
    obtain ⟨u26, e26, h⟩ := bindO_some h
    obtain ⟨q27, e27, h⟩ := bindO_some h
    obtain ⟨d28, e28, h⟩ := bindO_some h
    obtain ⟨x8, e29, h⟩ := bindO_some h
    obtain ⟨q30, e30, h⟩ := bindO_some h
    obtain ⟨d31, e31, h⟩ := bindO_some h
    obtain ⟨x9, e32, h⟩ := bindO_some h
    obtain ⟨q33, e33, h⟩ := bindO_some h
    obtain ⟨d34, e34, h⟩ := bindO_some h
    obtain ⟨x10, e35, h⟩ := bindO_some h
    obtain ⟨q36, e36, h⟩ := bindO_some h
    obtain ⟨d37, e37, h⟩ := bindO_some h
    obtain ⟨x11, e38, h⟩ := bindO_some h
    obtain ⟨q39, e39, h⟩ := bindO_some h
    obtain ⟨d40, e40, h⟩ := bindO_some h
    obtain ⟨x12, e41, h⟩ := bindO_some h
    obtain ⟨q42, e42, h⟩ := bindO_some h
    obtain ⟨d43, e43, h⟩ := bindO_some h
    obtain ⟨u44, e44, h⟩ := bindO_some h
    obtain ⟨u45, e45, h⟩ := bindO_some h
    obtain ⟨p46, e46, h⟩ := bindO_some h
    obtain ⟨q47, e47, h⟩ := bindO_some h
    obtain ⟨d48, e48, h⟩ := bindO_some h
    obtain ⟨x13, e49, h⟩ := bindO_some h
    obtain ⟨q50, e50, h⟩ := bindO_some h
    obtain ⟨d51, e51, h⟩ := bindO_some h
    obtain ⟨x14, e52, h⟩ := bindO_some h
    obtain ⟨q53, e53, h⟩ := bindO_some h
    obtain ⟨d54, e54, h⟩ := bindO_some h
    obtain ⟨x15, e55, h⟩ := bindO_some h
    obtain ⟨q56, e56, h⟩ := bindO_some h
    obtain ⟨d57, e57, h⟩ := bindO_some h
    obtain ⟨x16, e58, h⟩ := bindO_some h
    obtain ⟨q59, e59, h⟩ := bindO_some h
    obtain ⟨d60, e60, h⟩ := bindO_some h
    obtain ⟨x17, e61, h⟩ := bindO_some h
    obtain ⟨q62, e62, h⟩ := bindO_some h
    obtain ⟨d63, e63, h⟩ := bindO_some h
    obtain ⟨x18, e64, h⟩ := bindO_some h
    obtain ⟨q65, e65, h⟩ := bindO_some h
    obtain ⟨d66, e66, h⟩ := bindO_some h
    obtain ⟨x19, e67, h⟩ := bindO_some h
    obtain ⟨q68, e68, h⟩ := bindO_some h
    obtain ⟨d69, e69, h⟩ := bindO_some h
    obtain ⟨x20, e70, h⟩ := bindO_some h
    obtain ⟨q71, e71, h⟩ := bindO_some h
    obtain ⟨d72, e72, h⟩ := bindO_some h
    obtain ⟨x21, e73, h⟩ := bindO_some h
    obtain ⟨q74, e74, h⟩ := bindO_some h
    obtain ⟨d75, e75, h⟩ := bindO_some h
    obtain ⟨x22, e76, h⟩ := bindO_some h
    obtain ⟨q77, e77, h⟩ := bindO_some h
    obtain ⟨d78, e78, h⟩ := bindO_some h
    obtain ⟨x23, e79, h⟩ := bindO_some h
    obtain ⟨u80, e80, h⟩ := bindO_some h
    obtain ⟨u81, e81, h⟩ := bindO_some h
    cases h
    exact ⟨le_mkT _ _ (Le.dead _) ⟨.inr ((xD_eq e1).trans (congrArg VV.dv (xS_eq e2))), .inr (xP_eq e3), .inr (xP_eq e4), .inr ((xD_eq e5).trans (congrArg VV.dv (xL_eq e6))), .inr ((xD_eq e7).trans (congrArg VV.dv (xI_eq e8))), .inr ((xD_eq e9).trans (congrArg VV.dv (xI_eq e10))), trivial⟩, (xN_eq en).symm, by rw [xMix_eq e11, xUn_eq e12, xD_eq e13, xS_eq e14, xUn_eq e15, xD_eq e16, xS_eq e17, xUn_eq e18, xD_eq e19, xI_eq e20, xUn_eq e21, xD_eq e22, xI_eq e23, xUn_eq e24, xD_eq e25, xNil_eq e26, xUn_eq e27, xD_eq e28, xS_eq e29, xUn_eq e30, xD_eq e31, xI_eq e32, xUn_eq e33, xD_eq e34, xI_eq e35, xUn_eq e36, xD_eq e37, xS_eq e38, xUn_eq e39, xD_eq e40, xS_eq e41, xUn_eq e42, xD_eq e43, xNil_eq e44, xEnd_eq e45, xMix_eq e46, xUn_eq e47, xD_eq e48, xS_eq e49, xUn_eq e50, xD_eq e51, xS_eq e52, xUn_eq e53, xD_eq e54, xI_eq e55, xUn_eq e56, xD_eq e57, xI_eq e58, xUn_eq e59, xD_eq e60, xL_eq e61, xUn_eq e62, xD_eq e63, xS_eq e64, xUn_eq e65, xD_eq e66, xI_eq e67, xUn_eq e68, xD_eq e69, xI_eq e70, xUn_eq e71, xD_eq e72, xS_eq e73, xUn_eq e74, xD_eq e75, xS_eq e76, xUn_eq e77, xD_eq e78, xL_eq e79, xEnd_eq e80, xEnd_eq e81]; rfl⟩
  · obtain ⟨u, en, h⟩ := bindO_some h
    obtain ⟨d1, e1, h⟩ := bindO_some h
    obtain ⟨x0, e2, h⟩ := bindO_some h
    obtain ⟨u3, e3, h⟩ := bindO_some h
    obtain ⟨u4, e4, h⟩ := bindO_some h
    obtain ⟨d5, e5, h⟩ := bindO_some h
    obtain ⟨x1, e6, h⟩ := bindO_some h
    obtain ⟨d7, e7, h⟩ := bindO_some h
    obtain ⟨x2, e8, h⟩ := bindO_some h
    obtain ⟨d9, e9, h⟩ := bindO_some h
    obtain ⟨x3, e10, h⟩ := bindO_some h
    obtain ⟨p11, e11, h⟩ := bindO_some h
    obtain ⟨q12, e12, h⟩ := bindO_some h
    obtain ⟨d13, e13, h⟩ := bindO_some h
    obtain ⟨x4, e14, h⟩ := bindO_some h
    obtain ⟨q15, e15, h⟩ := bindO_some h
    obtain ⟨d16, e16, h⟩ := bindO_some h
    obtain ⟨x5, e17, h⟩ := bindO_some h
    obtain ⟨q18, e18, h⟩ := bindO_some h
    obtain ⟨d19, e19, h⟩ := bindO_some h
    obtain ⟨x6, e20, h⟩ := bindO_some h
    obtain ⟨q21, e21, h⟩ := bindO_some h
    obtain ⟨d22, e22, h⟩ := bindO_some h
    obtain ⟨x7, e23, h⟩ := bindO_some h
    obtain ⟨q24, e24, h⟩ := bindO_some h
    obtain ⟨d25, e25, h⟩ := bindO_some h
    obtain ⟨u26, e26, h⟩ := bindO_some h
    obtain ⟨q27, e27, h⟩ := bindO_some h
    obtain ⟨d28, e28, h⟩ := bindO_some h
    obtain ⟨x8, e29, h⟩ := bindO_some h
    obtain ⟨q30, e30, h⟩ := bindO_some h
    obtain ⟨d31, e31, h⟩ := bindO_some h
    obtain ⟨x9, e32, h⟩ := bindO_some h
    obtain ⟨q33, e33, h⟩ := bindO_some h
    obtain ⟨d34, e34, h⟩ := bindO_some h
    obtain ⟨x10, e35, h⟩ := bindO_some h
    obtain ⟨q36, e36, h⟩ := bindO_some h
    obtain ⟨d37, e37, h⟩ := bindO_some h
    obtain ⟨x11, e38, h⟩ := bindO_some h
    obtain ⟨q39, e39, h⟩ := bindO_some h
    obtain ⟨d40, e40, h⟩ := bindO_some h
    obtain ⟨x12, e41, h⟩ := bindO_some h
    obtain ⟨q42, e42, h⟩ := bindO_some h
    obtain ⟨d43, e43, h⟩ := bindO_some h
    obtain ⟨u44, e44, h⟩ := bindO_some h
    obtain ⟨u45, e45, h⟩ := bindO_some h
    obtain ⟨p46, e46, h⟩ := bindO_some h
    obtain ⟨q47, e47, h⟩ := bindO_some h
    obtain ⟨d48, e48, h⟩ := bindO_some h
    obtain ⟨x13, e49, h⟩ := bindO_some h
    obtain ⟨q50, e50, h⟩ := bindO_some h
    obtain ⟨d51, e51, h⟩ := bindO_some h
    obtain ⟨x14, e52, h⟩ := bindO_some h
    obtain ⟨q53, e53, h⟩ := bindO_some h
    obtain ⟨d54, e54, h⟩ := bindO_some h
    obtain ⟨x15, e55, h⟩ := bindO_some h
    obtain ⟨q56, e56, h⟩ := bindO_some h
    obtain ⟨d57, e57, h⟩ := bindO_some h
    obtain ⟨x16, e58, h⟩ := bindO_some h
    obtain ⟨q59, e59, h⟩ := bindO_some h
    obtain ⟨d60, e60, h⟩ := bindO_some h
    obtain ⟨u61, e61, h⟩ := bindO_some h
    obtain ⟨q62, e62, h⟩ := bindO_some h
    obtain ⟨d63, e63, h⟩ := bindO_some h
    obtain ⟨x17, e64, h⟩ := bindO_some h
    obtain ⟨q65, e65, h⟩ := bindO_some h
    obtain ⟨d66, e66, h⟩ := bindO_some h
    obtain ⟨x18, e67, h⟩ := bindO_some h
    obtain ⟨q68, e68, h⟩ := bindO_some h
    obtain ⟨d69, e69, h⟩ := bindO_some h
    obtain ⟨x19, e70, h⟩ := bindO_some h
    obtain ⟨q71, e71, h⟩ := bindO_some h
    obtain ⟨d72, e72, h⟩ := bindO_some h
    obtain ⟨x20, e73, h⟩ := bindO_some h
    obtain ⟨q74, e74, h⟩ := bindO_some h
    obtain ⟨d75, e75, h⟩ := bindO_some h
    obtain ⟨x21, e76, h⟩ := bindO_some h
    obtain ⟨q77, e77, h⟩ := bindO_some h
    obtain ⟨x22, e78, h⟩ := bindO_some h
    obtain ⟨u79, e79, h⟩ := bindO_some h
    obtain ⟨p80, e80, h⟩ := bindO_some h
    obtain ⟨u81, e81, h⟩ := bindO_some h
    cases h
    exact ⟨le_mkT _ _ (Le.dead _) ⟨.inr ((xD_eq e1).trans (congrArg VV.dv (xS_eq e2))), .inr (xP_eq e3), .inr (xP_eq e4), .inr ((xD_eq e5).trans (congrArg VV.dv (xL_eq e6))), .inr ((xD_eq e7).trans (congrArg VV.dv (xI_eq e8))), .inr ((xD_eq e9).trans (congrArg VV.dv (xI_eq e10))), trivial⟩, (xN_eq en).symm, by rw [xMix_eq e11, xUn_eq e12, xD_eq e13, xS_eq e14, xUn_eq e15, xD_eq e16, xS_eq e17, xUn_eq e18, xD_eq e19, xI_eq e20, xUn_eq e21, xD_eq e22, xI_eq e23, xUn_eq e24, xD_eq e25, xNil_eq e26, xUn_eq e27, xD_eq e28, xS_eq e29, xUn_eq e30, xD_eq e31, xI_eq e32, xUn_eq e33, xD_eq e34, xI_eq e35, xUn_eq e36, xD_eq e37, xS_eq e38, xUn_eq e39, xD_eq e40, xS_eq e41, xUn_eq e42, xD_eq e43, xNil_eq e44, xEnd_eq e45, xMix_eq e46, xUn_eq e47, xD_eq e48, xS_eq e49, xUn_eq e50, xD_eq e51, xS_eq e52, xUn_eq e53, xD_eq e54, xI_eq e55, xUn_eq e56, xD_eq e57, xI_eq e58, xUn_eq e59, xD_eq e60, xNil_eq e61, xUn_eq e62, xD_eq e63, xS_eq e64, xUn_eq e65, xD_eq e66, xI_eq e67, xUn_eq e68, xD_eq e69, xI_eq e70, xUn_eq e71, xD_eq e72, xS_eq e73, xUn_eq e74, xD_eq e75, xS_eq e76, xUn_eq e77, xO_eq e78, xEnd_eq e79, xBlk_eq e80, xEnd_eq e81]; rfl⟩
noncomputable def B_block_joined (f0 : ByteArray → ByteArray → Int → Int → List (List DV) → ByteArray → Int → Int → ByteArray → ByteArray → List (List DV) → (ByteArray → ByteArray → Int → Int → List (List DV) → ByteArray → Int → Int → ByteArray → ByteArray → List (List DV) → Option DV) → Option DV) (a0 : ByteArray) (a1 : List (List DV)) (k : ByteArray → ByteArray → Int → Int → List (List DV) → ByteArray → Int → Int → ByteArray → ByteArray → List (List DV) → Option DV) : Option DV :=
  bx (((List.length a1 : Nat) : Int) == 0) (k (⟨#[]⟩) (⟨#[]⟩) 0 0 [] (⟨#[]⟩) 0 0 (⟨#[]⟩) (⟨#[]⟩) []) (optE (a1[Int.toNat 0]?) (fun e1 => ld_ssiil2siissl11 e1 0 (fun v2 v3 v4 v5 v6 v7 v8 v9 v10 v11 v12 => f0 v2 v3 v4 v5 v6 v7 v8 v9 v10 v11 v12 (fun r13 r14 r15 r16 r17 r18 r19 r20 r21 r22 r23 => bx ((true && decide (0 ≤ ((List.length a1 : Nat) : Int)) && decide (((List.length a1 : Nat) : Int) ≤ ((List.length a1 : Nat) : Int)) && decide (0 ≤ 1) && decide (1 ≤ ((List.length a1 : Nat) : Int)))) (LF (F_block_joined_l5 f0) (φ_block_joined_l5 (X_block_joined_l5.h0 a0 (List.drop (Int.toNat 1) (List.take (Int.toNat ((List.length a1 : Nat) : Int)) a1)) ((List.length (List.drop (Int.toNat 1) (List.take (Int.toNat ((List.length a1 : Nat) : Int)) a1)) : Nat) : Int) 0 (⟨#[]⟩) (⟨#[]⟩) 0 0 (⟨#[]⟩) 0 0 (⟨#[]⟩) (⟨#[]⟩) r13 r14 r15 r16 r17 r18 r19 r20 r21 r22 r23)) (X_block_joined_l5.h0 a0 (List.drop (Int.toNat 1) (List.take (Int.toNat ((List.length a1 : Nat) : Int)) a1)) ((List.length (List.drop (Int.toNat 1) (List.take (Int.toNat ((List.length a1 : Nat) : Int)) a1)) : Nat) : Int) 0 (⟨#[]⟩) (⟨#[]⟩) 0 0 (⟨#[]⟩) 0 0 (⟨#[]⟩) (⟨#[]⟩) r13 r14 r15 r16 r17 r18 r19 r20 r21 r22 r23) ((fun z70_0 z70_1 z70_2 z70_3 z70_4 z70_5 z70_6 z70_7 z70_8 z70_9 z70_10 z70_11 z70_12 z70_13 z70_14 z70_15 z70_16 z70_17 z70_18 z70_19 => k z70_9 z70_10 z70_11 z70_12 z70_13 z70_14 z70_15 z70_16 z70_17 z70_18 z70_19), (fun z71_0 z71_1 z71_2 z71_3 z71_4 z71_5 z71_6 z71_7 z71_8 z71_9 z71_10 z71_11 z71_12 z71_13 z71_14 z71_15 z71_16 z71_17 z71_18 z71_19 => bx (Nat.ble (0 + z71_18 * 11) (List.length z71_19)) (k z71_9 z71_10 z71_11 z71_12 [] z71_13 z71_14 z71_15 z71_16 z71_17 (chunks 11 z71_18 (List.drop 0 z71_19))) none))) none))))

noncomputable def KK_block_joined (f0 : ByteArray → List (List DV) → (ByteArray → ByteArray → Int → Int → List (List DV) → ByteArray → Int → Int → ByteArray → ByteArray → List (List DV) → Option DV) → Option DV) (ds : List DV) (k : DV → Option DV) : Option DV :=
  match ds with
  | [.val (.string a0), .lst 11 a1] => f0 a0 a1 (fun r0_0 r0_1 r0_2 r0_3 r0_4 r0_5 r0_6 r0_7 r0_8 r0_9 r0_10 => k (.agg [.val (.string r0_0), .val (.string r0_1), .val (.int .i64 r0_2), .val (.int .i64 r0_3), .lst 2 r0_4, .val (.string r0_5), .val (.int .i64 r0_6), .val (.int .i64 r0_7), .val (.string r0_8), .val (.string r0_9), .lst 11 r0_10]))
  | _ => none

noncomputable def block_joined (N : Nat) (a0 : ByteArray) (a1 : List (List DV)) (k : ByteArray → ByteArray → Int → Int → List (List DV) → ByteArray → Int → Int → ByteArray → ByteArray → List (List DV) → Option DV) : Option DV := B_block_joined (block_copied N) a0 a1 k

theorem q_block_joined_l5_h0 (f0 : ByteArray → ByteArray → Int → Int → List (List DV) → ByteArray → Int → Int → ByteArray → ByteArray → List (List DV) → (ByteArray → ByteArray → Int → Int → List (List DV) → ByteArray → Int → Int → ByteArray → ByteArray → List (List DV) → Option DV) → Option DV) (x0 : ByteArray) (x1 : List (List DV)) (x2 : Int) (x3 : Int) (x4 : ByteArray) (x5 : ByteArray) (x6 : Int) (x7 : Int) (x8 : ByteArray) (x9 : Int) (x10 : Int) (x11 : ByteArray) (x12 : ByteArray) (x13 : ByteArray) (x14 : ByteArray) (x15 : Int) (x16 : Int) (x17 : List (List DV)) (x18 : ByteArray) (x19 : Int) (x20 : Int) (x21 : ByteArray) (x22 : ByteArray) (x23 : List (List DV)) (κn : St → Option DV) (κ : KC) : pev Try.prog (tab [(30, (KK_block_copied f0))] []) (ltab [(5, R_block_joined_l5 f0)]) [(0, [0]), (0, []), (5, [0, 4, 5, 17, 18, 19]), (100005, [4, 5]), (300007, [5])] 64 (loopB (bodyOf Try.f32) 0) (S_block_joined_l5 (.h0 x0 x1 x2 x3 x4 x5 x6 x7 x8 x9 x10 x11 x12 x13 x14 x15 x16 x17 x18 x19 x20 x21 x22 x23)) (contL 0 [0, 4, 5, 17, 18, 19] [4, 5] κn κ) = F_block_joined_l5 f0 (.h0 x0 x1 x2 x3 x4 x5 x6 x7 x8 x9 x10 x11 x12 x13 x14 x15 x16 x17 x18 x19 x20 x21 x22 x23) (fun x => κn (S_block_joined_l5 x)) (oc_block_joined_l5 κ) := by kernel_rfl

theorem q_block_joined_l5_h1 (f0 : ByteArray → ByteArray → Int → Int → List (List DV) → ByteArray → Int → Int → ByteArray → ByteArray → List (List DV) → (ByteArray → ByteArray → Int → Int → List (List DV) → ByteArray → Int → Int → ByteArray → ByteArray → List (List DV) → Option DV) → Option DV) (x0 : ByteArray) (x1 : List (List DV)) (x2 : Int) (x3 : Int) (x4 : ByteArray) (x5 : ByteArray) (x6 : Int) (x7 : Int) (x8 : ByteArray) (x9 : Int) (x10 : Int) (x11 : ByteArray) (x12 : ByteArray) (x13 : ByteArray) (x14 : ByteArray) (x15 : Int) (x16 : Int) (x17 : ByteArray) (x18 : Int) (x19 : Int) (x20 : ByteArray) (x21 : ByteArray) (x22 : Nat) (x23 : List DV) (κn : St → Option DV) (κ : KC) : pev Try.prog (tab [(30, (KK_block_copied f0))] []) (ltab [(5, R_block_joined_l5 f0)]) [(0, [0]), (0, []), (5, [0, 4, 5, 17, 18, 19]), (100005, [4, 5]), (300007, [5])] 64 (loopB (bodyOf Try.f32) 0) (S_block_joined_l5 (.h1 x0 x1 x2 x3 x4 x5 x6 x7 x8 x9 x10 x11 x12 x13 x14 x15 x16 x17 x18 x19 x20 x21 x22 x23)) (contL 0 [0, 4, 5, 17, 18, 19] [4, 5] κn κ) = F_block_joined_l5 f0 (.h1 x0 x1 x2 x3 x4 x5 x6 x7 x8 x9 x10 x11 x12 x13 x14 x15 x16 x17 x18 x19 x20 x21 x22 x23) (fun x => κn (S_block_joined_l5 x)) (oc_block_joined_l5 κ) := by kernel_rfl

theorem g_block_joined_l5 (f0 : ByteArray → ByteArray → Int → Int → List (List DV) → ByteArray → Int → Int → ByteArray → ByteArray → List (List DV) → (ByteArray → ByteArray → Int → Int → List (List DV) → ByteArray → Int → Int → ByteArray → ByteArray → List (List DV) → Option DV) → Option DV) (HK : KGood Try.prog Inv (tab [(30, (KK_block_copied f0))] [])) : RGood 0 Try.prog Inv (loopB (bodyOf Try.f32) 0) (R_block_joined_l5 f0) :=
  have hL : LGood 0 Try.prog Inv (ltab [(5, R_block_joined_l5 f0)]) (loopB (bodyOf Try.f32) 0) := (lgood_of (bs := []) (by kernel_rfl) lgood_nil)
  rgood_dec (body := fun s k => pev Try.prog (tab [(30, (KK_block_copied f0))] []) (ltab [(5, R_block_joined_l5 f0)]) [(0, [0]), (0, []), (5, [0, 4, 5, 17, 18, 19]), (100005, [4, 5]), (300007, [5])] 64 (loopB (bodyOf Try.f32) 0) s k) (live := [0, 4, 5, 17, 18, 19]) (out := [4, 5]) (S := S_block_joined_l5) (pev_ok mixed HK (ltab [(5, R_block_joined_l5 f0)]) [(0, [0]), (0, []), (5, [0, 4, 5, 17, 18, 19]), (100005, [4, 5]), (300007, [5])] 64 _ hL) (pev_nat HK (ltab [(5, R_block_joined_l5 f0)]) [(0, [0]), (0, []), (5, [0, 4, 5, 17, 18, 19]), (100005, [4, 5]), (300007, [5])] 64 _ hL)
    (fun x κn κ => match x with
      | .h0 _ _ _ _ _ _ _ _ _ _ _ _ _ _ _ _ _ _ _ _ _ _ _ _ => q_block_joined_l5_h0 f0 _ _ _ _ _ _ _ _ _ _ _ _ _ _ _ _ _ _ _ _ _ _ _ _ κn κ
      | .h1 _ _ _ _ _ _ _ _ _ _ _ _ _ _ _ _ _ _ _ _ _ _ _ _ => q_block_joined_l5_h1 f0 _ _ _ _ _ _ _ _ _ _ _ _ _ _ _ _ _ _ _ _ _ _ _ _ κn κ
    ) d_block_joined_l5 φ_block_joined_l5

theorem r_block_joined (f0 : ByteArray → ByteArray → Int → Int → List (List DV) → ByteArray → Int → Int → ByteArray → ByteArray → List (List DV) → (ByteArray → ByteArray → Int → Int → List (List DV) → ByteArray → Int → Int → ByteArray → ByteArray → List (List DV) → Option DV) → Option DV) (a0 : ByteArray) (a1 : List (List DV)) (k : DV → Option DV) : B_block_joined f0 a0 a1 (fun r0_0 r0_1 r0_2 r0_3 r0_4 r0_5 r0_6 r0_7 r0_8 r0_9 r0_10 => k (.agg [.val (.string r0_0), .val (.string r0_1), .val (.int .i64 r0_2), .val (.int .i64 r0_3), .lst 2 r0_4, .val (.string r0_5), .val (.int .i64 r0_6), .val (.int .i64 r0_7), .val (.string r0_8), .val (.string r0_9), .lst 11 r0_10])) = pevL Try.prog (tab [(30, (KK_block_copied f0))] []) (ltab [(5, R_block_joined_l5 f0)]) [(0, [0]), (0, []), (5, [0, 4, 5, 17, 18, 19]), (100005, [4, 5]), (300007, [5])] 64 Try.f32 (bodyOf Try.f32) [.val (.string a0), .lst 11 a1] k := by kernel_rfl

theorem m_block_joined (N : Nat) : Meets Try.prog Inv 32 (KK_block_joined (block_joined N)) :=
  meets_of_pevL mixed stab (kgood stab (tab_cons (m_block_copied N) (tab_nil _ _)) (tabH_nil _ _)) Try.func32 (by kernel_rfl) (by kernel_rfl) (by
    intro ds; unfold KK_block_joined; split
    · exact .inr ⟨(ltab [(5, R_block_joined_l5 (block_copied N))]), [(0, [0]), (0, []), (5, [0, 4, 5, 17, 18, 19]), (100005, [4, 5]), (300007, [5])], 64, lgood_of (bs := [loopB (bodyOf Try.f32) 0]) (by kernel_rfl) (lgood_cons (by kernel_rfl) (g_block_joined_l5 (block_copied N) (kgood stab (tab_cons (m_block_copied N) (tab_nil _ _)) (tabH_nil _ _))) lgood_nil), fun k => r_block_joined (block_copied N) _ _ k⟩
    · exact .inl (fun _ => rfl))

noncomputable def B_block_Join (f0 : ByteArray → List (List DV) → (ByteArray → ByteArray → Int → Int → List (List DV) → ByteArray → Int → Int → ByteArray → ByteArray → List (List DV) → Option DV) → Option DV) (a0 a1_0 a1_1 : ByteArray) (a1_2 a1_3 : Int) (a1_4 : List (List DV)) (a1_5 : ByteArray) (a1_6 a1_7 : Int) (a1_8 a1_9 : ByteArray) (a1_10 : List (List DV)) (a2_0 a2_1 : ByteArray) (a2_2 a2_3 : Int) (a2_4 : List (List DV)) (a2_5 : ByteArray) (a2_6 a2_7 : Int) (a2_8 a2_9 : ByteArray) (a2_10 : List (List DV)) (k : ByteArray → ByteArray → Int → Int → List (List DV) → ByteArray → Int → Int → ByteArray → ByteArray → List (List DV) → Option DV) : Option DV :=
  f0 a0 ([[.val (.string a1_0), .val (.string a1_1), .val (.int .i64 a1_2), .val (.int .i64 a1_3), .lst 2 a1_4, .val (.string a1_5), .val (.int .i64 a1_6), .val (.int .i64 a1_7), .val (.string a1_8), .val (.string a1_9), .lst 11 a1_10], [.val (.string a2_0), .val (.string a2_1), .val (.int .i64 a2_2), .val (.int .i64 a2_3), .lst 2 a2_4, .val (.string a2_5), .val (.int .i64 a2_6), .val (.int .i64 a2_7), .val (.string a2_8), .val (.string a2_9), .lst 11 a2_10]]) (fun r1 r2 r3 r4 r5 r6 r7 r8 r9 r10 r11 => k r1 r2 r3 r4 r5 r6 r7 r8 r9 r10 r11)

noncomputable def KK_block_Join (f0 : ByteArray → ByteArray → ByteArray → Int → Int → List (List DV) → ByteArray → Int → Int → ByteArray → ByteArray → List (List DV) → ByteArray → ByteArray → Int → Int → List (List DV) → ByteArray → Int → Int → ByteArray → ByteArray → List (List DV) → (ByteArray → ByteArray → Int → Int → List (List DV) → ByteArray → Int → Int → ByteArray → ByteArray → List (List DV) → Option DV) → Option DV) (ds : List DV) (k : DV → Option DV) : Option DV :=
  match ds with
  | [.val (.string a0), .agg [.val (.string a1_0), .val (.string a1_1), .val (.int .i64 a1_2), .val (.int .i64 a1_3), .lst 2 a1_4, .val (.string a1_5), .val (.int .i64 a1_6), .val (.int .i64 a1_7), .val (.string a1_8), .val (.string a1_9), .lst 11 a1_10], .agg [.val (.string a2_0), .val (.string a2_1), .val (.int .i64 a2_2), .val (.int .i64 a2_3), .lst 2 a2_4, .val (.string a2_5), .val (.int .i64 a2_6), .val (.int .i64 a2_7), .val (.string a2_8), .val (.string a2_9), .lst 11 a2_10]] => f0 a0 a1_0 a1_1 a1_2 a1_3 a1_4 a1_5 a1_6 a1_7 a1_8 a1_9 a1_10 a2_0 a2_1 a2_2 a2_3 a2_4 a2_5 a2_6 a2_7 a2_8 a2_9 a2_10 (fun r0_0 r0_1 r0_2 r0_3 r0_4 r0_5 r0_6 r0_7 r0_8 r0_9 r0_10 => k (.agg [.val (.string r0_0), .val (.string r0_1), .val (.int .i64 r0_2), .val (.int .i64 r0_3), .lst 2 r0_4, .val (.string r0_5), .val (.int .i64 r0_6), .val (.int .i64 r0_7), .val (.string r0_8), .val (.string r0_9), .lst 11 r0_10]))
  | _ => none

noncomputable def block_Join (N : Nat) (a0 a1_0 a1_1 : ByteArray) (a1_2 a1_3 : Int) (a1_4 : List (List DV)) (a1_5 : ByteArray) (a1_6 a1_7 : Int) (a1_8 a1_9 : ByteArray) (a1_10 : List (List DV)) (a2_0 a2_1 : ByteArray) (a2_2 a2_3 : Int) (a2_4 : List (List DV)) (a2_5 : ByteArray) (a2_6 a2_7 : Int) (a2_8 a2_9 : ByteArray) (a2_10 : List (List DV)) (k : ByteArray → ByteArray → Int → Int → List (List DV) → ByteArray → Int → Int → ByteArray → ByteArray → List (List DV) → Option DV) : Option DV := B_block_Join (block_joined N) a0 a1_0 a1_1 a1_2 a1_3 a1_4 a1_5 a1_6 a1_7 a1_8 a1_9 a1_10 a2_0 a2_1 a2_2 a2_3 a2_4 a2_5 a2_6 a2_7 a2_8 a2_9 a2_10 k

theorem r_block_Join (f0 : ByteArray → List (List DV) → (ByteArray → ByteArray → Int → Int → List (List DV) → ByteArray → Int → Int → ByteArray → ByteArray → List (List DV) → Option DV) → Option DV) (a0 a1_0 a1_1 : ByteArray) (a1_2 a1_3 : Int) (a1_4 : List (List DV)) (a1_5 : ByteArray) (a1_6 a1_7 : Int) (a1_8 a1_9 : ByteArray) (a1_10 : List (List DV)) (a2_0 a2_1 : ByteArray) (a2_2 a2_3 : Int) (a2_4 : List (List DV)) (a2_5 : ByteArray) (a2_6 a2_7 : Int) (a2_8 a2_9 : ByteArray) (a2_10 : List (List DV)) (k : DV → Option DV) : B_block_Join f0 a0 a1_0 a1_1 a1_2 a1_3 a1_4 a1_5 a1_6 a1_7 a1_8 a1_9 a1_10 a2_0 a2_1 a2_2 a2_3 a2_4 a2_5 a2_6 a2_7 a2_8 a2_9 a2_10 (fun r0_0 r0_1 r0_2 r0_3 r0_4 r0_5 r0_6 r0_7 r0_8 r0_9 r0_10 => k (.agg [.val (.string r0_0), .val (.string r0_1), .val (.int .i64 r0_2), .val (.int .i64 r0_3), .lst 2 r0_4, .val (.string r0_5), .val (.int .i64 r0_6), .val (.int .i64 r0_7), .val (.string r0_8), .val (.string r0_9), .lst 11 r0_10])) = pevL Try.prog (tab [(32, (KK_block_joined f0))] []) noL [] 64 Try.f23 (bodyOf Try.f23) [.val (.string a0), .agg [.val (.string a1_0), .val (.string a1_1), .val (.int .i64 a1_2), .val (.int .i64 a1_3), .lst 2 a1_4, .val (.string a1_5), .val (.int .i64 a1_6), .val (.int .i64 a1_7), .val (.string a1_8), .val (.string a1_9), .lst 11 a1_10], .agg [.val (.string a2_0), .val (.string a2_1), .val (.int .i64 a2_2), .val (.int .i64 a2_3), .lst 2 a2_4, .val (.string a2_5), .val (.int .i64 a2_6), .val (.int .i64 a2_7), .val (.string a2_8), .val (.string a2_9), .lst 11 a2_10]] k := by kernel_rfl

theorem m_block_Join (N : Nat) : Meets Try.prog Inv 23 (KK_block_Join (block_Join N)) :=
  meets_of_pevL mixed stab (kgood stab (tab_cons (m_block_joined N) (tab_nil _ _)) (tabH_nil _ _)) Try.func23 (by kernel_rfl) (by kernel_rfl) (by
    intro ds; unfold KK_block_Join; split
    · exact .inr ⟨noL, [], 64, LGood.none _ _ _, fun k => r_block_Join (block_joined N) _ _ _ _ _ _ _ _ _ _ _ _ _ _ _ _ _ _ _ _ _ _ _ k⟩
    · exact .inl (fun _ => rfl))

inductive X_block_Size_l3 where
  | h0 (x0 : Int) (x1 : List (List DV)) (x2 : Int) (x3 : Int)
def φ_block_Size_l3 : X_block_Size_l3 → Nat
  | .h0 x0 x1 x2 x3 => Int.toNat (x2 - x3) + 1
noncomputable def S_block_Size_l3 : X_block_Size_l3 → St
  | .h0 x0 x1 x2 x3 => ⟨mkT [(3, .dv (.val (.int .i64 x0))), (7, .dv (.lst 11 x1)), (8, .dv (.val (.int .i64 x2))), (9, .dv (.val (.int .i64 x3)))] (.leaf .dead), 19, []⟩

noncomputable def oc_block_Size_l3 (k : KC) : KI := (fun y0 => k (.exit 0) ⟨mkT [(3, .dv (.val (.int .i64 y0)))] (.leaf .dead), 19, []⟩)

noncomputable def B_block_Size_l3_h0 (f0 : ByteArray → ByteArray → Int → Int → List (List DV) → ByteArray → Int → Int → ByteArray → ByteArray → List (List DV) → KI → Option DV) (x0 : Int) (x1 : List (List DV)) (x2 : Int) (x3 : Int) (κn : X_block_Size_l3 → Option DV) (κ0 : KI) : Option DV :=
  bx (decide (x3 < x2)) (bx (decide (0 ≤ x3)) (optE (x1[Int.toNat x3]?) (fun e1 => ld_ssiil2siissl11 e1 0 (fun v2 v3 v4 v5 v6 v7 v8 v9 v10 v11 v12 => f0 v2 v3 v4 v5 v6 v7 v8 v9 v10 v11 v12 (fun r13 => κn (X_block_Size_l3.h0 (IntKind.wrap .i64 (x0 + r13)) x1 x2 (IntKind.wrap .i64 (x3 + 1))))))) none) (κ0 x0)

noncomputable def F_block_Size_l3 (f0 : ByteArray → ByteArray → Int → Int → List (List DV) → ByteArray → Int → Int → ByteArray → ByteArray → List (List DV) → KI → Option DV) : X_block_Size_l3 → (X_block_Size_l3 → Option DV) → (KI) → Option DV
  | .h0 x0 x1 x2 x3, κn, κ => B_block_Size_l3_h0 f0 x0 x1 x2 x3 κn κ

noncomputable def dec_block_Size_l3 (s : St) : Option X_block_Size_l3 :=
  bindO (xN s.n 19) fun u => bindO (xD (s.tmps.get 3)) fun d1 => bindO (xI .i64 d1) fun x0 => bindO (xD (s.tmps.get 7)) fun d3 => bindO (xL 11 d3) fun x1 => bindO (xD (s.tmps.get 8)) fun d5 => bindO (xI .i64 d5) fun x2 => bindO (xD (s.tmps.get 9)) fun d7 => bindO (xI .i64 d7) fun x3 => bindO (xEnd s.heap) fun u9 => some (.h0 x0 x1 x2 x3)

noncomputable def R_block_Size_l3 (f0 : ByteArray → ByteArray → Int → Int → List (List DV) → ByteArray → Int → Int → ByteArray → ByteArray → List (List DV) → KI → Option DV) : St → KC → Option DV := decR dec_block_Size_l3 (F_block_Size_l3 f0) φ_block_Size_l3 oc_block_Size_l3

theorem d_block_Size_l3 : ∀ s x, dec_block_Size_l3 s = some x → SLe s (S_block_Size_l3 x) := by
  intro s x h
  unfold dec_block_Size_l3 at h
  · obtain ⟨u, en, h⟩ := bindO_some h
    obtain ⟨d1, e1, h⟩ := bindO_some h
    obtain ⟨x0, e2, h⟩ := bindO_some h
    obtain ⟨d3, e3, h⟩ := bindO_some h
    obtain ⟨x1, e4, h⟩ := bindO_some h
    obtain ⟨d5, e5, h⟩ := bindO_some h
    obtain ⟨x2, e6, h⟩ := bindO_some h
    obtain ⟨d7, e7, h⟩ := bindO_some h
    obtain ⟨x3, e8, h⟩ := bindO_some h
    obtain ⟨u9, e9, h⟩ := bindO_some h
    cases h
    exact ⟨le_mkT _ _ (Le.dead _) ⟨.inr ((xD_eq e1).trans (congrArg VV.dv (xI_eq e2))), .inr ((xD_eq e3).trans (congrArg VV.dv (xL_eq e4))), .inr ((xD_eq e5).trans (congrArg VV.dv (xI_eq e6))), .inr ((xD_eq e7).trans (congrArg VV.dv (xI_eq e8))), trivial⟩, (xN_eq en).symm, by rw [xEnd_eq e9]; rfl⟩
noncomputable def B_block_Size (f0 : ByteArray → ByteArray → Int → Int → List (List DV) → ByteArray → Int → Int → ByteArray → ByteArray → List (List DV) → KI → Option DV) (a0_0 a0_1 : ByteArray) (a0_2 a0_3 : Int) (a0_4 : List (List DV)) (a0_5 : ByteArray) (a0_6 a0_7 : Int) (a0_8 a0_9 : ByteArray) (a0_10 : List (List DV)) (k : KI) : Option DV :=
  LF (F_block_Size_l3 f0) (φ_block_Size_l3 (X_block_Size_l3.h0 1 a0_10 ((List.length a0_10 : Nat) : Int) 0)) (X_block_Size_l3.h0 1 a0_10 ((List.length a0_10 : Nat) : Int) 0) ((fun z14_0 => k z14_0))

noncomputable def KK_block_Size (f0 : ByteArray → ByteArray → Int → Int → List (List DV) → ByteArray → Int → Int → ByteArray → ByteArray → List (List DV) → KI → Option DV) (ds : List DV) (k : DV → Option DV) : Option DV :=
  match ds with
  | [.agg [.val (.string a0_0), .val (.string a0_1), .val (.int .i64 a0_2), .val (.int .i64 a0_3), .lst 2 a0_4, .val (.string a0_5), .val (.int .i64 a0_6), .val (.int .i64 a0_7), .val (.string a0_8), .val (.string a0_9), .lst 11 a0_10]] => f0 a0_0 a0_1 a0_2 a0_3 a0_4 a0_5 a0_6 a0_7 a0_8 a0_9 a0_10 (fun r0_0 => k (.val (.int .i64 r0_0)))
  | _ => none

noncomputable def G_block_Size (N : Nat) : Nat → (ByteArray → ByteArray → Int → Int → List (List DV) → ByteArray → Int → Int → ByteArray → ByteArray → List (List DV) → KI → Option DV)
  | 0 => (fun _ _ _ _ _ _ _ _ _ _ _ _ => none)
  | n + 1 => (fun a0_0 a0_1 a0_2 a0_3 a0_4 a0_5 a0_6 a0_7 a0_8 a0_9 a0_10 k => B_block_Size (G_block_Size N n) a0_0 a0_1 a0_2 a0_3 a0_4 a0_5 a0_6 a0_7 a0_8 a0_9 a0_10 k)

noncomputable def block_Size_n (N n : Nat) : ByteArray → ByteArray → Int → Int → List (List DV) → ByteArray → Int → Int → ByteArray → ByteArray → List (List DV) → KI → Option DV := (G_block_Size N n)
noncomputable def block_Size (N : Nat) : ByteArray → ByteArray → Int → Int → List (List DV) → ByteArray → Int → Int → ByteArray → ByteArray → List (List DV) → KI → Option DV := block_Size_n N N

theorem q_block_Size_l3_h0 (f0 : ByteArray → ByteArray → Int → Int → List (List DV) → ByteArray → Int → Int → ByteArray → ByteArray → List (List DV) → KI → Option DV) (x0 : Int) (x1 : List (List DV)) (x2 : Int) (x3 : Int) (κn : St → Option DV) (κ : KC) : pev Try.prog (tab [(28, (KK_block_Size f0))] []) (ltab [(3, R_block_Size_l3 f0)]) [(0, [0]), (0, []), (3, [3, 7, 8, 9]), (100003, [3])] 64 (loopB (bodyOf Try.f28) 0) (S_block_Size_l3 (.h0 x0 x1 x2 x3)) (contL 0 [3, 7, 8, 9] [3] κn κ) = F_block_Size_l3 f0 (.h0 x0 x1 x2 x3) (fun x => κn (S_block_Size_l3 x)) (oc_block_Size_l3 κ) := by kernel_rfl

theorem g_block_Size_l3 (f0 : ByteArray → ByteArray → Int → Int → List (List DV) → ByteArray → Int → Int → ByteArray → ByteArray → List (List DV) → KI → Option DV) (HK : KGood Try.prog Inv (tab [(28, (KK_block_Size f0))] [])) : RGood 0 Try.prog Inv (loopB (bodyOf Try.f28) 0) (R_block_Size_l3 f0) :=
  have hL : LGood 0 Try.prog Inv (ltab [(3, R_block_Size_l3 f0)]) (loopB (bodyOf Try.f28) 0) := (lgood_of (bs := []) (by kernel_rfl) lgood_nil)
  rgood_dec (body := fun s k => pev Try.prog (tab [(28, (KK_block_Size f0))] []) (ltab [(3, R_block_Size_l3 f0)]) [(0, [0]), (0, []), (3, [3, 7, 8, 9]), (100003, [3])] 64 (loopB (bodyOf Try.f28) 0) s k) (live := [3, 7, 8, 9]) (out := [3]) (S := S_block_Size_l3) (pev_ok mixed HK (ltab [(3, R_block_Size_l3 f0)]) [(0, [0]), (0, []), (3, [3, 7, 8, 9]), (100003, [3])] 64 _ hL) (pev_nat HK (ltab [(3, R_block_Size_l3 f0)]) [(0, [0]), (0, []), (3, [3, 7, 8, 9]), (100003, [3])] 64 _ hL)
    (fun x κn κ => match x with
      | .h0 _ _ _ _ => q_block_Size_l3_h0 f0 _ _ _ _ κn κ
    ) d_block_Size_l3 φ_block_Size_l3

theorem r_block_Size (f0 : ByteArray → ByteArray → Int → Int → List (List DV) → ByteArray → Int → Int → ByteArray → ByteArray → List (List DV) → KI → Option DV) (a0_0 a0_1 : ByteArray) (a0_2 a0_3 : Int) (a0_4 : List (List DV)) (a0_5 : ByteArray) (a0_6 a0_7 : Int) (a0_8 a0_9 : ByteArray) (a0_10 : List (List DV)) (k : DV → Option DV) : B_block_Size f0 a0_0 a0_1 a0_2 a0_3 a0_4 a0_5 a0_6 a0_7 a0_8 a0_9 a0_10 (fun r0_0 => k (.val (.int .i64 r0_0))) = pevL Try.prog (tab [(28, (KK_block_Size f0))] []) (ltab [(3, R_block_Size_l3 f0)]) [(0, [0]), (0, []), (3, [3, 7, 8, 9]), (100003, [3])] 64 Try.f28 (bodyOf Try.f28) [.agg [.val (.string a0_0), .val (.string a0_1), .val (.int .i64 a0_2), .val (.int .i64 a0_3), .lst 2 a0_4, .val (.string a0_5), .val (.int .i64 a0_6), .val (.int .i64 a0_7), .val (.string a0_8), .val (.string a0_9), .lst 11 a0_10]] k := by kernel_rfl

theorem m_G_block_Size (N : Nat) : ∀ n, Meets Try.prog Inv 28 (KK_block_Size (block_Size_n N n))
  | 0 => meets_none (by intro ds k; unfold KK_block_Size; split <;> rfl)
  | n + 1 => by
    have ih := m_G_block_Size N n
    exact meets_of_pevL mixed stab (kgood stab (tab_cons (ih) (tab_nil _ _)) (tabH_nil _ _)) Try.func28 (by kernel_rfl) (by kernel_rfl) (by
    intro ds; unfold KK_block_Size; split
    · exact .inr ⟨(ltab [(3, R_block_Size_l3 (block_Size_n N n))]), [(0, [0]), (0, []), (3, [3, 7, 8, 9]), (100003, [3])], 64, lgood_of (bs := [loopB (bodyOf Try.f28) 0]) (by kernel_rfl) (lgood_cons (by kernel_rfl) (g_block_Size_l3 (block_Size_n N n) (kgood stab (tab_cons (ih) (tab_nil _ _)) (tabH_nil _ _))) lgood_nil), fun k => r_block_Size (block_Size_n N n) _ _ _ _ _ _ _ _ _ _ _ k⟩
    · exact .inl (fun _ => rfl))

theorem m_block_Size (N : Nat) : Meets Try.prog Inv 28 (KK_block_Size (block_Size N)) := (m_G_block_Size N N)

noncomputable def B_block_shapeOf  (a0 : ByteArray) (k : Int → Int → Int → Int → Bool → Bool → Bool → Bool → Option DV) : Option DV :=
  bx ((ByteArray.toList a0 == ByteArray.toList (⟨#[99, 117, 116]⟩))) (k 1 0 0 0 false false false true) (bx ((ByteArray.toList a0 == ByteArray.toList (⟨#[119, 105, 114, 101]⟩))) (k 1 1 0 0 false false false true) (bx ((ByteArray.toList a0 == ByteArray.toList (⟨#[110, 101, 103]⟩))) (k 1 1 0 0 false false false true) (bx ((ByteArray.toList a0 == ByteArray.toList (⟨#[97, 98, 115]⟩))) (k 1 1 0 0 false false false true) (bx ((ByteArray.toList a0 == ByteArray.toList (⟨#[102, 108, 111, 111, 114]⟩))) (k 1 1 0 0 false false false true) (bx ((ByteArray.toList a0 == ByteArray.toList (⟨#[114, 111, 117, 110, 100]⟩))) (k 1 1 0 0 false false false true) (bx ((ByteArray.toList a0 == ByteArray.toList (⟨#[102, 114, 97, 99]⟩))) (k 1 1 0 0 false false false true) (bx ((ByteArray.toList a0 == ByteArray.toList (⟨#[110, 111, 116]⟩))) (k 1 1 0 0 false false false true) (bx ((ByteArray.toList a0 == ByteArray.toList (⟨#[97, 100, 100]⟩))) (k 2 1 0 0 false false false true) (bx ((ByteArray.toList a0 == ByteArray.toList (⟨#[115, 117, 98]⟩))) (k 2 1 0 0 false false false true) (bx ((ByteArray.toList a0 == ByteArray.toList (⟨#[109, 117, 108]⟩))) (k 2 1 0 0 false false false true) (bx ((ByteArray.toList a0 == ByteArray.toList (⟨#[100, 105, 118]⟩))) (k 2 1 0 0 false false false true) (bx ((ByteArray.toList a0 == ByteArray.toList (⟨#[109, 111, 100]⟩))) (k 2 1 0 0 false false false true) (bx ((ByteArray.toList a0 == ByteArray.toList (⟨#[109, 105, 110]⟩))) (k 2 1 0 0 false false false true) (bx ((ByteArray.toList a0 == ByteArray.toList (⟨#[109, 97, 120]⟩))) (k 2 1 0 0 false false false true) (bx ((ByteArray.toList a0 == ByteArray.toList (⟨#[108, 116]⟩))) (k 2 1 0 0 false false false true) (bx ((ByteArray.toList a0 == ByteArray.toList (⟨#[108, 101]⟩))) (k 2 1 0 0 false false false true) (bx ((ByteArray.toList a0 == ByteArray.toList (⟨#[101, 113]⟩))) (k 2 1 0 0 false false false true) (bx ((ByteArray.toList a0 == ByteArray.toList (⟨#[110, 101]⟩))) (k 2 1 0 0 false false false true) (bx ((ByteArray.toList a0 == ByteArray.toList (⟨#[97, 110, 100]⟩))) (k 2 1 0 0 false false false true) (bx ((ByteArray.toList a0 == ByteArray.toList (⟨#[111, 114]⟩))) (k 2 1 0 0 false false false true) (bx ((ByteArray.toList a0 == ByteArray.toList (⟨#[120, 111, 114]⟩))) (k 2 1 0 0 false false false true) (bx ((ByteArray.toList a0 == ByteArray.toList (⟨#[115, 104, 108]⟩))) (k 2 1 0 0 false false false true) (bx ((ByteArray.toList a0 == ByteArray.toList (⟨#[115, 104, 114]⟩))) (k 2 1 0 0 false false false true) (bx ((ByteArray.toList a0 == ByteArray.toList (⟨#[112, 105, 99, 107]⟩))) (k 3 1 0 0 false false false true) (bx ((ByteArray.toList a0 == ByteArray.toList (⟨#[102, 105, 116]⟩))) (k 1 1 0 0 true false false true) (bx ((ByteArray.toList a0 == ByteArray.toList (⟨#[100, 101, 108, 97, 121]⟩))) (k 1 1 0 1 false false false true) (bx ((ByteArray.toList a0 == ByteArray.toList (⟨#[118, 97, 114, 121]⟩))) (k 2 1 0 2 false false false true) (bx ((ByteArray.toList a0 == ByteArray.toList (⟨#[110, 117, 109]⟩))) (k 0 1 0 0 false false true true) (bx ((ByteArray.toList a0 == ByteArray.toList (⟨#[119, 97, 118, 101]⟩))) (k 0 1 0 0 false false true true) (bx ((ByteArray.toList a0 == ByteArray.toList (⟨#[116, 97, 98, 108, 101]⟩))) (k 1 1 0 0 false false true true) (bx ((ByteArray.toList a0 == ByteArray.toList (⟨#[115, 116, 111, 114, 101]⟩))) (k 3 1 0 0 false false true true) (bx ((ByteArray.toList a0 == ByteArray.toList (⟨#[107, 110, 111, 98]⟩))) (k 0 1 0 0 false true true true) (bx ((ByteArray.toList a0 == ByteArray.toList (⟨#[115, 104, 111, 119]⟩))) (k 1 1 0 0 false true false true) (bx ((ByteArray.toList a0 == ByteArray.toList (⟨#[112, 97, 114]⟩))) (k 0 0 2 0 false false false true) (bx ((ByteArray.toList a0 == ByteArray.toList (⟨#[115, 101, 113]⟩))) (k 0 0 2 0 false false false true) (bx ((ByteArray.toList a0 == ByteArray.toList (⟨#[115, 112, 108, 105, 116]⟩))) (k 0 0 2 0 false false false true) (bx ((ByteArray.toList a0 == ByteArray.toList (⟨#[109, 101, 114, 103, 101]⟩))) (k 0 0 2 0 false false false true) (bx ((ByteArray.toList a0 == ByteArray.toList (⟨#[114, 101, 99]⟩))) (k 0 0 2 0 false false false true) (bx ((ByteArray.toList a0 == ByteArray.toList (⟨#[117, 112]⟩))) (k 0 0 1 1 false false false true) (bx ((ByteArray.toList a0 == ByteArray.toList (⟨#[100, 111, 119, 110]⟩))) (k 0 0 1 1 false false false true) (bx ((ByteArray.toList a0 == ByteArray.toList (⟨#[103, 97, 116, 101]⟩))) (k 0 0 1 0 false false false true) (bx ((ByteArray.toList a0 == ByteArray.toList (⟨#[114, 101, 115, 101, 116]⟩))) (k 0 0 1 0 false false false true) (k 0 0 0 0 false false false false)))))))))))))))))))))))))))))))))))))))))))

noncomputable def KK_block_shapeOf (f0 : ByteArray → (Int → Int → Int → Int → Bool → Bool → Bool → Bool → Option DV) → Option DV) (ds : List DV) (k : DV → Option DV) : Option DV :=
  match ds with
  | [.val (.string a0)] => f0 a0 (fun r0_0 r0_1 r0_2 r0_3 r0_4 r0_5 r0_6 r1_0 => k (.val (.tuple ⟨[.agg ⟨[.int .i64 r0_0, .int .i64 r0_1, .int .i64 r0_2, .int .i64 r0_3, .bool r0_4, .bool r0_5, .bool r0_6]⟩, .bool r1_0]⟩)))
  | _ => none

noncomputable def block_shapeOf (a0 : ByteArray) (k : Int → Int → Int → Int → Bool → Bool → Bool → Bool → Option DV) : Option DV := B_block_shapeOf  a0 k

theorem r_block_shapeOf  (a0 : ByteArray) (k : DV → Option DV) : B_block_shapeOf  a0 (fun r0_0 r0_1 r0_2 r0_3 r0_4 r0_5 r0_6 r1_0 => k (.val (.tuple ⟨[.agg ⟨[.int .i64 r0_0, .int .i64 r0_1, .int .i64 r0_2, .int .i64 r0_3, .bool r0_4, .bool r0_5, .bool r0_6]⟩, .bool r1_0]⟩))) = pevL Try.prog (tab [] []) noL [] 64 Try.f61 (bodyOf Try.f61) [.val (.string a0)] k := by kernel_rfl

theorem m_block_shapeOf : Meets Try.prog Inv 61 (KK_block_shapeOf block_shapeOf) :=
  meets_of_pevL mixed stab (kgood stab (tab_nil _ _) (tabH_nil _ _)) Try.func61 (by kernel_rfl) (by kernel_rfl) (by
    intro ds; unfold KK_block_shapeOf; split
    · exact .inr ⟨noL, [], 64, LGood.none _ _ _, fun k => r_block_shapeOf  _ k⟩
    · exact .inl (fun _ => rfl))

end Go.Proofs.Ytdfhakhapblhgaa
