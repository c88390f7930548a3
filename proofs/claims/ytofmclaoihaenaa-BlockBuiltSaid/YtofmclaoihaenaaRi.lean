/-
  Diagrams, read as plain functions.
-/
import Derived.Test.YtofmclaoihaenaaRh
set_option linter.all false
namespace Go.Proofs.Ytofmclaoihaenaa
open Go.Pv Go.RowKit
set_option maxRecDepth 100000
inductive X_serinetteref05_Same_l4 where
  | h0 (x0 : Int) (x1 : ByteArray) (x2 : ByteArray) (x3 : Int) (x4 : Int) (x5 : List (List DV)) (x6 : ByteArray) (x7 : Int) (x8 : Int) (x9 : ByteArray) (x10 : ByteArray) (x11 : List (List DV)) (x12 : ByteArray) (x13 : ByteArray) (x14 : Int) (x15 : Int) (x16 : List (List DV)) (x17 : ByteArray) (x18 : Int) (x19 : Int) (x20 : ByteArray) (x21 : ByteArray) (x22 : List (List DV))
def φ_serinetteref05_Same_l4 : X_serinetteref05_Same_l4 → Nat
  | .h0 x0 x1 x2 x3 x4 x5 x6 x7 x8 x9 x10 x11 x12 x13 x14 x15 x16 x17 x18 x19 x20 x21 x22 => Int.toNat (((List.length x11 : Nat) : Int) - x0) + 1
noncomputable def S_serinetteref05_Same_l4 : X_serinetteref05_Same_l4 → St
  | .h0 x0 x1 x2 x3 x4 x5 x6 x7 x8 x9 x10 x11 x12 x13 x14 x15 x16 x17 x18 x19 x20 x21 x22 => ⟨mkT [(2, .ptr 0 0), (3, .ptr 1 0), (5, .dv (.val (.int .i64 x0)))] (.leaf .dead), 75, [some (.mix [.dv (.val (.string x1)), .dv (.val (.string x2)), .dv (.val (.int .i64 x3)), .dv (.val (.int .i64 x4)), .dv (.lst 2 x5), .dv (.val (.string x6)), .dv (.val (.int .i64 x7)), .dv (.val (.int .i64 x8)), .dv (.val (.string x9)), .dv (.val (.string x10)), .dv (.lst 11 x11)]), some (.mix [.dv (.val (.string x12)), .dv (.val (.string x13)), .dv (.val (.int .i64 x14)), .dv (.val (.int .i64 x15)), .dv (.lst 2 x16), .dv (.val (.string x17)), .dv (.val (.int .i64 x18)), .dv (.val (.int .i64 x19)), .dv (.val (.string x20)), .dv (.val (.string x21)), .dv (.lst 11 x22)])]⟩

noncomputable def oc_serinetteref05_Same_l4 (k : KC) : KB × (Option DV) := (fun y0 => k .ret ⟨mkT [(4, .dv (.val (.bool y0)))] (.leaf .dead), 75, []⟩, k (.exit 0) ⟨mkT [(4, .dead)] (.leaf .dead), 75, []⟩)

noncomputable def B_serinetteref05_Same_l4_h0 (f0 : ByteArray → ByteArray → Int → Int → List (List DV) → ByteArray → Int → Int → ByteArray → ByteArray → List (List DV) → ByteArray → ByteArray → Int → Int → List (List DV) → ByteArray → Int → Int → ByteArray → ByteArray → List (List DV) → KB → Option DV) (f1 : List (List DV) → List (List DV) → KB → Option DV) (x0 : Int) (x1 : ByteArray) (x2 : ByteArray) (x3 : Int) (x4 : Int) (x5 : List (List DV)) (x6 : ByteArray) (x7 : Int) (x8 : Int) (x9 : ByteArray) (x10 : ByteArray) (x11 : List (List DV)) (x12 : ByteArray) (x13 : ByteArray) (x14 : Int) (x15 : Int) (x16 : List (List DV)) (x17 : ByteArray) (x18 : Int) (x19 : Int) (x20 : ByteArray) (x21 : ByteArray) (x22 : List (List DV)) (κn : X_serinetteref05_Same_l4 → Option DV) (κ0 : KB) (κ1 : Option DV) : Option DV :=
  bx (decide (x0 < ((List.length x11 : Nat) : Int))) (bx (decide (0 ≤ x0)) (optE (x11[Int.toNat x0]?) (fun e2 => ld_ssiil2siissl11 e2 0 (fun v3 v4 v5 v6 v7 v8 v9 v10 v11 v12 v13 => bx (decide (0 ≤ x0)) (optE (x22[Int.toNat x0]?) (fun e14 => ld_ssiil2siissl11 e14 0 (fun v15 v16 v17 v18 v19 v20 v21 v22 v23 v24 v25 => f0 v3 v4 v5 v6 v7 v8 v9 v10 v11 v12 v13 v15 v16 v17 v18 v19 v20 v21 v22 v23 v24 v25 (fun r26 => bx (!r26) (κ0 false) (κn (X_serinetteref05_Same_l4.h0 (IntKind.wrap .i64 (x0 + 1)) x1 x2 x3 x4 x5 x6 x7 x8 x9 x10 x11 x12 x13 x14 x15 x16 x17 x18 x19 x20 x21 x22)))))) none))) none) κ1

noncomputable def F_serinetteref05_Same_l4 (f0 : ByteArray → ByteArray → Int → Int → List (List DV) → ByteArray → Int → Int → ByteArray → ByteArray → List (List DV) → ByteArray → ByteArray → Int → Int → List (List DV) → ByteArray → Int → Int → ByteArray → ByteArray → List (List DV) → KB → Option DV) (f1 : List (List DV) → List (List DV) → KB → Option DV) : X_serinetteref05_Same_l4 → (X_serinetteref05_Same_l4 → Option DV) → (KB × (Option DV)) → Option DV
  | .h0 x0 x1 x2 x3 x4 x5 x6 x7 x8 x9 x10 x11 x12 x13 x14 x15 x16 x17 x18 x19 x20 x21 x22, κn, κ => B_serinetteref05_Same_l4_h0 f0 f1 x0 x1 x2 x3 x4 x5 x6 x7 x8 x9 x10 x11 x12 x13 x14 x15 x16 x17 x18 x19 x20 x21 x22 κn κ.1 κ.2

noncomputable def dec_serinetteref05_Same_l4 (s : St) : Option X_serinetteref05_Same_l4 :=
  bindO (xN s.n 75) fun u => bindO (xP 0 0 (s.tmps.get 2)) fun u1 => bindO (xP 1 0 (s.tmps.get 3)) fun u2 => bindO (xD (s.tmps.get 5)) fun d3 => bindO (xI .i64 d3) fun x0 => bindO (xMix s.heap) fun p5 => bindO (xUn p5.1) fun q6 => bindO (xD q6.1) fun d7 => bindO (xS d7) fun x1 => bindO (xUn q6.2) fun q9 => bindO (xD q9.1) fun d10 => bindO (xS d10) fun x2 => bindO (xUn q9.2) fun q12 => bindO (xD q12.1) fun d13 => bindO (xI .i64 d13) fun x3 => bindO (xUn q12.2) fun q15 => bindO (xD q15.1) fun d16 => bindO (xI .i64 d16) fun x4 => bindO (xUn q15.2) fun q18 => bindO (xD q18.1) fun d19 => bindO (xL 2 d19) fun x5 => bindO (xUn q18.2) fun q21 => bindO (xD q21.1) fun d22 => bindO (xS d22) fun x6 => bindO (xUn q21.2) fun q24 => bindO (xD q24.1) fun d25 => bindO (xI .i64 d25) fun x7 => bindO (xUn q24.2) fun q27 => bindO (xD q27.1) fun d28 => bindO (xI .i64 d28) fun x8 => bindO (xUn q27.2) fun q30 => bindO (xD q30.1) fun d31 => bindO (xS d31) fun x9 => bindO (xUn q30.2) fun q33 => bindO (xD q33.1) fun d34 => bindO (xS d34) fun x10 => bindO (xUn q33.2) fun q36 => bindO (xD q36.1) fun d37 => bindO (xL 11 d37) fun x11 => bindO (xEnd q36.2) fun u39 => bindO (xMix p5.2) fun p40 => bindO (xUn p40.1) fun q41 => bindO (xD q41.1) fun d42 => bindO (xS d42) fun x12 => bindO (xUn q41.2) fun q44 => bindO (xD q44.1) fun d45 => bindO (xS d45) fun x13 => bindO (xUn q44.2) fun q47 => bindO (xD q47.1) fun d48 => bindO (xI .i64 d48) fun x14 => bindO (xUn q47.2) fun q50 => bindO (xD q50.1) fun d51 => bindO (xI .i64 d51) fun x15 => bindO (xUn q50.2) fun q53 => bindO (xD q53.1) fun d54 => bindO (xL 2 d54) fun x16 => bindO (xUn q53.2) fun q56 => bindO (xD q56.1) fun d57 => bindO (xS d57) fun x17 => bindO (xUn q56.2) fun q59 => bindO (xD q59.1) fun d60 => bindO (xI .i64 d60) fun x18 => bindO (xUn q59.2) fun q62 => bindO (xD q62.1) fun d63 => bindO (xI .i64 d63) fun x19 => bindO (xUn q62.2) fun q65 => bindO (xD q65.1) fun d66 => bindO (xS d66) fun x20 => bindO (xUn q65.2) fun q68 => bindO (xD q68.1) fun d69 => bindO (xS d69) fun x21 => bindO (xUn q68.2) fun q71 => bindO (xD q71.1) fun d72 => bindO (xL 11 d72) fun x22 => bindO (xEnd q71.2) fun u74 => bindO (xEnd p40.2) fun u75 => some (.h0 x0 x1 x2 x3 x4 x5 x6 x7 x8 x9 x10 x11 x12 x13 x14 x15 x16 x17 x18 x19 x20 x21 x22)

noncomputable def R_serinetteref05_Same_l4 (f0 : ByteArray → ByteArray → Int → Int → List (List DV) → ByteArray → Int → Int → ByteArray → ByteArray → List (List DV) → ByteArray → ByteArray → Int → Int → List (List DV) → ByteArray → Int → Int → ByteArray → ByteArray → List (List DV) → KB → Option DV) (f1 : List (List DV) → List (List DV) → KB → Option DV) : St → KC → Option DV := decR dec_serinetteref05_Same_l4 (F_serinetteref05_Same_l4 f0 f1) φ_serinetteref05_Same_l4 oc_serinetteref05_Same_l4

theorem d_serinetteref05_Same_l4 : ∀ s x, dec_serinetteref05_Same_l4 s = some x → SLe s (S_serinetteref05_Same_l4 x) := by
  intro s x h
  unfold dec_serinetteref05_Same_l4 at h
  · obtain ⟨u, en, h⟩ := bindO_some h
    obtain ⟨u1, e1, h⟩ := bindO_some h
    obtain ⟨u2, e2, h⟩ := bindO_some h
    obtain ⟨d3, e3, h⟩ := bindO_some h
    obtain ⟨x0, e4, h⟩ := bindO_some h
    obtain ⟨p5, e5, h⟩ := bindO_some h
    obtain ⟨q6, e6, h⟩ := bindO_some h
    obtain ⟨d7, e7, h⟩ := bindO_some h
    obtain ⟨x1, e8, h⟩ := bindO_some h
    obtain ⟨q9, e9, h⟩ := bindO_some h
    obtain ⟨d10, e10, h⟩ := bindO_some h
    obtain ⟨x2, e11, h⟩ := bindO_some h
    obtain ⟨q12, e12, h⟩ := bindO_some h
    obtain ⟨d13, e13, h⟩ := bindO_some h
    obtain ⟨x3, e14, h⟩ := bindO_some h
    obtain ⟨q15, e15, h⟩ := bindO_some h
    obtain ⟨d16, e16, h⟩ := bindO_some h
    obtain ⟨x4, e17, h⟩ := bindO_some h
    obtain ⟨q18, e18, h⟩ := bindO_some h
    obtain ⟨d19, e19, h⟩ := bindO_some h
    obtain ⟨x5, e20, h⟩ := bindO_some h
    obtain ⟨q21, e21, h⟩ := bindO_some h
    obtain ⟨d22, e22, h⟩ := bindO_some h
    obtain ⟨x6, e23, h⟩ := bindO_some h
    obtain ⟨q24, e24, h⟩ := bindO_some h
    obtain ⟨d25, e25, h⟩ := bindO_some h
    obtain ⟨x7, e26, h⟩ := bindO_some h
    obtain ⟨q27, e27, h⟩ := bindO_some h
    obtain ⟨d28, e28, h⟩ := bindO_some h
    obtain ⟨x8, e29, h⟩ := bindO_some h
    obtain ⟨q30, e30, h⟩ := bindO_some h
    obtain ⟨d31, e31, h⟩ := bindO_some h
    obtain ⟨x9, e32, h⟩ := bindO_some h
    obtain ⟨q33, e33, h⟩ := bindO_some h
    obtain ⟨d34, e34, h⟩ := bindO_some h
    obtain ⟨x10, e35, h⟩ := bindO_some h
    obtain ⟨q36, e36, h⟩ := bindO_some h
    obtain ⟨d37, e37, h⟩ := bindO_some h
    obtain ⟨x11, e38, h⟩ := bindO_some h
    obtain ⟨u39, e39, h⟩ := bindO_some h
    obtain ⟨p40, e40, h⟩ := bindO_some h
    obtain ⟨q41, e41, h⟩ := bindO_some h
    obtain ⟨d42, e42, h⟩ := bindO_some h
    obtain ⟨x12, e43, h⟩ := bindO_some h
    obtain ⟨q44, e44, h⟩ := bindO_some h
    obtain ⟨d45, e45, h⟩ := bindO_some h
    obtain ⟨x13, e46, h⟩ := bindO_some h
    obtain ⟨q47, e47, h⟩ := bindO_some h
    obtain ⟨d48, e48, h⟩ := bindO_some h
    obtain ⟨x14, e49, h⟩ := bindO_some h
    obtain ⟨q50, e50, h⟩ := bindO_some h
    obtain ⟨d51, e51, h⟩ := bindO_some h
    obtain ⟨x15, e52, h⟩ := bindO_some h
    obtain ⟨q53, e53, h⟩ := bindO_some h
    obtain ⟨d54, e54, h⟩ := bindO_some h
    obtain ⟨x16, e55, h⟩ := bindO_some h
    obtain ⟨q56, e56, h⟩ := bindO_some h
    obtain ⟨d57, e57, h⟩ := bindO_some h
    obtain ⟨x17, e58, h⟩ := bindO_some h
    obtain ⟨q59, e59, h⟩ := bindO_some h
    obtain ⟨d60, e60, h⟩ := bindO_some h
    obtain ⟨x18, e61, h⟩ := bindO_some h
    obtain ⟨q62, e62, h⟩ := bindO_some h
    obtain ⟨d63, e63, h⟩ := bindO_some h
    obtain ⟨x19, e64, h⟩ := bindO_some h
    obtain ⟨q65, e65, h⟩ := bindO_some h
    obtain ⟨d66, e66, h⟩ := bindO_some h
    obtain ⟨x20, e67, h⟩ := bindO_some h
    obtain ⟨q68, e68, h⟩ := bindO_some h
    obtain ⟨d69, e69, h⟩ := bindO_some h
    obtain ⟨x21, e70, h⟩ := bindO_some h
    obtain ⟨q71, e71, h⟩ := bindO_some h
    obtain ⟨d72, e72, h⟩ := bindO_some h
    obtain ⟨x22, e73, h⟩ := bindO_some h
    obtain ⟨u74, e74, h⟩ := bindO_some h
    obtain ⟨u75, e75, h⟩ := bindO_some h
    cases h
    exact ⟨le_mkT _ _ (Le.dead _) ⟨.inr (xP_eq e1), .inr (xP_eq e2), .inr ((xD_eq e3).trans (congrArg VV.dv (xI_eq e4))), trivial⟩, (xN_eq en).symm, by rw [xMix_eq e5, xUn_eq e6, xD_eq e7, xS_eq e8, xUn_eq e9, xD_eq e10, xS_eq e11, xUn_eq e12, xD_eq e13, xI_eq e14, xUn_eq e15, xD_eq e16, xI_eq e17, xUn_eq e18, xD_eq e19, xL_eq e20, xUn_eq e21, xD_eq e22, xS_eq e23, xUn_eq e24, xD_eq e25, xI_eq e26, xUn_eq e27, xD_eq e28, xI_eq e29, xUn_eq e30, xD_eq e31, xS_eq e32, xUn_eq e33, xD_eq e34, xS_eq e35, xUn_eq e36, xD_eq e37, xL_eq e38, xEnd_eq e39, xMix_eq e40, xUn_eq e41, xD_eq e42, xS_eq e43, xUn_eq e44, xD_eq e45, xS_eq e46, xUn_eq e47, xD_eq e48, xI_eq e49, xUn_eq e50, xD_eq e51, xI_eq e52, xUn_eq e53, xD_eq e54, xL_eq e55, xUn_eq e56, xD_eq e57, xS_eq e58, xUn_eq e59, xD_eq e60, xI_eq e61, xUn_eq e62, xD_eq e63, xI_eq e64, xUn_eq e65, xD_eq e66, xS_eq e67, xUn_eq e68, xD_eq e69, xS_eq e70, xUn_eq e71, xD_eq e72, xL_eq e73, xEnd_eq e74, xEnd_eq e75]; rfl⟩
noncomputable def B_serinetteref05_Same (f0 : ByteArray → ByteArray → Int → Int → List (List DV) → ByteArray → Int → Int → ByteArray → ByteArray → List (List DV) → ByteArray → ByteArray → Int → Int → List (List DV) → ByteArray → Int → Int → ByteArray → ByteArray → List (List DV) → KB → Option DV) (f1 : List (List DV) → List (List DV) → KB → Option DV) (a0_0 a0_1 : ByteArray) (a0_2 a0_3 : Int) (a0_4 : List (List DV)) (a0_5 : ByteArray) (a0_6 a0_7 : Int) (a0_8 a0_9 : ByteArray) (a0_10 : List (List DV)) (a1_0 a1_1 : ByteArray) (a1_2 a1_3 : Int) (a1_4 : List (List DV)) (a1_5 : ByteArray) (a1_6 a1_7 : Int) (a1_8 a1_9 : ByteArray) (a1_10 : List (List DV)) (k : KB) : Option DV :=
  bx (!(!(ByteArray.toList a0_0 == ByteArray.toList a1_0))) (bx (!(!(ByteArray.toList a0_1 == ByteArray.toList a1_1))) (bx (!(a0_2 != a1_2)) (bx (!(a0_3 != a1_3)) (bx (!(!(((ByteArray.toList a0_5 == ByteArray.toList a1_5) && ((a0_6 == a1_6) && ((a0_7 == a1_7) && ((ByteArray.toList a0_8 == ByteArray.toList a1_8) && ((ByteArray.toList a0_9 == ByteArray.toList a1_9) && true)))))))) (f1 a0_4 a1_4 (fun r1 => bx (!(!r1)) (bx (((List.length a0_10 : Nat) : Int) != ((List.length a1_10 : Nat) : Int)) (k false) (LF (F_serinetteref05_Same_l4 f0 f1) (φ_serinetteref05_Same_l4 (X_serinetteref05_Same_l4.h0 0 a0_0 a0_1 a0_2 a0_3 a0_4 a0_5 a0_6 a0_7 a0_8 a0_9 a0_10 a1_0 a1_1 a1_2 a1_3 a1_4 a1_5 a1_6 a1_7 a1_8 a1_9 a1_10)) (X_serinetteref05_Same_l4.h0 0 a0_0 a0_1 a0_2 a0_3 a0_4 a0_5 a0_6 a0_7 a0_8 a0_9 a0_10 a1_0 a1_1 a1_2 a1_3 a1_4 a1_5 a1_6 a1_7 a1_8 a1_9 a1_10) ((fun z27_0 => k z27_0), (k true)))) (k false))) (k false)) (k false)) (k false)) (k false)) (k false)

noncomputable def KK_serinetteref05_Same (f0 : ByteArray → ByteArray → Int → Int → List (List DV) → ByteArray → Int → Int → ByteArray → ByteArray → List (List DV) → ByteArray → ByteArray → Int → Int → List (List DV) → ByteArray → Int → Int → ByteArray → ByteArray → List (List DV) → KB → Option DV) (ds : List DV) (k : DV → Option DV) : Option DV :=
  match ds with
  | [.agg [.val (.string a0_0), .val (.string a0_1), .val (.int .i64 a0_2), .val (.int .i64 a0_3), .lst 2 a0_4, .val (.string a0_5), .val (.int .i64 a0_6), .val (.int .i64 a0_7), .val (.string a0_8), .val (.string a0_9), .lst 11 a0_10], .agg [.val (.string a1_0), .val (.string a1_1), .val (.int .i64 a1_2), .val (.int .i64 a1_3), .lst 2 a1_4, .val (.string a1_5), .val (.int .i64 a1_6), .val (.int .i64 a1_7), .val (.string a1_8), .val (.string a1_9), .lst 11 a1_10]] => f0 a0_0 a0_1 a0_2 a0_3 a0_4 a0_5 a0_6 a0_7 a0_8 a0_9 a0_10 a1_0 a1_1 a1_2 a1_3 a1_4 a1_5 a1_6 a1_7 a1_8 a1_9 a1_10 (fun r0_0 => k (.val (.bool r0_0)))
  | _ => none

noncomputable def G_serinetteref05_Same (N : Nat) : Nat → (ByteArray → ByteArray → Int → Int → List (List DV) → ByteArray → Int → Int → ByteArray → ByteArray → List (List DV) → ByteArray → ByteArray → Int → Int → List (List DV) → ByteArray → Int → Int → ByteArray → ByteArray → List (List DV) → KB → Option DV)
  | 0 => (fun _ _ _ _ _ _ _ _ _ _ _ _ _ _ _ _ _ _ _ _ _ _ _ => none)
  | n + 1 => (fun a0_0 a0_1 a0_2 a0_3 a0_4 a0_5 a0_6 a0_7 a0_8 a0_9 a0_10 a1_0 a1_1 a1_2 a1_3 a1_4 a1_5 a1_6 a1_7 a1_8 a1_9 a1_10 k => B_serinetteref05_Same (G_serinetteref05_Same N n) serinetteref05_Alike a0_0 a0_1 a0_2 a0_3 a0_4 a0_5 a0_6 a0_7 a0_8 a0_9 a0_10 a1_0 a1_1 a1_2 a1_3 a1_4 a1_5 a1_6 a1_7 a1_8 a1_9 a1_10 k)

noncomputable def serinetteref05_Same_n (N n : Nat) : ByteArray → ByteArray → Int → Int → List (List DV) → ByteArray → Int → Int → ByteArray → ByteArray → List (List DV) → ByteArray → ByteArray → Int → Int → List (List DV) → ByteArray → Int → Int → ByteArray → ByteArray → List (List DV) → KB → Option DV := (G_serinetteref05_Same N n)
noncomputable def serinetteref05_Same (N : Nat) : ByteArray → ByteArray → Int → Int → List (List DV) → ByteArray → Int → Int → ByteArray → ByteArray → List (List DV) → ByteArray → ByteArray → Int → Int → List (List DV) → ByteArray → Int → Int → ByteArray → ByteArray → List (List DV) → KB → Option DV := serinetteref05_Same_n N N

theorem q_serinetteref05_Same_l4_h0 (f0 : ByteArray → ByteArray → Int → Int → List (List DV) → ByteArray → Int → Int → ByteArray → ByteArray → List (List DV) → ByteArray → ByteArray → Int → Int → List (List DV) → ByteArray → Int → Int → ByteArray → ByteArray → List (List DV) → KB → Option DV) (f1 : List (List DV) → List (List DV) → KB → Option DV) (x0 : Int) (x1 : ByteArray) (x2 : ByteArray) (x3 : Int) (x4 : Int) (x5 : List (List DV)) (x6 : ByteArray) (x7 : Int) (x8 : Int) (x9 : ByteArray) (x10 : ByteArray) (x11 : List (List DV)) (x12 : ByteArray) (x13 : ByteArray) (x14 : Int) (x15 : Int) (x16 : List (List DV)) (x17 : ByteArray) (x18 : Int) (x19 : Int) (x20 : ByteArray) (x21 : ByteArray) (x22 : List (List DV)) (κn : St → Option DV) (κ : KC) : pev Try.prog (tab [(11, (KK_serinetteref05_Same f0)), (31, (KK_serinetteref05_Alike f1))] []) (ltab [(4, R_serinetteref05_Same_l4 f0 f1)]) [(0, [0]), (0, []), (4, [2, 3, 5]), (100004, [4])] 64 (loopB (bodyOf Try.f11) 0) (S_serinetteref05_Same_l4 (.h0 x0 x1 x2 x3 x4 x5 x6 x7 x8 x9 x10 x11 x12 x13 x14 x15 x16 x17 x18 x19 x20 x21 x22)) (contL 0 [2, 3, 5] [4] κn κ) = F_serinetteref05_Same_l4 f0 f1 (.h0 x0 x1 x2 x3 x4 x5 x6 x7 x8 x9 x10 x11 x12 x13 x14 x15 x16 x17 x18 x19 x20 x21 x22) (fun x => κn (S_serinetteref05_Same_l4 x)) (oc_serinetteref05_Same_l4 κ) := by kernel_rfl

theorem g_serinetteref05_Same_l4 (f0 : ByteArray → ByteArray → Int → Int → List (List DV) → ByteArray → Int → Int → ByteArray → ByteArray → List (List DV) → ByteArray → ByteArray → Int → Int → List (List DV) → ByteArray → Int → Int → ByteArray → ByteArray → List (List DV) → KB → Option DV) (f1 : List (List DV) → List (List DV) → KB → Option DV) (HK : KGood Try.prog Inv (tab [(11, (KK_serinetteref05_Same f0)), (31, (KK_serinetteref05_Alike f1))] [])) : RGood 0 Try.prog Inv (loopB (bodyOf Try.f11) 0) (R_serinetteref05_Same_l4 f0 f1) :=
  have hL : LGood 0 Try.prog Inv (ltab [(4, R_serinetteref05_Same_l4 f0 f1)]) (loopB (bodyOf Try.f11) 0) := (lgood_of (bs := []) (by kernel_rfl) lgood_nil)
  rgood_dec (body := fun s k => pev Try.prog (tab [(11, (KK_serinetteref05_Same f0)), (31, (KK_serinetteref05_Alike f1))] []) (ltab [(4, R_serinetteref05_Same_l4 f0 f1)]) [(0, [0]), (0, []), (4, [2, 3, 5]), (100004, [4])] 64 (loopB (bodyOf Try.f11) 0) s k) (live := [2, 3, 5]) (out := [4]) (S := S_serinetteref05_Same_l4) (pev_ok mixed HK (ltab [(4, R_serinetteref05_Same_l4 f0 f1)]) [(0, [0]), (0, []), (4, [2, 3, 5]), (100004, [4])] 64 _ hL) (pev_nat HK (ltab [(4, R_serinetteref05_Same_l4 f0 f1)]) [(0, [0]), (0, []), (4, [2, 3, 5]), (100004, [4])] 64 _ hL)
    (fun x κn κ => match x with
      | .h0 _ _ _ _ _ _ _ _ _ _ _ _ _ _ _ _ _ _ _ _ _ _ _ => q_serinetteref05_Same_l4_h0 f0 f1 _ _ _ _ _ _ _ _ _ _ _ _ _ _ _ _ _ _ _ _ _ _ _ κn κ
    ) d_serinetteref05_Same_l4 φ_serinetteref05_Same_l4

theorem r_serinetteref05_Same (f0 : ByteArray → ByteArray → Int → Int → List (List DV) → ByteArray → Int → Int → ByteArray → ByteArray → List (List DV) → ByteArray → ByteArray → Int → Int → List (List DV) → ByteArray → Int → Int → ByteArray → ByteArray → List (List DV) → KB → Option DV) (f1 : List (List DV) → List (List DV) → KB → Option DV) (a0_0 a0_1 : ByteArray) (a0_2 a0_3 : Int) (a0_4 : List (List DV)) (a0_5 : ByteArray) (a0_6 a0_7 : Int) (a0_8 a0_9 : ByteArray) (a0_10 : List (List DV)) (a1_0 a1_1 : ByteArray) (a1_2 a1_3 : Int) (a1_4 : List (List DV)) (a1_5 : ByteArray) (a1_6 a1_7 : Int) (a1_8 a1_9 : ByteArray) (a1_10 : List (List DV)) (k : DV → Option DV) : B_serinetteref05_Same f0 f1 a0_0 a0_1 a0_2 a0_3 a0_4 a0_5 a0_6 a0_7 a0_8 a0_9 a0_10 a1_0 a1_1 a1_2 a1_3 a1_4 a1_5 a1_6 a1_7 a1_8 a1_9 a1_10 (fun r0_0 => k (.val (.bool r0_0))) = pevL Try.prog (tab [(11, (KK_serinetteref05_Same f0)), (31, (KK_serinetteref05_Alike f1))] []) (ltab [(4, R_serinetteref05_Same_l4 f0 f1)]) [(0, [0]), (0, []), (4, [2, 3, 5]), (100004, [4])] 64 Try.f11 (bodyOf Try.f11) [.agg [.val (.string a0_0), .val (.string a0_1), .val (.int .i64 a0_2), .val (.int .i64 a0_3), .lst 2 a0_4, .val (.string a0_5), .val (.int .i64 a0_6), .val (.int .i64 a0_7), .val (.string a0_8), .val (.string a0_9), .lst 11 a0_10], .agg [.val (.string a1_0), .val (.string a1_1), .val (.int .i64 a1_2), .val (.int .i64 a1_3), .lst 2 a1_4, .val (.string a1_5), .val (.int .i64 a1_6), .val (.int .i64 a1_7), .val (.string a1_8), .val (.string a1_9), .lst 11 a1_10]] k := by kernel_rfl

theorem m_G_serinetteref05_Same (N : Nat) : ∀ n, Meets Try.prog Inv 11 (KK_serinetteref05_Same (serinetteref05_Same_n N n))
  | 0 => meets_none (by intro ds k; unfold KK_serinetteref05_Same; split <;> rfl)
  | n + 1 => by
    have ih := m_G_serinetteref05_Same N n
    exact meets_of_pevL mixed stab (kgood stab (tab_cons (ih) (tab_cons m_serinetteref05_Alike (tab_nil _ _))) (tabH_nil _ _)) Try.func11 (by kernel_rfl) (by kernel_rfl) (by
    intro ds; unfold KK_serinetteref05_Same; split
    · exact .inr ⟨(ltab [(4, R_serinetteref05_Same_l4 (serinetteref05_Same_n N n) serinetteref05_Alike)]), [(0, [0]), (0, []), (4, [2, 3, 5]), (100004, [4])], 64, lgood_of (bs := [loopB (bodyOf Try.f11) 0]) (by kernel_rfl) (lgood_cons (by kernel_rfl) (g_serinetteref05_Same_l4 (serinetteref05_Same_n N n) serinetteref05_Alike (kgood stab (tab_cons (ih) (tab_cons m_serinetteref05_Alike (tab_nil _ _))) (tabH_nil _ _))) lgood_nil), fun k => r_serinetteref05_Same (serinetteref05_Same_n N n) serinetteref05_Alike _ _ _ _ _ _ _ _ _ _ _ _ _ _ _ _ _ _ _ _ _ _ k⟩
    · exact .inl (fun _ => rfl))

theorem m_serinetteref05_Same (N : Nat) : Meets Try.prog Inv 11 (KK_serinetteref05_Same (serinetteref05_Same N)) := (m_G_serinetteref05_Same N N)

noncomputable def B_block_Num  (a0_0 a0_1 : Int) (k : ByteArray → ByteArray → Int → Int → List (List DV) → ByteArray → Int → Int → ByteArray → ByteArray → List (List DV) → Option DV) : Option DV :=
  k (⟨#[110, 117, 109]⟩) (⟨#[]⟩) 0 0 ([[.val (.int .i64 a0_0), .val (.int .i64 a0_1)]]) (⟨#[]⟩) 0 0 (⟨#[]⟩) (⟨#[]⟩) []

noncomputable def KK_block_Num (f0 : Int → Int → (ByteArray → ByteArray → Int → Int → List (List DV) → ByteArray → Int → Int → ByteArray → ByteArray → List (List DV) → Option DV) → Option DV) (ds : List DV) (k : DV → Option DV) : Option DV :=
  match ds with
  | [.val (.agg ⟨[.int .i64 a0_0, .int .i64 a0_1]⟩)] => f0 a0_0 a0_1 (fun r0_0 r0_1 r0_2 r0_3 r0_4 r0_5 r0_6 r0_7 r0_8 r0_9 r0_10 => k (.agg [.val (.string r0_0), .val (.string r0_1), .val (.int .i64 r0_2), .val (.int .i64 r0_3), .lst 2 r0_4, .val (.string r0_5), .val (.int .i64 r0_6), .val (.int .i64 r0_7), .val (.string r0_8), .val (.string r0_9), .lst 11 r0_10]))
  | _ => none

noncomputable def block_Num (a0_0 a0_1 : Int) (k : ByteArray → ByteArray → Int → Int → List (List DV) → ByteArray → Int → Int → ByteArray → ByteArray → List (List DV) → Option DV) : Option DV := B_block_Num  a0_0 a0_1 k

theorem r_block_Num  (a0_0 a0_1 : Int) (k : DV → Option DV) : B_block_Num  a0_0 a0_1 (fun r0_0 r0_1 r0_2 r0_3 r0_4 r0_5 r0_6 r0_7 r0_8 r0_9 r0_10 => k (.agg [.val (.string r0_0), .val (.string r0_1), .val (.int .i64 r0_2), .val (.int .i64 r0_3), .lst 2 r0_4, .val (.string r0_5), .val (.int .i64 r0_6), .val (.int .i64 r0_7), .val (.string r0_8), .val (.string r0_9), .lst 11 r0_10])) = pevL Try.prog (tab [] []) noL [] 64 Try.f12 (bodyOf Try.f12) [.val (.agg ⟨[.int .i64 a0_0, .int .i64 a0_1]⟩)] k := by kernel_rfl

theorem m_block_Num : Meets Try.prog Inv 12 (KK_block_Num block_Num) :=
  meets_of_pevL mixed stab (kgood stab (tab_nil _ _) (tabH_nil _ _)) Try.func12 (by kernel_rfl) (by kernel_rfl) (by
    intro ds; unfold KK_block_Num; split
    · exact .inr ⟨noL, [], 64, LGood.none _ _ _, fun k => r_block_Num  _ _ k⟩
    · exact .inl (fun _ => rfl))

noncomputable def B_serinetteref05_Num  (a0_0 a0_1 : Int) (k : ByteArray → ByteArray → Int → Int → List (List DV) → ByteArray → Int → Int → ByteArray → ByteArray → List (List DV) → Option DV) : Option DV :=
  k (⟨#[110, 117, 109]⟩) (⟨#[]⟩) 0 0 ([[.val (.int .i64 a0_0), .val (.int .i64 a0_1)]]) (⟨#[]⟩) 0 0 (⟨#[]⟩) (⟨#[]⟩) []

noncomputable def KK_serinetteref05_Num (f0 : Int → Int → (ByteArray → ByteArray → Int → Int → List (List DV) → ByteArray → Int → Int → ByteArray → ByteArray → List (List DV) → Option DV) → Option DV) (ds : List DV) (k : DV → Option DV) : Option DV :=
  match ds with
  | [.val (.agg ⟨[.int .i64 a0_0, .int .i64 a0_1]⟩)] => f0 a0_0 a0_1 (fun r0_0 r0_1 r0_2 r0_3 r0_4 r0_5 r0_6 r0_7 r0_8 r0_9 r0_10 => k (.agg [.val (.string r0_0), .val (.string r0_1), .val (.int .i64 r0_2), .val (.int .i64 r0_3), .lst 2 r0_4, .val (.string r0_5), .val (.int .i64 r0_6), .val (.int .i64 r0_7), .val (.string r0_8), .val (.string r0_9), .lst 11 r0_10]))
  | _ => none

noncomputable def serinetteref05_Num (a0_0 a0_1 : Int) (k : ByteArray → ByteArray → Int → Int → List (List DV) → ByteArray → Int → Int → ByteArray → ByteArray → List (List DV) → Option DV) : Option DV := B_serinetteref05_Num  a0_0 a0_1 k

theorem r_serinetteref05_Num  (a0_0 a0_1 : Int) (k : DV → Option DV) : B_serinetteref05_Num  a0_0 a0_1 (fun r0_0 r0_1 r0_2 r0_3 r0_4 r0_5 r0_6 r0_7 r0_8 r0_9 r0_10 => k (.agg [.val (.string r0_0), .val (.string r0_1), .val (.int .i64 r0_2), .val (.int .i64 r0_3), .lst 2 r0_4, .val (.string r0_5), .val (.int .i64 r0_6), .val (.int .i64 r0_7), .val (.string r0_8), .val (.string r0_9), .lst 11 r0_10])) = pevL Try.prog (tab [] []) noL [] 64 Try.f13 (bodyOf Try.f13) [.val (.agg ⟨[.int .i64 a0_0, .int .i64 a0_1]⟩)] k := by kernel_rfl

theorem m_serinetteref05_Num : Meets Try.prog Inv 13 (KK_serinetteref05_Num serinetteref05_Num) :=
  meets_of_pevL mixed stab (kgood stab (tab_nil _ _) (tabH_nil _ _)) Try.func13 (by kernel_rfl) (by kernel_rfl) (by
    intro ds; unfold KK_serinetteref05_Num; split
    · exact .inr ⟨noL, [], 64, LGood.none _ _ _, fun k => r_serinetteref05_Num  _ _ k⟩
    · exact .inl (fun _ => rfl))

noncomputable def B_serinetteref05_Leaf  (a0 : ByteArray) (k : ByteArray → ByteArray → Int → Int → List (List DV) → ByteArray → Int → Int → ByteArray → ByteArray → List (List DV) → Option DV) : Option DV :=
  k a0 (⟨#[]⟩) 0 0 [] (⟨#[]⟩) 0 0 (⟨#[]⟩) (⟨#[]⟩) []

noncomputable def KK_serinetteref05_Leaf (f0 : ByteArray → (ByteArray → ByteArray → Int → Int → List (List DV) → ByteArray → Int → Int → ByteArray → ByteArray → List (List DV) → Option DV) → Option DV) (ds : List DV) (k : DV → Option DV) : Option DV :=
  match ds with
  | [.val (.string a0)] => f0 a0 (fun r0_0 r0_1 r0_2 r0_3 r0_4 r0_5 r0_6 r0_7 r0_8 r0_9 r0_10 => k (.agg [.val (.string r0_0), .val (.string r0_1), .val (.int .i64 r0_2), .val (.int .i64 r0_3), .lst 2 r0_4, .val (.string r0_5), .val (.int .i64 r0_6), .val (.int .i64 r0_7), .val (.string r0_8), .val (.string r0_9), .lst 11 r0_10]))
  | _ => none

noncomputable def serinetteref05_Leaf (a0 : ByteArray) (k : ByteArray → ByteArray → Int → Int → List (List DV) → ByteArray → Int → Int → ByteArray → ByteArray → List (List DV) → Option DV) : Option DV := B_serinetteref05_Leaf  a0 k

theorem r_serinetteref05_Leaf  (a0 : ByteArray) (k : DV → Option DV) : B_serinetteref05_Leaf  a0 (fun r0_0 r0_1 r0_2 r0_3 r0_4 r0_5 r0_6 r0_7 r0_8 r0_9 r0_10 => k (.agg [.val (.string r0_0), .val (.string r0_1), .val (.int .i64 r0_2), .val (.int .i64 r0_3), .lst 2 r0_4, .val (.string r0_5), .val (.int .i64 r0_6), .val (.int .i64 r0_7), .val (.string r0_8), .val (.string r0_9), .lst 11 r0_10])) = pevL Try.prog (tab [] []) noL [] 64 Try.f15 (bodyOf Try.f15) [.val (.string a0)] k := by kernel_rfl

theorem m_serinetteref05_Leaf : Meets Try.prog Inv 15 (KK_serinetteref05_Leaf serinetteref05_Leaf) :=
  meets_of_pevL mixed stab (kgood stab (tab_nil _ _) (tabH_nil _ _)) Try.func15 (by kernel_rfl) (by kernel_rfl) (by
    intro ds; unfold KK_serinetteref05_Leaf; split
    · exact .inr ⟨noL, [], 64, LGood.none _ _ _, fun k => r_serinetteref05_Leaf  _ k⟩
    · exact .inl (fun _ => rfl))

noncomputable def B_block_Row (f0 : ByteArray → List (List DV) → (ByteArray → ByteArray → Int → Int → List (List DV) → ByteArray → Int → Int → ByteArray → ByteArray → List (List DV) → Option DV) → Option DV) (a0 : List (List DV)) (k : ByteArray → ByteArray → Int → Int → List (List DV) → ByteArray → Int → Int → ByteArray → ByteArray → List (List DV) → Option DV) : Option DV :=
  f0 (⟨#[112, 97, 114]⟩) a0 (fun r1 r2 r3 r4 r5 r6 r7 r8 r9 r10 r11 => k r1 r2 r3 r4 r5 r6 r7 r8 r9 r10 r11)

noncomputable def KK_block_Row (f0 : List (List DV) → (ByteArray → ByteArray → Int → Int → List (List DV) → ByteArray → Int → Int → ByteArray → ByteArray → List (List DV) → Option DV) → Option DV) (ds : List DV) (k : DV → Option DV) : Option DV :=
  match ds with
  | [.lst 11 a0] => f0 a0 (fun r0_0 r0_1 r0_2 r0_3 r0_4 r0_5 r0_6 r0_7 r0_8 r0_9 r0_10 => k (.agg [.val (.string r0_0), .val (.string r0_1), .val (.int .i64 r0_2), .val (.int .i64 r0_3), .lst 2 r0_4, .val (.string r0_5), .val (.int .i64 r0_6), .val (.int .i64 r0_7), .val (.string r0_8), .val (.string r0_9), .lst 11 r0_10]))
  | _ => none

noncomputable def block_Row (N : Nat) (a0 : List (List DV)) (k : ByteArray → ByteArray → Int → Int → List (List DV) → ByteArray → Int → Int → ByteArray → ByteArray → List (List DV) → Option DV) : Option DV := B_block_Row (block_joined N) a0 k

theorem r_block_Row (f0 : ByteArray → List (List DV) → (ByteArray → ByteArray → Int → Int → List (List DV) → ByteArray → Int → Int → ByteArray → ByteArray → List (List DV) → Option DV) → Option DV) (a0 : List (List DV)) (k : DV → Option DV) : B_block_Row f0 a0 (fun r0_0 r0_1 r0_2 r0_3 r0_4 r0_5 r0_6 r0_7 r0_8 r0_9 r0_10 => k (.agg [.val (.string r0_0), .val (.string r0_1), .val (.int .i64 r0_2), .val (.int .i64 r0_3), .lst 2 r0_4, .val (.string r0_5), .val (.int .i64 r0_6), .val (.int .i64 r0_7), .val (.string r0_8), .val (.string r0_9), .lst 11 r0_10])) = pevL Try.prog (tab [(32, (KK_block_joined f0))] []) noL [] 64 Try.f16 (bodyOf Try.f16) [.lst 11 a0] k := by kernel_rfl

theorem m_block_Row (N : Nat) : Meets Try.prog Inv 16 (KK_block_Row (block_Row N)) :=
  meets_of_pevL mixed stab (kgood stab (tab_cons (m_block_joined N) (tab_nil _ _)) (tabH_nil _ _)) Try.func16 (by kernel_rfl) (by kernel_rfl) (by
    intro ds; unfold KK_block_Row; split
    · exact .inr ⟨noL, [], 64, LGood.none _ _ _, fun k => r_block_Row (block_joined N) _ k⟩
    · exact .inl (fun _ => rfl))

noncomputable def B_serinetteref05_Join  (a0 a1_0 a1_1 : ByteArray) (a1_2 a1_3 : Int) (a1_4 : List (List DV)) (a1_5 : ByteArray) (a1_6 a1_7 : Int) (a1_8 a1_9 : ByteArray) (a1_10 : List (List DV)) (a2_0 a2_1 : ByteArray) (a2_2 a2_3 : Int) (a2_4 : List (List DV)) (a2_5 : ByteArray) (a2_6 a2_7 : Int) (a2_8 a2_9 : ByteArray) (a2_10 : List (List DV)) (k : ByteArray → ByteArray → Int → Int → List (List DV) → ByteArray → Int → Int → ByteArray → ByteArray → List (List DV) → Option DV) : Option DV :=
  k a0 (⟨#[]⟩) 0 0 [] (⟨#[]⟩) 0 0 (⟨#[]⟩) (⟨#[]⟩) ([[.val (.string a1_0), .val (.string a1_1), .val (.int .i64 a1_2), .val (.int .i64 a1_3), .lst 2 a1_4, .val (.string a1_5), .val (.int .i64 a1_6), .val (.int .i64 a1_7), .val (.string a1_8), .val (.string a1_9), .lst 11 a1_10], [.val (.string a2_0), .val (.string a2_1), .val (.int .i64 a2_2), .val (.int .i64 a2_3), .lst 2 a2_4, .val (.string a2_5), .val (.int .i64 a2_6), .val (.int .i64 a2_7), .val (.string a2_8), .val (.string a2_9), .lst 11 a2_10]])

noncomputable def KK_serinetteref05_Join (f0 : ByteArray → ByteArray → ByteArray → Int → Int → List (List DV) → ByteArray → Int → Int → ByteArray → ByteArray → List (List DV) → ByteArray → ByteArray → Int → Int → List (List DV) → ByteArray → Int → Int → ByteArray → ByteArray → List (List DV) → (ByteArray → ByteArray → Int → Int → List (List DV) → ByteArray → Int → Int → ByteArray → ByteArray → List (List DV) → Option DV) → Option DV) (ds : List DV) (k : DV → Option DV) : Option DV :=
  match ds with
  | [.val (.string a0), .agg [.val (.string a1_0), .val (.string a1_1), .val (.int .i64 a1_2), .val (.int .i64 a1_3), .lst 2 a1_4, .val (.string a1_5), .val (.int .i64 a1_6), .val (.int .i64 a1_7), .val (.string a1_8), .val (.string a1_9), .lst 11 a1_10], .agg [.val (.string a2_0), .val (.string a2_1), .val (.int .i64 a2_2), .val (.int .i64 a2_3), .lst 2 a2_4, .val (.string a2_5), .val (.int .i64 a2_6), .val (.int .i64 a2_7), .val (.string a2_8), .val (.string a2_9), .lst 11 a2_10]] => f0 a0 a1_0 a1_1 a1_2 a1_3 a1_4 a1_5 a1_6 a1_7 a1_8 a1_9 a1_10 a2_0 a2_1 a2_2 a2_3 a2_4 a2_5 a2_6 a2_7 a2_8 a2_9 a2_10 (fun r0_0 r0_1 r0_2 r0_3 r0_4 r0_5 r0_6 r0_7 r0_8 r0_9 r0_10 => k (.agg [.val (.string r0_0), .val (.string r0_1), .val (.int .i64 r0_2), .val (.int .i64 r0_3), .lst 2 r0_4, .val (.string r0_5), .val (.int .i64 r0_6), .val (.int .i64 r0_7), .val (.string r0_8), .val (.string r0_9), .lst 11 r0_10]))
  | _ => none

noncomputable def serinetteref05_Join (a0 a1_0 a1_1 : ByteArray) (a1_2 a1_3 : Int) (a1_4 : List (List DV)) (a1_5 : ByteArray) (a1_6 a1_7 : Int) (a1_8 a1_9 : ByteArray) (a1_10 : List (List DV)) (a2_0 a2_1 : ByteArray) (a2_2 a2_3 : Int) (a2_4 : List (List DV)) (a2_5 : ByteArray) (a2_6 a2_7 : Int) (a2_8 a2_9 : ByteArray) (a2_10 : List (List DV)) (k : ByteArray → ByteArray → Int → Int → List (List DV) → ByteArray → Int → Int → ByteArray → ByteArray → List (List DV) → Option DV) : Option DV := B_serinetteref05_Join  a0 a1_0 a1_1 a1_2 a1_3 a1_4 a1_5 a1_6 a1_7 a1_8 a1_9 a1_10 a2_0 a2_1 a2_2 a2_3 a2_4 a2_5 a2_6 a2_7 a2_8 a2_9 a2_10 k

theorem r_serinetteref05_Join  (a0 a1_0 a1_1 : ByteArray) (a1_2 a1_3 : Int) (a1_4 : List (List DV)) (a1_5 : ByteArray) (a1_6 a1_7 : Int) (a1_8 a1_9 : ByteArray) (a1_10 : List (List DV)) (a2_0 a2_1 : ByteArray) (a2_2 a2_3 : Int) (a2_4 : List (List DV)) (a2_5 : ByteArray) (a2_6 a2_7 : Int) (a2_8 a2_9 : ByteArray) (a2_10 : List (List DV)) (k : DV → Option DV) : B_serinetteref05_Join  a0 a1_0 a1_1 a1_2 a1_3 a1_4 a1_5 a1_6 a1_7 a1_8 a1_9 a1_10 a2_0 a2_1 a2_2 a2_3 a2_4 a2_5 a2_6 a2_7 a2_8 a2_9 a2_10 (fun r0_0 r0_1 r0_2 r0_3 r0_4 r0_5 r0_6 r0_7 r0_8 r0_9 r0_10 => k (.agg [.val (.string r0_0), .val (.string r0_1), .val (.int .i64 r0_2), .val (.int .i64 r0_3), .lst 2 r0_4, .val (.string r0_5), .val (.int .i64 r0_6), .val (.int .i64 r0_7), .val (.string r0_8), .val (.string r0_9), .lst 11 r0_10])) = pevL Try.prog (tab [] []) noL [] 64 Try.f24 (bodyOf Try.f24) [.val (.string a0), .agg [.val (.string a1_0), .val (.string a1_1), .val (.int .i64 a1_2), .val (.int .i64 a1_3), .lst 2 a1_4, .val (.string a1_5), .val (.int .i64 a1_6), .val (.int .i64 a1_7), .val (.string a1_8), .val (.string a1_9), .lst 11 a1_10], .agg [.val (.string a2_0), .val (.string a2_1), .val (.int .i64 a2_2), .val (.int .i64 a2_3), .lst 2 a2_4, .val (.string a2_5), .val (.int .i64 a2_6), .val (.int .i64 a2_7), .val (.string a2_8), .val (.string a2_9), .lst 11 a2_10]] k := by kernel_rfl

theorem m_serinetteref05_Join : Meets Try.prog Inv 24 (KK_serinetteref05_Join serinetteref05_Join) :=
  meets_of_pevL mixed stab (kgood stab (tab_nil _ _) (tabH_nil _ _)) Try.func24 (by kernel_rfl) (by kernel_rfl) (by
    intro ds; unfold KK_serinetteref05_Join; split
    · exact .inr ⟨noL, [], 64, LGood.none _ _ _, fun k => r_serinetteref05_Join  _ _ _ _ _ _ _ _ _ _ _ _ _ _ _ _ _ _ _ _ _ _ _ k⟩
    · exact .inl (fun _ => rfl))

inductive X_serinetteref05_all_l5 where
  | h0 (x0 : ByteArray) (x1 : List (List DV)) (x2 : Int) (x3 : ByteArray) (x4 : ByteArray) (x5 : Int) (x6 : Int) (x7 : ByteArray) (x8 : Int) (x9 : Int) (x10 : ByteArray) (x11 : ByteArray) (x12 : ByteArray) (x13 : ByteArray) (x14 : Int) (x15 : Int) (x16 : List (List DV)) (x17 : ByteArray) (x18 : Int) (x19 : Int) (x20 : ByteArray) (x21 : ByteArray) (x22 : List (List DV))
def φ_serinetteref05_all_l5 : X_serinetteref05_all_l5 → Nat
  | .h0 x0 x1 x2 x3 x4 x5 x6 x7 x8 x9 x10 x11 x12 x13 x14 x15 x16 x17 x18 x19 x20 x21 x22 => Int.toNat (((List.length x1 : Nat) : Int) - x2) + 1
noncomputable def S_serinetteref05_all_l5 : X_serinetteref05_all_l5 → St
  | .h0 x0 x1 x2 x3 x4 x5 x6 x7 x8 x9 x10 x11 x12 x13 x14 x15 x16 x17 x18 x19 x20 x21 x22 => ⟨mkT [(0, .dv (.val (.string x0))), (1, .dv (.lst 11 x1)), (4, .ptr 0 0), (5, .ptr 1 0), (6, .dv (.val (.int .i64 x2)))] (.leaf .dead), 28, [some (.mix [.dv (.val (.string x3)), .dv (.val (.string x4)), .dv (.val (.int .i64 x5)), .dv (.val (.int .i64 x6)), .dv (.val (.slice none 0 0)), .dv (.val (.string x7)), .dv (.val (.int .i64 x8)), .dv (.val (.int .i64 x9)), .dv (.val (.string x10)), .dv (.val (.string x11)), .dv (.val (.slice none 0 0))]), some (.mix [.dv (.val (.string x12)), .dv (.val (.string x13)), .dv (.val (.int .i64 x14)), .dv (.val (.int .i64 x15)), .dv (.lst 2 x16), .dv (.val (.string x17)), .dv (.val (.int .i64 x18)), .dv (.val (.int .i64 x19)), .dv (.val (.string x20)), .dv (.val (.string x21)), .dv (.lst 11 x22)])]⟩

noncomputable def oc_serinetteref05_all_l5 (k : KC) : (ByteArray → ByteArray → Int → Int → ByteArray → Int → Int → ByteArray → ByteArray → ByteArray → ByteArray → Int → Int → List (List DV) → ByteArray → Int → Int → ByteArray → ByteArray → List (List DV) → Option DV) := (fun y0 y1 y2 y3 y4 y5 y6 y7 y8 y9 y10 y11 y12 y13 y14 y15 y16 y17 y18 y19 => k (.exit 0) ⟨mkT [(4, .ptr 0 0), (5, .ptr 1 0)] (.leaf .dead), 28, [some (.mix [.dv (.val (.string y0)), .dv (.val (.string y1)), .dv (.val (.int .i64 y2)), .dv (.val (.int .i64 y3)), .dv (.val (.slice none 0 0)), .dv (.val (.string y4)), .dv (.val (.int .i64 y5)), .dv (.val (.int .i64 y6)), .dv (.val (.string y7)), .dv (.val (.string y8)), .dv (.val (.slice none 0 0))]), some (.mix [.dv (.val (.string y9)), .dv (.val (.string y10)), .dv (.val (.int .i64 y11)), .dv (.val (.int .i64 y12)), .dv (.lst 2 y13), .dv (.val (.string y14)), .dv (.val (.int .i64 y15)), .dv (.val (.int .i64 y16)), .dv (.val (.string y17)), .dv (.val (.string y18)), .dv (.lst 11 y19)])]⟩)

noncomputable def B_serinetteref05_all_l5_h0 (f0 : ByteArray → ByteArray → ByteArray → Int → Int → List (List DV) → ByteArray → Int → Int → ByteArray → ByteArray → List (List DV) → ByteArray → ByteArray → Int → Int → List (List DV) → ByteArray → Int → Int → ByteArray → ByteArray → List (List DV) → (ByteArray → ByteArray → Int → Int → List (List DV) → ByteArray → Int → Int → ByteArray → ByteArray → List (List DV) → Option DV) → Option DV) (x0 : ByteArray) (x1 : List (List DV)) (x2 : Int) (x3 : ByteArray) (x4 : ByteArray) (x5 : Int) (x6 : Int) (x7 : ByteArray) (x8 : Int) (x9 : Int) (x10 : ByteArray) (x11 : ByteArray) (x12 : ByteArray) (x13 : ByteArray) (x14 : Int) (x15 : Int) (x16 : List (List DV)) (x17 : ByteArray) (x18 : Int) (x19 : Int) (x20 : ByteArray) (x21 : ByteArray) (x22 : List (List DV)) (κn : X_serinetteref05_all_l5 → Option DV) (κ0 : ByteArray → ByteArray → Int → Int → ByteArray → Int → Int → ByteArray → ByteArray → ByteArray → ByteArray → Int → Int → List (List DV) → ByteArray → Int → Int → ByteArray → ByteArray → List (List DV) → Option DV) : Option DV :=
  bx (decide (x2 < ((List.length x1 : Nat) : Int))) (bx (decide (0 ≤ x2)) (optE (x1[Int.toNat x2]?) (fun e13 => ld_ssiil2siissl11 e13 0 (fun v14 v15 v16 v17 v18 v19 v20 v21 v22 v23 v24 => f0 x0 x12 x13 x14 x15 x16 x17 x18 x19 x20 x21 x22 v14 v15 v16 v17 v18 v19 v20 v21 v22 v23 v24 (fun r25 r26 r27 r28 r29 r30 r31 r32 r33 r34 r35 => κn (X_serinetteref05_all_l5.h0 x0 x1 (IntKind.wrap .i64 (x2 + 1)) x3 x4 x5 x6 x7 x8 x9 x10 x11 r25 r26 r27 r28 r29 r30 r31 r32 r33 r34 r35))))) none) (κ0 x3 x4 x5 x6 x7 x8 x9 x10 x11 x12 x13 x14 x15 x16 x17 x18 x19 x20 x21 x22)

noncomputable def F_serinetteref05_all_l5 (f0 : ByteArray → ByteArray → ByteArray → Int → Int → List (List DV) → ByteArray → Int → Int → ByteArray → ByteArray → List (List DV) → ByteArray → ByteArray → Int → Int → List (List DV) → ByteArray → Int → Int → ByteArray → ByteArray → List (List DV) → (ByteArray → ByteArray → Int → Int → List (List DV) → ByteArray → Int → Int → ByteArray → ByteArray → List (List DV) → Option DV) → Option DV) : X_serinetteref05_all_l5 → (X_serinetteref05_all_l5 → Option DV) → ((ByteArray → ByteArray → Int → Int → ByteArray → Int → Int → ByteArray → ByteArray → ByteArray → ByteArray → Int → Int → List (List DV) → ByteArray → Int → Int → ByteArray → ByteArray → List (List DV) → Option DV)) → Option DV
  | .h0 x0 x1 x2 x3 x4 x5 x6 x7 x8 x9 x10 x11 x12 x13 x14 x15 x16 x17 x18 x19 x20 x21 x22, κn, κ => B_serinetteref05_all_l5_h0 f0 x0 x1 x2 x3 x4 x5 x6 x7 x8 x9 x10 x11 x12 x13 x14 x15 x16 x17 x18 x19 x20 x21 x22 κn κ

noncomputable def dec_serinetteref05_all_l5 (s : St) : Option X_serinetteref05_all_l5 :=
  bindO (xN s.n 28) fun u => bindO (xD (s.tmps.get 0)) fun d1 => bindO (xS d1) fun x0 => bindO (xD (s.tmps.get 1)) fun d3 => bindO (xL 11 d3) fun x1 => bindO (xP 0 0 (s.tmps.get 4)) fun u5 => bindO (xP 1 0 (s.tmps.get 5)) fun u6 => bindO (xD (s.tmps.get 6)) fun d7 => bindO (xI .i64 d7) fun x2 => bindO (xMix s.heap) fun p9 => bindO (xUn p9.1) fun q10 => bindO (xD q10.1) fun d11 => bindO (xS d11) fun x3 => bindO (xUn q10.2) fun q13 => bindO (xD q13.1) fun d14 => bindO (xS d14) fun x4 => bindO (xUn q13.2) fun q16 => bindO (xD q16.1) fun d17 => bindO (xI .i64 d17) fun x5 => bindO (xUn q16.2) fun q19 => bindO (xD q19.1) fun d20 => bindO (xI .i64 d20) fun x6 => bindO (xUn q19.2) fun q22 => bindO (xD q22.1) fun d23 => bindO (xNil d23) fun u24 => bindO (xUn q22.2) fun q25 => bindO (xD q25.1) fun d26 => bindO (xS d26) fun x7 => bindO (xUn q25.2) fun q28 => bindO (xD q28.1) fun d29 => bindO (xI .i64 d29) fun x8 => bindO (xUn q28.2) fun q31 => bindO (xD q31.1) fun d32 => bindO (xI .i64 d32) fun x9 => bindO (xUn q31.2) fun q34 => bindO (xD q34.1) fun d35 => bindO (xS d35) fun x10 => bindO (xUn q34.2) fun q37 => bindO (xD q37.1) fun d38 => bindO (xS d38) fun x11 => bindO (xUn q37.2) fun q40 => bindO (xD q40.1) fun d41 => bindO (xNil d41) fun u42 => bindO (xEnd q40.2) fun u43 => bindO (xMix p9.2) fun p44 => bindO (xUn p44.1) fun q45 => bindO (xD q45.1) fun d46 => bindO (xS d46) fun x12 => bindO (xUn q45.2) fun q48 => bindO (xD q48.1) fun d49 => bindO (xS d49) fun x13 => bindO (xUn q48.2) fun q51 => bindO (xD q51.1) fun d52 => bindO (xI .i64 d52) fun x14 => bindO (xUn q51.2) fun q54 => bindO (xD q54.1) fun d55 => bindO (xI .i64 d55) fun x15 => bindO (xUn q54.2) fun q57 => bindO (xD q57.1) fun d58 => bindO (xL 2 d58) fun x16 => bindO (xUn q57.2) fun q60 => bindO (xD q60.1) fun d61 => bindO (xS d61) fun x17 => bindO (xUn q60.2) fun q63 => bindO (xD q63.1) fun d64 => bindO (xI .i64 d64) fun x18 => bindO (xUn q63.2) fun q66 => bindO (xD q66.1) fun d67 => bindO (xI .i64 d67) fun x19 => bindO (xUn q66.2) fun q69 => bindO (xD q69.1) fun d70 => bindO (xS d70) fun x20 => bindO (xUn q69.2) fun q72 => bindO (xD q72.1) fun d73 => bindO (xS d73) fun x21 => bindO (xUn q72.2) fun q75 => bindO (xD q75.1) fun d76 => bindO (xL 11 d76) fun x22 => bindO (xEnd q75.2) fun u78 => bindO (xEnd p44.2) fun u79 => some (.h0 x0 x1 x2 x3 x4 x5 x6 x7 x8 x9 x10 x11 x12 x13 x14 x15 x16 x17 x18 x19 x20 x21 x22)

noncomputable def R_serinetteref05_all_l5 (f0 : ByteArray → ByteArray → ByteArray → Int → Int → List (List DV) → ByteArray → Int → Int → ByteArray → ByteArray → List (List DV) → ByteArray → ByteArray → Int → Int → List (List DV) → ByteArray → Int → Int → ByteArray → ByteArray → List (List DV) → (ByteArray → ByteArray → Int → Int → List (List DV) → ByteArray → Int → Int → ByteArray → ByteArray → List (List DV) → Option DV) → Option DV) : St → KC → Option DV := decR dec_serinetteref05_all_l5 (F_serinetteref05_all_l5 f0) φ_serinetteref05_all_l5 oc_serinetteref05_all_l5

theorem d_serinetteref05_all_l5 : ∀ s x, dec_serinetteref05_all_l5 s = some x → SLe s (S_serinetteref05_all_l5 x) := by
  intro s x h
  unfold dec_serinetteref05_all_l5 at h
  · obtain ⟨u, en, h⟩ := bindO_some h
    obtain ⟨d1, e1, h⟩ := bindO_some h
    obtain ⟨x0, e2, h⟩ := bindO_some h
    obtain ⟨d3, e3, h⟩ := bindO_some h
    obtain ⟨x1, e4, h⟩ := bindO_some h
    obtain ⟨u5, e5, h⟩ := bindO_some h
    obtain ⟨u6, e6, h⟩ := bindO_some h
    obtain ⟨d7, e7, h⟩ := bindO_some h
    obtain ⟨x2, e8, h⟩ := bindO_some h
    obtain ⟨p9, e9, h⟩ := bindO_some h
    obtain ⟨q10, e10, h⟩ := bindO_some h
    obtain ⟨d11, e11, h⟩ := bindO_some h
    obtain ⟨x3, e12, h⟩ := bindO_some h
    obtain ⟨q13, e13, h⟩ := bindO_some h
    obtain ⟨d14, e14, h⟩ := bindO_some h
    obtain ⟨x4, e15, h⟩ := bindO_some h
    obtain ⟨q16, e16, h⟩ := bindO_some h
    obtain ⟨d17, e17, h⟩ := bindO_some h
    obtain ⟨x5, e18, h⟩ := bindO_some h
    obtain ⟨q19, e19, h⟩ := bindO_some h
    obtain ⟨d20, e20, h⟩ := bindO_some h
    obtain ⟨x6, e21, h⟩ := bindO_some h
    obtain ⟨q22, e22, h⟩ := bindO_some h
    obtain ⟨d23, e23, h⟩ := bindO_some h
    obtain ⟨u24, e24, h⟩ := bindO_some h
    obtain ⟨q25, e25, h⟩ := bindO_some h
    obtain ⟨d26, e26, h⟩ := bindO_some h
    obtain ⟨x7, e27, h⟩ := bindO_some h
    obtain ⟨q28, e28, h⟩ := bindO_some h
    obtain ⟨d29, e29, h⟩ := bindO_some h
    obtain ⟨x8, e30, h⟩ := bindO_some h
    obtain ⟨q31, e31, h⟩ := bindO_some h
    obtain ⟨d32, e32, h⟩ := bindO_some h
    obtain ⟨x9, e33, h⟩ := bindO_some h
    obtain ⟨q34, e34, h⟩ := bindO_some h
    obtain ⟨d35, e35, h⟩ := bindO_some h
    obtain ⟨x10, e36, h⟩ := bindO_some h
    obtain ⟨q37, e37, h⟩ := bindO_some h
    obtain ⟨d38, e38, h⟩ := bindO_some h
    obtain ⟨x11, e39, h⟩ := bindO_some h
    obtain ⟨q40, e40, h⟩ := bindO_some h
    obtain ⟨d41, e41, h⟩ := bindO_some h
    obtain ⟨u42, e42, h⟩ := bindO_some h
    obtain ⟨u43, e43, h⟩ := bindO_some h
    obtain ⟨p44, e44, h⟩ := bindO_some h
    obtain ⟨q45, e45, h⟩ := bindO_some h
    obtain ⟨d46, e46, h⟩ := bindO_some h
    obtain ⟨x12, e47, h⟩ := bindO_some h
    obtain ⟨q48, e48, h⟩ := bindO_some h
    obtain ⟨d49, e49, h⟩ := bindO_some h
    obtain ⟨x13, e50, h⟩ := bindO_some h
    obtain ⟨q51, e51, h⟩ := bindO_some h
    obtain ⟨d52, e52, h⟩ := bindO_some h
    obtain ⟨x14, e53, h⟩ := bindO_some h
    obtain ⟨q54, e54, h⟩ := bindO_some h
    obtain ⟨d55, e55, h⟩ := bindO_some h
    obtain ⟨x15, e56, h⟩ := bindO_some h
    obtain ⟨q57, e57, h⟩ := bindO_some h
    obtain ⟨d58, e58, h⟩ := bindO_some h
    obtain ⟨x16, e59, h⟩ := bindO_some h
    obtain ⟨q60, e60, h⟩ := bindO_some h
    obtain ⟨d61, e61, h⟩ := bindO_some h
    obtain ⟨x17, e62, h⟩ := bindO_some h
    obtain ⟨q63, e63, h⟩ := bindO_some h
    obtain ⟨d64, e64, h⟩ := bindO_some h
    obtain ⟨x18, e65, h⟩ := bindO_some h
    obtain ⟨q66, e66, h⟩ := bindO_some h
    obtain ⟨d67, e67, h⟩ := bindO_some h
    obtain ⟨x19, e68, h⟩ := bindO_some h
    obtain ⟨q69, e69, h⟩ := bindO_some h
    obtain ⟨d70, e70, h⟩ := bindO_some h
    obtain ⟨x20, e71, h⟩ := bindO_some h
    obtain ⟨q72, e72, h⟩ := bindO_some h
    obtain ⟨d73, e73, h⟩ := bindO_some h
    obtain ⟨x21, e74, h⟩ := bindO_some h
    obtain ⟨q75, e75, h⟩ := bindO_some h
    obtain ⟨d76, e76, h⟩ := bindO_some h
    obtain ⟨x22, e77, h⟩ := bindO_some h
    obtain ⟨u78, e78, h⟩ := bindO_some h
    obtain ⟨u79, e79, h⟩ := bindO_some h
    cases h
    exact ⟨le_mkT _ _ (Le.dead _) ⟨.inr ((xD_eq e1).trans (congrArg VV.dv (xS_eq e2))), .inr ((xD_eq e3).trans (congrArg VV.dv (xL_eq e4))), .inr (xP_eq e5), .inr (xP_eq e6), .inr ((xD_eq e7).trans (congrArg VV.dv (xI_eq e8))), trivial⟩, (xN_eq en).symm, by rw [xMix_eq e9, xUn_eq e10, xD_eq e11, xS_eq e12, xUn_eq e13, xD_eq e14, xS_eq e15, xUn_eq e16, xD_eq e17, xI_eq e18, xUn_eq e19, xD_eq e20, xI_eq e21, xUn_eq e22, xD_eq e23, xNil_eq e24, xUn_eq e25, xD_eq e26, xS_eq e27, xUn_eq e28, xD_eq e29, xI_eq e30, xUn_eq e31, xD_eq e32, xI_eq e33, xUn_eq e34, xD_eq e35, xS_eq e36, xUn_eq e37, xD_eq e38, xS_eq e39, xUn_eq e40, xD_eq e41, xNil_eq e42, xEnd_eq e43, xMix_eq e44, xUn_eq e45, xD_eq e46, xS_eq e47, xUn_eq e48, xD_eq e49, xS_eq e50, xUn_eq e51, xD_eq e52, xI_eq e53, xUn_eq e54, xD_eq e55, xI_eq e56, xUn_eq e57, xD_eq e58, xL_eq e59, xUn_eq e60, xD_eq e61, xS_eq e62, xUn_eq e63, xD_eq e64, xI_eq e65, xUn_eq e66, xD_eq e67, xI_eq e68, xUn_eq e69, xD_eq e70, xS_eq e71, xUn_eq e72, xD_eq e73, xS_eq e74, xUn_eq e75, xD_eq e76, xL_eq e77, xEnd_eq e78, xEnd_eq e79]; rfl⟩
noncomputable def B_serinetteref05_all (f0 : ByteArray → ByteArray → ByteArray → Int → Int → List (List DV) → ByteArray → Int → Int → ByteArray → ByteArray → List (List DV) → ByteArray → ByteArray → Int → Int → List (List DV) → ByteArray → Int → Int → ByteArray → ByteArray → List (List DV) → (ByteArray → ByteArray → Int → Int → List (List DV) → ByteArray → Int → Int → ByteArray → ByteArray → List (List DV) → Option DV) → Option DV) (a0 : ByteArray) (a1 : List (List DV)) (k : ByteArray → ByteArray → Int → Int → List (List DV) → ByteArray → Int → Int → ByteArray → ByteArray → List (List DV) → Option DV) : Option DV :=
  bx (((List.length a1 : Nat) : Int) == 0) (k (⟨#[]⟩) (⟨#[]⟩) 0 0 [] (⟨#[]⟩) 0 0 (⟨#[]⟩) (⟨#[]⟩) []) (optE (a1[Int.toNat 0]?) (fun e1 => ld_ssiil2siissl11 e1 0 (fun v2 v3 v4 v5 v6 v7 v8 v9 v10 v11 v12 => LF (F_serinetteref05_all_l5 f0) (φ_serinetteref05_all_l5 (X_serinetteref05_all_l5.h0 a0 a1 1 (⟨#[]⟩) (⟨#[]⟩) 0 0 (⟨#[]⟩) 0 0 (⟨#[]⟩) (⟨#[]⟩) v2 v3 v4 v5 v6 v7 v8 v9 v10 v11 v12)) (X_serinetteref05_all_l5.h0 a0 a1 1 (⟨#[]⟩) (⟨#[]⟩) 0 0 (⟨#[]⟩) 0 0 (⟨#[]⟩) (⟨#[]⟩) v2 v3 v4 v5 v6 v7 v8 v9 v10 v11 v12) ((fun z36_0 z36_1 z36_2 z36_3 z36_4 z36_5 z36_6 z36_7 z36_8 z36_9 z36_10 z36_11 z36_12 z36_13 z36_14 z36_15 z36_16 z36_17 z36_18 z36_19 => k z36_9 z36_10 z36_11 z36_12 z36_13 z36_14 z36_15 z36_16 z36_17 z36_18 z36_19)))))

noncomputable def KK_serinetteref05_all (f0 : ByteArray → List (List DV) → (ByteArray → ByteArray → Int → Int → List (List DV) → ByteArray → Int → Int → ByteArray → ByteArray → List (List DV) → Option DV) → Option DV) (ds : List DV) (k : DV → Option DV) : Option DV :=
  match ds with
  | [.val (.string a0), .lst 11 a1] => f0 a0 a1 (fun r0_0 r0_1 r0_2 r0_3 r0_4 r0_5 r0_6 r0_7 r0_8 r0_9 r0_10 => k (.agg [.val (.string r0_0), .val (.string r0_1), .val (.int .i64 r0_2), .val (.int .i64 r0_3), .lst 2 r0_4, .val (.string r0_5), .val (.int .i64 r0_6), .val (.int .i64 r0_7), .val (.string r0_8), .val (.string r0_9), .lst 11 r0_10]))
  | _ => none

noncomputable def serinetteref05_all (a0 : ByteArray) (a1 : List (List DV)) (k : ByteArray → ByteArray → Int → Int → List (List DV) → ByteArray → Int → Int → ByteArray → ByteArray → List (List DV) → Option DV) : Option DV := B_serinetteref05_all serinetteref05_Join a0 a1 k

theorem q_serinetteref05_all_l5_h0 (f0 : ByteArray → ByteArray → ByteArray → Int → Int → List (List DV) → ByteArray → Int → Int → ByteArray → ByteArray → List (List DV) → ByteArray → ByteArray → Int → Int → List (List DV) → ByteArray → Int → Int → ByteArray → ByteArray → List (List DV) → (ByteArray → ByteArray → Int → Int → List (List DV) → ByteArray → Int → Int → ByteArray → ByteArray → List (List DV) → Option DV) → Option DV) (x0 : ByteArray) (x1 : List (List DV)) (x2 : Int) (x3 : ByteArray) (x4 : ByteArray) (x5 : Int) (x6 : Int) (x7 : ByteArray) (x8 : Int) (x9 : Int) (x10 : ByteArray) (x11 : ByteArray) (x12 : ByteArray) (x13 : ByteArray) (x14 : Int) (x15 : Int) (x16 : List (List DV)) (x17 : ByteArray) (x18 : Int) (x19 : Int) (x20 : ByteArray) (x21 : ByteArray) (x22 : List (List DV)) (κn : St → Option DV) (κ : KC) : pev Try.prog (tab [(24, (KK_serinetteref05_Join f0))] []) (ltab [(5, R_serinetteref05_all_l5 f0)]) [(0, [0]), (0, []), (5, [0, 1, 4, 5, 6]), (100005, [4, 5])] 64 (loopB (bodyOf Try.f33) 0) (S_serinetteref05_all_l5 (.h0 x0 x1 x2 x3 x4 x5 x6 x7 x8 x9 x10 x11 x12 x13 x14 x15 x16 x17 x18 x19 x20 x21 x22)) (contL 0 [0, 1, 4, 5, 6] [4, 5] κn κ) = F_serinetteref05_all_l5 f0 (.h0 x0 x1 x2 x3 x4 x5 x6 x7 x8 x9 x10 x11 x12 x13 x14 x15 x16 x17 x18 x19 x20 x21 x22) (fun x => κn (S_serinetteref05_all_l5 x)) (oc_serinetteref05_all_l5 κ) := by kernel_rfl

theorem g_serinetteref05_all_l5 (f0 : ByteArray → ByteArray → ByteArray → Int → Int → List (List DV) → ByteArray → Int → Int → ByteArray → ByteArray → List (List DV) → ByteArray → ByteArray → Int → Int → List (List DV) → ByteArray → Int → Int → ByteArray → ByteArray → List (List DV) → (ByteArray → ByteArray → Int → Int → List (List DV) → ByteArray → Int → Int → ByteArray → ByteArray → List (List DV) → Option DV) → Option DV) (HK : KGood Try.prog Inv (tab [(24, (KK_serinetteref05_Join f0))] [])) : RGood 0 Try.prog Inv (loopB (bodyOf Try.f33) 0) (R_serinetteref05_all_l5 f0) :=
  have hL : LGood 0 Try.prog Inv (ltab [(5, R_serinetteref05_all_l5 f0)]) (loopB (bodyOf Try.f33) 0) := (lgood_of (bs := []) (by kernel_rfl) lgood_nil)
  rgood_dec (body := fun s k => pev Try.prog (tab [(24, (KK_serinetteref05_Join f0))] []) (ltab [(5, R_serinetteref05_all_l5 f0)]) [(0, [0]), (0, []), (5, [0, 1, 4, 5, 6]), (100005, [4, 5])] 64 (loopB (bodyOf Try.f33) 0) s k) (live := [0, 1, 4, 5, 6]) (out := [4, 5]) (S := S_serinetteref05_all_l5) (pev_ok mixed HK (ltab [(5, R_serinetteref05_all_l5 f0)]) [(0, [0]), (0, []), (5, [0, 1, 4, 5, 6]), (100005, [4, 5])] 64 _ hL) (pev_nat HK (ltab [(5, R_serinetteref05_all_l5 f0)]) [(0, [0]), (0, []), (5, [0, 1, 4, 5, 6]), (100005, [4, 5])] 64 _ hL)
    (fun x κn κ => match x with
      | .h0 _ _ _ _ _ _ _ _ _ _ _ _ _ _ _ _ _ _ _ _ _ _ _ => q_serinetteref05_all_l5_h0 f0 _ _ _ _ _ _ _ _ _ _ _ _ _ _ _ _ _ _ _ _ _ _ _ κn κ
    ) d_serinetteref05_all_l5 φ_serinetteref05_all_l5

theorem r_serinetteref05_all (f0 : ByteArray → ByteArray → ByteArray → Int → Int → List (List DV) → ByteArray → Int → Int → ByteArray → ByteArray → List (List DV) → ByteArray → ByteArray → Int → Int → List (List DV) → ByteArray → Int → Int → ByteArray → ByteArray → List (List DV) → (ByteArray → ByteArray → Int → Int → List (List DV) → ByteArray → Int → Int → ByteArray → ByteArray → List (List DV) → Option DV) → Option DV) (a0 : ByteArray) (a1 : List (List DV)) (k : DV → Option DV) : B_serinetteref05_all f0 a0 a1 (fun r0_0 r0_1 r0_2 r0_3 r0_4 r0_5 r0_6 r0_7 r0_8 r0_9 r0_10 => k (.agg [.val (.string r0_0), .val (.string r0_1), .val (.int .i64 r0_2), .val (.int .i64 r0_3), .lst 2 r0_4, .val (.string r0_5), .val (.int .i64 r0_6), .val (.int .i64 r0_7), .val (.string r0_8), .val (.string r0_9), .lst 11 r0_10])) = pevL Try.prog (tab [(24, (KK_serinetteref05_Join f0))] []) (ltab [(5, R_serinetteref05_all_l5 f0)]) [(0, [0]), (0, []), (5, [0, 1, 4, 5, 6]), (100005, [4, 5])] 64 Try.f33 (bodyOf Try.f33) [.val (.string a0), .lst 11 a1] k := by kernel_rfl

theorem m_serinetteref05_all : Meets Try.prog Inv 33 (KK_serinetteref05_all serinetteref05_all) :=
  meets_of_pevL mixed stab (kgood stab (tab_cons m_serinetteref05_Join (tab_nil _ _)) (tabH_nil _ _)) Try.func33 (by kernel_rfl) (by kernel_rfl) (by
    intro ds; unfold KK_serinetteref05_all; split
    · exact .inr ⟨(ltab [(5, R_serinetteref05_all_l5 serinetteref05_Join)]), [(0, [0]), (0, []), (5, [0, 1, 4, 5, 6]), (100005, [4, 5])], 64, lgood_of (bs := [loopB (bodyOf Try.f33) 0]) (by kernel_rfl) (lgood_cons (by kernel_rfl) (g_serinetteref05_all_l5 serinetteref05_Join (kgood stab (tab_cons m_serinetteref05_Join (tab_nil _ _)) (tabH_nil _ _))) lgood_nil), fun k => r_serinetteref05_all serinetteref05_Join _ _ k⟩
    · exact .inl (fun _ => rfl))

end Go.Proofs.Ytofmclaoihaenaa
