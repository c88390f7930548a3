/-
  Diagrams, read as plain functions.
-/
import Derived.Test.YtdfhakhapblhgaaRg
set_option linter.all false
namespace Go.Proofs.Ytdfhakhapblhgaa
open Go.Pv Go.RowKit
set_option maxRecDepth 100000
inductive X_slices_Equal_serinette_api_Q_l4 where
  | h0 (x0 : List (List DV)) (x1 : List (List DV)) (x2 : Int) (x3 : Int)
def φ_slices_Equal_serinette_api_Q_l4 : X_slices_Equal_serinette_api_Q_l4 → Nat
  | .h0 x0 x1 x2 x3 => Int.toNat (x2 - x3) + 1
noncomputable def S_slices_Equal_serinette_api_Q_l4 : X_slices_Equal_serinette_api_Q_l4 → St
  | .h0 x0 x1 x2 x3 => ⟨mkT [(0, .dv (.lst 2 x0)), (1, .dv (.lst 2 x1)), (12, .dv (.val (.int .i64 x2))), (13, .dv (.val (.int .i64 x3)))] (.leaf .dead), 26, []⟩

noncomputable def oc_slices_Equal_serinette_api_Q_l4 (k : KC) : KB × (Option DV) := (fun y0 => k .ret ⟨mkT [(4, .dv (.val (.bool y0)))] (.leaf .dead), 26, []⟩, k (.exit 0) ⟨mkT [(4, .dead)] (.leaf .dead), 26, []⟩)

noncomputable def B_slices_Equal_serinette_api_Q_l4_h0  (x0 : List (List DV)) (x1 : List (List DV)) (x2 : Int) (x3 : Int) (κn : X_slices_Equal_serinette_api_Q_l4 → Option DV) (κ0 : KB) (κ1 : Option DV) : Option DV :=
  bx (decide (x3 < x2)) (bx (decide (0 ≤ x3)) (optE (x0[Int.toNat x3]?) (fun e1 => ld_ii e1 0 (fun v2 v3 => bx (decide (0 ≤ x3)) (optE (x1[Int.toNat x3]?) (fun e4 => ld_ii e4 0 (fun v5 v6 => bx (!(((v2 == v5) && ((v3 == v6) && true)))) (κ0 false) (κn (X_slices_Equal_serinette_api_Q_l4.h0 x0 x1 x2 (IntKind.wrap .i64 (x3 + 1))))))) none))) none) κ1

noncomputable def F_slices_Equal_serinette_api_Q_l4  : X_slices_Equal_serinette_api_Q_l4 → (X_slices_Equal_serinette_api_Q_l4 → Option DV) → (KB × (Option DV)) → Option DV
  | .h0 x0 x1 x2 x3, κn, κ => B_slices_Equal_serinette_api_Q_l4_h0  x0 x1 x2 x3 κn κ.1 κ.2

noncomputable def dec_slices_Equal_serinette_api_Q_l4 (s : St) : Option X_slices_Equal_serinette_api_Q_l4 :=
  bindO (xN s.n 26) fun u => bindO (xD (s.tmps.get 0)) fun d1 => bindO (xL 2 d1) fun x0 => bindO (xD (s.tmps.get 1)) fun d3 => bindO (xL 2 d3) fun x1 => bindO (xD (s.tmps.get 12)) fun d5 => bindO (xI .i64 d5) fun x2 => bindO (xD (s.tmps.get 13)) fun d7 => bindO (xI .i64 d7) fun x3 => bindO (xEnd s.heap) fun u9 => some (.h0 x0 x1 x2 x3)

noncomputable def R_slices_Equal_serinette_api_Q_l4  : St → KC → Option DV := decR dec_slices_Equal_serinette_api_Q_l4 (F_slices_Equal_serinette_api_Q_l4 ) φ_slices_Equal_serinette_api_Q_l4 oc_slices_Equal_serinette_api_Q_l4

theorem d_slices_Equal_serinette_api_Q_l4 : ∀ s x, dec_slices_Equal_serinette_api_Q_l4 s = some x → SLe s (S_slices_Equal_serinette_api_Q_l4 x) := by
  intro s x h
  unfold dec_slices_Equal_serinette_api_Q_l4 at h
  · obtain ⟨u, en, h⟩ := bindO_some h
    obtain ⟨d1, e1, h⟩ := bindO_some h
    obtain ⟨x0, e2, h⟩ := bindO_some h
    obtain ⟨d3, e3, h⟩ := bindO_some h
    obtain ⟨x1, e4, h⟩ := bindO_some h
    obtain ⟨d5, e5, h⟩ := bindO_some h
    obtain ⟨x2, e6, h⟩ := bindO_some h
    obtain ⟨d7, e7, h⟩ := bindO_some h
    obtain ⟨x3, e8, h⟩ := bindO_some h
    obtain ⟨u9, e9, h⟩ := bindO_some h
    cases h
    exact ⟨le_mkT _ _ (Le.dead _) ⟨.inr ((xD_eq e1).trans (congrArg VV.dv (xL_eq e2))), .inr ((xD_eq e3).trans (congrArg VV.dv (xL_eq e4))), .inr ((xD_eq e5).trans (congrArg VV.dv (xI_eq e6))), .inr ((xD_eq e7).trans (congrArg VV.dv (xI_eq e8))), trivial⟩, (xN_eq en).symm, by rw [xEnd_eq e9]; rfl⟩
noncomputable def B_slices_Equal_serinette_api_Q  (a0 : List (List DV)) (a1 : List (List DV)) (k : KB) : Option DV :=
  bx (((List.length a0 : Nat) : Int) != ((List.length a1 : Nat) : Int)) (k false) (LF (F_slices_Equal_serinette_api_Q_l4 ) (φ_slices_Equal_serinette_api_Q_l4 (X_slices_Equal_serinette_api_Q_l4.h0 a0 a1 ((List.length a0 : Nat) : Int) 0)) (X_slices_Equal_serinette_api_Q_l4.h0 a0 a1 ((List.length a0 : Nat) : Int) 0) ((fun z7_0 => k z7_0), (k true)))

noncomputable def KK_slices_Equal_serinette_api_Q (f0 : List (List DV) → List (List DV) → KB → Option DV) (ds : List DV) (k : DV → Option DV) : Option DV :=
  match ds with
  | [.lst 2 a0, .lst 2 a1] => f0 a0 a1 (fun r0_0 => k (.val (.bool r0_0)))
  | _ => none

noncomputable def slices_Equal_serinette_api_Q (a0 : List (List DV)) (a1 : List (List DV)) (k : KB) : Option DV := B_slices_Equal_serinette_api_Q  a0 a1 k

theorem q_slices_Equal_serinette_api_Q_l4_h0  (x0 : List (List DV)) (x1 : List (List DV)) (x2 : Int) (x3 : Int) (κn : St → Option DV) (κ : KC) : pev Try.prog (tab [] []) (ltab [(4, R_slices_Equal_serinette_api_Q_l4 )]) [(0, [0]), (0, []), (4, [0, 1, 12, 13]), (100004, [4])] 64 (loopB (bodyOf Try.f53) 0) (S_slices_Equal_serinette_api_Q_l4 (.h0 x0 x1 x2 x3)) (contL 0 [0, 1, 12, 13] [4] κn κ) = F_slices_Equal_serinette_api_Q_l4  (.h0 x0 x1 x2 x3) (fun x => κn (S_slices_Equal_serinette_api_Q_l4 x)) (oc_slices_Equal_serinette_api_Q_l4 κ) := by kernel_rfl

theorem g_slices_Equal_serinette_api_Q_l4  (HK : KGood Try.prog Inv (tab [] [])) : RGood 0 Try.prog Inv (loopB (bodyOf Try.f53) 0) (R_slices_Equal_serinette_api_Q_l4 ) :=
  have hL : LGood 0 Try.prog Inv (ltab [(4, R_slices_Equal_serinette_api_Q_l4 )]) (loopB (bodyOf Try.f53) 0) := (lgood_of (bs := []) (by kernel_rfl) lgood_nil)
  rgood_dec (body := fun s k => pev Try.prog (tab [] []) (ltab [(4, R_slices_Equal_serinette_api_Q_l4 )]) [(0, [0]), (0, []), (4, [0, 1, 12, 13]), (100004, [4])] 64 (loopB (bodyOf Try.f53) 0) s k) (live := [0, 1, 12, 13]) (out := [4]) (S := S_slices_Equal_serinette_api_Q_l4) (pev_ok mixed HK (ltab [(4, R_slices_Equal_serinette_api_Q_l4 )]) [(0, [0]), (0, []), (4, [0, 1, 12, 13]), (100004, [4])] 64 _ hL) (pev_nat HK (ltab [(4, R_slices_Equal_serinette_api_Q_l4 )]) [(0, [0]), (0, []), (4, [0, 1, 12, 13]), (100004, [4])] 64 _ hL)
    (fun x κn κ => match x with
      | .h0 _ _ _ _ => q_slices_Equal_serinette_api_Q_l4_h0  _ _ _ _ κn κ
    ) d_slices_Equal_serinette_api_Q_l4 φ_slices_Equal_serinette_api_Q_l4

theorem r_slices_Equal_serinette_api_Q  (a0 : List (List DV)) (a1 : List (List DV)) (k : DV → Option DV) : B_slices_Equal_serinette_api_Q  a0 a1 (fun r0_0 => k (.val (.bool r0_0))) = pevL Try.prog (tab [] []) (ltab [(4, R_slices_Equal_serinette_api_Q_l4 )]) [(0, [0]), (0, []), (4, [0, 1, 12, 13]), (100004, [4])] 64 Try.f53 (bodyOf Try.f53) [.lst 2 a0, .lst 2 a1] k := by kernel_rfl

theorem m_slices_Equal_serinette_api_Q : Meets Try.prog Inv 53 (KK_slices_Equal_serinette_api_Q slices_Equal_serinette_api_Q) :=
  meets_of_pevL mixed stab (kgood stab (tab_nil _ _) (tabH_nil _ _)) Try.func53 (by kernel_rfl) (by kernel_rfl) (by
    intro ds; unfold KK_slices_Equal_serinette_api_Q; split
    · exact .inr ⟨(ltab [(4, R_slices_Equal_serinette_api_Q_l4 )]), [(0, [0]), (0, []), (4, [0, 1, 12, 13]), (100004, [4])], 64, lgood_of (bs := [loopB (bodyOf Try.f53) 0]) (by kernel_rfl) (lgood_cons (by kernel_rfl) (g_slices_Equal_serinette_api_Q_l4  (kgood stab (tab_nil _ _) (tabH_nil _ _))) lgood_nil), fun k => r_slices_Equal_serinette_api_Q  _ _ k⟩
    · exact .inl (fun _ => rfl))

inductive X_block_hasItsPaths_l3 where
  | h0 (x0 : List (List DV)) (x1 : Int) (x2 : Int) (x3 : ByteArray) (x4 : ByteArray) (x5 : Int) (x6 : Int) (x7 : List (List DV)) (x8 : ByteArray) (x9 : Int) (x10 : Int) (x11 : ByteArray) (x12 : ByteArray) (x13 : List (List DV))
def φ_block_hasItsPaths_l3 : X_block_hasItsPaths_l3 → Nat
  | .h0 x0 x1 x2 x3 x4 x5 x6 x7 x8 x9 x10 x11 x12 x13 => Int.toNat (x1 - x2) + 1
inductive X_block_hasItsPaths_l12 where
  | h0 (x0 : List (List DV)) (x1 : Int) (x2 : Int)
def φ_block_hasItsPaths_l12 : X_block_hasItsPaths_l12 → Nat
  | .h0 x0 x1 x2 => Int.toNat (x1 - x2) + 1
noncomputable def S_block_hasItsPaths_l3 : X_block_hasItsPaths_l3 → St
  | .h0 x0 x1 x2 x3 x4 x5 x6 x7 x8 x9 x10 x11 x12 x13 => ⟨mkT [(1, .ptr 0 0), (15, .dv (.lst 11 x0)), (16, .dv (.val (.int .i64 x1))), (17, .dv (.val (.int .i64 x2)))] (.leaf .dead), 68, [some (.mix [.dv (.val (.string x3)), .dv (.val (.string x4)), .dv (.val (.int .i64 x5)), .dv (.val (.int .i64 x6)), .dv (.lst 2 x7), .dv (.val (.string x8)), .dv (.val (.int .i64 x9)), .dv (.val (.int .i64 x10)), .dv (.val (.string x11)), .dv (.val (.string x12)), .dv (.lst 11 x13)])]⟩

noncomputable def oc_block_hasItsPaths_l3 (k : KC) : (ByteArray → ByteArray → Int → Int → List (List DV) → ByteArray → Int → Int → ByteArray → ByteArray → List (List DV) → Option DV) := (fun y0 y1 y2 y3 y4 y5 y6 y7 y8 y9 y10 => k (.exit 0) ⟨mkT [(1, .ptr 0 0)] (.leaf .dead), 68, [some (.mix [.dv (.val (.string y0)), .dv (.val (.string y1)), .dv (.val (.int .i64 y2)), .dv (.val (.int .i64 y3)), .dv (.lst 2 y4), .dv (.val (.string y5)), .dv (.val (.int .i64 y6)), .dv (.val (.int .i64 y7)), .dv (.val (.string y8)), .dv (.val (.string y9)), .dv (.lst 11 y10)])]⟩)

noncomputable def B_block_hasItsPaths_l3_h0 (f0 : ByteArray → ByteArray → ByteArray → Int → Int → List (List DV) → ByteArray → Int → Int → ByteArray → ByteArray → List (List DV) → (List (List DV) → Option DV) → Option DV) (x0 : List (List DV)) (x1 : Int) (x2 : Int) (x3 : ByteArray) (x4 : ByteArray) (x5 : Int) (x6 : Int) (x7 : List (List DV)) (x8 : ByteArray) (x9 : Int) (x10 : Int) (x11 : ByteArray) (x12 : ByteArray) (x13 : List (List DV)) (κn : X_block_hasItsPaths_l3 → Option DV) (κ0 : ByteArray → ByteArray → Int → Int → List (List DV) → ByteArray → Int → Int → ByteArray → ByteArray → List (List DV) → Option DV) : Option DV :=
  bx (decide (x2 < x1)) (bx (decide (0 ≤ x2)) (optE (x0[Int.toNat x2]?) (fun e2 => ld_ssiil2siissl11 e2 0 (fun v3 v4 v5 v6 v7 v8 v9 v10 v11 v12 v13 => none))) none) (κ0 x3 x4 x5 x6 x7 x8 x9 x10 x11 x12 x13)

noncomputable def F_block_hasItsPaths_l3 (f0 : ByteArray → ByteArray → ByteArray → Int → Int → List (List DV) → ByteArray → Int → Int → ByteArray → ByteArray → List (List DV) → (List (List DV) → Option DV) → Option DV) : X_block_hasItsPaths_l3 → (X_block_hasItsPaths_l3 → Option DV) → ((ByteArray → ByteArray → Int → Int → List (List DV) → ByteArray → Int → Int → ByteArray → ByteArray → List (List DV) → Option DV)) → Option DV
  | .h0 x0 x1 x2 x3 x4 x5 x6 x7 x8 x9 x10 x11 x12 x13, κn, κ => B_block_hasItsPaths_l3_h0 f0 x0 x1 x2 x3 x4 x5 x6 x7 x8 x9 x10 x11 x12 x13 κn κ

noncomputable def dec_block_hasItsPaths_l3 (s : St) : Option X_block_hasItsPaths_l3 :=
  bindO (xN s.n 68) fun u => bindO (xP 0 0 (s.tmps.get 1)) fun u1 => bindO (xD (s.tmps.get 15)) fun d2 => bindO (xL 11 d2) fun x0 => bindO (xD (s.tmps.get 16)) fun d4 => bindO (xI .i64 d4) fun x1 => bindO (xD (s.tmps.get 17)) fun d6 => bindO (xI .i64 d6) fun x2 => bindO (xMix s.heap) fun p8 => bindO (xUn p8.1) fun q9 => bindO (xD q9.1) fun d10 => bindO (xS d10) fun x3 => bindO (xUn q9.2) fun q12 => bindO (xD q12.1) fun d13 => bindO (xS d13) fun x4 => bindO (xUn q12.2) fun q15 => bindO (xD q15.1) fun d16 => bindO (xI .i64 d16) fun x5 => bindO (xUn q15.2) fun q18 => bindO (xD q18.1) fun d19 => bindO (xI .i64 d19) fun x6 => bindO (xUn q18.2) fun q21 => bindO (xD q21.1) fun d22 => bindO (xL 2 d22) fun x7 => bindO (xUn q21.2) fun q24 => bindO (xD q24.1) fun d25 => bindO (xS d25) fun x8 => bindO (xUn q24.2) fun q27 => bindO (xD q27.1) fun d28 => bindO (xI .i64 d28) fun x9 => bindO (xUn q27.2) fun q30 => bindO (xD q30.1) fun d31 => bindO (xI .i64 d31) fun x10 => bindO (xUn q30.2) fun q33 => bindO (xD q33.1) fun d34 => bindO (xS d34) fun x11 => bindO (xUn q33.2) fun q36 => bindO (xD q36.1) fun d37 => bindO (xS d37) fun x12 => bindO (xUn q36.2) fun q39 => bindO (xD q39.1) fun d40 => bindO (xL 11 d40) fun x13 => bindO (xEnd q39.2) fun u42 => bindO (xEnd p8.2) fun u43 => some (.h0 x0 x1 x2 x3 x4 x5 x6 x7 x8 x9 x10 x11 x12 x13)

noncomputable def R_block_hasItsPaths_l3 (f0 : ByteArray → ByteArray → ByteArray → Int → Int → List (List DV) → ByteArray → Int → Int → ByteArray → ByteArray → List (List DV) → (List (List DV) → Option DV) → Option DV) : St → KC → Option DV := decR dec_block_hasItsPaths_l3 (F_block_hasItsPaths_l3 f0) φ_block_hasItsPaths_l3 oc_block_hasItsPaths_l3

theorem d_block_hasItsPaths_l3 : ∀ s x, dec_block_hasItsPaths_l3 s = some x → SLe s (S_block_hasItsPaths_l3 x) := by
  intro s x h
  unfold dec_block_hasItsPaths_l3 at h
  · obtain ⟨u, en, h⟩ := bindO_some h
    obtain ⟨u1, e1, h⟩ := bindO_some h
    obtain ⟨d2, e2, h⟩ := bindO_some h
    obtain ⟨x0, e3, h⟩ := bindO_some h
    obtain ⟨d4, e4, h⟩ := bindO_some h
    obtain ⟨x1, e5, h⟩ := bindO_some h
    obtain ⟨d6, e6, h⟩ := bindO_some h
    obtain ⟨x2, e7, h⟩ := bindO_some h
    obtain ⟨p8, e8, h⟩ := bindO_some h
    obtain ⟨q9, e9, h⟩ := bindO_some h
    obtain ⟨d10, e10, h⟩ := bindO_some h
    obtain ⟨x3, e11, h⟩ := bindO_some h
    obtain ⟨q12, e12, h⟩ := bindO_some h
    obtain ⟨d13, e13, h⟩ := bindO_some h
    obtain ⟨x4, e14, h⟩ := bindO_some h
    obtain ⟨q15, e15, h⟩ := bindO_some h
    obtain ⟨d16, e16, h⟩ := bindO_some h
    obtain ⟨x5, e17, h⟩ := bindO_some h
    obtain ⟨q18, e18, h⟩ := bindO_some h
    obtain ⟨d19, e19, h⟩ := bindO_some h
    obtain ⟨x6, e20, h⟩ := bindO_some h
    obtain ⟨q21, e21, h⟩ := bindO_some h
    obtain ⟨d22, e22, h⟩ := bindO_some h
    obtain ⟨x7, e23, h⟩ := bindO_some h
    obtain ⟨q24, e24, h⟩ := bindO_some h
    obtain ⟨d25, e25, h⟩ := bindO_some h
    obtain ⟨x8, e26, h⟩ := bindO_some h
    obtain ⟨q27, e27, h⟩ := bindO_some h
    obtain ⟨d28, e28, h⟩ := bindO_some h
    obtain ⟨x9, e29, h⟩ := bindO_some h
    obtain ⟨q30, e30, h⟩ := bindO_some h
    obtain ⟨d31, e31, h⟩ := bindO_some h
    obtain ⟨x10, e32, h⟩ := bindO_some h
    obtain ⟨q33, e33, h⟩ := bindO_some h
    obtain ⟨d34, e34, h⟩ := bindO_some h
    obtain ⟨x11, e35, h⟩ := bindO_some h
    obtain ⟨q36, e36, h⟩ := bindO_some h
    obtain ⟨d37, e37, h⟩ := bindO_some h
    obtain ⟨x12, e38, h⟩ := bindO_some h
    obtain ⟨q39, e39, h⟩ := bindO_some h
    obtain ⟨d40, e40, h⟩ := bindO_some h
    obtain ⟨x13, e41, h⟩ := bindO_some h
    obtain ⟨u42, e42, h⟩ := bindO_some h
    obtain ⟨u43, e43, h⟩ := bindO_some h
    cases h
    exact ⟨le_mkT _ _ (Le.dead _) ⟨.inr (xP_eq e1), .inr ((xD_eq e2).trans (congrArg VV.dv (xL_eq e3))), .inr ((xD_eq e4).trans (congrArg VV.dv (xI_eq e5))), .inr ((xD_eq e6).trans (congrArg VV.dv (xI_eq e7))), trivial⟩, (xN_eq en).symm, by rw [xMix_eq e8, xUn_eq e9, xD_eq e10, xS_eq e11, xUn_eq e12, xD_eq e13, xS_eq e14, xUn_eq e15, xD_eq e16, xI_eq e17, xUn_eq e18, xD_eq e19, xI_eq e20, xUn_eq e21, xD_eq e22, xL_eq e23, xUn_eq e24, xD_eq e25, xS_eq e26, xUn_eq e27, xD_eq e28, xI_eq e29, xUn_eq e30, xD_eq e31, xI_eq e32, xUn_eq e33, xD_eq e34, xS_eq e35, xUn_eq e36, xD_eq e37, xS_eq e38, xUn_eq e39, xD_eq e40, xL_eq e41, xEnd_eq e42, xEnd_eq e43]; rfl⟩
noncomputable def S_block_hasItsPaths_l12 : X_block_hasItsPaths_l12 → St
  | .h0 x0 x1 x2 => ⟨mkT [(44, .dv (.lst 11 x0)), (45, .dv (.val (.int .i64 x1))), (46, .dv (.val (.int .i64 x2)))] (.leaf .dead), 68, []⟩

noncomputable def oc_block_hasItsPaths_l12 (k : KC) : (Option DV) := (k (.exit 2) ⟨mkT [] (.leaf .dead), 68, []⟩)

noncomputable def B_block_hasItsPaths_l12_h0 (f0 : ByteArray → ByteArray → ByteArray → Int → Int → List (List DV) → ByteArray → Int → Int → ByteArray → ByteArray → List (List DV) → (List (List DV) → Option DV) → Option DV) (x0 : List (List DV)) (x1 : Int) (x2 : Int) (κn : X_block_hasItsPaths_l12 → Option DV) (κ0 : Option DV) : Option DV :=
  bx (decide (x2 < x1)) (bx (decide (0 ≤ x2)) (optE (x0[Int.toNat x2]?) (fun e16 => ld_ssiil2siissl11 e16 0 (fun v17 v18 v19 v20 v21 v22 v23 v24 v25 v26 v27 => none))) none) κ0

noncomputable def F_block_hasItsPaths_l12 (f0 : ByteArray → ByteArray → ByteArray → Int → Int → List (List DV) → ByteArray → Int → Int → ByteArray → ByteArray → List (List DV) → (List (List DV) → Option DV) → Option DV) : X_block_hasItsPaths_l12 → (X_block_hasItsPaths_l12 → Option DV) → ((Option DV)) → Option DV
  | .h0 x0 x1 x2, κn, κ => B_block_hasItsPaths_l12_h0 f0 x0 x1 x2 κn κ

noncomputable def dec_block_hasItsPaths_l12 (s : St) : Option X_block_hasItsPaths_l12 :=
  bindO (xN s.n 68) fun u => bindO (xD (s.tmps.get 44)) fun d1 => bindO (xL 11 d1) fun x0 => bindO (xD (s.tmps.get 45)) fun d3 => bindO (xI .i64 d3) fun x1 => bindO (xD (s.tmps.get 46)) fun d5 => bindO (xI .i64 d5) fun x2 => bindO (xEnd s.heap) fun u7 => some (.h0 x0 x1 x2)

noncomputable def R_block_hasItsPaths_l12 (f0 : ByteArray → ByteArray → ByteArray → Int → Int → List (List DV) → ByteArray → Int → Int → ByteArray → ByteArray → List (List DV) → (List (List DV) → Option DV) → Option DV) : St → KC → Option DV := decR dec_block_hasItsPaths_l12 (F_block_hasItsPaths_l12 f0) φ_block_hasItsPaths_l12 oc_block_hasItsPaths_l12

theorem d_block_hasItsPaths_l12 : ∀ s x, dec_block_hasItsPaths_l12 s = some x → SLe s (S_block_hasItsPaths_l12 x) := by
  intro s x h
  unfold dec_block_hasItsPaths_l12 at h
  · obtain ⟨u, en, h⟩ := bindO_some h
    obtain ⟨d1, e1, h⟩ := bindO_some h
    obtain ⟨x0, e2, h⟩ := bindO_some h
    obtain ⟨d3, e3, h⟩ := bindO_some h
    obtain ⟨x1, e4, h⟩ := bindO_some h
    obtain ⟨d5, e5, h⟩ := bindO_some h
    obtain ⟨x2, e6, h⟩ := bindO_some h
    obtain ⟨u7, e7, h⟩ := bindO_some h
    cases h
    exact ⟨le_mkT _ _ (Le.dead _) ⟨.inr ((xD_eq e1).trans (congrArg VV.dv (xL_eq e2))), .inr ((xD_eq e3).trans (congrArg VV.dv (xI_eq e4))), .inr ((xD_eq e5).trans (congrArg VV.dv (xI_eq e6))), trivial⟩, (xN_eq en).symm, by rw [xEnd_eq e7]; rfl⟩
noncomputable def B_block_hasItsPaths (f0 : ByteArray → ByteArray → ByteArray → Int → Int → List (List DV) → ByteArray → Int → Int → ByteArray → ByteArray → List (List DV) → (List (List DV) → Option DV) → Option DV) (a0_0 a0_1 : ByteArray) (a0_2 a0_3 : Int) (a0_4 : List (List DV)) (a0_5 : ByteArray) (a0_6 a0_7 : Int) (a0_8 a0_9 : ByteArray) (a0_10 : List (List DV)) (k : KB) : Option DV :=
  f0 (⟨#[107, 110, 111, 98]⟩) a0_0 a0_1 a0_2 a0_3 a0_4 a0_5 a0_6 a0_7 a0_8 a0_9 a0_10 (fun r1 => LF (F_block_hasItsPaths_l3 f0) (φ_block_hasItsPaths_l3 (X_block_hasItsPaths_l3.h0 r1 ((List.length r1 : Nat) : Int) 0 a0_0 a0_1 a0_2 a0_3 a0_4 a0_5 a0_6 a0_7 a0_8 a0_9 a0_10)) (X_block_hasItsPaths_l3.h0 r1 ((List.length r1 : Nat) : Int) 0 a0_0 a0_1 a0_2 a0_3 a0_4 a0_5 a0_6 a0_7 a0_8 a0_9 a0_10) ((fun z14_0 z14_1 z14_2 z14_3 z14_4 z14_5 z14_6 z14_7 z14_8 z14_9 z14_10 => f0 (⟨#[115, 104, 111, 119]⟩) z14_0 z14_1 z14_2 z14_3 z14_4 z14_5 z14_6 z14_7 z14_8 z14_9 z14_10 (fun r15 => LF (F_block_hasItsPaths_l12 f0) (φ_block_hasItsPaths_l12 (X_block_hasItsPaths_l12.h0 r15 ((List.length r15 : Nat) : Int) 0)) (X_block_hasItsPaths_l12.h0 r15 ((List.length r15 : Nat) : Int) 0) ((k true))))))

noncomputable def KK_block_hasItsPaths (f0 : ByteArray → ByteArray → Int → Int → List (List DV) → ByteArray → Int → Int → ByteArray → ByteArray → List (List DV) → KB → Option DV) (ds : List DV) (k : DV → Option DV) : Option DV :=
  match ds with
  | [.agg [.val (.string a0_0), .val (.string a0_1), .val (.int .i64 a0_2), .val (.int .i64 a0_3), .lst 2 a0_4, .val (.string a0_5), .val (.int .i64 a0_6), .val (.int .i64 a0_7), .val (.string a0_8), .val (.string a0_9), .lst 11 a0_10]] => f0 a0_0 a0_1 a0_2 a0_3 a0_4 a0_5 a0_6 a0_7 a0_8 a0_9 a0_10 (fun r0_0 => k (.val (.bool r0_0)))
  | _ => none

noncomputable def block_hasItsPaths (N : Nat) (a0_0 a0_1 : ByteArray) (a0_2 a0_3 : Int) (a0_4 : List (List DV)) (a0_5 : ByteArray) (a0_6 a0_7 : Int) (a0_8 a0_9 : ByteArray) (a0_10 : List (List DV)) (k : KB) : Option DV := B_block_hasItsPaths (block_having N) a0_0 a0_1 a0_2 a0_3 a0_4 a0_5 a0_6 a0_7 a0_8 a0_9 a0_10 k

theorem q_block_hasItsPaths_l3_h0 (f0 : ByteArray → ByteArray → ByteArray → Int → Int → List (List DV) → ByteArray → Int → Int → ByteArray → ByteArray → List (List DV) → (List (List DV) → Option DV) → Option DV) (x0 : List (List DV)) (x1 : Int) (x2 : Int) (x3 : ByteArray) (x4 : ByteArray) (x5 : Int) (x6 : Int) (x7 : List (List DV)) (x8 : ByteArray) (x9 : Int) (x10 : Int) (x11 : ByteArray) (x12 : ByteArray) (x13 : List (List DV)) (κn : St → Option DV) (κ : KC) : pev Try.prog (tab [(52, (KK_block_having f0))] []) (ltab [(3, R_block_hasItsPaths_l3 f0), (12, R_block_hasItsPaths_l12 f0)]) [(0, [0]), (0, []), (3, [1, 15, 16, 17]), (100003, [1]), (12, [44, 45, 46]), (100012, [])] 64 (loopB (bodyOf Try.f41) 0) (S_block_hasItsPaths_l3 (.h0 x0 x1 x2 x3 x4 x5 x6 x7 x8 x9 x10 x11 x12 x13)) (contL 0 [1, 15, 16, 17] [1] κn κ) = F_block_hasItsPaths_l3 f0 (.h0 x0 x1 x2 x3 x4 x5 x6 x7 x8 x9 x10 x11 x12 x13) (fun x => κn (S_block_hasItsPaths_l3 x)) (oc_block_hasItsPaths_l3 κ) := by kernel_rfl

theorem g_block_hasItsPaths_l3 (f0 : ByteArray → ByteArray → ByteArray → Int → Int → List (List DV) → ByteArray → Int → Int → ByteArray → ByteArray → List (List DV) → (List (List DV) → Option DV) → Option DV) (HK : KGood Try.prog Inv (tab [(52, (KK_block_having f0))] [])) : RGood 0 Try.prog Inv (loopB (bodyOf Try.f41) 0) (R_block_hasItsPaths_l3 f0) :=
  have hL : LGood 0 Try.prog Inv (ltab [(3, R_block_hasItsPaths_l3 f0), (12, R_block_hasItsPaths_l12 f0)]) (loopB (bodyOf Try.f41) 0) := (lgood_of (bs := []) (by kernel_rfl) lgood_nil)
  rgood_dec (body := fun s k => pev Try.prog (tab [(52, (KK_block_having f0))] []) (ltab [(3, R_block_hasItsPaths_l3 f0), (12, R_block_hasItsPaths_l12 f0)]) [(0, [0]), (0, []), (3, [1, 15, 16, 17]), (100003, [1]), (12, [44, 45, 46]), (100012, [])] 64 (loopB (bodyOf Try.f41) 0) s k) (live := [1, 15, 16, 17]) (out := [1]) (S := S_block_hasItsPaths_l3) (pev_ok mixed HK (ltab [(3, R_block_hasItsPaths_l3 f0), (12, R_block_hasItsPaths_l12 f0)]) [(0, [0]), (0, []), (3, [1, 15, 16, 17]), (100003, [1]), (12, [44, 45, 46]), (100012, [])] 64 _ hL) (pev_nat HK (ltab [(3, R_block_hasItsPaths_l3 f0), (12, R_block_hasItsPaths_l12 f0)]) [(0, [0]), (0, []), (3, [1, 15, 16, 17]), (100003, [1]), (12, [44, 45, 46]), (100012, [])] 64 _ hL)
    (fun x κn κ => match x with
      | .h0 _ _ _ _ _ _ _ _ _ _ _ _ _ _ => q_block_hasItsPaths_l3_h0 f0 _ _ _ _ _ _ _ _ _ _ _ _ _ _ κn κ
    ) d_block_hasItsPaths_l3 φ_block_hasItsPaths_l3

theorem q_block_hasItsPaths_l12_h0 (f0 : ByteArray → ByteArray → ByteArray → Int → Int → List (List DV) → ByteArray → Int → Int → ByteArray → ByteArray → List (List DV) → (List (List DV) → Option DV) → Option DV) (x0 : List (List DV)) (x1 : Int) (x2 : Int) (κn : St → Option DV) (κ : KC) : pev Try.prog (tab [(52, (KK_block_having f0))] []) (ltab [(3, R_block_hasItsPaths_l3 f0), (12, R_block_hasItsPaths_l12 f0)]) [(0, [0]), (0, []), (3, [1, 15, 16, 17]), (100003, [1]), (12, [44, 45, 46]), (100012, [])] 64 (loopB (bodyOf Try.f41) 1) (S_block_hasItsPaths_l12 (.h0 x0 x1 x2)) (contL 0 [44, 45, 46] [] κn κ) = F_block_hasItsPaths_l12 f0 (.h0 x0 x1 x2) (fun x => κn (S_block_hasItsPaths_l12 x)) (oc_block_hasItsPaths_l12 κ) := by kernel_rfl

theorem g_block_hasItsPaths_l12 (f0 : ByteArray → ByteArray → ByteArray → Int → Int → List (List DV) → ByteArray → Int → Int → ByteArray → ByteArray → List (List DV) → (List (List DV) → Option DV) → Option DV) (HK : KGood Try.prog Inv (tab [(52, (KK_block_having f0))] [])) : RGood 0 Try.prog Inv (loopB (bodyOf Try.f41) 1) (R_block_hasItsPaths_l12 f0) :=
  have hL : LGood 0 Try.prog Inv (ltab [(3, R_block_hasItsPaths_l3 f0), (12, R_block_hasItsPaths_l12 f0)]) (loopB (bodyOf Try.f41) 1) := (lgood_of (bs := []) (by kernel_rfl) lgood_nil)
  rgood_dec (body := fun s k => pev Try.prog (tab [(52, (KK_block_having f0))] []) (ltab [(3, R_block_hasItsPaths_l3 f0), (12, R_block_hasItsPaths_l12 f0)]) [(0, [0]), (0, []), (3, [1, 15, 16, 17]), (100003, [1]), (12, [44, 45, 46]), (100012, [])] 64 (loopB (bodyOf Try.f41) 1) s k) (live := [44, 45, 46]) (out := []) (S := S_block_hasItsPaths_l12) (pev_ok mixed HK (ltab [(3, R_block_hasItsPaths_l3 f0), (12, R_block_hasItsPaths_l12 f0)]) [(0, [0]), (0, []), (3, [1, 15, 16, 17]), (100003, [1]), (12, [44, 45, 46]), (100012, [])] 64 _ hL) (pev_nat HK (ltab [(3, R_block_hasItsPaths_l3 f0), (12, R_block_hasItsPaths_l12 f0)]) [(0, [0]), (0, []), (3, [1, 15, 16, 17]), (100003, [1]), (12, [44, 45, 46]), (100012, [])] 64 _ hL)
    (fun x κn κ => match x with
      | .h0 _ _ _ => q_block_hasItsPaths_l12_h0 f0 _ _ _ κn κ
    ) d_block_hasItsPaths_l12 φ_block_hasItsPaths_l12

theorem r_block_hasItsPaths (f0 : ByteArray → ByteArray → ByteArray → Int → Int → List (List DV) → ByteArray → Int → Int → ByteArray → ByteArray → List (List DV) → (List (List DV) → Option DV) → Option DV) (a0_0 a0_1 : ByteArray) (a0_2 a0_3 : Int) (a0_4 : List (List DV)) (a0_5 : ByteArray) (a0_6 a0_7 : Int) (a0_8 a0_9 : ByteArray) (a0_10 : List (List DV)) (k : DV → Option DV) : B_block_hasItsPaths f0 a0_0 a0_1 a0_2 a0_3 a0_4 a0_5 a0_6 a0_7 a0_8 a0_9 a0_10 (fun r0_0 => k (.val (.bool r0_0))) = pevL Try.prog (tab [(52, (KK_block_having f0))] []) (ltab [(3, R_block_hasItsPaths_l3 f0), (12, R_block_hasItsPaths_l12 f0)]) [(0, [0]), (0, []), (3, [1, 15, 16, 17]), (100003, [1]), (12, [44, 45, 46]), (100012, [])] 64 Try.f41 (bodyOf Try.f41) [.agg [.val (.string a0_0), .val (.string a0_1), .val (.int .i64 a0_2), .val (.int .i64 a0_3), .lst 2 a0_4, .val (.string a0_5), .val (.int .i64 a0_6), .val (.int .i64 a0_7), .val (.string a0_8), .val (.string a0_9), .lst 11 a0_10]] k := by kernel_rfl

theorem m_block_hasItsPaths (N : Nat) : Meets Try.prog Inv 41 (KK_block_hasItsPaths (block_hasItsPaths N)) :=
  meets_of_pevL mixed stab (kgood stab (tab_cons (m_block_having N) (tab_nil _ _)) (tabH_nil _ _)) Try.func41 (by kernel_rfl) (by kernel_rfl) (by
    intro ds; unfold KK_block_hasItsPaths; split
    · exact .inr ⟨(ltab [(3, R_block_hasItsPaths_l3 (block_having N)), (12, R_block_hasItsPaths_l12 (block_having N))]), [(0, [0]), (0, []), (3, [1, 15, 16, 17]), (100003, [1]), (12, [44, 45, 46]), (100012, [])], 64, lgood_of (bs := [loopB (bodyOf Try.f41) 0, loopB (bodyOf Try.f41) 1]) (by kernel_rfl) (lgood_cons (by kernel_rfl) (g_block_hasItsPaths_l3 (block_having N) (kgood stab (tab_cons (m_block_having N) (tab_nil _ _)) (tabH_nil _ _))) (lgood_cons (by kernel_rfl) (g_block_hasItsPaths_l12 (block_having N) (kgood stab (tab_cons (m_block_having N) (tab_nil _ _)) (tabH_nil _ _))) lgood_nil)), fun k => r_block_hasItsPaths (block_having N) _ _ _ _ _ _ _ _ _ _ _ k⟩
    · exact .inl (fun _ => rfl))

noncomputable def B_block_Ports (f0 : ByteArray → ByteArray → Int → Int → List (List DV) → ByteArray → Int → Int → ByteArray → ByteArray → List (List DV) → KB → Option DV) (f1 : ByteArray → ByteArray → Int → Int → List (List DV) → ByteArray → Int → Int → ByteArray → ByteArray → List (List DV) → (Int → Int → Int → Option DV) → Option DV) (f2 : ByteArray → ByteArray → Int → Int → List (List DV) → ByteArray → Int → Int → ByteArray → ByteArray → List (List DV) → KI → Option DV) (f3 : ByteArray → ByteArray → Int → Int → List (List DV) → ByteArray → Int → Int → ByteArray → ByteArray → List (List DV) → KI → Option DV) (f4 : ByteArray → ByteArray → Int → Int → List (List DV) → ByteArray → Int → Int → ByteArray → ByteArray → List (List DV) → KB → Option DV) (a0_0 a0_1 : ByteArray) (a0_2 a0_3 : Int) (a0_4 : List (List DV)) (a0_5 : ByteArray) (a0_6 a0_7 : Int) (a0_8 a0_9 : ByteArray) (a0_10 : List (List DV)) (k : Int → Int → Int → Option DV) : Option DV :=
  f4 a0_0 a0_1 a0_2 a0_3 a0_4 a0_5 a0_6 a0_7 a0_8 a0_9 a0_10 (fun r1 => bx (!r1) (k 0 0 2) (f3 a0_0 a0_1 a0_2 a0_3 a0_4 a0_5 a0_6 a0_7 a0_8 a0_9 a0_10 (fun r2 => bx (!(decide (r2 > 600))) (f2 a0_0 a0_1 a0_2 a0_3 a0_4 a0_5 a0_6 a0_7 a0_8 a0_9 a0_10 (fun r3 => bx (decide (r3 > 60)) (k 0 0 4) (f1 a0_0 a0_1 a0_2 a0_3 a0_4 a0_5 a0_6 a0_7 a0_8 a0_9 a0_10 (fun r4 r5 r6 => bx (r6 != 0) (k 0 0 r6) (f0 a0_0 a0_1 a0_2 a0_3 a0_4 a0_5 a0_6 a0_7 a0_8 a0_9 a0_10 (fun r7 => bx (!r7) (k 0 0 8) (k r4 r5 0))))))) (k 0 0 4))))

noncomputable def KK_block_Ports (f0 : ByteArray → ByteArray → Int → Int → List (List DV) → ByteArray → Int → Int → ByteArray → ByteArray → List (List DV) → (Int → Int → Int → Option DV) → Option DV) (ds : List DV) (k : DV → Option DV) : Option DV :=
  match ds with
  | [.agg [.val (.string a0_0), .val (.string a0_1), .val (.int .i64 a0_2), .val (.int .i64 a0_3), .lst 2 a0_4, .val (.string a0_5), .val (.int .i64 a0_6), .val (.int .i64 a0_7), .val (.string a0_8), .val (.string a0_9), .lst 11 a0_10]] => f0 a0_0 a0_1 a0_2 a0_3 a0_4 a0_5 a0_6 a0_7 a0_8 a0_9 a0_10 (fun r0_0 r1_0 r2_0 => k (.val (.tuple ⟨[.int .i64 r0_0, .int .i64 r1_0, .int .i64 r2_0]⟩)))
  | _ => none

noncomputable def block_Ports (N : Nat) (a0_0 a0_1 : ByteArray) (a0_2 a0_3 : Int) (a0_4 : List (List DV)) (a0_5 : ByteArray) (a0_6 a0_7 : Int) (a0_8 a0_9 : ByteArray) (a0_10 : List (List DV)) (k : Int → Int → Int → Option DV) : Option DV := B_block_Ports (block_hasItsPaths N) (block_portsOf N) (block_Depth N) (block_Size N) (block_isValid N) a0_0 a0_1 a0_2 a0_3 a0_4 a0_5 a0_6 a0_7 a0_8 a0_9 a0_10 k

theorem r_block_Ports (f0 : ByteArray → ByteArray → Int → Int → List (List DV) → ByteArray → Int → Int → ByteArray → ByteArray → List (List DV) → KB → Option DV) (f1 : ByteArray → ByteArray → Int → Int → List (List DV) → ByteArray → Int → Int → ByteArray → ByteArray → List (List DV) → (Int → Int → Int → Option DV) → Option DV) (f2 : ByteArray → ByteArray → Int → Int → List (List DV) → ByteArray → Int → Int → ByteArray → ByteArray → List (List DV) → KI → Option DV) (f3 : ByteArray → ByteArray → Int → Int → List (List DV) → ByteArray → Int → Int → ByteArray → ByteArray → List (List DV) → KI → Option DV) (f4 : ByteArray → ByteArray → Int → Int → List (List DV) → ByteArray → Int → Int → ByteArray → ByteArray → List (List DV) → KB → Option DV) (a0_0 a0_1 : ByteArray) (a0_2 a0_3 : Int) (a0_4 : List (List DV)) (a0_5 : ByteArray) (a0_6 a0_7 : Int) (a0_8 a0_9 : ByteArray) (a0_10 : List (List DV)) (k : DV → Option DV) : B_block_Ports f0 f1 f2 f3 f4 a0_0 a0_1 a0_2 a0_3 a0_4 a0_5 a0_6 a0_7 a0_8 a0_9 a0_10 (fun r0_0 r1_0 r2_0 => k (.val (.tuple ⟨[.int .i64 r0_0, .int .i64 r1_0, .int .i64 r2_0]⟩))) = pevL Try.prog (tab [(28, (KK_block_Size f3)), (38, (KK_block_isValid f4)), (39, (KK_block_Depth f2)), (40, (KK_block_portsOf f1)), (41, (KK_block_hasItsPaths f0))] []) noL [] 64 Try.f27 (bodyOf Try.f27) [.agg [.val (.string a0_0), .val (.string a0_1), .val (.int .i64 a0_2), .val (.int .i64 a0_3), .lst 2 a0_4, .val (.string a0_5), .val (.int .i64 a0_6), .val (.int .i64 a0_7), .val (.string a0_8), .val (.string a0_9), .lst 11 a0_10]] k := by kernel_rfl

theorem m_block_Ports (N : Nat) : Meets Try.prog Inv 27 (KK_block_Ports (block_Ports N)) :=
  meets_of_pevL mixed stab (kgood stab (tab_cons (m_block_Size N) (tab_cons (m_block_isValid N) (tab_cons (m_block_Depth N) (tab_cons (m_block_portsOf N) (tab_cons (m_block_hasItsPaths N) (tab_nil _ _)))))) (tabH_nil _ _)) Try.func27 (by kernel_rfl) (by kernel_rfl) (by
    intro ds; unfold KK_block_Ports; split
    · exact .inr ⟨noL, [], 64, LGood.none _ _ _, fun k => r_block_Ports (block_hasItsPaths N) (block_portsOf N) (block_Depth N) (block_Size N) (block_isValid N) _ _ _ _ _ _ _ _ _ _ _ k⟩
    · exact .inl (fun _ => rfl))

noncomputable def B_serinettelaw05_awake (f0 : ByteArray → ByteArray → Int → Int → List (List DV) → ByteArray → Int → Int → ByteArray → ByteArray → List (List DV) → KI → Option DV) (f1 : ByteArray → ByteArray → Int → Int → List (List DV) → ByteArray → Int → Int → ByteArray → ByteArray → List (List DV) → (Int → Int → Int → Option DV) → Option DV) (f2 : ByteArray → ByteArray → ByteArray → Int → Int → List (List DV) → ByteArray → Int → Int → ByteArray → ByteArray → List (List DV) → ByteArray → ByteArray → Int → Int → List (List DV) → ByteArray → Int → Int → ByteArray → ByteArray → List (List DV) → (ByteArray → ByteArray → Int → Int → List (List DV) → ByteArray → Int → Int → ByteArray → ByteArray → List (List DV) → Option DV) → Option DV) (f3 : ByteArray → (ByteArray → ByteArray → Int → Int → List (List DV) → ByteArray → Int → Int → ByteArray → ByteArray → List (List DV) → Option DV) → Option DV)  (k : KB) : Option DV :=
  f3 (⟨#[97, 100, 100]⟩) (fun r1 r2 r3 r4 r5 r6 r7 r8 r9 r10 r11 => f2 (⟨#[114, 101, 99]⟩) r1 r2 r3 r4 r5 r6 r7 r8 r9 r10 r11 (⟨#[100, 101, 108, 97, 121]⟩) (⟨#[]⟩) 1 0 [] (⟨#[]⟩) 0 0 (⟨#[]⟩) (⟨#[]⟩) [] (fun r12 r13 r14 r15 r16 r17 r18 r19 r20 r21 r22 => f1 r12 r13 r14 r15 r16 r17 r18 r19 r20 r21 r22 (fun r23 r24 r25 => bx (r23 == 1) (bx (r24 == 1) (bx (r25 == 0) (f0 r12 r13 r14 r15 r16 r17 r18 r19 r20 r21 r22 (fun r26 => k (r26 == 3))) (k false)) (k false)) (k false))))

noncomputable def KK_serinettelaw05_awake (f0 : KB → Option DV) (ds : List DV) (k : DV → Option DV) : Option DV :=
  match ds with
  | [] => f0  (fun r0_0 => k (.val (.bool r0_0)))
  | _ => none

noncomputable def serinettelaw05_awake (N : Nat)  (k : KB) : Option DV := B_serinettelaw05_awake (block_Size N) (block_Ports N) (block_Join N) block_Leaf  k

theorem r_serinettelaw05_awake (f0 : ByteArray → ByteArray → Int → Int → List (List DV) → ByteArray → Int → Int → ByteArray → ByteArray → List (List DV) → KI → Option DV) (f1 : ByteArray → ByteArray → Int → Int → List (List DV) → ByteArray → Int → Int → ByteArray → ByteArray → List (List DV) → (Int → Int → Int → Option DV) → Option DV) (f2 : ByteArray → ByteArray → ByteArray → Int → Int → List (List DV) → ByteArray → Int → Int → ByteArray → ByteArray → List (List DV) → ByteArray → ByteArray → Int → Int → List (List DV) → ByteArray → Int → Int → ByteArray → ByteArray → List (List DV) → (ByteArray → ByteArray → Int → Int → List (List DV) → ByteArray → Int → Int → ByteArray → ByteArray → List (List DV) → Option DV) → Option DV) (f3 : ByteArray → (ByteArray → ByteArray → Int → Int → List (List DV) → ByteArray → Int → Int → ByteArray → ByteArray → List (List DV) → Option DV) → Option DV)  (k : DV → Option DV) : B_serinettelaw05_awake f0 f1 f2 f3  (fun r0_0 => k (.val (.bool r0_0))) = pevL Try.prog (tab [(14, (KK_block_Leaf f3)), (23, (KK_block_Join f2)), (27, (KK_block_Ports f1)), (28, (KK_block_Size f0))] []) noL [] 64 Try.f6 (bodyOf Try.f6) [] k := by kernel_rfl

theorem m_serinettelaw05_awake (N : Nat) : Meets Try.prog Inv 6 (KK_serinettelaw05_awake (serinettelaw05_awake N)) :=
  meets_of_pevL mixed stab (kgood stab (tab_cons m_block_Leaf (tab_cons (m_block_Join N) (tab_cons (m_block_Ports N) (tab_cons (m_block_Size N) (tab_nil _ _))))) (tabH_nil _ _)) Try.func6 (by kernel_rfl) (by kernel_rfl) (by
    intro ds; unfold KK_serinettelaw05_awake; split
    · exact .inr ⟨noL, [], 64, LGood.none _ _ _, fun k => r_serinettelaw05_awake (block_Size N) (block_Ports N) (block_Join N) block_Leaf  k⟩
    · exact .inl (fun _ => rfl))

noncomputable def ld_i (e : List DV) (o : Nat) (k : KI) : Option DV :=
  bx (isI .i64 (nth e o)) (k (asI (nth e o))) none

noncomputable def B_serinetteref05_At (f0 : ByteArray → ByteArray → Int → Int → List (List DV) → ByteArray → Int → Int → ByteArray → ByteArray → List (List DV) → List (List DV) → (ByteArray → ByteArray → Int → Int → List (List DV) → ByteArray → Int → Int → ByteArray → ByteArray → List (List DV) → Int → Option DV) → Option DV) (a0_0 a0_1 : ByteArray) (a0_2 a0_3 : Int) (a0_4 : List (List DV)) (a0_5 : ByteArray) (a0_6 a0_7 : Int) (a0_8 a0_9 : ByteArray) (a0_10 : List (List DV)) (a1 : List (List DV)) (k : ByteArray → ByteArray → Int → Int → List (List DV) → ByteArray → Int → Int → ByteArray → ByteArray → List (List DV) → Int → Option DV) : Option DV :=
  bx (((List.length a1 : Nat) : Int) == 0) (k a0_0 a0_1 a0_2 a0_3 a0_4 a0_5 a0_6 a0_7 a0_8 a0_9 a0_10 0) (optE (a1[Int.toNat 0]?) (fun e1 => ld_i e1 0 (fun v2 => bx (decide (v2 ≥ 0)) (bx (decide (v2 < ((List.length a0_10 : Nat) : Int))) (bx (decide (0 ≤ v2)) (optE (a0_10[Int.toNat v2]?) (fun e3 => ld_ssiil2siissl11 e3 0 (fun v4 v5 v6 v7 v8 v9 v10 v11 v12 v13 v14 => bx ((true && decide (0 ≤ ((List.length a1 : Nat) : Int)) && decide (((List.length a1 : Nat) : Int) ≤ ((List.length a1 : Nat) : Int)) && decide (0 ≤ 1) && decide (1 ≤ ((List.length a1 : Nat) : Int)))) (f0 v4 v5 v6 v7 v8 v9 v10 v11 v12 v13 v14 (List.drop (Int.toNat 1) (List.take (Int.toNat ((List.length a1 : Nat) : Int)) a1)) (fun r15 r16 r17 r18 r19 r20 r21 r22 r23 r24 r25 r26 => k r15 r16 r17 r18 r19 r20 r21 r22 r23 r24 r25 r26)) none))) none) (k (⟨#[]⟩) (⟨#[]⟩) 0 0 [] (⟨#[]⟩) 0 0 (⟨#[]⟩) (⟨#[]⟩) [] 2)) (k (⟨#[]⟩) (⟨#[]⟩) 0 0 [] (⟨#[]⟩) 0 0 (⟨#[]⟩) (⟨#[]⟩) [] 2))))

noncomputable def KK_serinetteref05_At (f0 : ByteArray → ByteArray → Int → Int → List (List DV) → ByteArray → Int → Int → ByteArray → ByteArray → List (List DV) → List (List DV) → (ByteArray → ByteArray → Int → Int → List (List DV) → ByteArray → Int → Int → ByteArray → ByteArray → List (List DV) → Int → Option DV) → Option DV) (ds : List DV) (k : DV → Option DV) : Option DV :=
  match ds with
  | [.agg [.val (.string a0_0), .val (.string a0_1), .val (.int .i64 a0_2), .val (.int .i64 a0_3), .lst 2 a0_4, .val (.string a0_5), .val (.int .i64 a0_6), .val (.int .i64 a0_7), .val (.string a0_8), .val (.string a0_9), .lst 11 a0_10], .lst 1 a1] => f0 a0_0 a0_1 a0_2 a0_3 a0_4 a0_5 a0_6 a0_7 a0_8 a0_9 a0_10 a1 (fun r0_0 r0_1 r0_2 r0_3 r0_4 r0_5 r0_6 r0_7 r0_8 r0_9 r0_10 r1_0 => k (.tup [.agg [.val (.string r0_0), .val (.string r0_1), .val (.int .i64 r0_2), .val (.int .i64 r0_3), .lst 2 r0_4, .val (.string r0_5), .val (.int .i64 r0_6), .val (.int .i64 r0_7), .val (.string r0_8), .val (.string r0_9), .lst 11 r0_10], .val (.int .i64 r1_0)]))
  | _ => none

noncomputable def G_serinetteref05_At (N : Nat) : Nat → (ByteArray → ByteArray → Int → Int → List (List DV) → ByteArray → Int → Int → ByteArray → ByteArray → List (List DV) → List (List DV) → (ByteArray → ByteArray → Int → Int → List (List DV) → ByteArray → Int → Int → ByteArray → ByteArray → List (List DV) → Int → Option DV) → Option DV)
  | 0 => (fun _ _ _ _ _ _ _ _ _ _ _ _ _ => none)
  | n + 1 => (fun a0_0 a0_1 a0_2 a0_3 a0_4 a0_5 a0_6 a0_7 a0_8 a0_9 a0_10 a1 k => B_serinetteref05_At (G_serinetteref05_At N n) a0_0 a0_1 a0_2 a0_3 a0_4 a0_5 a0_6 a0_7 a0_8 a0_9 a0_10 a1 k)

noncomputable def serinetteref05_At_n (N n : Nat) : ByteArray → ByteArray → Int → Int → List (List DV) → ByteArray → Int → Int → ByteArray → ByteArray → List (List DV) → List (List DV) → (ByteArray → ByteArray → Int → Int → List (List DV) → ByteArray → Int → Int → ByteArray → ByteArray → List (List DV) → Int → Option DV) → Option DV := (G_serinetteref05_At N n)
noncomputable def serinetteref05_At (N : Nat) : ByteArray → ByteArray → Int → Int → List (List DV) → ByteArray → Int → Int → ByteArray → ByteArray → List (List DV) → List (List DV) → (ByteArray → ByteArray → Int → Int → List (List DV) → ByteArray → Int → Int → ByteArray → ByteArray → List (List DV) → Int → Option DV) → Option DV := serinetteref05_At_n N N

theorem r_serinetteref05_At (f0 : ByteArray → ByteArray → Int → Int → List (List DV) → ByteArray → Int → Int → ByteArray → ByteArray → List (List DV) → List (List DV) → (ByteArray → ByteArray → Int → Int → List (List DV) → ByteArray → Int → Int → ByteArray → ByteArray → List (List DV) → Int → Option DV) → Option DV) (a0_0 a0_1 : ByteArray) (a0_2 a0_3 : Int) (a0_4 : List (List DV)) (a0_5 : ByteArray) (a0_6 a0_7 : Int) (a0_8 a0_9 : ByteArray) (a0_10 : List (List DV)) (a1 : List (List DV)) (k : DV → Option DV) : B_serinetteref05_At f0 a0_0 a0_1 a0_2 a0_3 a0_4 a0_5 a0_6 a0_7 a0_8 a0_9 a0_10 a1 (fun r0_0 r0_1 r0_2 r0_3 r0_4 r0_5 r0_6 r0_7 r0_8 r0_9 r0_10 r1_0 => k (.tup [.agg [.val (.string r0_0), .val (.string r0_1), .val (.int .i64 r0_2), .val (.int .i64 r0_3), .lst 2 r0_4, .val (.string r0_5), .val (.int .i64 r0_6), .val (.int .i64 r0_7), .val (.string r0_8), .val (.string r0_9), .lst 11 r0_10], .val (.int .i64 r1_0)])) = pevL Try.prog (tab [(7, (KK_serinetteref05_At f0))] []) noL [] 64 Try.f7 (bodyOf Try.f7) [.agg [.val (.string a0_0), .val (.string a0_1), .val (.int .i64 a0_2), .val (.int .i64 a0_3), .lst 2 a0_4, .val (.string a0_5), .val (.int .i64 a0_6), .val (.int .i64 a0_7), .val (.string a0_8), .val (.string a0_9), .lst 11 a0_10], .lst 1 a1] k := by kernel_rfl

theorem m_G_serinetteref05_At (N : Nat) : ∀ n, Meets Try.prog Inv 7 (KK_serinetteref05_At (serinetteref05_At_n N n))
  | 0 => meets_none (by intro ds k; unfold KK_serinetteref05_At; split <;> rfl)
  | n + 1 => by
    have ih := m_G_serinetteref05_At N n
    exact meets_of_pevL mixed stab (kgood stab (tab_cons (ih) (tab_nil _ _)) (tabH_nil _ _)) Try.func7 (by kernel_rfl) (by kernel_rfl) (by
    intro ds; unfold KK_serinetteref05_At; split
    · exact .inr ⟨noL, [], 64, LGood.none _ _ _, fun k => r_serinetteref05_At (serinetteref05_At_n N n) _ _ _ _ _ _ _ _ _ _ _ _ k⟩
    · exact .inl (fun _ => rfl))

theorem m_serinetteref05_At (N : Nat) : Meets Try.prog Inv 7 (KK_serinetteref05_At (serinetteref05_At N)) := (m_G_serinetteref05_At N N)

noncomputable def B_serinetteref05_Put (f0 : ByteArray → ByteArray → Int → Int → List (List DV) → ByteArray → Int → Int → ByteArray → ByteArray → List (List DV) → List (List DV) → ByteArray → ByteArray → Int → Int → List (List DV) → ByteArray → Int → Int → ByteArray → ByteArray → List (List DV) → (ByteArray → ByteArray → Int → Int → List (List DV) → ByteArray → Int → Int → ByteArray → ByteArray → List (List DV) → Int → Option DV) → Option DV) (a0_0 a0_1 : ByteArray) (a0_2 a0_3 : Int) (a0_4 : List (List DV)) (a0_5 : ByteArray) (a0_6 a0_7 : Int) (a0_8 a0_9 : ByteArray) (a0_10 : List (List DV)) (a1 : List (List DV)) (a2_0 a2_1 : ByteArray) (a2_2 a2_3 : Int) (a2_4 : List (List DV)) (a2_5 : ByteArray) (a2_6 a2_7 : Int) (a2_8 a2_9 : ByteArray) (a2_10 : List (List DV)) (k : ByteArray → ByteArray → Int → Int → List (List DV) → ByteArray → Int → Int → ByteArray → ByteArray → List (List DV) → Int → Option DV) : Option DV :=
  bx (((List.length a1 : Nat) : Int) == 0) (k a2_0 a2_1 a2_2 a2_3 a2_4 a2_5 a2_6 a2_7 a2_8 a2_9 a2_10 0) (optE (a1[Int.toNat 0]?) (fun e1 => ld_i e1 0 (fun v2 => bx (!(decide (v2 < 0))) (bx (decide (v2 ≥ ((List.length a0_10 : Nat) : Int))) (k (⟨#[]⟩) (⟨#[]⟩) 0 0 [] (⟨#[]⟩) 0 0 (⟨#[]⟩) (⟨#[]⟩) [] 2) (bx (decide (0 ≤ v2)) (optE (a0_10[Int.toNat v2]?) (fun e3 => ld_ssiil2siissl11 e3 0 (fun v4 v5 v6 v7 v8 v9 v10 v11 v12 v13 v14 => bx ((true && decide (0 ≤ ((List.length a1 : Nat) : Int)) && decide (((List.length a1 : Nat) : Int) ≤ ((List.length a1 : Nat) : Int)) && decide (0 ≤ 1) && decide (1 ≤ ((List.length a1 : Nat) : Int)))) (f0 v4 v5 v6 v7 v8 v9 v10 v11 v12 v13 v14 (List.drop (Int.toNat 1) (List.take (Int.toNat ((List.length a1 : Nat) : Int)) a1)) a2_0 a2_1 a2_2 a2_3 a2_4 a2_5 a2_6 a2_7 a2_8 a2_9 a2_10 (fun r15 r16 r17 r18 r19 r20 r21 r22 r23 r24 r25 r26 => bx (r26 != 0) (k (⟨#[]⟩) (⟨#[]⟩) 0 0 [] (⟨#[]⟩) 0 0 (⟨#[]⟩) (⟨#[]⟩) [] r26) (bx (Nat.beq (List.length a0_10) 0) (bx ((decide (0 ≤ v2) && decide (v2 < 0))) (bx ((true && Nat.ble (0 + Int.toNat v2 * 11 + 11) (List.length ([] : List DV)) && true)) (bx (Nat.ble (0 + 0 * 11) (List.length (List.take (0 + Int.toNat v2 * 11) ([] : List DV) ++ [.val (.string r15), .val (.string r16), .val (.int .i64 r17), .val (.int .i64 r18), .lst 2 r19, .val (.string r20), .val (.int .i64 r21), .val (.int .i64 r22), .val (.string r23), .val (.string r24), .lst 11 r25] ++ List.drop (0 + Int.toNat v2 * 11 + 11) ([] : List DV)))) (k a0_0 a0_1 a0_2 a0_3 a0_4 a0_5 a0_6 a0_7 a0_8 a0_9 (chunks 11 0 (List.drop 0 (List.take (0 + Int.toNat v2 * 11) ([] : List DV) ++ [.val (.string r15), .val (.string r16), .val (.int .i64 r17), .val (.int .i64 r18), .lst 2 r19, .val (.string r20), .val (.int .i64 r21), .val (.int .i64 r22), .val (.string r23), .val (.string r24), .lst 11 r25] ++ List.drop (0 + Int.toNat v2 * 11 + 11) ([] : List DV)))) 0) none) none) none) (bx (List.all (List.flatten a0_10) oneCellD) (bx ((true && true && Nat.ble (0 * 11) (List.length ([] : List DV)) && Nat.ble (0 + List.length a0_10) maxLen && Nat.ble ((0 + List.length a0_10) * 160) 140737488355328)) (bx ((decide (0 ≤ v2) && decide (v2 < (((0 + List.length a0_10) : Nat) : Int)))) (bx ((true && Nat.ble (0 + Int.toNat v2 * 11 + 11) (List.length (List.take (0 * 11) ([] : List DV) ++ (List.flatten a0_10))) && true)) (bx (Nat.ble (0 + (0 + List.length a0_10) * 11) (List.length (List.take (0 + Int.toNat v2 * 11) (List.take (0 * 11) ([] : List DV) ++ (List.flatten a0_10)) ++ [.val (.string r15), .val (.string r16), .val (.int .i64 r17), .val (.int .i64 r18), .lst 2 r19, .val (.string r20), .val (.int .i64 r21), .val (.int .i64 r22), .val (.string r23), .val (.string r24), .lst 11 r25] ++ List.drop (0 + Int.toNat v2 * 11 + 11) (List.take (0 * 11) ([] : List DV) ++ (List.flatten a0_10))))) (k a0_0 a0_1 a0_2 a0_3 a0_4 a0_5 a0_6 a0_7 a0_8 a0_9 (chunks 11 (0 + List.length a0_10) (List.drop 0 (List.take (0 + Int.toNat v2 * 11) (List.take (0 * 11) ([] : List DV) ++ (List.flatten a0_10)) ++ [.val (.string r15), .val (.string r16), .val (.int .i64 r17), .val (.int .i64 r18), .lst 2 r19, .val (.string r20), .val (.int .i64 r21), .val (.int .i64 r22), .val (.string r23), .val (.string r24), .lst 11 r25] ++ List.drop (0 + Int.toNat v2 * 11 + 11) (List.take (0 * 11) ([] : List DV) ++ (List.flatten a0_10))))) 0) none) none) none) none) none)))) none))) none)) (k (⟨#[]⟩) (⟨#[]⟩) 0 0 [] (⟨#[]⟩) 0 0 (⟨#[]⟩) (⟨#[]⟩) [] 2))))

noncomputable def KK_serinetteref05_Put (f0 : ByteArray → ByteArray → Int → Int → List (List DV) → ByteArray → Int → Int → ByteArray → ByteArray → List (List DV) → List (List DV) → ByteArray → ByteArray → Int → Int → List (List DV) → ByteArray → Int → Int → ByteArray → ByteArray → List (List DV) → (ByteArray → ByteArray → Int → Int → List (List DV) → ByteArray → Int → Int → ByteArray → ByteArray → List (List DV) → Int → Option DV) → Option DV) (ds : List DV) (k : DV → Option DV) : Option DV :=
  match ds with
  | [.agg [.val (.string a0_0), .val (.string a0_1), .val (.int .i64 a0_2), .val (.int .i64 a0_3), .lst 2 a0_4, .val (.string a0_5), .val (.int .i64 a0_6), .val (.int .i64 a0_7), .val (.string a0_8), .val (.string a0_9), .lst 11 a0_10], .lst 1 a1, .agg [.val (.string a2_0), .val (.string a2_1), .val (.int .i64 a2_2), .val (.int .i64 a2_3), .lst 2 a2_4, .val (.string a2_5), .val (.int .i64 a2_6), .val (.int .i64 a2_7), .val (.string a2_8), .val (.string a2_9), .lst 11 a2_10]] => f0 a0_0 a0_1 a0_2 a0_3 a0_4 a0_5 a0_6 a0_7 a0_8 a0_9 a0_10 a1 a2_0 a2_1 a2_2 a2_3 a2_4 a2_5 a2_6 a2_7 a2_8 a2_9 a2_10 (fun r0_0 r0_1 r0_2 r0_3 r0_4 r0_5 r0_6 r0_7 r0_8 r0_9 r0_10 r1_0 => k (.tup [.agg [.val (.string r0_0), .val (.string r0_1), .val (.int .i64 r0_2), .val (.int .i64 r0_3), .lst 2 r0_4, .val (.string r0_5), .val (.int .i64 r0_6), .val (.int .i64 r0_7), .val (.string r0_8), .val (.string r0_9), .lst 11 r0_10], .val (.int .i64 r1_0)]))
  | _ => none

noncomputable def G_serinetteref05_Put (N : Nat) : Nat → (ByteArray → ByteArray → Int → Int → List (List DV) → ByteArray → Int → Int → ByteArray → ByteArray → List (List DV) → List (List DV) → ByteArray → ByteArray → Int → Int → List (List DV) → ByteArray → Int → Int → ByteArray → ByteArray → List (List DV) → (ByteArray → ByteArray → Int → Int → List (List DV) → ByteArray → Int → Int → ByteArray → ByteArray → List (List DV) → Int → Option DV) → Option DV)
  | 0 => (fun _ _ _ _ _ _ _ _ _ _ _ _ _ _ _ _ _ _ _ _ _ _ _ _ => none)
  | n + 1 => (fun a0_0 a0_1 a0_2 a0_3 a0_4 a0_5 a0_6 a0_7 a0_8 a0_9 a0_10 a1 a2_0 a2_1 a2_2 a2_3 a2_4 a2_5 a2_6 a2_7 a2_8 a2_9 a2_10 k => B_serinetteref05_Put (G_serinetteref05_Put N n) a0_0 a0_1 a0_2 a0_3 a0_4 a0_5 a0_6 a0_7 a0_8 a0_9 a0_10 a1 a2_0 a2_1 a2_2 a2_3 a2_4 a2_5 a2_6 a2_7 a2_8 a2_9 a2_10 k)

noncomputable def serinetteref05_Put_n (N n : Nat) : ByteArray → ByteArray → Int → Int → List (List DV) → ByteArray → Int → Int → ByteArray → ByteArray → List (List DV) → List (List DV) → ByteArray → ByteArray → Int → Int → List (List DV) → ByteArray → Int → Int → ByteArray → ByteArray → List (List DV) → (ByteArray → ByteArray → Int → Int → List (List DV) → ByteArray → Int → Int → ByteArray → ByteArray → List (List DV) → Int → Option DV) → Option DV := (G_serinetteref05_Put N n)
noncomputable def serinetteref05_Put (N : Nat) : ByteArray → ByteArray → Int → Int → List (List DV) → ByteArray → Int → Int → ByteArray → ByteArray → List (List DV) → List (List DV) → ByteArray → ByteArray → Int → Int → List (List DV) → ByteArray → Int → Int → ByteArray → ByteArray → List (List DV) → (ByteArray → ByteArray → Int → Int → List (List DV) → ByteArray → Int → Int → ByteArray → ByteArray → List (List DV) → Int → Option DV) → Option DV := serinetteref05_Put_n N N

theorem r_serinetteref05_Put (f0 : ByteArray → ByteArray → Int → Int → List (List DV) → ByteArray → Int → Int → ByteArray → ByteArray → List (List DV) → List (List DV) → ByteArray → ByteArray → Int → Int → List (List DV) → ByteArray → Int → Int → ByteArray → ByteArray → List (List DV) → (ByteArray → ByteArray → Int → Int → List (List DV) → ByteArray → Int → Int → ByteArray → ByteArray → List (List DV) → Int → Option DV) → Option DV) (a0_0 a0_1 : ByteArray) (a0_2 a0_3 : Int) (a0_4 : List (List DV)) (a0_5 : ByteArray) (a0_6 a0_7 : Int) (a0_8 a0_9 : ByteArray) (a0_10 : List (List DV)) (a1 : List (List DV)) (a2_0 a2_1 : ByteArray) (a2_2 a2_3 : Int) (a2_4 : List (List DV)) (a2_5 : ByteArray) (a2_6 a2_7 : Int) (a2_8 a2_9 : ByteArray) (a2_10 : List (List DV)) (k : DV → Option DV) : B_serinetteref05_Put f0 a0_0 a0_1 a0_2 a0_3 a0_4 a0_5 a0_6 a0_7 a0_8 a0_9 a0_10 a1 a2_0 a2_1 a2_2 a2_3 a2_4 a2_5 a2_6 a2_7 a2_8 a2_9 a2_10 (fun r0_0 r0_1 r0_2 r0_3 r0_4 r0_5 r0_6 r0_7 r0_8 r0_9 r0_10 r1_0 => k (.tup [.agg [.val (.string r0_0), .val (.string r0_1), .val (.int .i64 r0_2), .val (.int .i64 r0_3), .lst 2 r0_4, .val (.string r0_5), .val (.int .i64 r0_6), .val (.int .i64 r0_7), .val (.string r0_8), .val (.string r0_9), .lst 11 r0_10], .val (.int .i64 r1_0)])) = pevL Try.prog (tab [(9, (KK_serinetteref05_Put f0))] []) noL [] 64 Try.f9 (bodyOf Try.f9) [.agg [.val (.string a0_0), .val (.string a0_1), .val (.int .i64 a0_2), .val (.int .i64 a0_3), .lst 2 a0_4, .val (.string a0_5), .val (.int .i64 a0_6), .val (.int .i64 a0_7), .val (.string a0_8), .val (.string a0_9), .lst 11 a0_10], .lst 1 a1, .agg [.val (.string a2_0), .val (.string a2_1), .val (.int .i64 a2_2), .val (.int .i64 a2_3), .lst 2 a2_4, .val (.string a2_5), .val (.int .i64 a2_6), .val (.int .i64 a2_7), .val (.string a2_8), .val (.string a2_9), .lst 11 a2_10]] k := by kernel_rfl

theorem m_G_serinetteref05_Put (N : Nat) : ∀ n, Meets Try.prog Inv 9 (KK_serinetteref05_Put (serinetteref05_Put_n N n))
  | 0 => meets_none (by intro ds k; unfold KK_serinetteref05_Put; split <;> rfl)
  | n + 1 => by
    have ih := m_G_serinetteref05_Put N n
    exact meets_of_pevL mixed stab (kgood stab (tab_cons (ih) (tab_nil _ _)) (tabH_nil _ _)) Try.func9 (by kernel_rfl) (by kernel_rfl) (by
    intro ds; unfold KK_serinetteref05_Put; split
    · exact .inr ⟨noL, [], 64, LGood.none _ _ _, fun k => r_serinetteref05_Put (serinetteref05_Put_n N n) _ _ _ _ _ _ _ _ _ _ _ _ _ _ _ _ _ _ _ _ _ _ _ k⟩
    · exact .inl (fun _ => rfl))

theorem m_serinetteref05_Put (N : Nat) : Meets Try.prog Inv 9 (KK_serinetteref05_Put (serinetteref05_Put N)) := (m_G_serinetteref05_Put N N)

end Go.Proofs.Ytdfhakhapblhgaa
