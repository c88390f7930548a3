/-
  Diagrams, read as plain functions.
-/
import Derived.Test.YtofmclaoihaenaaRj
set_option linter.all false
namespace Go.Proofs.Ytofmclaoihaenaa
open Go.Pv Go.RowKit
set_option maxRecDepth 100000
noncomputable def B_block_Same (f0 : List (List DV) → List (List DV) → KB → Option DV) (f1 : List (List DV) → List (List DV) → KB → Option DV) (a0_0 a0_1 : ByteArray) (a0_2 a0_3 : Int) (a0_4 : List (List DV)) (a0_5 : ByteArray) (a0_6 a0_7 : Int) (a0_8 a0_9 : ByteArray) (a0_10 : List (List DV)) (a1_0 a1_1 : ByteArray) (a1_2 a1_3 : Int) (a1_4 : List (List DV)) (a1_5 : ByteArray) (a1_6 a1_7 : Int) (a1_8 a1_9 : ByteArray) (a1_10 : List (List DV)) (k : KB) : Option DV :=
  bx ((ByteArray.toList a0_0 == ByteArray.toList a1_0)) (bx ((ByteArray.toList a0_1 == ByteArray.toList a1_1)) (bx (a0_2 == a1_2) (bx (a0_3 == a1_3) (bx (((ByteArray.toList a0_5 == ByteArray.toList a1_5) && ((a0_6 == a1_6) && ((a0_7 == a1_7) && ((ByteArray.toList a0_8 == ByteArray.toList a1_8) && ((ByteArray.toList a0_9 == ByteArray.toList a1_9) && true)))))) (f1 a0_4 a1_4 (fun r1 => bx (r1) (f0 a0_10 a1_10 (fun r2 => k r2)) (k false))) (k false)) (k false)) (k false)) (k false)) (k false)

inductive X_slices_EqualFunc_serinette_api_Block_block_Same_l4 where
  | h0 (x0 : List (List DV)) (x1 : List (List DV)) (x2 : Int) (x3 : Int)
def φ_slices_EqualFunc_serinette_api_Block_block_Same_l4 : X_slices_EqualFunc_serinette_api_Block_block_Same_l4 → Nat
  | .h0 x0 x1 x2 x3 => Int.toNat (x2 - x3) + 1
noncomputable def S_slices_EqualFunc_serinette_api_Block_block_Same_l4 : X_slices_EqualFunc_serinette_api_Block_block_Same_l4 → St
  | .h0 x0 x1 x2 x3 => ⟨mkT [(1, .dv (.lst 11 x0)), (2, .dv (.val (.func (.func 22) ⟨[]⟩ ⟨[]⟩))), (15, .dv (.lst 11 x1)), (16, .dv (.val (.int .i64 x2))), (17, .dv (.val (.int .i64 x3)))] (.leaf .dead), 32, []⟩

noncomputable def oc_slices_EqualFunc_serinette_api_Block_block_Same_l4 (k : KC) : KB × (Option DV) := (fun y0 => k .ret ⟨mkT [(6, .dv (.val (.bool y0)))] (.leaf .dead), 32, []⟩, k (.exit 0) ⟨mkT [(6, .dead)] (.leaf .dead), 32, []⟩)

noncomputable def B_slices_EqualFunc_serinette_api_Block_block_Same_l4_h0 (f0 : ByteArray → ByteArray → Int → Int → List (List DV) → ByteArray → Int → Int → ByteArray → ByteArray → List (List DV) → ByteArray → ByteArray → Int → Int → List (List DV) → ByteArray → Int → Int → ByteArray → ByteArray → List (List DV) → KB → Option DV) (x0 : List (List DV)) (x1 : List (List DV)) (x2 : Int) (x3 : Int) (κn : X_slices_EqualFunc_serinette_api_Block_block_Same_l4 → Option DV) (κ0 : KB) (κ1 : Option DV) : Option DV :=
  bx (decide (x3 < x2)) (bx (decide (0 ≤ x3)) (optE (x1[Int.toNat x3]?) (fun e1 => ld_ssiil2siissl11 e1 0 (fun v2 v3 v4 v5 v6 v7 v8 v9 v10 v11 v12 => bx (decide (0 ≤ x3)) (optE (x0[Int.toNat x3]?) (fun e13 => ld_ssiil2siissl11 e13 0 (fun v14 v15 v16 v17 v18 v19 v20 v21 v22 v23 v24 => f0 v2 v3 v4 v5 v6 v7 v8 v9 v10 v11 v12 v14 v15 v16 v17 v18 v19 v20 v21 v22 v23 v24 (fun r25 => bx (!r25) (κ0 false) (κn (X_slices_EqualFunc_serinette_api_Block_block_Same_l4.h0 x0 x1 x2 (IntKind.wrap .i64 (x3 + 1)))))))) none))) none) κ1

noncomputable def F_slices_EqualFunc_serinette_api_Block_block_Same_l4 (f0 : ByteArray → ByteArray → Int → Int → List (List DV) → ByteArray → Int → Int → ByteArray → ByteArray → List (List DV) → ByteArray → ByteArray → Int → Int → List (List DV) → ByteArray → Int → Int → ByteArray → ByteArray → List (List DV) → KB → Option DV) : X_slices_EqualFunc_serinette_api_Block_block_Same_l4 → (X_slices_EqualFunc_serinette_api_Block_block_Same_l4 → Option DV) → (KB × (Option DV)) → Option DV
  | .h0 x0 x1 x2 x3, κn, κ => B_slices_EqualFunc_serinette_api_Block_block_Same_l4_h0 f0 x0 x1 x2 x3 κn κ.1 κ.2

noncomputable def dec_slices_EqualFunc_serinette_api_Block_block_Same_l4 (s : St) : Option X_slices_EqualFunc_serinette_api_Block_block_Same_l4 :=
  bindO (xN s.n 32) fun u => bindO (xD (s.tmps.get 1)) fun d1 => bindO (xL 11 d1) fun x0 => bindO (xD (s.tmps.get 2)) fun d3 => bindO (xF 22 d3) fun u4 => bindO (xD (s.tmps.get 15)) fun d5 => bindO (xL 11 d5) fun x1 => bindO (xD (s.tmps.get 16)) fun d7 => bindO (xI .i64 d7) fun x2 => bindO (xD (s.tmps.get 17)) fun d9 => bindO (xI .i64 d9) fun x3 => bindO (xEnd s.heap) fun u11 => some (.h0 x0 x1 x2 x3)

noncomputable def R_slices_EqualFunc_serinette_api_Block_block_Same_l4 (f0 : ByteArray → ByteArray → Int → Int → List (List DV) → ByteArray → Int → Int → ByteArray → ByteArray → List (List DV) → ByteArray → ByteArray → Int → Int → List (List DV) → ByteArray → Int → Int → ByteArray → ByteArray → List (List DV) → KB → Option DV) : St → KC → Option DV := decR dec_slices_EqualFunc_serinette_api_Block_block_Same_l4 (F_slices_EqualFunc_serinette_api_Block_block_Same_l4 f0) φ_slices_EqualFunc_serinette_api_Block_block_Same_l4 oc_slices_EqualFunc_serinette_api_Block_block_Same_l4

theorem d_slices_EqualFunc_serinette_api_Block_block_Same_l4 : ∀ s x, dec_slices_EqualFunc_serinette_api_Block_block_Same_l4 s = some x → SLe s (S_slices_EqualFunc_serinette_api_Block_block_Same_l4 x) := by
  intro s x h
  unfold dec_slices_EqualFunc_serinette_api_Block_block_Same_l4 at h
  · obtain ⟨u, en, h⟩ := bindO_some h
    obtain ⟨d1, e1, h⟩ := bindO_some h
    obtain ⟨x0, e2, h⟩ := bindO_some h
    obtain ⟨d3, e3, h⟩ := bindO_some h
    obtain ⟨u4, e4, h⟩ := bindO_some h
    obtain ⟨d5, e5, h⟩ := bindO_some h
    obtain ⟨x1, e6, h⟩ := bindO_some h
    obtain ⟨d7, e7, h⟩ := bindO_some h
    obtain ⟨x2, e8, h⟩ := bindO_some h
    obtain ⟨d9, e9, h⟩ := bindO_some h
    obtain ⟨x3, e10, h⟩ := bindO_some h
    obtain ⟨u11, e11, h⟩ := bindO_some h
    cases h
    exact ⟨le_mkT _ _ (Le.dead _) ⟨.inr ((xD_eq e1).trans (congrArg VV.dv (xL_eq e2))), .inr ((xD_eq e3).trans (congrArg VV.dv (xF_eq e4))), .inr ((xD_eq e5).trans (congrArg VV.dv (xL_eq e6))), .inr ((xD_eq e7).trans (congrArg VV.dv (xI_eq e8))), .inr ((xD_eq e9).trans (congrArg VV.dv (xI_eq e10))), trivial⟩, (xN_eq en).symm, by rw [xEnd_eq e11]; rfl⟩
noncomputable def B_slices_EqualFunc_serinette_api_Block_block_Same (f0 : ByteArray → ByteArray → Int → Int → List (List DV) → ByteArray → Int → Int → ByteArray → ByteArray → List (List DV) → ByteArray → ByteArray → Int → Int → List (List DV) → ByteArray → Int → Int → ByteArray → ByteArray → List (List DV) → KB → Option DV) (a0 : List (List DV)) (a1 : List (List DV)) (k : KB) : Option DV :=
  bx (((List.length a0 : Nat) : Int) != ((List.length a1 : Nat) : Int)) (k false) (LF (F_slices_EqualFunc_serinette_api_Block_block_Same_l4 f0) (φ_slices_EqualFunc_serinette_api_Block_block_Same_l4 (X_slices_EqualFunc_serinette_api_Block_block_Same_l4.h0 a1 a0 ((List.length a0 : Nat) : Int) 0)) (X_slices_EqualFunc_serinette_api_Block_block_Same_l4.h0 a1 a0 ((List.length a0 : Nat) : Int) 0) ((fun z26_0 => k z26_0), (k true)))

noncomputable def KK_block_Same (f0 : ByteArray → ByteArray → Int → Int → List (List DV) → ByteArray → Int → Int → ByteArray → ByteArray → List (List DV) → ByteArray → ByteArray → Int → Int → List (List DV) → ByteArray → Int → Int → ByteArray → ByteArray → List (List DV) → KB → Option DV) (ds : List DV) (k : DV → Option DV) : Option DV :=
  match ds with
  | [.agg [.val (.string a0_0), .val (.string a0_1), .val (.int .i64 a0_2), .val (.int .i64 a0_3), .lst 2 a0_4, .val (.string a0_5), .val (.int .i64 a0_6), .val (.int .i64 a0_7), .val (.string a0_8), .val (.string a0_9), .lst 11 a0_10], .agg [.val (.string a1_0), .val (.string a1_1), .val (.int .i64 a1_2), .val (.int .i64 a1_3), .lst 2 a1_4, .val (.string a1_5), .val (.int .i64 a1_6), .val (.int .i64 a1_7), .val (.string a1_8), .val (.string a1_9), .lst 11 a1_10]] => f0 a0_0 a0_1 a0_2 a0_3 a0_4 a0_5 a0_6 a0_7 a0_8 a0_9 a0_10 a1_0 a1_1 a1_2 a1_3 a1_4 a1_5 a1_6 a1_7 a1_8 a1_9 a1_10 (fun r0_0 => k (.val (.bool r0_0)))
  | _ => none

noncomputable def KK_slices_EqualFunc_serinette_api_Block (f0 : List (List DV) → List (List DV) → KB → Option DV) (ds : List DV) (k : DV → Option DV) : Option DV :=
  match ds with
  | [.lst 11 a0, .lst 11 a1, .val (.func (.func 22) ⟨[]⟩ ⟨[]⟩)] => f0 a0 a1 (fun r0_0 => k (.val (.bool r0_0)))
  | _ => none

noncomputable def G_block_Same (N : Nat) : Nat → (ByteArray → ByteArray → Int → Int → List (List DV) → ByteArray → Int → Int → ByteArray → ByteArray → List (List DV) → ByteArray → ByteArray → Int → Int → List (List DV) → ByteArray → Int → Int → ByteArray → ByteArray → List (List DV) → KB → Option DV) × (List (List DV) → List (List DV) → KB → Option DV)
  | 0 => (fun _ _ _ _ _ _ _ _ _ _ _ _ _ _ _ _ _ _ _ _ _ _ _ => none, fun _ _ _ => none)
  | n + 1 => (fun a0_0 a0_1 a0_2 a0_3 a0_4 a0_5 a0_6 a0_7 a0_8 a0_9 a0_10 a1_0 a1_1 a1_2 a1_3 a1_4 a1_5 a1_6 a1_7 a1_8 a1_9 a1_10 k => B_block_Same (G_block_Same N n).2 slices_EqualFunc_serinette_api_Q_block_isSameNumber a0_0 a0_1 a0_2 a0_3 a0_4 a0_5 a0_6 a0_7 a0_8 a0_9 a0_10 a1_0 a1_1 a1_2 a1_3 a1_4 a1_5 a1_6 a1_7 a1_8 a1_9 a1_10 k, fun a0 a1 k => B_slices_EqualFunc_serinette_api_Block_block_Same (G_block_Same N n).1 a0 a1 k)

noncomputable def block_Same_n (N n : Nat) : ByteArray → ByteArray → Int → Int → List (List DV) → ByteArray → Int → Int → ByteArray → ByteArray → List (List DV) → ByteArray → ByteArray → Int → Int → List (List DV) → ByteArray → Int → Int → ByteArray → ByteArray → List (List DV) → KB → Option DV := (G_block_Same N n).1
noncomputable def block_Same (N : Nat) : ByteArray → ByteArray → Int → Int → List (List DV) → ByteArray → Int → Int → ByteArray → ByteArray → List (List DV) → ByteArray → ByteArray → Int → Int → List (List DV) → ByteArray → Int → Int → ByteArray → ByteArray → List (List DV) → KB → Option DV := block_Same_n N N

noncomputable def slices_EqualFunc_serinette_api_Block_block_Same_n (N n : Nat) : List (List DV) → List (List DV) → KB → Option DV := (G_block_Same N n).2
noncomputable def slices_EqualFunc_serinette_api_Block_block_Same (N : Nat) : List (List DV) → List (List DV) → KB → Option DV := slices_EqualFunc_serinette_api_Block_block_Same_n N N

theorem r_block_Same (f0 : List (List DV) → List (List DV) → KB → Option DV) (f1 : List (List DV) → List (List DV) → KB → Option DV) (a0_0 a0_1 : ByteArray) (a0_2 a0_3 : Int) (a0_4 : List (List DV)) (a0_5 : ByteArray) (a0_6 a0_7 : Int) (a0_8 a0_9 : ByteArray) (a0_10 : List (List DV)) (a1_0 a1_1 : ByteArray) (a1_2 a1_3 : Int) (a1_4 : List (List DV)) (a1_5 : ByteArray) (a1_6 a1_7 : Int) (a1_8 a1_9 : ByteArray) (a1_10 : List (List DV)) (k : DV → Option DV) : B_block_Same f0 f1 a0_0 a0_1 a0_2 a0_3 a0_4 a0_5 a0_6 a0_7 a0_8 a0_9 a0_10 a1_0 a1_1 a1_2 a1_3 a1_4 a1_5 a1_6 a1_7 a1_8 a1_9 a1_10 (fun r0_0 => k (.val (.bool r0_0))) = pevL Try.prog (tab [(35, (KK_slices_EqualFunc_serinette_api_Q f1)), (37, (KK_slices_EqualFunc_serinette_api_Block f0))] []) noL [] 64 Try.f22 (bodyOf Try.f22) [.agg [.val (.string a0_0), .val (.string a0_1), .val (.int .i64 a0_2), .val (.int .i64 a0_3), .lst 2 a0_4, .val (.string a0_5), .val (.int .i64 a0_6), .val (.int .i64 a0_7), .val (.string a0_8), .val (.string a0_9), .lst 11 a0_10], .agg [.val (.string a1_0), .val (.string a1_1), .val (.int .i64 a1_2), .val (.int .i64 a1_3), .lst 2 a1_4, .val (.string a1_5), .val (.int .i64 a1_6), .val (.int .i64 a1_7), .val (.string a1_8), .val (.string a1_9), .lst 11 a1_10]] k := by kernel_rfl

theorem q_slices_EqualFunc_serinette_api_Block_block_Same_l4_h0 (f0 : ByteArray → ByteArray → Int → Int → List (List DV) → ByteArray → Int → Int → ByteArray → ByteArray → List (List DV) → ByteArray → ByteArray → Int → Int → List (List DV) → ByteArray → Int → Int → ByteArray → ByteArray → List (List DV) → KB → Option DV) (x0 : List (List DV)) (x1 : List (List DV)) (x2 : Int) (x3 : Int) (κn : St → Option DV) (κ : KC) : pev Try.prog (tab [(22, (KK_block_Same f0))] []) (ltab [(4, R_slices_EqualFunc_serinette_api_Block_block_Same_l4 f0)]) [(0, [0]), (0, []), (4, [1, 2, 15, 16, 17]), (100004, [6])] 64 (loopB (bodyOf Try.f37) 0) (S_slices_EqualFunc_serinette_api_Block_block_Same_l4 (.h0 x0 x1 x2 x3)) (contL 0 [1, 2, 15, 16, 17] [6] κn κ) = F_slices_EqualFunc_serinette_api_Block_block_Same_l4 f0 (.h0 x0 x1 x2 x3) (fun x => κn (S_slices_EqualFunc_serinette_api_Block_block_Same_l4 x)) (oc_slices_EqualFunc_serinette_api_Block_block_Same_l4 κ) := by kernel_rfl

theorem g_slices_EqualFunc_serinette_api_Block_block_Same_l4 (f0 : ByteArray → ByteArray → Int → Int → List (List DV) → ByteArray → Int → Int → ByteArray → ByteArray → List (List DV) → ByteArray → ByteArray → Int → Int → List (List DV) → ByteArray → Int → Int → ByteArray → ByteArray → List (List DV) → KB → Option DV) (HK : KGood Try.prog Inv (tab [(22, (KK_block_Same f0))] [])) : RGood 0 Try.prog Inv (loopB (bodyOf Try.f37) 0) (R_slices_EqualFunc_serinette_api_Block_block_Same_l4 f0) :=
  have hL : LGood 0 Try.prog Inv (ltab [(4, R_slices_EqualFunc_serinette_api_Block_block_Same_l4 f0)]) (loopB (bodyOf Try.f37) 0) := (lgood_of (bs := []) (by kernel_rfl) lgood_nil)
  rgood_dec (body := fun s k => pev Try.prog (tab [(22, (KK_block_Same f0))] []) (ltab [(4, R_slices_EqualFunc_serinette_api_Block_block_Same_l4 f0)]) [(0, [0]), (0, []), (4, [1, 2, 15, 16, 17]), (100004, [6])] 64 (loopB (bodyOf Try.f37) 0) s k) (live := [1, 2, 15, 16, 17]) (out := [6]) (S := S_slices_EqualFunc_serinette_api_Block_block_Same_l4) (pev_ok mixed HK (ltab [(4, R_slices_EqualFunc_serinette_api_Block_block_Same_l4 f0)]) [(0, [0]), (0, []), (4, [1, 2, 15, 16, 17]), (100004, [6])] 64 _ hL) (pev_nat HK (ltab [(4, R_slices_EqualFunc_serinette_api_Block_block_Same_l4 f0)]) [(0, [0]), (0, []), (4, [1, 2, 15, 16, 17]), (100004, [6])] 64 _ hL)
    (fun x κn κ => match x with
      | .h0 _ _ _ _ => q_slices_EqualFunc_serinette_api_Block_block_Same_l4_h0 f0 _ _ _ _ κn κ
    ) d_slices_EqualFunc_serinette_api_Block_block_Same_l4 φ_slices_EqualFunc_serinette_api_Block_block_Same_l4

theorem r_slices_EqualFunc_serinette_api_Block_block_Same (f0 : ByteArray → ByteArray → Int → Int → List (List DV) → ByteArray → Int → Int → ByteArray → ByteArray → List (List DV) → ByteArray → ByteArray → Int → Int → List (List DV) → ByteArray → Int → Int → ByteArray → ByteArray → List (List DV) → KB → Option DV) (a0 : List (List DV)) (a1 : List (List DV)) (k : DV → Option DV) : B_slices_EqualFunc_serinette_api_Block_block_Same f0 a0 a1 (fun r0_0 => k (.val (.bool r0_0))) = pevL Try.prog (tab [(22, (KK_block_Same f0))] []) (ltab [(4, R_slices_EqualFunc_serinette_api_Block_block_Same_l4 f0)]) [(0, [0]), (0, []), (4, [1, 2, 15, 16, 17]), (100004, [6])] 64 Try.f37 (bodyOf Try.f37) [.lst 11 a0, .lst 11 a1, .val (.func (.func 22) ⟨[]⟩ ⟨[]⟩)] k := by kernel_rfl

theorem m_G_block_Same (N : Nat) : ∀ n, Meets Try.prog Inv 22 (KK_block_Same (block_Same_n N n)) ∧ Meets Try.prog Inv 37 (KK_slices_EqualFunc_serinette_api_Block (slices_EqualFunc_serinette_api_Block_block_Same_n N n))
  | 0 => ⟨meets_none (by intro ds k; unfold KK_block_Same; split <;> rfl), meets_none (by intro ds k; unfold KK_slices_EqualFunc_serinette_api_Block; split <;> rfl)⟩
  | n + 1 => by
    have ih := m_G_block_Same N n
    exact ⟨meets_of_pevL mixed stab (kgood stab (tab_cons m_slices_EqualFunc_serinette_api_Q (tab_cons (ih.2) (tab_nil _ _))) (tabH_nil _ _)) Try.func22 (by kernel_rfl) (by kernel_rfl) (by
    intro ds; unfold KK_block_Same; split
    · exact .inr ⟨noL, [], 64, LGood.none _ _ _, fun k => r_block_Same (slices_EqualFunc_serinette_api_Block_block_Same_n N n) slices_EqualFunc_serinette_api_Q_block_isSameNumber _ _ _ _ _ _ _ _ _ _ _ _ _ _ _ _ _ _ _ _ _ _ k⟩
    · exact .inl (fun _ => rfl)),
    meets_of_pevL mixed stab (kgood stab (tab_cons (ih.1) (tab_nil _ _)) (tabH_nil _ _)) Try.func37 (by kernel_rfl) (by kernel_rfl) (by
    intro ds; unfold KK_slices_EqualFunc_serinette_api_Block; split
    · exact .inr ⟨(ltab [(4, R_slices_EqualFunc_serinette_api_Block_block_Same_l4 (block_Same_n N n))]), [(0, [0]), (0, []), (4, [1, 2, 15, 16, 17]), (100004, [6])], 64, lgood_of (bs := [loopB (bodyOf Try.f37) 0]) (by kernel_rfl) (lgood_cons (by kernel_rfl) (g_slices_EqualFunc_serinette_api_Block_block_Same_l4 (block_Same_n N n) (kgood stab (tab_cons (ih.1) (tab_nil _ _)) (tabH_nil _ _))) lgood_nil), fun k => r_slices_EqualFunc_serinette_api_Block_block_Same (block_Same_n N n) _ _ k⟩
    · exact .inl (fun _ => rfl))⟩

theorem m_block_Same (N : Nat) : Meets Try.prog Inv 22 (KK_block_Same (block_Same N)) := (m_G_block_Same N N).1

theorem m_slices_EqualFunc_serinette_api_Block (N : Nat) : Meets Try.prog Inv 37 (KK_slices_EqualFunc_serinette_api_Block (slices_EqualFunc_serinette_api_Block_block_Same N)) := (m_G_block_Same N N).2

end Go.Proofs.Ytofmclaoihaenaa
