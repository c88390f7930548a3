/-
  Diagrams, read as plain functions.
-/
import Derived.Test.YtdfhakhapblhgaaRh
import Derived.Test.YtdfhakhapblhgaaAp
set_option linter.all false
namespace Go.Proofs.Ytdfhakhapblhgaa
open Go.Pv Go.RowKit
set_option maxRecDepth 100000
inductive X_serinetteref01_Divisor_l5 where
  | h0 (x0 : Int) (x1 : Int)
def φ_serinetteref01_Divisor_l5 : X_serinetteref01_Divisor_l5 → Nat
  | .h0 x0 x1 => 200
noncomputable def S_serinetteref01_Divisor_l5 : X_serinetteref01_Divisor_l5 → St
  | .h0 x0 x1 => ⟨mkT [(0, .dv (.val (.int .i64 x0))), (1, .dv (.val (.int .i64 x1)))] (.leaf .dead), 22, []⟩

noncomputable def oc_serinetteref01_Divisor_l5 (k : KC) : KI := (fun y0 => k (.exit 0) ⟨mkT [(0, .dv (.val (.int .i64 y0)))] (.leaf .dead), 22, []⟩)

noncomputable def B_serinetteref01_Divisor_l5_h0  (p5 : X_serinetteref01_Divisor_l5 → Nat) (x0 : Int) (x1 : Int) (κn : X_serinetteref01_Divisor_l5 → Option DV) (κ0 : KI) : Option DV :=
  bx (x1 != 0) (bx (x1 == 0) none (κn (X_serinetteref01_Divisor_l5.h0 x1 (Int.tmod x0 x1)))) (κ0 x0)

noncomputable def F_serinetteref01_Divisor_l5  (p5 : X_serinetteref01_Divisor_l5 → Nat) : X_serinetteref01_Divisor_l5 → (X_serinetteref01_Divisor_l5 → Option DV) → (KI) → Option DV
  | .h0 x0 x1, κn, κ => B_serinetteref01_Divisor_l5_h0  p5 x0 x1 κn κ

noncomputable def dec_serinetteref01_Divisor_l5 (s : St) : Option X_serinetteref01_Divisor_l5 :=
  bindO (xN s.n 22) fun u => bindO (xD (s.tmps.get 0)) fun d1 => bindO (xI .i64 d1) fun x0 => bindO (xD (s.tmps.get 1)) fun d3 => bindO (xI .i64 d3) fun x1 => bindO (xEnd s.heap) fun u5 => some (.h0 x0 x1)

noncomputable def R_serinetteref01_Divisor_l5  (p5 : X_serinetteref01_Divisor_l5 → Nat) : St → KC → Option DV := decR dec_serinetteref01_Divisor_l5 (F_serinetteref01_Divisor_l5  p5) p5 oc_serinetteref01_Divisor_l5

theorem d_serinetteref01_Divisor_l5 : ∀ s x, dec_serinetteref01_Divisor_l5 s = some x → SLe s (S_serinetteref01_Divisor_l5 x) := by
  intro s x h
  unfold dec_serinetteref01_Divisor_l5 at h
  · obtain ⟨u, en, h⟩ := bindO_some h
    obtain ⟨d1, e1, h⟩ := bindO_some h
    obtain ⟨x0, e2, h⟩ := bindO_some h
    obtain ⟨d3, e3, h⟩ := bindO_some h
    obtain ⟨x1, e4, h⟩ := bindO_some h
    obtain ⟨u5, e5, h⟩ := bindO_some h
    cases h
    exact ⟨le_mkT _ _ (Le.dead _) ⟨.inr ((xD_eq e1).trans (congrArg VV.dv (xI_eq e2))), .inr ((xD_eq e3).trans (congrArg VV.dv (xI_eq e4))), trivial⟩, (xN_eq en).symm, by rw [xEnd_eq e5]; rfl⟩
noncomputable def B_serinetteref01_Divisor  (p5 : X_serinetteref01_Divisor_l5 → Nat) (a0 a1 : Int) (k : KI) : Option DV :=
  bx (decide (a0 < 0)) (bx (decide (a1 < 0)) (LF (F_serinetteref01_Divisor_l5  p5) (p5 (X_serinetteref01_Divisor_l5.h0 (IntKind.wrap .i64 (0 - a0)) (IntKind.wrap .i64 (0 - a1)))) (X_serinetteref01_Divisor_l5.h0 (IntKind.wrap .i64 (0 - a0)) (IntKind.wrap .i64 (0 - a1))) ((fun z1_0 => k z1_0))) (LF (F_serinetteref01_Divisor_l5  p5) (p5 (X_serinetteref01_Divisor_l5.h0 (IntKind.wrap .i64 (0 - a0)) a1)) (X_serinetteref01_Divisor_l5.h0 (IntKind.wrap .i64 (0 - a0)) a1) ((fun z2_0 => k z2_0)))) (bx (decide (a1 < 0)) (LF (F_serinetteref01_Divisor_l5  p5) (p5 (X_serinetteref01_Divisor_l5.h0 a0 (IntKind.wrap .i64 (0 - a1)))) (X_serinetteref01_Divisor_l5.h0 a0 (IntKind.wrap .i64 (0 - a1))) ((fun z3_0 => k z3_0))) (LF (F_serinetteref01_Divisor_l5  p5) (p5 (X_serinetteref01_Divisor_l5.h0 a0 a1)) (X_serinetteref01_Divisor_l5.h0 a0 a1) ((fun z4_0 => k z4_0))))

noncomputable def KK_serinetteref01_Divisor (f0 : Int → Int → KI → Option DV) (ds : List DV) (k : DV → Option DV) : Option DV :=
  match ds with
  | [.val (.int .i64 a0), .val (.int .i64 a1)] => f0 a0 a1 (fun r0_0 => k (.val (.int .i64 r0_0)))
  | _ => none

noncomputable def serinetteref01_Divisor (a0 a1 : Int) (k : KI) : Option DV := B_serinetteref01_Divisor  φ_serinetteref01_Divisor_l5 a0 a1 k

theorem q_serinetteref01_Divisor_l5_h0  (p5 : X_serinetteref01_Divisor_l5 → Nat) (x0 : Int) (x1 : Int) (κn : St → Option DV) (κ : KC) : pev Try.prog (tab [] []) (ltab [(5, R_serinetteref01_Divisor_l5  p5)]) [(0, [0]), (0, []), (5, [0, 1]), (100005, [0])] 64 (loopB (bodyOf Try.f54) 0) (S_serinetteref01_Divisor_l5 (.h0 x0 x1)) (contL 0 [0, 1] [0] κn κ) = F_serinetteref01_Divisor_l5  p5 (.h0 x0 x1) (fun x => κn (S_serinetteref01_Divisor_l5 x)) (oc_serinetteref01_Divisor_l5 κ) := by kernel_rfl

theorem g_serinetteref01_Divisor_l5  (p5 : X_serinetteref01_Divisor_l5 → Nat) (HK : KGood Try.prog Inv (tab [] [])) : RGood 0 Try.prog Inv (loopB (bodyOf Try.f54) 0) (R_serinetteref01_Divisor_l5  p5) :=
  have hL : LGood 0 Try.prog Inv (ltab [(5, R_serinetteref01_Divisor_l5  p5)]) (loopB (bodyOf Try.f54) 0) := (lgood_of (bs := []) (by kernel_rfl) lgood_nil)
  rgood_dec (body := fun s k => pev Try.prog (tab [] []) (ltab [(5, R_serinetteref01_Divisor_l5  p5)]) [(0, [0]), (0, []), (5, [0, 1]), (100005, [0])] 64 (loopB (bodyOf Try.f54) 0) s k) (live := [0, 1]) (out := [0]) (S := S_serinetteref01_Divisor_l5) (pev_ok mixed HK (ltab [(5, R_serinetteref01_Divisor_l5  p5)]) [(0, [0]), (0, []), (5, [0, 1]), (100005, [0])] 64 _ hL) (pev_nat HK (ltab [(5, R_serinetteref01_Divisor_l5  p5)]) [(0, [0]), (0, []), (5, [0, 1]), (100005, [0])] 64 _ hL)
    (fun x κn κ => match x with
      | .h0 _ _ => q_serinetteref01_Divisor_l5_h0  p5 _ _ κn κ
    ) d_serinetteref01_Divisor_l5 p5

theorem r_serinetteref01_Divisor  (p5 : X_serinetteref01_Divisor_l5 → Nat) (a0 a1 : Int) (k : DV → Option DV) : B_serinetteref01_Divisor  p5 a0 a1 (fun r0_0 => k (.val (.int .i64 r0_0))) = pevL Try.prog (tab [] []) (ltab [(5, R_serinetteref01_Divisor_l5  p5)]) [(0, [0]), (0, []), (5, [0, 1]), (100005, [0])] 64 Try.f54 (bodyOf Try.f54) [.val (.int .i64 a0), .val (.int .i64 a1)] k := by kernel_rfl

theorem m_serinetteref01_Divisor : Meets Try.prog Inv 54 (KK_serinetteref01_Divisor serinetteref01_Divisor) :=
  meets_of_pevL mixed stab (kgood stab (tab_nil _ _) (tabH_nil _ _)) Try.func54 (by kernel_rfl) (by kernel_rfl) (by
    intro ds; unfold KK_serinetteref01_Divisor; split
    · exact .inr ⟨(ltab [(5, R_serinetteref01_Divisor_l5  φ_serinetteref01_Divisor_l5)]), [(0, [0]), (0, []), (5, [0, 1]), (100005, [0])], 64, lgood_of (bs := [loopB (bodyOf Try.f54) 0]) (by kernel_rfl) (lgood_cons (by kernel_rfl) (g_serinetteref01_Divisor_l5  φ_serinetteref01_Divisor_l5 (kgood stab (tab_nil _ _) (tabH_nil _ _))) lgood_nil), fun k => r_serinetteref01_Divisor  φ_serinetteref01_Divisor_l5 _ _ k⟩
    · exact .inl (fun _ => rfl))

noncomputable def B_serinetteref01_Is (f0 : Int → Int → KI → Option DV) (a0_0 a0_1 : Int) (k : KB) : Option DV :=
  bx (decide (a0_1 ≥ 1)) (bx (decide (a0_1 ≤ 1073741824)) (bx (decide (a0_0 ≥ (-1073741824))) (bx (decide (a0_0 ≤ 1073741824)) (f0 a0_0 a0_1 (fun r1 => k (r1 == 1))) (k false)) (k false)) (k false)) (k false)

noncomputable def KK_serinetteref01_Is (f0 : Int → Int → KB → Option DV) (ds : List DV) (k : DV → Option DV) : Option DV :=
  match ds with
  | [.val (.agg ⟨[.int .i64 a0_0, .int .i64 a0_1]⟩)] => f0 a0_0 a0_1 (fun r0_0 => k (.val (.bool r0_0)))
  | _ => none

noncomputable def serinetteref01_Is (a0_0 a0_1 : Int) (k : KB) : Option DV := B_serinetteref01_Is serinetteref01_Divisor a0_0 a0_1 k

theorem r_serinetteref01_Is (f0 : Int → Int → KI → Option DV) (a0_0 a0_1 : Int) (k : DV → Option DV) : B_serinetteref01_Is f0 a0_0 a0_1 (fun r0_0 => k (.val (.bool r0_0))) = pevL Try.prog (tab [(54, (KK_serinetteref01_Divisor f0))] []) noL [] 64 Try.f44 (bodyOf Try.f44) [.val (.agg ⟨[.int .i64 a0_0, .int .i64 a0_1]⟩)] k := by kernel_rfl

theorem m_serinetteref01_Is : Meets Try.prog Inv 44 (KK_serinetteref01_Is serinetteref01_Is) :=
  meets_of_pevL mixed stab (kgood stab (tab_cons m_serinetteref01_Divisor (tab_nil _ _)) (tabH_nil _ _)) Try.func44 (by kernel_rfl) (by kernel_rfl) (by
    intro ds; unfold KK_serinetteref01_Is; split
    · exact .inr ⟨noL, [], 64, LGood.none _ _ _, fun k => r_serinetteref01_Is serinetteref01_Divisor _ _ k⟩
    · exact .inl (fun _ => rfl))

inductive X_serinetteref05_Alike_l4 where
  | h0 (x0 : List (List DV)) (x1 : List (List DV)) (x2 : Int)
def φ_serinetteref05_Alike_l4 : X_serinetteref05_Alike_l4 → Nat
  | .h0 x0 x1 x2 => Int.toNat (((List.length x0 : Nat) : Int) - x2) + 1
noncomputable def S_serinetteref05_Alike_l4 : X_serinetteref05_Alike_l4 → St
  | .h0 x0 x1 x2 => ⟨mkT [(0, .dv (.lst 2 x0)), (1, .dv (.lst 2 x1)), (5, .dv (.val (.int .i64 x2)))] (.leaf .dead), 40, []⟩

noncomputable def oc_serinetteref05_Alike_l4 (k : KC) : KB × (Option DV) := (fun y0 => k .ret ⟨mkT [(4, .dv (.val (.bool y0)))] (.leaf .dead), 40, []⟩, k (.exit 0) ⟨mkT [(4, .dead)] (.leaf .dead), 40, []⟩)

noncomputable def B_serinetteref05_Alike_l4_h0 (f0 : Int → Int → KB → Option DV) (x0 : List (List DV)) (x1 : List (List DV)) (x2 : Int) (κn : X_serinetteref05_Alike_l4 → Option DV) (κ0 : KB) (κ1 : Option DV) : Option DV :=
  bx (decide (x2 < ((List.length x0 : Nat) : Int))) (bx (decide (0 ≤ x2)) (optE (x0[Int.toNat x2]?) (fun e1 => ld_ii e1 0 (fun v2 v3 => bx (decide (0 ≤ x2)) (optE (x1[Int.toNat x2]?) (fun e4 => ld_ii e4 0 (fun v5 v6 => bx (!(((v2 == v5) && ((v3 == v6) && true)))) (bx (decide (0 ≤ x2)) (optE (x0[Int.toNat x2]?) (fun e7 => ld_ii e7 0 (fun v8 v9 => f0 v8 v9 (fun r10 => bx (!r10) (bx (decide (0 ≤ x2)) (optE (x1[Int.toNat x2]?) (fun e11 => ld_ii e11 0 (fun v12 v13 => f0 v12 v13 (fun r14 => bx (r14) (κ0 false) (κn (X_serinetteref05_Alike_l4.h0 x0 x1 (IntKind.wrap .i64 (x2 + 1)))))))) none) (κ0 false))))) none) (κn (X_serinetteref05_Alike_l4.h0 x0 x1 (IntKind.wrap .i64 (x2 + 1))))))) none))) none) κ1

noncomputable def F_serinetteref05_Alike_l4 (f0 : Int → Int → KB → Option DV) : X_serinetteref05_Alike_l4 → (X_serinetteref05_Alike_l4 → Option DV) → (KB × (Option DV)) → Option DV
  | .h0 x0 x1 x2, κn, κ => B_serinetteref05_Alike_l4_h0 f0 x0 x1 x2 κn κ.1 κ.2

noncomputable def dec_serinetteref05_Alike_l4 (s : St) : Option X_serinetteref05_Alike_l4 :=
  bindO (xN s.n 40) fun u => bindO (xD (s.tmps.get 0)) fun d1 => bindO (xL 2 d1) fun x0 => bindO (xD (s.tmps.get 1)) fun d3 => bindO (xL 2 d3) fun x1 => bindO (xD (s.tmps.get 5)) fun d5 => bindO (xI .i64 d5) fun x2 => bindO (xEnd s.heap) fun u7 => some (.h0 x0 x1 x2)

noncomputable def R_serinetteref05_Alike_l4 (f0 : Int → Int → KB → Option DV) : St → KC → Option DV := decR dec_serinetteref05_Alike_l4 (F_serinetteref05_Alike_l4 f0) φ_serinetteref05_Alike_l4 oc_serinetteref05_Alike_l4

theorem d_serinetteref05_Alike_l4 : ∀ s x, dec_serinetteref05_Alike_l4 s = some x → SLe s (S_serinetteref05_Alike_l4 x) := by
  intro s x h
  unfold dec_serinetteref05_Alike_l4 at h
  · obtain ⟨u, en, h⟩ := bindO_some h
    obtain ⟨d1, e1, h⟩ := bindO_some h
    obtain ⟨x0, e2, h⟩ := bindO_some h
    obtain ⟨d3, e3, h⟩ := bindO_some h
    obtain ⟨x1, e4, h⟩ := bindO_some h
    obtain ⟨d5, e5, h⟩ := bindO_some h
    obtain ⟨x2, e6, h⟩ := bindO_some h
    obtain ⟨u7, e7, h⟩ := bindO_some h
    cases h
    exact ⟨le_mkT _ _ (Le.dead _) ⟨.inr ((xD_eq e1).trans (congrArg VV.dv (xL_eq e2))), .inr ((xD_eq e3).trans (congrArg VV.dv (xL_eq e4))), .inr ((xD_eq e5).trans (congrArg VV.dv (xI_eq e6))), trivial⟩, (xN_eq en).symm, by rw [xEnd_eq e7]; rfl⟩
noncomputable def B_serinetteref05_Alike (f0 : Int → Int → KB → Option DV) (a0 : List (List DV)) (a1 : List (List DV)) (k : KB) : Option DV :=
  bx (((List.length a0 : Nat) : Int) != ((List.length a1 : Nat) : Int)) (k false) (LF (F_serinetteref05_Alike_l4 f0) (φ_serinetteref05_Alike_l4 (X_serinetteref05_Alike_l4.h0 a0 a1 0)) (X_serinetteref05_Alike_l4.h0 a0 a1 0) ((fun z15_0 => k z15_0), (k true)))

noncomputable def KK_serinetteref05_Alike (f0 : List (List DV) → List (List DV) → KB → Option DV) (ds : List DV) (k : DV → Option DV) : Option DV :=
  match ds with
  | [.lst 2 a0, .lst 2 a1] => f0 a0 a1 (fun r0_0 => k (.val (.bool r0_0)))
  | _ => none

noncomputable def serinetteref05_Alike (a0 : List (List DV)) (a1 : List (List DV)) (k : KB) : Option DV := B_serinetteref05_Alike serinetteref01_Is a0 a1 k

theorem q_serinetteref05_Alike_l4_h0 (f0 : Int → Int → KB → Option DV) (x0 : List (List DV)) (x1 : List (List DV)) (x2 : Int) (κn : St → Option DV) (κ : KC) : pev Try.prog (tab [(44, (KK_serinetteref01_Is f0))] []) (ltab [(4, R_serinetteref05_Alike_l4 f0)]) [(0, [0]), (0, []), (4, [0, 1, 5]), (100004, [4])] 64 (loopB (bodyOf Try.f31) 0) (S_serinetteref05_Alike_l4 (.h0 x0 x1 x2)) (contL 0 [0, 1, 5] [4] κn κ) = F_serinetteref05_Alike_l4 f0 (.h0 x0 x1 x2) (fun x => κn (S_serinetteref05_Alike_l4 x)) (oc_serinetteref05_Alike_l4 κ) := by kernel_rfl

theorem g_serinetteref05_Alike_l4 (f0 : Int → Int → KB → Option DV) (HK : KGood Try.prog Inv (tab [(44, (KK_serinetteref01_Is f0))] [])) : RGood 0 Try.prog Inv (loopB (bodyOf Try.f31) 0) (R_serinetteref05_Alike_l4 f0) :=
  have hL : LGood 0 Try.prog Inv (ltab [(4, R_serinetteref05_Alike_l4 f0)]) (loopB (bodyOf Try.f31) 0) := (lgood_of (bs := []) (by kernel_rfl) lgood_nil)
  rgood_dec (body := fun s k => pev Try.prog (tab [(44, (KK_serinetteref01_Is f0))] []) (ltab [(4, R_serinetteref05_Alike_l4 f0)]) [(0, [0]), (0, []), (4, [0, 1, 5]), (100004, [4])] 64 (loopB (bodyOf Try.f31) 0) s k) (live := [0, 1, 5]) (out := [4]) (S := S_serinetteref05_Alike_l4) (pev_ok mixed HK (ltab [(4, R_serinetteref05_Alike_l4 f0)]) [(0, [0]), (0, []), (4, [0, 1, 5]), (100004, [4])] 64 _ hL) (pev_nat HK (ltab [(4, R_serinetteref05_Alike_l4 f0)]) [(0, [0]), (0, []), (4, [0, 1, 5]), (100004, [4])] 64 _ hL)
    (fun x κn κ => match x with
      | .h0 _ _ _ => q_serinetteref05_Alike_l4_h0 f0 _ _ _ κn κ
    ) d_serinetteref05_Alike_l4 φ_serinetteref05_Alike_l4

theorem r_serinetteref05_Alike (f0 : Int → Int → KB → Option DV) (a0 : List (List DV)) (a1 : List (List DV)) (k : DV → Option DV) : B_serinetteref05_Alike f0 a0 a1 (fun r0_0 => k (.val (.bool r0_0))) = pevL Try.prog (tab [(44, (KK_serinetteref01_Is f0))] []) (ltab [(4, R_serinetteref05_Alike_l4 f0)]) [(0, [0]), (0, []), (4, [0, 1, 5]), (100004, [4])] 64 Try.f31 (bodyOf Try.f31) [.lst 2 a0, .lst 2 a1] k := by kernel_rfl

theorem m_serinetteref05_Alike : Meets Try.prog Inv 31 (KK_serinetteref05_Alike serinetteref05_Alike) :=
  meets_of_pevL mixed stab (kgood stab (tab_cons m_serinetteref01_Is (tab_nil _ _)) (tabH_nil _ _)) Try.func31 (by kernel_rfl) (by kernel_rfl) (by
    intro ds; unfold KK_serinetteref05_Alike; split
    · exact .inr ⟨(ltab [(4, R_serinetteref05_Alike_l4 serinetteref01_Is)]), [(0, [0]), (0, []), (4, [0, 1, 5]), (100004, [4])], 64, lgood_of (bs := [loopB (bodyOf Try.f31) 0]) (by kernel_rfl) (lgood_cons (by kernel_rfl) (g_serinetteref05_Alike_l4 serinetteref01_Is (kgood stab (tab_cons m_serinetteref01_Is (tab_nil _ _)) (tabH_nil _ _))) lgood_nil), fun k => r_serinetteref05_Alike serinetteref01_Is _ _ k⟩
    · exact .inl (fun _ => rfl))

inductive X_serinetteref05_Same_l4 where
  | h0 (x0 : Int) (x1 : ByteArray) (x2 : ByteArray) (x3 : Int) (x4 : Int) (x5 : List (List DV)) (x6 : ByteArray) (x7 : Int) (x8 : Int) (x9 : ByteArray) (x10 : ByteArray) (x11 : List (List DV)) (x12 : ByteArray) (x13 : ByteArray) (x14 : Int) (x15 : Int) (x16 : List (List DV)) (x17 : ByteArray) (x18 : Int) (x19 : Int) (x20 : ByteArray) (x21 : ByteArray) (x22 : List (List DV))
def φ_serinetteref05_Same_l4 : X_serinetteref05_Same_l4 → Nat
  | .h0 x0 x1 x2 x3 x4 x5 x6 x7 x8 x9 x10 x11 x12 x13 x14 x15 x16 x17 x18 x19 x20 x21 x22 => Int.toNat (((List.length x11 : Nat) : Int) - x0) + 1
noncomputable def S_serinetteref05_Same_l4 : X_serinetteref05_Same_l4 → St
  | .h0 x0 x1 x2 x3 x4 x5 x6 x7 x8 x9 x10 x11 x12 x13 x14 x15 x16 x17 x18 x19 x20 x21 x22 => ⟨mkT [(2, .ptr 0 0), (3, .ptr 1 0), (5, .dv (.val (.int .i64 x0)))] (.leaf .dead), 75, [some (.mix [.dv (.val (.string x1)), .dv (.val (.string x2)), .dv (.val (.int .i64 x3)), .dv (.val (.int .i64 x4)), .dv (.lst 2 x5), .dv (.val (.string x6)), .dv (.val (.int .i64 x7)), .dv (.val (.int .i64 x8)), .dv (.val (.string x9)), .dv (.val (.string x10)), .dv (.lst 11 x11)]), some (.mix [.dv (.val (.string x12)), .dv (.val (.string x13)), .dv (.val (.int .i64 x14)), .dv (.val (.int .i64 x15)), .dv (.lst 2 x16), .dv (.val (.string x17)), .dv (.val (.int .i64 x18)), .dv (.val (.int .i64 x19)), .dv (.val (.string x20)), .dv (.val (.string x21)), .dv (.lst 11 x22)])]⟩

noncomputable def oc_serinetteref05_Same_l4 (k : KC) : KB × (Option DV) := (fun y0 => k .ret ⟨mkT [(4, .dv (.val (.bool y0)))] (.leaf .dead), 75, []⟩, k (.exit 0) ⟨mkT [(4, .dead)] (.leaf .dead), 75, []⟩)

noncomputable def B_serinetteref05_Same_l4_h0 (f0 : ByteArray → ByteArray → Int → Int → List (List DV) → ByteArray → Int → Int → ByteArray → ByteArray → List (List DV) → ByteArray → ByteArray → Int → Int → List (List DV) → ByteArray → Int → Int → ByteArray → ByteArray → List (List DV) → KB → Option DV) (f1 : List (List DV) → List (List DV) → KB → Option DV) (x0 : Int) (x1 : ByteArray) (x2 : ByteArray) (x3 : Int) (x4 : Int) (x5 : List (List DV)) (x6 : ByteArray) (x7 : Int) (x8 : Int) (x9 : ByteArray) (x10 : ByteArray) (x11 : List (List DV)) (x12 : ByteArray) (x13 : ByteArray) (x14 : Int) (x15 : Int) (x16 : List (List DV)) (x17 : ByteArray) (x18 : Int) (x19 : Int) (x20 : ByteArray) (x21 : ByteArray) (x22 : List (List DV)) (κn : X_serinetteref05_Same_l4 → Option DV) (κ0 : KB) (κ1 : Option DV) : Option DV :=
  bx (decide (x0 < ((List.length x11 : Nat) : Int))) (bx (decide (0 ≤ x0)) (optE (x11[Int.toNat x0]?) (fun e2 => ld_ssiil2siissl11 e2 0 (fun v3 v4 v5 v6 v7 v8 v9 v10 v11 v12 v13 => bx (decide (0 ≤ x0)) (optE (x22[Int.toNat x0]?) (fun e14 => ld_ssiil2siissl11 e14 0 (fun v15 v16 v17 v18 v19 v20 v21 v22 v23 v24 v25 => f0 v3 v4 v5 v6 v7 v8 v9 v10 v11 v12 v13 v15 v16 v17 v18 v19 v20 v21 v22 v23 v24 v25 (fun r26 => bx (!r26) (κ0 false) (κn (X_serinetteref05_Same_l4.h0 (IntKind.wrap .i64 (x0 + 1)) x1 x2 x3 x4 x5 x6 x7 x8 x9 x10 x11 x12 x13 x14 x15 x16 x17 x18 x19 x20 x21 x22)))))) none))) none) κ1

noncomputable def F_serinetteref05_Same_l4 (f0 : ByteArray → ByteArray → Int → Int → List (List DV) → ByteArray → Int → Int → ByteArray → ByteArray → List (List DV) → ByteArray → ByteArray → Int → Int → List (List DV) → ByteArray → Int → Int → ByteArray → ByteArray → List (List DV) → KB → Option DV) (f1 : List (List DV) → List (List DV) → KB → Option DV) : X_serinetteref05_Same_l4 → (X_serinetteref05_Same_l4 → Option DV) → (KB × (Option DV)) → Option DV
  | .h0 x0 x1 x2 x3 x4 x5 x6 x7 x8 x9 x10 x11 x12 x13 x14 x15 x16 x17 x18 x19 x20 x21 x22, κn, κ => B_serinetteref05_Same_l4_h0 f0 f1 x0 x1 x2 x3 x4 x5 x6 x7 x8 x9 x10 x11 x12 x13 x14 x15 x16 x17 x18 x19 x20 x21 x22 κn κ.1 κ.2

noncomputable def dec_serinetteref05_Same_l4 (s : St) : Option X_serinetteref05_Same_l4 :=
  bindO (xN s.n 75) fun u => bindO (xP 0 0 (s.tmps.get 2)) fun u1 => bindO (xP 1 0 (s.tmps.get 3)) fun u2 => bindO (xD (s.tmps.get 5)) fun d3 => bindO (xI .i64 d3) fun x0 => bindO (xMix s.heap) fun p5 => bindO (xUn p5.1) fun q6 => bindO (xD q6.1) fun d7 => bindO (xS d7) fun x1 => bindO (xUn q6.2) fun q9 => bindO (xD q9.1) fun d10 => bindO (xS d10) fun x2 => bindO (xUn q9.2) fun q12 => bindO (xD q12.1) fun d13 => bindO (xI .i64 d13) fun x3 => bindO (xUn q12.2) fun q15 => bindO (xD q15.1) fun d16 => bindO (xI .i64 d16) fun x4 => bindO (xUn q15.2) fun q18 => bindO (xD q18.1) fun d19 => bindO (xL 2 d19) fun x5 => bindO (xUn q18.2) fun q21 => bindO (xD q21.1) fun d22 => bindO (xS d22) fun x6 => bindO (xUn q21.2) fun q24 => bindO (xD q24.1) fun d25 => bindO (xI .i64 d25) fun x7 => bindO (xUn q24.2) fun q27 => bindO (xD q27.1) fun d28 => bindO (xI .i64 d28) fun x8 => bindO (xUn q27.2) fun q30 => bindO (xD q30.1) fun d31 => bindO (xS d31) fun x9 => bindO (xUn q30.2) fun q33 => bindO (xD q33.1) fun d34 => bindO (xS d34) fun x10 => bindO (xUn q33.2) fun q36 => bindO (xD q36.1) fun d37 => bindO (xL 11 d37) fun x11 => bindO (xEnd q36.2) fun u39 => bindO (xMix p5.2) fun p40 => bindO (xUn p40.1) fun q41 => bindO (xD q41.1) fun d42 => bindO (xS d42) fun x12 => bindO (xUn q41.2) fun q44 => bindO (xD q44.1) fun d45 => bindO (xS d45) fun x13 => bindO (xUn q44.2) fun q47 => bindO (xD q47.1) fun d48 => bindO (xI .i64 d48) fun x14 => bindO (xUn q47.2) fun q50 => bindO (xD q50.1) fun d51 => bindO (xI .i64 d51) fun x15 => bindO (xUn q50.2) fun q53 => bindO (xD q53.1) fun d54 => bindO (xL 2 d54) fun x16 => bindO (xUn q53.2) fun q56 => bindO (xD q56.1) fun d57 => bindO (xS d57) fun x17 => bindO (xUn q56.2) fun q59 => bindO (xD q59.1) fun d60 => bindO (xI .i64 d60) fun x18 => bindO (xUn q59.2) fun q62 => bindO (xD q62.1) fun d63 => bindO (xI .i64 d63) fun x19 => bindO (xUn q62.2) fun q65 => bindO (xD q65.1) fun d66 => bindO (xS d66) fun x20 => bindO (xUn q65.2) fun q68 => bindO (xD q68.1) fun d69 => bindO (xS d69) fun x21 => bindO (xUn q68.2) fun q71 => bindO (xD q71.1) fun d72 => bindO (xL 11 d72) fun x22 => bindO (xEnd q71.2) fun u74 => bindO (xEnd p40.2) fun u75 => some (.h0 x0 x1 x2 x3 x4 x5 x6 x7 x8 x9 x10 x11 x12 x13 x14 x15 x16 x17 x18 x19 x20 x21 x22)

noncomputable def R_serinetteref05_Same_l4 (f0 : ByteArray → ByteArray → Int → Int → List (List DV) → ByteArray → Int → Int → ByteArray → ByteArray → List (List DV) → ByteArray → ByteArray → Int → Int → List (List DV) → ByteArray → Int → Int → ByteArray → ByteArray → List (List DV) → KB → Option DV) (f1 : List (List DV) → List (List DV) → KB → Option DV) : St → KC → Option DV := decR dec_serinetteref05_Same_l4 (F_serinetteref05_Same_l4 f0 f1) φ_serinetteref05_Same_l4 oc_serinetteref05_Same_l4

theorem d_serinetteref05_Same_l4 : ∀ s x, dec_serinetteref05_Same_l4 s = some x → SLe s (S_serinetteref05_Same_l4 x) := by
  intro s x h
  unfold dec_serinetteref05_Same_l4 at h
  · obtain ⟨u, en, h⟩ := bindO_some h
    obtain ⟨u1, e1, h⟩ := bindO_some h
    obtain ⟨u2, e2, h⟩ := bindO_some h
    obtain ⟨d3, e3, h⟩ := bindO_some h
    obtain ⟨x0, e4, h⟩ := bindO_some h
    obtain ⟨p5, e5, h⟩ := bindO_some h
    obtain ⟨q6, e6, h⟩ := bindO_some h
    obtain ⟨d7, e7, h⟩ := bindO_some h
    obtain ⟨x1, e8, h⟩ := bindO_some h
    obtain ⟨q9, e9, h⟩ := bindO_some h
    obtain ⟨d10, e10, h⟩ := bindO_some h
    obtain ⟨x2, e11, h⟩ := bindO_some h
    obtain ⟨q12, e12, h⟩ := bindO_some h
    obtain ⟨d13, e13, h⟩ := bindO_some h
    obtain ⟨x3, e14, h⟩ := bindO_some h
    obtain ⟨q15, e15, h⟩ := bindO_some h
    obtain ⟨d16, e16, h⟩ := bindO_some h
    obtain ⟨x4, e17, h⟩ := bindO_some h
    obtain ⟨q18, e18, h⟩ := bindO_some h
    obtain ⟨d19, e19, h⟩ := bindO_some h
    obtain ⟨x5, e20, h⟩ := bindO_some h
    obtain ⟨q21, e21, h⟩ := bindO_some h
    obtain ⟨d22, e22, h⟩ := bindO_some h
    obtain ⟨x6, e23, h⟩ := bindO_some h
    obtain ⟨q24, e24, h⟩ := bindO_some h
    obtain ⟨d25, e25, h⟩ := bindO_some h
    obtain ⟨x7, e26, h⟩ := bindO_some h
    obtain ⟨q27, e27, h⟩ := bindO_some h
    obtain ⟨d28, e28, h⟩ := bindO_some h
    obtain ⟨x8, e29, h⟩ := bindO_some h
    obtain ⟨q30, e30, h⟩ := bindO_some h
    obtain ⟨d31, e31, h⟩ := bindO_some h
    obtain ⟨x9, e32, h⟩ := bindO_some h
    obtain ⟨q33, e33, h⟩ := bindO_some h
    obtain ⟨d34, e34, h⟩ := bindO_some h
    obtain ⟨x10, e35, h⟩ := bindO_some h
    obtain ⟨q36, e36, h⟩ := bindO_some h
    obtain ⟨d37, e37, h⟩ := bindO_some h
    obtain ⟨x11, e38, h⟩ := bindO_some h
    obtain ⟨u39, e39, h⟩ := bindO_some h
    obtain ⟨p40, e40, h⟩ := bindO_some h
    obtain ⟨q41, e41, h⟩ := bindO_some h
    obtain ⟨d42, e42, h⟩ := bindO_some h
    obtain ⟨x12, e43, h⟩ := bindO_some h
    obtain ⟨q44, e44, h⟩ := bindO_some h
    obtain ⟨d45, e45, h⟩ := bindO_some h
    obtain ⟨x13, e46, h⟩ := bindO_some h
    obtain ⟨q47, e47, h⟩ := bindO_some h
    obtain ⟨d48, e48, h⟩ := bindO_some h
    obtain ⟨x14, e49, h⟩ := bindO_some h
    obtain ⟨q50, e50, h⟩ := bindO_some h
    obtain ⟨d51, e51, h⟩ := bindO_some h
    obtain ⟨x15, e52, h⟩ := bindO_some h
    obtain ⟨q53, e53, h⟩ := bindO_some h
    obtain ⟨d54, e54, h⟩ := bindO_some h
    obtain ⟨x16, e55, h⟩ := bindO_some h
    obtain ⟨q56, e56, h⟩ := bindO_some h
    obtain ⟨d57, e57, h⟩ := bindO_some h
    obtain ⟨x17, e58, h⟩ := bindO_some h
    obtain ⟨q59, e59, h⟩ := bindO_some h
    obtain ⟨d60, e60, h⟩ := bindO_some h
    obtain ⟨x18, e61, h⟩ := bindO_some h
    obtain ⟨q62, e62, h⟩ := bindO_some h
    obtain ⟨d63, e63, h⟩ := bindO_some h
    obtain ⟨x19, e64, h⟩ := bindO_some h
    obtain ⟨q65, e65, h⟩ := bindO_some h
    obtain ⟨d66, e66, h⟩ := bindO_some h
    obtain ⟨x20, e67, h⟩ := bindO_some h
    obtain ⟨q68, e68, h⟩ := bindO_some h
    obtain ⟨d69, e69, h⟩ := bindO_some h
    obtain ⟨x21, e70, h⟩ := bindO_some h
    obtain ⟨q71, e71, h⟩ := bindO_some h
    obtain ⟨d72, e72, h⟩ := bindO_some h
    obtain ⟨x22, e73, h⟩ := bindO_some h
    obtain ⟨u74, e74, h⟩ := bindO_some h
    obtain ⟨u75, e75, h⟩ := bindO_some h
    cases h
    exact ⟨le_mkT _ _ (Le.dead _) ⟨.inr (xP_eq e1), .inr (xP_eq e2), .inr ((xD_eq e3).trans (congrArg VV.dv (xI_eq e4))), trivial⟩, (xN_eq en).symm, by rw [xMix_eq e5, xUn_eq e6, xD_eq e7, xS_eq e8, xUn_eq e9, xD_eq e10, xS_eq e11, xUn_eq e12, xD_eq e13, xI_eq e14, xUn_eq e15, xD_eq e16, xI_eq e17, xUn_eq e18, xD_eq e19, xL_eq e20, xUn_eq e21, xD_eq e22, xS_eq e23, xUn_eq e24, xD_eq e25, xI_eq e26, xUn_eq e27, xD_eq e28, xI_eq e29, xUn_eq e30, xD_eq e31, xS_eq e32, xUn_eq e33, xD_eq e34, xS_eq e35, xUn_eq e36, xD_eq e37, xL_eq e38, xEnd_eq e39, xMix_eq e40, xUn_eq e41, xD_eq e42, xS_eq e43, xUn_eq e44, xD_eq e45, xS_eq e46, xUn_eq e47, xD_eq e48, xI_eq e49, xUn_eq e50, xD_eq e51, xI_eq e52, xUn_eq e53, xD_eq e54, xL_eq e55, xUn_eq e56, xD_eq e57, xS_eq e58, xUn_eq e59, xD_eq e60, xI_eq e61, xUn_eq e62, xD_eq e63, xI_eq e64, xUn_eq e65, xD_eq e66, xS_eq e67, xUn_eq e68, xD_eq e69, xS_eq e70, xUn_eq e71, xD_eq e72, xL_eq e73, xEnd_eq e74, xEnd_eq e75]; rfl⟩
noncomputable def B_serinetteref05_Same (f0 : ByteArray → ByteArray → Int → Int → List (List DV) → ByteArray → Int → Int → ByteArray → ByteArray → List (List DV) → ByteArray → ByteArray → Int → Int → List (List DV) → ByteArray → Int → Int → ByteArray → ByteArray → List (List DV) → KB → Option DV) (f1 : List (List DV) → List (List DV) → KB → Option DV) (a0_0 a0_1 : ByteArray) (a0_2 a0_3 : Int) (a0_4 : List (List DV)) (a0_5 : ByteArray) (a0_6 a0_7 : Int) (a0_8 a0_9 : ByteArray) (a0_10 : List (List DV)) (a1_0 a1_1 : ByteArray) (a1_2 a1_3 : Int) (a1_4 : List (List DV)) (a1_5 : ByteArray) (a1_6 a1_7 : Int) (a1_8 a1_9 : ByteArray) (a1_10 : List (List DV)) (k : KB) : Option DV :=
  bx (!(!(ByteArray.toList a0_0 == ByteArray.toList a1_0))) (bx (!(!(ByteArray.toList a0_1 == ByteArray.toList a1_1))) (bx (!(a0_2 != a1_2)) (bx (!(a0_3 != a1_3)) (bx (!(!(((ByteArray.toList a0_5 == ByteArray.toList a1_5) && ((a0_6 == a1_6) && ((a0_7 == a1_7) && ((ByteArray.toList a0_8 == ByteArray.toList a1_8) && ((ByteArray.toList a0_9 == ByteArray.toList a1_9) && true)))))))) (f1 a0_4 a1_4 (fun r1 => bx (!(!r1)) (bx (((List.length a0_10 : Nat) : Int) != ((List.length a1_10 : Nat) : Int)) (k false) (LF (F_serinetteref05_Same_l4 f0 f1) (φ_serinetteref05_Same_l4 (X_serinetteref05_Same_l4.h0 0 a0_0 a0_1 a0_2 a0_3 a0_4 a0_5 a0_6 a0_7 a0_8 a0_9 a0_10 a1_0 a1_1 a1_2 a1_3 a1_4 a1_5 a1_6 a1_7 a1_8 a1_9 a1_10)) (X_serinetteref05_Same_l4.h0 0 a0_0 a0_1 a0_2 a0_3 a0_4 a0_5 a0_6 a0_7 a0_8 a0_9 a0_10 a1_0 a1_1 a1_2 a1_3 a1_4 a1_5 a1_6 a1_7 a1_8 a1_9 a1_10) ((fun z27_0 => k z27_0), (k true)))) (k false))) (k false)) (k false)) (k false)) (k false)) (k false)

noncomputable def KK_serinetteref05_Same (f0 : ByteArray → ByteArray → Int → Int → List (List DV) → ByteArray → Int → Int → ByteArray → ByteArray → List (List DV) → ByteArray → ByteArray → Int → Int → List (List DV) → ByteArray → Int → Int → ByteArray → ByteArray → List (List DV) → KB → Option DV) (ds : List DV) (k : DV → Option DV) : Option DV :=
  match ds with
  | [.agg [.val (.string a0_0), .val (.string a0_1), .val (.int .i64 a0_2), .val (.int .i64 a0_3), .lst 2 a0_4, .val (.string a0_5), .val (.int .i64 a0_6), .val (.int .i64 a0_7), .val (.string a0_8), .val (.string a0_9), .lst 11 a0_10], .agg [.val (.string a1_0), .val (.string a1_1), .val (.int .i64 a1_2), .val (.int .i64 a1_3), .lst 2 a1_4, .val (.string a1_5), .val (.int .i64 a1_6), .val (.int .i64 a1_7), .val (.string a1_8), .val (.string a1_9), .lst 11 a1_10]] => f0 a0_0 a0_1 a0_2 a0_3 a0_4 a0_5 a0_6 a0_7 a0_8 a0_9 a0_10 a1_0 a1_1 a1_2 a1_3 a1_4 a1_5 a1_6 a1_7 a1_8 a1_9 a1_10 (fun r0_0 => k (.val (.bool r0_0)))
  | _ => none

noncomputable def G_serinetteref05_Same (N : Nat) : Nat → (ByteArray → ByteArray → Int → Int → List (List DV) → ByteArray → Int → Int → ByteArray → ByteArray → List (List DV) → ByteArray → ByteArray → Int → Int → List (List DV) → ByteArray → Int → Int → ByteArray → ByteArray → List (List DV) → KB → Option DV)
  | 0 => (fun _ _ _ _ _ _ _ _ _ _ _ _ _ _ _ _ _ _ _ _ _ _ _ => none)
  | n + 1 => (fun a0_0 a0_1 a0_2 a0_3 a0_4 a0_5 a0_6 a0_7 a0_8 a0_9 a0_10 a1_0 a1_1 a1_2 a1_3 a1_4 a1_5 a1_6 a1_7 a1_8 a1_9 a1_10 k => B_serinetteref05_Same (G_serinetteref05_Same N n) serinetteref05_Alike a0_0 a0_1 a0_2 a0_3 a0_4 a0_5 a0_6 a0_7 a0_8 a0_9 a0_10 a1_0 a1_1 a1_2 a1_3 a1_4 a1_5 a1_6 a1_7 a1_8 a1_9 a1_10 k)

noncomputable def serinetteref05_Same_n (N n : Nat) : ByteArray → ByteArray → Int → Int → List (List DV) → ByteArray → Int → Int → ByteArray → ByteArray → List (List DV) → ByteArray → ByteArray → Int → Int → List (List DV) → ByteArray → Int → Int → ByteArray → ByteArray → List (List DV) → KB → Option DV := (G_serinetteref05_Same N n)
noncomputable def serinetteref05_Same (N : Nat) : ByteArray → ByteArray → Int → Int → List (List DV) → ByteArray → Int → Int → ByteArray → ByteArray → List (List DV) → ByteArray → ByteArray → Int → Int → List (List DV) → ByteArray → Int → Int → ByteArray → ByteArray → List (List DV) → KB → Option DV := serinetteref05_Same_n N N

theorem q_serinetteref05_Same_l4_h0 (f0 : ByteArray → ByteArray → Int → Int → List (List DV) → ByteArray → Int → Int → ByteArray → ByteArray → List (List DV) → ByteArray → ByteArray → Int → Int → List (List DV) → ByteArray → Int → Int → ByteArray → ByteArray → List (List DV) → KB → Option DV) (f1 : List (List DV) → List (List DV) → KB → Option DV) (x0 : Int) (x1 : ByteArray) (x2 : ByteArray) (x3 : Int) (x4 : Int) (x5 : List (List DV)) (x6 : ByteArray) (x7 : Int) (x8 : Int) (x9 : ByteArray) (x10 : ByteArray) (x11 : List (List DV)) (x12 : ByteArray) (x13 : ByteArray) (x14 : Int) (x15 : Int) (x16 : List (List DV)) (x17 : ByteArray) (x18 : Int) (x19 : Int) (x20 : ByteArray) (x21 : ByteArray) (x22 : List (List DV)) (κn : St → Option DV) (κ : KC) : pev Try.prog (tab [(11, (KK_serinetteref05_Same f0)), (31, (KK_serinetteref05_Alike f1))] []) (ltab [(4, R_serinetteref05_Same_l4 f0 f1)]) [(0, [0]), (0, []), (4, [2, 3, 5]), (100004, [4])] 64 (loopB (bodyOf Try.f11) 0) (S_serinetteref05_Same_l4 (.h0 x0 x1 x2 x3 x4 x5 x6 x7 x8 x9 x10 x11 x12 x13 x14 x15 x16 x17 x18 x19 x20 x21 x22)) (contL 0 [2, 3, 5] [4] κn κ) = F_serinetteref05_Same_l4 f0 f1 (.h0 x0 x1 x2 x3 x4 x5 x6 x7 x8 x9 x10 x11 x12 x13 x14 x15 x16 x17 x18 x19 x20 x21 x22) (fun x => κn (S_serinetteref05_Same_l4 x)) (oc_serinetteref05_Same_l4 κ) := by kernel_rfl

theorem g_serinetteref05_Same_l4 (f0 : ByteArray → ByteArray → Int → Int → List (List DV) → ByteArray → Int → Int → ByteArray → ByteArray → List (List DV) → ByteArray → ByteArray → Int → Int → List (List DV) → ByteArray → Int → Int → ByteArray → ByteArray → List (List DV) → KB → Option DV) (f1 : List (List DV) → List (List DV) → KB → Option DV) (HK : KGood Try.prog Inv (tab [(11, (KK_serinetteref05_Same f0)), (31, (KK_serinetteref05_Alike f1))] [])) : RGood 0 Try.prog Inv (loopB (bodyOf Try.f11) 0) (R_serinetteref05_Same_l4 f0 f1) :=
  have hL : LGood 0 Try.prog Inv (ltab [(4, R_serinetteref05_Same_l4 f0 f1)]) (loopB (bodyOf Try.f11) 0) := (lgood_of (bs := []) (by kernel_rfl) lgood_nil)
  rgood_dec (body := fun s k => pev Try.prog (tab [(11, (KK_serinetteref05_Same f0)), (31, (KK_serinetteref05_Alike f1))] []) (ltab [(4, R_serinetteref05_Same_l4 f0 f1)]) [(0, [0]), (0, []), (4, [2, 3, 5]), (100004, [4])] 64 (loopB (bodyOf Try.f11) 0) s k) (live := [2, 3, 5]) (out := [4]) (S := S_serinetteref05_Same_l4) (pev_ok mixed HK (ltab [(4, R_serinetteref05_Same_l4 f0 f1)]) [(0, [0]), (0, []), (4, [2, 3, 5]), (100004, [4])] 64 _ hL) (pev_nat HK (ltab [(4, R_serinetteref05_Same_l4 f0 f1)]) [(0, [0]), (0, []), (4, [2, 3, 5]), (100004, [4])] 64 _ hL)
    (fun x κn κ => match x with
      | .h0 _ _ _ _ _ _ _ _ _ _ _ _ _ _ _ _ _ _ _ _ _ _ _ => q_serinetteref05_Same_l4_h0 f0 f1 _ _ _ _ _ _ _ _ _ _ _ _ _ _ _ _ _ _ _ _ _ _ _ κn κ
    ) d_serinetteref05_Same_l4 φ_serinetteref05_Same_l4

theorem r_serinetteref05_Same (f0 : ByteArray → ByteArray → Int → Int → List (List DV) → ByteArray → Int → Int → ByteArray → ByteArray → List (List DV) → ByteArray → ByteArray → Int → Int → List (List DV) → ByteArray → Int → Int → ByteArray → ByteArray → List (List DV) → KB → Option DV) (f1 : List (List DV) → List (List DV) → KB → Option DV) (a0_0 a0_1 : ByteArray) (a0_2 a0_3 : Int) (a0_4 : List (List DV)) (a0_5 : ByteArray) (a0_6 a0_7 : Int) (a0_8 a0_9 : ByteArray) (a0_10 : List (List DV)) (a1_0 a1_1 : ByteArray) (a1_2 a1_3 : Int) (a1_4 : List (List DV)) (a1_5 : ByteArray) (a1_6 a1_7 : Int) (a1_8 a1_9 : ByteArray) (a1_10 : List (List DV)) (k : DV → Option DV) : B_serinetteref05_Same f0 f1 a0_0 a0_1 a0_2 a0_3 a0_4 a0_5 a0_6 a0_7 a0_8 a0_9 a0_10 a1_0 a1_1 a1_2 a1_3 a1_4 a1_5 a1_6 a1_7 a1_8 a1_9 a1_10 (fun r0_0 => k (.val (.bool r0_0))) = pevL Try.prog (tab [(11, (KK_serinetteref05_Same f0)), (31, (KK_serinetteref05_Alike f1))] []) (ltab [(4, R_serinetteref05_Same_l4 f0 f1)]) [(0, [0]), (0, []), (4, [2, 3, 5]), (100004, [4])] 64 Try.f11 (bodyOf Try.f11) [.agg [.val (.string a0_0), .val (.string a0_1), .val (.int .i64 a0_2), .val (.int .i64 a0_3), .lst 2 a0_4, .val (.string a0_5), .val (.int .i64 a0_6), .val (.int .i64 a0_7), .val (.string a0_8), .val (.string a0_9), .lst 11 a0_10], .agg [.val (.string a1_0), .val (.string a1_1), .val (.int .i64 a1_2), .val (.int .i64 a1_3), .lst 2 a1_4, .val (.string a1_5), .val (.int .i64 a1_6), .val (.int .i64 a1_7), .val (.string a1_8), .val (.string a1_9), .lst 11 a1_10]] k := by kernel_rfl

theorem m_G_serinetteref05_Same (N : Nat) : ∀ n, Meets Try.prog Inv 11 (KK_serinetteref05_Same (serinetteref05_Same_n N n))
  | 0 => meets_none (by intro ds k; unfold KK_serinetteref05_Same; split <;> rfl)
  | n + 1 => by
    have ih := m_G_serinetteref05_Same N n
    exact meets_of_pevL mixed stab (kgood stab (tab_cons (ih) (tab_cons m_serinetteref05_Alike (tab_nil _ _))) (tabH_nil _ _)) Try.func11 (by kernel_rfl) (by kernel_rfl) (by
    intro ds; unfold KK_serinetteref05_Same; split
    · exact .inr ⟨(ltab [(4, R_serinetteref05_Same_l4 (serinetteref05_Same_n N n) serinetteref05_Alike)]), [(0, [0]), (0, []), (4, [2, 3, 5]), (100004, [4])], 64, lgood_of (bs := [loopB (bodyOf Try.f11) 0]) (by kernel_rfl) (lgood_cons (by kernel_rfl) (g_serinetteref05_Same_l4 (serinetteref05_Same_n N n) serinetteref05_Alike (kgood stab (tab_cons (ih) (tab_cons m_serinetteref05_Alike (tab_nil _ _))) (tabH_nil _ _))) lgood_nil), fun k => r_serinetteref05_Same (serinetteref05_Same_n N n) serinetteref05_Alike _ _ _ _ _ _ _ _ _ _ _ _ _ _ _ _ _ _ _ _ _ _ k⟩
    · exact .inl (fun _ => rfl))

theorem m_serinetteref05_Same (N : Nat) : Meets Try.prog Inv 11 (KK_serinetteref05_Same (serinetteref05_Same N)) := (m_G_serinetteref05_Same N N)

noncomputable def B_serinettelaw05_BlockPlaces (f0 : KB → Option DV) (f1 : ByteArray → ByteArray → Int → Int → List (List DV) → ByteArray → Int → Int → ByteArray → ByteArray → List (List DV) → ByteArray → ByteArray → Int → Int → List (List DV) → ByteArray → Int → Int → ByteArray → ByteArray → List (List DV) → KB → Option DV) (f2 : ByteArray → ByteArray → Int → Int → List (List DV) → ByteArray → Int → Int → ByteArray → ByteArray → List (List DV) → List (List DV) → ByteArray → ByteArray → Int → Int → List (List DV) → ByteArray → Int → Int → ByteArray → ByteArray → List (List DV) → (ByteArray → ByteArray → Int → Int → List (List DV) → ByteArray → Int → Int → ByteArray → ByteArray → List (List DV) → Int → Option DV) → Option DV) (f3 : ByteArray → ByteArray → Int → Int → List (List DV) → ByteArray → Int → Int → ByteArray → ByteArray → List (List DV) → List (List DV) → ByteArray → ByteArray → Int → Int → List (List DV) → ByteArray → Int → Int → ByteArray → ByteArray → List (List DV) → (ByteArray → ByteArray → Int → Int → List (List DV) → ByteArray → Int → Int → ByteArray → ByteArray → List (List DV) → Int → Option DV) → Option DV) (f4 : ByteArray → ByteArray → Int → Int → List (List DV) → ByteArray → Int → Int → ByteArray → ByteArray → List (List DV) → List (List DV) → (ByteArray → ByteArray → Int → Int → List (List DV) → ByteArray → Int → Int → ByteArray → ByteArray → List (List DV) → Int → Option DV) → Option DV) (f5 : ByteArray → ByteArray → Int → Int → List (List DV) → ByteArray → Int → Int → ByteArray → ByteArray → List (List DV) → List (List DV) → (ByteArray → ByteArray → Int → Int → List (List DV) → ByteArray → Int → Int → ByteArray → ByteArray → List (List DV) → Int → Option DV) → Option DV) (f6 : ByteArray → ByteArray → Int → Int → List (List DV) → ByteArray → Int → Int → ByteArray → ByteArray → List (List DV) → KB → Option DV) (a0_0 a0_1 : ByteArray) (a0_2 a0_3 : Int) (a0_4 : List (List DV)) (a0_5 : ByteArray) (a0_6 a0_7 : Int) (a0_8 a0_9 : ByteArray) (a0_10 : List (List DV)) (a1_0 a1_1 : ByteArray) (a1_2 a1_3 : Int) (a1_4 : List (List DV)) (a1_5 : ByteArray) (a1_6 a1_7 : Int) (a1_8 a1_9 : ByteArray) (a1_10 : List (List DV)) (a2 : List (List DV)) (k : KB) : Option DV :=
  f6 a0_0 a0_1 a0_2 a0_3 a0_4 a0_5 a0_6 a0_7 a0_8 a0_9 a0_10 (fun r1 => bx (!(!r1)) (f6 a1_0 a1_1 a1_2 a1_3 a1_4 a1_5 a1_6 a1_7 a1_8 a1_9 a1_10 (fun r2 => bx (!r2) (f0  (fun r3 => k r3)) (f5 a0_0 a0_1 a0_2 a0_3 a0_4 a0_5 a0_6 a0_7 a0_8 a0_9 a0_10 a2 (fun r4 r5 r6 r7 r8 r9 r10 r11 r12 r13 r14 r15 => f4 a0_0 a0_1 a0_2 a0_3 a0_4 a0_5 a0_6 a0_7 a0_8 a0_9 a0_10 a2 (fun r16 r17 r18 r19 r20 r21 r22 r23 r24 r25 r26 r27 => f3 a0_0 a0_1 a0_2 a0_3 a0_4 a0_5 a0_6 a0_7 a0_8 a0_9 a0_10 a2 a1_0 a1_1 a1_2 a1_3 a1_4 a1_5 a1_6 a1_7 a1_8 a1_9 a1_10 (fun r28 r29 r30 r31 r32 r33 r34 r35 r36 r37 r38 r39 => f2 a0_0 a0_1 a0_2 a0_3 a0_4 a0_5 a0_6 a0_7 a0_8 a0_9 a0_10 a2 a1_0 a1_1 a1_2 a1_3 a1_4 a1_5 a1_6 a1_7 a1_8 a1_9 a1_10 (fun r40 r41 r42 r43 r44 r45 r46 r47 r48 r49 r50 r51 => bx (!(r27 != r15)) (bx (!(r51 != r39)) (f1 r16 r17 r18 r19 r20 r21 r22 r23 r24 r25 r26 r4 r5 r6 r7 r8 r9 r10 r11 r12 r13 r14 (fun r52 => bx (!(!r52)) (f1 r40 r41 r42 r43 r44 r45 r46 r47 r48 r49 r50 r28 r29 r30 r31 r32 r33 r34 r35 r36 r37 r38 (fun r53 => bx (!r53) (k false) (bx (r15 != 0) (f0  (fun r54 => k r54)) (f2 a0_0 a0_1 a0_2 a0_3 a0_4 a0_5 a0_6 a0_7 a0_8 a0_9 a0_10 a2 r16 r17 r18 r19 r20 r21 r22 r23 r24 r25 r26 (fun r55 r56 r57 r58 r59 r60 r61 r62 r63 r64 r65 r66 => bx (r66 == 0) (f1 r55 r56 r57 r58 r59 r60 r61 r62 r63 r64 r65 a0_0 a0_1 a0_2 a0_3 a0_4 a0_5 a0_6 a0_7 a0_8 a0_9 a0_10 (fun r67 => bx (r67) (f0  (fun r68 => k r68)) (k false))) (k false)))))) (k false))) (k false)) (k false)))))))) (f0  (fun r69 => k r69)))

noncomputable def KK_serinettelaw05_BlockPlaces (f0 : ByteArray → ByteArray → Int → Int → List (List DV) → ByteArray → Int → Int → ByteArray → ByteArray → List (List DV) → ByteArray → ByteArray → Int → Int → List (List DV) → ByteArray → Int → Int → ByteArray → ByteArray → List (List DV) → List (List DV) → KB → Option DV) (ds : List DV) (k : DV → Option DV) : Option DV :=
  match ds with
  | [.agg [.val (.string a0_0), .val (.string a0_1), .val (.int .i64 a0_2), .val (.int .i64 a0_3), .lst 2 a0_4, .val (.string a0_5), .val (.int .i64 a0_6), .val (.int .i64 a0_7), .val (.string a0_8), .val (.string a0_9), .lst 11 a0_10], .agg [.val (.string a1_0), .val (.string a1_1), .val (.int .i64 a1_2), .val (.int .i64 a1_3), .lst 2 a1_4, .val (.string a1_5), .val (.int .i64 a1_6), .val (.int .i64 a1_7), .val (.string a1_8), .val (.string a1_9), .lst 11 a1_10], .lst 1 a2] => f0 a0_0 a0_1 a0_2 a0_3 a0_4 a0_5 a0_6 a0_7 a0_8 a0_9 a0_10 a1_0 a1_1 a1_2 a1_3 a1_4 a1_5 a1_6 a1_7 a1_8 a1_9 a1_10 a2 (fun r0_0 => k (.val (.bool r0_0)))
  | _ => none

noncomputable def serinettelaw05_BlockPlaces (N : Nat) (a0_0 a0_1 : ByteArray) (a0_2 a0_3 : Int) (a0_4 : List (List DV)) (a0_5 : ByteArray) (a0_6 a0_7 : Int) (a0_8 a0_9 : ByteArray) (a0_10 : List (List DV)) (a1_0 a1_1 : ByteArray) (a1_2 a1_3 : Int) (a1_4 : List (List DV)) (a1_5 : ByteArray) (a1_6 a1_7 : Int) (a1_8 a1_9 : ByteArray) (a1_10 : List (List DV)) (a2 : List (List DV)) (k : KB) : Option DV := B_serinettelaw05_BlockPlaces (serinettelaw05_awake N) (serinetteref05_Same N) block_Put (serinetteref05_Put N) block_At (serinetteref05_At N) (serinettelaw05_few N) a0_0 a0_1 a0_2 a0_3 a0_4 a0_5 a0_6 a0_7 a0_8 a0_9 a0_10 a1_0 a1_1 a1_2 a1_3 a1_4 a1_5 a1_6 a1_7 a1_8 a1_9 a1_10 a2 k

theorem r_serinettelaw05_BlockPlaces (f0 : KB → Option DV) (f1 : ByteArray → ByteArray → Int → Int → List (List DV) → ByteArray → Int → Int → ByteArray → ByteArray → List (List DV) → ByteArray → ByteArray → Int → Int → List (List DV) → ByteArray → Int → Int → ByteArray → ByteArray → List (List DV) → KB → Option DV) (f2 : ByteArray → ByteArray → Int → Int → List (List DV) → ByteArray → Int → Int → ByteArray → ByteArray → List (List DV) → List (List DV) → ByteArray → ByteArray → Int → Int → List (List DV) → ByteArray → Int → Int → ByteArray → ByteArray → List (List DV) → (ByteArray → ByteArray → Int → Int → List (List DV) → ByteArray → Int → Int → ByteArray → ByteArray → List (List DV) → Int → Option DV) → Option DV) (f3 : ByteArray → ByteArray → Int → Int → List (List DV) → ByteArray → Int → Int → ByteArray → ByteArray → List (List DV) → List (List DV) → ByteArray → ByteArray → Int → Int → List (List DV) → ByteArray → Int → Int → ByteArray → ByteArray → List (List DV) → (ByteArray → ByteArray → Int → Int → List (List DV) → ByteArray → Int → Int → ByteArray → ByteArray → List (List DV) → Int → Option DV) → Option DV) (f4 : ByteArray → ByteArray → Int → Int → List (List DV) → ByteArray → Int → Int → ByteArray → ByteArray → List (List DV) → List (List DV) → (ByteArray → ByteArray → Int → Int → List (List DV) → ByteArray → Int → Int → ByteArray → ByteArray → List (List DV) → Int → Option DV) → Option DV) (f5 : ByteArray → ByteArray → Int → Int → List (List DV) → ByteArray → Int → Int → ByteArray → ByteArray → List (List DV) → List (List DV) → (ByteArray → ByteArray → Int → Int → List (List DV) → ByteArray → Int → Int → ByteArray → ByteArray → List (List DV) → Int → Option DV) → Option DV) (f6 : ByteArray → ByteArray → Int → Int → List (List DV) → ByteArray → Int → Int → ByteArray → ByteArray → List (List DV) → KB → Option DV) (a0_0 a0_1 : ByteArray) (a0_2 a0_3 : Int) (a0_4 : List (List DV)) (a0_5 : ByteArray) (a0_6 a0_7 : Int) (a0_8 a0_9 : ByteArray) (a0_10 : List (List DV)) (a1_0 a1_1 : ByteArray) (a1_2 a1_3 : Int) (a1_4 : List (List DV)) (a1_5 : ByteArray) (a1_6 a1_7 : Int) (a1_8 a1_9 : ByteArray) (a1_10 : List (List DV)) (a2 : List (List DV)) (k : DV → Option DV) : B_serinettelaw05_BlockPlaces f0 f1 f2 f3 f4 f5 f6 a0_0 a0_1 a0_2 a0_3 a0_4 a0_5 a0_6 a0_7 a0_8 a0_9 a0_10 a1_0 a1_1 a1_2 a1_3 a1_4 a1_5 a1_6 a1_7 a1_8 a1_9 a1_10 a2 (fun r0_0 => k (.val (.bool r0_0))) = pevL Try.prog (tab [(5, (KK_serinettelaw05_few f6)), (6, (KK_serinettelaw05_awake f0)), (7, (KK_serinetteref05_At f5)), (8, (KK_block_At f4)), (9, (KK_serinetteref05_Put f3)), (10, (KK_block_Put f2)), (11, (KK_serinetteref05_Same f1))] []) noL [] 64 Try.f3 (bodyOf Try.f3) [.agg [.val (.string a0_0), .val (.string a0_1), .val (.int .i64 a0_2), .val (.int .i64 a0_3), .lst 2 a0_4, .val (.string a0_5), .val (.int .i64 a0_6), .val (.int .i64 a0_7), .val (.string a0_8), .val (.string a0_9), .lst 11 a0_10], .agg [.val (.string a1_0), .val (.string a1_1), .val (.int .i64 a1_2), .val (.int .i64 a1_3), .lst 2 a1_4, .val (.string a1_5), .val (.int .i64 a1_6), .val (.int .i64 a1_7), .val (.string a1_8), .val (.string a1_9), .lst 11 a1_10], .lst 1 a2] k := by kernel_rfl

theorem m_serinettelaw05_BlockPlaces (N : Nat) : Meets Try.prog Inv 3 (KK_serinettelaw05_BlockPlaces (serinettelaw05_BlockPlaces N)) :=
  meets_of_pevL mixed stab (kgood stab (tab_cons (m_serinettelaw05_few N) (tab_cons (m_serinettelaw05_awake N) (tab_cons (m_serinetteref05_At N) (tab_cons m_block_At (tab_cons (m_serinetteref05_Put N) (tab_cons m_block_Put (tab_cons (m_serinetteref05_Same N) (tab_nil _ _)))))))) (tabH_nil _ _)) Try.func3 (by kernel_rfl) (by kernel_rfl) (by
    intro ds; unfold KK_serinettelaw05_BlockPlaces; split
    · exact .inr ⟨noL, [], 64, LGood.none _ _ _, fun k => r_serinettelaw05_BlockPlaces (serinettelaw05_awake N) (serinetteref05_Same N) block_Put (serinetteref05_Put N) block_At (serinetteref05_At N) (serinettelaw05_few N) _ _ _ _ _ _ _ _ _ _ _ _ _ _ _ _ _ _ _ _ _ _ _ k⟩
    · exact .inl (fun _ => rfl))

end Go.Proofs.Ytdfhakhapblhgaa
