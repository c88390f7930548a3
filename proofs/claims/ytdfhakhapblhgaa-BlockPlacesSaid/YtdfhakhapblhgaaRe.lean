/-
  Diagrams, read as plain functions.
-/
import Derived.Test.YtdfhakhapblhgaaRd
set_option linter.all false
namespace Go.Proofs.Ytdfhakhapblhgaa
open Go.Pv Go.RowKit
set_option maxRecDepth 100000
noncomputable def B_block_hasItsFields (f0 : ByteArray → (Int → Int → Int → Int → Bool → Bool → Bool → Bool → Option DV) → Option DV) (a0_0 a0_1 : ByteArray) (a0_2 a0_3 : Int) (a0_4 : List (List DV)) (a0_5 : ByteArray) (a0_6 a0_7 : Int) (a0_8 a0_9 : ByteArray) (a0_10 : List (List DV)) (k : KB) : Option DV :=
  f0 a0_0 (fun r1 r2 r3 r4 r5 r6 r7 r8 => bx (r8) (bx (((List.length a0_10 : Nat) : Int) == r3) (bx (!(decide (r4 ≥ 1))) (bx (a0_2 == 0) (bx (!(decide (r4 ≥ 2))) (bx (a0_3 == 0) (bx (!r5) (bx (((ByteArray.toList a0_5 == ByteArray.toList (⟨#[]⟩)) && ((a0_6 == 0) && ((a0_7 == 0) && ((ByteArray.toList a0_8 == ByteArray.toList (⟨#[]⟩)) && ((ByteArray.toList a0_9 == ByteArray.toList (⟨#[]⟩)) && true)))))) (bx (!r6) (bx ((ByteArray.toList a0_1 == ByteArray.toList (⟨#[]⟩))) (bx (!r7) (k (((List.length a0_4 : Nat) : Int) == 0)) (k true)) (k false)) (bx (!r7) (k (((List.length a0_4 : Nat) : Int) == 0)) (k true))) (k false)) (bx (!r6) (bx ((ByteArray.toList a0_1 == ByteArray.toList (⟨#[]⟩))) (bx (!r7) (k (((List.length a0_4 : Nat) : Int) == 0)) (k true)) (k false)) (bx (!r7) (k (((List.length a0_4 : Nat) : Int) == 0)) (k true)))) (k false)) (bx (!r5) (bx (((ByteArray.toList a0_5 == ByteArray.toList (⟨#[]⟩)) && ((a0_6 == 0) && ((a0_7 == 0) && ((ByteArray.toList a0_8 == ByteArray.toList (⟨#[]⟩)) && ((ByteArray.toList a0_9 == ByteArray.toList (⟨#[]⟩)) && true)))))) (bx (!r6) (bx ((ByteArray.toList a0_1 == ByteArray.toList (⟨#[]⟩))) (bx (!r7) (k (((List.length a0_4 : Nat) : Int) == 0)) (k true)) (k false)) (bx (!r7) (k (((List.length a0_4 : Nat) : Int) == 0)) (k true))) (k false)) (bx (!r6) (bx ((ByteArray.toList a0_1 == ByteArray.toList (⟨#[]⟩))) (bx (!r7) (k (((List.length a0_4 : Nat) : Int) == 0)) (k true)) (k false)) (bx (!r7) (k (((List.length a0_4 : Nat) : Int) == 0)) (k true))))) (k false)) (bx (!(decide (r4 ≥ 2))) (bx (a0_3 == 0) (bx (!r5) (bx (((ByteArray.toList a0_5 == ByteArray.toList (⟨#[]⟩)) && ((a0_6 == 0) && ((a0_7 == 0) && ((ByteArray.toList a0_8 == ByteArray.toList (⟨#[]⟩)) && ((ByteArray.toList a0_9 == ByteArray.toList (⟨#[]⟩)) && true)))))) (bx (!r6) (bx ((ByteArray.toList a0_1 == ByteArray.toList (⟨#[]⟩))) (bx (!r7) (k (((List.length a0_4 : Nat) : Int) == 0)) (k true)) (k false)) (bx (!r7) (k (((List.length a0_4 : Nat) : Int) == 0)) (k true))) (k false)) (bx (!r6) (bx ((ByteArray.toList a0_1 == ByteArray.toList (⟨#[]⟩))) (bx (!r7) (k (((List.length a0_4 : Nat) : Int) == 0)) (k true)) (k false)) (bx (!r7) (k (((List.length a0_4 : Nat) : Int) == 0)) (k true)))) (k false)) (bx (!r5) (bx (((ByteArray.toList a0_5 == ByteArray.toList (⟨#[]⟩)) && ((a0_6 == 0) && ((a0_7 == 0) && ((ByteArray.toList a0_8 == ByteArray.toList (⟨#[]⟩)) && ((ByteArray.toList a0_9 == ByteArray.toList (⟨#[]⟩)) && true)))))) (bx (!r6) (bx ((ByteArray.toList a0_1 == ByteArray.toList (⟨#[]⟩))) (bx (!r7) (k (((List.length a0_4 : Nat) : Int) == 0)) (k true)) (k false)) (bx (!r7) (k (((List.length a0_4 : Nat) : Int) == 0)) (k true))) (k false)) (bx (!r6) (bx ((ByteArray.toList a0_1 == ByteArray.toList (⟨#[]⟩))) (bx (!r7) (k (((List.length a0_4 : Nat) : Int) == 0)) (k true)) (k false)) (bx (!r7) (k (((List.length a0_4 : Nat) : Int) == 0)) (k true)))))) (k false)) (k false))

noncomputable def KK_block_hasItsFields (f0 : ByteArray → ByteArray → Int → Int → List (List DV) → ByteArray → Int → Int → ByteArray → ByteArray → List (List DV) → KB → Option DV) (ds : List DV) (k : DV → Option DV) : Option DV :=
  match ds with
  | [.agg [.val (.string a0_0), .val (.string a0_1), .val (.int .i64 a0_2), .val (.int .i64 a0_3), .lst 2 a0_4, .val (.string a0_5), .val (.int .i64 a0_6), .val (.int .i64 a0_7), .val (.string a0_8), .val (.string a0_9), .lst 11 a0_10]] => f0 a0_0 a0_1 a0_2 a0_3 a0_4 a0_5 a0_6 a0_7 a0_8 a0_9 a0_10 (fun r0_0 => k (.val (.bool r0_0)))
  | _ => none

noncomputable def block_hasItsFields (a0_0 a0_1 : ByteArray) (a0_2 a0_3 : Int) (a0_4 : List (List DV)) (a0_5 : ByteArray) (a0_6 a0_7 : Int) (a0_8 a0_9 : ByteArray) (a0_10 : List (List DV)) (k : KB) : Option DV := B_block_hasItsFields block_shapeOf a0_0 a0_1 a0_2 a0_3 a0_4 a0_5 a0_6 a0_7 a0_8 a0_9 a0_10 k

theorem r_block_hasItsFields (f0 : ByteArray → (Int → Int → Int → Int → Bool → Bool → Bool → Bool → Option DV) → Option DV) (a0_0 a0_1 : ByteArray) (a0_2 a0_3 : Int) (a0_4 : List (List DV)) (a0_5 : ByteArray) (a0_6 a0_7 : Int) (a0_8 a0_9 : ByteArray) (a0_10 : List (List DV)) (k : DV → Option DV) : B_block_hasItsFields f0 a0_0 a0_1 a0_2 a0_3 a0_4 a0_5 a0_6 a0_7 a0_8 a0_9 a0_10 (fun r0_0 => k (.val (.bool r0_0))) = pevL Try.prog (tab [(61, (KK_block_shapeOf f0))] []) noL [] 64 Try.f47 (bodyOf Try.f47) [.agg [.val (.string a0_0), .val (.string a0_1), .val (.int .i64 a0_2), .val (.int .i64 a0_3), .lst 2 a0_4, .val (.string a0_5), .val (.int .i64 a0_6), .val (.int .i64 a0_7), .val (.string a0_8), .val (.string a0_9), .lst 11 a0_10]] k := by kernel_rfl

theorem m_block_hasItsFields : Meets Try.prog Inv 47 (KK_block_hasItsFields block_hasItsFields) :=
  meets_of_pevL mixed stab (kgood stab (tab_cons m_block_shapeOf (tab_nil _ _)) (tabH_nil _ _)) Try.func47 (by kernel_rfl) (by kernel_rfl) (by
    intro ds; unfold KK_block_hasItsFields; split
    · exact .inr ⟨noL, [], 64, LGood.none _ _ _, fun k => r_block_hasItsFields block_shapeOf _ _ _ _ _ _ _ _ _ _ _ k⟩
    · exact .inl (fun _ => rfl))

inductive X_ratio_divisor_l1 where
  | h0 (x0 : Int) (x1 : Int)
def φ_ratio_divisor_l1 : X_ratio_divisor_l1 → Nat
  | .h0 x0 x1 => 200
noncomputable def S_ratio_divisor_l1 : X_ratio_divisor_l1 → St
  | .h0 x0 x1 => ⟨mkT [(0, .dv (.val (.int .u64 x0))), (1, .dv (.val (.int .u64 x1)))] (.leaf .dead), 12, []⟩

noncomputable def oc_ratio_divisor_l1 (k : KC) : KI := (fun y0 => k (.exit 0) ⟨mkT [(0, .dv (.val (.int .u64 y0)))] (.leaf .dead), 12, []⟩)

noncomputable def B_ratio_divisor_l1_h0  (p1 : X_ratio_divisor_l1 → Nat) (x0 : Int) (x1 : Int) (κn : X_ratio_divisor_l1 → Option DV) (κ0 : KI) : Option DV :=
  bx (x1 != 0) (bx (x1 == 0) none (κn (X_ratio_divisor_l1.h0 x1 (Int.tmod x0 x1)))) (κ0 x0)

noncomputable def F_ratio_divisor_l1  (p1 : X_ratio_divisor_l1 → Nat) : X_ratio_divisor_l1 → (X_ratio_divisor_l1 → Option DV) → (KI) → Option DV
  | .h0 x0 x1, κn, κ => B_ratio_divisor_l1_h0  p1 x0 x1 κn κ

noncomputable def dec_ratio_divisor_l1 (s : St) : Option X_ratio_divisor_l1 :=
  bindO (xN s.n 12) fun u => bindO (xD (s.tmps.get 0)) fun d1 => bindO (xI .u64 d1) fun x0 => bindO (xD (s.tmps.get 1)) fun d3 => bindO (xI .u64 d3) fun x1 => bindO (xEnd s.heap) fun u5 => some (.h0 x0 x1)

noncomputable def R_ratio_divisor_l1  (p1 : X_ratio_divisor_l1 → Nat) : St → KC → Option DV := decR dec_ratio_divisor_l1 (F_ratio_divisor_l1  p1) p1 oc_ratio_divisor_l1

theorem d_ratio_divisor_l1 : ∀ s x, dec_ratio_divisor_l1 s = some x → SLe s (S_ratio_divisor_l1 x) := by
  intro s x h
  unfold dec_ratio_divisor_l1 at h
  · obtain ⟨u, en, h⟩ := bindO_some h
    obtain ⟨d1, e1, h⟩ := bindO_some h
    obtain ⟨x0, e2, h⟩ := bindO_some h
    obtain ⟨d3, e3, h⟩ := bindO_some h
    obtain ⟨x1, e4, h⟩ := bindO_some h
    obtain ⟨u5, e5, h⟩ := bindO_some h
    cases h
    exact ⟨le_mkT _ _ (Le.dead _) ⟨.inr ((xD_eq e1).trans (congrArg VV.dv (xI_eq e2))), .inr ((xD_eq e3).trans (congrArg VV.dv (xI_eq e4))), trivial⟩, (xN_eq en).symm, by rw [xEnd_eq e5]; rfl⟩
noncomputable def B_ratio_divisor  (p1 : X_ratio_divisor_l1 → Nat) (a0 a1 : Int) (k : KI) : Option DV :=
  LF (F_ratio_divisor_l1  p1) (p1 (X_ratio_divisor_l1.h0 a0 a1)) (X_ratio_divisor_l1.h0 a0 a1) ((fun z1_0 => k z1_0))

noncomputable def KK_ratio_divisor (f0 : Int → Int → KI → Option DV) (ds : List DV) (k : DV → Option DV) : Option DV :=
  match ds with
  | [.val (.int .u64 a0), .val (.int .u64 a1)] => f0 a0 a1 (fun r0_0 => k (.val (.int .u64 r0_0)))
  | _ => none

noncomputable def ratio_divisor (a0 a1 : Int) (k : KI) : Option DV := B_ratio_divisor  φ_ratio_divisor_l1 a0 a1 k

theorem q_ratio_divisor_l1_h0  (p1 : X_ratio_divisor_l1 → Nat) (x0 : Int) (x1 : Int) (κn : St → Option DV) (κ : KC) : pev Try.prog (tab [] []) (ltab [(1, R_ratio_divisor_l1  p1)]) [(0, [0]), (0, []), (1, [0, 1]), (100001, [0])] 64 (loopB (bodyOf Try.f82) 0) (S_ratio_divisor_l1 (.h0 x0 x1)) (contL 0 [0, 1] [0] κn κ) = F_ratio_divisor_l1  p1 (.h0 x0 x1) (fun x => κn (S_ratio_divisor_l1 x)) (oc_ratio_divisor_l1 κ) := by kernel_rfl

theorem g_ratio_divisor_l1  (p1 : X_ratio_divisor_l1 → Nat) (HK : KGood Try.prog Inv (tab [] [])) : RGood 0 Try.prog Inv (loopB (bodyOf Try.f82) 0) (R_ratio_divisor_l1  p1) :=
  have hL : LGood 0 Try.prog Inv (ltab [(1, R_ratio_divisor_l1  p1)]) (loopB (bodyOf Try.f82) 0) := (lgood_of (bs := []) (by kernel_rfl) lgood_nil)
  rgood_dec (body := fun s k => pev Try.prog (tab [] []) (ltab [(1, R_ratio_divisor_l1  p1)]) [(0, [0]), (0, []), (1, [0, 1]), (100001, [0])] 64 (loopB (bodyOf Try.f82) 0) s k) (live := [0, 1]) (out := [0]) (S := S_ratio_divisor_l1) (pev_ok mixed HK (ltab [(1, R_ratio_divisor_l1  p1)]) [(0, [0]), (0, []), (1, [0, 1]), (100001, [0])] 64 _ hL) (pev_nat HK (ltab [(1, R_ratio_divisor_l1  p1)]) [(0, [0]), (0, []), (1, [0, 1]), (100001, [0])] 64 _ hL)
    (fun x κn κ => match x with
      | .h0 _ _ => q_ratio_divisor_l1_h0  p1 _ _ κn κ
    ) d_ratio_divisor_l1 p1

theorem r_ratio_divisor  (p1 : X_ratio_divisor_l1 → Nat) (a0 a1 : Int) (k : DV → Option DV) : B_ratio_divisor  p1 a0 a1 (fun r0_0 => k (.val (.int .u64 r0_0))) = pevL Try.prog (tab [] []) (ltab [(1, R_ratio_divisor_l1  p1)]) [(0, [0]), (0, []), (1, [0, 1]), (100001, [0])] 64 Try.f82 (bodyOf Try.f82) [.val (.int .u64 a0), .val (.int .u64 a1)] k := by kernel_rfl

theorem m_ratio_divisor : Meets Try.prog Inv 82 (KK_ratio_divisor ratio_divisor) :=
  meets_of_pevL mixed stab (kgood stab (tab_nil _ _) (tabH_nil _ _)) Try.func82 (by kernel_rfl) (by kernel_rfl) (by
    intro ds; unfold KK_ratio_divisor; split
    · exact .inr ⟨(ltab [(1, R_ratio_divisor_l1  φ_ratio_divisor_l1)]), [(0, [0]), (0, []), (1, [0, 1]), (100001, [0])], 64, lgood_of (bs := [loopB (bodyOf Try.f82) 0]) (by kernel_rfl) (lgood_cons (by kernel_rfl) (g_ratio_divisor_l1  φ_ratio_divisor_l1 (kgood stab (tab_nil _ _) (tabH_nil _ _))) lgood_nil), fun k => r_ratio_divisor  φ_ratio_divisor_l1 _ _ k⟩
    · exact .inl (fun _ => rfl))

noncomputable def B_ratio_size  (a0 : Int) (k : KI) : Option DV :=
  bx (decide (a0 < 0)) (k (IntKind.wrap .u64 (0 - (IntKind.wrap .u64 (a0))))) (k (IntKind.wrap .u64 (a0)))

noncomputable def KK_ratio_size (f0 : Int → KI → Option DV) (ds : List DV) (k : DV → Option DV) : Option DV :=
  match ds with
  | [.val (.int .i64 a0)] => f0 a0 (fun r0_0 => k (.val (.int .u64 r0_0)))
  | _ => none

noncomputable def ratio_size (a0 : Int) (k : KI) : Option DV := B_ratio_size  a0 k

theorem r_ratio_size  (a0 : Int) (k : DV → Option DV) : B_ratio_size  a0 (fun r0_0 => k (.val (.int .u64 r0_0))) = pevL Try.prog (tab [] []) noL [] 64 Try.f83 (bodyOf Try.f83) [.val (.int .i64 a0)] k := by kernel_rfl

theorem m_ratio_size : Meets Try.prog Inv 83 (KK_ratio_size ratio_size) :=
  meets_of_pevL mixed stab (kgood stab (tab_nil _ _) (tabH_nil _ _)) Try.func83 (by kernel_rfl) (by kernel_rfl) (by
    intro ds; unfold KK_ratio_size; split
    · exact .inr ⟨noL, [], 64, LGood.none _ _ _, fun k => r_ratio_size  _ k⟩
    · exact .inl (fun _ => rfl))

noncomputable def B_ratio_Is (f0 : Int → Int → KI → Option DV) (f1 : Int → KI → Option DV) (a0_0 a0_1 : Int) (k : KB) : Option DV :=
  bx (!(decide (a0_0 < (-1073741824)))) (bx (!(decide (a0_0 > 1073741824))) (bx (!(decide (a0_1 < 1))) (bx (decide (a0_1 > 1073741824)) (k false) (f1 a0_0 (fun r1 => f1 a0_1 (fun r2 => f0 r1 r2 (fun r3 => k (r3 == 1)))))) (k false)) (k false)) (k false)

noncomputable def KK_ratio_Is (f0 : Int → Int → KB → Option DV) (ds : List DV) (k : DV → Option DV) : Option DV :=
  match ds with
  | [.val (.agg ⟨[.int .i64 a0_0, .int .i64 a0_1]⟩)] => f0 a0_0 a0_1 (fun r0_0 => k (.val (.bool r0_0)))
  | _ => none

noncomputable def ratio_Is (a0_0 a0_1 : Int) (k : KB) : Option DV := B_ratio_Is ratio_divisor ratio_size a0_0 a0_1 k

theorem r_ratio_Is (f0 : Int → Int → KI → Option DV) (f1 : Int → KI → Option DV) (a0_0 a0_1 : Int) (k : DV → Option DV) : B_ratio_Is f0 f1 a0_0 a0_1 (fun r0_0 => k (.val (.bool r0_0))) = pevL Try.prog (tab [(82, (KK_ratio_divisor f0)), (83, (KK_ratio_size f1))] []) noL [] 64 Try.f70 (bodyOf Try.f70) [.val (.agg ⟨[.int .i64 a0_0, .int .i64 a0_1]⟩)] k := by kernel_rfl

theorem m_ratio_Is : Meets Try.prog Inv 70 (KK_ratio_Is ratio_Is) :=
  meets_of_pevL mixed stab (kgood stab (tab_cons m_ratio_divisor (tab_cons m_ratio_size (tab_nil _ _))) (tabH_nil _ _)) Try.func70 (by kernel_rfl) (by kernel_rfl) (by
    intro ds; unfold KK_ratio_Is; split
    · exact .inr ⟨noL, [], 64, LGood.none _ _ _, fun k => r_ratio_Is ratio_divisor ratio_size _ _ k⟩
    · exact .inl (fun _ => rfl))

noncomputable def B_ratio_Valid (f0 : Int → Int → KB → Option DV) (a0_0 a0_1 : Int) (k : KB) : Option DV :=
  bx (!((a0_0 == 0) && ((a0_1 == 0) && true))) (f0 a0_0 a0_1 (fun r1 => k r1)) (k true)

noncomputable def KK_ratio_Valid (f0 : Int → Int → KB → Option DV) (ds : List DV) (k : DV → Option DV) : Option DV :=
  match ds with
  | [.val (.agg ⟨[.int .i64 a0_0, .int .i64 a0_1]⟩)] => f0 a0_0 a0_1 (fun r0_0 => k (.val (.bool r0_0)))
  | _ => none

noncomputable def ratio_Valid (a0_0 a0_1 : Int) (k : KB) : Option DV := B_ratio_Valid ratio_Is a0_0 a0_1 k

theorem r_ratio_Valid (f0 : Int → Int → KB → Option DV) (a0_0 a0_1 : Int) (k : DV → Option DV) : B_ratio_Valid f0 a0_0 a0_1 (fun r0_0 => k (.val (.bool r0_0))) = pevL Try.prog (tab [(70, (KK_ratio_Is f0))] []) noL [] 64 Try.f62 (bodyOf Try.f62) [.val (.agg ⟨[.int .i64 a0_0, .int .i64 a0_1]⟩)] k := by kernel_rfl

theorem m_ratio_Valid : Meets Try.prog Inv 62 (KK_ratio_Valid ratio_Valid) :=
  meets_of_pevL mixed stab (kgood stab (tab_cons m_ratio_Is (tab_nil _ _)) (tabH_nil _ _)) Try.func62 (by kernel_rfl) (by kernel_rfl) (by
    intro ds; unfold KK_ratio_Valid; split
    · exact .inr ⟨noL, [], 64, LGood.none _ _ _, fun k => r_ratio_Valid ratio_Is _ _ k⟩
    · exact .inl (fun _ => rfl))

noncomputable def B_quant_hasSizes  (a0_0 : ByteArray) (a0_1 a0_2 : Int) (a0_3 a0_4 : ByteArray) (k : KB) : Option DV :=
  bx ((ByteArray.toList a0_0 == ByteArray.toList (⟨#[102, 105, 120]⟩))) (bx (decide (0 ≤ a0_1)) (bx (decide (a0_1 ≤ 30)) (bx (decide (0 ≤ a0_2)) (bx (decide (a0_2 ≤ 30)) (k (decide (IntKind.wrap .i64 (a0_1 + a0_2) ≤ 30))) (k false)) (k false)) (k false)) (k false)) (bx ((ByteArray.toList a0_0 == ByteArray.toList (⟨#[102, 108, 111, 97, 116]⟩))) (bx (decide (1 ≤ a0_1)) (bx (decide (a0_1 ≤ 24)) (bx (decide (0 ≤ a0_2)) (bx (decide (a0_2 ≤ 20)) (k (decide (IntKind.wrap .i64 (a0_1 + a0_2) ≤ 30))) (k false)) (k false)) (k false)) (k false)) (k false))

noncomputable def KK_quant_hasSizes (f0 : ByteArray → Int → Int → ByteArray → ByteArray → KB → Option DV) (ds : List DV) (k : DV → Option DV) : Option DV :=
  match ds with
  | [.val (.agg ⟨[.string a0_0, .int .i64 a0_1, .int .i64 a0_2, .string a0_3, .string a0_4]⟩)] => f0 a0_0 a0_1 a0_2 a0_3 a0_4 (fun r0_0 => k (.val (.bool r0_0)))
  | _ => none

noncomputable def quant_hasSizes (a0_0 : ByteArray) (a0_1 a0_2 : Int) (a0_3 a0_4 : ByteArray) (k : KB) : Option DV := B_quant_hasSizes  a0_0 a0_1 a0_2 a0_3 a0_4 k

theorem r_quant_hasSizes  (a0_0 : ByteArray) (a0_1 a0_2 : Int) (a0_3 a0_4 : ByteArray) (k : DV → Option DV) : B_quant_hasSizes  a0_0 a0_1 a0_2 a0_3 a0_4 (fun r0_0 => k (.val (.bool r0_0))) = pevL Try.prog (tab [] []) noL [] 64 Try.f73 (bodyOf Try.f73) [.val (.agg ⟨[.string a0_0, .int .i64 a0_1, .int .i64 a0_2, .string a0_3, .string a0_4]⟩)] k := by kernel_rfl

theorem m_quant_hasSizes : Meets Try.prog Inv 73 (KK_quant_hasSizes quant_hasSizes) :=
  meets_of_pevL mixed stab (kgood stab (tab_nil _ _) (tabH_nil _ _)) Try.func73 (by kernel_rfl) (by kernel_rfl) (by
    intro ds; unfold KK_quant_hasSizes; split
    · exact .inr ⟨noL, [], 64, LGood.none _ _ _, fun k => r_quant_hasSizes  _ _ _ _ _ k⟩
    · exact .inl (fun _ => rfl))

noncomputable def B_quant_hasRound  (a0_0 : ByteArray) (a0_1 a0_2 : Int) (a0_3 a0_4 : ByteArray) (k : KB) : Option DV :=
  bx (!(ByteArray.toList a0_3 == ByteArray.toList (⟨#[102, 108, 111, 111, 114]⟩))) (bx (!(ByteArray.toList a0_3 == ByteArray.toList (⟨#[110, 101, 97, 114]⟩))) (k (ByteArray.toList a0_3 == ByteArray.toList (⟨#[122, 101, 114, 111]⟩))) (k true)) (k true)

noncomputable def KK_quant_hasRound (f0 : ByteArray → Int → Int → ByteArray → ByteArray → KB → Option DV) (ds : List DV) (k : DV → Option DV) : Option DV :=
  match ds with
  | [.val (.agg ⟨[.string a0_0, .int .i64 a0_1, .int .i64 a0_2, .string a0_3, .string a0_4]⟩)] => f0 a0_0 a0_1 a0_2 a0_3 a0_4 (fun r0_0 => k (.val (.bool r0_0)))
  | _ => none

noncomputable def quant_hasRound (a0_0 : ByteArray) (a0_1 a0_2 : Int) (a0_3 a0_4 : ByteArray) (k : KB) : Option DV := B_quant_hasRound  a0_0 a0_1 a0_2 a0_3 a0_4 k

theorem r_quant_hasRound  (a0_0 : ByteArray) (a0_1 a0_2 : Int) (a0_3 a0_4 : ByteArray) (k : DV → Option DV) : B_quant_hasRound  a0_0 a0_1 a0_2 a0_3 a0_4 (fun r0_0 => k (.val (.bool r0_0))) = pevL Try.prog (tab [] []) noL [] 64 Try.f74 (bodyOf Try.f74) [.val (.agg ⟨[.string a0_0, .int .i64 a0_1, .int .i64 a0_2, .string a0_3, .string a0_4]⟩)] k := by kernel_rfl

theorem m_quant_hasRound : Meets Try.prog Inv 74 (KK_quant_hasRound quant_hasRound) :=
  meets_of_pevL mixed stab (kgood stab (tab_nil _ _) (tabH_nil _ _)) Try.func74 (by kernel_rfl) (by kernel_rfl) (by
    intro ds; unfold KK_quant_hasRound; split
    · exact .inr ⟨noL, [], 64, LGood.none _ _ _, fun k => r_quant_hasRound  _ _ _ _ _ k⟩
    · exact .inl (fun _ => rfl))

noncomputable def B_quant_hasOver  (a0_0 : ByteArray) (a0_1 a0_2 : Int) (a0_3 a0_4 : ByteArray) (k : KB) : Option DV :=
  bx (!(ByteArray.toList a0_4 == ByteArray.toList (⟨#[115, 97, 116]⟩))) (bx (!(ByteArray.toList a0_4 == ByteArray.toList (⟨#[110, 111, 110, 101]⟩))) (bx ((ByteArray.toList a0_4 == ByteArray.toList (⟨#[119, 114, 97, 112]⟩))) (k (ByteArray.toList a0_0 == ByteArray.toList (⟨#[102, 105, 120]⟩))) (k false)) (k true)) (k true)

noncomputable def KK_quant_hasOver (f0 : ByteArray → Int → Int → ByteArray → ByteArray → KB → Option DV) (ds : List DV) (k : DV → Option DV) : Option DV :=
  match ds with
  | [.val (.agg ⟨[.string a0_0, .int .i64 a0_1, .int .i64 a0_2, .string a0_3, .string a0_4]⟩)] => f0 a0_0 a0_1 a0_2 a0_3 a0_4 (fun r0_0 => k (.val (.bool r0_0)))
  | _ => none

noncomputable def quant_hasOver (a0_0 : ByteArray) (a0_1 a0_2 : Int) (a0_3 a0_4 : ByteArray) (k : KB) : Option DV := B_quant_hasOver  a0_0 a0_1 a0_2 a0_3 a0_4 k

theorem r_quant_hasOver  (a0_0 : ByteArray) (a0_1 a0_2 : Int) (a0_3 a0_4 : ByteArray) (k : DV → Option DV) : B_quant_hasOver  a0_0 a0_1 a0_2 a0_3 a0_4 (fun r0_0 => k (.val (.bool r0_0))) = pevL Try.prog (tab [] []) noL [] 64 Try.f75 (bodyOf Try.f75) [.val (.agg ⟨[.string a0_0, .int .i64 a0_1, .int .i64 a0_2, .string a0_3, .string a0_4]⟩)] k := by kernel_rfl

theorem m_quant_hasOver : Meets Try.prog Inv 75 (KK_quant_hasOver quant_hasOver) :=
  meets_of_pevL mixed stab (kgood stab (tab_nil _ _) (tabH_nil _ _)) Try.func75 (by kernel_rfl) (by kernel_rfl) (by
    intro ds; unfold KK_quant_hasOver; split
    · exact .inr ⟨noL, [], 64, LGood.none _ _ _, fun k => r_quant_hasOver  _ _ _ _ _ k⟩
    · exact .inl (fun _ => rfl))

noncomputable def B_quant_Valid (f0 : ByteArray → Int → Int → ByteArray → ByteArray → KB → Option DV) (f1 : ByteArray → Int → Int → ByteArray → ByteArray → KB → Option DV) (f2 : ByteArray → Int → Int → ByteArray → ByteArray → KB → Option DV) (a0_0 : ByteArray) (a0_1 a0_2 : Int) (a0_3 a0_4 : ByteArray) (k : KB) : Option DV :=
  f2 a0_0 a0_1 a0_2 a0_3 a0_4 (fun r1 => bx (r1) (f1 a0_0 a0_1 a0_2 a0_3 a0_4 (fun r2 => bx (r2) (f0 a0_0 a0_1 a0_2 a0_3 a0_4 (fun r3 => k r3)) (k false))) (k false))

noncomputable def KK_quant_Valid (f0 : ByteArray → Int → Int → ByteArray → ByteArray → KB → Option DV) (ds : List DV) (k : DV → Option DV) : Option DV :=
  match ds with
  | [.val (.agg ⟨[.string a0_0, .int .i64 a0_1, .int .i64 a0_2, .string a0_3, .string a0_4]⟩)] => f0 a0_0 a0_1 a0_2 a0_3 a0_4 (fun r0_0 => k (.val (.bool r0_0)))
  | _ => none

noncomputable def quant_Valid (a0_0 : ByteArray) (a0_1 a0_2 : Int) (a0_3 a0_4 : ByteArray) (k : KB) : Option DV := B_quant_Valid quant_hasOver quant_hasRound quant_hasSizes a0_0 a0_1 a0_2 a0_3 a0_4 k

theorem r_quant_Valid (f0 : ByteArray → Int → Int → ByteArray → ByteArray → KB → Option DV) (f1 : ByteArray → Int → Int → ByteArray → ByteArray → KB → Option DV) (f2 : ByteArray → Int → Int → ByteArray → ByteArray → KB → Option DV) (a0_0 : ByteArray) (a0_1 a0_2 : Int) (a0_3 a0_4 : ByteArray) (k : DV → Option DV) : B_quant_Valid f0 f1 f2 a0_0 a0_1 a0_2 a0_3 a0_4 (fun r0_0 => k (.val (.bool r0_0))) = pevL Try.prog (tab [(73, (KK_quant_hasSizes f2)), (74, (KK_quant_hasRound f1)), (75, (KK_quant_hasOver f0))] []) noL [] 64 Try.f63 (bodyOf Try.f63) [.val (.agg ⟨[.string a0_0, .int .i64 a0_1, .int .i64 a0_2, .string a0_3, .string a0_4]⟩)] k := by kernel_rfl

theorem m_quant_Valid : Meets Try.prog Inv 63 (KK_quant_Valid quant_Valid) :=
  meets_of_pevL mixed stab (kgood stab (tab_cons m_quant_hasSizes (tab_cons m_quant_hasRound (tab_cons m_quant_hasOver (tab_nil _ _)))) (tabH_nil _ _)) Try.func63 (by kernel_rfl) (by kernel_rfl) (by
    intro ds; unfold KK_quant_Valid; split
    · exact .inr ⟨noL, [], 64, LGood.none _ _ _, fun k => r_quant_Valid quant_hasOver quant_hasRound quant_hasSizes _ _ _ _ _ k⟩
    · exact .inl (fun _ => rfl))

noncomputable def B_block_isTable_1 (f0 : Int → Int → KB → Option DV) (a0_0 a0_1 : Int) (k : KB) : Option DV :=
  f0 a0_0 a0_1 (fun r1 => k (!r1))

noncomputable def KK_block_isTable_1 (f0 : Int → Int → KB → Option DV) (ds : List DV) (k : DV → Option DV) : Option DV :=
  match ds with
  | [.val (.agg ⟨[.int .i64 a0_0, .int .i64 a0_1]⟩)] => f0 a0_0 a0_1 (fun r0_0 => k (.val (.bool r0_0)))
  | _ => none

noncomputable def block_isTable_1 (a0_0 a0_1 : Int) (k : KB) : Option DV := B_block_isTable_1 ratio_Valid a0_0 a0_1 k

theorem r_block_isTable_1 (f0 : Int → Int → KB → Option DV) (a0_0 a0_1 : Int) (k : DV → Option DV) : B_block_isTable_1 f0 a0_0 a0_1 (fun r0_0 => k (.val (.bool r0_0))) = pevL Try.prog (tab [(62, (KK_ratio_Valid f0))] []) noL [] 64 Try.f77 (bodyOf Try.f77) [.val (.agg ⟨[.int .i64 a0_0, .int .i64 a0_1]⟩)] k := by kernel_rfl

theorem m_block_isTable_1 : Meets Try.prog Inv 77 (KK_block_isTable_1 block_isTable_1) :=
  meets_of_pevL mixed stab (kgood stab (tab_cons m_ratio_Valid (tab_nil _ _)) (tabH_nil _ _)) Try.func77 (by kernel_rfl) (by kernel_rfl) (by
    intro ds; unfold KK_block_isTable_1; split
    · exact .inr ⟨noL, [], 64, LGood.none _ _ _, fun k => r_block_isTable_1 ratio_Valid _ _ k⟩
    · exact .inl (fun _ => rfl))

noncomputable def B_block_isControl_1 (f0 : Int → Int → KB → Option DV) (a0_0 a0_1 : Int) (k : KB) : Option DV :=
  f0 a0_0 a0_1 (fun r1 => k (!r1))

noncomputable def KK_block_isControl_1 (f0 : Int → Int → KB → Option DV) (ds : List DV) (k : DV → Option DV) : Option DV :=
  match ds with
  | [.val (.agg ⟨[.int .i64 a0_0, .int .i64 a0_1]⟩)] => f0 a0_0 a0_1 (fun r0_0 => k (.val (.bool r0_0)))
  | _ => none

noncomputable def block_isControl_1 (a0_0 a0_1 : Int) (k : KB) : Option DV := B_block_isControl_1 ratio_Is a0_0 a0_1 k

theorem r_block_isControl_1 (f0 : Int → Int → KB → Option DV) (a0_0 a0_1 : Int) (k : DV → Option DV) : B_block_isControl_1 f0 a0_0 a0_1 (fun r0_0 => k (.val (.bool r0_0))) = pevL Try.prog (tab [(70, (KK_ratio_Is f0))] []) noL [] 64 Try.f79 (bodyOf Try.f79) [.val (.agg ⟨[.int .i64 a0_0, .int .i64 a0_1]⟩)] k := by kernel_rfl

theorem m_block_isControl_1 : Meets Try.prog Inv 79 (KK_block_isControl_1 block_isControl_1) :=
  meets_of_pevL mixed stab (kgood stab (tab_cons m_ratio_Is (tab_nil _ _)) (tabH_nil _ _)) Try.func79 (by kernel_rfl) (by kernel_rfl) (by
    intro ds; unfold KK_block_isControl_1; split
    · exact .inr ⟨noL, [], 64, LGood.none _ _ _, fun k => r_block_isControl_1 ratio_Is _ _ k⟩
    · exact .inl (fun _ => rfl))

noncomputable def ld_ii (e : List DV) (o : Nat) (k : KQ) : Option DV :=
  bx (isI .i64 (nth e o)) (bx (isI .i64 (nth e (o + 1))) (k (asI (nth e o)) (asI (nth e (o + 1)))) none) none

inductive X_slices_IndexFunc_serinette_api_Q_block_isTable_1_l2 where
  | h0 (x0 : List (List DV)) (x1 : Int) (x2 : Int)
def φ_slices_IndexFunc_serinette_api_Q_block_isTable_1_l2 : X_slices_IndexFunc_serinette_api_Q_block_isTable_1_l2 → Nat
  | .h0 x0 x1 x2 => Int.toNat (x1 - x2) + 1
noncomputable def S_slices_IndexFunc_serinette_api_Q_block_isTable_1_l2 : X_slices_IndexFunc_serinette_api_Q_block_isTable_1_l2 → St
  | .h0 x0 x1 x2 => ⟨mkT [(0, .dv (.lst 2 x0)), (1, .dv (.val (.func (.func 77) ⟨[]⟩ ⟨[]⟩))), (7, .dv (.val (.int .i64 x1))), (8, .dv (.val (.int .i64 x2)))] (.leaf .dead), 19, []⟩

noncomputable def oc_slices_IndexFunc_serinette_api_Q_block_isTable_1_l2 (k : KC) : KI × (Option DV) := (fun y0 => k .ret ⟨mkT [(4, .dv (.val (.int .i64 y0)))] (.leaf .dead), 19, []⟩, k (.exit 0) ⟨mkT [(4, .dead)] (.leaf .dead), 19, []⟩)

noncomputable def B_slices_IndexFunc_serinette_api_Q_block_isTable_1_l2_h0 (f0 : Int → Int → KB → Option DV) (x0 : List (List DV)) (x1 : Int) (x2 : Int) (κn : X_slices_IndexFunc_serinette_api_Q_block_isTable_1_l2 → Option DV) (κ0 : KI) (κ1 : Option DV) : Option DV :=
  bx (decide (x2 < x1)) (bx (decide (0 ≤ x2)) (optE (x0[Int.toNat x2]?) (fun e1 => ld_ii e1 0 (fun v2 v3 => f0 v2 v3 (fun r4 => bx (r4) (κ0 x2) (κn (X_slices_IndexFunc_serinette_api_Q_block_isTable_1_l2.h0 x0 x1 (IntKind.wrap .i64 (x2 + 1)))))))) none) κ1

noncomputable def F_slices_IndexFunc_serinette_api_Q_block_isTable_1_l2 (f0 : Int → Int → KB → Option DV) : X_slices_IndexFunc_serinette_api_Q_block_isTable_1_l2 → (X_slices_IndexFunc_serinette_api_Q_block_isTable_1_l2 → Option DV) → (KI × (Option DV)) → Option DV
  | .h0 x0 x1 x2, κn, κ => B_slices_IndexFunc_serinette_api_Q_block_isTable_1_l2_h0 f0 x0 x1 x2 κn κ.1 κ.2

noncomputable def dec_slices_IndexFunc_serinette_api_Q_block_isTable_1_l2 (s : St) : Option X_slices_IndexFunc_serinette_api_Q_block_isTable_1_l2 :=
  bindO (xN s.n 19) fun u => bindO (xD (s.tmps.get 0)) fun d1 => bindO (xL 2 d1) fun x0 => bindO (xD (s.tmps.get 1)) fun d3 => bindO (xF 77 d3) fun u4 => bindO (xD (s.tmps.get 7)) fun d5 => bindO (xI .i64 d5) fun x1 => bindO (xD (s.tmps.get 8)) fun d7 => bindO (xI .i64 d7) fun x2 => bindO (xEnd s.heap) fun u9 => some (.h0 x0 x1 x2)

noncomputable def R_slices_IndexFunc_serinette_api_Q_block_isTable_1_l2 (f0 : Int → Int → KB → Option DV) : St → KC → Option DV := decR dec_slices_IndexFunc_serinette_api_Q_block_isTable_1_l2 (F_slices_IndexFunc_serinette_api_Q_block_isTable_1_l2 f0) φ_slices_IndexFunc_serinette_api_Q_block_isTable_1_l2 oc_slices_IndexFunc_serinette_api_Q_block_isTable_1_l2

theorem d_slices_IndexFunc_serinette_api_Q_block_isTable_1_l2 : ∀ s x, dec_slices_IndexFunc_serinette_api_Q_block_isTable_1_l2 s = some x → SLe s (S_slices_IndexFunc_serinette_api_Q_block_isTable_1_l2 x) := by
  intro s x h
  unfold dec_slices_IndexFunc_serinette_api_Q_block_isTable_1_l2 at h
  · obtain ⟨u, en, h⟩ := bindO_some h
    obtain ⟨d1, e1, h⟩ := bindO_some h
    obtain ⟨x0, e2, h⟩ := bindO_some h
    obtain ⟨d3, e3, h⟩ := bindO_some h
    obtain ⟨u4, e4, h⟩ := bindO_some h
    obtain ⟨d5, e5, h⟩ := bindO_some h
    obtain ⟨x1, e6, h⟩ := bindO_some h
    obtain ⟨d7, e7, h⟩ := bindO_some h
    obtain ⟨x2, e8, h⟩ := bindO_some h
    obtain ⟨u9, e9, h⟩ := bindO_some h
    cases h
    exact ⟨le_mkT _ _ (Le.dead _) ⟨.inr ((xD_eq e1).trans (congrArg VV.dv (xL_eq e2))), .inr ((xD_eq e3).trans (congrArg VV.dv (xF_eq e4))), .inr ((xD_eq e5).trans (congrArg VV.dv (xI_eq e6))), .inr ((xD_eq e7).trans (congrArg VV.dv (xI_eq e8))), trivial⟩, (xN_eq en).symm, by rw [xEnd_eq e9]; rfl⟩
noncomputable def B_slices_IndexFunc_serinette_api_Q_block_isTable_1 (f0 : Int → Int → KB → Option DV) (a0 : List (List DV)) (k : KI) : Option DV :=
  LF (F_slices_IndexFunc_serinette_api_Q_block_isTable_1_l2 f0) (φ_slices_IndexFunc_serinette_api_Q_block_isTable_1_l2 (X_slices_IndexFunc_serinette_api_Q_block_isTable_1_l2.h0 a0 ((List.length a0 : Nat) : Int) 0)) (X_slices_IndexFunc_serinette_api_Q_block_isTable_1_l2.h0 a0 ((List.length a0 : Nat) : Int) 0) ((fun z5_0 => k z5_0), (k (-1)))
inductive X_slices_IndexFunc_serinette_api_Q_block_isControl_1_l2 where
  | h0 (x0 : List (List DV)) (x1 : Int) (x2 : Int)
def φ_slices_IndexFunc_serinette_api_Q_block_isControl_1_l2 : X_slices_IndexFunc_serinette_api_Q_block_isControl_1_l2 → Nat
  | .h0 x0 x1 x2 => Int.toNat (x1 - x2) + 1
noncomputable def S_slices_IndexFunc_serinette_api_Q_block_isControl_1_l2 : X_slices_IndexFunc_serinette_api_Q_block_isControl_1_l2 → St
  | .h0 x0 x1 x2 => ⟨mkT [(0, .dv (.lst 2 x0)), (1, .dv (.val (.func (.func 79) ⟨[]⟩ ⟨[]⟩))), (7, .dv (.val (.int .i64 x1))), (8, .dv (.val (.int .i64 x2)))] (.leaf .dead), 19, []⟩

noncomputable def oc_slices_IndexFunc_serinette_api_Q_block_isControl_1_l2 (k : KC) : KI × (Option DV) := (fun y0 => k .ret ⟨mkT [(4, .dv (.val (.int .i64 y0)))] (.leaf .dead), 19, []⟩, k (.exit 0) ⟨mkT [(4, .dead)] (.leaf .dead), 19, []⟩)

noncomputable def B_slices_IndexFunc_serinette_api_Q_block_isControl_1_l2_h0 (f0 : Int → Int → KB → Option DV) (x0 : List (List DV)) (x1 : Int) (x2 : Int) (κn : X_slices_IndexFunc_serinette_api_Q_block_isControl_1_l2 → Option DV) (κ0 : KI) (κ1 : Option DV) : Option DV :=
  bx (decide (x2 < x1)) (bx (decide (0 ≤ x2)) (optE (x0[Int.toNat x2]?) (fun e1 => ld_ii e1 0 (fun v2 v3 => f0 v2 v3 (fun r4 => bx (r4) (κ0 x2) (κn (X_slices_IndexFunc_serinette_api_Q_block_isControl_1_l2.h0 x0 x1 (IntKind.wrap .i64 (x2 + 1)))))))) none) κ1

noncomputable def F_slices_IndexFunc_serinette_api_Q_block_isControl_1_l2 (f0 : Int → Int → KB → Option DV) : X_slices_IndexFunc_serinette_api_Q_block_isControl_1_l2 → (X_slices_IndexFunc_serinette_api_Q_block_isControl_1_l2 → Option DV) → (KI × (Option DV)) → Option DV
  | .h0 x0 x1 x2, κn, κ => B_slices_IndexFunc_serinette_api_Q_block_isControl_1_l2_h0 f0 x0 x1 x2 κn κ.1 κ.2

noncomputable def dec_slices_IndexFunc_serinette_api_Q_block_isControl_1_l2 (s : St) : Option X_slices_IndexFunc_serinette_api_Q_block_isControl_1_l2 :=
  bindO (xN s.n 19) fun u => bindO (xD (s.tmps.get 0)) fun d1 => bindO (xL 2 d1) fun x0 => bindO (xD (s.tmps.get 1)) fun d3 => bindO (xF 79 d3) fun u4 => bindO (xD (s.tmps.get 7)) fun d5 => bindO (xI .i64 d5) fun x1 => bindO (xD (s.tmps.get 8)) fun d7 => bindO (xI .i64 d7) fun x2 => bindO (xEnd s.heap) fun u9 => some (.h0 x0 x1 x2)

noncomputable def R_slices_IndexFunc_serinette_api_Q_block_isControl_1_l2 (f0 : Int → Int → KB → Option DV) : St → KC → Option DV := decR dec_slices_IndexFunc_serinette_api_Q_block_isControl_1_l2 (F_slices_IndexFunc_serinette_api_Q_block_isControl_1_l2 f0) φ_slices_IndexFunc_serinette_api_Q_block_isControl_1_l2 oc_slices_IndexFunc_serinette_api_Q_block_isControl_1_l2

theorem d_slices_IndexFunc_serinette_api_Q_block_isControl_1_l2 : ∀ s x, dec_slices_IndexFunc_serinette_api_Q_block_isControl_1_l2 s = some x → SLe s (S_slices_IndexFunc_serinette_api_Q_block_isControl_1_l2 x) := by
  intro s x h
  unfold dec_slices_IndexFunc_serinette_api_Q_block_isControl_1_l2 at h
  · obtain ⟨u, en, h⟩ := bindO_some h
    obtain ⟨d1, e1, h⟩ := bindO_some h
    obtain ⟨x0, e2, h⟩ := bindO_some h
    obtain ⟨d3, e3, h⟩ := bindO_some h
    obtain ⟨u4, e4, h⟩ := bindO_some h
    obtain ⟨d5, e5, h⟩ := bindO_some h
    obtain ⟨x1, e6, h⟩ := bindO_some h
    obtain ⟨d7, e7, h⟩ := bindO_some h
    obtain ⟨x2, e8, h⟩ := bindO_some h
    obtain ⟨u9, e9, h⟩ := bindO_some h
    cases h
    exact ⟨le_mkT _ _ (Le.dead _) ⟨.inr ((xD_eq e1).trans (congrArg VV.dv (xL_eq e2))), .inr ((xD_eq e3).trans (congrArg VV.dv (xF_eq e4))), .inr ((xD_eq e5).trans (congrArg VV.dv (xI_eq e6))), .inr ((xD_eq e7).trans (congrArg VV.dv (xI_eq e8))), trivial⟩, (xN_eq en).symm, by rw [xEnd_eq e9]; rfl⟩
noncomputable def B_slices_IndexFunc_serinette_api_Q_block_isControl_1 (f0 : Int → Int → KB → Option DV) (a0 : List (List DV)) (k : KI) : Option DV :=
  LF (F_slices_IndexFunc_serinette_api_Q_block_isControl_1_l2 f0) (φ_slices_IndexFunc_serinette_api_Q_block_isControl_1_l2 (X_slices_IndexFunc_serinette_api_Q_block_isControl_1_l2.h0 a0 ((List.length a0 : Nat) : Int) 0)) (X_slices_IndexFunc_serinette_api_Q_block_isControl_1_l2.h0 a0 ((List.length a0 : Nat) : Int) 0) ((fun z5_0 => k z5_0), (k (-1)))

noncomputable def KK_slices_IndexFunc_serinette_api_Q_at1 (f1 : List (List DV) → KI → Option DV) (ds : List DV) (k : DV → Option DV) : Option DV :=
  match ds with
  | [.lst 2 a0, .val (.func (.func 79) ⟨[]⟩ ⟨[]⟩)] => f1 a0 (fun r0_0 => k (.val (.int .i64 r0_0)))
  | _ => none
noncomputable def KK_slices_IndexFunc_serinette_api_Q (f0 : List (List DV) → KI → Option DV) (f1 : List (List DV) → KI → Option DV) (ds : List DV) (k : DV → Option DV) : Option DV :=
  match ds with
  | [.lst 2 a0, .val (.func (.func 77) ⟨[]⟩ ⟨[]⟩)] => f0 a0 (fun r0_0 => k (.val (.int .i64 r0_0)))
  | _ => KK_slices_IndexFunc_serinette_api_Q_at1 f1 ds k

noncomputable def slices_IndexFunc_serinette_api_Q_block_isTable_1 (a0 : List (List DV)) (k : KI) : Option DV := B_slices_IndexFunc_serinette_api_Q_block_isTable_1 block_isTable_1 a0 k

noncomputable def slices_IndexFunc_serinette_api_Q_block_isControl_1 (a0 : List (List DV)) (k : KI) : Option DV := B_slices_IndexFunc_serinette_api_Q_block_isControl_1 block_isControl_1 a0 k

theorem q_slices_IndexFunc_serinette_api_Q_block_isTable_1_l2_h0 (f0 : Int → Int → KB → Option DV) (x0 : List (List DV)) (x1 : Int) (x2 : Int) (κn : St → Option DV) (κ : KC) : pev Try.prog (tab [(77, (KK_block_isTable_1 f0)), (79, (KK_block_isControl_1 block_isControl_1))] []) (ltab [(2, R_slices_IndexFunc_serinette_api_Q_block_isTable_1_l2 f0)]) [(0, [0]), (0, []), (2, [0, 1, 7, 8]), (100002, [4])] 64 (loopB (bodyOf Try.f84) 0) (S_slices_IndexFunc_serinette_api_Q_block_isTable_1_l2 (.h0 x0 x1 x2)) (contL 0 [0, 1, 7, 8] [4] κn κ) = F_slices_IndexFunc_serinette_api_Q_block_isTable_1_l2 f0 (.h0 x0 x1 x2) (fun x => κn (S_slices_IndexFunc_serinette_api_Q_block_isTable_1_l2 x)) (oc_slices_IndexFunc_serinette_api_Q_block_isTable_1_l2 κ) := by kernel_rfl

theorem g_slices_IndexFunc_serinette_api_Q_block_isTable_1_l2 (f0 : Int → Int → KB → Option DV) (HK : KGood Try.prog Inv (tab [(77, (KK_block_isTable_1 f0)), (79, (KK_block_isControl_1 block_isControl_1))] [])) : RGood 0 Try.prog Inv (loopB (bodyOf Try.f84) 0) (R_slices_IndexFunc_serinette_api_Q_block_isTable_1_l2 f0) :=
  have hL : LGood 0 Try.prog Inv (ltab [(2, R_slices_IndexFunc_serinette_api_Q_block_isTable_1_l2 f0)]) (loopB (bodyOf Try.f84) 0) := (lgood_of (bs := []) (by kernel_rfl) lgood_nil)
  rgood_dec (body := fun s k => pev Try.prog (tab [(77, (KK_block_isTable_1 f0)), (79, (KK_block_isControl_1 block_isControl_1))] []) (ltab [(2, R_slices_IndexFunc_serinette_api_Q_block_isTable_1_l2 f0)]) [(0, [0]), (0, []), (2, [0, 1, 7, 8]), (100002, [4])] 64 (loopB (bodyOf Try.f84) 0) s k) (live := [0, 1, 7, 8]) (out := [4]) (S := S_slices_IndexFunc_serinette_api_Q_block_isTable_1_l2) (pev_ok mixed HK (ltab [(2, R_slices_IndexFunc_serinette_api_Q_block_isTable_1_l2 f0)]) [(0, [0]), (0, []), (2, [0, 1, 7, 8]), (100002, [4])] 64 _ hL) (pev_nat HK (ltab [(2, R_slices_IndexFunc_serinette_api_Q_block_isTable_1_l2 f0)]) [(0, [0]), (0, []), (2, [0, 1, 7, 8]), (100002, [4])] 64 _ hL)
    (fun x κn κ => match x with
      | .h0 _ _ _ => q_slices_IndexFunc_serinette_api_Q_block_isTable_1_l2_h0 f0 _ _ _ κn κ
    ) d_slices_IndexFunc_serinette_api_Q_block_isTable_1_l2 φ_slices_IndexFunc_serinette_api_Q_block_isTable_1_l2

theorem r_slices_IndexFunc_serinette_api_Q_block_isTable_1 (f0 : Int → Int → KB → Option DV) (a0 : List (List DV)) (k : DV → Option DV) : B_slices_IndexFunc_serinette_api_Q_block_isTable_1 f0 a0 (fun r0_0 => k (.val (.int .i64 r0_0))) = pevL Try.prog (tab [(77, (KK_block_isTable_1 f0)), (79, (KK_block_isControl_1 block_isControl_1))] []) (ltab [(2, R_slices_IndexFunc_serinette_api_Q_block_isTable_1_l2 f0)]) [(0, [0]), (0, []), (2, [0, 1, 7, 8]), (100002, [4])] 64 Try.f84 (bodyOf Try.f84) [.lst 2 a0, .val (.func (.func 77) ⟨[]⟩ ⟨[]⟩)] k := by kernel_rfl

theorem q_slices_IndexFunc_serinette_api_Q_block_isControl_1_l2_h0 (f0 : Int → Int → KB → Option DV) (x0 : List (List DV)) (x1 : Int) (x2 : Int) (κn : St → Option DV) (κ : KC) : pev Try.prog (tab [(77, (KK_block_isTable_1 block_isTable_1)), (79, (KK_block_isControl_1 f0))] []) (ltab [(2, R_slices_IndexFunc_serinette_api_Q_block_isControl_1_l2 f0)]) [(0, [0]), (0, []), (2, [0, 1, 7, 8]), (100002, [4])] 64 (loopB (bodyOf Try.f84) 0) (S_slices_IndexFunc_serinette_api_Q_block_isControl_1_l2 (.h0 x0 x1 x2)) (contL 0 [0, 1, 7, 8] [4] κn κ) = F_slices_IndexFunc_serinette_api_Q_block_isControl_1_l2 f0 (.h0 x0 x1 x2) (fun x => κn (S_slices_IndexFunc_serinette_api_Q_block_isControl_1_l2 x)) (oc_slices_IndexFunc_serinette_api_Q_block_isControl_1_l2 κ) := by kernel_rfl

theorem g_slices_IndexFunc_serinette_api_Q_block_isControl_1_l2 (f0 : Int → Int → KB → Option DV) (HK : KGood Try.prog Inv (tab [(77, (KK_block_isTable_1 block_isTable_1)), (79, (KK_block_isControl_1 f0))] [])) : RGood 0 Try.prog Inv (loopB (bodyOf Try.f84) 0) (R_slices_IndexFunc_serinette_api_Q_block_isControl_1_l2 f0) :=
  have hL : LGood 0 Try.prog Inv (ltab [(2, R_slices_IndexFunc_serinette_api_Q_block_isControl_1_l2 f0)]) (loopB (bodyOf Try.f84) 0) := (lgood_of (bs := []) (by kernel_rfl) lgood_nil)
  rgood_dec (body := fun s k => pev Try.prog (tab [(77, (KK_block_isTable_1 block_isTable_1)), (79, (KK_block_isControl_1 f0))] []) (ltab [(2, R_slices_IndexFunc_serinette_api_Q_block_isControl_1_l2 f0)]) [(0, [0]), (0, []), (2, [0, 1, 7, 8]), (100002, [4])] 64 (loopB (bodyOf Try.f84) 0) s k) (live := [0, 1, 7, 8]) (out := [4]) (S := S_slices_IndexFunc_serinette_api_Q_block_isControl_1_l2) (pev_ok mixed HK (ltab [(2, R_slices_IndexFunc_serinette_api_Q_block_isControl_1_l2 f0)]) [(0, [0]), (0, []), (2, [0, 1, 7, 8]), (100002, [4])] 64 _ hL) (pev_nat HK (ltab [(2, R_slices_IndexFunc_serinette_api_Q_block_isControl_1_l2 f0)]) [(0, [0]), (0, []), (2, [0, 1, 7, 8]), (100002, [4])] 64 _ hL)
    (fun x κn κ => match x with
      | .h0 _ _ _ => q_slices_IndexFunc_serinette_api_Q_block_isControl_1_l2_h0 f0 _ _ _ κn κ
    ) d_slices_IndexFunc_serinette_api_Q_block_isControl_1_l2 φ_slices_IndexFunc_serinette_api_Q_block_isControl_1_l2

theorem r_slices_IndexFunc_serinette_api_Q_block_isControl_1 (f0 : Int → Int → KB → Option DV) (a0 : List (List DV)) (k : DV → Option DV) : B_slices_IndexFunc_serinette_api_Q_block_isControl_1 f0 a0 (fun r0_0 => k (.val (.int .i64 r0_0))) = pevL Try.prog (tab [(77, (KK_block_isTable_1 block_isTable_1)), (79, (KK_block_isControl_1 f0))] []) (ltab [(2, R_slices_IndexFunc_serinette_api_Q_block_isControl_1_l2 f0)]) [(0, [0]), (0, []), (2, [0, 1, 7, 8]), (100002, [4])] 64 Try.f84 (bodyOf Try.f84) [.lst 2 a0, .val (.func (.func 79) ⟨[]⟩ ⟨[]⟩)] k := by kernel_rfl

theorem m_slices_IndexFunc_serinette_api_Q : Meets Try.prog Inv 84 (KK_slices_IndexFunc_serinette_api_Q slices_IndexFunc_serinette_api_Q_block_isTable_1 slices_IndexFunc_serinette_api_Q_block_isControl_1) :=
  meets_of_pevL mixed stab (kgood stab (tab_cons m_block_isTable_1 (tab_cons m_block_isControl_1 (tab_nil _ _))) (tabH_nil _ _)) Try.func84 (by kernel_rfl) (by kernel_rfl) (by
    intro ds; unfold KK_slices_IndexFunc_serinette_api_Q; split
    · exact .inr ⟨(ltab [(2, R_slices_IndexFunc_serinette_api_Q_block_isTable_1_l2 block_isTable_1)]), [(0, [0]), (0, []), (2, [0, 1, 7, 8]), (100002, [4])], 64, lgood_of (bs := [loopB (bodyOf Try.f84) 0]) (by kernel_rfl) (lgood_cons (by kernel_rfl) (g_slices_IndexFunc_serinette_api_Q_block_isTable_1_l2 block_isTable_1 (kgood stab (tab_cons m_block_isTable_1 (tab_cons m_block_isControl_1 (tab_nil _ _))) (tabH_nil _ _))) lgood_nil), fun k => r_slices_IndexFunc_serinette_api_Q_block_isTable_1 block_isTable_1 _ k⟩
    unfold KK_slices_IndexFunc_serinette_api_Q_at1; split
    · exact .inr ⟨(ltab [(2, R_slices_IndexFunc_serinette_api_Q_block_isControl_1_l2 block_isControl_1)]), [(0, [0]), (0, []), (2, [0, 1, 7, 8]), (100002, [4])], 64, lgood_of (bs := [loopB (bodyOf Try.f84) 0]) (by kernel_rfl) (lgood_cons (by kernel_rfl) (g_slices_IndexFunc_serinette_api_Q_block_isControl_1_l2 block_isControl_1 (kgood stab (tab_cons m_block_isTable_1 (tab_cons m_block_isControl_1 (tab_nil _ _))) (tabH_nil _ _))) lgood_nil), fun k => r_slices_IndexFunc_serinette_api_Q_block_isControl_1 block_isControl_1 _ k⟩
    · exact .inl (fun _ => rfl))

noncomputable def B_slices_ContainsFunc_serinette_api_Q_block_isTable_1 (f0 : List (List DV) → KI → Option DV) (a0 : List (List DV)) (k : KB) : Option DV :=
  f0 a0 (fun r1 => k (decide (r1 ≥ 0)))
noncomputable def B_slices_ContainsFunc_serinette_api_Q_block_isControl_1 (f0 : List (List DV) → KI → Option DV) (a0 : List (List DV)) (k : KB) : Option DV :=
  f0 a0 (fun r1 => k (decide (r1 ≥ 0)))

noncomputable def KK_slices_ContainsFunc_serinette_api_Q_at1 (f1 : List (List DV) → KB → Option DV) (ds : List DV) (k : DV → Option DV) : Option DV :=
  match ds with
  | [.lst 2 a0, .val (.func (.func 79) ⟨[]⟩ ⟨[]⟩)] => f1 a0 (fun r0_0 => k (.val (.bool r0_0)))
  | _ => none
noncomputable def KK_slices_ContainsFunc_serinette_api_Q (f0 : List (List DV) → KB → Option DV) (f1 : List (List DV) → KB → Option DV) (ds : List DV) (k : DV → Option DV) : Option DV :=
  match ds with
  | [.lst 2 a0, .val (.func (.func 77) ⟨[]⟩ ⟨[]⟩)] => f0 a0 (fun r0_0 => k (.val (.bool r0_0)))
  | _ => KK_slices_ContainsFunc_serinette_api_Q_at1 f1 ds k

noncomputable def slices_ContainsFunc_serinette_api_Q_block_isTable_1 (a0 : List (List DV)) (k : KB) : Option DV := B_slices_ContainsFunc_serinette_api_Q_block_isTable_1 slices_IndexFunc_serinette_api_Q_block_isTable_1 a0 k

noncomputable def slices_ContainsFunc_serinette_api_Q_block_isControl_1 (a0 : List (List DV)) (k : KB) : Option DV := B_slices_ContainsFunc_serinette_api_Q_block_isControl_1 slices_IndexFunc_serinette_api_Q_block_isControl_1 a0 k

theorem r_slices_ContainsFunc_serinette_api_Q_block_isTable_1 (f0 : List (List DV) → KI → Option DV) (a0 : List (List DV)) (k : DV → Option DV) : B_slices_ContainsFunc_serinette_api_Q_block_isTable_1 f0 a0 (fun r0_0 => k (.val (.bool r0_0))) = pevL Try.prog (tab [(84, (KK_slices_IndexFunc_serinette_api_Q f0 slices_IndexFunc_serinette_api_Q_block_isControl_1))] []) noL [] 64 Try.f76 (bodyOf Try.f76) [.lst 2 a0, .val (.func (.func 77) ⟨[]⟩ ⟨[]⟩)] k := by kernel_rfl

theorem r_slices_ContainsFunc_serinette_api_Q_block_isControl_1 (f0 : List (List DV) → KI → Option DV) (a0 : List (List DV)) (k : DV → Option DV) : B_slices_ContainsFunc_serinette_api_Q_block_isControl_1 f0 a0 (fun r0_0 => k (.val (.bool r0_0))) = pevL Try.prog (tab [(84, (KK_slices_IndexFunc_serinette_api_Q slices_IndexFunc_serinette_api_Q_block_isTable_1 f0))] []) noL [] 64 Try.f76 (bodyOf Try.f76) [.lst 2 a0, .val (.func (.func 79) ⟨[]⟩ ⟨[]⟩)] k := by kernel_rfl

theorem m_slices_ContainsFunc_serinette_api_Q : Meets Try.prog Inv 76 (KK_slices_ContainsFunc_serinette_api_Q slices_ContainsFunc_serinette_api_Q_block_isTable_1 slices_ContainsFunc_serinette_api_Q_block_isControl_1) :=
  meets_of_pevL mixed stab (kgood stab (tab_cons m_slices_IndexFunc_serinette_api_Q (tab_nil _ _)) (tabH_nil _ _)) Try.func76 (by kernel_rfl) (by kernel_rfl) (by
    intro ds; unfold KK_slices_ContainsFunc_serinette_api_Q; split
    · exact .inr ⟨noL, [], 64, LGood.none _ _ _, fun k => r_slices_ContainsFunc_serinette_api_Q_block_isTable_1 slices_IndexFunc_serinette_api_Q_block_isTable_1 _ k⟩
    unfold KK_slices_ContainsFunc_serinette_api_Q_at1; split
    · exact .inr ⟨noL, [], 64, LGood.none _ _ _, fun k => r_slices_ContainsFunc_serinette_api_Q_block_isControl_1 slices_IndexFunc_serinette_api_Q_block_isControl_1 _ k⟩
    · exact .inl (fun _ => rfl))

noncomputable def B_block_isTable (f0 : List (List DV) → KB → Option DV) (a0 : List (List DV)) (k : KB) : Option DV :=
  bx (decide (1 ≤ ((List.length a0 : Nat) : Int))) (bx (decide (((List.length a0 : Nat) : Int) ≤ 256)) (f0 a0 (fun r1 => k (!r1))) (k false)) (k false)

noncomputable def KK_block_isTable (f0 : List (List DV) → KB → Option DV) (ds : List DV) (k : DV → Option DV) : Option DV :=
  match ds with
  | [.lst 2 a0] => f0 a0 (fun r0_0 => k (.val (.bool r0_0)))
  | _ => none

noncomputable def block_isTable (a0 : List (List DV)) (k : KB) : Option DV := B_block_isTable slices_ContainsFunc_serinette_api_Q_block_isTable_1 a0 k

theorem r_block_isTable (f0 : List (List DV) → KB → Option DV) (a0 : List (List DV)) (k : DV → Option DV) : B_block_isTable f0 a0 (fun r0_0 => k (.val (.bool r0_0))) = pevL Try.prog (tab [(76, (KK_slices_ContainsFunc_serinette_api_Q f0 slices_ContainsFunc_serinette_api_Q_block_isControl_1))] []) noL [] 64 Try.f64 (bodyOf Try.f64) [.lst 2 a0] k := by kernel_rfl

theorem m_block_isTable : Meets Try.prog Inv 64 (KK_block_isTable block_isTable) :=
  meets_of_pevL mixed stab (kgood stab (tab_cons m_slices_ContainsFunc_serinette_api_Q (tab_nil _ _)) (tabH_nil _ _)) Try.func64 (by kernel_rfl) (by kernel_rfl) (by
    intro ds; unfold KK_block_isTable; split
    · exact .inr ⟨noL, [], 64, LGood.none _ _ _, fun k => r_block_isTable slices_ContainsFunc_serinette_api_Q_block_isTable_1 _ k⟩
    · exact .inl (fun _ => rfl))

noncomputable def B_block_isPathByte  (a0 : Int) (k : KB) : Option DV :=
  bx (decide (97 ≤ a0)) (bx (decide (a0 ≤ 122)) (k true) (bx (decide (65 ≤ a0)) (bx (decide (a0 ≤ 90)) (k true) (bx (decide (48 ≤ a0)) (bx (decide (a0 ≤ 57)) (k true) (bx (!(a0 == 95)) (bx (!(a0 == 45)) (k (a0 == 47)) (k true)) (k true))) (bx (!(a0 == 95)) (bx (!(a0 == 45)) (k (a0 == 47)) (k true)) (k true)))) (bx (decide (48 ≤ a0)) (bx (decide (a0 ≤ 57)) (k true) (bx (!(a0 == 95)) (bx (!(a0 == 45)) (k (a0 == 47)) (k true)) (k true))) (bx (!(a0 == 95)) (bx (!(a0 == 45)) (k (a0 == 47)) (k true)) (k true))))) (bx (decide (65 ≤ a0)) (bx (decide (a0 ≤ 90)) (k true) (bx (decide (48 ≤ a0)) (bx (decide (a0 ≤ 57)) (k true) (bx (!(a0 == 95)) (bx (!(a0 == 45)) (k (a0 == 47)) (k true)) (k true))) (bx (!(a0 == 95)) (bx (!(a0 == 45)) (k (a0 == 47)) (k true)) (k true)))) (bx (decide (48 ≤ a0)) (bx (decide (a0 ≤ 57)) (k true) (bx (!(a0 == 95)) (bx (!(a0 == 45)) (k (a0 == 47)) (k true)) (k true))) (bx (!(a0 == 95)) (bx (!(a0 == 45)) (k (a0 == 47)) (k true)) (k true))))

noncomputable def KK_block_isPathByte (f0 : Int → KB → Option DV) (ds : List DV) (k : DV → Option DV) : Option DV :=
  match ds with
  | [.val (.int .u8 a0)] => f0 a0 (fun r0_0 => k (.val (.bool r0_0)))
  | _ => none

noncomputable def block_isPathByte (a0 : Int) (k : KB) : Option DV := B_block_isPathByte  a0 k

theorem r_block_isPathByte  (a0 : Int) (k : DV → Option DV) : B_block_isPathByte  a0 (fun r0_0 => k (.val (.bool r0_0))) = pevL Try.prog (tab [] []) noL [] 64 Try.f78 (bodyOf Try.f78) [.val (.int .u8 a0)] k := by kernel_rfl

theorem m_block_isPathByte : Meets Try.prog Inv 78 (KK_block_isPathByte block_isPathByte) :=
  meets_of_pevL mixed stab (kgood stab (tab_nil _ _) (tabH_nil _ _)) Try.func78 (by kernel_rfl) (by kernel_rfl) (by
    intro ds; unfold KK_block_isPathByte; split
    · exact .inr ⟨noL, [], 64, LGood.none _ _ _, fun k => r_block_isPathByte  _ k⟩
    · exact .inl (fun _ => rfl))

noncomputable def ld_u8 (e : List DV) (o : Nat) (k : KI) : Option DV :=
  bx (isI .u8 (nth e o)) (k (asI (nth e o))) none

inductive X_block_isPath_l4 where
  | h0 (x0 : List (List DV)) (x1 : Int) (x2 : Int)
def φ_block_isPath_l4 : X_block_isPath_l4 → Nat
  | .h0 x0 x1 x2 => Int.toNat (x1 - x2) + 1
noncomputable def S_block_isPath_l4 : X_block_isPath_l4 → St
  | .h0 x0 x1 x2 => ⟨mkT [(14, .dv (.lst 1 x0)), (15, .dv (.val (.int .i64 x1))), (16, .dv (.val (.int .i64 x2)))] (.leaf .dead), 24, []⟩

noncomputable def oc_block_isPath_l4 (k : KC) : KB × (Option DV) := (fun y0 => k .ret ⟨mkT [(2, .dv (.val (.bool y0)))] (.leaf .dead), 24, []⟩, k (.exit 0) ⟨mkT [(2, .dead)] (.leaf .dead), 24, []⟩)

noncomputable def B_block_isPath_l4_h0 (f0 : Int → KB → Option DV) (x0 : List (List DV)) (x1 : Int) (x2 : Int) (κn : X_block_isPath_l4 → Option DV) (κ0 : KB) (κ1 : Option DV) : Option DV :=
  bx (decide (x2 < x1)) (bx (decide (0 ≤ x2)) (optE (x0[Int.toNat x2]?) (fun e1 => ld_u8 e1 0 (fun v2 => f0 v2 (fun r3 => bx (!r3) (κ0 false) (κn (X_block_isPath_l4.h0 x0 x1 (IntKind.wrap .i64 (x2 + 1)))))))) none) κ1

noncomputable def F_block_isPath_l4 (f0 : Int → KB → Option DV) : X_block_isPath_l4 → (X_block_isPath_l4 → Option DV) → (KB × (Option DV)) → Option DV
  | .h0 x0 x1 x2, κn, κ => B_block_isPath_l4_h0 f0 x0 x1 x2 κn κ.1 κ.2

noncomputable def dec_block_isPath_l4 (s : St) : Option X_block_isPath_l4 :=
  bindO (xN s.n 24) fun u => bindO (xD (s.tmps.get 14)) fun d1 => bindO (xL 1 d1) fun x0 => bindO (xD (s.tmps.get 15)) fun d3 => bindO (xI .i64 d3) fun x1 => bindO (xD (s.tmps.get 16)) fun d5 => bindO (xI .i64 d5) fun x2 => bindO (xEnd s.heap) fun u7 => some (.h0 x0 x1 x2)

noncomputable def R_block_isPath_l4 (f0 : Int → KB → Option DV) : St → KC → Option DV := decR dec_block_isPath_l4 (F_block_isPath_l4 f0) φ_block_isPath_l4 oc_block_isPath_l4

theorem d_block_isPath_l4 : ∀ s x, dec_block_isPath_l4 s = some x → SLe s (S_block_isPath_l4 x) := by
  intro s x h
  unfold dec_block_isPath_l4 at h
  · obtain ⟨u, en, h⟩ := bindO_some h
    obtain ⟨d1, e1, h⟩ := bindO_some h
    obtain ⟨x0, e2, h⟩ := bindO_some h
    obtain ⟨d3, e3, h⟩ := bindO_some h
    obtain ⟨x1, e4, h⟩ := bindO_some h
    obtain ⟨d5, e5, h⟩ := bindO_some h
    obtain ⟨x2, e6, h⟩ := bindO_some h
    obtain ⟨u7, e7, h⟩ := bindO_some h
    cases h
    exact ⟨le_mkT _ _ (Le.dead _) ⟨.inr ((xD_eq e1).trans (congrArg VV.dv (xL_eq e2))), .inr ((xD_eq e3).trans (congrArg VV.dv (xI_eq e4))), .inr ((xD_eq e5).trans (congrArg VV.dv (xI_eq e6))), trivial⟩, (xN_eq en).symm, by rw [xEnd_eq e7]; rfl⟩
noncomputable def B_block_isPath (f0 : Int → KB → Option DV) (a0 : ByteArray) (k : KB) : Option DV :=
  bx (!(decide (((ByteArray.size a0 : Nat) : Int) < 1))) (bx (decide (((ByteArray.size a0 : Nat) : Int) > 40)) (k false) (LF (F_block_isPath_l4 f0) (φ_block_isPath_l4 (X_block_isPath_l4.h0 (bytesL a0) ((List.length (bytesL a0) : Nat) : Int) 0)) (X_block_isPath_l4.h0 (bytesL a0) ((List.length (bytesL a0) : Nat) : Int) 0) ((fun z4_0 => k z4_0), (k true)))) (k false)

noncomputable def KK_block_isPath (f0 : ByteArray → KB → Option DV) (ds : List DV) (k : DV → Option DV) : Option DV :=
  match ds with
  | [.val (.string a0)] => f0 a0 (fun r0_0 => k (.val (.bool r0_0)))
  | _ => none

noncomputable def block_isPath (a0 : ByteArray) (k : KB) : Option DV := B_block_isPath block_isPathByte a0 k

theorem q_block_isPath_l4_h0 (f0 : Int → KB → Option DV) (x0 : List (List DV)) (x1 : Int) (x2 : Int) (κn : St → Option DV) (κ : KC) : pev Try.prog (tab [(78, (KK_block_isPathByte f0))] []) (ltab [(4, R_block_isPath_l4 f0)]) [(0, [0]), (0, []), (4, [14, 15, 16]), (100004, [2])] 64 (loopB (bodyOf Try.f65) 0) (S_block_isPath_l4 (.h0 x0 x1 x2)) (contL 0 [14, 15, 16] [2] κn κ) = F_block_isPath_l4 f0 (.h0 x0 x1 x2) (fun x => κn (S_block_isPath_l4 x)) (oc_block_isPath_l4 κ) := by kernel_rfl

theorem g_block_isPath_l4 (f0 : Int → KB → Option DV) (HK : KGood Try.prog Inv (tab [(78, (KK_block_isPathByte f0))] [])) : RGood 0 Try.prog Inv (loopB (bodyOf Try.f65) 0) (R_block_isPath_l4 f0) :=
  have hL : LGood 0 Try.prog Inv (ltab [(4, R_block_isPath_l4 f0)]) (loopB (bodyOf Try.f65) 0) := (lgood_of (bs := []) (by kernel_rfl) lgood_nil)
  rgood_dec (body := fun s k => pev Try.prog (tab [(78, (KK_block_isPathByte f0))] []) (ltab [(4, R_block_isPath_l4 f0)]) [(0, [0]), (0, []), (4, [14, 15, 16]), (100004, [2])] 64 (loopB (bodyOf Try.f65) 0) s k) (live := [14, 15, 16]) (out := [2]) (S := S_block_isPath_l4) (pev_ok mixed HK (ltab [(4, R_block_isPath_l4 f0)]) [(0, [0]), (0, []), (4, [14, 15, 16]), (100004, [2])] 64 _ hL) (pev_nat HK (ltab [(4, R_block_isPath_l4 f0)]) [(0, [0]), (0, []), (4, [14, 15, 16]), (100004, [2])] 64 _ hL)
    (fun x κn κ => match x with
      | .h0 _ _ _ => q_block_isPath_l4_h0 f0 _ _ _ κn κ
    ) d_block_isPath_l4 φ_block_isPath_l4

theorem r_block_isPath (f0 : Int → KB → Option DV) (a0 : ByteArray) (k : DV → Option DV) : B_block_isPath f0 a0 (fun r0_0 => k (.val (.bool r0_0))) = pevL Try.prog (tab [(78, (KK_block_isPathByte f0))] []) (ltab [(4, R_block_isPath_l4 f0)]) [(0, [0]), (0, []), (4, [14, 15, 16]), (100004, [2])] 64 Try.f65 (bodyOf Try.f65) [.val (.string a0)] k := by kernel_rfl

theorem m_block_isPath : Meets Try.prog Inv 65 (KK_block_isPath block_isPath) :=
  meets_of_pevL mixed stab (kgood stab (tab_cons m_block_isPathByte (tab_nil _ _)) (tabH_nil _ _)) Try.func65 (by kernel_rfl) (by kernel_rfl) (by
    intro ds; unfold KK_block_isPath; split
    · exact .inr ⟨(ltab [(4, R_block_isPath_l4 block_isPathByte)]), [(0, [0]), (0, []), (4, [14, 15, 16]), (100004, [2])], 64, lgood_of (bs := [loopB (bodyOf Try.f65) 0]) (by kernel_rfl) (lgood_cons (by kernel_rfl) (g_block_isPath_l4 block_isPathByte (kgood stab (tab_cons m_block_isPathByte (tab_nil _ _)) (tabH_nil _ _))) lgood_nil), fun k => r_block_isPath block_isPathByte _ k⟩
    · exact .inl (fun _ => rfl))

end Go.Proofs.Ytdfhakhapblhgaa
