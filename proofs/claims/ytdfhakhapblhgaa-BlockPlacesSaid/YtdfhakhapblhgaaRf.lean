/-
  Diagrams, read as plain functions.
-/
import Derived.Test.YtdfhakhapblhgaaRe
set_option linter.all false
namespace Go.Proofs.Ytdfhakhapblhgaa
open Go.Pv Go.RowKit
set_option maxRecDepth 100000
noncomputable def B_ratio_both (f0 : Int → Int → KB → Option DV) (a0_0 a0_1 a1_0 a1_1 : Int) (k : KB) : Option DV :=
  f0 a0_0 a0_1 (fun r1 => bx (r1) (f0 a1_0 a1_1 (fun r2 => k r2)) (k false))

noncomputable def KK_ratio_both (f0 : Int → Int → Int → Int → KB → Option DV) (ds : List DV) (k : DV → Option DV) : Option DV :=
  match ds with
  | [.val (.agg ⟨[.int .i64 a0_0, .int .i64 a0_1]⟩), .val (.agg ⟨[.int .i64 a1_0, .int .i64 a1_1]⟩)] => f0 a0_0 a0_1 a1_0 a1_1 (fun r0_0 => k (.val (.bool r0_0)))
  | _ => none

noncomputable def ratio_both (a0_0 a0_1 a1_0 a1_1 : Int) (k : KB) : Option DV := B_ratio_both ratio_Is a0_0 a0_1 a1_0 a1_1 k

theorem r_ratio_both (f0 : Int → Int → KB → Option DV) (a0_0 a0_1 a1_0 a1_1 : Int) (k : DV → Option DV) : B_ratio_both f0 a0_0 a0_1 a1_0 a1_1 (fun r0_0 => k (.val (.bool r0_0))) = pevL Try.prog (tab [(70, (KK_ratio_Is f0))] []) noL [] 64 Try.f57 (bodyOf Try.f57) [.val (.agg ⟨[.int .i64 a0_0, .int .i64 a0_1]⟩), .val (.agg ⟨[.int .i64 a1_0, .int .i64 a1_1]⟩)] k := by kernel_rfl

theorem m_ratio_both : Meets Try.prog Inv 57 (KK_ratio_both ratio_both) :=
  meets_of_pevL mixed stab (kgood stab (tab_cons m_ratio_Is (tab_nil _ _)) (tabH_nil _ _)) Try.func57 (by kernel_rfl) (by kernel_rfl) (by
    intro ds; unfold KK_ratio_both; split
    · exact .inr ⟨noL, [], 64, LGood.none _ _ _, fun k => r_ratio_both ratio_Is _ _ _ _ k⟩
    · exact .inl (fun _ => rfl))

noncomputable def B_cmp_isNaN_int  (a0 : Int) (k : KB) : Option DV :=
  k (a0 != a0)

noncomputable def KK_cmp_isNaN_int (f0 : Int → KB → Option DV) (ds : List DV) (k : DV → Option DV) : Option DV :=
  match ds with
  | [.val (.int .i64 a0)] => f0 a0 (fun r0_0 => k (.val (.bool r0_0)))
  | _ => none

noncomputable def cmp_isNaN_int (a0 : Int) (k : KB) : Option DV := B_cmp_isNaN_int  a0 k

theorem r_cmp_isNaN_int  (a0 : Int) (k : DV → Option DV) : B_cmp_isNaN_int  a0 (fun r0_0 => k (.val (.bool r0_0))) = pevL Try.prog (tab [] []) noL [] 64 Try.f71 (bodyOf Try.f71) [.val (.int .i64 a0)] k := by kernel_rfl

theorem m_cmp_isNaN_int : Meets Try.prog Inv 71 (KK_cmp_isNaN_int cmp_isNaN_int) :=
  meets_of_pevL mixed stab (kgood stab (tab_nil _ _) (tabH_nil _ _)) Try.func71 (by kernel_rfl) (by kernel_rfl) (by
    intro ds; unfold KK_cmp_isNaN_int; split
    · exact .inr ⟨noL, [], 64, LGood.none _ _ _, fun k => r_cmp_isNaN_int  _ k⟩
    · exact .inl (fun _ => rfl))

noncomputable def B_cmp_Compare_int (f0 : Int → KB → Option DV) (a0 a1 : Int) (k : KI) : Option DV :=
  f0 a0 (fun r1 => f0 a1 (fun r2 => bx (r1) (bx (r2) (k 0) (k (-1))) (bx (r2) (k 1) (bx (decide (a0 < a1)) (k (-1)) (bx (decide (a0 > a1)) (k 1) (k 0))))))

noncomputable def KK_cmp_Compare_int (f0 : Int → Int → KI → Option DV) (ds : List DV) (k : DV → Option DV) : Option DV :=
  match ds with
  | [.val (.int .i64 a0), .val (.int .i64 a1)] => f0 a0 a1 (fun r0_0 => k (.val (.int .i64 r0_0)))
  | _ => none

noncomputable def cmp_Compare_int (a0 a1 : Int) (k : KI) : Option DV := B_cmp_Compare_int cmp_isNaN_int a0 a1 k

theorem r_cmp_Compare_int (f0 : Int → KB → Option DV) (a0 a1 : Int) (k : DV → Option DV) : B_cmp_Compare_int f0 a0 a1 (fun r0_0 => k (.val (.int .i64 r0_0))) = pevL Try.prog (tab [(71, (KK_cmp_isNaN_int f0))] []) noL [] 64 Try.f58 (bodyOf Try.f58) [.val (.int .i64 a0), .val (.int .i64 a1)] k := by kernel_rfl

theorem m_cmp_Compare_int : Meets Try.prog Inv 58 (KK_cmp_Compare_int cmp_Compare_int) :=
  meets_of_pevL mixed stab (kgood stab (tab_cons m_cmp_isNaN_int (tab_nil _ _)) (tabH_nil _ _)) Try.func58 (by kernel_rfl) (by kernel_rfl) (by
    intro ds; unfold KK_cmp_Compare_int; split
    · exact .inr ⟨noL, [], 64, LGood.none _ _ _, fun k => r_cmp_Compare_int cmp_isNaN_int _ _ k⟩
    · exact .inl (fun _ => rfl))

noncomputable def B_ratio_rank (f0 : Int → Int → KB → Option DV) (a0_0 a0_1 : Int) (k : KI) : Option DV :=
  f0 a0_0 a0_1 (fun r1 => bx (r1) (k 1) (k 0))

noncomputable def KK_ratio_rank (f0 : Int → Int → KI → Option DV) (ds : List DV) (k : DV → Option DV) : Option DV :=
  match ds with
  | [.val (.agg ⟨[.int .i64 a0_0, .int .i64 a0_1]⟩)] => f0 a0_0 a0_1 (fun r0_0 => k (.val (.int .i64 r0_0)))
  | _ => none

noncomputable def ratio_rank (a0_0 a0_1 : Int) (k : KI) : Option DV := B_ratio_rank ratio_Is a0_0 a0_1 k

theorem r_ratio_rank (f0 : Int → Int → KB → Option DV) (a0_0 a0_1 : Int) (k : DV → Option DV) : B_ratio_rank f0 a0_0 a0_1 (fun r0_0 => k (.val (.int .i64 r0_0))) = pevL Try.prog (tab [(70, (KK_ratio_Is f0))] []) noL [] 64 Try.f59 (bodyOf Try.f59) [.val (.agg ⟨[.int .i64 a0_0, .int .i64 a0_1]⟩)] k := by kernel_rfl

theorem m_ratio_rank : Meets Try.prog Inv 59 (KK_ratio_rank ratio_rank) :=
  meets_of_pevL mixed stab (kgood stab (tab_cons m_ratio_Is (tab_nil _ _)) (tabH_nil _ _)) Try.func59 (by kernel_rfl) (by kernel_rfl) (by
    intro ds; unfold KK_ratio_rank; split
    · exact .inr ⟨noL, [], 64, LGood.none _ _ _, fun k => r_ratio_rank ratio_Is _ _ k⟩
    · exact .inl (fun _ => rfl))

noncomputable def B_cmp_isNaN_int64  (a0 : Int) (k : KB) : Option DV :=
  k (a0 != a0)

noncomputable def KK_cmp_isNaN_int64 (f0 : Int → KB → Option DV) (ds : List DV) (k : DV → Option DV) : Option DV :=
  match ds with
  | [.val (.int .i64 a0)] => f0 a0 (fun r0_0 => k (.val (.bool r0_0)))
  | _ => none

noncomputable def cmp_isNaN_int64 (a0 : Int) (k : KB) : Option DV := B_cmp_isNaN_int64  a0 k

theorem r_cmp_isNaN_int64  (a0 : Int) (k : DV → Option DV) : B_cmp_isNaN_int64  a0 (fun r0_0 => k (.val (.bool r0_0))) = pevL Try.prog (tab [] []) noL [] 64 Try.f72 (bodyOf Try.f72) [.val (.int .i64 a0)] k := by kernel_rfl

theorem m_cmp_isNaN_int64 : Meets Try.prog Inv 72 (KK_cmp_isNaN_int64 cmp_isNaN_int64) :=
  meets_of_pevL mixed stab (kgood stab (tab_nil _ _) (tabH_nil _ _)) Try.func72 (by kernel_rfl) (by kernel_rfl) (by
    intro ds; unfold KK_cmp_isNaN_int64; split
    · exact .inr ⟨noL, [], 64, LGood.none _ _ _, fun k => r_cmp_isNaN_int64  _ k⟩
    · exact .inl (fun _ => rfl))

noncomputable def B_cmp_Compare_int64 (f0 : Int → KB → Option DV) (a0 a1 : Int) (k : KI) : Option DV :=
  f0 a0 (fun r1 => f0 a1 (fun r2 => bx (r1) (bx (r2) (k 0) (k (-1))) (bx (r2) (k 1) (bx (decide (a0 < a1)) (k (-1)) (bx (decide (a0 > a1)) (k 1) (k 0))))))

noncomputable def KK_cmp_Compare_int64 (f0 : Int → Int → KI → Option DV) (ds : List DV) (k : DV → Option DV) : Option DV :=
  match ds with
  | [.val (.int .i64 a0), .val (.int .i64 a1)] => f0 a0 a1 (fun r0_0 => k (.val (.int .i64 r0_0)))
  | _ => none

noncomputable def cmp_Compare_int64 (a0 a1 : Int) (k : KI) : Option DV := B_cmp_Compare_int64 cmp_isNaN_int64 a0 a1 k

theorem r_cmp_Compare_int64 (f0 : Int → KB → Option DV) (a0 a1 : Int) (k : DV → Option DV) : B_cmp_Compare_int64 f0 a0 a1 (fun r0_0 => k (.val (.int .i64 r0_0))) = pevL Try.prog (tab [(72, (KK_cmp_isNaN_int64 f0))] []) noL [] 64 Try.f60 (bodyOf Try.f60) [.val (.int .i64 a0), .val (.int .i64 a1)] k := by kernel_rfl

theorem m_cmp_Compare_int64 : Meets Try.prog Inv 60 (KK_cmp_Compare_int64 cmp_Compare_int64) :=
  meets_of_pevL mixed stab (kgood stab (tab_cons m_cmp_isNaN_int64 (tab_nil _ _)) (tabH_nil _ _)) Try.func60 (by kernel_rfl) (by kernel_rfl) (by
    intro ds; unfold KK_cmp_Compare_int64; split
    · exact .inr ⟨noL, [], 64, LGood.none _ _ _, fun k => r_cmp_Compare_int64 cmp_isNaN_int64 _ _ k⟩
    · exact .inl (fun _ => rfl))

noncomputable def B_ratio_Cmp (f0 : Int → Int → KI → Option DV) (f1 : Int → Int → KI → Option DV) (f2 : Int → Int → KI → Option DV) (f3 : Int → Int → Int → Int → KB → Option DV) (a0_0 a0_1 a1_0 a1_1 : Int) (k : KI) : Option DV :=
  f3 a0_0 a0_1 a1_0 a1_1 (fun r1 => bx (!r1) (f1 a0_0 a0_1 (fun r2 => f1 a1_0 a1_1 (fun r3 => f0 r2 r3 (fun r4 => k r4)))) (f2 (IntKind.wrap .i64 (a0_0 * a1_1)) (IntKind.wrap .i64 (a1_0 * a0_1)) (fun r5 => k r5)))

noncomputable def KK_ratio_Cmp (f0 : Int → Int → Int → Int → KI → Option DV) (ds : List DV) (k : DV → Option DV) : Option DV :=
  match ds with
  | [.val (.agg ⟨[.int .i64 a0_0, .int .i64 a0_1]⟩), .val (.agg ⟨[.int .i64 a1_0, .int .i64 a1_1]⟩)] => f0 a0_0 a0_1 a1_0 a1_1 (fun r0_0 => k (.val (.int .i64 r0_0)))
  | _ => none

noncomputable def ratio_Cmp (a0_0 a0_1 a1_0 a1_1 : Int) (k : KI) : Option DV := B_ratio_Cmp cmp_Compare_int ratio_rank cmp_Compare_int64 ratio_both a0_0 a0_1 a1_0 a1_1 k

theorem r_ratio_Cmp (f0 : Int → Int → KI → Option DV) (f1 : Int → Int → KI → Option DV) (f2 : Int → Int → KI → Option DV) (f3 : Int → Int → Int → Int → KB → Option DV) (a0_0 a0_1 a1_0 a1_1 : Int) (k : DV → Option DV) : B_ratio_Cmp f0 f1 f2 f3 a0_0 a0_1 a1_0 a1_1 (fun r0_0 => k (.val (.int .i64 r0_0))) = pevL Try.prog (tab [(57, (KK_ratio_both f3)), (58, (KK_cmp_Compare_int f0)), (59, (KK_ratio_rank f1)), (60, (KK_cmp_Compare_int64 f2))] []) noL [] 64 Try.f46 (bodyOf Try.f46) [.val (.agg ⟨[.int .i64 a0_0, .int .i64 a0_1]⟩), .val (.agg ⟨[.int .i64 a1_0, .int .i64 a1_1]⟩)] k := by kernel_rfl

theorem m_ratio_Cmp : Meets Try.prog Inv 46 (KK_ratio_Cmp ratio_Cmp) :=
  meets_of_pevL mixed stab (kgood stab (tab_cons m_ratio_both (tab_cons m_cmp_Compare_int (tab_cons m_ratio_rank (tab_cons m_cmp_Compare_int64 (tab_nil _ _))))) (tabH_nil _ _)) Try.func46 (by kernel_rfl) (by kernel_rfl) (by
    intro ds; unfold KK_ratio_Cmp; split
    · exact .inr ⟨noL, [], 64, LGood.none _ _ _, fun k => r_ratio_Cmp cmp_Compare_int ratio_rank cmp_Compare_int64 ratio_both _ _ _ _ k⟩
    · exact .inl (fun _ => rfl))

noncomputable def B_ratio_lowest (f0 : Int → Int → KI → Option DV) (a0 : Bool) (a1 a2 : Int) (k : KQ) : Option DV :=
  bx (a2 == 0) (k 0 0) (f0 a1 a2 (fun r1 => bx (r1 == 0) none (bx (r1 == 0) none (bx (!(decide (IntKind.wrap .u64 (Int.tdiv a1 r1) > 1073741824))) (bx (decide (IntKind.wrap .u64 (Int.tdiv a2 r1) > 1073741824)) (k 0 0) (bx (a0) (k (IntKind.wrap .i64 (0 - (IntKind.wrap .i64 (IntKind.wrap .u64 (Int.tdiv a1 r1))))) (IntKind.wrap .i64 (IntKind.wrap .u64 (Int.tdiv a2 r1)))) (k (IntKind.wrap .i64 (IntKind.wrap .u64 (Int.tdiv a1 r1))) (IntKind.wrap .i64 (IntKind.wrap .u64 (Int.tdiv a2 r1)))))) (k 0 0)))))

noncomputable def KK_ratio_lowest (f0 : Bool → Int → Int → KQ → Option DV) (ds : List DV) (k : DV → Option DV) : Option DV :=
  match ds with
  | [.val (.bool a0), .val (.int .u64 a1), .val (.int .u64 a2)] => f0 a0 a1 a2 (fun r0_0 r0_1 => k (.val (.agg ⟨[.int .i64 r0_0, .int .i64 r0_1]⟩)))
  | _ => none

noncomputable def ratio_lowest (a0 : Bool) (a1 a2 : Int) (k : KQ) : Option DV := B_ratio_lowest ratio_divisor a0 a1 a2 k

theorem r_ratio_lowest (f0 : Int → Int → KI → Option DV) (a0 : Bool) (a1 a2 : Int) (k : DV → Option DV) : B_ratio_lowest f0 a0 a1 a2 (fun r0_0 r0_1 => k (.val (.agg ⟨[.int .i64 r0_0, .int .i64 r0_1]⟩))) = pevL Try.prog (tab [(82, (KK_ratio_divisor f0))] []) noL [] 64 Try.f88 (bodyOf Try.f88) [.val (.bool a0), .val (.int .u64 a1), .val (.int .u64 a2)] k := by kernel_rfl

theorem m_ratio_lowest : Meets Try.prog Inv 88 (KK_ratio_lowest ratio_lowest) :=
  meets_of_pevL mixed stab (kgood stab (tab_cons m_ratio_divisor (tab_nil _ _)) (tabH_nil _ _)) Try.func88 (by kernel_rfl) (by kernel_rfl) (by
    intro ds; unfold KK_ratio_lowest; split
    · exact .inr ⟨noL, [], 64, LGood.none _ _ _, fun k => r_ratio_lowest ratio_divisor _ _ _ k⟩
    · exact .inl (fun _ => rfl))

noncomputable def B_ratio_Make (f0 : Bool → Int → Int → KQ → Option DV) (f1 : Int → KI → Option DV) (a0 a1 : Int) (k : KQ) : Option DV :=
  f1 a0 (fun r1 => f1 a1 (fun r2 => f0 (!(decide (a0 < 0) == decide (a1 < 0))) r1 r2 (fun r3 r4 => k r3 r4)))

noncomputable def KK_ratio_Make (f0 : Int → Int → KQ → Option DV) (ds : List DV) (k : DV → Option DV) : Option DV :=
  match ds with
  | [.val (.int .i64 a0), .val (.int .i64 a1)] => f0 a0 a1 (fun r0_0 r0_1 => k (.val (.agg ⟨[.int .i64 r0_0, .int .i64 r0_1]⟩)))
  | _ => none

noncomputable def ratio_Make (a0 a1 : Int) (k : KQ) : Option DV := B_ratio_Make ratio_lowest ratio_size a0 a1 k

theorem r_ratio_Make (f0 : Bool → Int → Int → KQ → Option DV) (f1 : Int → KI → Option DV) (a0 a1 : Int) (k : DV → Option DV) : B_ratio_Make f0 f1 a0 a1 (fun r0_0 r0_1 => k (.val (.agg ⟨[.int .i64 r0_0, .int .i64 r0_1]⟩))) = pevL Try.prog (tab [(83, (KK_ratio_size f1)), (88, (KK_ratio_lowest f0))] []) noL [] 64 Try.f85 (bodyOf Try.f85) [.val (.int .i64 a0), .val (.int .i64 a1)] k := by kernel_rfl

theorem m_ratio_Make : Meets Try.prog Inv 85 (KK_ratio_Make ratio_Make) :=
  meets_of_pevL mixed stab (kgood stab (tab_cons m_ratio_size (tab_cons m_ratio_lowest (tab_nil _ _))) (tabH_nil _ _)) Try.func85 (by kernel_rfl) (by kernel_rfl) (by
    intro ds; unfold KK_ratio_Make; split
    · exact .inr ⟨noL, [], 64, LGood.none _ _ _, fun k => r_ratio_Make ratio_lowest ratio_size _ _ k⟩
    · exact .inl (fun _ => rfl))

noncomputable def B_ratio_Max (f0 : Int → Int → Int → Int → KI → Option DV) (f1 : Int → Int → Int → Int → KB → Option DV) (a0_0 a0_1 a1_0 a1_1 : Int) (k : KQ) : Option DV :=
  f1 a0_0 a0_1 a1_0 a1_1 (fun r1 => bx (!r1) (k 0 0) (f0 a1_0 a1_1 a0_0 a0_1 (fun r2 => bx (decide (r2 > 0)) (k a1_0 a1_1) (k a0_0 a0_1))))

noncomputable def KK_ratio_Max (f0 : Int → Int → Int → Int → KQ → Option DV) (ds : List DV) (k : DV → Option DV) : Option DV :=
  match ds with
  | [.val (.agg ⟨[.int .i64 a0_0, .int .i64 a0_1]⟩), .val (.agg ⟨[.int .i64 a1_0, .int .i64 a1_1]⟩)] => f0 a0_0 a0_1 a1_0 a1_1 (fun r0_0 r0_1 => k (.val (.agg ⟨[.int .i64 r0_0, .int .i64 r0_1]⟩)))
  | _ => none

noncomputable def ratio_Max (a0_0 a0_1 a1_0 a1_1 : Int) (k : KQ) : Option DV := B_ratio_Max ratio_Cmp ratio_both a0_0 a0_1 a1_0 a1_1 k

theorem r_ratio_Max (f0 : Int → Int → Int → Int → KI → Option DV) (f1 : Int → Int → Int → Int → KB → Option DV) (a0_0 a0_1 a1_0 a1_1 : Int) (k : DV → Option DV) : B_ratio_Max f0 f1 a0_0 a0_1 a1_0 a1_1 (fun r0_0 r0_1 => k (.val (.agg ⟨[.int .i64 r0_0, .int .i64 r0_1]⟩))) = pevL Try.prog (tab [(46, (KK_ratio_Cmp f0)), (57, (KK_ratio_both f1))] []) noL [] 64 Try.f86 (bodyOf Try.f86) [.val (.agg ⟨[.int .i64 a0_0, .int .i64 a0_1]⟩), .val (.agg ⟨[.int .i64 a1_0, .int .i64 a1_1]⟩)] k := by kernel_rfl

theorem m_ratio_Max : Meets Try.prog Inv 86 (KK_ratio_Max ratio_Max) :=
  meets_of_pevL mixed stab (kgood stab (tab_cons m_ratio_Cmp (tab_cons m_ratio_both (tab_nil _ _))) (tabH_nil _ _)) Try.func86 (by kernel_rfl) (by kernel_rfl) (by
    intro ds; unfold KK_ratio_Max; split
    · exact .inr ⟨noL, [], 64, LGood.none _ _ _, fun k => r_ratio_Max ratio_Cmp ratio_both _ _ _ _ k⟩
    · exact .inl (fun _ => rfl))

noncomputable def B_ratio_Neg (f0 : Int → Int → KB → Option DV) (a0_0 a0_1 : Int) (k : KQ) : Option DV :=
  f0 a0_0 a0_1 (fun r1 => bx (!r1) (k 0 0) (k (IntKind.wrap .i64 (0 - a0_0)) a0_1))

noncomputable def KK_ratio_Neg (f0 : Int → Int → KQ → Option DV) (ds : List DV) (k : DV → Option DV) : Option DV :=
  match ds with
  | [.val (.agg ⟨[.int .i64 a0_0, .int .i64 a0_1]⟩)] => f0 a0_0 a0_1 (fun r0_0 r0_1 => k (.val (.agg ⟨[.int .i64 r0_0, .int .i64 r0_1]⟩)))
  | _ => none

noncomputable def ratio_Neg (a0_0 a0_1 : Int) (k : KQ) : Option DV := B_ratio_Neg ratio_Is a0_0 a0_1 k

theorem r_ratio_Neg (f0 : Int → Int → KB → Option DV) (a0_0 a0_1 : Int) (k : DV → Option DV) : B_ratio_Neg f0 a0_0 a0_1 (fun r0_0 r0_1 => k (.val (.agg ⟨[.int .i64 r0_0, .int .i64 r0_1]⟩))) = pevL Try.prog (tab [(70, (KK_ratio_Is f0))] []) noL [] 64 Try.f89 (bodyOf Try.f89) [.val (.agg ⟨[.int .i64 a0_0, .int .i64 a0_1]⟩)] k := by kernel_rfl

theorem m_ratio_Neg : Meets Try.prog Inv 89 (KK_ratio_Neg ratio_Neg) :=
  meets_of_pevL mixed stab (kgood stab (tab_cons m_ratio_Is (tab_nil _ _)) (tabH_nil _ _)) Try.func89 (by kernel_rfl) (by kernel_rfl) (by
    intro ds; unfold KK_ratio_Neg; split
    · exact .inr ⟨noL, [], 64, LGood.none _ _ _, fun k => r_ratio_Neg ratio_Is _ _ k⟩
    · exact .inl (fun _ => rfl))

noncomputable def B_ratio_Abs (f0 : Int → Int → Int → Int → KQ → Option DV) (f1 : Int → Int → KQ → Option DV) (a0_0 a0_1 : Int) (k : KQ) : Option DV :=
  f1 a0_0 a0_1 (fun r1 r2 => f0 a0_0 a0_1 r1 r2 (fun r3 r4 => k r3 r4))

noncomputable def KK_ratio_Abs (f0 : Int → Int → KQ → Option DV) (ds : List DV) (k : DV → Option DV) : Option DV :=
  match ds with
  | [.val (.agg ⟨[.int .i64 a0_0, .int .i64 a0_1]⟩)] => f0 a0_0 a0_1 (fun r0_0 r0_1 => k (.val (.agg ⟨[.int .i64 r0_0, .int .i64 r0_1]⟩)))
  | _ => none

noncomputable def ratio_Abs (a0_0 a0_1 : Int) (k : KQ) : Option DV := B_ratio_Abs ratio_Max ratio_Neg a0_0 a0_1 k

theorem r_ratio_Abs (f0 : Int → Int → Int → Int → KQ → Option DV) (f1 : Int → Int → KQ → Option DV) (a0_0 a0_1 : Int) (k : DV → Option DV) : B_ratio_Abs f0 f1 a0_0 a0_1 (fun r0_0 r0_1 => k (.val (.agg ⟨[.int .i64 r0_0, .int .i64 r0_1]⟩))) = pevL Try.prog (tab [(86, (KK_ratio_Max f0)), (89, (KK_ratio_Neg f1))] []) noL [] 64 Try.f87 (bodyOf Try.f87) [.val (.agg ⟨[.int .i64 a0_0, .int .i64 a0_1]⟩)] k := by kernel_rfl

theorem m_ratio_Abs : Meets Try.prog Inv 87 (KK_ratio_Abs ratio_Abs) :=
  meets_of_pevL mixed stab (kgood stab (tab_cons m_ratio_Max (tab_cons m_ratio_Neg (tab_nil _ _))) (tabH_nil _ _)) Try.func87 (by kernel_rfl) (by kernel_rfl) (by
    intro ds; unfold KK_ratio_Abs; split
    · exact .inr ⟨noL, [], 64, LGood.none _ _ _, fun k => r_ratio_Abs ratio_Max ratio_Neg _ _ k⟩
    · exact .inl (fun _ => rfl))

noncomputable def B_block_areStepsInRange (f0 : Int → Int → Int → Int → KQ → Option DV) (f1 : Int → Int → KQ → Option DV) (f2 : Int → Int → KQ → Option DV) (a0_0 a0_1 a1_0 a1_1 a2_0 a2_1 : Int) (k : KB) : Option DV :=
  f2 a0_1 a2_1 (fun r1 r2 => f1 a0_0 a0_1 (fun r3 r4 => f1 a1_0 a1_1 (fun r5 r6 => f0 r3 r4 r5 r6 (fun r7 r8 => bx (decide (IntKind.wrap .i64 (a0_1 * r2) ≤ 1073741824)) (k (decide (IntKind.wrap .i64 ((IntKind.wrap .i64 (a0_1 * r2)) * r7) ≤ IntKind.wrap .i64 (1073741824 * r8)))) (k false)))))

noncomputable def KK_block_areStepsInRange (f0 : Int → Int → Int → Int → Int → Int → KB → Option DV) (ds : List DV) (k : DV → Option DV) : Option DV :=
  match ds with
  | [.val (.agg ⟨[.int .i64 a0_0, .int .i64 a0_1]⟩), .val (.agg ⟨[.int .i64 a1_0, .int .i64 a1_1]⟩), .val (.agg ⟨[.int .i64 a2_0, .int .i64 a2_1]⟩)] => f0 a0_0 a0_1 a1_0 a1_1 a2_0 a2_1 (fun r0_0 => k (.val (.bool r0_0)))
  | _ => none

noncomputable def block_areStepsInRange (a0_0 a0_1 a1_0 a1_1 a2_0 a2_1 : Int) (k : KB) : Option DV := B_block_areStepsInRange ratio_Max ratio_Abs ratio_Make a0_0 a0_1 a1_0 a1_1 a2_0 a2_1 k

theorem r_block_areStepsInRange (f0 : Int → Int → Int → Int → KQ → Option DV) (f1 : Int → Int → KQ → Option DV) (f2 : Int → Int → KQ → Option DV) (a0_0 a0_1 a1_0 a1_1 a2_0 a2_1 : Int) (k : DV → Option DV) : B_block_areStepsInRange f0 f1 f2 a0_0 a0_1 a1_0 a1_1 a2_0 a2_1 (fun r0_0 => k (.val (.bool r0_0))) = pevL Try.prog (tab [(85, (KK_ratio_Make f2)), (86, (KK_ratio_Max f0)), (87, (KK_ratio_Abs f1))] []) noL [] 64 Try.f80 (bodyOf Try.f80) [.val (.agg ⟨[.int .i64 a0_0, .int .i64 a0_1]⟩), .val (.agg ⟨[.int .i64 a1_0, .int .i64 a1_1]⟩), .val (.agg ⟨[.int .i64 a2_0, .int .i64 a2_1]⟩)] k := by kernel_rfl

theorem m_block_areStepsInRange : Meets Try.prog Inv 80 (KK_block_areStepsInRange block_areStepsInRange) :=
  meets_of_pevL mixed stab (kgood stab (tab_cons m_ratio_Make (tab_cons m_ratio_Max (tab_cons m_ratio_Abs (tab_nil _ _)))) (tabH_nil _ _)) Try.func80 (by kernel_rfl) (by kernel_rfl) (by
    intro ds; unfold KK_block_areStepsInRange; split
    · exact .inr ⟨noL, [], 64, LGood.none _ _ _, fun k => r_block_areStepsInRange ratio_Max ratio_Abs ratio_Make _ _ _ _ _ _ k⟩
    · exact .inl (fun _ => rfl))

noncomputable def B_block_isControl (f0 : Int → Int → Int → Int → Int → Int → KB → Option DV) (f1 : Int → Int → Int → Int → KI → Option DV) (f2 : List (List DV) → KB → Option DV) (a0 : List (List DV)) (k : KB) : Option DV :=
  bx (!(((List.length a0 : Nat) : Int) != 4)) (f2 a0 (fun r1 => bx (r1) (k false) (optE (a0[Int.toNat 0]?) (fun e2 => ld_ii e2 0 (fun v3 v4 => optE (a0[Int.toNat 1]?) (fun e5 => ld_ii e5 0 (fun v6 v7 => optE (a0[Int.toNat 2]?) (fun e8 => ld_ii e8 0 (fun v9 v10 => optE (a0[Int.toNat 3]?) (fun e11 => ld_ii e11 0 (fun v12 v13 => f1 v6 v7 v3 v4 (fun r14 => bx (!(decide (r14 > 0))) (f1 v3 v4 v9 v10 (fun r15 => bx (!(decide (r15 > 0))) (bx (decide (v12 < 0)) (k false) (bx (!(v12 == 0)) (f0 v6 v7 v9 v10 v12 v13 (fun r16 => k r16)) (k true))) (k false))) (k false))))))))))))) (k false)

noncomputable def KK_block_isControl (f0 : List (List DV) → KB → Option DV) (ds : List DV) (k : DV → Option DV) : Option DV :=
  match ds with
  | [.lst 2 a0] => f0 a0 (fun r0_0 => k (.val (.bool r0_0)))
  | _ => none

noncomputable def block_isControl (a0 : List (List DV)) (k : KB) : Option DV := B_block_isControl block_areStepsInRange ratio_Cmp slices_ContainsFunc_serinette_api_Q_block_isControl_1 a0 k

theorem r_block_isControl (f0 : Int → Int → Int → Int → Int → Int → KB → Option DV) (f1 : Int → Int → Int → Int → KI → Option DV) (f2 : List (List DV) → KB → Option DV) (a0 : List (List DV)) (k : DV → Option DV) : B_block_isControl f0 f1 f2 a0 (fun r0_0 => k (.val (.bool r0_0))) = pevL Try.prog (tab [(46, (KK_ratio_Cmp f1)), (76, (KK_slices_ContainsFunc_serinette_api_Q slices_ContainsFunc_serinette_api_Q_block_isTable_1 f2)), (80, (KK_block_areStepsInRange f0))] []) noL [] 64 Try.f66 (bodyOf Try.f66) [.lst 2 a0] k := by kernel_rfl

theorem m_block_isControl : Meets Try.prog Inv 66 (KK_block_isControl block_isControl) :=
  meets_of_pevL mixed stab (kgood stab (tab_cons m_ratio_Cmp (tab_cons m_slices_ContainsFunc_serinette_api_Q (tab_cons m_block_areStepsInRange (tab_nil _ _)))) (tabH_nil _ _)) Try.func66 (by kernel_rfl) (by kernel_rfl) (by
    intro ds; unfold KK_block_isControl; split
    · exact .inr ⟨noL, [], 64, LGood.none _ _ _, fun k => r_block_isControl block_areStepsInRange ratio_Cmp slices_ContainsFunc_serinette_api_Q_block_isControl_1 _ k⟩
    · exact .inl (fun _ => rfl))

noncomputable def B_block_isInRange (f0 : Int → Int → KB → Option DV) (f1 : ByteArray → Int → Int → ByteArray → ByteArray → KB → Option DV) (f2 : List (List DV) → KB → Option DV) (f3 : List (List DV) → KB → Option DV) (f4 : ByteArray → KB → Option DV) (a0_0 a0_1 : ByteArray) (a0_2 a0_3 : Int) (a0_4 : List (List DV)) (a0_5 : ByteArray) (a0_6 a0_7 : Int) (a0_8 a0_9 : ByteArray) (a0_10 : List (List DV)) (k : KB) : Option DV :=
  bx ((ByteArray.toList a0_0 == ByteArray.toList (⟨#[110, 117, 109]⟩))) (bx (((List.length a0_4 : Nat) : Int) == 1) (optE (a0_4[Int.toNat 0]?) (fun e1 => ld_ii e1 0 (fun v2 v3 => f0 v2 v3 (fun r4 => k r4)))) (k false)) (bx ((ByteArray.toList a0_0 == ByteArray.toList (⟨#[102, 105, 116]⟩))) (f1 a0_5 a0_6 a0_7 a0_8 a0_9 (fun r5 => k r5)) (bx ((ByteArray.toList a0_0 == ByteArray.toList (⟨#[100, 101, 108, 97, 121]⟩))) (bx (decide (0 ≤ a0_2)) (k (decide (a0_2 ≤ 4096))) (k false)) (bx ((ByteArray.toList a0_0 == ByteArray.toList (⟨#[118, 97, 114, 121]⟩))) (bx (decide (0 ≤ a0_2)) (bx (decide (a0_2 ≤ a0_3)) (k (decide (a0_3 ≤ 4096))) (k false)) (k false)) (bx ((ByteArray.toList a0_0 == ByteArray.toList (⟨#[116, 97, 98, 108, 101]⟩))) (f2 a0_4 (fun r6 => k r6)) (bx ((ByteArray.toList a0_0 == ByteArray.toList (⟨#[115, 116, 111, 114, 101]⟩))) (f2 a0_4 (fun r7 => k r7)) (bx ((ByteArray.toList a0_0 == ByteArray.toList (⟨#[119, 97, 118, 101]⟩))) (f2 a0_4 (fun r8 => k r8)) (bx ((ByteArray.toList a0_0 == ByteArray.toList (⟨#[107, 110, 111, 98]⟩))) (f4 a0_1 (fun r9 => bx (r9) (f3 a0_4 (fun r10 => k r10)) (k false))) (bx ((ByteArray.toList a0_0 == ByteArray.toList (⟨#[115, 104, 111, 119]⟩))) (f4 a0_1 (fun r11 => k r11)) (bx ((ByteArray.toList a0_0 == ByteArray.toList (⟨#[117, 112]⟩))) (bx (decide (1 ≤ a0_2)) (k (decide (a0_2 ≤ 8))) (k false)) (bx ((ByteArray.toList a0_0 == ByteArray.toList (⟨#[100, 111, 119, 110]⟩))) (bx (decide (1 ≤ a0_2)) (k (decide (a0_2 ≤ 8))) (k false)) (k true)))))))))))

noncomputable def KK_block_isInRange (f0 : ByteArray → ByteArray → Int → Int → List (List DV) → ByteArray → Int → Int → ByteArray → ByteArray → List (List DV) → KB → Option DV) (ds : List DV) (k : DV → Option DV) : Option DV :=
  match ds with
  | [.agg [.val (.string a0_0), .val (.string a0_1), .val (.int .i64 a0_2), .val (.int .i64 a0_3), .lst 2 a0_4, .val (.string a0_5), .val (.int .i64 a0_6), .val (.int .i64 a0_7), .val (.string a0_8), .val (.string a0_9), .lst 11 a0_10]] => f0 a0_0 a0_1 a0_2 a0_3 a0_4 a0_5 a0_6 a0_7 a0_8 a0_9 a0_10 (fun r0_0 => k (.val (.bool r0_0)))
  | _ => none

noncomputable def block_isInRange (a0_0 a0_1 : ByteArray) (a0_2 a0_3 : Int) (a0_4 : List (List DV)) (a0_5 : ByteArray) (a0_6 a0_7 : Int) (a0_8 a0_9 : ByteArray) (a0_10 : List (List DV)) (k : KB) : Option DV := B_block_isInRange ratio_Valid quant_Valid block_isTable block_isControl block_isPath a0_0 a0_1 a0_2 a0_3 a0_4 a0_5 a0_6 a0_7 a0_8 a0_9 a0_10 k

theorem r_block_isInRange (f0 : Int → Int → KB → Option DV) (f1 : ByteArray → Int → Int → ByteArray → ByteArray → KB → Option DV) (f2 : List (List DV) → KB → Option DV) (f3 : List (List DV) → KB → Option DV) (f4 : ByteArray → KB → Option DV) (a0_0 a0_1 : ByteArray) (a0_2 a0_3 : Int) (a0_4 : List (List DV)) (a0_5 : ByteArray) (a0_6 a0_7 : Int) (a0_8 a0_9 : ByteArray) (a0_10 : List (List DV)) (k : DV → Option DV) : B_block_isInRange f0 f1 f2 f3 f4 a0_0 a0_1 a0_2 a0_3 a0_4 a0_5 a0_6 a0_7 a0_8 a0_9 a0_10 (fun r0_0 => k (.val (.bool r0_0))) = pevL Try.prog (tab [(62, (KK_ratio_Valid f0)), (63, (KK_quant_Valid f1)), (64, (KK_block_isTable f2)), (65, (KK_block_isPath f4)), (66, (KK_block_isControl f3))] []) noL [] 64 Try.f48 (bodyOf Try.f48) [.agg [.val (.string a0_0), .val (.string a0_1), .val (.int .i64 a0_2), .val (.int .i64 a0_3), .lst 2 a0_4, .val (.string a0_5), .val (.int .i64 a0_6), .val (.int .i64 a0_7), .val (.string a0_8), .val (.string a0_9), .lst 11 a0_10]] k := by kernel_rfl

theorem m_block_isInRange : Meets Try.prog Inv 48 (KK_block_isInRange block_isInRange) :=
  meets_of_pevL mixed stab (kgood stab (tab_cons m_ratio_Valid (tab_cons m_quant_Valid (tab_cons m_block_isTable (tab_cons m_block_isPath (tab_cons m_block_isControl (tab_nil _ _)))))) (tabH_nil _ _)) Try.func48 (by kernel_rfl) (by kernel_rfl) (by
    intro ds; unfold KK_block_isInRange; split
    · exact .inr ⟨noL, [], 64, LGood.none _ _ _, fun k => r_block_isInRange ratio_Valid quant_Valid block_isTable block_isControl block_isPath _ _ _ _ _ _ _ _ _ _ _ k⟩
    · exact .inl (fun _ => rfl))

noncomputable def B_block_isValid (f0 : List (List DV) → KB → Option DV) (f1 : ByteArray → ByteArray → Int → Int → List (List DV) → ByteArray → Int → Int → ByteArray → ByteArray → List (List DV) → KB → Option DV) (f2 : ByteArray → ByteArray → Int → Int → List (List DV) → ByteArray → Int → Int → ByteArray → ByteArray → List (List DV) → KB → Option DV) (a0_0 a0_1 : ByteArray) (a0_2 a0_3 : Int) (a0_4 : List (List DV)) (a0_5 : ByteArray) (a0_6 a0_7 : Int) (a0_8 a0_9 : ByteArray) (a0_10 : List (List DV)) (k : KB) : Option DV :=
  f2 a0_0 a0_1 a0_2 a0_3 a0_4 a0_5 a0_6 a0_7 a0_8 a0_9 a0_10 (fun r1 => bx (r1) (f1 a0_0 a0_1 a0_2 a0_3 a0_4 a0_5 a0_6 a0_7 a0_8 a0_9 a0_10 (fun r2 => bx (r2) (f0 a0_10 (fun r3 => k (!r3))) (k false))) (k false))

noncomputable def B_slices_ContainsFunc_serinette_api_Block_block_isValid_1 (f0 : List (List DV) → KI → Option DV) (a0 : List (List DV)) (k : KB) : Option DV :=
  f0 a0 (fun r1 => k (decide (r1 ≥ 0)))

noncomputable def B_block_isValid_1 (f0 : ByteArray → ByteArray → Int → Int → List (List DV) → ByteArray → Int → Int → ByteArray → ByteArray → List (List DV) → KB → Option DV) (a0_0 a0_1 : ByteArray) (a0_2 a0_3 : Int) (a0_4 : List (List DV)) (a0_5 : ByteArray) (a0_6 a0_7 : Int) (a0_8 a0_9 : ByteArray) (a0_10 : List (List DV)) (k : KB) : Option DV :=
  f0 a0_0 a0_1 a0_2 a0_3 a0_4 a0_5 a0_6 a0_7 a0_8 a0_9 a0_10 (fun r1 => k (!r1))

inductive X_slices_IndexFunc_serinette_api_Block_block_isValid_1_l2 where
  | h0 (x0 : List (List DV)) (x1 : Int) (x2 : Int)
def φ_slices_IndexFunc_serinette_api_Block_block_isValid_1_l2 : X_slices_IndexFunc_serinette_api_Block_block_isValid_1_l2 → Nat
  | .h0 x0 x1 x2 => Int.toNat (x1 - x2) + 1
noncomputable def S_slices_IndexFunc_serinette_api_Block_block_isValid_1_l2 : X_slices_IndexFunc_serinette_api_Block_block_isValid_1_l2 → St
  | .h0 x0 x1 x2 => ⟨mkT [(0, .dv (.lst 11 x0)), (1, .dv (.val (.func (.func 50) ⟨[]⟩ ⟨[]⟩))), (7, .dv (.val (.int .i64 x1))), (8, .dv (.val (.int .i64 x2)))] (.leaf .dead), 19, []⟩

noncomputable def oc_slices_IndexFunc_serinette_api_Block_block_isValid_1_l2 (k : KC) : KI × (Option DV) := (fun y0 => k .ret ⟨mkT [(4, .dv (.val (.int .i64 y0)))] (.leaf .dead), 19, []⟩, k (.exit 0) ⟨mkT [(4, .dead)] (.leaf .dead), 19, []⟩)

noncomputable def B_slices_IndexFunc_serinette_api_Block_block_isValid_1_l2_h0 (f0 : ByteArray → ByteArray → Int → Int → List (List DV) → ByteArray → Int → Int → ByteArray → ByteArray → List (List DV) → KB → Option DV) (x0 : List (List DV)) (x1 : Int) (x2 : Int) (κn : X_slices_IndexFunc_serinette_api_Block_block_isValid_1_l2 → Option DV) (κ0 : KI) (κ1 : Option DV) : Option DV :=
  bx (decide (x2 < x1)) (bx (decide (0 ≤ x2)) (optE (x0[Int.toNat x2]?) (fun e1 => ld_ssiil2siissl11 e1 0 (fun v2 v3 v4 v5 v6 v7 v8 v9 v10 v11 v12 => f0 v2 v3 v4 v5 v6 v7 v8 v9 v10 v11 v12 (fun r13 => bx (r13) (κ0 x2) (κn (X_slices_IndexFunc_serinette_api_Block_block_isValid_1_l2.h0 x0 x1 (IntKind.wrap .i64 (x2 + 1)))))))) none) κ1

noncomputable def F_slices_IndexFunc_serinette_api_Block_block_isValid_1_l2 (f0 : ByteArray → ByteArray → Int → Int → List (List DV) → ByteArray → Int → Int → ByteArray → ByteArray → List (List DV) → KB → Option DV) : X_slices_IndexFunc_serinette_api_Block_block_isValid_1_l2 → (X_slices_IndexFunc_serinette_api_Block_block_isValid_1_l2 → Option DV) → (KI × (Option DV)) → Option DV
  | .h0 x0 x1 x2, κn, κ => B_slices_IndexFunc_serinette_api_Block_block_isValid_1_l2_h0 f0 x0 x1 x2 κn κ.1 κ.2

noncomputable def dec_slices_IndexFunc_serinette_api_Block_block_isValid_1_l2 (s : St) : Option X_slices_IndexFunc_serinette_api_Block_block_isValid_1_l2 :=
  bindO (xN s.n 19) fun u => bindO (xD (s.tmps.get 0)) fun d1 => bindO (xL 11 d1) fun x0 => bindO (xD (s.tmps.get 1)) fun d3 => bindO (xF 50 d3) fun u4 => bindO (xD (s.tmps.get 7)) fun d5 => bindO (xI .i64 d5) fun x1 => bindO (xD (s.tmps.get 8)) fun d7 => bindO (xI .i64 d7) fun x2 => bindO (xEnd s.heap) fun u9 => some (.h0 x0 x1 x2)

noncomputable def R_slices_IndexFunc_serinette_api_Block_block_isValid_1_l2 (f0 : ByteArray → ByteArray → Int → Int → List (List DV) → ByteArray → Int → Int → ByteArray → ByteArray → List (List DV) → KB → Option DV) : St → KC → Option DV := decR dec_slices_IndexFunc_serinette_api_Block_block_isValid_1_l2 (F_slices_IndexFunc_serinette_api_Block_block_isValid_1_l2 f0) φ_slices_IndexFunc_serinette_api_Block_block_isValid_1_l2 oc_slices_IndexFunc_serinette_api_Block_block_isValid_1_l2

theorem d_slices_IndexFunc_serinette_api_Block_block_isValid_1_l2 : ∀ s x, dec_slices_IndexFunc_serinette_api_Block_block_isValid_1_l2 s = some x → SLe s (S_slices_IndexFunc_serinette_api_Block_block_isValid_1_l2 x) := by
  intro s x h
  unfold dec_slices_IndexFunc_serinette_api_Block_block_isValid_1_l2 at h
  · obtain ⟨u, en, h⟩ := bindO_some h
    obtain ⟨d1, e1, h⟩ := bindO_some h
    obtain ⟨x0, e2, h⟩ := bindO_some h
    obtain ⟨d3, e3, h⟩ := bindO_some h
    obtain ⟨u4, e4, h⟩ := bindO_some h
    obtain ⟨d5, e5, h⟩ := bindO_some h
    obtain ⟨x1, e6, h⟩ := bindO_some h
    obtain ⟨d7, e7, h⟩ := bindO_some h
    obtain ⟨x2, e8, h⟩ := bindO_some h
    obtain ⟨u9, e9, h⟩ := bindO_some h
    cases h
    exact ⟨le_mkT _ _ (Le.dead _) ⟨.inr ((xD_eq e1).trans (congrArg VV.dv (xL_eq e2))), .inr ((xD_eq e3).trans (congrArg VV.dv (xF_eq e4))), .inr ((xD_eq e5).trans (congrArg VV.dv (xI_eq e6))), .inr ((xD_eq e7).trans (congrArg VV.dv (xI_eq e8))), trivial⟩, (xN_eq en).symm, by rw [xEnd_eq e9]; rfl⟩
noncomputable def B_slices_IndexFunc_serinette_api_Block_block_isValid_1 (f0 : ByteArray → ByteArray → Int → Int → List (List DV) → ByteArray → Int → Int → ByteArray → ByteArray → List (List DV) → KB → Option DV) (a0 : List (List DV)) (k : KI) : Option DV :=
  LF (F_slices_IndexFunc_serinette_api_Block_block_isValid_1_l2 f0) (φ_slices_IndexFunc_serinette_api_Block_block_isValid_1_l2 (X_slices_IndexFunc_serinette_api_Block_block_isValid_1_l2.h0 a0 ((List.length a0 : Nat) : Int) 0)) (X_slices_IndexFunc_serinette_api_Block_block_isValid_1_l2.h0 a0 ((List.length a0 : Nat) : Int) 0) ((fun z14_0 => k z14_0), (k (-1)))

noncomputable def KK_block_isValid (f0 : ByteArray → ByteArray → Int → Int → List (List DV) → ByteArray → Int → Int → ByteArray → ByteArray → List (List DV) → KB → Option DV) (ds : List DV) (k : DV → Option DV) : Option DV :=
  match ds with
  | [.agg [.val (.string a0_0), .val (.string a0_1), .val (.int .i64 a0_2), .val (.int .i64 a0_3), .lst 2 a0_4, .val (.string a0_5), .val (.int .i64 a0_6), .val (.int .i64 a0_7), .val (.string a0_8), .val (.string a0_9), .lst 11 a0_10]] => f0 a0_0 a0_1 a0_2 a0_3 a0_4 a0_5 a0_6 a0_7 a0_8 a0_9 a0_10 (fun r0_0 => k (.val (.bool r0_0)))
  | _ => none

noncomputable def KK_slices_ContainsFunc_serinette_api_Block (f0 : List (List DV) → KB → Option DV) (ds : List DV) (k : DV → Option DV) : Option DV :=
  match ds with
  | [.lst 11 a0, .val (.func (.func 50) ⟨[]⟩ ⟨[]⟩)] => f0 a0 (fun r0_0 => k (.val (.bool r0_0)))
  | _ => none

noncomputable def KK_block_isValid_1 (f0 : ByteArray → ByteArray → Int → Int → List (List DV) → ByteArray → Int → Int → ByteArray → ByteArray → List (List DV) → KB → Option DV) (ds : List DV) (k : DV → Option DV) : Option DV :=
  match ds with
  | [.agg [.val (.string a0_0), .val (.string a0_1), .val (.int .i64 a0_2), .val (.int .i64 a0_3), .lst 2 a0_4, .val (.string a0_5), .val (.int .i64 a0_6), .val (.int .i64 a0_7), .val (.string a0_8), .val (.string a0_9), .lst 11 a0_10]] => f0 a0_0 a0_1 a0_2 a0_3 a0_4 a0_5 a0_6 a0_7 a0_8 a0_9 a0_10 (fun r0_0 => k (.val (.bool r0_0)))
  | _ => none

noncomputable def KK_slices_IndexFunc_serinette_api_Block (f0 : List (List DV) → KI → Option DV) (ds : List DV) (k : DV → Option DV) : Option DV :=
  match ds with
  | [.lst 11 a0, .val (.func (.func 50) ⟨[]⟩ ⟨[]⟩)] => f0 a0 (fun r0_0 => k (.val (.int .i64 r0_0)))
  | _ => none

noncomputable def G_block_isValid (N : Nat) : Nat → (ByteArray → ByteArray → Int → Int → List (List DV) → ByteArray → Int → Int → ByteArray → ByteArray → List (List DV) → KB → Option DV) × (List (List DV) → KB → Option DV) × (ByteArray → ByteArray → Int → Int → List (List DV) → ByteArray → Int → Int → ByteArray → ByteArray → List (List DV) → KB → Option DV) × (List (List DV) → KI → Option DV)
  | 0 => (fun _ _ _ _ _ _ _ _ _ _ _ _ => none, fun _ _ => none, fun _ _ _ _ _ _ _ _ _ _ _ _ => none, fun _ _ => none)
  | n + 1 => (fun a0_0 a0_1 a0_2 a0_3 a0_4 a0_5 a0_6 a0_7 a0_8 a0_9 a0_10 k => B_block_isValid (G_block_isValid N n).2.1 block_isInRange block_hasItsFields a0_0 a0_1 a0_2 a0_3 a0_4 a0_5 a0_6 a0_7 a0_8 a0_9 a0_10 k, fun a0 k => B_slices_ContainsFunc_serinette_api_Block_block_isValid_1 (G_block_isValid N n).2.2.2 a0 k, fun a0_0 a0_1 a0_2 a0_3 a0_4 a0_5 a0_6 a0_7 a0_8 a0_9 a0_10 k => B_block_isValid_1 (G_block_isValid N n).1 a0_0 a0_1 a0_2 a0_3 a0_4 a0_5 a0_6 a0_7 a0_8 a0_9 a0_10 k, fun a0 k => B_slices_IndexFunc_serinette_api_Block_block_isValid_1 (G_block_isValid N n).2.2.1 a0 k)

noncomputable def block_isValid_n (N n : Nat) : ByteArray → ByteArray → Int → Int → List (List DV) → ByteArray → Int → Int → ByteArray → ByteArray → List (List DV) → KB → Option DV := (G_block_isValid N n).1
noncomputable def block_isValid (N : Nat) : ByteArray → ByteArray → Int → Int → List (List DV) → ByteArray → Int → Int → ByteArray → ByteArray → List (List DV) → KB → Option DV := block_isValid_n N N

noncomputable def slices_ContainsFunc_serinette_api_Block_block_isValid_1_n (N n : Nat) : List (List DV) → KB → Option DV := (G_block_isValid N n).2.1
noncomputable def slices_ContainsFunc_serinette_api_Block_block_isValid_1 (N : Nat) : List (List DV) → KB → Option DV := slices_ContainsFunc_serinette_api_Block_block_isValid_1_n N N

noncomputable def block_isValid_1_n (N n : Nat) : ByteArray → ByteArray → Int → Int → List (List DV) → ByteArray → Int → Int → ByteArray → ByteArray → List (List DV) → KB → Option DV := (G_block_isValid N n).2.2.1
noncomputable def block_isValid_1 (N : Nat) : ByteArray → ByteArray → Int → Int → List (List DV) → ByteArray → Int → Int → ByteArray → ByteArray → List (List DV) → KB → Option DV := block_isValid_1_n N N

noncomputable def slices_IndexFunc_serinette_api_Block_block_isValid_1_n (N n : Nat) : List (List DV) → KI → Option DV := (G_block_isValid N n).2.2.2
noncomputable def slices_IndexFunc_serinette_api_Block_block_isValid_1 (N : Nat) : List (List DV) → KI → Option DV := slices_IndexFunc_serinette_api_Block_block_isValid_1_n N N

theorem r_block_isValid (f0 : List (List DV) → KB → Option DV) (f1 : ByteArray → ByteArray → Int → Int → List (List DV) → ByteArray → Int → Int → ByteArray → ByteArray → List (List DV) → KB → Option DV) (f2 : ByteArray → ByteArray → Int → Int → List (List DV) → ByteArray → Int → Int → ByteArray → ByteArray → List (List DV) → KB → Option DV) (a0_0 a0_1 : ByteArray) (a0_2 a0_3 : Int) (a0_4 : List (List DV)) (a0_5 : ByteArray) (a0_6 a0_7 : Int) (a0_8 a0_9 : ByteArray) (a0_10 : List (List DV)) (k : DV → Option DV) : B_block_isValid f0 f1 f2 a0_0 a0_1 a0_2 a0_3 a0_4 a0_5 a0_6 a0_7 a0_8 a0_9 a0_10 (fun r0_0 => k (.val (.bool r0_0))) = pevL Try.prog (tab [(47, (KK_block_hasItsFields f2)), (48, (KK_block_isInRange f1)), (49, (KK_slices_ContainsFunc_serinette_api_Block f0))] []) noL [] 64 Try.f38 (bodyOf Try.f38) [.agg [.val (.string a0_0), .val (.string a0_1), .val (.int .i64 a0_2), .val (.int .i64 a0_3), .lst 2 a0_4, .val (.string a0_5), .val (.int .i64 a0_6), .val (.int .i64 a0_7), .val (.string a0_8), .val (.string a0_9), .lst 11 a0_10]] k := by kernel_rfl

theorem r_slices_ContainsFunc_serinette_api_Block_block_isValid_1 (f0 : List (List DV) → KI → Option DV) (a0 : List (List DV)) (k : DV → Option DV) : B_slices_ContainsFunc_serinette_api_Block_block_isValid_1 f0 a0 (fun r0_0 => k (.val (.bool r0_0))) = pevL Try.prog (tab [(67, (KK_slices_IndexFunc_serinette_api_Block f0))] []) noL [] 64 Try.f49 (bodyOf Try.f49) [.lst 11 a0, .val (.func (.func 50) ⟨[]⟩ ⟨[]⟩)] k := by kernel_rfl

theorem r_block_isValid_1 (f0 : ByteArray → ByteArray → Int → Int → List (List DV) → ByteArray → Int → Int → ByteArray → ByteArray → List (List DV) → KB → Option DV) (a0_0 a0_1 : ByteArray) (a0_2 a0_3 : Int) (a0_4 : List (List DV)) (a0_5 : ByteArray) (a0_6 a0_7 : Int) (a0_8 a0_9 : ByteArray) (a0_10 : List (List DV)) (k : DV → Option DV) : B_block_isValid_1 f0 a0_0 a0_1 a0_2 a0_3 a0_4 a0_5 a0_6 a0_7 a0_8 a0_9 a0_10 (fun r0_0 => k (.val (.bool r0_0))) = pevL Try.prog (tab [(38, (KK_block_isValid f0))] []) noL [] 64 Try.f50 (bodyOf Try.f50) [.agg [.val (.string a0_0), .val (.string a0_1), .val (.int .i64 a0_2), .val (.int .i64 a0_3), .lst 2 a0_4, .val (.string a0_5), .val (.int .i64 a0_6), .val (.int .i64 a0_7), .val (.string a0_8), .val (.string a0_9), .lst 11 a0_10]] k := by kernel_rfl

theorem q_slices_IndexFunc_serinette_api_Block_block_isValid_1_l2_h0 (f0 : ByteArray → ByteArray → Int → Int → List (List DV) → ByteArray → Int → Int → ByteArray → ByteArray → List (List DV) → KB → Option DV) (x0 : List (List DV)) (x1 : Int) (x2 : Int) (κn : St → Option DV) (κ : KC) : pev Try.prog (tab [(50, (KK_block_isValid_1 f0))] []) (ltab [(2, R_slices_IndexFunc_serinette_api_Block_block_isValid_1_l2 f0)]) [(0, [0]), (0, []), (2, [0, 1, 7, 8]), (100002, [4])] 64 (loopB (bodyOf Try.f67) 0) (S_slices_IndexFunc_serinette_api_Block_block_isValid_1_l2 (.h0 x0 x1 x2)) (contL 0 [0, 1, 7, 8] [4] κn κ) = F_slices_IndexFunc_serinette_api_Block_block_isValid_1_l2 f0 (.h0 x0 x1 x2) (fun x => κn (S_slices_IndexFunc_serinette_api_Block_block_isValid_1_l2 x)) (oc_slices_IndexFunc_serinette_api_Block_block_isValid_1_l2 κ) := by kernel_rfl

theorem g_slices_IndexFunc_serinette_api_Block_block_isValid_1_l2 (f0 : ByteArray → ByteArray → Int → Int → List (List DV) → ByteArray → Int → Int → ByteArray → ByteArray → List (List DV) → KB → Option DV) (HK : KGood Try.prog Inv (tab [(50, (KK_block_isValid_1 f0))] [])) : RGood 0 Try.prog Inv (loopB (bodyOf Try.f67) 0) (R_slices_IndexFunc_serinette_api_Block_block_isValid_1_l2 f0) :=
  have hL : LGood 0 Try.prog Inv (ltab [(2, R_slices_IndexFunc_serinette_api_Block_block_isValid_1_l2 f0)]) (loopB (bodyOf Try.f67) 0) := (lgood_of (bs := []) (by kernel_rfl) lgood_nil)
  rgood_dec (body := fun s k => pev Try.prog (tab [(50, (KK_block_isValid_1 f0))] []) (ltab [(2, R_slices_IndexFunc_serinette_api_Block_block_isValid_1_l2 f0)]) [(0, [0]), (0, []), (2, [0, 1, 7, 8]), (100002, [4])] 64 (loopB (bodyOf Try.f67) 0) s k) (live := [0, 1, 7, 8]) (out := [4]) (S := S_slices_IndexFunc_serinette_api_Block_block_isValid_1_l2) (pev_ok mixed HK (ltab [(2, R_slices_IndexFunc_serinette_api_Block_block_isValid_1_l2 f0)]) [(0, [0]), (0, []), (2, [0, 1, 7, 8]), (100002, [4])] 64 _ hL) (pev_nat HK (ltab [(2, R_slices_IndexFunc_serinette_api_Block_block_isValid_1_l2 f0)]) [(0, [0]), (0, []), (2, [0, 1, 7, 8]), (100002, [4])] 64 _ hL)
    (fun x κn κ => match x with
      | .h0 _ _ _ => q_slices_IndexFunc_serinette_api_Block_block_isValid_1_l2_h0 f0 _ _ _ κn κ
    ) d_slices_IndexFunc_serinette_api_Block_block_isValid_1_l2 φ_slices_IndexFunc_serinette_api_Block_block_isValid_1_l2

theorem r_slices_IndexFunc_serinette_api_Block_block_isValid_1 (f0 : ByteArray → ByteArray → Int → Int → List (List DV) → ByteArray → Int → Int → ByteArray → ByteArray → List (List DV) → KB → Option DV) (a0 : List (List DV)) (k : DV → Option DV) : B_slices_IndexFunc_serinette_api_Block_block_isValid_1 f0 a0 (fun r0_0 => k (.val (.int .i64 r0_0))) = pevL Try.prog (tab [(50, (KK_block_isValid_1 f0))] []) (ltab [(2, R_slices_IndexFunc_serinette_api_Block_block_isValid_1_l2 f0)]) [(0, [0]), (0, []), (2, [0, 1, 7, 8]), (100002, [4])] 64 Try.f67 (bodyOf Try.f67) [.lst 11 a0, .val (.func (.func 50) ⟨[]⟩ ⟨[]⟩)] k := by kernel_rfl

theorem m_G_block_isValid (N : Nat) : ∀ n, Meets Try.prog Inv 38 (KK_block_isValid (block_isValid_n N n)) ∧ Meets Try.prog Inv 49 (KK_slices_ContainsFunc_serinette_api_Block (slices_ContainsFunc_serinette_api_Block_block_isValid_1_n N n)) ∧ Meets Try.prog Inv 50 (KK_block_isValid_1 (block_isValid_1_n N n)) ∧ Meets Try.prog Inv 67 (KK_slices_IndexFunc_serinette_api_Block (slices_IndexFunc_serinette_api_Block_block_isValid_1_n N n))
  | 0 => ⟨meets_none (by intro ds k; unfold KK_block_isValid; split <;> rfl), meets_none (by intro ds k; unfold KK_slices_ContainsFunc_serinette_api_Block; split <;> rfl), meets_none (by intro ds k; unfold KK_block_isValid_1; split <;> rfl), meets_none (by intro ds k; unfold KK_slices_IndexFunc_serinette_api_Block; split <;> rfl)⟩
  | n + 1 => by
    have ih := m_G_block_isValid N n
    exact ⟨meets_of_pevL mixed stab (kgood stab (tab_cons m_block_hasItsFields (tab_cons m_block_isInRange (tab_cons (ih.2.1) (tab_nil _ _)))) (tabH_nil _ _)) Try.func38 (by kernel_rfl) (by kernel_rfl) (by
    intro ds; unfold KK_block_isValid; split
    · exact .inr ⟨noL, [], 64, LGood.none _ _ _, fun k => r_block_isValid (slices_ContainsFunc_serinette_api_Block_block_isValid_1_n N n) block_isInRange block_hasItsFields _ _ _ _ _ _ _ _ _ _ _ k⟩
    · exact .inl (fun _ => rfl)),
    meets_of_pevL mixed stab (kgood stab (tab_cons (ih.2.2.2) (tab_nil _ _)) (tabH_nil _ _)) Try.func49 (by kernel_rfl) (by kernel_rfl) (by
    intro ds; unfold KK_slices_ContainsFunc_serinette_api_Block; split
    · exact .inr ⟨noL, [], 64, LGood.none _ _ _, fun k => r_slices_ContainsFunc_serinette_api_Block_block_isValid_1 (slices_IndexFunc_serinette_api_Block_block_isValid_1_n N n) _ k⟩
    · exact .inl (fun _ => rfl)),
    meets_of_pevL mixed stab (kgood stab (tab_cons (ih.1) (tab_nil _ _)) (tabH_nil _ _)) Try.func50 (by kernel_rfl) (by kernel_rfl) (by
    intro ds; unfold KK_block_isValid_1; split
    · exact .inr ⟨noL, [], 64, LGood.none _ _ _, fun k => r_block_isValid_1 (block_isValid_n N n) _ _ _ _ _ _ _ _ _ _ _ k⟩
    · exact .inl (fun _ => rfl)),
    meets_of_pevL mixed stab (kgood stab (tab_cons (ih.2.2.1) (tab_nil _ _)) (tabH_nil _ _)) Try.func67 (by kernel_rfl) (by kernel_rfl) (by
    intro ds; unfold KK_slices_IndexFunc_serinette_api_Block; split
    · exact .inr ⟨(ltab [(2, R_slices_IndexFunc_serinette_api_Block_block_isValid_1_l2 (block_isValid_1_n N n))]), [(0, [0]), (0, []), (2, [0, 1, 7, 8]), (100002, [4])], 64, lgood_of (bs := [loopB (bodyOf Try.f67) 0]) (by kernel_rfl) (lgood_cons (by kernel_rfl) (g_slices_IndexFunc_serinette_api_Block_block_isValid_1_l2 (block_isValid_1_n N n) (kgood stab (tab_cons (ih.2.2.1) (tab_nil _ _)) (tabH_nil _ _))) lgood_nil), fun k => r_slices_IndexFunc_serinette_api_Block_block_isValid_1 (block_isValid_1_n N n) _ k⟩
    · exact .inl (fun _ => rfl))⟩

theorem m_block_isValid (N : Nat) : Meets Try.prog Inv 38 (KK_block_isValid (block_isValid N)) := (m_G_block_isValid N N).1

theorem m_slices_ContainsFunc_serinette_api_Block (N : Nat) : Meets Try.prog Inv 49 (KK_slices_ContainsFunc_serinette_api_Block (slices_ContainsFunc_serinette_api_Block_block_isValid_1 N)) := (m_G_block_isValid N N).2.1

theorem m_block_isValid_1 (N : Nat) : Meets Try.prog Inv 50 (KK_block_isValid_1 (block_isValid_1 N)) := (m_G_block_isValid N N).2.2.1

theorem m_slices_IndexFunc_serinette_api_Block (N : Nat) : Meets Try.prog Inv 67 (KK_slices_IndexFunc_serinette_api_Block (slices_IndexFunc_serinette_api_Block_block_isValid_1 N)) := (m_G_block_isValid N N).2.2.2

inductive X_block_Depth_l3 where
  | h0 (x0 : Int) (x1 : List (List DV)) (x2 : Int) (x3 : Int)
def φ_block_Depth_l3 : X_block_Depth_l3 → Nat
  | .h0 x0 x1 x2 x3 => Int.toNat (x2 - x3) + 1
noncomputable def S_block_Depth_l3 : X_block_Depth_l3 → St
  | .h0 x0 x1 x2 x3 => ⟨mkT [(3, .dv (.val (.int .i64 x0))), (7, .dv (.lst 11 x1)), (8, .dv (.val (.int .i64 x2))), (9, .dv (.val (.int .i64 x3)))] (.leaf .dead), 20, []⟩

noncomputable def oc_block_Depth_l3 (k : KC) : KI := (fun y0 => k (.exit 0) ⟨mkT [(3, .dv (.val (.int .i64 y0)))] (.leaf .dead), 20, []⟩)

noncomputable def B_block_Depth_l3_h0 (f0 : ByteArray → ByteArray → Int → Int → List (List DV) → ByteArray → Int → Int → ByteArray → ByteArray → List (List DV) → KI → Option DV) (x0 : Int) (x1 : List (List DV)) (x2 : Int) (x3 : Int) (κn : X_block_Depth_l3 → Option DV) (κ0 : KI) : Option DV :=
  bx (decide (x3 < x2)) (bx (decide (0 ≤ x3)) (optE (x1[Int.toNat x3]?) (fun e1 => ld_ssiil2siissl11 e1 0 (fun v2 v3 v4 v5 v6 v7 v8 v9 v10 v11 v12 => f0 v2 v3 v4 v5 v6 v7 v8 v9 v10 v11 v12 (fun r13 => κn (X_block_Depth_l3.h0 (if r13 > x0 then r13 else x0) x1 x2 (IntKind.wrap .i64 (x3 + 1))))))) none) (κ0 x0)

noncomputable def F_block_Depth_l3 (f0 : ByteArray → ByteArray → Int → Int → List (List DV) → ByteArray → Int → Int → ByteArray → ByteArray → List (List DV) → KI → Option DV) : X_block_Depth_l3 → (X_block_Depth_l3 → Option DV) → (KI) → Option DV
  | .h0 x0 x1 x2 x3, κn, κ => B_block_Depth_l3_h0 f0 x0 x1 x2 x3 κn κ

noncomputable def dec_block_Depth_l3 (s : St) : Option X_block_Depth_l3 :=
  bindO (xN s.n 20) fun u => bindO (xD (s.tmps.get 3)) fun d1 => bindO (xI .i64 d1) fun x0 => bindO (xD (s.tmps.get 7)) fun d3 => bindO (xL 11 d3) fun x1 => bindO (xD (s.tmps.get 8)) fun d5 => bindO (xI .i64 d5) fun x2 => bindO (xD (s.tmps.get 9)) fun d7 => bindO (xI .i64 d7) fun x3 => bindO (xEnd s.heap) fun u9 => some (.h0 x0 x1 x2 x3)

noncomputable def R_block_Depth_l3 (f0 : ByteArray → ByteArray → Int → Int → List (List DV) → ByteArray → Int → Int → ByteArray → ByteArray → List (List DV) → KI → Option DV) : St → KC → Option DV := decR dec_block_Depth_l3 (F_block_Depth_l3 f0) φ_block_Depth_l3 oc_block_Depth_l3

theorem d_block_Depth_l3 : ∀ s x, dec_block_Depth_l3 s = some x → SLe s (S_block_Depth_l3 x) := by
  intro s x h
  unfold dec_block_Depth_l3 at h
  · obtain ⟨u, en, h⟩ := bindO_some h
    obtain ⟨d1, e1, h⟩ := bindO_some h
    obtain ⟨x0, e2, h⟩ := bindO_some h
    obtain ⟨d3, e3, h⟩ := bindO_some h
    obtain ⟨x1, e4, h⟩ := bindO_some h
    obtain ⟨d5, e5, h⟩ := bindO_some h
    obtain ⟨x2, e6, h⟩ := bindO_some h
    obtain ⟨d7, e7, h⟩ := bindO_some h
    obtain ⟨x3, e8, h⟩ := bindO_some h
    obtain ⟨u9, e9, h⟩ := bindO_some h
    cases h
    exact ⟨le_mkT _ _ (Le.dead _) ⟨.inr ((xD_eq e1).trans (congrArg VV.dv (xI_eq e2))), .inr ((xD_eq e3).trans (congrArg VV.dv (xL_eq e4))), .inr ((xD_eq e5).trans (congrArg VV.dv (xI_eq e6))), .inr ((xD_eq e7).trans (congrArg VV.dv (xI_eq e8))), trivial⟩, (xN_eq en).symm, by rw [xEnd_eq e9]; rfl⟩
noncomputable def B_block_Depth (f0 : ByteArray → ByteArray → Int → Int → List (List DV) → ByteArray → Int → Int → ByteArray → ByteArray → List (List DV) → KI → Option DV) (a0_0 a0_1 : ByteArray) (a0_2 a0_3 : Int) (a0_4 : List (List DV)) (a0_5 : ByteArray) (a0_6 a0_7 : Int) (a0_8 a0_9 : ByteArray) (a0_10 : List (List DV)) (k : KI) : Option DV :=
  LF (F_block_Depth_l3 f0) (φ_block_Depth_l3 (X_block_Depth_l3.h0 0 a0_10 ((List.length a0_10 : Nat) : Int) 0)) (X_block_Depth_l3.h0 0 a0_10 ((List.length a0_10 : Nat) : Int) 0) ((fun z14_0 => k (IntKind.wrap .i64 (1 + z14_0))))

noncomputable def KK_block_Depth (f0 : ByteArray → ByteArray → Int → Int → List (List DV) → ByteArray → Int → Int → ByteArray → ByteArray → List (List DV) → KI → Option DV) (ds : List DV) (k : DV → Option DV) : Option DV :=
  match ds with
  | [.agg [.val (.string a0_0), .val (.string a0_1), .val (.int .i64 a0_2), .val (.int .i64 a0_3), .lst 2 a0_4, .val (.string a0_5), .val (.int .i64 a0_6), .val (.int .i64 a0_7), .val (.string a0_8), .val (.string a0_9), .lst 11 a0_10]] => f0 a0_0 a0_1 a0_2 a0_3 a0_4 a0_5 a0_6 a0_7 a0_8 a0_9 a0_10 (fun r0_0 => k (.val (.int .i64 r0_0)))
  | _ => none

noncomputable def G_block_Depth (N : Nat) : Nat → (ByteArray → ByteArray → Int → Int → List (List DV) → ByteArray → Int → Int → ByteArray → ByteArray → List (List DV) → KI → Option DV)
  | 0 => (fun _ _ _ _ _ _ _ _ _ _ _ _ => none)
  | n + 1 => (fun a0_0 a0_1 a0_2 a0_3 a0_4 a0_5 a0_6 a0_7 a0_8 a0_9 a0_10 k => B_block_Depth (G_block_Depth N n) a0_0 a0_1 a0_2 a0_3 a0_4 a0_5 a0_6 a0_7 a0_8 a0_9 a0_10 k)

noncomputable def block_Depth_n (N n : Nat) : ByteArray → ByteArray → Int → Int → List (List DV) → ByteArray → Int → Int → ByteArray → ByteArray → List (List DV) → KI → Option DV := (G_block_Depth N n)
noncomputable def block_Depth (N : Nat) : ByteArray → ByteArray → Int → Int → List (List DV) → ByteArray → Int → Int → ByteArray → ByteArray → List (List DV) → KI → Option DV := block_Depth_n N N

theorem q_block_Depth_l3_h0 (f0 : ByteArray → ByteArray → Int → Int → List (List DV) → ByteArray → Int → Int → ByteArray → ByteArray → List (List DV) → KI → Option DV) (x0 : Int) (x1 : List (List DV)) (x2 : Int) (x3 : Int) (κn : St → Option DV) (κ : KC) : pev Try.prog (tab [(39, (KK_block_Depth f0))] []) (ltab [(3, R_block_Depth_l3 f0)]) [(0, [0]), (0, []), (3, [3, 7, 8, 9]), (100003, [3])] 64 (loopB (bodyOf Try.f39) 0) (S_block_Depth_l3 (.h0 x0 x1 x2 x3)) (contL 0 [3, 7, 8, 9] [3] κn κ) = F_block_Depth_l3 f0 (.h0 x0 x1 x2 x3) (fun x => κn (S_block_Depth_l3 x)) (oc_block_Depth_l3 κ) := by kernel_rfl

theorem g_block_Depth_l3 (f0 : ByteArray → ByteArray → Int → Int → List (List DV) → ByteArray → Int → Int → ByteArray → ByteArray → List (List DV) → KI → Option DV) (HK : KGood Try.prog Inv (tab [(39, (KK_block_Depth f0))] [])) : RGood 0 Try.prog Inv (loopB (bodyOf Try.f39) 0) (R_block_Depth_l3 f0) :=
  have hL : LGood 0 Try.prog Inv (ltab [(3, R_block_Depth_l3 f0)]) (loopB (bodyOf Try.f39) 0) := (lgood_of (bs := []) (by kernel_rfl) lgood_nil)
  rgood_dec (body := fun s k => pev Try.prog (tab [(39, (KK_block_Depth f0))] []) (ltab [(3, R_block_Depth_l3 f0)]) [(0, [0]), (0, []), (3, [3, 7, 8, 9]), (100003, [3])] 64 (loopB (bodyOf Try.f39) 0) s k) (live := [3, 7, 8, 9]) (out := [3]) (S := S_block_Depth_l3) (pev_ok mixed HK (ltab [(3, R_block_Depth_l3 f0)]) [(0, [0]), (0, []), (3, [3, 7, 8, 9]), (100003, [3])] 64 _ hL) (pev_nat HK (ltab [(3, R_block_Depth_l3 f0)]) [(0, [0]), (0, []), (3, [3, 7, 8, 9]), (100003, [3])] 64 _ hL)
    (fun x κn κ => match x with
      | .h0 _ _ _ _ => q_block_Depth_l3_h0 f0 _ _ _ _ κn κ
    ) d_block_Depth_l3 φ_block_Depth_l3

theorem r_block_Depth (f0 : ByteArray → ByteArray → Int → Int → List (List DV) → ByteArray → Int → Int → ByteArray → ByteArray → List (List DV) → KI → Option DV) (a0_0 a0_1 : ByteArray) (a0_2 a0_3 : Int) (a0_4 : List (List DV)) (a0_5 : ByteArray) (a0_6 a0_7 : Int) (a0_8 a0_9 : ByteArray) (a0_10 : List (List DV)) (k : DV → Option DV) : B_block_Depth f0 a0_0 a0_1 a0_2 a0_3 a0_4 a0_5 a0_6 a0_7 a0_8 a0_9 a0_10 (fun r0_0 => k (.val (.int .i64 r0_0))) = pevL Try.prog (tab [(39, (KK_block_Depth f0))] []) (ltab [(3, R_block_Depth_l3 f0)]) [(0, [0]), (0, []), (3, [3, 7, 8, 9]), (100003, [3])] 64 Try.f39 (bodyOf Try.f39) [.agg [.val (.string a0_0), .val (.string a0_1), .val (.int .i64 a0_2), .val (.int .i64 a0_3), .lst 2 a0_4, .val (.string a0_5), .val (.int .i64 a0_6), .val (.int .i64 a0_7), .val (.string a0_8), .val (.string a0_9), .lst 11 a0_10]] k := by kernel_rfl

theorem m_G_block_Depth (N : Nat) : ∀ n, Meets Try.prog Inv 39 (KK_block_Depth (block_Depth_n N n))
  | 0 => meets_none (by intro ds k; unfold KK_block_Depth; split <;> rfl)
  | n + 1 => by
    have ih := m_G_block_Depth N n
    exact meets_of_pevL mixed stab (kgood stab (tab_cons (ih) (tab_nil _ _)) (tabH_nil _ _)) Try.func39 (by kernel_rfl) (by kernel_rfl) (by
    intro ds; unfold KK_block_Depth; split
    · exact .inr ⟨(ltab [(3, R_block_Depth_l3 (block_Depth_n N n))]), [(0, [0]), (0, []), (3, [3, 7, 8, 9]), (100003, [3])], 64, lgood_of (bs := [loopB (bodyOf Try.f39) 0]) (by kernel_rfl) (lgood_cons (by kernel_rfl) (g_block_Depth_l3 (block_Depth_n N n) (kgood stab (tab_cons (ih) (tab_nil _ _)) (tabH_nil _ _))) lgood_nil), fun k => r_block_Depth (block_Depth_n N n) _ _ _ _ _ _ _ _ _ _ _ k⟩
    · exact .inl (fun _ => rfl))

theorem m_block_Depth (N : Nat) : Meets Try.prog Inv 39 (KK_block_Depth (block_Depth N)) := (m_G_block_Depth N N)

end Go.Proofs.Ytdfhakhapblhgaa
