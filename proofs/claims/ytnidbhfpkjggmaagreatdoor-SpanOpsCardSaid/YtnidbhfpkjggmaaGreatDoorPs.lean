/-
  Spans, read as plain functions.
-/
import Derived.Test.YtnidbhfpkjggmaaGreatDoorPsd
set_option linter.all false
namespace Go.Proofs.YtnidbhfpkjggmaaGreatDoor
open Go.Pv Go.RowKit
noncomputable def B_serinettelaw03_SpanMakes (f0 : KB → Option DV) (f1 : Int → Int → Int → Int → Int → KS → Option DV) (f2 : Int → Int → Int → Int → Int → KS → Option DV) (a0_0 a0_1 a1_0 a1_1 a2 : Int) (k : KB) : Option DV :=
  f2 a0_0 a0_1 a1_0 a1_1 a2 (fun r1 r2 r3 r4 r5 r6 r7 => f1 a0_0 a0_1 a1_0 a1_1 a2 (fun r8 r9 r10 r11 r12 r13 r14 => bif (((r1 == r8) && ((r2 == r9) && true)) && (((r3 == r10) && ((r4 == r11) && true)) && ((r5 == r12) && ((r6 == r13) && ((r7 == r14) && true))))) then (f0  (fun r15 => k r15)) else (k false)))
noncomputable def serinettelaw03_SpanMakes (a0_0 a0_1 a1_0 a1_1 a2 : Int) (k : KB) : Option DV := B_serinettelaw03_SpanMakes serinettelaw03_awake serinetteref03_Make span_Make a0_0 a0_1 a1_0 a1_1 a2 k

noncomputable def KK_serinettelaw03_SpanMakes (f0 : Int → Int → Int → Int → Int → KB → Option DV) (ds : List DV) (k : DV → Option DV) : Option DV :=
  match ds with
  | [.val (.agg ⟨[.int .i64 a0_0, .int .i64 a0_1]⟩), .val (.agg ⟨[.int .i64 a1_0, .int .i64 a1_1]⟩), .val (.int .i64 a2)] => f0 a0_0 a0_1 a1_0 a1_1 a2 (fun r0_0 => k (.val (.bool r0_0)))
  | _ => none

theorem r_serinettelaw03_SpanMakes (f0 : KB → Option DV) (f1 : Int → Int → Int → Int → Int → KS → Option DV) (f2 : Int → Int → Int → Int → Int → KS → Option DV) (a0_0 a0_1 a1_0 a1_1 a2 : Int) (k : DV → Option DV) : B_serinettelaw03_SpanMakes f0 f1 f2 a0_0 a0_1 a1_0 a1_1 a2 (fun r0_0 => k (.val (.bool r0_0))) = pevF Tryz.prog (tab [(27, (KK_serinettelaw03_awake f0)), (28, (KK_span_Make f2)), (29, (KK_serinetteref03_Make f1))]) [] 64 Tryz.f4 (bodyOf Tryz.f4) [.val (.agg ⟨[.int .i64 a0_0, .int .i64 a0_1]⟩), .val (.agg ⟨[.int .i64 a1_0, .int .i64 a1_1]⟩), .val (.int .i64 a2)] k := by kernel_rfl

theorem m_serinettelaw03_SpanMakes : Meets Tryz.prog Inv 4 (KK_serinettelaw03_SpanMakes serinettelaw03_SpanMakes) :=
  meets_of_pev mixed stab (tab_cons m_serinettelaw03_awake (tab_cons m_span_Make (tab_cons m_serinetteref03_Make (tab_nil _ _)))) Tryz.func4 (by kernel_rfl) (by kernel_rfl) (by
    intro ds; unfold KK_serinettelaw03_SpanMakes; split
    · exact .inr ⟨[], 64, fun k => r_serinettelaw03_SpanMakes serinettelaw03_awake serinetteref03_Make span_Make _ _ _ _ _ k⟩
    · exact .inl (fun _ => rfl))

end Go.Proofs.YtnidbhfpkjggmaaGreatDoor
