/-
  Spans as plain values; what Make makes of any ends; the law on spans of any ends: its reading is true.
-/
import Derived.Test.YtnidbhfpkjggmaaGreatDoorPs
import Derived.Test.YtnidbhfpkjggmaaGreatDoorQv
set_option linter.all false
namespace Go.Proofs.YtnidbhfpkjggmaaGreatDoor
open Go.Pv Go.RowKit

/-- A span's fields. -/
structure Sp where
  ln : Int
  ld : Int
  hn : Int
  hd : Int
  den : Int
  no : Bool
  em : Bool
def Sp.ap (s : Sp) (k : Int → Int → Int → Int → Int → Bool → Bool → Option DV) : Option DV := k s.ln s.ld s.hn s.hd s.den s.no s.em
set_option maxRecDepth 100000 in
theorem awake_true (k : Bool → Option DV) : serinettelaw03_awake k = k true := by kernel_rfl

namespace S
/-- Ends out of order: both numbers, the lower one the greater. -/
def ooo (a b c d : Int) : Bool := Q.isq c d && decide (Q.cmp (a, b) (c, d) > 0)
def isden (n : Int) : Bool := decide (n ≥ 0) && decide (n ≤ 1073741824)
def make (a b c d n : Int) : Sp :=
  if ooo a b c d = true then ⟨0, 0, 0, 0, 0, false, true⟩ else ⟨(Q.clean (a, b)).1, (Q.clean (a, b)).2, (Q.clean (c, d)).1, (Q.clean (c, d)).2, if isden n = true then n else 0, false, false⟩
end S
theorem counted_eq (a b : Int) (k : Int → Int → Option DV) : span_counted a b k = k (Q.clean (a, b)).1 (Q.clean (a, b)).2 := by
  unfold span_counted B_span_counted ratio_Is Q.clean
  cases h : Q.isq a b <;> simp
theorem isden_eq (n : Int) (k : Bool → Option DV) : span_isDen n k = k (S.isden n) := by
  unfold span_isDen B_span_isDen S.isden
  cases h : decide (n ≥ 0) <;> simp
theorem ooo_eq (a b c d : Int) (k : Bool → Option DV) : span_isOutOfOrder a b c d k = k (S.ooo a b c d) := by
  unfold span_isOutOfOrder B_span_isOutOfOrder S.ooo ratio_Is ratio_Cmp
  cases h : Q.isq c d <;> simp
theorem make_eq (a b c d n : Int) (k : Int → Int → Int → Int → Int → Bool → Bool → Option DV) : span_Make a b c d n k = (S.make a b c d n).ap k := by
  unfold span_Make B_span_Make S.make
  rw [ooo_eq]
  cases h : S.ooo a b c d
  · simp only [cond_false, isden_eq, counted_eq, Bool.false_eq_true, if_false]
    cases hd : S.isden n <;> simp [Sp.ap]
  · simp [Sp.ap, span_nothing, B_span_nothing]
/-- None is below each number. -/
theorem cmp_none {a b c d : Int} (h : Q.isq a b = false) (h2 : Q.isq c d = true) : ¬ Q.cmp (a, b) (c, d) > 0 := by
  unfold Q.cmp Q.both Q.rank Q.cmpi
  simp [h, h2]
theorem rmake_eq (a b c d n : Int) (k : Int → Int → Int → Int → Int → Bool → Bool → Option DV) : serinetteref03_Make a b c d n k = (S.make a b c d n).ap k := by
  have hden : ∀ X : Int → Option DV, (bif !(decide (n < 0)) then (bif decide (n > 1073741824) then X 0 else X n) else X 0) = X (if S.isden n = true then n else 0) := by
    intro X
    unfold S.isden
    by_cases h1 : n < 0
    · have h2 : ¬ n ≥ 0 := by omega
      simp [h1, h2]
    · have h2 : n ≥ 0 := by omega
      by_cases h3 : n > 1073741824
      · have h4 : ¬ n ≤ 1073741824 := by omega
        simp [h1, h2, h3, h4]
      · have h4 : n ≤ 1073741824 := by omega
        simp [h1, h2, h3, h4]
  have hX := hden fun m => if S.ooo a b c d = true then k 0 0 0 0 0 false true else k (Q.clean (a, b)).1 (Q.clean (a, b)).2 (Q.clean (c, d)).1 (Q.clean (c, d)).2 m false false
  have hr : ∀ m : Int, (bif Q.isq a b then (bif Q.isq c d then (bif decide (Q.cmp (a, b) (c, d) > 0) then k 0 0 0 0 0 false true else k (Q.clean (a, b)).1 (Q.clean (a, b)).2 (Q.clean (c, d)).1 (Q.clean (c, d)).2 m false false) else k (Q.clean (a, b)).1 (Q.clean (a, b)).2 (Q.clean (c, d)).1 (Q.clean (c, d)).2 m false false) else k (Q.clean (a, b)).1 (Q.clean (a, b)).2 (Q.clean (c, d)).1 (Q.clean (c, d)).2 m false false) =
      if S.ooo a b c d = true then k 0 0 0 0 0 false true else k (Q.clean (a, b)).1 (Q.clean (a, b)).2 (Q.clean (c, d)).1 (Q.clean (c, d)).2 m false false := by
    intro m
    unfold S.ooo
    cases h1 : Q.isq a b <;> cases h2 : Q.isq c d
    · simp
    · have := cmp_none h1 h2; simp [this]
    · simp
    · by_cases h3 : Q.cmp (a, b) (c, d) > 0 <;> simp [h3]
  unfold serinetteref03_Make B_serinetteref03_Make serinetteref03_Empty B_serinetteref03_Empty serinetteref01_Clean serinetteref01_Is serinetteref01_Cmp
  simp only [hr]
  rw [hX]
  unfold S.make
  cases h : S.ooo a b c d <;> simp [Sp.ap]
theorem beq_self (x : Int) : (x == x) = true := by simp
theorem spanmakes_true (a b c d n : Int) (k : Bool → Option DV) : serinettelaw03_SpanMakes a b c d n k = k true := by
  unfold serinettelaw03_SpanMakes B_serinettelaw03_SpanMakes
  simp only [make_eq, rmake_eq, Sp.ap, awake_true]
  simp
/-- The law answers true. -/
theorem spanmakes_any (a b c d n : Int) (w : World) (hI : Inv w) :
    Calls Tryz.prog 4 #[.agg #[.int .i64 a, .int .i64 b], .agg #[.int .i64 c, .int .i64 d], .int .i64 n] w fun e w' => e = .returned (.bool true) ∧ Below w.heap.size w w' := by
  have h := m_serinettelaw03_SpanMakes [.val (.agg ⟨[.int .i64 a, .int .i64 b]⟩), .val (.agg ⟨[.int .i64 c, .int .i64 d]⟩), .val (.int .i64 n)] some (.val (.bool true))
    (spanmakes_true a b c d n _)
  obtain ⟨_, x, hx, _, hc⟩ := h
  cases hx
  refine (hc (fun _ => False) w _ hI (fun _ h => h.elim) rfl ?_).mono fun e w' ⟨v, he, hb, hr⟩ => ⟨by rw [he, val_eq hr], hb⟩
  intro i x v h1 h2
  match i with
  | 0 => simp at h1 h2; subst h1; subst h2; exact .val _
  | 1 => simp at h1 h2; subst h1; subst h2; exact .val _
  | 2 => simp at h1 h2; subst h1; subst h2; exact .val _
  | i + 3 => simp at h1
end Go.Proofs.YtnidbhfpkjggmaaGreatDoor
