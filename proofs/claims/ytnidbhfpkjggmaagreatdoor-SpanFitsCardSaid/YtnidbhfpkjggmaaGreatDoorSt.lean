import Derived.Test.YtnidbhfpkjggmaaGreatDoorPsb
import Derived.Test.YtnidbhfpkjggmaaGreatDoorQf
set_option linter.all false
/-
  Spans as plain values; what Make makes of any ends; the law on spans of any ends: its reading is true.
-/
namespace Go.Proofs.YtnidbhfpkjggmaaGreatDoor
open Go.Pv Go.RowKit

/-- A span's fields. -/
structure Sp where
  ln : Int
  ld : Int
  hn : Int
  hd : Int
  den : Int
  no : Bool
  em : Bool
def Sp.ap (s : Sp) (k : Int → Int → Int → Int → Int → Bool → Bool → Option DV) : Option DV := k s.ln s.ld s.hn s.hd s.den s.no s.em
set_option maxRecDepth 100000 in
theorem awake_true (k : Bool → Option DV) : serinettelaw03_awake k = k true := by kernel_rfl

namespace S
/-- Ends out of order: both numbers, the lower one the greater. -/
def ooo (a b c d : Int) : Bool := Q.isq c d && decide (Q.cmp (a, b) (c, d) > 0)
def isden (n : Int) : Bool := decide (n ≥ 0) && decide (n ≤ 1073741824)
def make (a b c d n : Int) : Sp :=
  if ooo a b c d = true then ⟨0, 0, 0, 0, 0, false, true⟩ else ⟨(Q.clean (a, b)).1, (Q.clean (a, b)).2, (Q.clean (c, d)).1, (Q.clean (c, d)).2, if isden n = true then n else 0, false, false⟩
end S
theorem counted_eq (a b : Int) (k : Int → Int → Option DV) : span_counted a b k = k (Q.clean (a, b)).1 (Q.clean (a, b)).2 := by
  unfold span_counted B_span_counted ratio_Is Q.clean
  cases h : Q.isq a b <;> simp
theorem isden_eq (n : Int) (k : Bool → Option DV) : span_isDen n k = k (S.isden n) := by
  unfold span_isDen B_span_isDen S.isden
  cases h : decide (n ≥ 0) <;> simp
theorem ooo_eq (a b c d : Int) (k : Bool → Option DV) : span_isOutOfOrder a b c d k = k (S.ooo a b c d) := by
  unfold span_isOutOfOrder B_span_isOutOfOrder S.ooo ratio_Is ratio_Cmp
  cases h : Q.isq c d <;> simp
theorem make_eq (a b c d n : Int) (k : Int → Int → Int → Int → Int → Bool → Bool → Option DV) : span_Make a b c d n k = (S.make a b c d n).ap k := by
  unfold span_Make B_span_Make S.make
  rw [ooo_eq]
  cases h : S.ooo a b c d
  · simp only [cond_false, isden_eq, counted_eq, Bool.false_eq_true, if_false]
    cases hd : S.isden n <;> simp [Sp.ap]
  · simp [Sp.ap, span_nothing, B_span_nothing]
/-- None is below each number. -/
theorem cmp_none {a b c d : Int} (h : Q.isq a b = false) (h2 : Q.isq c d = true) : ¬ Q.cmp (a, b) (c, d) > 0 := by
  unfold Q.cmp Q.both Q.rank Q.cmpi
  simp [h, h2]
end Go.Proofs.YtnidbhfpkjggmaaGreatDoor

/-
  Spans as plain values: Valid, known, isAmong, Has: the program's and the specification's readings are the same plain functions.
-/
namespace Go.Proofs.YtnidbhfpkjggmaaGreatDoor
open Go.Pv Go.RowKit

namespace S
def valid (s : Sp) : Bool :=
  if s.em = true then s.ln == 0 && s.ld == 0 && s.hn == 0 && s.hd == 0 && s.den == 0
  else Q.valid (s.ln, s.ld) && Q.valid (s.hn, s.hd) && !ooo s.ln s.ld s.hn s.hd && isden s.den
def all : Sp := ⟨0, 0, 0, 0, 0, true, false⟩
def known (s : Sp) : Sp := if valid s = true then s else all
end S
theorem all_eq (k : Int → Int → Int → Int → Int → Bool → Bool → Option DV) : span_All k = S.all.ap k := by kernel_rfl
theorem rall_eq (k : Int → Int → Int → Int → Int → Bool → Bool → Option DV) : serinetteref03_All k = S.all.ap k := by kernel_rfl
theorem valid_eq (a b c d n : Int) (o e : Bool) (k : Bool → Option DV) : span_Valid a b c d n o e k = k (S.valid ⟨a, b, c, d, n, o, e⟩) := by
  unfold span_Valid B_span_Valid S.valid
  simp only [ooo_eq, isden_eq, ratio_Valid, span_nothing, B_span_nothing]
  cases e
  · cases h1 : Q.valid (a, b) <;> cases h2 : Q.valid (c, d) <;> cases h3 : S.ooo a b c d <;> simp
  · simp [Bool.and_assoc]
theorem rvalid_eq (a b c d n : Int) (o e : Bool) (k : Bool → Option DV) : serinetteref03_Valid a b c d n o e k = k (S.valid ⟨a, b, c, d, n, o, e⟩) := by
  unfold serinetteref03_Valid B_serinetteref03_Valid S.valid serinetteref01_Valid serinetteref01_Is serinetteref01_Cmp serinetteref01_None
  cases e
  · have hc : decide (Q.cmp (a, b) (c, d) ≤ 0) = !decide (Q.cmp (a, b) (c, d) > 0) := by
      by_cases h : Q.cmp (a, b) (c, d) > 0
      · have h' : ¬ Q.cmp (a, b) (c, d) ≤ 0 := by omega
        simp [h, h']
      · have h' : Q.cmp (a, b) (c, d) ≤ 0 := by omega
        simp [h, h']
    have hd : (!decide (n < 0) && !decide (n > 1073741824)) = S.isden n := by
      unfold S.isden
      by_cases h1 : n < 0 <;> by_cases h2 : n > 1073741824 <;> simp [h1, h2] <;> omega
    have hn : Q.isq a b = false → Q.isq c d = true → decide (Q.cmp (a, b) (c, d) > 0) = false := fun h1 h2 => by simpa using cmp_none h1 h2
    simp only [hc, ← hd, S.ooo]
    cases h1 : Q.valid (a, b) <;> cases h2 : Q.valid (c, d) <;> cases h3 : decide (n < 0) <;> cases h4 : decide (n > 1073741824) <;> cases h5 : Q.isq a b <;> cases h6 : Q.isq c d <;> cases h7 : decide (Q.cmp (a, b) (c, d) > 0) <;> simp_all
  · cases h1 : a == 0 <;> cases h2 : b == 0 <;> cases h3 : c == 0 <;> cases h4 : d == 0 <;> simp [h1, h2, h3, h4]
theorem known_eq (a b c d n : Int) (o e : Bool) (k : Int → Int → Int → Int → Int → Bool → Bool → Option DV) : span_known a b c d n o e k = (S.known ⟨a, b, c, d, n, o, e⟩).ap k := by
  unfold span_known B_span_known S.known
  simp only [valid_eq, all_eq]
  cases S.valid ⟨a, b, c, d, n, o, e⟩ <;> simp [Sp.ap]
theorem rknown_eq (a b c d n : Int) (o e : Bool) (k : Int → Int → Int → Int → Int → Bool → Bool → Option DV) : serinetteref03_Clean a b c d n o e k = (S.known ⟨a, b, c, d, n, o, e⟩).ap k := by
  unfold serinetteref03_Clean B_serinetteref03_Clean S.known
  simp only [rvalid_eq, rall_eq]
  cases S.valid ⟨a, b, c, d, n, o, e⟩ <;> simp [Sp.ap]
end Go.Proofs.YtnidbhfpkjggmaaGreatDoor

/-
  Spans as plain values: Has, Point, All: the program's and the specification's readings are the same plain functions.
-/
namespace Go.Proofs.YtnidbhfpkjggmaaGreatDoor
open Go.Pv Go.RowKit

namespace S
def below (a b c d : Int) : Bool := Q.isq c d && decide (Q.cmp (a, b) (c, d) < 0)
/-- What a span that is known keeps to. -/
structure Ok (s : Sp) : Prop where
  lo : Q.valid (s.ln, s.ld) = true
  hi : Q.valid (s.hn, s.hd) = true
  ord : ooo s.ln s.ld s.hn s.hd = false
  d0 : 0 ≤ s.den
  d1 : s.den ≤ 1073741824
theorem known_ok (s : Sp) : Ok (known s) := by
  unfold known
  cases h : valid s
  · rw [if_neg (by decide)]
    exact ⟨by decide, by decide, by decide, by decide, by decide⟩
  · unfold valid at h
    rw [if_pos rfl]
    cases he : s.em
    · rw [he] at h
      simp [isden] at h
      exact ⟨h.1.1.1, h.1.1.2, h.1.2, h.2.1, h.2.2⟩
    · rw [he] at h
      simp at h
      obtain ⟨⟨⟨⟨h1, h2⟩, h3⟩, h4⟩, h5⟩ := h
      exact ⟨by rw [h1, h2]; decide, by rw [h3, h4]; decide, by rw [h1, h2, h3, h4]; decide, by rw [h5]; decide, by rw [h5]; decide⟩
end S
theorem isq_pos {a b : Int} (h : Q.isq a b = true) : (b == 0) = false := by
  unfold Q.isq at h
  have := of_decide_eq_true h
  have : b ≠ 0 := by omega
  simp [this]
theorem open_eq {a b : Int} (h : Q.valid (a, b) = true) : ((a == 0) && ((b == 0) && true)) = !Q.isq a b := by
  unfold Q.valid at h
  cases hq : Q.isq a b
  · simpa [hq] using h
  · simp [isq_pos hq]
theorem ge_not (x : Int) : decide (x ≥ 0) = !decide (x < 0) := by by_cases h : x < 0 <;> simp [h] <;> omega
theorem le_not (x : Int) : decide (x ≤ 0) = !decide (x > 0) := by by_cases h : x > 0 <;> simp [h] <;> omega
end Go.Proofs.YtnidbhfpkjggmaaGreatDoor
