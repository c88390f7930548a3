/-
  Spans as plain values: Valid, known, isAmong, Has: the program's and the specification's readings are the same plain functions.
-/
import Derived.Test.YtpdklolfkigefaaGreatDoorSm
set_option linter.all false
namespace Go.Proofs.YtpdklolfkigefaaGreatDoor
open Go.Pv Go.RowKit

namespace S
def valid (s : Sp) : Bool :=
  if s.em = true then s.ln == 0 && s.ld == 0 && s.hn == 0 && s.hd == 0 && s.den == 0
  else Q.valid (s.ln, s.ld) && Q.valid (s.hn, s.hd) && !ooo s.ln s.ld s.hn s.hd && isden s.den
def all : Sp := ⟨0, 0, 0, 0, 0, true, false⟩
def known (s : Sp) : Sp := if valid s = true then s else all
end S
theorem all_eq (k : Int → Int → Int → Int → Int → Bool → Bool → Option DV) : span_All k = S.all.ap k := by kernel_rfl
theorem rall_eq (k : Int → Int → Int → Int → Int → Bool → Bool → Option DV) : serinetteref03_All k = S.all.ap k := by kernel_rfl
theorem valid_eq (a b c d n : Int) (o e : Bool) (k : Bool → Option DV) : span_Valid a b c d n o e k = k (S.valid ⟨a, b, c, d, n, o, e⟩) := by
  unfold span_Valid B_span_Valid S.valid
  simp only [ooo_eq, isden_eq, ratio_Valid, span_nothing, B_span_nothing]
  cases e
  · cases h1 : Q.valid (a, b) <;> cases h2 : Q.valid (c, d) <;> cases h3 : S.ooo a b c d <;> simp
  · simp [Bool.and_assoc]
theorem rvalid_eq (a b c d n : Int) (o e : Bool) (k : Bool → Option DV) : serinetteref03_Valid a b c d n o e k = k (S.valid ⟨a, b, c, d, n, o, e⟩) := by
  unfold serinetteref03_Valid B_serinetteref03_Valid S.valid serinetteref01_Valid serinetteref01_Is serinetteref01_Cmp serinetteref01_None
  cases e
  · have hc : decide (Q.cmp (a, b) (c, d) ≤ 0) = !decide (Q.cmp (a, b) (c, d) > 0) := by
      by_cases h : Q.cmp (a, b) (c, d) > 0
      · have h' : ¬ Q.cmp (a, b) (c, d) ≤ 0 := by omega
        simp [h, h']
      · have h' : Q.cmp (a, b) (c, d) ≤ 0 := by omega
        simp [h, h']
    have hd : (!decide (n < 0) && !decide (n > 1073741824)) = S.isden n := by
      unfold S.isden
      by_cases h1 : n < 0 <;> by_cases h2 : n > 1073741824 <;> simp [h1, h2] <;> omega
    have hn : Q.isq a b = false → Q.isq c d = true → decide (Q.cmp (a, b) (c, d) > 0) = false := fun h1 h2 => by simpa using cmp_none h1 h2
    simp only [hc, ← hd, S.ooo]
    cases h1 : Q.valid (a, b) <;> cases h2 : Q.valid (c, d) <;> cases h3 : decide (n < 0) <;> cases h4 : decide (n > 1073741824) <;> cases h5 : Q.isq a b <;> cases h6 : Q.isq c d <;> cases h7 : decide (Q.cmp (a, b) (c, d) > 0) <;> simp_all
  · cases h1 : a == 0 <;> cases h2 : b == 0 <;> cases h3 : c == 0 <;> cases h4 : d == 0 <;> simp [h1, h2, h3, h4]
theorem known_eq (a b c d n : Int) (o e : Bool) (k : Int → Int → Int → Int → Int → Bool → Bool → Option DV) : span_known a b c d n o e k = (S.known ⟨a, b, c, d, n, o, e⟩).ap k := by
  unfold span_known B_span_known S.known
  simp only [valid_eq, all_eq]
  cases S.valid ⟨a, b, c, d, n, o, e⟩ <;> simp [Sp.ap]
theorem rknown_eq (a b c d n : Int) (o e : Bool) (k : Int → Int → Int → Int → Int → Bool → Bool → Option DV) : serinetteref03_Clean a b c d n o e k = (S.known ⟨a, b, c, d, n, o, e⟩).ap k := by
  unfold serinetteref03_Clean B_serinetteref03_Clean S.known
  simp only [rvalid_eq, rall_eq]
  cases S.valid ⟨a, b, c, d, n, o, e⟩ <;> simp [Sp.ap]
end Go.Proofs.YtpdklolfkigefaaGreatDoor
