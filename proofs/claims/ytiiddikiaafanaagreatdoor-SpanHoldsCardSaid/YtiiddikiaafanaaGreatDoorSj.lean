import Derived.Test.YtiiddikiaafanaaGreatDoorPk
import Derived.Test.YtiiddikiaafanaaGreatDoorQf
set_option linter.all false
/-
  Spans as plain values; what Make makes of any ends; the law on spans of any ends: its reading is true.
-/
namespace Go.Proofs.YtiiddikiaafanaaGreatDoor
open Go.Pv Go.RowKit

/-- A span's fields. -/
structure Sp where
  ln : Int
  ld : Int
  hn : Int
  hd : Int
  den : Int
  no : Bool
  em : Bool
def Sp.ap (s : Sp) (k : Int → Int → Int → Int → Int → Bool → Bool → Option DV) : Option DV := k s.ln s.ld s.hn s.hd s.den s.no s.em
set_option maxRecDepth 100000 in
theorem awake_true (k : Bool → Option DV) : w3_awake k = k true := by kernel_rfl

namespace S
/-- Ends out of order: both numbers, the lower one the greater. -/
def ooo (a b c d : Int) : Bool := Q.isq c d && decide (Q.cmp (a, b) (c, d) > 0)
def isden (n : Int) : Bool := decide (n ≥ 0) && decide (n ≤ 1073741824)
def make (a b c d n : Int) : Sp :=
  if ooo a b c d = true then ⟨0, 0, 0, 0, 0, false, true⟩ else ⟨(Q.clean (a, b)).1, (Q.clean (a, b)).2, (Q.clean (c, d)).1, (Q.clean (c, d)).2, if isden n = true then n else 0, false, false⟩
end S
theorem counted_eq (a b : Int) (k : Int → Int → Option DV) : span_counted a b k = k (Q.clean (a, b)).1 (Q.clean (a, b)).2 := by
  unfold span_counted B_span_counted ratio_Is Q.clean
  cases h : Q.isq a b <;> simp
theorem isden_eq (n : Int) (k : Bool → Option DV) : span_isDen n k = k (S.isden n) := by
  unfold span_isDen B_span_isDen S.isden
  cases h : decide (n ≥ 0) <;> simp
theorem ooo_eq (a b c d : Int) (k : Bool → Option DV) : span_isOutOfOrder a b c d k = k (S.ooo a b c d) := by
  unfold span_isOutOfOrder B_span_isOutOfOrder S.ooo ratio_Is ratio_Cmp
  cases h : Q.isq c d <;> simp
theorem make_eq (a b c d n : Int) (k : Int → Int → Int → Int → Int → Bool → Bool → Option DV) : span_Make a b c d n k = (S.make a b c d n).ap k := by
  unfold span_Make B_span_Make S.make
  rw [ooo_eq]
  cases h : S.ooo a b c d
  · simp only [cond_false, isden_eq, counted_eq, Bool.false_eq_true, if_false]
    cases hd : S.isden n <;> simp [Sp.ap]
  · simp [Sp.ap, span_nothing, B_span_nothing]
/-- None is below each number. -/
theorem cmp_none {a b c d : Int} (h : Q.isq a b = false) (h2 : Q.isq c d = true) : ¬ Q.cmp (a, b) (c, d) > 0 := by
  unfold Q.cmp Q.both Q.rank Q.cmpi
  simp [h, h2]
end Go.Proofs.YtiiddikiaafanaaGreatDoor

/-
  Spans as plain values: Valid, known, isAmong, Has: the program's and the specification's readings are the same plain functions.
-/
namespace Go.Proofs.YtiiddikiaafanaaGreatDoor
open Go.Pv Go.RowKit

namespace S
def valid (s : Sp) : Bool :=
  if s.em = true then s.ln == 0 && s.ld == 0 && s.hn == 0 && s.hd == 0 && s.den == 0
  else Q.valid (s.ln, s.ld) && Q.valid (s.hn, s.hd) && !ooo s.ln s.ld s.hn s.hd && isden s.den
def all : Sp := ⟨0, 0, 0, 0, 0, true, false⟩
def known (s : Sp) : Sp := if valid s = true then s else all
end S
theorem all_eq (k : Int → Int → Int → Int → Int → Bool → Bool → Option DV) : span_All k = S.all.ap k := by kernel_rfl
theorem rall_eq (k : Int → Int → Int → Int → Int → Bool → Bool → Option DV) : s3_All k = S.all.ap k := by kernel_rfl
theorem valid_eq (a b c d n : Int) (o e : Bool) (k : Bool → Option DV) : span_Valid a b c d n o e k = k (S.valid ⟨a, b, c, d, n, o, e⟩) := by
  unfold span_Valid B_span_Valid S.valid
  simp only [ooo_eq, isden_eq, ratio_Valid, span_nothing, B_span_nothing]
  cases e
  · cases h1 : Q.valid (a, b) <;> cases h2 : Q.valid (c, d) <;> cases h3 : S.ooo a b c d <;> simp
  · simp [Bool.and_assoc]
theorem rvalid_eq (a b c d n : Int) (o e : Bool) (k : Bool → Option DV) : s3_Valid a b c d n o e k = k (S.valid ⟨a, b, c, d, n, o, e⟩) := by
  unfold s3_Valid B_s3_Valid S.valid s1_Valid s1_Is s1_Cmp s1_None
  cases e
  · have hc : decide (Q.cmp (a, b) (c, d) ≤ 0) = !decide (Q.cmp (a, b) (c, d) > 0) := by
      by_cases h : Q.cmp (a, b) (c, d) > 0
      · have h' : ¬ Q.cmp (a, b) (c, d) ≤ 0 := by omega
        simp [h, h']
      · have h' : Q.cmp (a, b) (c, d) ≤ 0 := by omega
        simp [h, h']
    have hd : (!decide (n < 0) && !decide (n > 1073741824)) = S.isden n := by
      unfold S.isden
      by_cases h1 : n < 0 <;> by_cases h2 : n > 1073741824 <;> simp [h1, h2] <;> omega
    have hn : Q.isq a b = false → Q.isq c d = true → decide (Q.cmp (a, b) (c, d) > 0) = false := fun h1 h2 => by simpa using cmp_none h1 h2
    simp only [hc, ← hd, S.ooo]
    cases h1 : Q.valid (a, b) <;> cases h2 : Q.valid (c, d) <;> cases h3 : decide (n < 0) <;> cases h4 : decide (n > 1073741824) <;> cases h5 : Q.isq a b <;> cases h6 : Q.isq c d <;> cases h7 : decide (Q.cmp (a, b) (c, d) > 0) <;> simp_all
  · cases h1 : a == 0 <;> cases h2 : b == 0 <;> cases h3 : c == 0 <;> cases h4 : d == 0 <;> simp [h1, h2, h3, h4]
theorem known_eq (a b c d n : Int) (o e : Bool) (k : Int → Int → Int → Int → Int → Bool → Bool → Option DV) : span_known a b c d n o e k = (S.known ⟨a, b, c, d, n, o, e⟩).ap k := by
  unfold span_known B_span_known S.known
  simp only [valid_eq, all_eq]
  cases S.valid ⟨a, b, c, d, n, o, e⟩ <;> simp [Sp.ap]
theorem rknown_eq (a b c d n : Int) (o e : Bool) (k : Int → Int → Int → Int → Int → Bool → Bool → Option DV) : s3_Clean a b c d n o e k = (S.known ⟨a, b, c, d, n, o, e⟩).ap k := by
  unfold s3_Clean B_s3_Clean S.known
  simp only [rvalid_eq, rall_eq]
  cases S.valid ⟨a, b, c, d, n, o, e⟩ <;> simp [Sp.ap]
end Go.Proofs.YtiiddikiaafanaaGreatDoor

/-
  Spans as plain values: Has, Point, All: the program's and the specification's readings are the same plain functions.
-/
namespace Go.Proofs.YtiiddikiaafanaaGreatDoor
open Go.Pv Go.RowKit

namespace S
def below (a b c d : Int) : Bool := Q.isq c d && decide (Q.cmp (a, b) (c, d) < 0)
def above (a b c d : Int) : Bool := Q.isq c d && decide (Q.cmp (a, b) (c, d) > 0)
def divs (n d : Int) : Bool := n == 0 || Int.tmod n d == 0
def has (s : Sp) (a b : Int) : Bool :=
  if Q.isq a b = true then !s.em && !below a b s.ln s.ld && !above a b s.hn s.hd && divs s.den b else s.no
def point (a b : Int) : Sp := if Q.isq a b = true then ⟨a, b, a, b, b, false, false⟩ else ⟨0, 0, 0, 0, 0, true, true⟩
/-- What a span that is known keeps to. -/
structure Ok (s : Sp) : Prop where
  lo : Q.valid (s.ln, s.ld) = true
  hi : Q.valid (s.hn, s.hd) = true
  ord : ooo s.ln s.ld s.hn s.hd = false
  d0 : 0 ≤ s.den
  d1 : s.den ≤ 1073741824
theorem known_ok (s : Sp) : Ok (known s) := by
  unfold known
  cases h : valid s
  · rw [if_neg (by decide)]
    exact ⟨by decide, by decide, by decide, by decide, by decide⟩
  · unfold valid at h
    rw [if_pos rfl]
    cases he : s.em
    · rw [he] at h
      simp [isden] at h
      exact ⟨h.1.1.1, h.1.1.2, h.1.2, h.2.1, h.2.2⟩
    · rw [he] at h
      simp at h
      obtain ⟨⟨⟨⟨h1, h2⟩, h3⟩, h4⟩, h5⟩ := h
      exact ⟨by rw [h1, h2]; decide, by rw [h3, h4]; decide, by rw [h1, h2, h3, h4]; decide, by rw [h5]; decide, by rw [h5]; decide⟩
end S
theorem isq_pos {a b : Int} (h : Q.isq a b = true) : (b == 0) = false := by
  unfold Q.isq at h
  have := of_decide_eq_true h
  have : b ≠ 0 := by omega
  simp [this]
theorem open_eq {a b : Int} (h : Q.valid (a, b) = true) : ((a == 0) && ((b == 0) && true)) = !Q.isq a b := by
  unfold Q.valid at h
  cases hq : Q.isq a b
  · simpa [hq] using h
  · simp [isq_pos hq]
theorem ge_not (x : Int) : decide (x ≥ 0) = !decide (x < 0) := by by_cases h : x < 0 <;> simp [h] <;> omega
theorem le_not (x : Int) : decide (x ≤ 0) = !decide (x > 0) := by by_cases h : x > 0 <;> simp [h] <;> omega
theorem has_eq (a b c d n : Int) (o e : Bool) (x y : Int) (k : Bool → Option DV) : span_Has a b c d n o e x y k = k (S.has (S.known ⟨a, b, c, d, n, o, e⟩) x y) := by
  unfold span_Has B_span_Has S.has span_isAmong B_span_isAmong span_isOpen B_span_isOpen ratio_Is ratio_Cmp
  simp only [known_eq, Sp.ap]
  have hk := S.known_ok ⟨a, b, c, d, n, o, e⟩
  generalize S.known ⟨a, b, c, d, n, o, e⟩ = s at *
  simp only [open_eq hk.lo, open_eq hk.hi, ge_not, le_not]
  cases hq : Q.isq x y
  · simp
  · have hv : Q.valid (x, y) = true := by simp [Q.valid, hq]
    simp only [open_eq hv, hq, isq_pos hq, S.below, S.above, S.divs]
    cases s.em <;> cases Q.isq s.ln s.ld <;> cases Q.isq s.hn s.hd <;> cases decide (Q.cmp (x, y) (s.ln, s.ld) < 0) <;> cases decide (Q.cmp (x, y) (s.hn, s.hd) > 0) <;> cases s.den == 0 <;> simp
theorem rhas_eq (a b c d n : Int) (o e : Bool) (x y : Int) (k : Bool → Option DV) : s3_Has a b c d n o e x y k = k (S.has (S.known ⟨a, b, c, d, n, o, e⟩) x y) := by
  unfold s3_Has B_s3_Has S.has s1_Is s1_Cmp
  simp only [rknown_eq, Sp.ap]
  generalize S.known ⟨a, b, c, d, n, o, e⟩ = s at *
  cases hq : Q.isq x y
  · simp
  · simp only [hq, isq_pos hq, S.below, S.above, S.divs]
    cases s.em <;> cases Q.isq s.ln s.ld <;> cases Q.isq s.hn s.hd <;> cases decide (Q.cmp (x, y) (s.ln, s.ld) < 0) <;> cases decide (Q.cmp (x, y) (s.hn, s.hd) > 0) <;> cases s.den == 0 <;> simp
theorem point_eq (a b : Int) (k : Int → Int → Int → Int → Int → Bool → Bool → Option DV) : span_Point a b k = (S.point a b).ap k := by
  unfold span_Point B_span_Point S.point ratio_Is span_nothing B_span_nothing
  cases Q.isq a b <;> simp [Sp.ap]
end Go.Proofs.YtiiddikiaafanaaGreatDoor

/-
  Spans as plain values: the lowest common and the greatest common Den: the program's and the specification's readings are the same plain functions.
-/
namespace Go.Proofs.YtiiddikiaafanaaGreatDoor
open Go.Pv Go.RowKit

namespace S
def common (a b : Int) : Int :=
  if a = 0 ∨ b = 0 then 0 else if a.natAbs / a.natAbs.gcd b.natAbs * b.natAbs > 1073741824 then 0 else ((a.natAbs / a.natAbs.gcd b.natAbs * b.natAbs : Nat) : Int)
end S
theorem mk_den {A B : Nat} (hA : A ≤ 1073741824) (hB : B ≤ 1073741824) (h : B ≠ 0) : (Q.mk (A : Int) (B : Int)).2 = ((B / A.gcd B : Nat) : Int) := by
  unfold Q.mk Q.low
  have h1 : A / A.gcd B ≤ A := Nat.div_le_self _ _
  have h2 : B / A.gcd B ≤ B := Nat.div_le_self _ _
  simp only [Int.natAbs_natCast]
  rw [if_neg h, if_neg (by omega)]
theorem mk_den0 (a : Int) : (Q.mk a 0).2 = 0 := by
  unfold Q.mk Q.low
  simp
theorem nat_of {a : Int} (h : 0 ≤ a) : ∃ A : Nat, a = (A : Int) := ⟨a.toNat, by omega⟩
theorem turn_div (A B : Nat) : A * (B / A.gcd B) = A / A.gcd B * B := by
  rw [← Nat.mul_div_assoc _ (Nat.gcd_dvd_right A B), Nat.mul_comm, Nat.mul_div_assoc _ (Nat.gcd_dvd_left A B), Nat.mul_comm]
theorem common_eq {a b : Int} (h0 : 0 ≤ a) (h1 : a ≤ 1073741824) (h2 : 0 ≤ b) (h3 : b ≤ 1073741824) (k : Int → Option DV) : span_lowestCommon a b k = k (S.common a b) := by
  obtain ⟨A, rfl⟩ := nat_of h0
  obtain ⟨B, rfl⟩ := nat_of h2
  unfold span_lowestCommon B_span_lowestCommon S.common ratio_Make span_bounded B_span_bounded
  simp only [isden_eq]
  have hd : decide ((-9223372036854775808 ≤ (A : Int) ∧ (A : Int) ≤ 9223372036854775807) ∧ (-9223372036854775808 ≤ (B : Int) ∧ (B : Int) ≤ 9223372036854775807)) = true := decide_eq_true (by omega)
  simp only [hd, cond_true]
  by_cases hb : B = 0
  · subst hb
    have e : IntKind.wrap .i64 ((A : Int) * (Q.mk (A : Int) ((0 : Nat) : Int)).2) = 0 := by
      rw [show ((0 : Nat) : Int) = 0 from rfl, mk_den0, Int.mul_zero]; exact IntWalk.i64_in _ (by omega)
    rw [e]
    simp [S.isden]
  rw [mk_den (by omega) (by omega) hb, ← Int.natCast_mul, turn_div]
  have hq : A / A.gcd B ≤ A := Nat.div_le_self _ _
  have hq' : A / A.gcd B ≤ 1073741824 := by omega
  have hm : A / A.gcd B * B ≤ 1073741824 * 1073741824 := Nat.mul_le_mul hq' (by omega)
  rw [IntWalk.i64_in _ (by omega)]
  simp only [Int.natAbs_natCast]
  by_cases ha : A = 0
  · subst ha; simp [S.isden]
  have hn : ¬ ((A : Int) = 0 ∨ (B : Int) = 0) := by omega
  rw [if_neg hn]
  unfold S.isden
  by_cases hx : A / A.gcd B * B > 1073741824
  · have hx' : ¬ ((A / A.gcd B * B : Nat) : Int) ≤ 1073741824 := by omega
    rw [if_pos hx, decide_eq_false hx', Bool.and_false]; rfl
  · have hx' : ((A / A.gcd B * B : Nat) : Int) ≤ 1073741824 := by omega
    have hy' : ((A / A.gcd B * B : Nat) : Int) ≥ 0 := by omega
    rw [if_neg hx, decide_eq_true hx', decide_eq_true hy']; rfl
end Go.Proofs.YtiiddikiaafanaaGreatDoor

/-
  Spans as plain values: Join, Widen: the program's and the specification's readings are the same plain functions.
-/
namespace Go.Proofs.YtiiddikiaafanaaGreatDoor
open Go.Pv Go.RowKit

namespace S
def join (s t : Sp) : Sp :=
  if s.em = true then ⟨t.ln, t.ld, t.hn, t.hd, t.den, s.no || t.no, t.em⟩
  else if t.em = true then ⟨s.ln, s.ld, s.hn, s.hd, s.den, s.no || t.no, s.em⟩
  else ⟨(Q.min (s.ln, s.ld) (t.ln, t.ld)).1, (Q.min (s.ln, s.ld) (t.ln, t.ld)).2, (Q.max (s.hn, s.hd) (t.hn, t.hd)).1, (Q.max (s.hn, s.hd) (t.hn, t.hd)).2, common s.den t.den, s.no || t.no, false⟩
end S
theorem join_eq (a b c d n : Int) (o e : Bool) (a' b' c' d' n' : Int) (o' e' : Bool) (k : Int → Int → Int → Int → Int → Bool → Bool → Option DV) : span_Join a b c d n o e a' b' c' d' n' o' e' k = (S.join (S.known ⟨a, b, c, d, n, o, e⟩) (S.known ⟨a', b', c', d', n', o', e'⟩)).ap k := by
  unfold span_Join B_span_Join S.join ratio_Min ratio_Max
  simp only [known_eq, Sp.ap]
  have hk := S.known_ok ⟨a, b, c, d, n, o, e⟩
  have hk' := S.known_ok ⟨a', b', c', d', n', o', e'⟩
  generalize S.known ⟨a, b, c, d, n, o, e⟩ = s at *
  generalize S.known ⟨a', b', c', d', n', o', e'⟩ = t at *
  simp only [common_eq hk.d0 hk.d1 hk'.d0 hk'.d1]
  cases s.no <;> cases s.em <;> cases h : t.em <;> simp
end Go.Proofs.YtiiddikiaafanaaGreatDoor

/-
  Valid numbers compare as equal exactly if their fields are equal; what is known is known as itself.
-/
namespace Go.Proofs.YtiiddikiaafanaaGreatDoor
open Go.Pv Go.RowKit

theorem known_known (s : Sp) : S.known (S.known s) = S.known s := by
  cases h : S.valid s
  · have : S.known s = S.all := by unfold S.known; rw [h]; rfl
    rw [this]; rfl
  · have : S.known s = s := by unfold S.known; rw [h]; rfl
    rw [this, this]
theorem cross {a b c d : Int} (h : Q.isq a b = true) (h2 : Q.isq c d = true) (e : a * d = c * b) : a = c ∧ b = d := by
  unfold Q.isq at h h2
  obtain ⟨-, -, hb, -, hg⟩ := of_decide_eq_true h
  obtain ⟨-, -, hd, -, hg2⟩ := of_decide_eq_true h2
  have en : a.natAbs * d.natAbs = c.natAbs * b.natAbs := by rw [← Int.natAbs_mul, ← Int.natAbs_mul, e]
  have h3 : b.natAbs ∣ d.natAbs := Nat.Coprime.dvd_of_dvd_mul_left (Nat.Coprime.symm hg) (by rw [en]; exact Nat.dvd_mul_left _ _)
  have h4 : d.natAbs ∣ b.natAbs := Nat.Coprime.dvd_of_dvd_mul_left (Nat.Coprime.symm hg2) (by rw [← en]; exact Nat.dvd_mul_left _ _)
  have h5 := Nat.dvd_antisymm h3 h4
  have h6 : b = d := by omega
  subst h6
  exact ⟨Int.eq_of_mul_eq_mul_right (by omega) e, rfl⟩
end Go.Proofs.YtiiddikiaafanaaGreatDoor

/-
  Spans as plain values: Widen: the program's and the specification's readings are the same plain function.
-/
namespace Go.Proofs.YtiiddikiaafanaaGreatDoor
open Go.Pv Go.RowKit

theorem valid_min {p q : Int × Int} (h : Q.valid p = true) (h2 : Q.valid q = true) : Q.valid ((Q.min p q).1, (Q.min p q).2) = true := by
  unfold Q.min
  split
  · split
    · exact h2
    · exact h
  · decide
theorem valid_max {p q : Int × Int} (h : Q.valid p = true) (h2 : Q.valid q = true) : Q.valid ((Q.max p q).1, (Q.max p q).2) = true := by
  unfold Q.max
  split
  · split
    · exact h2
    · exact h
  · decide
end Go.Proofs.YtiiddikiaafanaaGreatDoor

/-
  Spans as plain values: the greatest common Den, the end that decides: the program's and the specification's readings are the same plain functions.
-/
namespace Go.Proofs.YtiiddikiaafanaaGreatDoor
open Go.Pv Go.RowKit

namespace S
def give (f : Int × Int → Int × Int → Int × Int) (p q : Int × Int) : Int × Int := if Q.isq p.1 p.2 = true then (if Q.isq q.1 q.2 = true then f p q else p) else q
end S
theorem clean_valid {a b : Int} (h : Q.valid (a, b) = true) : Q.clean (a, b) = (a, b) := by
  unfold Q.clean
  cases hq : Q.isq a b
  · have e1 : a = 0 ∧ b = 0 := by simpa [Q.valid, hq] using h
    obtain ⟨rfl, rfl⟩ := e1; rfl
  · rfl
theorem give_min {a b c d : Int} (h : Q.valid (a, b) = true) (h2 : Q.valid (c, d) = true) (k : Int → Int → Option DV) : span_givingWay_ratio_Min a b c d k = k (S.give Q.min (a, b) (c, d)).1 (S.give Q.min (a, b) (c, d)).2 := by
  unfold span_givingWay_ratio_Min B_span_givingWay_ratio_Min span_isOpen B_span_isOpen ratio_Min S.give
  simp only [open_eq h, open_eq h2]
  cases Q.isq a b <;> cases Q.isq c d <;> rfl
theorem give_max {a b c d : Int} (h : Q.valid (a, b) = true) (h2 : Q.valid (c, d) = true) (k : Int → Int → Option DV) : span_givingWay_ratio_Max a b c d k = k (S.give Q.max (a, b) (c, d)).1 (S.give Q.max (a, b) (c, d)).2 := by
  unfold span_givingWay_ratio_Max B_span_givingWay_ratio_Max span_isOpen B_span_isOpen ratio_Max S.give
  simp only [open_eq h, open_eq h2]
  cases Q.isq a b <;> cases Q.isq c d <;> rfl
end Go.Proofs.YtiiddikiaafanaaGreatDoor

/-
  Spans as plain values: Meet: the program's and the specification's readings are the same plain function.
-/
namespace Go.Proofs.YtiiddikiaafanaaGreatDoor
open Go.Pv Go.RowKit

theorem valid_give {f : Int × Int → Int × Int → Int × Int} {p q : Int × Int} (hf : Q.valid ((f p q).1, (f p q).2) = true) (h : Q.valid p = true) (h2 : Q.valid q = true) : Q.valid ((S.give f p q).1, (S.give f p q).2) = true := by
  unfold S.give
  split
  · split
    · exact hf
    · exact h
  · exact h2
end Go.Proofs.YtiiddikiaafanaaGreatDoor
