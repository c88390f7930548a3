/-
  Formats: the program's functions at any format and any number: what the calls give.
-/
import Derived.Test.YtpdklolfkigefaaDoorVf
set_option linter.all false
namespace Go.Proofs.YtpdklolfkigefaaDoor
open Go.RowKit
theorem of_list {s : ByteArray} {l : List UInt8} (h : (s.toList == l) = true) : s = ⟨l.toArray⟩ := by
  rw [beq_iff_eq, ByteArray.toList_eq] at h
  cases s with | mk d => cases d with | mk l' => simp at h; rw [h]
namespace Z
def rdm (r : ByteArray) : Nat := if r.toList == [110, 101, 97, 114] then 1 else if r.toList == [122, 101, 114, 111] then 2 else 0
theorem rdm_le (r : ByteArray) : rdm r ≤ 2 := by unfold rdm; split <;> (try split) <;> omega
theorem rnm_rdm {r : ByteArray} (h : hrd r = true) : rnm (rdm r) = r := by
  unfold rdm
  cases h1 : (r.toList == [110, 101, 97, 114])
  · cases h2 : (r.toList == [122, 101, 114, 111])
    · unfold hrd at h; rw [h1, h2] at h
      rw [of_list (show (r.toList == [102, 108, 111, 111, 114]) = true by simpa using h)]; rfl
    · rw [of_list h2]; rfl
  · rw [of_list h1]; rfl
/-- What the functions give, at any format and any numbers. -/
def fitQ (k r o : ByteArray) (I F n d : Int) : Int × Int := if (Q.isq n d && vld k r o I F) = true then fitV k o (rdm r) I.toNat F.toNat n d else (0, 0)
def addQ (k r o : ByteArray) (I F : Int) (a b : Int × Int) : Int × Int := if (Q.both a b && vld k r o I F) = true then fitV k o (rdm r) I.toNat F.toNat (a.1 * b.2 + b.1 * a.2) (a.2 * b.2) else (0, 0)
def mulQ (k r o : ByteArray) (I F : Int) (a b : Int × Int) : Int × Int := if (Q.both a b && vld k r o I F) = true then fitV k o (rdm r) I.toNat F.toNat (a.1 * b.1) (a.2 * b.2) else (0, 0)
def lstQ (k r o : ByteArray) (I F : Int) : Int × Int := if vld k r o I F = true then lst (k.toList == [102, 105, 120]) I.toNat F.toNat else (0, 0)
def grtQ (k r o : ByteArray) (I F : Int) : Int × Int := if vld k r o I F = true then grt (k.toList == [102, 105, 120]) I.toNat F.toNat else (0, 0)
def stpQ (k r o : ByteArray) (I F : Int) : Int × Int := if vld k r o I F = true then Q.mk 1 (2 ^ F.toNat) else (0, 0)
def isfx (k r o : ByteArray) (I F : Int) : Bool := vld k r o I F && (k.toList == [102, 105, 120])
def isQ (k r o : ByteArray) (I F n d : Int) : Bool := Q.isq n d && ((fitQ k r o I F n d).1 == n && (fitQ k r o I F n d).2 == d)
def bndQ (k r o : ByteArray) (I F : Int) : (Int × Int) × Int := if isfx k r o I F = true then (if (r.toList == [110, 101, 97, 114]) = true then Q.div (stpQ k r o I F) (2, 1) else stpQ k r o I F, 0) else ((0, 0), 2)
def cod (I F : Nat) (n d : Int) : Int := if n * ((2 ^ F) / d) < 0 then n * ((2 ^ F) / d) + 2 * 2 ^ (I + F) else n * ((2 ^ F) / d)
def codQ (k r o : ByteArray) (I F n d : Int) : Int × Int := if isfx k r o I F = true then (if isQ k r o I F n d = true then (cod I.toNat F.toNat n d, 0) else (0, 5)) else (0, 2)
def valQ (k r o : ByteArray) (I F c : Int) : (Int × Int) × Int := if isfx k r o I F = true ∧ 0 ≤ c ∧ c < 2 * 2 ^ (I.toNat + F.toNat) then (Q.mk (if 2 ^ (I.toNat + F.toNat) ≤ c then c - 2 * 2 ^ (I.toNat + F.toNat) else c) (2 ^ F.toNat), 0) else ((0, 0), 2)
end Z
/-- A valid format's fields, by their names. -/
theorem vld_open {k r o : ByteArray} {I F : Int} (h : Z.vld k r o I F = true) : ∃ (m : Nat) (i f : Nat), m = Z.rdm r ∧ m ≤ 2 ∧ r = rnm m ∧ I = i ∧ F = f ∧ i + f ≤ 30 := by
  obtain ⟨p1, p2, p3, p4, p5, p6⟩ := vld_parts h
  obtain ⟨i, rfl⟩ := Int.eq_ofNat_of_zero_le p1
  obtain ⟨f, rfl⟩ := Int.eq_ofNat_of_zero_le p3
  have hr : Z.hrd r = true := by unfold Z.vld at h; simp only [Bool.and_eq_true] at h; exact h.1.2
  exact ⟨_, i, f, rfl, Z.rdm_le r, (Z.rnm_rdm hr).symm, rfl, rfl, by omega⟩
set_option maxRecDepth 100000 in
set_option maxHeartbeats 1000000 in
theorem Fit_any (k r o : ByteArray) (I F : Int) (n d : Int) (hI : -9223372036854775808 ≤ I ∧ I ≤ 9223372036854775807) (hF : -9223372036854775808 ≤ F ∧ F ≤ 9223372036854775807) (w : World) :
    Calls Tryd.prog 18 #[.agg #[.string k, .int .i64 I, .int .i64 F, .string r, .string o], .agg #[.int .i64 n, .int .i64 d]] w fun e w' => e = .returned (.agg #[.int .i64 (Z.fitQ k r o I F n d).1, .int .i64 (Z.fitQ k r o I F n d).2]) ∧ Below w.heap.size w w' := by
  by_cases hc : (Q.isq n d && Z.vld k r o I F) = true
  · rw [Bool.and_eq_true] at hc
    have e : Z.fitQ k r o I F n d = Z.fitV k o (Z.rdm r) I.toNat F.toNat n d := by unfold Z.fitQ; rw [if_pos (by rw [hc.1, hc.2]; rfl)]
    rw [e]
    obtain ⟨m, i, f, hm, hm2, hr, rfl, rfl, hs⟩ := vld_open hc.2
    rw [← hm]
    rw [hr] at hc ⊢
    exact Fit_some k o m i f hm2 hs n d hc.1 hc.2 w
  · have e : Z.fitQ k r o I F n d = (0, 0) := by unfold Z.fitQ; rw [if_neg hc]
    rw [e]
    exact Fit_none k r o I F n d hI hF (by unfold Hid; cases h1 : Q.isq n d <;> cases h2 : Z.vld k r o I F <;> simp [h1, h2] at hc ⊢) w

set_option maxRecDepth 100000 in
set_option maxHeartbeats 1000000 in
theorem Least_any (k r o : ByteArray) (I F : Int) (hI : -9223372036854775808 ≤ I ∧ I ≤ 9223372036854775807) (hF : -9223372036854775808 ≤ F ∧ F ≤ 9223372036854775807) (w : World) :
    Calls Tryd.prog 83 #[.agg #[.string k, .int .i64 I, .int .i64 F, .string r, .string o]] w fun e w' => e = .returned (.agg #[.int .i64 (Z.lstQ k r o I F).1, .int .i64 (Z.lstQ k r o I F).2]) ∧ Below w.heap.size w w' := by
  by_cases hc : Z.vld k r o I F = true
  · have e : Z.lstQ k r o I F = Z.lst (k.toList == [102, 105, 120]) I.toNat F.toNat := by unfold Z.lstQ; rw [if_pos hc]
    rw [e]
    obtain ⟨m, i, f, hm, hm2, hr, rfl, rfl, hs⟩ := vld_open hc
    exact least_any k r o i f hs hc w
  · have e : Z.lstQ k r o I F = (0, 0) := by unfold Z.lstQ; rw [if_neg hc]
    rw [e]
    exact least_none k r o I F hI hF (by simpa [Hid] using hc) w

set_option maxRecDepth 100000 in
set_option maxHeartbeats 1000000 in
theorem Greatest_any (k r o : ByteArray) (I F : Int) (hI : -9223372036854775808 ≤ I ∧ I ≤ 9223372036854775807) (hF : -9223372036854775808 ≤ F ∧ F ≤ 9223372036854775807) (w : World) :
    Calls Tryd.prog 84 #[.agg #[.string k, .int .i64 I, .int .i64 F, .string r, .string o]] w fun e w' => e = .returned (.agg #[.int .i64 (Z.grtQ k r o I F).1, .int .i64 (Z.grtQ k r o I F).2]) ∧ Below w.heap.size w w' := by
  by_cases hc : Z.vld k r o I F = true
  · have e : Z.grtQ k r o I F = Z.grt (k.toList == [102, 105, 120]) I.toNat F.toNat := by unfold Z.grtQ; rw [if_pos hc]
    rw [e]
    obtain ⟨m, i, f, hm, hm2, hr, rfl, rfl, hs⟩ := vld_open hc
    exact greatest_any k r o i f hs hc w
  · have e : Z.grtQ k r o I F = (0, 0) := by unfold Z.grtQ; rw [if_neg hc]
    rw [e]
    exact greatest_none k r o I F hI hF (by simpa [Hid] using hc) w

end Go.Proofs.YtpdklolfkigefaaDoor
