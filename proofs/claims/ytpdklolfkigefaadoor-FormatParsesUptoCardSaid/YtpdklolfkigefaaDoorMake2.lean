/-
  Make, and the specification's Make: both give Q.mk.
-/
import Derived.Test.YtpdklolfkigefaaDoorMake
set_option linter.all false
namespace Go.Proofs.YtpdklolfkigefaaDoor
open Go.RowKit

theorem q_let (p : Int × Int) : ∃ a b : Int, p = (a, b) := ⟨p.1, p.2, rfl⟩

set_option maxHeartbeats 400000 in
theorem make_any (n d : Int) (hn : -9223372036854775808 ≤ n ∧ n ≤ 9223372036854775807) (hd : -9223372036854775808 ≤ d ∧ d ≤ 9223372036854775807) (w : World) :
    Calls Tryd.prog 87 #[.int .i64 n, .int .i64 d] w fun e w' => e = .returned (.agg #[.int .i64 (Q.mk n d).1, .int .i64 (Q.mk n d).2]) ∧ Below w.heap.size w w' := by
  have hs : Hid (Q.mk n d = Q.low (!(decide (n < 0) == decide (d < 0))) n.natAbs d.natAbs) := rfl
  generalize Q.mk n d = r at *
  obtain ⟨r1, r2, rfl⟩ := q_let r
  go_enter Tryd.func87, Tryd.ntmps87
  go_wp2_with (first | (go_at_call 47; refine (size_any _ (by omega) _).mono ?_; rintro e w1 ⟨rfl, rfl⟩) | (go_at_call 92; refine (lowest_any _ _ _ (by omega) (by omega) _).mono ?_; rintro e w1 ⟨rfl, hb1⟩; obtain ⟨hc1, hf1⟩ := bcell hb1; rw [← hs.out]))
  have hz1 := hb1.size
  simp at hz1
  exact bodyPost_ret (v := .agg #[.int .i64 r1, .int .i64 r2]) (by simp [results, Tryd.results87, go_sem, hc1]) rfl ⟨rfl, Below.setCell (Below.setCell (on_below hb1 (by go_grown) (by simp)) (by simp) _) (by simp) _⟩

def leastB (a : Int) : Bool := a == leastInt
theorem leastB_no {a : Int} (h : leastB a = false) (h0 : -9223372036854775808 ≤ a) : -9223372036854775807 ≤ a := by
  unfold leastB leastInt at h; rw [beq_eq_false_iff_ne] at h; omega
theorem odd_of (a : Int) (h : ¬ a.tmod 2 = 0) : a.natAbs % 2 = 1 := by
  have h1 : a.tmod 2 = if 0 ≤ a then ((a.natAbs % 2 : Nat) : Int) else -((a.natAbs % 2 : Nat) : Int) := by
    split
    · rw [Int.tmod_eq_emod_of_nonneg (by assumption)]; omega
    · have : a = -(-a) := by omega
      rw [this, Int.neg_tmod, Int.tmod_eq_emod_of_nonneg (by omega)]; omega
  omega
theorem least_mod : leastInt.tmod 2 = 0 := by decide
def halfLeast : Int := -4611686018427387904
theorem least_half : wrap64 (leastInt.tdiv 2) = halfLeast := by unfold wrap64 leastInt halfLeast; decide
theorem leastB_yes {a : Int} (h : leastB a = true) : a = leastInt := by unfold leastB at h; exact eq_of_beq h
/-- What the end of the specification's Make does, over a number above 0. -/
structure MkFin (a b r s g x y : Int) : Prop where
  gcd : ((a.natAbs.gcd b.natAbs : Nat) : Int) = g
  pos : 0 < g
  ex : a.tdiv g = x
  ey : b.tdiv g = y
  yes : Q.isq x y = true → (r, s) = (x, y)
  no : Q.isq x y = false → (r, s) = (0, 0)
theorem fin_mk (a b : Int) (hb : 0 < b) : MkFin a b (Q.mk a b).1 (Q.mk a b).2 ((a.natAbs.gcd b.natAbs : Nat) : Int) (a.tdiv ((a.natAbs.gcd b.natAbs : Nat) : Int)) (b.tdiv ((a.natAbs.gcd b.natAbs : Nat) : Int)) :=
  ⟨rfl, by have := Q.gcd_pos' a b (by omega); omega, rfl, rfl, fun h => (Q.mk_pos a b hb _ rfl).1 h, fun h => (Q.mk_pos a b hb _ rfl).2 h⟩

end Go.Proofs.YtpdklolfkigefaaDoor
