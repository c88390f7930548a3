/-
  The law on sums of any lists: the walk.
-/
import Derived.Test.YtpoalckncfkdgaaSum
namespace Go.Proofs.Ytpoalckncfkdgaa
open Go.RowKit

/-- What the walk is told of a slice of numbers: it is empty, or it lies in memory. -/
def IsSl (w : World) (a : Option Addr) (len cap : Nat) : Prop :=
  len = 0 ∨ ∃ (b off : Nat) (qs : List (Int × Int)), a = some ⟨b, off, none⟩ ∧ 0 < len ∧ len ≤ cap ∧ cap ≤ 9223372036854775807 ∧ IsQs w b off len qs
theorem IsQs.later {w w' : World} {b off len : Nat} {qs : List (Int × Int)} (h : IsQs w b off len qs) (hb : Below w.heap.size w w') : IsQs w' b off len qs :=
  ⟨h.1, Nat.lt_of_lt_of_le h.2.1 hb.size, fun i hi => ⟨(hb.cell (p := ⟨b, off + i * 2, none⟩) h.2.1).trans (h.2.2 i hi).1, (hb.cell (p := ⟨b, off + i * 2 + 1, none⟩) h.2.1).trans (h.2.2 i hi).2⟩⟩

set_option maxRecDepth 100000 in
set_option maxHeartbeats 1600000 in
theorem sums_any (a : Option Addr) (len cap : Nat) (w : World) (hs : IsSl w a len cap) :
    Calls Try.prog 6 #[.slice a len cap] w fun e w' => e = .returned (.bool true) ∧ Below w.heap.size w w' := by
  rcases hs with rfl | ⟨b, off, qs, rfl, hN, hcap, hmax, hq⟩
  · skip
    go_enter Try.func6, Try.ntmps6
    go_wp2_with fail
    refine (sum_nil _ _ _).mono ?_
    rintro e w1 ⟨rfl, hw1⟩
    have hmw1 : Below w.heap.size w w1 := on_below hw1 (by repeat' (first | (with_reducible exact Below.refl _ _) | (with_reducible assumption) | (with_reducible refine drewN_below ?_ _) | (with_reducible refine Below.drew ?_) | (with_reducible refine Below.alloc ?_ ?_ _) | (with_reducible refine Below.setCell ?_ ?_ _) | (simp; done) | omega | (simp; omega))) (by first | (with_reducible assumption) | (simp; done) | omega | (simp; omega))
    have hBw1 : Below w.heap.size w w1 := hmw1
    have zw1 : w.heap.size ≤ w1.heap.size := hBw1.size
    clear hmw1 hw1
    go_wp2_with fail
    refine (rsum_nil _ _ _).mono ?_
    rintro e w2 ⟨rfl, hw2⟩
    have hmw2 : Below w1.heap.size w1 w2 := on_below hw2 (by repeat' (first | (with_reducible exact Below.refl _ _) | (with_reducible assumption) | (with_reducible refine drewN_below ?_ _) | (with_reducible refine Below.drew ?_) | (with_reducible refine Below.alloc ?_ ?_ _) | (with_reducible refine Below.setCell ?_ ?_ _) | (simp; done) | omega | (simp; omega))) (by first | (with_reducible assumption) | (simp; done) | omega | (simp; omega))
    have hBw2 : Below w.heap.size w w2 := Below.trans hBw1 (hmw2.mono hBw1.size)
    have zw2 : w.heap.size ≤ w2.heap.size := hBw2.size
    clear hmw2 hw2 zw1 hBw1
    go_wp2_with fail
    refine (awake_any _).mono ?_
    rintro e w3 ⟨rfl, hw3⟩
    have hmw3 : Below w2.heap.size w2 w3 := on_below hw3 (by repeat' (first | (with_reducible exact Below.refl _ _) | (with_reducible assumption) | (with_reducible refine drewN_below ?_ _) | (with_reducible refine Below.drew ?_) | (with_reducible refine Below.alloc ?_ ?_ _) | (with_reducible refine Below.setCell ?_ ?_ _) | (simp; done) | omega | (simp; omega))) (by first | (with_reducible assumption) | (simp; done) | omega | (simp; omega))
    have hBw3 : Below w.heap.size w w3 := Below.trans hBw2 (hmw3.mono hBw2.size)
    have zw3 : w.heap.size ≤ w3.heap.size := hBw3.size
    clear hmw3 hw3 zw2 hBw2
    go_wp2
    go_ret
    exact ⟨rfl, (by repeat' (first | (with_reducible exact Below.refl _ _) | (with_reducible assumption) | (with_reducible refine drewN_below ?_ _) | (with_reducible refine Below.drew ?_) | (with_reducible refine Below.alloc ?_ ?_ _) | (with_reducible refine Below.setCell ?_ ?_ _) | (simp; done) | omega | (simp; omega)))⟩
  · skip
    obtain ⟨r, s, hr⟩ : ∃ r s, Hid (Q.sumTo qs len = (r, s)) := ⟨_, _, rfl⟩
    have HQ := Lib.hid hq
    clear hq
    go_enter Try.func6, Try.ntmps6
    go_wp2_with fail
    refine (sum_some qs _ _ _ _ _ hcap hmax HQ.out).mono ?_
    rintro e w1 ⟨rfl, hw1⟩
    have hmw1 : Below w.heap.size w w1 := on_below hw1 (by repeat' (first | (with_reducible exact Below.refl _ _) | (with_reducible assumption) | (with_reducible refine drewN_below ?_ _) | (with_reducible refine Below.drew ?_) | (with_reducible refine Below.alloc ?_ ?_ _) | (with_reducible refine Below.setCell ?_ ?_ _) | (simp; done) | omega | (simp; omega))) (by first | (with_reducible assumption) | (simp; done) | omega | (simp; omega))
    have hBw1 : Below w.heap.size w w1 := hmw1
    have zw1 : w.heap.size ≤ w1.heap.size := hBw1.size
    clear hmw1 hw1
    rw [hr.out]
    go_wp2_with fail
    refine (rsum_some qs _ _ _ _ _ hN hcap hmax (HQ.out.later hBw1)).mono ?_
    rintro e w2 ⟨rfl, hw2⟩
    have hmw2 : Below w1.heap.size w1 w2 := on_below hw2 (by repeat' (first | (with_reducible exact Below.refl _ _) | (with_reducible assumption) | (with_reducible refine drewN_below ?_ _) | (with_reducible refine Below.drew ?_) | (with_reducible refine Below.alloc ?_ ?_ _) | (with_reducible refine Below.setCell ?_ ?_ _) | (simp; done) | omega | (simp; omega))) (by first | (with_reducible assumption) | (simp; done) | omega | (simp; omega))
    have hBw2 : Below w.heap.size w w2 := Below.trans hBw1 (hmw2.mono hBw1.size)
    have zw2 : w.heap.size ≤ w2.heap.size := hBw2.size
    clear hmw2 hw2 zw1 hBw1
    rw [hr.out]
    go_wp2_with fail
    refine (awake_any _).mono ?_
    rintro e w3 ⟨rfl, hw3⟩
    have hmw3 : Below w2.heap.size w2 w3 := on_below hw3 (by repeat' (first | (with_reducible exact Below.refl _ _) | (with_reducible assumption) | (with_reducible refine drewN_below ?_ _) | (with_reducible refine Below.drew ?_) | (with_reducible refine Below.alloc ?_ ?_ _) | (with_reducible refine Below.setCell ?_ ?_ _) | (simp; done) | omega | (simp; omega))) (by first | (with_reducible assumption) | (simp; done) | omega | (simp; omega))
    have hBw3 : Below w.heap.size w w3 := Below.trans hBw2 (hmw3.mono hBw2.size)
    have zw3 : w.heap.size ≤ w3.heap.size := hBw3.size
    clear hmw3 hw3 zw2 hBw2
    go_wp2
    go_ret
    exact ⟨rfl, (by repeat' (first | (with_reducible exact Below.refl _ _) | (with_reducible assumption) | (with_reducible refine drewN_below ?_ _) | (with_reducible refine Below.drew ?_) | (with_reducible refine Below.alloc ?_ ?_ _) | (with_reducible refine Below.setCell ?_ ?_ _) | (simp; done) | omega | (simp; omega)))⟩

end Go.Proofs.Ytpoalckncfkdgaa
