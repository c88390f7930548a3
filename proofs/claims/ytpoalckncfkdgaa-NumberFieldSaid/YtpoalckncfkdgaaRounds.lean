/-
  The law on Floor, Frac, Round and Mod: the walk.
-/
import Derived.Test.YtpoalckncfkdgaaNums
import Derived.Test.YtpoalckncfkdgaaSays
import Derived.Test.YtpoalckncfkdgaaQv
namespace Go.Proofs.Ytpoalckncfkdgaa
open Go.RowKit

theorem numbers1 (x0 y0 : Int) (b : Nat) (w : World) (h0 : w.cell? ⟨b, 0, none⟩ = some (.int .i64 x0)) (h1 : w.cell? ⟨b, 1, none⟩ = some (.int .i64 y0)) (hb : b < w.heap.size) :
    Calls Try.prog 50 #[.slice (some ⟨b, 0, none⟩) 1 1] w fun e w' => e = .returned (.bool (Q.isq x0 y0)) ∧ Below w.heap.size w w' := by
  have h := numbers_any [(x0, y0)] b 0 1 w (Nat.le_refl _) (by decide) ?_ hb
  · have e : (List.all [(x0, y0)] fun q => Q.isq q.1 q.2) = (Q.isq x0 y0) := by first | (simp; done) | (simp [Bool.and_assoc]; done)
    rw [e] at h; exact h
  · intro i hi
    have : i = 0 := by simp at hi; omega
    rcases this with rfl
    · exact ⟨h0, h1⟩

theorem numbers2 (x0 y0 x1 y1 : Int) (b : Nat) (w : World) (h0 : w.cell? ⟨b, 0, none⟩ = some (.int .i64 x0)) (h1 : w.cell? ⟨b, 1, none⟩ = some (.int .i64 y0)) (h2 : w.cell? ⟨b, 2, none⟩ = some (.int .i64 x1)) (h3 : w.cell? ⟨b, 3, none⟩ = some (.int .i64 y1)) (hb : b < w.heap.size) :
    Calls Try.prog 50 #[.slice (some ⟨b, 0, none⟩) 2 2] w fun e w' => e = .returned (.bool (Q.isq x0 y0 && Q.isq x1 y1)) ∧ Below w.heap.size w w' := by
  have h := numbers_any [(x0, y0), (x1, y1)] b 0 2 w (Nat.le_refl _) (by decide) ?_ hb
  · have e : (List.all [(x0, y0), (x1, y1)] fun q => Q.isq q.1 q.2) = (Q.isq x0 y0 && Q.isq x1 y1) := by first | (simp; done) | (simp [Bool.and_assoc]; done)
    rw [e] at h; exact h
  · intro i hi
    have : i = 0 ∨ i = 1 := by simp at hi; omega
    rcases this with rfl | rfl
    · exact ⟨h0, h1⟩
    · exact ⟨h2, h3⟩

theorem numbers4 (x0 y0 x1 y1 x2 y2 x3 y3 : Int) (b : Nat) (w : World) (h0 : w.cell? ⟨b, 0, none⟩ = some (.int .i64 x0)) (h1 : w.cell? ⟨b, 1, none⟩ = some (.int .i64 y0)) (h2 : w.cell? ⟨b, 2, none⟩ = some (.int .i64 x1)) (h3 : w.cell? ⟨b, 3, none⟩ = some (.int .i64 y1)) (h4 : w.cell? ⟨b, 4, none⟩ = some (.int .i64 x2)) (h5 : w.cell? ⟨b, 5, none⟩ = some (.int .i64 y2)) (h6 : w.cell? ⟨b, 6, none⟩ = some (.int .i64 x3)) (h7 : w.cell? ⟨b, 7, none⟩ = some (.int .i64 y3)) (hb : b < w.heap.size) :
    Calls Try.prog 50 #[.slice (some ⟨b, 0, none⟩) 4 4] w fun e w' => e = .returned (.bool (Q.isq x0 y0 && Q.isq x1 y1 && Q.isq x2 y2 && Q.isq x3 y3)) ∧ Below w.heap.size w w' := by
  have h := numbers_any [(x0, y0), (x1, y1), (x2, y2), (x3, y3)] b 0 4 w (Nat.le_refl _) (by decide) ?_ hb
  · have e : (List.all [(x0, y0), (x1, y1), (x2, y2), (x3, y3)] fun q => Q.isq q.1 q.2) = (Q.isq x0 y0 && Q.isq x1 y1 && Q.isq x2 y2 && Q.isq x3 y3) := by first | (simp; done) | (simp [Bool.and_assoc]; done)
    rw [e] at h; exact h
  · intro i hi
    have : i = 0 ∨ i = 1 ∨ i = 2 ∨ i = 3 := by simp at hi; omega
    rcases this with rfl | rfl | rfl | rfl
    · exact ⟨h0, h1⟩
    · exact ⟨h2, h3⟩
    · exact ⟨h4, h5⟩
    · exact ⟨h6, h7⟩

set_option maxRecDepth 100000 in
set_option maxHeartbeats 1600000 in
theorem rounds_none (an ad bn bd : Int) (h : Q.isq an ad = false) (w : World) :
    Calls Try.prog 8 #[.agg #[.int .i64 an, .int .i64 ad], .agg #[.int .i64 bn, .int .i64 bd]] w fun e w' => e = .returned (.bool true) ∧ Below w.heap.size w w' := by
  · have ef : Hid (Q.floor (an, ad) = (0, 0)) := by unfold Hid Q.floor; rw [h]; rfl
    have er : Hid (Q.round (an, ad) = (0, 0)) := by unfold Hid Q.round; rw [h]; rfl
    have ec : Hid (Q.frac (an, ad) = (0, 0)) := by unfold Hid Q.frac Q.sub Q.both; rw [h]; rfl
    go_enter Try.func8, Try.ntmps8
    go_wp2_with fail
    refine (numbers1 an ad _ _ (by simp [go_sem]) (by simp [go_sem]) (by simp)).mono ?_
    rintro e w1 ⟨rfl, hw1⟩
    have hmw1 : Below w.heap.size w w1 := on_below hw1 (by repeat' (first | (with_reducible exact Below.refl _ _) | (with_reducible assumption) | (with_reducible refine drewN_below ?_ _) | (with_reducible refine Below.drew ?_) | (with_reducible refine Below.alloc ?_ ?_ _) | (with_reducible refine Below.setCell ?_ ?_ _) | (simp; done) | omega | (simp; omega))) (by first | (with_reducible assumption) | (simp; done) | omega | (simp; omega))
    have cA0w1 : w1.cell? ⟨w.heap.size, 0, none⟩ = some (.int .i64 an) := by rw [hw1.cell (p := ⟨w.heap.size, 0, none⟩) (by first | (with_reducible assumption) | (simp; done) | omega | (simp; omega))]; simp [go_sem]
    have cA1w1 : w1.cell? ⟨w.heap.size, 1, none⟩ = some (.int .i64 ad) := by rw [hw1.cell (p := ⟨w.heap.size, 1, none⟩) (by first | (with_reducible assumption) | (simp; done) | omega | (simp; omega))]; simp [go_sem]
    have bAw1 : w.heap.size < w1.heap.size := by have := hw1.size; first | omega | (simp at this; omega)
    have dAw1 : w.heap.size < w1.heap.size + 1 := Nat.lt_succ_of_lt bAw1
    have cB0w1 : w1.cell? ⟨w.heap.size + 1, 0, none⟩ = some (.int .i64 bn) := by rw [hw1.cell (p := ⟨w.heap.size + 1, 0, none⟩) (by first | (with_reducible assumption) | (simp; done) | omega | (simp; omega))]; simp [go_sem]
    have cB1w1 : w1.cell? ⟨w.heap.size + 1, 1, none⟩ = some (.int .i64 bd) := by rw [hw1.cell (p := ⟨w.heap.size + 1, 1, none⟩) (by first | (with_reducible assumption) | (simp; done) | omega | (simp; omega))]; simp [go_sem]
    have bBw1 : w.heap.size + 1 < w1.heap.size := by have := hw1.size; first | omega | (simp at this; omega)
    have dBw1 : w.heap.size + 1 < w1.heap.size + 1 := Nat.lt_succ_of_lt bBw1
    have hBw1 : Below w.heap.size w w1 := hmw1
    have zw1 : w.heap.size ≤ w1.heap.size := hBw1.size
    clear hmw1 hw1
    rw [h]
    go_wp2_with fail
    refine (floor_any _ _ _).mono ?_
    rintro e w2 ⟨rfl, hw2⟩
    have hmw2 : Below w1.heap.size w1 w2 := on_below hw2 (by repeat' (first | (with_reducible exact Below.refl _ _) | (with_reducible assumption) | (with_reducible refine drewN_below ?_ _) | (with_reducible refine Below.drew ?_) | (with_reducible refine Below.alloc ?_ ?_ _) | (with_reducible refine Below.setCell ?_ ?_ _) | (simp; done) | omega | (simp; omega))) (by first | (with_reducible assumption) | (simp; done) | omega | (simp; omega))
    have cA0w2 := (hmw2.cell (p := ⟨w.heap.size, 0, none⟩) bAw1).trans cA0w1
    have cA1w2 := (hmw2.cell (p := ⟨w.heap.size, 1, none⟩) bAw1).trans cA1w1
    have bAw2 : w.heap.size < w2.heap.size := Nat.lt_of_lt_of_le bAw1 hmw2.size
    have dAw2 : w.heap.size < w2.heap.size + 1 := Nat.lt_succ_of_lt bAw2
    have cB0w2 := (hmw2.cell (p := ⟨w.heap.size + 1, 0, none⟩) bBw1).trans cB0w1
    have cB1w2 := (hmw2.cell (p := ⟨w.heap.size + 1, 1, none⟩) bBw1).trans cB1w1
    have bBw2 : w.heap.size + 1 < w2.heap.size := Nat.lt_of_lt_of_le bBw1 hmw2.size
    have dBw2 : w.heap.size + 1 < w2.heap.size + 1 := Nat.lt_succ_of_lt bBw2
    have hBw2 : Below w.heap.size w w2 := Below.trans hBw1 (hmw2.mono hBw1.size)
    have zw2 : w.heap.size ≤ w2.heap.size := hBw2.size
    clear hmw2 hw2 zw1 hBw1 dBw1 bBw1 cB1w1 cB0w1 dAw1 bAw1 cA1w1 cA0w1
    rw [ef.out]
    go_wp2_with fail
    refine (numbers1 0 0 _ _ (by simp [go_sem]) (by simp [go_sem]) (by simp)).mono ?_
    rintro e w3 ⟨rfl, hw3⟩
    have hmw3 : Below w2.heap.size w2 w3 := on_below hw3 (by repeat' (first | (with_reducible exact Below.refl _ _) | (with_reducible assumption) | (with_reducible refine drewN_below ?_ _) | (with_reducible refine Below.drew ?_) | (with_reducible refine Below.alloc ?_ ?_ _) | (with_reducible refine Below.setCell ?_ ?_ _) | (simp; done) | omega | (simp; omega))) (by first | (with_reducible assumption) | (simp; done) | omega | (simp; omega))
    have cA0w3 := (hmw3.cell (p := ⟨w.heap.size, 0, none⟩) bAw2).trans cA0w2
    have cA1w3 := (hmw3.cell (p := ⟨w.heap.size, 1, none⟩) bAw2).trans cA1w2
    have bAw3 : w.heap.size < w3.heap.size := Nat.lt_of_lt_of_le bAw2 hmw3.size
    have dAw3 : w.heap.size < w3.heap.size + 1 := Nat.lt_succ_of_lt bAw3
    have cB0w3 := (hmw3.cell (p := ⟨w.heap.size + 1, 0, none⟩) bBw2).trans cB0w2
    have cB1w3 := (hmw3.cell (p := ⟨w.heap.size + 1, 1, none⟩) bBw2).trans cB1w2
    have bBw3 : w.heap.size + 1 < w3.heap.size := Nat.lt_of_lt_of_le bBw2 hmw3.size
    have dBw3 : w.heap.size + 1 < w3.heap.size + 1 := Nat.lt_succ_of_lt bBw3
    have hBw3 : Below w.heap.size w w3 := Below.trans hBw2 (hmw3.mono hBw2.size)
    have zw3 : w.heap.size ≤ w3.heap.size := hBw3.size
    clear hmw3 hw3 zw2 hBw2 dBw2 bBw2 cB1w2 cB0w2 dAw2 bAw2 cA1w2 cA0w2
    rw [Q.isq_none]
    go_wp2_with fail
    refine (round_any _ _ _).mono ?_
    rintro e w4 ⟨rfl, hw4⟩
    have hmw4 : Below w3.heap.size w3 w4 := on_below hw4 (by repeat' (first | (with_reducible exact Below.refl _ _) | (with_reducible assumption) | (with_reducible refine drewN_below ?_ _) | (with_reducible refine Below.drew ?_) | (with_reducible refine Below.alloc ?_ ?_ _) | (with_reducible refine Below.setCell ?_ ?_ _) | (simp; done) | omega | (simp; omega))) (by first | (with_reducible assumption) | (simp; done) | omega | (simp; omega))
    have cA0w4 := (hmw4.cell (p := ⟨w.heap.size, 0, none⟩) bAw3).trans cA0w3
    have cA1w4 := (hmw4.cell (p := ⟨w.heap.size, 1, none⟩) bAw3).trans cA1w3
    have bAw4 : w.heap.size < w4.heap.size := Nat.lt_of_lt_of_le bAw3 hmw4.size
    have dAw4 : w.heap.size < w4.heap.size + 1 := Nat.lt_succ_of_lt bAw4
    have cB0w4 := (hmw4.cell (p := ⟨w.heap.size + 1, 0, none⟩) bBw3).trans cB0w3
    have cB1w4 := (hmw4.cell (p := ⟨w.heap.size + 1, 1, none⟩) bBw3).trans cB1w3
    have bBw4 : w.heap.size + 1 < w4.heap.size := Nat.lt_of_lt_of_le bBw3 hmw4.size
    have dBw4 : w.heap.size + 1 < w4.heap.size + 1 := Nat.lt_succ_of_lt bBw4
    have hBw4 : Below w.heap.size w w4 := Below.trans hBw3 (hmw4.mono hBw3.size)
    have zw4 : w.heap.size ≤ w4.heap.size := hBw4.size
    clear hmw4 hw4 zw3 hBw3 dBw3 bBw3 cB1w3 cB0w3 dAw3 bAw3 cA1w3 cA0w3
    rw [er.out]
    go_wp2_with fail
    refine (numbers1 0 0 _ _ (by simp [go_sem]) (by simp [go_sem]) (by simp)).mono ?_
    rintro e w5 ⟨rfl, hw5⟩
    have hmw5 : Below w4.heap.size w4 w5 := on_below hw5 (by repeat' (first | (with_reducible exact Below.refl _ _) | (with_reducible assumption) | (with_reducible refine drewN_below ?_ _) | (with_reducible refine Below.drew ?_) | (with_reducible refine Below.alloc ?_ ?_ _) | (with_reducible refine Below.setCell ?_ ?_ _) | (simp; done) | omega | (simp; omega))) (by first | (with_reducible assumption) | (simp; done) | omega | (simp; omega))
    have cA0w5 := (hmw5.cell (p := ⟨w.heap.size, 0, none⟩) bAw4).trans cA0w4
    have cA1w5 := (hmw5.cell (p := ⟨w.heap.size, 1, none⟩) bAw4).trans cA1w4
    have bAw5 : w.heap.size < w5.heap.size := Nat.lt_of_lt_of_le bAw4 hmw5.size
    have dAw5 : w.heap.size < w5.heap.size + 1 := Nat.lt_succ_of_lt bAw5
    have cB0w5 := (hmw5.cell (p := ⟨w.heap.size + 1, 0, none⟩) bBw4).trans cB0w4
    have cB1w5 := (hmw5.cell (p := ⟨w.heap.size + 1, 1, none⟩) bBw4).trans cB1w4
    have bBw5 : w.heap.size + 1 < w5.heap.size := Nat.lt_of_lt_of_le bBw4 hmw5.size
    have dBw5 : w.heap.size + 1 < w5.heap.size + 1 := Nat.lt_succ_of_lt bBw5
    have hBw5 : Below w.heap.size w w5 := Below.trans hBw4 (hmw5.mono hBw4.size)
    have zw5 : w.heap.size ≤ w5.heap.size := hBw5.size
    clear hmw5 hw5 zw4 hBw4 dBw4 bBw4 cB1w4 cB0w4 dAw4 bAw4 cA1w4 cA0w4
    rw [Q.isq_none]
    go_wp2_with fail
    refine (frac_any _ _ _).mono ?_
    rintro e w6 ⟨rfl, hw6⟩
    have hmw6 : Below w5.heap.size w5 w6 := on_below hw6 (by repeat' (first | (with_reducible exact Below.refl _ _) | (with_reducible assumption) | (with_reducible refine drewN_below ?_ _) | (with_reducible refine Below.drew ?_) | (with_reducible refine Below.alloc ?_ ?_ _) | (with_reducible refine Below.setCell ?_ ?_ _) | (simp; done) | omega | (simp; omega))) (by first | (with_reducible assumption) | (simp; done) | omega | (simp; omega))
    have cA0w6 := (hmw6.cell (p := ⟨w.heap.size, 0, none⟩) bAw5).trans cA0w5
    have cA1w6 := (hmw6.cell (p := ⟨w.heap.size, 1, none⟩) bAw5).trans cA1w5
    have bAw6 : w.heap.size < w6.heap.size := Nat.lt_of_lt_of_le bAw5 hmw6.size
    have dAw6 : w.heap.size < w6.heap.size + 1 := Nat.lt_succ_of_lt bAw6
    have cB0w6 := (hmw6.cell (p := ⟨w.heap.size + 1, 0, none⟩) bBw5).trans cB0w5
    have cB1w6 := (hmw6.cell (p := ⟨w.heap.size + 1, 1, none⟩) bBw5).trans cB1w5
    have bBw6 : w.heap.size + 1 < w6.heap.size := Nat.lt_of_lt_of_le bBw5 hmw6.size
    have dBw6 : w.heap.size + 1 < w6.heap.size + 1 := Nat.lt_succ_of_lt bBw6
    have hBw6 : Below w.heap.size w w6 := Below.trans hBw5 (hmw6.mono hBw5.size)
    have zw6 : w.heap.size ≤ w6.heap.size := hBw6.size
    clear hmw6 hw6 zw5 hBw5 dBw5 bBw5 cB1w5 cB0w5 dAw5 bAw5 cA1w5 cA0w5
    rw [ec.out]
    go_wp2_with fail
    refine (numbers1 0 0 _ _ (by simp [go_sem]) (by simp [go_sem]) (by simp)).mono ?_
    rintro e w7 ⟨rfl, hw7⟩
    have hmw7 : Below w6.heap.size w6 w7 := on_below hw7 (by repeat' (first | (with_reducible exact Below.refl _ _) | (with_reducible assumption) | (with_reducible refine drewN_below ?_ _) | (with_reducible refine Below.drew ?_) | (with_reducible refine Below.alloc ?_ ?_ _) | (with_reducible refine Below.setCell ?_ ?_ _) | (simp; done) | omega | (simp; omega))) (by first | (with_reducible assumption) | (simp; done) | omega | (simp; omega))
    have cA0w7 := (hmw7.cell (p := ⟨w.heap.size, 0, none⟩) bAw6).trans cA0w6
    have cA1w7 := (hmw7.cell (p := ⟨w.heap.size, 1, none⟩) bAw6).trans cA1w6
    have bAw7 : w.heap.size < w7.heap.size := Nat.lt_of_lt_of_le bAw6 hmw7.size
    have dAw7 : w.heap.size < w7.heap.size + 1 := Nat.lt_succ_of_lt bAw7
    have cB0w7 := (hmw7.cell (p := ⟨w.heap.size + 1, 0, none⟩) bBw6).trans cB0w6
    have cB1w7 := (hmw7.cell (p := ⟨w.heap.size + 1, 1, none⟩) bBw6).trans cB1w6
    have bBw7 : w.heap.size + 1 < w7.heap.size := Nat.lt_of_lt_of_le bBw6 hmw7.size
    have dBw7 : w.heap.size + 1 < w7.heap.size + 1 := Nat.lt_succ_of_lt bBw7
    have hBw7 : Below w.heap.size w w7 := Below.trans hBw6 (hmw7.mono hBw6.size)
    have zw7 : w.heap.size ≤ w7.heap.size := hBw7.size
    clear hmw7 hw7 zw6 hBw6 dBw6 bBw6 cB1w6 cB0w6 dAw6 bAw6 cA1w6 cA0w6
    rw [Q.isq_none]
    go_wp2_with fail
    refine (awake_any _).mono ?_
    rintro e w8 ⟨rfl, hw8⟩
    have hmw8 : Below w7.heap.size w7 w8 := on_below hw8 (by repeat' (first | (with_reducible exact Below.refl _ _) | (with_reducible assumption) | (with_reducible refine drewN_below ?_ _) | (with_reducible refine Below.drew ?_) | (with_reducible refine Below.alloc ?_ ?_ _) | (with_reducible refine Below.setCell ?_ ?_ _) | (simp; done) | omega | (simp; omega))) (by first | (with_reducible assumption) | (simp; done) | omega | (simp; omega))
    have cA0w8 := (hmw8.cell (p := ⟨w.heap.size, 0, none⟩) bAw7).trans cA0w7
    have cA1w8 := (hmw8.cell (p := ⟨w.heap.size, 1, none⟩) bAw7).trans cA1w7
    have bAw8 : w.heap.size < w8.heap.size := Nat.lt_of_lt_of_le bAw7 hmw8.size
    have dAw8 : w.heap.size < w8.heap.size + 1 := Nat.lt_succ_of_lt bAw8
    have cB0w8 := (hmw8.cell (p := ⟨w.heap.size + 1, 0, none⟩) bBw7).trans cB0w7
    have cB1w8 := (hmw8.cell (p := ⟨w.heap.size + 1, 1, none⟩) bBw7).trans cB1w7
    have bBw8 : w.heap.size + 1 < w8.heap.size := Nat.lt_of_lt_of_le bBw7 hmw8.size
    have dBw8 : w.heap.size + 1 < w8.heap.size + 1 := Nat.lt_succ_of_lt bBw8
    have hBw8 : Below w.heap.size w w8 := Below.trans hBw7 (hmw8.mono hBw7.size)
    have zw8 : w.heap.size ≤ w8.heap.size := hBw8.size
    clear hmw8 hw8 zw7 hBw7 dBw7 bBw7 cB1w7 cB0w7 dAw7 bAw7 cA1w7 cA0w7
    go_wp2
    go_ret
    exact ⟨rfl, (by repeat' (first | (with_reducible exact Below.refl _ _) | (with_reducible assumption) | (with_reducible refine drewN_below ?_ _) | (with_reducible refine Below.drew ?_) | (with_reducible refine Below.alloc ?_ ?_ _) | (with_reducible refine Below.setCell ?_ ?_ _) | (simp; done) | omega | (simp; omega)))⟩

set_option maxRecDepth 100000 in
set_option maxHeartbeats 6400000 in
theorem rounds_yes (an ad bn bd : Int) (h : Q.isq an ad = true) (w : World) :
    Calls Try.prog 8 #[.agg #[.int .i64 an, .int .i64 ad], .agg #[.int .i64 bn, .int .i64 bd]] w fun e w' => e = .returned (.bool true) ∧ Below w.heap.size w w' := by
  obtain ⟨fn, fd, ef⟩ : ∃ x y, Hid (Q.floor (an, ad) = (x, y)) := ⟨_, _, rfl⟩
  obtain ⟨rn, rd, ec⟩ : ∃ x y, Hid (Q.frac (an, ad) = (x, y)) := ⟨_, _, rfl⟩
  obtain ⟨mn, md, em⟩ : ∃ x y, Hid (Q.mod (an, ad) (bn, bd) = (x, y)) := ⟨_, _, rfl⟩
  obtain ⟨un, ud, eu⟩ : ∃ x y, Hid (Q.round (an, ad) = (x, y)) := ⟨_, _, rfl⟩
  obtain ⟨sn, sd, es⟩ : ∃ x y, Hid (Q.sub (un, ud) (an, ad) = (x, y)) := ⟨_, _, rfl⟩
  obtain ⟨tn, td, et⟩ : ∃ x y, Hid (Q.abs (sn, sd) = (x, y)) := ⟨_, _, rfl⟩
  obtain ⟨c0, e0⟩ : ∃ x, Hid (Q.cmp (rn, rd) (0, 1) = x) := ⟨_, rfl⟩
  obtain ⟨c1, e1⟩ : ∃ x, Hid (Q.cmp (rn, rd) (1, 1) = x) := ⟨_, rfl⟩
  obtain ⟨c2, e2⟩ : ∃ x, Hid (Q.cmp (tn, td) (1, 2) = x) := ⟨_, rfl⟩
  obtain ⟨gn, gd, eg⟩ : ∃ x y, Hid (Q.abs (mn, md) = (x, y)) := ⟨_, _, rfl⟩
  obtain ⟨kn, kd, ek⟩ : ∃ x y, Hid (Q.abs (bn, bd) = (x, y)) := ⟨_, _, rfl⟩
  obtain ⟨c3, e3⟩ : ∃ x, Hid (Q.cmp (gn, gd) (kn, kd) = x) := ⟨_, rfl⟩
  have hr : Q.isq rn rd = true := by have := Q.frac_val (a := (an, ad)) h; rw [ec.out] at this; rw [Prod.mk.injEq] at this; rw [this.1.1, this.1.2]; exact this.2
  have hl := Q.frac_law (a := (an, ad)) h
  rw [ef.out, ec.out] at hl
  rw [e0.out, e1.out] at hl
  have ea : Hid (Q.add (fn, fd) (rn, rd) = (an, ad)) := hl.1
  have t0 : decide (c0 < 0) = false := by simp; omega
  have t1 : decide (0 ≤ c1) = false := by simp; omega
  have hro := Q.round_law (a := (an, ad)) h
  rw [eu.out, es.out, et.out, e2.out] at hro
  have t2 : decide (c2 ≤ 0) = true := by simp; exact hro
  have hmo := fun (h1 : Q.isq mn md = true) (h2 : Q.isq bn bd = true) => Q.mod_law (a := (an, ad)) (b := (bn, bd)) (by rw [em.out]; exact h1) h2
  rw [em.out, eg.out, ek.out, e3.out] at hmo
  clear hl hro
  go_enter Try.func8, Try.ntmps8
  go_wp2_with fail
  refine (numbers1 an ad _ _ (by simp [go_sem]) (by simp [go_sem]) (by simp)).mono ?_
  rintro e w1 ⟨rfl, hw1⟩
  have hmw1 : Below w.heap.size w w1 := on_below hw1 (by repeat' (first | (with_reducible exact Below.refl _ _) | (with_reducible assumption) | (with_reducible refine drewN_below ?_ _) | (with_reducible refine Below.drew ?_) | (with_reducible refine Below.alloc ?_ ?_ _) | (with_reducible refine Below.setCell ?_ ?_ _) | (simp; done) | omega | (simp; omega))) (by first | (with_reducible assumption) | (simp; done) | omega | (simp; omega))
  have cA0w1 : w1.cell? ⟨w.heap.size, 0, none⟩ = some (.int .i64 an) := by rw [hw1.cell (p := ⟨w.heap.size, 0, none⟩) (by first | (with_reducible assumption) | (simp; done) | omega | (simp; omega))]; simp [go_sem]
  have cA1w1 : w1.cell? ⟨w.heap.size, 1, none⟩ = some (.int .i64 ad) := by rw [hw1.cell (p := ⟨w.heap.size, 1, none⟩) (by first | (with_reducible assumption) | (simp; done) | omega | (simp; omega))]; simp [go_sem]
  have bAw1 : w.heap.size < w1.heap.size := by have := hw1.size; first | omega | (simp at this; omega)
  have dAw1 : w.heap.size < w1.heap.size + 1 := Nat.lt_succ_of_lt bAw1
  have cB0w1 : w1.cell? ⟨w.heap.size + 1, 0, none⟩ = some (.int .i64 bn) := by rw [hw1.cell (p := ⟨w.heap.size + 1, 0, none⟩) (by first | (with_reducible assumption) | (simp; done) | omega | (simp; omega))]; simp [go_sem]
  have cB1w1 : w1.cell? ⟨w.heap.size + 1, 1, none⟩ = some (.int .i64 bd) := by rw [hw1.cell (p := ⟨w.heap.size + 1, 1, none⟩) (by first | (with_reducible assumption) | (simp; done) | omega | (simp; omega))]; simp [go_sem]
  have bBw1 : w.heap.size + 1 < w1.heap.size := by have := hw1.size; first | omega | (simp at this; omega)
  have dBw1 : w.heap.size + 1 < w1.heap.size + 1 := Nat.lt_succ_of_lt bBw1
  have hBw1 : Below w.heap.size w w1 := hmw1
  have zw1 : w.heap.size ≤ w1.heap.size := hBw1.size
  clear hmw1 hw1
  rw [h]
  go_wp2_with fail
  refine (floor_any _ _ _).mono ?_
  rintro e w2 ⟨rfl, hw2⟩
  have hmw2 : Below w1.heap.size w1 w2 := on_below hw2 (by repeat' (first | (with_reducible exact Below.refl _ _) | (with_reducible assumption) | (with_reducible refine drewN_below ?_ _) | (with_reducible refine Below.drew ?_) | (with_reducible refine Below.alloc ?_ ?_ _) | (with_reducible refine Below.setCell ?_ ?_ _) | (simp; done) | omega | (simp; omega))) (by first | (with_reducible assumption) | (simp; done) | omega | (simp; omega))
  have cA0w2 := (hmw2.cell (p := ⟨w.heap.size, 0, none⟩) bAw1).trans cA0w1
  have cA1w2 := (hmw2.cell (p := ⟨w.heap.size, 1, none⟩) bAw1).trans cA1w1
  have bAw2 : w.heap.size < w2.heap.size := Nat.lt_of_lt_of_le bAw1 hmw2.size
  have dAw2 : w.heap.size < w2.heap.size + 1 := Nat.lt_succ_of_lt bAw2
  have cB0w2 := (hmw2.cell (p := ⟨w.heap.size + 1, 0, none⟩) bBw1).trans cB0w1
  have cB1w2 := (hmw2.cell (p := ⟨w.heap.size + 1, 1, none⟩) bBw1).trans cB1w1
  have bBw2 : w.heap.size + 1 < w2.heap.size := Nat.lt_of_lt_of_le bBw1 hmw2.size
  have dBw2 : w.heap.size + 1 < w2.heap.size + 1 := Nat.lt_succ_of_lt bBw2
  have hBw2 : Below w.heap.size w w2 := Below.trans hBw1 (hmw2.mono hBw1.size)
  have zw2 : w.heap.size ≤ w2.heap.size := hBw2.size
  clear hmw2 hw2 zw1 hBw1 dBw1 bBw1 cB1w1 cB0w1 dAw1 bAw1 cA1w1 cA0w1
  rw [ef.out]
  go_wp2_with fail
  refine (frac_any _ _ _).mono ?_
  rintro e w3 ⟨rfl, hw3⟩
  have hmw3 : Below w2.heap.size w2 w3 := on_below hw3 (by repeat' (first | (with_reducible exact Below.refl _ _) | (with_reducible assumption) | (with_reducible refine drewN_below ?_ _) | (with_reducible refine Below.drew ?_) | (with_reducible refine Below.alloc ?_ ?_ _) | (with_reducible refine Below.setCell ?_ ?_ _) | (simp; done) | omega | (simp; omega))) (by first | (with_reducible assumption) | (simp; done) | omega | (simp; omega))
  have cA0w3 := (hmw3.cell (p := ⟨w.heap.size, 0, none⟩) bAw2).trans cA0w2
  have cA1w3 := (hmw3.cell (p := ⟨w.heap.size, 1, none⟩) bAw2).trans cA1w2
  have bAw3 : w.heap.size < w3.heap.size := Nat.lt_of_lt_of_le bAw2 hmw3.size
  have dAw3 : w.heap.size < w3.heap.size + 1 := Nat.lt_succ_of_lt bAw3
  have cB0w3 := (hmw3.cell (p := ⟨w.heap.size + 1, 0, none⟩) bBw2).trans cB0w2
  have cB1w3 := (hmw3.cell (p := ⟨w.heap.size + 1, 1, none⟩) bBw2).trans cB1w2
  have bBw3 : w.heap.size + 1 < w3.heap.size := Nat.lt_of_lt_of_le bBw2 hmw3.size
  have dBw3 : w.heap.size + 1 < w3.heap.size + 1 := Nat.lt_succ_of_lt bBw3
  have cF0w3 : w3.cell? ⟨w2.heap.size, 0, none⟩ = some (.int .i64 fn) := by rw [hw3.cell (p := ⟨w2.heap.size, 0, none⟩) (by first | (with_reducible assumption) | (simp; done) | omega | (simp; omega))]; simp [go_sem]
  have cF1w3 : w3.cell? ⟨w2.heap.size, 1, none⟩ = some (.int .i64 fd) := by rw [hw3.cell (p := ⟨w2.heap.size, 1, none⟩) (by first | (with_reducible assumption) | (simp; done) | omega | (simp; omega))]; simp [go_sem]
  have bFw3 : w2.heap.size < w3.heap.size := by have := hw3.size; first | omega | (simp at this; omega)
  have dFw3 : w2.heap.size < w3.heap.size + 1 := Nat.lt_succ_of_lt bFw3
  have hBw3 : Below w.heap.size w w3 := Below.trans hBw2 (hmw3.mono hBw2.size)
  have zw3 : w.heap.size ≤ w3.heap.size := hBw3.size
  clear hmw3 hw3 zw2 hBw2 dBw2 bBw2 cB1w2 cB0w2 dAw2 bAw2 cA1w2 cA0w2
  rw [ec.out]
  go_wp2
  have xA : w.heap.size < w3.heap.size + 1 := by omega
  have xB : w.heap.size + 1 < w3.heap.size + 1 := by omega
  have xF : w2.heap.size < w3.heap.size + 1 := by omega
  have xC : w3.heap.size < w3.heap.size + 1 := by omega
  first | (go_region_held3 (fun w' => w'.cell? ⟨w.heap.size, 0, none⟩ = some (.int .i64 an) ∧ w'.cell? ⟨w.heap.size, 1, none⟩ = some (.int .i64 ad) ∧ w'.cell? ⟨w.heap.size + 1, 0, none⟩ = some (.int .i64 bn) ∧ w'.cell? ⟨w.heap.size + 1, 1, none⟩ = some (.int .i64 bd) ∧ w'.cell? ⟨w2.heap.size, 0, none⟩ = some (.int .i64 fn) ∧ w'.cell? ⟨w2.heap.size, 1, none⟩ = some (.int .i64 fd) ∧ w'.cell? ⟨w3.heap.size, 0, none⟩ = some (.int .i64 rn) ∧ w'.cell? ⟨w3.heap.size, 1, none⟩ = some (.int .i64 rd) ∧ w3.heap.size + 1 ≤ w'.heap.size ∧ Below w3.heap.size w3 w') (refine ⟨?_, ?_, ?_, ?_, ?_, ?_, ?_, ?_, ?_, ?_⟩ <;> first | assumption | ((repeat' (first | (with_reducible exact Below.refl _ _) | (with_reducible assumption) | (with_reducible refine drewN_below ?_ _) | (with_reducible refine Below.drew ?_) | (with_reducible refine Below.alloc ?_ ?_ _) | (with_reducible refine Below.setCell ?_ ?_ _) | (simp; done) | omega | (simp; omega))); done) | (simp [*]; done) | (simp [go_sem, *]; done) | (simp; omega)) (first | (go_at_call 50; refine (numbers1 rn rd _ _ (by simp [go_sem]) (by simp [go_sem]) (by simp)).mono ?_; rintro e wr ⟨rfl, hbr⟩; obtain ⟨hcr, hfr, hzr, hBr⟩ := after (a := w3) (B := w3.heap.size) (w3.heap.size + 1) hbr (by first | (with_reducible assumption) | (simp; done) | omega | (simp; omega)) (by repeat' (first | (with_reducible exact Below.refl _ _) | (with_reducible assumption) | (with_reducible refine drewN_below ?_ _) | (with_reducible refine Below.drew ?_) | (with_reducible refine Below.alloc ?_ ?_ _) | (with_reducible refine Below.setCell ?_ ?_ _) | (simp; done) | omega | (simp; omega))) (by omega); (rw [hr])) | (go_at_call 15; refine (add_any _ _ _ _ _).mono ?_; rintro e wr ⟨rfl, hbr⟩; obtain ⟨hcr, hfr, hzr, hBr⟩ := after (a := w3) (B := w3.heap.size) (w3.heap.size + 1) hbr (by first | (with_reducible assumption) | (simp; done) | omega | (simp; omega)) (by repeat' (first | (with_reducible exact Below.refl _ _) | (with_reducible assumption) | (with_reducible refine drewN_below ?_ _) | (with_reducible refine Below.drew ?_) | (with_reducible refine Below.alloc ?_ ?_ _) | (with_reducible refine Below.setCell ?_ ?_ _) | (simp; done) | omega | (simp; omega))) (by omega); (rw [ea.out])) | (go_at_call 13; refine (cmp_any _ _ _ _ _).mono ?_; rintro e wr ⟨rfl, hbr⟩; obtain ⟨hcr, hfr, hzr, hBr⟩ := after (a := w3) (B := w3.heap.size) (w3.heap.size + 1) hbr (by first | (with_reducible assumption) | (simp; done) | omega | (simp; omega)) (by repeat' (first | (with_reducible exact Below.refl _ _) | (with_reducible assumption) | (with_reducible refine drewN_below ?_ _) | (with_reducible refine Below.drew ?_) | (with_reducible refine Below.alloc ?_ ?_ _) | (with_reducible refine Below.setCell ?_ ?_ _) | (simp; done) | omega | (simp; omega))) (by omega); (first | rw [e0.out] | rw [e1.out])))) | fail
  obtain ⟨s0, s1, s2, s3, s4, s5, s6, s7, s8, s9⟩ := (by assumption : wr.cell? ⟨w.heap.size, 0, none⟩ = some (.int .i64 an) ∧ wr.cell? ⟨w.heap.size, 1, none⟩ = some (.int .i64 ad) ∧ wr.cell? ⟨w.heap.size + 1, 0, none⟩ = some (.int .i64 bn) ∧ wr.cell? ⟨w.heap.size + 1, 1, none⟩ = some (.int .i64 bd) ∧ wr.cell? ⟨w2.heap.size, 0, none⟩ = some (.int .i64 fn) ∧ wr.cell? ⟨w2.heap.size, 1, none⟩ = some (.int .i64 fd) ∧ wr.cell? ⟨w3.heap.size, 0, none⟩ = some (.int .i64 rn) ∧ wr.cell? ⟨w3.heap.size, 1, none⟩ = some (.int .i64 rd) ∧ w3.heap.size + 1 ≤ wr.heap.size ∧ Below w3.heap.size w3 wr)
  have cA0w4 := s0
  have cA1w4 := s1
  have cB0w4 := s2
  have cB1w4 := s3
  have cF0w4 := s4
  have cF1w4 := s5
  have cC0w4 := s6
  have cC1w4 := s7
  have bAw4 : w.heap.size < wr.heap.size := Nat.lt_of_lt_of_le xA s8
  have dAw4 : w.heap.size < wr.heap.size + 1 := Nat.lt_succ_of_lt bAw4
  have bBw4 : w.heap.size + 1 < wr.heap.size := Nat.lt_of_lt_of_le xB s8
  have dBw4 : w.heap.size + 1 < wr.heap.size + 1 := Nat.lt_succ_of_lt bBw4
  have bFw4 : w2.heap.size < wr.heap.size := Nat.lt_of_lt_of_le xF s8
  have dFw4 : w2.heap.size < wr.heap.size + 1 := Nat.lt_succ_of_lt bFw4
  have bCw4 : w3.heap.size < wr.heap.size := Nat.lt_of_lt_of_le xC s8
  have dCw4 : w3.heap.size < wr.heap.size + 1 := Nat.lt_succ_of_lt bCw4
  have hBw4 : Below w.heap.size w wr := Below.trans hBw3 (s9.mono hBw3.size)
  have zw4 : w.heap.size ≤ wr.heap.size := hBw4.size
  clear s0 s1 s2 s3 s4 s5 s6 s7 s8 s9 xA xB xF xC hcr hfr hzr hBr hbr zw3 hBw3 dFw3 bFw3 cF1w3 cF0w3 dBw3 bBw3 cB1w3 cB0w3 dAw3 bAw3 cA1w3 cA0w3
  repeat (clear hcr hfr hzr hBr hbr)
  skip
  obtain ⟨w4, ew4⟩ : ∃ x, x = wr := ⟨_, rfl⟩
  subst ew4
  go_wp2_with fail
  refine (mod_any _ _ _ _ _).mono ?_
  rintro e w5 ⟨rfl, hw5⟩
  have hmw5 : Below w4.heap.size w4 w5 := on_below hw5 (by repeat' (first | (with_reducible exact Below.refl _ _) | (with_reducible assumption) | (with_reducible refine drewN_below ?_ _) | (with_reducible refine Below.drew ?_) | (with_reducible refine Below.alloc ?_ ?_ _) | (with_reducible refine Below.setCell ?_ ?_ _) | (simp; done) | omega | (simp; omega))) (by first | (with_reducible assumption) | (simp; done) | omega | (simp; omega))
  have cA0w5 := (hmw5.cell (p := ⟨w.heap.size, 0, none⟩) bAw4).trans cA0w4
  have cA1w5 := (hmw5.cell (p := ⟨w.heap.size, 1, none⟩) bAw4).trans cA1w4
  have bAw5 : w.heap.size < w5.heap.size := Nat.lt_of_lt_of_le bAw4 hmw5.size
  have dAw5 : w.heap.size < w5.heap.size + 1 := Nat.lt_succ_of_lt bAw5
  have cB0w5 := (hmw5.cell (p := ⟨w.heap.size + 1, 0, none⟩) bBw4).trans cB0w4
  have cB1w5 := (hmw5.cell (p := ⟨w.heap.size + 1, 1, none⟩) bBw4).trans cB1w4
  have bBw5 : w.heap.size + 1 < w5.heap.size := Nat.lt_of_lt_of_le bBw4 hmw5.size
  have dBw5 : w.heap.size + 1 < w5.heap.size + 1 := Nat.lt_succ_of_lt bBw5
  have cF0w5 := (hmw5.cell (p := ⟨w2.heap.size, 0, none⟩) bFw4).trans cF0w4
  have cF1w5 := (hmw5.cell (p := ⟨w2.heap.size, 1, none⟩) bFw4).trans cF1w4
  have bFw5 : w2.heap.size < w5.heap.size := Nat.lt_of_lt_of_le bFw4 hmw5.size
  have dFw5 : w2.heap.size < w5.heap.size + 1 := Nat.lt_succ_of_lt bFw5
  have cC0w5 := (hmw5.cell (p := ⟨w3.heap.size, 0, none⟩) bCw4).trans cC0w4
  have cC1w5 := (hmw5.cell (p := ⟨w3.heap.size, 1, none⟩) bCw4).trans cC1w4
  have bCw5 : w3.heap.size < w5.heap.size := Nat.lt_of_lt_of_le bCw4 hmw5.size
  have dCw5 : w3.heap.size < w5.heap.size + 1 := Nat.lt_succ_of_lt bCw5
  have hBw5 : Below w.heap.size w w5 := Below.trans hBw4 (hmw5.mono hBw4.size)
  have zw5 : w.heap.size ≤ w5.heap.size := hBw5.size
  clear hmw5 hw5 zw4 hBw4 dCw4 bCw4 dFw4 bFw4 dBw4 bBw4 dAw4 bAw4 cC1w4 cC0w4 cF1w4 cF0w4 cB1w4 cB0w4 cA1w4 cA0w4
  rw [em.out]
  go_wp2
  cases hq : (Q.isq mn md && Q.isq bn bd)
  · clear hmo
    have xA : w.heap.size < w5.heap.size + 1 := by omega
    have xB : w.heap.size + 1 < w5.heap.size + 1 := by omega
    have xF : w2.heap.size < w5.heap.size + 1 := by omega
    have xC : w3.heap.size < w5.heap.size + 1 := by omega
    have xM : w5.heap.size < w5.heap.size + 1 := by omega
    refine wp_region_held_drew (S := (fun w' => w'.cell? ⟨w.heap.size, 0, none⟩ = some (.int .i64 an) ∧ w'.cell? ⟨w.heap.size, 1, none⟩ = some (.int .i64 ad) ∧ w'.cell? ⟨w.heap.size + 1, 0, none⟩ = some (.int .i64 bn) ∧ w'.cell? ⟨w.heap.size + 1, 1, none⟩ = some (.int .i64 bd) ∧ w'.cell? ⟨w2.heap.size, 0, none⟩ = some (.int .i64 fn) ∧ w'.cell? ⟨w2.heap.size, 1, none⟩ = some (.int .i64 fd) ∧ w'.cell? ⟨w3.heap.size, 0, none⟩ = some (.int .i64 rn) ∧ w'.cell? ⟨w3.heap.size, 1, none⟩ = some (.int .i64 rd) ∧ w'.cell? ⟨w5.heap.size, 0, none⟩ = some (.int .i64 mn) ∧ w'.cell? ⟨w5.heap.size, 1, none⟩ = some (.int .i64 md) ∧ w5.heap.size + 1 ≤ w'.heap.size ∧ Below w5.heap.size w5 w')) (by kernel_rfl) ?_ ?_
    · (refine ⟨?_, ?_, ?_, ?_, ?_, ?_, ?_, ?_, ?_, ?_, ?_, ?_⟩ <;> first | assumption | ((repeat' (first | (with_reducible exact Below.refl _ _) | (with_reducible assumption) | (with_reducible refine drewN_below ?_ _) | (with_reducible refine Below.drew ?_) | (with_reducible refine Below.alloc ?_ ?_ _) | (with_reducible refine Below.setCell ?_ ?_ _) | (simp; done) | omega | (simp; omega))); done) | (simp [*]; done) | (simp [go_sem, *]; done) | (simp; omega))
    intro hH0
    refine wpAnyH_take (i := 0) (v := ?_) rfl (by kernel_rfl) (by kernel_rfl) (by kernel_rfl) (fun _ _ _ h => h) (Or.inl ⟨by rfl, ?_⟩) (by assumption) ?_
    rotate_left
    focus (intro wq hSq; (try dsimp only at hSq); go_simp; first | done | (with_reducible rfl))
    (try simp only [Act.put, List.getElem_toArray, List.getElem_cons_zero, List.setIfInBounds_toArray, List.set_cons_zero, List.set_cons_succ])
    refine wpAnyH_take (i := 1) (v := ?_) rfl (by kernel_rfl) (by kernel_rfl) (by kernel_rfl) (fun _ _ _ h => h) (Or.inl ⟨by rfl, ?_⟩) (by assumption) ?_
    rotate_left
    focus (intro wq hSq; (try dsimp only at hSq); go_simp; first | done | (with_reducible rfl))
    (try simp only [Act.put, List.getElem_toArray, List.getElem_cons_succ, List.getElem_cons_zero, List.setIfInBounds_toArray, List.set_cons_zero, List.set_cons_succ])
    refine wpAnyH_ready (rs := [2]) (by kernel_rfl) (by simp) ?_
    refine AllReadyH.cons rfl (fun K hK => ?_) AllReadyH.nil
    rw [if_pos (by rfl)]
    go_simp
    refine hK.out _ _ ?_ (fun hHeld => ?_)
    · (refine ⟨?_, ?_, ?_, ?_, ?_, ?_, ?_, ?_, ?_, ?_, ?_, ?_⟩ <;> first | assumption | ((repeat' (first | (with_reducible exact Below.refl _ _) | (with_reducible assumption) | (with_reducible refine drewN_below ?_ _) | (with_reducible refine Below.drew ?_) | (with_reducible refine Below.alloc ?_ ?_ _) | (with_reducible refine Below.setCell ?_ ?_ _) | (simp; done) | omega | (simp; omega))); done) | (simp [*]; done) | (simp [go_sem, *]; done) | (simp; omega))
    clear hK K
    (try simp only [Act.put, List.getElem_toArray, List.getElem_cons_succ, List.getElem_cons_zero, List.setIfInBounds_toArray, List.set_cons_zero, List.set_cons_succ])
    refine wpAnyH_ready (rs := [3]) (by kernel_rfl) (by simp) ?_
    refine AllReadyH.cons rfl (fun K hK => ?_) AllReadyH.nil
    rw [if_pos (by rfl)]
    go_simp
    refine (numbers2 mn md bn bd _ _ (by simp [go_sem]) (by simp [go_sem]) (by simp [go_sem]) (by simp [go_sem]) (by simp)).mono ?_
    rintro e wr ⟨rfl, hbr⟩
    obtain ⟨hcr, hfr, hzr, hBr⟩ := after (a := w5) (B := w5.heap.size) (w5.heap.size + 1) hbr (by first | (with_reducible assumption) | (simp; done) | omega | (simp; omega)) (by repeat' (first | (with_reducible exact Below.refl _ _) | (with_reducible assumption) | (with_reducible refine drewN_below ?_ _) | (with_reducible refine Below.drew ?_) | (with_reducible refine Below.alloc ?_ ?_ _) | (with_reducible refine Below.setCell ?_ ?_ _) | (simp; done) | omega | (simp; omega))) (by omega)
    have yA := Nat.lt_of_lt_of_le xA hzr
    have yB := Nat.lt_of_lt_of_le xB hzr
    have yF := Nat.lt_of_lt_of_le xF hzr
    have yC := Nat.lt_of_lt_of_le xC hzr
    have yM := Nat.lt_of_lt_of_le xM hzr
    rw [hq]
    dsimp only
    refine hK.out _ _ ?_ (fun hHeld => ?_)
    · (refine ⟨?_, ?_, ?_, ?_, ?_, ?_, ?_, ?_, ?_, ?_, ?_, ?_⟩ <;> first | assumption | ((repeat' (first | (with_reducible exact Below.refl _ _) | (with_reducible assumption) | (with_reducible refine drewN_below ?_ _) | (with_reducible refine Below.drew ?_) | (with_reducible refine Below.alloc ?_ ?_ _) | (with_reducible refine Below.setCell ?_ ?_ _) | (simp; done) | omega | (simp; omega))); done) | (simp [*]; done) | (simp [go_sem, *]; done) | (simp; omega))
    clear hK K
    (try simp only [Act.put, List.getElem_toArray, List.getElem_cons_succ, List.getElem_cons_zero, List.setIfInBounds_toArray, List.set_cons_zero, List.set_cons_succ])
    refine wpAnyH_take (i := 4) (v := ?_) rfl (by kernel_rfl) (by kernel_rfl) (by kernel_rfl) (fun _ _ _ h => h) (Or.inl ⟨by rfl, ?_⟩) (by assumption) ?_
    rotate_left
    focus (intro wq hSq; (try dsimp only at hSq); go_simp; first | done | (with_reducible rfl))
    (try simp only [Act.put, List.getElem_toArray, List.getElem_cons_succ, List.getElem_cons_zero, List.setIfInBounds_toArray, List.set_cons_zero, List.set_cons_succ])
    refine wpAnyH_take (i := 5) (v := undef) rfl (by kernel_rfl) (by kernel_rfl) (by kernel_rfl) (fun _ _ _ h => h) (Or.inr ⟨by rfl, rfl⟩) (by assumption) ?_
    (try simp only [Act.put, List.getElem_toArray, List.getElem_cons_succ, List.getElem_cons_zero, List.setIfInBounds_toArray, List.set_cons_zero, List.set_cons_succ])
    refine wpAnyH_take (i := 6) (v := undef) rfl (by kernel_rfl) (by kernel_rfl) (by kernel_rfl) (fun _ _ _ h => h) (Or.inr ⟨by rfl, rfl⟩) (by assumption) ?_
    (try simp only [Act.put, List.getElem_toArray, List.getElem_cons_succ, List.getElem_cons_zero, List.setIfInBounds_toArray, List.set_cons_zero, List.set_cons_succ])
    refine wpAnyH_take (i := 7) (v := undef) rfl (by kernel_rfl) (by kernel_rfl) (by kernel_rfl) (fun _ _ _ h => h) (Or.inr ⟨by rfl, rfl⟩) (by assumption) ?_
    (try simp only [Act.put, List.getElem_toArray, List.getElem_cons_succ, List.getElem_cons_zero, List.setIfInBounds_toArray, List.set_cons_zero, List.set_cons_succ])
    refine wpAnyH_take (i := 8) (v := undef) rfl (by kernel_rfl) (by kernel_rfl) (by kernel_rfl) (fun _ _ _ h => h) (Or.inr ⟨by rfl, rfl⟩) (by assumption) ?_
    (try simp only [Act.put, List.getElem_toArray, List.getElem_cons_succ, List.getElem_cons_zero, List.setIfInBounds_toArray, List.set_cons_zero, List.set_cons_succ])
    refine wpAnyH_take (i := 9) (v := undef) rfl (by kernel_rfl) (by kernel_rfl) (by kernel_rfl) (fun _ _ _ h => h) (Or.inr ⟨by rfl, rfl⟩) (by assumption) ?_
    (try simp only [Act.put, List.getElem_toArray, List.getElem_cons_succ, List.getElem_cons_zero, List.setIfInBounds_toArray, List.set_cons_zero, List.set_cons_succ])
    refine wpAnyH_take (i := 10) (v := undef) rfl (by kernel_rfl) (by kernel_rfl) (by kernel_rfl) (fun _ _ _ h => h) (Or.inr ⟨by rfl, rfl⟩) (by assumption) ?_
    (try simp only [Act.put, List.getElem_toArray, List.getElem_cons_succ, List.getElem_cons_zero, List.setIfInBounds_toArray, List.set_cons_zero, List.set_cons_succ])
    refine wpAnyH_take (i := 11) (v := undef) rfl (by kernel_rfl) (by kernel_rfl) (by kernel_rfl) (fun _ _ _ h => h) (Or.inr ⟨by rfl, rfl⟩) (by assumption) ?_
    (try simp only [Act.put, List.getElem_toArray, List.getElem_cons_succ, List.getElem_cons_zero, List.setIfInBounds_toArray, List.set_cons_zero, List.set_cons_succ])
    refine wpAnyH_take (i := 12) (v := undef) rfl (by kernel_rfl) (by kernel_rfl) (by kernel_rfl) (fun _ _ _ h => h) (Or.inr ⟨by rfl, rfl⟩) (by assumption) ?_
    (try simp only [Act.put, List.getElem_toArray, List.getElem_cons_succ, List.getElem_cons_zero, List.setIfInBounds_toArray, List.set_cons_zero, List.set_cons_succ])
    refine wpAnyH_take (i := 13) (v := undef) rfl (by kernel_rfl) (by kernel_rfl) (by kernel_rfl) (fun _ _ _ h => h) (Or.inr ⟨by rfl, rfl⟩) (by assumption) ?_
    (try simp only [Act.put, List.getElem_toArray, List.getElem_cons_succ, List.getElem_cons_zero, List.setIfInBounds_toArray, List.set_cons_zero, List.set_cons_succ])
    refine wpAnyH_take (i := 14) (v := undef) rfl (by kernel_rfl) (by kernel_rfl) (by kernel_rfl) (fun _ _ _ h => h) (Or.inr ⟨by rfl, rfl⟩) (by assumption) ?_
    (try simp only [Act.put, List.getElem_toArray, List.getElem_cons_succ, List.getElem_cons_zero, List.setIfInBounds_toArray, List.set_cons_zero, List.set_cons_succ])
    refine wpAnyH_take (i := 15) (v := undef) rfl (by kernel_rfl) (by kernel_rfl) (by kernel_rfl) (fun _ _ _ h => h) (Or.inr ⟨by rfl, rfl⟩) (by assumption) ?_
    (try simp only [Act.put, List.getElem_toArray, List.getElem_cons_succ, List.getElem_cons_zero, List.setIfInBounds_toArray, List.set_cons_zero, List.set_cons_succ])
    refine wpAnyH_take (i := 16) (v := undef) rfl (by kernel_rfl) (by kernel_rfl) (by kernel_rfl) (fun _ _ _ h => h) (Or.inr ⟨by rfl, rfl⟩) (by assumption) ?_
    (try simp only [Act.put, List.getElem_toArray, List.getElem_cons_succ, List.getElem_cons_zero, List.setIfInBounds_toArray, List.set_cons_zero, List.set_cons_succ])
    refine wpAnyH_take (i := 17) (v := undef) rfl (by kernel_rfl) (by kernel_rfl) (by kernel_rfl) (fun _ _ _ h => h) (Or.inr ⟨by rfl, rfl⟩) (by assumption) ?_
    (try simp only [Act.put, List.getElem_toArray, List.getElem_cons_succ, List.getElem_cons_zero, List.setIfInBounds_toArray, List.set_cons_zero, List.set_cons_succ])
    refine wpAnyH_take (i := 18) (v := undef) rfl (by kernel_rfl) (by kernel_rfl) (by kernel_rfl) (fun _ _ _ h => h) (Or.inr ⟨by rfl, rfl⟩) (by assumption) ?_
    (try simp only [Act.put, List.getElem_toArray, List.getElem_cons_succ, List.getElem_cons_zero, List.setIfInBounds_toArray, List.set_cons_zero, List.set_cons_succ])
    refine wpAnyH_take (i := 19) (v := undef) rfl (by kernel_rfl) (by kernel_rfl) (by kernel_rfl) (fun _ _ _ h => h) (Or.inr ⟨by rfl, rfl⟩) (by assumption) ?_
    (try simp only [Act.put, List.getElem_toArray, List.getElem_cons_succ, List.getElem_cons_zero, List.setIfInBounds_toArray, List.set_cons_zero, List.set_cons_succ])
    refine wpAnyH_take (i := 20) (v := undef) rfl (by kernel_rfl) (by kernel_rfl) (by kernel_rfl) (fun _ _ _ h => h) (Or.inr ⟨by rfl, rfl⟩) (by assumption) ?_
    (try simp only [Act.put, List.getElem_toArray, List.getElem_cons_succ, List.getElem_cons_zero, List.setIfInBounds_toArray, List.set_cons_zero, List.set_cons_succ])
    refine wpAnyH_take (i := 21) (v := undef) rfl (by kernel_rfl) (by kernel_rfl) (by kernel_rfl) (fun _ _ _ h => h) (Or.inr ⟨by rfl, rfl⟩) (by assumption) ?_
    (try simp only [Act.put, List.getElem_toArray, List.getElem_cons_succ, List.getElem_cons_zero, List.setIfInBounds_toArray, List.set_cons_zero, List.set_cons_succ])
    refine wpAnyH_take (i := 22) (v := undef) rfl (by kernel_rfl) (by kernel_rfl) (by kernel_rfl) (fun _ _ _ h => h) (Or.inr ⟨by rfl, rfl⟩) (by assumption) ?_
    (try simp only [Act.put, List.getElem_toArray, List.getElem_cons_succ, List.getElem_cons_zero, List.setIfInBounds_toArray, List.set_cons_zero, List.set_cons_succ])
    refine wpAnyH_take (i := 23) (v := undef) rfl (by kernel_rfl) (by kernel_rfl) (by kernel_rfl) (fun _ _ _ h => h) (Or.inr ⟨by rfl, rfl⟩) (by assumption) ?_
    (try simp only [Act.put, List.getElem_toArray, List.getElem_cons_succ, List.getElem_cons_zero, List.setIfInBounds_toArray, List.set_cons_zero, List.set_cons_succ])
    refine wpAnyH_take (i := 24) (v := undef) rfl (by kernel_rfl) (by kernel_rfl) (by kernel_rfl) (fun _ _ _ h => h) (Or.inr ⟨by rfl, rfl⟩) (by assumption) ?_
    (try simp only [Act.put, List.getElem_toArray, List.getElem_cons_succ, List.getElem_cons_zero, List.setIfInBounds_toArray, List.set_cons_zero, List.set_cons_succ])
    refine wpAnyH_take (i := 26) (v := undef) rfl (by kernel_rfl) (by kernel_rfl) (by kernel_rfl) (fun _ _ _ h => h) (Or.inr ⟨by rfl, rfl⟩) (by assumption) ?_
    (try simp only [Act.put, List.getElem_toArray, List.getElem_cons_succ, List.getElem_cons_zero, List.setIfInBounds_toArray, List.set_cons_zero, List.set_cons_succ])
    refine wpAnyH_take (i := 25) (v := undef) rfl (by kernel_rfl) (by kernel_rfl) (by kernel_rfl) (fun _ _ _ h => h) (Or.inr ⟨by rfl, rfl⟩) (by assumption) ?_
    (try simp only [Act.put, List.getElem_toArray, List.getElem_cons_succ, List.getElem_cons_zero, List.setIfInBounds_toArray, List.set_cons_zero, List.set_cons_succ])
    refine wpAnyH_take (i := 27) (v := undef) rfl (by kernel_rfl) (by kernel_rfl) (by kernel_rfl) (fun _ _ _ h => h) (Or.inr ⟨by rfl, rfl⟩) (by assumption) ?_
    (try simp only [Act.put, List.getElem_toArray, List.getElem_cons_succ, List.getElem_cons_zero, List.setIfInBounds_toArray, List.set_cons_zero, List.set_cons_succ])
    refine wpAnyH_take (i := 28) (v := undef) rfl (by kernel_rfl) (by kernel_rfl) (by kernel_rfl) (fun _ _ _ h => h) (Or.inr ⟨by rfl, rfl⟩) (by assumption) ?_
    (try simp only [Act.put, List.getElem_toArray, List.getElem_cons_succ, List.getElem_cons_zero, List.setIfInBounds_toArray, List.set_cons_zero, List.set_cons_succ])
    refine wpAnyH_take (i := 29) (v := undef) rfl (by kernel_rfl) (by kernel_rfl) (by kernel_rfl) (fun _ _ _ h => h) (Or.inr ⟨by rfl, rfl⟩) (by assumption) ?_
    (try simp only [Act.put, List.getElem_toArray, List.getElem_cons_succ, List.getElem_cons_zero, List.setIfInBounds_toArray, List.set_cons_zero, List.set_cons_succ])
    refine wpAnyH_take (i := 30) (v := undef) rfl (by kernel_rfl) (by kernel_rfl) (by kernel_rfl) (fun _ _ _ h => h) (Or.inr ⟨by rfl, rfl⟩) (by assumption) ?_
    (try simp only [Act.put, List.getElem_toArray, List.getElem_cons_succ, List.getElem_cons_zero, List.setIfInBounds_toArray, List.set_cons_zero, List.set_cons_succ])
    refine wpAnyH_take (i := 31) (v := ?_) rfl (by kernel_rfl) (by kernel_rfl) (by kernel_rfl) (fun _ _ _ h => h) (Or.inl ⟨by rfl, ?_⟩) (by assumption) ?_
    rotate_left
    focus (intro wq hSq; (try dsimp only at hSq); go_simp; first | done | (with_reducible rfl))
    (try simp only [Act.put, List.getElem_toArray, List.getElem_cons_succ, List.getElem_cons_zero, List.setIfInBounds_toArray, List.set_cons_zero, List.set_cons_succ])
    refine wpAnyH_done (by kernel_rfl) ?_ _
    obtain ⟨s0, s1, s2, s3, s4, s5, s6, s7, s8, s9, s10, s11⟩ := (by assumption : wr.cell? ⟨w.heap.size, 0, none⟩ = some (.int .i64 an) ∧ wr.cell? ⟨w.heap.size, 1, none⟩ = some (.int .i64 ad) ∧ wr.cell? ⟨w.heap.size + 1, 0, none⟩ = some (.int .i64 bn) ∧ wr.cell? ⟨w.heap.size + 1, 1, none⟩ = some (.int .i64 bd) ∧ wr.cell? ⟨w2.heap.size, 0, none⟩ = some (.int .i64 fn) ∧ wr.cell? ⟨w2.heap.size, 1, none⟩ = some (.int .i64 fd) ∧ wr.cell? ⟨w3.heap.size, 0, none⟩ = some (.int .i64 rn) ∧ wr.cell? ⟨w3.heap.size, 1, none⟩ = some (.int .i64 rd) ∧ wr.cell? ⟨w5.heap.size, 0, none⟩ = some (.int .i64 mn) ∧ wr.cell? ⟨w5.heap.size, 1, none⟩ = some (.int .i64 md) ∧ w5.heap.size + 1 ≤ wr.heap.size ∧ Below w5.heap.size w5 wr)
    have cA0w6 := s0
    have cA1w6 := s1
    have cB0w6 := s2
    have cB1w6 := s3
    have cF0w6 := s4
    have cF1w6 := s5
    have cC0w6 := s6
    have cC1w6 := s7
    have cM0w6 := s8
    have cM1w6 := s9
    have bAw6 : w.heap.size < wr.heap.size := Nat.lt_of_lt_of_le xA s10
    have dAw6 : w.heap.size < wr.heap.size + 1 := Nat.lt_succ_of_lt bAw6
    have bBw6 : w.heap.size + 1 < wr.heap.size := Nat.lt_of_lt_of_le xB s10
    have dBw6 : w.heap.size + 1 < wr.heap.size + 1 := Nat.lt_succ_of_lt bBw6
    have bFw6 : w2.heap.size < wr.heap.size := Nat.lt_of_lt_of_le xF s10
    have dFw6 : w2.heap.size < wr.heap.size + 1 := Nat.lt_succ_of_lt bFw6
    have bCw6 : w3.heap.size < wr.heap.size := Nat.lt_of_lt_of_le xC s10
    have dCw6 : w3.heap.size < wr.heap.size + 1 := Nat.lt_succ_of_lt bCw6
    have bMw6 : w5.heap.size < wr.heap.size := Nat.lt_of_lt_of_le xM s10
    have dMw6 : w5.heap.size < wr.heap.size + 1 := Nat.lt_succ_of_lt bMw6
    have hBw6 : Below w.heap.size w wr := Below.trans hBw5 (s11.mono hBw5.size)
    have zw6 : w.heap.size ≤ wr.heap.size := hBw6.size
    clear s0 s1 s2 s3 s4 s5 s6 s7 s8 s9 s10 s11 xA xB xF xC xM hcr hfr hzr hBr hbr zw5 hBw5 dCw5 bCw5 cC1w5 cC0w5 dFw5 bFw5 cF1w5 cF0w5 dBw5 bBw5 cB1w5 cB0w5 dAw5 bAw5 cA1w5 cA0w5
    repeat (clear hcr hfr hzr hBr hbr)
    skip
    obtain ⟨w6, ew6⟩ : ∃ x, x = wr := ⟨_, rfl⟩
    subst ew6
    go_wp2_with fail
    refine (round_any _ _ _).mono ?_
    rintro e w7 ⟨rfl, hw7⟩
    have hmw7 : Below w6.heap.size w6 w7 := on_below hw7 (by repeat' (first | (with_reducible exact Below.refl _ _) | (with_reducible assumption) | (with_reducible refine drewN_below ?_ _) | (with_reducible refine Below.drew ?_) | (with_reducible refine Below.alloc ?_ ?_ _) | (with_reducible refine Below.setCell ?_ ?_ _) | (simp; done) | omega | (simp; omega))) (by first | (with_reducible assumption) | (simp; done) | omega | (simp; omega))
    have cA0w7 := (hmw7.cell (p := ⟨w.heap.size, 0, none⟩) bAw6).trans cA0w6
    have cA1w7 := (hmw7.cell (p := ⟨w.heap.size, 1, none⟩) bAw6).trans cA1w6
    have bAw7 : w.heap.size < w7.heap.size := Nat.lt_of_lt_of_le bAw6 hmw7.size
    have dAw7 : w.heap.size < w7.heap.size + 1 := Nat.lt_succ_of_lt bAw7
    have cB0w7 := (hmw7.cell (p := ⟨w.heap.size + 1, 0, none⟩) bBw6).trans cB0w6
    have cB1w7 := (hmw7.cell (p := ⟨w.heap.size + 1, 1, none⟩) bBw6).trans cB1w6
    have bBw7 : w.heap.size + 1 < w7.heap.size := Nat.lt_of_lt_of_le bBw6 hmw7.size
    have dBw7 : w.heap.size + 1 < w7.heap.size + 1 := Nat.lt_succ_of_lt bBw7
    have cF0w7 := (hmw7.cell (p := ⟨w2.heap.size, 0, none⟩) bFw6).trans cF0w6
    have cF1w7 := (hmw7.cell (p := ⟨w2.heap.size, 1, none⟩) bFw6).trans cF1w6
    have bFw7 : w2.heap.size < w7.heap.size := Nat.lt_of_lt_of_le bFw6 hmw7.size
    have dFw7 : w2.heap.size < w7.heap.size + 1 := Nat.lt_succ_of_lt bFw7
    have cC0w7 := (hmw7.cell (p := ⟨w3.heap.size, 0, none⟩) bCw6).trans cC0w6
    have cC1w7 := (hmw7.cell (p := ⟨w3.heap.size, 1, none⟩) bCw6).trans cC1w6
    have bCw7 : w3.heap.size < w7.heap.size := Nat.lt_of_lt_of_le bCw6 hmw7.size
    have dCw7 : w3.heap.size < w7.heap.size + 1 := Nat.lt_succ_of_lt bCw7
    have cM0w7 := (hmw7.cell (p := ⟨w5.heap.size, 0, none⟩) bMw6).trans cM0w6
    have cM1w7 := (hmw7.cell (p := ⟨w5.heap.size, 1, none⟩) bMw6).trans cM1w6
    have bMw7 : w5.heap.size < w7.heap.size := Nat.lt_of_lt_of_le bMw6 hmw7.size
    have dMw7 : w5.heap.size < w7.heap.size + 1 := Nat.lt_succ_of_lt bMw7
    have hBw7 : Below w.heap.size w w7 := Below.trans hBw6 (hmw7.mono hBw6.size)
    have zw7 : w.heap.size ≤ w7.heap.size := hBw7.size
    clear hmw7 hw7 zw6 hBw6 dMw6 bMw6 dCw6 bCw6 dFw6 bFw6 dBw6 bBw6 dAw6 bAw6 cM1w6 cM0w6 cC1w6 cC0w6 cF1w6 cF0w6 cB1w6 cB0w6 cA1w6 cA0w6
    rw [eu.out]
    go_wp2_with fail
    refine (sub_any _ _ _ _ _).mono ?_
    rintro e w8 ⟨rfl, hw8⟩
    have hmw8 : Below w7.heap.size w7 w8 := on_below hw8 (by repeat' (first | (with_reducible exact Below.refl _ _) | (with_reducible assumption) | (with_reducible refine drewN_below ?_ _) | (with_reducible refine Below.drew ?_) | (with_reducible refine Below.alloc ?_ ?_ _) | (with_reducible refine Below.setCell ?_ ?_ _) | (simp; done) | omega | (simp; omega))) (by first | (with_reducible assumption) | (simp; done) | omega | (simp; omega))
    have cA0w8 := (hmw8.cell (p := ⟨w.heap.size, 0, none⟩) bAw7).trans cA0w7
    have cA1w8 := (hmw8.cell (p := ⟨w.heap.size, 1, none⟩) bAw7).trans cA1w7
    have bAw8 : w.heap.size < w8.heap.size := Nat.lt_of_lt_of_le bAw7 hmw8.size
    have dAw8 : w.heap.size < w8.heap.size + 1 := Nat.lt_succ_of_lt bAw8
    have cB0w8 := (hmw8.cell (p := ⟨w.heap.size + 1, 0, none⟩) bBw7).trans cB0w7
    have cB1w8 := (hmw8.cell (p := ⟨w.heap.size + 1, 1, none⟩) bBw7).trans cB1w7
    have bBw8 : w.heap.size + 1 < w8.heap.size := Nat.lt_of_lt_of_le bBw7 hmw8.size
    have dBw8 : w.heap.size + 1 < w8.heap.size + 1 := Nat.lt_succ_of_lt bBw8
    have cF0w8 := (hmw8.cell (p := ⟨w2.heap.size, 0, none⟩) bFw7).trans cF0w7
    have cF1w8 := (hmw8.cell (p := ⟨w2.heap.size, 1, none⟩) bFw7).trans cF1w7
    have bFw8 : w2.heap.size < w8.heap.size := Nat.lt_of_lt_of_le bFw7 hmw8.size
    have dFw8 : w2.heap.size < w8.heap.size + 1 := Nat.lt_succ_of_lt bFw8
    have cC0w8 := (hmw8.cell (p := ⟨w3.heap.size, 0, none⟩) bCw7).trans cC0w7
    have cC1w8 := (hmw8.cell (p := ⟨w3.heap.size, 1, none⟩) bCw7).trans cC1w7
    have bCw8 : w3.heap.size < w8.heap.size := Nat.lt_of_lt_of_le bCw7 hmw8.size
    have dCw8 : w3.heap.size < w8.heap.size + 1 := Nat.lt_succ_of_lt bCw8
    have cM0w8 := (hmw8.cell (p := ⟨w5.heap.size, 0, none⟩) bMw7).trans cM0w7
    have cM1w8 := (hmw8.cell (p := ⟨w5.heap.size, 1, none⟩) bMw7).trans cM1w7
    have bMw8 : w5.heap.size < w8.heap.size := Nat.lt_of_lt_of_le bMw7 hmw8.size
    have dMw8 : w5.heap.size < w8.heap.size + 1 := Nat.lt_succ_of_lt bMw8
    have cU0w8 : w8.cell? ⟨w7.heap.size, 0, none⟩ = some (.int .i64 un) := by rw [hw8.cell (p := ⟨w7.heap.size, 0, none⟩) (by first | (with_reducible assumption) | (simp; done) | omega | (simp; omega))]; simp [go_sem]
    have cU1w8 : w8.cell? ⟨w7.heap.size, 1, none⟩ = some (.int .i64 ud) := by rw [hw8.cell (p := ⟨w7.heap.size, 1, none⟩) (by first | (with_reducible assumption) | (simp; done) | omega | (simp; omega))]; simp [go_sem]
    have bUw8 : w7.heap.size < w8.heap.size := by have := hw8.size; first | omega | (simp at this; omega)
    have dUw8 : w7.heap.size < w8.heap.size + 1 := Nat.lt_succ_of_lt bUw8
    have hBw8 : Below w.heap.size w w8 := Below.trans hBw7 (hmw8.mono hBw7.size)
    have zw8 : w.heap.size ≤ w8.heap.size := hBw8.size
    clear hmw8 hw8 zw7 hBw7 dMw7 bMw7 cM1w7 cM0w7 dCw7 bCw7 cC1w7 cC0w7 dFw7 bFw7 cF1w7 cF0w7 dBw7 bBw7 cB1w7 cB0w7 dAw7 bAw7 cA1w7 cA0w7
    rw [es.out]
    go_wp2_with fail
    refine (abs_any _ _ _).mono ?_
    rintro e w9 ⟨rfl, hw9⟩
    have hmw9 : Below w8.heap.size w8 w9 := on_below hw9 (by repeat' (first | (with_reducible exact Below.refl _ _) | (with_reducible assumption) | (with_reducible refine drewN_below ?_ _) | (with_reducible refine Below.drew ?_) | (with_reducible refine Below.alloc ?_ ?_ _) | (with_reducible refine Below.setCell ?_ ?_ _) | (simp; done) | omega | (simp; omega))) (by first | (with_reducible assumption) | (simp; done) | omega | (simp; omega))
    have cA0w9 := (hmw9.cell (p := ⟨w.heap.size, 0, none⟩) bAw8).trans cA0w8
    have cA1w9 := (hmw9.cell (p := ⟨w.heap.size, 1, none⟩) bAw8).trans cA1w8
    have bAw9 : w.heap.size < w9.heap.size := Nat.lt_of_lt_of_le bAw8 hmw9.size
    have dAw9 : w.heap.size < w9.heap.size + 1 := Nat.lt_succ_of_lt bAw9
    have cB0w9 := (hmw9.cell (p := ⟨w.heap.size + 1, 0, none⟩) bBw8).trans cB0w8
    have cB1w9 := (hmw9.cell (p := ⟨w.heap.size + 1, 1, none⟩) bBw8).trans cB1w8
    have bBw9 : w.heap.size + 1 < w9.heap.size := Nat.lt_of_lt_of_le bBw8 hmw9.size
    have dBw9 : w.heap.size + 1 < w9.heap.size + 1 := Nat.lt_succ_of_lt bBw9
    have cF0w9 := (hmw9.cell (p := ⟨w2.heap.size, 0, none⟩) bFw8).trans cF0w8
    have cF1w9 := (hmw9.cell (p := ⟨w2.heap.size, 1, none⟩) bFw8).trans cF1w8
    have bFw9 : w2.heap.size < w9.heap.size := Nat.lt_of_lt_of_le bFw8 hmw9.size
    have dFw9 : w2.heap.size < w9.heap.size + 1 := Nat.lt_succ_of_lt bFw9
    have cC0w9 := (hmw9.cell (p := ⟨w3.heap.size, 0, none⟩) bCw8).trans cC0w8
    have cC1w9 := (hmw9.cell (p := ⟨w3.heap.size, 1, none⟩) bCw8).trans cC1w8
    have bCw9 : w3.heap.size < w9.heap.size := Nat.lt_of_lt_of_le bCw8 hmw9.size
    have dCw9 : w3.heap.size < w9.heap.size + 1 := Nat.lt_succ_of_lt bCw9
    have cM0w9 := (hmw9.cell (p := ⟨w5.heap.size, 0, none⟩) bMw8).trans cM0w8
    have cM1w9 := (hmw9.cell (p := ⟨w5.heap.size, 1, none⟩) bMw8).trans cM1w8
    have bMw9 : w5.heap.size < w9.heap.size := Nat.lt_of_lt_of_le bMw8 hmw9.size
    have dMw9 : w5.heap.size < w9.heap.size + 1 := Nat.lt_succ_of_lt bMw9
    have cU0w9 := (hmw9.cell (p := ⟨w7.heap.size, 0, none⟩) bUw8).trans cU0w8
    have cU1w9 := (hmw9.cell (p := ⟨w7.heap.size, 1, none⟩) bUw8).trans cU1w8
    have bUw9 : w7.heap.size < w9.heap.size := Nat.lt_of_lt_of_le bUw8 hmw9.size
    have dUw9 : w7.heap.size < w9.heap.size + 1 := Nat.lt_succ_of_lt bUw9
    have hBw9 : Below w.heap.size w w9 := Below.trans hBw8 (hmw9.mono hBw8.size)
    have zw9 : w.heap.size ≤ w9.heap.size := hBw9.size
    clear hmw9 hw9 zw8 hBw8 dUw8 bUw8 cU1w8 cU0w8 dMw8 bMw8 cM1w8 cM0w8 dCw8 bCw8 cC1w8 cC0w8 dFw8 bFw8 cF1w8 cF0w8 dBw8 bBw8 cB1w8 cB0w8 dAw8 bAw8 cA1w8 cA0w8
    rw [et.out]
    go_wp2_with fail
    refine (cmp_any _ _ _ _ _).mono ?_
    rintro e w10 ⟨rfl, hw10⟩
    have hmw10 : Below w9.heap.size w9 w10 := on_below hw10 (by repeat' (first | (with_reducible exact Below.refl _ _) | (with_reducible assumption) | (with_reducible refine drewN_below ?_ _) | (with_reducible refine Below.drew ?_) | (with_reducible refine Below.alloc ?_ ?_ _) | (with_reducible refine Below.setCell ?_ ?_ _) | (simp; done) | omega | (simp; omega))) (by first | (with_reducible assumption) | (simp; done) | omega | (simp; omega))
    have cA0w10 := (hmw10.cell (p := ⟨w.heap.size, 0, none⟩) bAw9).trans cA0w9
    have cA1w10 := (hmw10.cell (p := ⟨w.heap.size, 1, none⟩) bAw9).trans cA1w9
    have bAw10 : w.heap.size < w10.heap.size := Nat.lt_of_lt_of_le bAw9 hmw10.size
    have dAw10 : w.heap.size < w10.heap.size + 1 := Nat.lt_succ_of_lt bAw10
    have cB0w10 := (hmw10.cell (p := ⟨w.heap.size + 1, 0, none⟩) bBw9).trans cB0w9
    have cB1w10 := (hmw10.cell (p := ⟨w.heap.size + 1, 1, none⟩) bBw9).trans cB1w9
    have bBw10 : w.heap.size + 1 < w10.heap.size := Nat.lt_of_lt_of_le bBw9 hmw10.size
    have dBw10 : w.heap.size + 1 < w10.heap.size + 1 := Nat.lt_succ_of_lt bBw10
    have cF0w10 := (hmw10.cell (p := ⟨w2.heap.size, 0, none⟩) bFw9).trans cF0w9
    have cF1w10 := (hmw10.cell (p := ⟨w2.heap.size, 1, none⟩) bFw9).trans cF1w9
    have bFw10 : w2.heap.size < w10.heap.size := Nat.lt_of_lt_of_le bFw9 hmw10.size
    have dFw10 : w2.heap.size < w10.heap.size + 1 := Nat.lt_succ_of_lt bFw10
    have cC0w10 := (hmw10.cell (p := ⟨w3.heap.size, 0, none⟩) bCw9).trans cC0w9
    have cC1w10 := (hmw10.cell (p := ⟨w3.heap.size, 1, none⟩) bCw9).trans cC1w9
    have bCw10 : w3.heap.size < w10.heap.size := Nat.lt_of_lt_of_le bCw9 hmw10.size
    have dCw10 : w3.heap.size < w10.heap.size + 1 := Nat.lt_succ_of_lt bCw10
    have cM0w10 := (hmw10.cell (p := ⟨w5.heap.size, 0, none⟩) bMw9).trans cM0w9
    have cM1w10 := (hmw10.cell (p := ⟨w5.heap.size, 1, none⟩) bMw9).trans cM1w9
    have bMw10 : w5.heap.size < w10.heap.size := Nat.lt_of_lt_of_le bMw9 hmw10.size
    have dMw10 : w5.heap.size < w10.heap.size + 1 := Nat.lt_succ_of_lt bMw10
    have cU0w10 := (hmw10.cell (p := ⟨w7.heap.size, 0, none⟩) bUw9).trans cU0w9
    have cU1w10 := (hmw10.cell (p := ⟨w7.heap.size, 1, none⟩) bUw9).trans cU1w9
    have bUw10 : w7.heap.size < w10.heap.size := Nat.lt_of_lt_of_le bUw9 hmw10.size
    have dUw10 : w7.heap.size < w10.heap.size + 1 := Nat.lt_succ_of_lt bUw10
    have hBw10 : Below w.heap.size w w10 := Below.trans hBw9 (hmw10.mono hBw9.size)
    have zw10 : w.heap.size ≤ w10.heap.size := hBw10.size
    clear hmw10 hw10 zw9 hBw9 dUw9 bUw9 cU1w9 cU0w9 dMw9 bMw9 cM1w9 cM0w9 dCw9 bCw9 cC1w9 cC0w9 dFw9 bFw9 cF1w9 cF0w9 dBw9 bBw9 cB1w9 cB0w9 dAw9 bAw9 cA1w9 cA0w9
    rw [e2.out]
    go_wp2_with fail
    refine (awake_any _).mono ?_
    rintro e w11 ⟨rfl, hw11⟩
    have hmw11 : Below w10.heap.size w10 w11 := on_below hw11 (by repeat' (first | (with_reducible exact Below.refl _ _) | (with_reducible assumption) | (with_reducible refine drewN_below ?_ _) | (with_reducible refine Below.drew ?_) | (with_reducible refine Below.alloc ?_ ?_ _) | (with_reducible refine Below.setCell ?_ ?_ _) | (simp; done) | omega | (simp; omega))) (by first | (with_reducible assumption) | (simp; done) | omega | (simp; omega))
    have cA0w11 := (hmw11.cell (p := ⟨w.heap.size, 0, none⟩) bAw10).trans cA0w10
    have cA1w11 := (hmw11.cell (p := ⟨w.heap.size, 1, none⟩) bAw10).trans cA1w10
    have bAw11 : w.heap.size < w11.heap.size := Nat.lt_of_lt_of_le bAw10 hmw11.size
    have dAw11 : w.heap.size < w11.heap.size + 1 := Nat.lt_succ_of_lt bAw11
    have cB0w11 := (hmw11.cell (p := ⟨w.heap.size + 1, 0, none⟩) bBw10).trans cB0w10
    have cB1w11 := (hmw11.cell (p := ⟨w.heap.size + 1, 1, none⟩) bBw10).trans cB1w10
    have bBw11 : w.heap.size + 1 < w11.heap.size := Nat.lt_of_lt_of_le bBw10 hmw11.size
    have dBw11 : w.heap.size + 1 < w11.heap.size + 1 := Nat.lt_succ_of_lt bBw11
    have cF0w11 := (hmw11.cell (p := ⟨w2.heap.size, 0, none⟩) bFw10).trans cF0w10
    have cF1w11 := (hmw11.cell (p := ⟨w2.heap.size, 1, none⟩) bFw10).trans cF1w10
    have bFw11 : w2.heap.size < w11.heap.size := Nat.lt_of_lt_of_le bFw10 hmw11.size
    have dFw11 : w2.heap.size < w11.heap.size + 1 := Nat.lt_succ_of_lt bFw11
    have cC0w11 := (hmw11.cell (p := ⟨w3.heap.size, 0, none⟩) bCw10).trans cC0w10
    have cC1w11 := (hmw11.cell (p := ⟨w3.heap.size, 1, none⟩) bCw10).trans cC1w10
    have bCw11 : w3.heap.size < w11.heap.size := Nat.lt_of_lt_of_le bCw10 hmw11.size
    have dCw11 : w3.heap.size < w11.heap.size + 1 := Nat.lt_succ_of_lt bCw11
    have cM0w11 := (hmw11.cell (p := ⟨w5.heap.size, 0, none⟩) bMw10).trans cM0w10
    have cM1w11 := (hmw11.cell (p := ⟨w5.heap.size, 1, none⟩) bMw10).trans cM1w10
    have bMw11 : w5.heap.size < w11.heap.size := Nat.lt_of_lt_of_le bMw10 hmw11.size
    have dMw11 : w5.heap.size < w11.heap.size + 1 := Nat.lt_succ_of_lt bMw11
    have cU0w11 := (hmw11.cell (p := ⟨w7.heap.size, 0, none⟩) bUw10).trans cU0w10
    have cU1w11 := (hmw11.cell (p := ⟨w7.heap.size, 1, none⟩) bUw10).trans cU1w10
    have bUw11 : w7.heap.size < w11.heap.size := Nat.lt_of_lt_of_le bUw10 hmw11.size
    have dUw11 : w7.heap.size < w11.heap.size + 1 := Nat.lt_succ_of_lt bUw11
    have hBw11 : Below w.heap.size w w11 := Below.trans hBw10 (hmw11.mono hBw10.size)
    have zw11 : w.heap.size ≤ w11.heap.size := hBw11.size
    clear hmw11 hw11 zw10 hBw10 dUw10 bUw10 cU1w10 cU0w10 dMw10 bMw10 cM1w10 cM0w10 dCw10 bCw10 cC1w10 cC0w10 dFw10 bFw10 cF1w10 cF0w10 dBw10 bBw10 cB1w10 cB0w10 dAw10 bAw10 cA1w10 cA0w10
    go_wp2
    go_ret
    exact ⟨rfl, (by repeat' (first | (with_reducible exact Below.refl _ _) | (with_reducible assumption) | (with_reducible refine drewN_below ?_ _) | (with_reducible refine Below.drew ?_) | (with_reducible refine Below.alloc ?_ ?_ _) | (with_reducible refine Below.setCell ?_ ?_ _) | (simp; done) | omega | (simp; omega)))⟩
  · have hq2 := hq
    rw [Bool.and_eq_true] at hq2
    obtain ⟨m1, m2, m3⟩ := hmo hq2.1 hq2.2
    clear hmo hq2
    have u3 : decide (0 ≤ c3) = false := by simp; omega
    by_cases g1 : mn < 0
    · have u1 : decide (mn < 0) = true := by simp [g1]
      have u2 : decide (0 < bn) = false := by simp; omega
      have u4 : decide (0 < mn) = false := by simp; omega
      clear m1 m2 m3 g1
      have xA : w.heap.size < w5.heap.size + 1 := by omega
      have xB : w.heap.size + 1 < w5.heap.size + 1 := by omega
      have xF : w2.heap.size < w5.heap.size + 1 := by omega
      have xC : w3.heap.size < w5.heap.size + 1 := by omega
      have xM : w5.heap.size < w5.heap.size + 1 := by omega
      refine wp_region_held_drew (S := (fun w' => w'.cell? ⟨w.heap.size, 0, none⟩ = some (.int .i64 an) ∧ w'.cell? ⟨w.heap.size, 1, none⟩ = some (.int .i64 ad) ∧ w'.cell? ⟨w.heap.size + 1, 0, none⟩ = some (.int .i64 bn) ∧ w'.cell? ⟨w.heap.size + 1, 1, none⟩ = some (.int .i64 bd) ∧ w'.cell? ⟨w2.heap.size, 0, none⟩ = some (.int .i64 fn) ∧ w'.cell? ⟨w2.heap.size, 1, none⟩ = some (.int .i64 fd) ∧ w'.cell? ⟨w3.heap.size, 0, none⟩ = some (.int .i64 rn) ∧ w'.cell? ⟨w3.heap.size, 1, none⟩ = some (.int .i64 rd) ∧ w'.cell? ⟨w5.heap.size, 0, none⟩ = some (.int .i64 mn) ∧ w'.cell? ⟨w5.heap.size, 1, none⟩ = some (.int .i64 md) ∧ w5.heap.size + 1 ≤ w'.heap.size ∧ Below w5.heap.size w5 w')) (by kernel_rfl) ?_ ?_
      · (refine ⟨?_, ?_, ?_, ?_, ?_, ?_, ?_, ?_, ?_, ?_, ?_, ?_⟩ <;> first | assumption | ((repeat' (first | (with_reducible exact Below.refl _ _) | (with_reducible assumption) | (with_reducible refine drewN_below ?_ _) | (with_reducible refine Below.drew ?_) | (with_reducible refine Below.alloc ?_ ?_ _) | (with_reducible refine Below.setCell ?_ ?_ _) | (simp; done) | omega | (simp; omega))); done) | (simp [*]; done) | (simp [go_sem, *]; done) | (simp; omega))
      intro hH0
      refine wpAnyH_take (i := 0) (v := ?_) rfl (by kernel_rfl) (by kernel_rfl) (by kernel_rfl) (fun _ _ _ h => h) (Or.inl ⟨by rfl, ?_⟩) (by assumption) ?_
      rotate_left
      focus (intro wq hSq; (try dsimp only at hSq); go_simp; first | done | (with_reducible rfl))
      (try simp only [Act.put, List.getElem_toArray, List.getElem_cons_zero, List.setIfInBounds_toArray, List.set_cons_zero, List.set_cons_succ])
      refine wpAnyH_take (i := 1) (v := ?_) rfl (by kernel_rfl) (by kernel_rfl) (by kernel_rfl) (fun _ _ _ h => h) (Or.inl ⟨by rfl, ?_⟩) (by assumption) ?_
      rotate_left
      focus (intro wq hSq; (try dsimp only at hSq); go_simp; first | done | (with_reducible rfl))
      (try simp only [Act.put, List.getElem_toArray, List.getElem_cons_succ, List.getElem_cons_zero, List.setIfInBounds_toArray, List.set_cons_zero, List.set_cons_succ])
      refine wpAnyH_ready (rs := [2]) (by kernel_rfl) (by simp) ?_
      refine AllReadyH.cons rfl (fun K hK => ?_) AllReadyH.nil
      rw [if_pos (by rfl)]
      go_simp
      refine hK.out _ _ ?_ (fun hHeld => ?_)
      · (refine ⟨?_, ?_, ?_, ?_, ?_, ?_, ?_, ?_, ?_, ?_, ?_, ?_⟩ <;> first | assumption | ((repeat' (first | (with_reducible exact Below.refl _ _) | (with_reducible assumption) | (with_reducible refine drewN_below ?_ _) | (with_reducible refine Below.drew ?_) | (with_reducible refine Below.alloc ?_ ?_ _) | (with_reducible refine Below.setCell ?_ ?_ _) | (simp; done) | omega | (simp; omega))); done) | (simp [*]; done) | (simp [go_sem, *]; done) | (simp; omega))
      clear hK K
      (try simp only [Act.put, List.getElem_toArray, List.getElem_cons_succ, List.getElem_cons_zero, List.setIfInBounds_toArray, List.set_cons_zero, List.set_cons_succ])
      refine wpAnyH_ready (rs := [3]) (by kernel_rfl) (by simp) ?_
      refine AllReadyH.cons rfl (fun K hK => ?_) AllReadyH.nil
      rw [if_pos (by rfl)]
      go_simp
      refine (numbers2 mn md bn bd _ _ (by simp [go_sem]) (by simp [go_sem]) (by simp [go_sem]) (by simp [go_sem]) (by simp)).mono ?_
      rintro e wr ⟨rfl, hbr⟩
      obtain ⟨hcr, hfr, hzr, hBr⟩ := after (a := w5) (B := w5.heap.size) (w5.heap.size + 1) hbr (by first | (with_reducible assumption) | (simp; done) | omega | (simp; omega)) (by repeat' (first | (with_reducible exact Below.refl _ _) | (with_reducible assumption) | (with_reducible refine drewN_below ?_ _) | (with_reducible refine Below.drew ?_) | (with_reducible refine Below.alloc ?_ ?_ _) | (with_reducible refine Below.setCell ?_ ?_ _) | (simp; done) | omega | (simp; omega))) (by omega)
      have yA := Nat.lt_of_lt_of_le xA hzr
      have yB := Nat.lt_of_lt_of_le xB hzr
      have yF := Nat.lt_of_lt_of_le xF hzr
      have yC := Nat.lt_of_lt_of_le xC hzr
      have yM := Nat.lt_of_lt_of_le xM hzr
      rw [hq]
      dsimp only
      refine hK.out _ _ ?_ (fun hHeld => ?_)
      · (refine ⟨?_, ?_, ?_, ?_, ?_, ?_, ?_, ?_, ?_, ?_, ?_, ?_⟩ <;> first | assumption | ((repeat' (first | (with_reducible exact Below.refl _ _) | (with_reducible assumption) | (with_reducible refine drewN_below ?_ _) | (with_reducible refine Below.drew ?_) | (with_reducible refine Below.alloc ?_ ?_ _) | (with_reducible refine Below.setCell ?_ ?_ _) | (simp; done) | omega | (simp; omega))); done) | (simp [*]; done) | (simp [go_sem, *]; done) | (simp; omega))
      clear hK K
      (try simp only [Act.put, List.getElem_toArray, List.getElem_cons_succ, List.getElem_cons_zero, List.setIfInBounds_toArray, List.set_cons_zero, List.set_cons_succ])
      refine wpAnyH_take (i := 4) (v := ?_) rfl (by kernel_rfl) (by kernel_rfl) (by kernel_rfl) (fun _ _ _ h => h) (Or.inl ⟨by rfl, ?_⟩) (by assumption) ?_
      rotate_left
      focus (intro wq hSq; (try dsimp only at hSq); go_simp; first | done | (with_reducible rfl))
      (try simp only [Act.put, List.getElem_toArray, List.getElem_cons_succ, List.getElem_cons_zero, List.setIfInBounds_toArray, List.set_cons_zero, List.set_cons_succ])
      refine wpAnyH_take (i := 5) (v := ?_) rfl (by kernel_rfl) (by kernel_rfl) (by kernel_rfl) (fun _ _ _ h => h) (Or.inl ⟨by rfl, ?_⟩) (by assumption) ?_
      rotate_left
      focus (intro wq hSq; (try dsimp only at hSq); go_simp; first | done | (with_reducible rfl))
      (try simp only [Act.put, List.getElem_toArray, List.getElem_cons_succ, List.getElem_cons_zero, List.setIfInBounds_toArray, List.set_cons_zero, List.set_cons_succ])
      refine wpAnyH_take (i := 6) (v := ?_) rfl (by kernel_rfl) (by kernel_rfl) (by kernel_rfl) (fun _ _ _ h => h) (Or.inl ⟨by rfl, ?_⟩) (by assumption) ?_
      rotate_left
      focus (intro wq hSq; (try dsimp only at hSq); go_simp; first | done | (with_reducible rfl))
      (try simp only [Act.put, List.getElem_toArray, List.getElem_cons_succ, List.getElem_cons_zero, List.setIfInBounds_toArray, List.set_cons_zero, List.set_cons_succ])
      refine wpAnyH_take (i := 7) (v := ?_) rfl (by kernel_rfl) (by kernel_rfl) (by kernel_rfl) (fun _ _ _ h => h) (Or.inl ⟨by rfl, ?_⟩) (by assumption) ?_
      rotate_left
      focus (intro wq hSq; (try dsimp only at hSq); go_simp; first | done | (with_reducible rfl))
      (try simp only [Act.put, List.getElem_toArray, List.getElem_cons_succ, List.getElem_cons_zero, List.setIfInBounds_toArray, List.set_cons_zero, List.set_cons_succ])
      refine wpAnyH_take (i := 8) (v := ?_) rfl (by kernel_rfl) (by kernel_rfl) (by kernel_rfl) (fun _ _ _ h => h) (Or.inl ⟨by rfl, ?_⟩) (by assumption) ?_
      rotate_left
      focus (intro wq hSq; (try dsimp only at hSq); go_simp; first | done | (with_reducible rfl))
      (try simp only [Act.put, List.getElem_toArray, List.getElem_cons_succ, List.getElem_cons_zero, List.setIfInBounds_toArray, List.set_cons_zero, List.set_cons_succ])
      refine wpAnyH_take (i := 9) (v := ?_) rfl (by kernel_rfl) (by kernel_rfl) (by kernel_rfl) (fun _ _ _ h => h) (Or.inl ⟨by rfl, ?_⟩) (by assumption) ?_
      rotate_left
      focus (intro wq hSq; (try dsimp only at hSq); go_simp; first | done | (with_reducible rfl))
      (try simp only [Act.put, List.getElem_toArray, List.getElem_cons_succ, List.getElem_cons_zero, List.setIfInBounds_toArray, List.set_cons_zero, List.set_cons_succ])
      refine wpAnyH_take (i := 10) (v := ?_) rfl (by kernel_rfl) (by kernel_rfl) (by kernel_rfl) (fun _ _ _ h => h) (Or.inl ⟨by rfl, ?_⟩) (by assumption) ?_
      rotate_left
      focus (intro wq hSq; (try dsimp only at hSq); go_simp; first | done | (with_reducible rfl))
      (try simp only [Act.put, List.getElem_toArray, List.getElem_cons_succ, List.getElem_cons_zero, List.setIfInBounds_toArray, List.set_cons_zero, List.set_cons_succ])
      refine wpAnyH_take (i := 11) (v := ?_) rfl (by kernel_rfl) (by kernel_rfl) (by kernel_rfl) (fun _ _ _ h => h) (Or.inl ⟨by rfl, ?_⟩) (by assumption) ?_
      rotate_left
      focus (intro wq hSq; (try dsimp only at hSq); go_simp; first | done | (with_reducible rfl))
      (try simp only [Act.put, List.getElem_toArray, List.getElem_cons_succ, List.getElem_cons_zero, List.setIfInBounds_toArray, List.set_cons_zero, List.set_cons_succ])
      refine wpAnyH_take (i := 12) (v := ?_) rfl (by kernel_rfl) (by kernel_rfl) (by kernel_rfl) (fun _ _ _ h => h) (Or.inl ⟨by rfl, ?_⟩) (by assumption) ?_
      rotate_left
      focus (intro wq hSq; (try dsimp only at hSq); go_simp; first | done | (with_reducible rfl))
      (try simp only [Act.put, List.getElem_toArray, List.getElem_cons_succ, List.getElem_cons_zero, List.setIfInBounds_toArray, List.set_cons_zero, List.set_cons_succ])
      refine wpAnyH_take (i := 13) (v := ?_) rfl (by kernel_rfl) (by kernel_rfl) (by kernel_rfl) (fun _ _ _ h => h) (Or.inl ⟨by rfl, ?_⟩) (by assumption) ?_
      rotate_left
      focus (intro wq hSq; (try dsimp only at hSq); go_simp; first | done | (with_reducible rfl))
      (try simp only [Act.put, List.getElem_toArray, List.getElem_cons_succ, List.getElem_cons_zero, List.setIfInBounds_toArray, List.set_cons_zero, List.set_cons_succ])
      refine wpAnyH_take (i := 14) (v := ?_) rfl (by kernel_rfl) (by kernel_rfl) (by kernel_rfl) (fun _ _ _ h => h) (Or.inl ⟨by rfl, ?_⟩) (by assumption) ?_
      rotate_left
      focus (intro wq hSq; (try dsimp only at hSq); go_simp; first | done | (with_reducible rfl))
      (try simp only [Act.put, List.getElem_toArray, List.getElem_cons_succ, List.getElem_cons_zero, List.setIfInBounds_toArray, List.set_cons_zero, List.set_cons_succ])
      refine wpAnyH_take (i := 15) (v := ?_) rfl (by kernel_rfl) (by kernel_rfl) (by kernel_rfl) (fun _ _ _ h => h) (Or.inl ⟨by rfl, ?_⟩) (by assumption) ?_
      rotate_left
      focus (intro wq hSq; (try dsimp only at hSq); go_simp; first | done | (with_reducible rfl))
      (try simp only [Act.put, List.getElem_toArray, List.getElem_cons_succ, List.getElem_cons_zero, List.setIfInBounds_toArray, List.set_cons_zero, List.set_cons_succ])
      refine wpAnyH_take (i := 16) (v := ?_) rfl (by kernel_rfl) (by kernel_rfl) (by kernel_rfl) (fun _ _ _ h => h) (Or.inl ⟨by rfl, ?_⟩) (by assumption) ?_
      rotate_left
      focus (intro wq hSq; (try dsimp only at hSq); go_simp; first | done | (with_reducible rfl))
      (try simp only [Act.put, List.getElem_toArray, List.getElem_cons_succ, List.getElem_cons_zero, List.setIfInBounds_toArray, List.set_cons_zero, List.set_cons_succ])
      refine wpAnyH_take (i := 17) (v := ?_) rfl (by kernel_rfl) (by kernel_rfl) (by kernel_rfl) (fun _ _ _ h => h) (Or.inl ⟨by rfl, ?_⟩) (by assumption) ?_
      rotate_left
      focus (intro wq hSq; (try dsimp only at hSq); go_simp; first | done | (with_reducible rfl))
      (try simp only [Act.put, List.getElem_toArray, List.getElem_cons_succ, List.getElem_cons_zero, List.setIfInBounds_toArray, List.set_cons_zero, List.set_cons_succ])
      refine wpAnyH_take (i := 18) (v := undef) rfl (by kernel_rfl) (by kernel_rfl) (by kernel_rfl) (fun _ _ _ h => h) (Or.inr ⟨by rfl, rfl⟩) (by assumption) ?_
      (try simp only [Act.put, List.getElem_toArray, List.getElem_cons_succ, List.getElem_cons_zero, List.setIfInBounds_toArray, List.set_cons_zero, List.set_cons_succ])
      refine wpAnyH_take (i := 19) (v := undef) rfl (by kernel_rfl) (by kernel_rfl) (by kernel_rfl) (fun _ _ _ h => h) (Or.inr ⟨by rfl, rfl⟩) (by assumption) ?_
      (try simp only [Act.put, List.getElem_toArray, List.getElem_cons_succ, List.getElem_cons_zero, List.setIfInBounds_toArray, List.set_cons_zero, List.set_cons_succ])
      refine wpAnyH_take (i := 20) (v := undef) rfl (by kernel_rfl) (by kernel_rfl) (by kernel_rfl) (fun _ _ _ h => h) (Or.inr ⟨by rfl, rfl⟩) (by assumption) ?_
      (try simp only [Act.put, List.getElem_toArray, List.getElem_cons_succ, List.getElem_cons_zero, List.setIfInBounds_toArray, List.set_cons_zero, List.set_cons_succ])
      refine wpAnyH_take (i := 21) (v := ?_) rfl (by kernel_rfl) (by kernel_rfl) (by kernel_rfl) (fun _ _ _ h => h) (Or.inl ⟨by rfl, ?_⟩) (by assumption) ?_
      rotate_left
      focus (intro wq hSq; (try dsimp only at hSq); go_simp; first | done | (with_reducible rfl))
      (try simp only [Act.put, List.getElem_toArray, List.getElem_cons_succ, List.getElem_cons_zero, List.setIfInBounds_toArray, List.set_cons_zero, List.set_cons_succ])
      refine wpAnyH_take (i := 22) (v := ?_) rfl (by kernel_rfl) (by kernel_rfl) (by kernel_rfl) (fun _ _ _ h => h) (Or.inl ⟨by rfl, ?_⟩) (by assumption) ?_
      rotate_left
      focus (intro wq hSq; (try dsimp only at hSq); go_simp; first | done | (with_reducible rfl))
      (try simp only [Act.put, List.getElem_toArray, List.getElem_cons_succ, List.getElem_cons_zero, List.setIfInBounds_toArray, List.set_cons_zero, List.set_cons_succ])
      refine wpAnyH_take (i := 23) (v := ?_) rfl (by kernel_rfl) (by kernel_rfl) (by kernel_rfl) (fun _ _ _ h => h) (Or.inl ⟨by rfl, ?_⟩) (by assumption) ?_
      rotate_left
      focus (intro wq hSq; (try dsimp only at hSq); go_simp; first | done | (with_reducible rfl))
      (try simp only [Act.put, List.getElem_toArray, List.getElem_cons_succ, List.getElem_cons_zero, List.setIfInBounds_toArray, List.set_cons_zero, List.set_cons_succ])
      refine wpAnyH_take (i := 24) (v := ?_) rfl (by kernel_rfl) (by kernel_rfl) (by kernel_rfl) (fun _ _ _ h => h) (Or.inl ⟨by rfl, ?_⟩) (by assumption) ?_
      rotate_left
      focus (intro wq hSq; (try dsimp only at hSq); go_simp; first | done | (with_reducible rfl))
      (try simp only [Act.put, List.getElem_toArray, List.getElem_cons_succ, List.getElem_cons_zero, List.setIfInBounds_toArray, List.set_cons_zero, List.set_cons_succ])
      refine wpAnyH_take (i := 26) (v := ?_) rfl (by kernel_rfl) (by kernel_rfl) (by kernel_rfl) (fun _ _ _ h => h) (Or.inl ⟨by rfl, ?_⟩) (by assumption) ?_
      rotate_left
      focus (intro wq hSq; (try dsimp only at hSq); go_simp; first | done | (with_reducible rfl))
      (try simp only [Act.put, List.getElem_toArray, List.getElem_cons_succ, List.getElem_cons_zero, List.setIfInBounds_toArray, List.set_cons_zero, List.set_cons_succ])
      refine wpAnyH_ready (rs := [25]) (by kernel_rfl) (by simp) ?_
      refine AllReadyH.cons rfl (fun K hK => ?_) AllReadyH.nil
      rw [if_pos (by rfl)]
      go_simp
      refine (abs_any _ _ _).mono ?_
      rintro e wr ⟨rfl, hbr⟩
      obtain ⟨hcr, hfr, hzr, hBr⟩ := after (a := w5) (B := w5.heap.size) (w5.heap.size + 1) hbr (by first | (with_reducible assumption) | (simp; done) | omega | (simp; omega)) (by repeat' (first | (with_reducible exact Below.refl _ _) | (with_reducible assumption) | (with_reducible refine drewN_below ?_ _) | (with_reducible refine Below.drew ?_) | (with_reducible refine Below.alloc ?_ ?_ _) | (with_reducible refine Below.setCell ?_ ?_ _) | (simp; done) | omega | (simp; omega))) (by omega)
      have yA := Nat.lt_of_lt_of_le xA hzr
      have yB := Nat.lt_of_lt_of_le xB hzr
      have yF := Nat.lt_of_lt_of_le xF hzr
      have yC := Nat.lt_of_lt_of_le xC hzr
      have yM := Nat.lt_of_lt_of_le xM hzr
      rw [eg.out]
      dsimp only
      refine hK.out _ _ ?_ (fun hHeld => ?_)
      · (refine ⟨?_, ?_, ?_, ?_, ?_, ?_, ?_, ?_, ?_, ?_, ?_, ?_⟩ <;> first | assumption | ((repeat' (first | (with_reducible exact Below.refl _ _) | (with_reducible assumption) | (with_reducible refine drewN_below ?_ _) | (with_reducible refine Below.drew ?_) | (with_reducible refine Below.alloc ?_ ?_ _) | (with_reducible refine Below.setCell ?_ ?_ _) | (simp; done) | omega | (simp; omega))); done) | (simp [*]; done) | (simp [go_sem, *]; done) | (simp; omega))
      clear hK K
      (try simp only [Act.put, List.getElem_toArray, List.getElem_cons_succ, List.getElem_cons_zero, List.setIfInBounds_toArray, List.set_cons_zero, List.set_cons_succ])
      refine wpAnyH_ready (rs := [27]) (by kernel_rfl) (by simp) ?_
      refine AllReadyH.cons rfl (fun K hK => ?_) AllReadyH.nil
      rw [if_pos (by rfl)]
      go_simp
      refine (abs_any _ _ _).mono ?_
      rintro e wr ⟨rfl, hbr⟩
      obtain ⟨hcr, hfr, hzr, hBr⟩ := after (a := w5) (B := w5.heap.size) (w5.heap.size + 1) hbr (by first | (with_reducible assumption) | (simp; done) | omega | (simp; omega)) (by repeat' (first | (with_reducible exact Below.refl _ _) | (with_reducible assumption) | (with_reducible refine drewN_below ?_ _) | (with_reducible refine Below.drew ?_) | (with_reducible refine Below.alloc ?_ ?_ _) | (with_reducible refine Below.setCell ?_ ?_ _) | (simp; done) | omega | (simp; omega))) (by omega)
      have yA := Nat.lt_of_lt_of_le xA hzr
      have yB := Nat.lt_of_lt_of_le xB hzr
      have yF := Nat.lt_of_lt_of_le xF hzr
      have yC := Nat.lt_of_lt_of_le xC hzr
      have yM := Nat.lt_of_lt_of_le xM hzr
      rw [ek.out]
      dsimp only
      refine hK.out _ _ ?_ (fun hHeld => ?_)
      · (refine ⟨?_, ?_, ?_, ?_, ?_, ?_, ?_, ?_, ?_, ?_, ?_, ?_⟩ <;> first | assumption | ((repeat' (first | (with_reducible exact Below.refl _ _) | (with_reducible assumption) | (with_reducible refine drewN_below ?_ _) | (with_reducible refine Below.drew ?_) | (with_reducible refine Below.alloc ?_ ?_ _) | (with_reducible refine Below.setCell ?_ ?_ _) | (simp; done) | omega | (simp; omega))); done) | (simp [*]; done) | (simp [go_sem, *]; done) | (simp; omega))
      clear hK K
      (try simp only [Act.put, List.getElem_toArray, List.getElem_cons_succ, List.getElem_cons_zero, List.setIfInBounds_toArray, List.set_cons_zero, List.set_cons_succ])
      refine wpAnyH_ready (rs := [28]) (by kernel_rfl) (by simp) ?_
      refine AllReadyH.cons rfl (fun K hK => ?_) AllReadyH.nil
      rw [if_pos (by rfl)]
      go_simp
      refine (cmp_any _ _ _ _ _).mono ?_
      rintro e wr ⟨rfl, hbr⟩
      obtain ⟨hcr, hfr, hzr, hBr⟩ := after (a := w5) (B := w5.heap.size) (w5.heap.size + 1) hbr (by first | (with_reducible assumption) | (simp; done) | omega | (simp; omega)) (by repeat' (first | (with_reducible exact Below.refl _ _) | (with_reducible assumption) | (with_reducible refine drewN_below ?_ _) | (with_reducible refine Below.drew ?_) | (with_reducible refine Below.alloc ?_ ?_ _) | (with_reducible refine Below.setCell ?_ ?_ _) | (simp; done) | omega | (simp; omega))) (by omega)
      have yA := Nat.lt_of_lt_of_le xA hzr
      have yB := Nat.lt_of_lt_of_le xB hzr
      have yF := Nat.lt_of_lt_of_le xF hzr
      have yC := Nat.lt_of_lt_of_le xC hzr
      have yM := Nat.lt_of_lt_of_le xM hzr
      rw [e3.out]
      dsimp only
      refine hK.out _ _ ?_ (fun hHeld => ?_)
      · (refine ⟨?_, ?_, ?_, ?_, ?_, ?_, ?_, ?_, ?_, ?_, ?_, ?_⟩ <;> first | assumption | ((repeat' (first | (with_reducible exact Below.refl _ _) | (with_reducible assumption) | (with_reducible refine drewN_below ?_ _) | (with_reducible refine Below.drew ?_) | (with_reducible refine Below.alloc ?_ ?_ _) | (with_reducible refine Below.setCell ?_ ?_ _) | (simp; done) | omega | (simp; omega))); done) | (simp [*]; done) | (simp [go_sem, *]; done) | (simp; omega))
      clear hK K
      (try simp only [Act.put, List.getElem_toArray, List.getElem_cons_succ, List.getElem_cons_zero, List.setIfInBounds_toArray, List.set_cons_zero, List.set_cons_succ])
      refine wpAnyH_take (i := 29) (v := ?_) rfl (by kernel_rfl) (by kernel_rfl) (by kernel_rfl) (fun _ _ _ h => h) (Or.inl ⟨by rfl, ?_⟩) (by assumption) ?_
      rotate_left
      focus (intro wq hSq; (try dsimp only at hSq); go_simp; first | done | (with_reducible rfl))
      (try simp only [Act.put, List.getElem_toArray, List.getElem_cons_succ, List.getElem_cons_zero, List.setIfInBounds_toArray, List.set_cons_zero, List.set_cons_succ])
      refine wpAnyH_take (i := 30) (v := ?_) rfl (by kernel_rfl) (by kernel_rfl) (by kernel_rfl) (fun _ _ _ h => h) (Or.inl ⟨by rfl, ?_⟩) (by assumption) ?_
      rotate_left
      focus (intro wq hSq; (try dsimp only at hSq); go_simp; first | done | (with_reducible rfl))
      (try simp only [Act.put, List.getElem_toArray, List.getElem_cons_succ, List.getElem_cons_zero, List.setIfInBounds_toArray, List.set_cons_zero, List.set_cons_succ])
      refine wpAnyH_take (i := 31) (v := ?_) rfl (by kernel_rfl) (by kernel_rfl) (by kernel_rfl) (fun _ _ _ h => h) (Or.inl ⟨by rfl, ?_⟩) (by assumption) ?_
      rotate_left
      focus (intro wq hSq; (try dsimp only at hSq); go_simp; first | done | (with_reducible rfl))
      (try simp only [Act.put, List.getElem_toArray, List.getElem_cons_succ, List.getElem_cons_zero, List.setIfInBounds_toArray, List.set_cons_zero, List.set_cons_succ])
      refine wpAnyH_done (by kernel_rfl) ?_ _
      obtain ⟨s0, s1, s2, s3, s4, s5, s6, s7, s8, s9, s10, s11⟩ := (by assumption : wr.cell? ⟨w.heap.size, 0, none⟩ = some (.int .i64 an) ∧ wr.cell? ⟨w.heap.size, 1, none⟩ = some (.int .i64 ad) ∧ wr.cell? ⟨w.heap.size + 1, 0, none⟩ = some (.int .i64 bn) ∧ wr.cell? ⟨w.heap.size + 1, 1, none⟩ = some (.int .i64 bd) ∧ wr.cell? ⟨w2.heap.size, 0, none⟩ = some (.int .i64 fn) ∧ wr.cell? ⟨w2.heap.size, 1, none⟩ = some (.int .i64 fd) ∧ wr.cell? ⟨w3.heap.size, 0, none⟩ = some (.int .i64 rn) ∧ wr.cell? ⟨w3.heap.size, 1, none⟩ = some (.int .i64 rd) ∧ wr.cell? ⟨w5.heap.size, 0, none⟩ = some (.int .i64 mn) ∧ wr.cell? ⟨w5.heap.size, 1, none⟩ = some (.int .i64 md) ∧ w5.heap.size + 1 ≤ wr.heap.size ∧ Below w5.heap.size w5 wr)
      have cA0w6 := s0
      have cA1w6 := s1
      have cB0w6 := s2
      have cB1w6 := s3
      have cF0w6 := s4
      have cF1w6 := s5
      have cC0w6 := s6
      have cC1w6 := s7
      have cM0w6 := s8
      have cM1w6 := s9
      have bAw6 : w.heap.size < wr.heap.size := Nat.lt_of_lt_of_le xA s10
      have dAw6 : w.heap.size < wr.heap.size + 1 := Nat.lt_succ_of_lt bAw6
      have bBw6 : w.heap.size + 1 < wr.heap.size := Nat.lt_of_lt_of_le xB s10
      have dBw6 : w.heap.size + 1 < wr.heap.size + 1 := Nat.lt_succ_of_lt bBw6
      have bFw6 : w2.heap.size < wr.heap.size := Nat.lt_of_lt_of_le xF s10
      have dFw6 : w2.heap.size < wr.heap.size + 1 := Nat.lt_succ_of_lt bFw6
      have bCw6 : w3.heap.size < wr.heap.size := Nat.lt_of_lt_of_le xC s10
      have dCw6 : w3.heap.size < wr.heap.size + 1 := Nat.lt_succ_of_lt bCw6
      have bMw6 : w5.heap.size < wr.heap.size := Nat.lt_of_lt_of_le xM s10
      have dMw6 : w5.heap.size < wr.heap.size + 1 := Nat.lt_succ_of_lt bMw6
      have hBw6 : Below w.heap.size w wr := Below.trans hBw5 (s11.mono hBw5.size)
      have zw6 : w.heap.size ≤ wr.heap.size := hBw6.size
      clear s0 s1 s2 s3 s4 s5 s6 s7 s8 s9 s10 s11 xA xB xF xC xM hcr hfr hzr hBr hbr zw5 hBw5 dCw5 bCw5 cC1w5 cC0w5 dFw5 bFw5 cF1w5 cF0w5 dBw5 bBw5 cB1w5 cB0w5 dAw5 bAw5 cA1w5 cA0w5
      repeat (clear hcr hfr hzr hBr hbr)
      skip
      obtain ⟨w6, ew6⟩ : ∃ x, x = wr := ⟨_, rfl⟩
      subst ew6
      go_wp2_with fail
      refine (round_any _ _ _).mono ?_
      rintro e w7 ⟨rfl, hw7⟩
      have hmw7 : Below w6.heap.size w6 w7 := on_below hw7 (by repeat' (first | (with_reducible exact Below.refl _ _) | (with_reducible assumption) | (with_reducible refine drewN_below ?_ _) | (with_reducible refine Below.drew ?_) | (with_reducible refine Below.alloc ?_ ?_ _) | (with_reducible refine Below.setCell ?_ ?_ _) | (simp; done) | omega | (simp; omega))) (by first | (with_reducible assumption) | (simp; done) | omega | (simp; omega))
      have cA0w7 := (hmw7.cell (p := ⟨w.heap.size, 0, none⟩) bAw6).trans cA0w6
      have cA1w7 := (hmw7.cell (p := ⟨w.heap.size, 1, none⟩) bAw6).trans cA1w6
      have bAw7 : w.heap.size < w7.heap.size := Nat.lt_of_lt_of_le bAw6 hmw7.size
      have dAw7 : w.heap.size < w7.heap.size + 1 := Nat.lt_succ_of_lt bAw7
      have cB0w7 := (hmw7.cell (p := ⟨w.heap.size + 1, 0, none⟩) bBw6).trans cB0w6
      have cB1w7 := (hmw7.cell (p := ⟨w.heap.size + 1, 1, none⟩) bBw6).trans cB1w6
      have bBw7 : w.heap.size + 1 < w7.heap.size := Nat.lt_of_lt_of_le bBw6 hmw7.size
      have dBw7 : w.heap.size + 1 < w7.heap.size + 1 := Nat.lt_succ_of_lt bBw7
      have cF0w7 := (hmw7.cell (p := ⟨w2.heap.size, 0, none⟩) bFw6).trans cF0w6
      have cF1w7 := (hmw7.cell (p := ⟨w2.heap.size, 1, none⟩) bFw6).trans cF1w6
      have bFw7 : w2.heap.size < w7.heap.size := Nat.lt_of_lt_of_le bFw6 hmw7.size
      have dFw7 : w2.heap.size < w7.heap.size + 1 := Nat.lt_succ_of_lt bFw7
      have cC0w7 := (hmw7.cell (p := ⟨w3.heap.size, 0, none⟩) bCw6).trans cC0w6
      have cC1w7 := (hmw7.cell (p := ⟨w3.heap.size, 1, none⟩) bCw6).trans cC1w6
      have bCw7 : w3.heap.size < w7.heap.size := Nat.lt_of_lt_of_le bCw6 hmw7.size
      have dCw7 : w3.heap.size < w7.heap.size + 1 := Nat.lt_succ_of_lt bCw7
      have cM0w7 := (hmw7.cell (p := ⟨w5.heap.size, 0, none⟩) bMw6).trans cM0w6
      have cM1w7 := (hmw7.cell (p := ⟨w5.heap.size, 1, none⟩) bMw6).trans cM1w6
      have bMw7 : w5.heap.size < w7.heap.size := Nat.lt_of_lt_of_le bMw6 hmw7.size
      have dMw7 : w5.heap.size < w7.heap.size + 1 := Nat.lt_succ_of_lt bMw7
      have hBw7 : Below w.heap.size w w7 := Below.trans hBw6 (hmw7.mono hBw6.size)
      have zw7 : w.heap.size ≤ w7.heap.size := hBw7.size
      clear hmw7 hw7 zw6 hBw6 dMw6 bMw6 dCw6 bCw6 dFw6 bFw6 dBw6 bBw6 dAw6 bAw6 cM1w6 cM0w6 cC1w6 cC0w6 cF1w6 cF0w6 cB1w6 cB0w6 cA1w6 cA0w6
      rw [eu.out]
      go_wp2_with fail
      refine (sub_any _ _ _ _ _).mono ?_
      rintro e w8 ⟨rfl, hw8⟩
      have hmw8 : Below w7.heap.size w7 w8 := on_below hw8 (by repeat' (first | (with_reducible exact Below.refl _ _) | (with_reducible assumption) | (with_reducible refine drewN_below ?_ _) | (with_reducible refine Below.drew ?_) | (with_reducible refine Below.alloc ?_ ?_ _) | (with_reducible refine Below.setCell ?_ ?_ _) | (simp; done) | omega | (simp; omega))) (by first | (with_reducible assumption) | (simp; done) | omega | (simp; omega))
      have cA0w8 := (hmw8.cell (p := ⟨w.heap.size, 0, none⟩) bAw7).trans cA0w7
      have cA1w8 := (hmw8.cell (p := ⟨w.heap.size, 1, none⟩) bAw7).trans cA1w7
      have bAw8 : w.heap.size < w8.heap.size := Nat.lt_of_lt_of_le bAw7 hmw8.size
      have dAw8 : w.heap.size < w8.heap.size + 1 := Nat.lt_succ_of_lt bAw8
      have cB0w8 := (hmw8.cell (p := ⟨w.heap.size + 1, 0, none⟩) bBw7).trans cB0w7
      have cB1w8 := (hmw8.cell (p := ⟨w.heap.size + 1, 1, none⟩) bBw7).trans cB1w7
      have bBw8 : w.heap.size + 1 < w8.heap.size := Nat.lt_of_lt_of_le bBw7 hmw8.size
      have dBw8 : w.heap.size + 1 < w8.heap.size + 1 := Nat.lt_succ_of_lt bBw8
      have cF0w8 := (hmw8.cell (p := ⟨w2.heap.size, 0, none⟩) bFw7).trans cF0w7
      have cF1w8 := (hmw8.cell (p := ⟨w2.heap.size, 1, none⟩) bFw7).trans cF1w7
      have bFw8 : w2.heap.size < w8.heap.size := Nat.lt_of_lt_of_le bFw7 hmw8.size
      have dFw8 : w2.heap.size < w8.heap.size + 1 := Nat.lt_succ_of_lt bFw8
      have cC0w8 := (hmw8.cell (p := ⟨w3.heap.size, 0, none⟩) bCw7).trans cC0w7
      have cC1w8 := (hmw8.cell (p := ⟨w3.heap.size, 1, none⟩) bCw7).trans cC1w7
      have bCw8 : w3.heap.size < w8.heap.size := Nat.lt_of_lt_of_le bCw7 hmw8.size
      have dCw8 : w3.heap.size < w8.heap.size + 1 := Nat.lt_succ_of_lt bCw8
      have cM0w8 := (hmw8.cell (p := ⟨w5.heap.size, 0, none⟩) bMw7).trans cM0w7
      have cM1w8 := (hmw8.cell (p := ⟨w5.heap.size, 1, none⟩) bMw7).trans cM1w7
      have bMw8 : w5.heap.size < w8.heap.size := Nat.lt_of_lt_of_le bMw7 hmw8.size
      have dMw8 : w5.heap.size < w8.heap.size + 1 := Nat.lt_succ_of_lt bMw8
      have cU0w8 : w8.cell? ⟨w7.heap.size, 0, none⟩ = some (.int .i64 un) := by rw [hw8.cell (p := ⟨w7.heap.size, 0, none⟩) (by first | (with_reducible assumption) | (simp; done) | omega | (simp; omega))]; simp [go_sem]
      have cU1w8 : w8.cell? ⟨w7.heap.size, 1, none⟩ = some (.int .i64 ud) := by rw [hw8.cell (p := ⟨w7.heap.size, 1, none⟩) (by first | (with_reducible assumption) | (simp; done) | omega | (simp; omega))]; simp [go_sem]
      have bUw8 : w7.heap.size < w8.heap.size := by have := hw8.size; first | omega | (simp at this; omega)
      have dUw8 : w7.heap.size < w8.heap.size + 1 := Nat.lt_succ_of_lt bUw8
      have hBw8 : Below w.heap.size w w8 := Below.trans hBw7 (hmw8.mono hBw7.size)
      have zw8 : w.heap.size ≤ w8.heap.size := hBw8.size
      clear hmw8 hw8 zw7 hBw7 dMw7 bMw7 cM1w7 cM0w7 dCw7 bCw7 cC1w7 cC0w7 dFw7 bFw7 cF1w7 cF0w7 dBw7 bBw7 cB1w7 cB0w7 dAw7 bAw7 cA1w7 cA0w7
      rw [es.out]
      go_wp2_with fail
      refine (abs_any _ _ _).mono ?_
      rintro e w9 ⟨rfl, hw9⟩
      have hmw9 : Below w8.heap.size w8 w9 := on_below hw9 (by repeat' (first | (with_reducible exact Below.refl _ _) | (with_reducible assumption) | (with_reducible refine drewN_below ?_ _) | (with_reducible refine Below.drew ?_) | (with_reducible refine Below.alloc ?_ ?_ _) | (with_reducible refine Below.setCell ?_ ?_ _) | (simp; done) | omega | (simp; omega))) (by first | (with_reducible assumption) | (simp; done) | omega | (simp; omega))
      have cA0w9 := (hmw9.cell (p := ⟨w.heap.size, 0, none⟩) bAw8).trans cA0w8
      have cA1w9 := (hmw9.cell (p := ⟨w.heap.size, 1, none⟩) bAw8).trans cA1w8
      have bAw9 : w.heap.size < w9.heap.size := Nat.lt_of_lt_of_le bAw8 hmw9.size
      have dAw9 : w.heap.size < w9.heap.size + 1 := Nat.lt_succ_of_lt bAw9
      have cB0w9 := (hmw9.cell (p := ⟨w.heap.size + 1, 0, none⟩) bBw8).trans cB0w8
      have cB1w9 := (hmw9.cell (p := ⟨w.heap.size + 1, 1, none⟩) bBw8).trans cB1w8
      have bBw9 : w.heap.size + 1 < w9.heap.size := Nat.lt_of_lt_of_le bBw8 hmw9.size
      have dBw9 : w.heap.size + 1 < w9.heap.size + 1 := Nat.lt_succ_of_lt bBw9
      have cF0w9 := (hmw9.cell (p := ⟨w2.heap.size, 0, none⟩) bFw8).trans cF0w8
      have cF1w9 := (hmw9.cell (p := ⟨w2.heap.size, 1, none⟩) bFw8).trans cF1w8
      have bFw9 : w2.heap.size < w9.heap.size := Nat.lt_of_lt_of_le bFw8 hmw9.size
      have dFw9 : w2.heap.size < w9.heap.size + 1 := Nat.lt_succ_of_lt bFw9
      have cC0w9 := (hmw9.cell (p := ⟨w3.heap.size, 0, none⟩) bCw8).trans cC0w8
      have cC1w9 := (hmw9.cell (p := ⟨w3.heap.size, 1, none⟩) bCw8).trans cC1w8
      have bCw9 : w3.heap.size < w9.heap.size := Nat.lt_of_lt_of_le bCw8 hmw9.size
      have dCw9 : w3.heap.size < w9.heap.size + 1 := Nat.lt_succ_of_lt bCw9
      have cM0w9 := (hmw9.cell (p := ⟨w5.heap.size, 0, none⟩) bMw8).trans cM0w8
      have cM1w9 := (hmw9.cell (p := ⟨w5.heap.size, 1, none⟩) bMw8).trans cM1w8
      have bMw9 : w5.heap.size < w9.heap.size := Nat.lt_of_lt_of_le bMw8 hmw9.size
      have dMw9 : w5.heap.size < w9.heap.size + 1 := Nat.lt_succ_of_lt bMw9
      have cU0w9 := (hmw9.cell (p := ⟨w7.heap.size, 0, none⟩) bUw8).trans cU0w8
      have cU1w9 := (hmw9.cell (p := ⟨w7.heap.size, 1, none⟩) bUw8).trans cU1w8
      have bUw9 : w7.heap.size < w9.heap.size := Nat.lt_of_lt_of_le bUw8 hmw9.size
      have dUw9 : w7.heap.size < w9.heap.size + 1 := Nat.lt_succ_of_lt bUw9
      have hBw9 : Below w.heap.size w w9 := Below.trans hBw8 (hmw9.mono hBw8.size)
      have zw9 : w.heap.size ≤ w9.heap.size := hBw9.size
      clear hmw9 hw9 zw8 hBw8 dUw8 bUw8 cU1w8 cU0w8 dMw8 bMw8 cM1w8 cM0w8 dCw8 bCw8 cC1w8 cC0w8 dFw8 bFw8 cF1w8 cF0w8 dBw8 bBw8 cB1w8 cB0w8 dAw8 bAw8 cA1w8 cA0w8
      rw [et.out]
      go_wp2_with fail
      refine (cmp_any _ _ _ _ _).mono ?_
      rintro e w10 ⟨rfl, hw10⟩
      have hmw10 : Below w9.heap.size w9 w10 := on_below hw10 (by repeat' (first | (with_reducible exact Below.refl _ _) | (with_reducible assumption) | (with_reducible refine drewN_below ?_ _) | (with_reducible refine Below.drew ?_) | (with_reducible refine Below.alloc ?_ ?_ _) | (with_reducible refine Below.setCell ?_ ?_ _) | (simp; done) | omega | (simp; omega))) (by first | (with_reducible assumption) | (simp; done) | omega | (simp; omega))
      have cA0w10 := (hmw10.cell (p := ⟨w.heap.size, 0, none⟩) bAw9).trans cA0w9
      have cA1w10 := (hmw10.cell (p := ⟨w.heap.size, 1, none⟩) bAw9).trans cA1w9
      have bAw10 : w.heap.size < w10.heap.size := Nat.lt_of_lt_of_le bAw9 hmw10.size
      have dAw10 : w.heap.size < w10.heap.size + 1 := Nat.lt_succ_of_lt bAw10
      have cB0w10 := (hmw10.cell (p := ⟨w.heap.size + 1, 0, none⟩) bBw9).trans cB0w9
      have cB1w10 := (hmw10.cell (p := ⟨w.heap.size + 1, 1, none⟩) bBw9).trans cB1w9
      have bBw10 : w.heap.size + 1 < w10.heap.size := Nat.lt_of_lt_of_le bBw9 hmw10.size
      have dBw10 : w.heap.size + 1 < w10.heap.size + 1 := Nat.lt_succ_of_lt bBw10
      have cF0w10 := (hmw10.cell (p := ⟨w2.heap.size, 0, none⟩) bFw9).trans cF0w9
      have cF1w10 := (hmw10.cell (p := ⟨w2.heap.size, 1, none⟩) bFw9).trans cF1w9
      have bFw10 : w2.heap.size < w10.heap.size := Nat.lt_of_lt_of_le bFw9 hmw10.size
      have dFw10 : w2.heap.size < w10.heap.size + 1 := Nat.lt_succ_of_lt bFw10
      have cC0w10 := (hmw10.cell (p := ⟨w3.heap.size, 0, none⟩) bCw9).trans cC0w9
      have cC1w10 := (hmw10.cell (p := ⟨w3.heap.size, 1, none⟩) bCw9).trans cC1w9
      have bCw10 : w3.heap.size < w10.heap.size := Nat.lt_of_lt_of_le bCw9 hmw10.size
      have dCw10 : w3.heap.size < w10.heap.size + 1 := Nat.lt_succ_of_lt bCw10
      have cM0w10 := (hmw10.cell (p := ⟨w5.heap.size, 0, none⟩) bMw9).trans cM0w9
      have cM1w10 := (hmw10.cell (p := ⟨w5.heap.size, 1, none⟩) bMw9).trans cM1w9
      have bMw10 : w5.heap.size < w10.heap.size := Nat.lt_of_lt_of_le bMw9 hmw10.size
      have dMw10 : w5.heap.size < w10.heap.size + 1 := Nat.lt_succ_of_lt bMw10
      have cU0w10 := (hmw10.cell (p := ⟨w7.heap.size, 0, none⟩) bUw9).trans cU0w9
      have cU1w10 := (hmw10.cell (p := ⟨w7.heap.size, 1, none⟩) bUw9).trans cU1w9
      have bUw10 : w7.heap.size < w10.heap.size := Nat.lt_of_lt_of_le bUw9 hmw10.size
      have dUw10 : w7.heap.size < w10.heap.size + 1 := Nat.lt_succ_of_lt bUw10
      have hBw10 : Below w.heap.size w w10 := Below.trans hBw9 (hmw10.mono hBw9.size)
      have zw10 : w.heap.size ≤ w10.heap.size := hBw10.size
      clear hmw10 hw10 zw9 hBw9 dUw9 bUw9 cU1w9 cU0w9 dMw9 bMw9 cM1w9 cM0w9 dCw9 bCw9 cC1w9 cC0w9 dFw9 bFw9 cF1w9 cF0w9 dBw9 bBw9 cB1w9 cB0w9 dAw9 bAw9 cA1w9 cA0w9
      rw [e2.out]
      go_wp2_with fail
      refine (awake_any _).mono ?_
      rintro e w11 ⟨rfl, hw11⟩
      have hmw11 : Below w10.heap.size w10 w11 := on_below hw11 (by repeat' (first | (with_reducible exact Below.refl _ _) | (with_reducible assumption) | (with_reducible refine drewN_below ?_ _) | (with_reducible refine Below.drew ?_) | (with_reducible refine Below.alloc ?_ ?_ _) | (with_reducible refine Below.setCell ?_ ?_ _) | (simp; done) | omega | (simp; omega))) (by first | (with_reducible assumption) | (simp; done) | omega | (simp; omega))
      have cA0w11 := (hmw11.cell (p := ⟨w.heap.size, 0, none⟩) bAw10).trans cA0w10
      have cA1w11 := (hmw11.cell (p := ⟨w.heap.size, 1, none⟩) bAw10).trans cA1w10
      have bAw11 : w.heap.size < w11.heap.size := Nat.lt_of_lt_of_le bAw10 hmw11.size
      have dAw11 : w.heap.size < w11.heap.size + 1 := Nat.lt_succ_of_lt bAw11
      have cB0w11 := (hmw11.cell (p := ⟨w.heap.size + 1, 0, none⟩) bBw10).trans cB0w10
      have cB1w11 := (hmw11.cell (p := ⟨w.heap.size + 1, 1, none⟩) bBw10).trans cB1w10
      have bBw11 : w.heap.size + 1 < w11.heap.size := Nat.lt_of_lt_of_le bBw10 hmw11.size
      have dBw11 : w.heap.size + 1 < w11.heap.size + 1 := Nat.lt_succ_of_lt bBw11
      have cF0w11 := (hmw11.cell (p := ⟨w2.heap.size, 0, none⟩) bFw10).trans cF0w10
      have cF1w11 := (hmw11.cell (p := ⟨w2.heap.size, 1, none⟩) bFw10).trans cF1w10
      have bFw11 : w2.heap.size < w11.heap.size := Nat.lt_of_lt_of_le bFw10 hmw11.size
      have dFw11 : w2.heap.size < w11.heap.size + 1 := Nat.lt_succ_of_lt bFw11
      have cC0w11 := (hmw11.cell (p := ⟨w3.heap.size, 0, none⟩) bCw10).trans cC0w10
      have cC1w11 := (hmw11.cell (p := ⟨w3.heap.size, 1, none⟩) bCw10).trans cC1w10
      have bCw11 : w3.heap.size < w11.heap.size := Nat.lt_of_lt_of_le bCw10 hmw11.size
      have dCw11 : w3.heap.size < w11.heap.size + 1 := Nat.lt_succ_of_lt bCw11
      have cM0w11 := (hmw11.cell (p := ⟨w5.heap.size, 0, none⟩) bMw10).trans cM0w10
      have cM1w11 := (hmw11.cell (p := ⟨w5.heap.size, 1, none⟩) bMw10).trans cM1w10
      have bMw11 : w5.heap.size < w11.heap.size := Nat.lt_of_lt_of_le bMw10 hmw11.size
      have dMw11 : w5.heap.size < w11.heap.size + 1 := Nat.lt_succ_of_lt bMw11
      have cU0w11 := (hmw11.cell (p := ⟨w7.heap.size, 0, none⟩) bUw10).trans cU0w10
      have cU1w11 := (hmw11.cell (p := ⟨w7.heap.size, 1, none⟩) bUw10).trans cU1w10
      have bUw11 : w7.heap.size < w11.heap.size := Nat.lt_of_lt_of_le bUw10 hmw11.size
      have dUw11 : w7.heap.size < w11.heap.size + 1 := Nat.lt_succ_of_lt bUw11
      have hBw11 : Below w.heap.size w w11 := Below.trans hBw10 (hmw11.mono hBw10.size)
      have zw11 : w.heap.size ≤ w11.heap.size := hBw11.size
      clear hmw11 hw11 zw10 hBw10 dUw10 bUw10 cU1w10 cU0w10 dMw10 bMw10 cM1w10 cM0w10 dCw10 bCw10 cC1w10 cC0w10 dFw10 bFw10 cF1w10 cF0w10 dBw10 bBw10 cB1w10 cB0w10 dAw10 bAw10 cA1w10 cA0w10
      go_wp2
      go_ret
      exact ⟨rfl, (by repeat' (first | (with_reducible exact Below.refl _ _) | (with_reducible assumption) | (with_reducible refine drewN_below ?_ _) | (with_reducible refine Below.drew ?_) | (with_reducible refine Below.alloc ?_ ?_ _) | (with_reducible refine Below.setCell ?_ ?_ _) | (simp; done) | omega | (simp; omega)))⟩
    · have u1 : decide (mn < 0) = false := by simp; omega
      by_cases g2 : 0 < mn
      · have u4 : decide (0 < mn) = true := by simp [g2]
        have u2 : decide (bn < 0) = false := by simp; omega
        clear m1 m2 m3 g1 g2
        have xA : w.heap.size < w5.heap.size + 1 := by omega
        have xB : w.heap.size + 1 < w5.heap.size + 1 := by omega
        have xF : w2.heap.size < w5.heap.size + 1 := by omega
        have xC : w3.heap.size < w5.heap.size + 1 := by omega
        have xM : w5.heap.size < w5.heap.size + 1 := by omega
        refine wp_region_held_drew (S := (fun w' => w'.cell? ⟨w.heap.size, 0, none⟩ = some (.int .i64 an) ∧ w'.cell? ⟨w.heap.size, 1, none⟩ = some (.int .i64 ad) ∧ w'.cell? ⟨w.heap.size + 1, 0, none⟩ = some (.int .i64 bn) ∧ w'.cell? ⟨w.heap.size + 1, 1, none⟩ = some (.int .i64 bd) ∧ w'.cell? ⟨w2.heap.size, 0, none⟩ = some (.int .i64 fn) ∧ w'.cell? ⟨w2.heap.size, 1, none⟩ = some (.int .i64 fd) ∧ w'.cell? ⟨w3.heap.size, 0, none⟩ = some (.int .i64 rn) ∧ w'.cell? ⟨w3.heap.size, 1, none⟩ = some (.int .i64 rd) ∧ w'.cell? ⟨w5.heap.size, 0, none⟩ = some (.int .i64 mn) ∧ w'.cell? ⟨w5.heap.size, 1, none⟩ = some (.int .i64 md) ∧ w5.heap.size + 1 ≤ w'.heap.size ∧ Below w5.heap.size w5 w')) (by kernel_rfl) ?_ ?_
        · (refine ⟨?_, ?_, ?_, ?_, ?_, ?_, ?_, ?_, ?_, ?_, ?_, ?_⟩ <;> first | assumption | ((repeat' (first | (with_reducible exact Below.refl _ _) | (with_reducible assumption) | (with_reducible refine drewN_below ?_ _) | (with_reducible refine Below.drew ?_) | (with_reducible refine Below.alloc ?_ ?_ _) | (with_reducible refine Below.setCell ?_ ?_ _) | (simp; done) | omega | (simp; omega))); done) | (simp [*]; done) | (simp [go_sem, *]; done) | (simp; omega))
        intro hH0
        refine wpAnyH_take (i := 0) (v := ?_) rfl (by kernel_rfl) (by kernel_rfl) (by kernel_rfl) (fun _ _ _ h => h) (Or.inl ⟨by rfl, ?_⟩) (by assumption) ?_
        rotate_left
        focus (intro wq hSq; (try dsimp only at hSq); go_simp; first | done | (with_reducible rfl))
        (try simp only [Act.put, List.getElem_toArray, List.getElem_cons_zero, List.setIfInBounds_toArray, List.set_cons_zero, List.set_cons_succ])
        refine wpAnyH_take (i := 1) (v := ?_) rfl (by kernel_rfl) (by kernel_rfl) (by kernel_rfl) (fun _ _ _ h => h) (Or.inl ⟨by rfl, ?_⟩) (by assumption) ?_
        rotate_left
        focus (intro wq hSq; (try dsimp only at hSq); go_simp; first | done | (with_reducible rfl))
        (try simp only [Act.put, List.getElem_toArray, List.getElem_cons_succ, List.getElem_cons_zero, List.setIfInBounds_toArray, List.set_cons_zero, List.set_cons_succ])
        refine wpAnyH_ready (rs := [2]) (by kernel_rfl) (by simp) ?_
        refine AllReadyH.cons rfl (fun K hK => ?_) AllReadyH.nil
        rw [if_pos (by rfl)]
        go_simp
        refine hK.out _ _ ?_ (fun hHeld => ?_)
        · (refine ⟨?_, ?_, ?_, ?_, ?_, ?_, ?_, ?_, ?_, ?_, ?_, ?_⟩ <;> first | assumption | ((repeat' (first | (with_reducible exact Below.refl _ _) | (with_reducible assumption) | (with_reducible refine drewN_below ?_ _) | (with_reducible refine Below.drew ?_) | (with_reducible refine Below.alloc ?_ ?_ _) | (with_reducible refine Below.setCell ?_ ?_ _) | (simp; done) | omega | (simp; omega))); done) | (simp [*]; done) | (simp [go_sem, *]; done) | (simp; omega))
        clear hK K
        (try simp only [Act.put, List.getElem_toArray, List.getElem_cons_succ, List.getElem_cons_zero, List.setIfInBounds_toArray, List.set_cons_zero, List.set_cons_succ])
        refine wpAnyH_ready (rs := [3]) (by kernel_rfl) (by simp) ?_
        refine AllReadyH.cons rfl (fun K hK => ?_) AllReadyH.nil
        rw [if_pos (by rfl)]
        go_simp
        refine (numbers2 mn md bn bd _ _ (by simp [go_sem]) (by simp [go_sem]) (by simp [go_sem]) (by simp [go_sem]) (by simp)).mono ?_
        rintro e wr ⟨rfl, hbr⟩
        obtain ⟨hcr, hfr, hzr, hBr⟩ := after (a := w5) (B := w5.heap.size) (w5.heap.size + 1) hbr (by first | (with_reducible assumption) | (simp; done) | omega | (simp; omega)) (by repeat' (first | (with_reducible exact Below.refl _ _) | (with_reducible assumption) | (with_reducible refine drewN_below ?_ _) | (with_reducible refine Below.drew ?_) | (with_reducible refine Below.alloc ?_ ?_ _) | (with_reducible refine Below.setCell ?_ ?_ _) | (simp; done) | omega | (simp; omega))) (by omega)
        have yA := Nat.lt_of_lt_of_le xA hzr
        have yB := Nat.lt_of_lt_of_le xB hzr
        have yF := Nat.lt_of_lt_of_le xF hzr
        have yC := Nat.lt_of_lt_of_le xC hzr
        have yM := Nat.lt_of_lt_of_le xM hzr
        rw [hq]
        dsimp only
        refine hK.out _ _ ?_ (fun hHeld => ?_)
        · (refine ⟨?_, ?_, ?_, ?_, ?_, ?_, ?_, ?_, ?_, ?_, ?_, ?_⟩ <;> first | assumption | ((repeat' (first | (with_reducible exact Below.refl _ _) | (with_reducible assumption) | (with_reducible refine drewN_below ?_ _) | (with_reducible refine Below.drew ?_) | (with_reducible refine Below.alloc ?_ ?_ _) | (with_reducible refine Below.setCell ?_ ?_ _) | (simp; done) | omega | (simp; omega))); done) | (simp [*]; done) | (simp [go_sem, *]; done) | (simp; omega))
        clear hK K
        (try simp only [Act.put, List.getElem_toArray, List.getElem_cons_succ, List.getElem_cons_zero, List.setIfInBounds_toArray, List.set_cons_zero, List.set_cons_succ])
        refine wpAnyH_take (i := 4) (v := ?_) rfl (by kernel_rfl) (by kernel_rfl) (by kernel_rfl) (fun _ _ _ h => h) (Or.inl ⟨by rfl, ?_⟩) (by assumption) ?_
        rotate_left
        focus (intro wq hSq; (try dsimp only at hSq); go_simp; first | done | (with_reducible rfl))
        (try simp only [Act.put, List.getElem_toArray, List.getElem_cons_succ, List.getElem_cons_zero, List.setIfInBounds_toArray, List.set_cons_zero, List.set_cons_succ])
        refine wpAnyH_take (i := 5) (v := ?_) rfl (by kernel_rfl) (by kernel_rfl) (by kernel_rfl) (fun _ _ _ h => h) (Or.inl ⟨by rfl, ?_⟩) (by assumption) ?_
        rotate_left
        focus (intro wq hSq; (try dsimp only at hSq); go_simp; first | done | (with_reducible rfl))
        (try simp only [Act.put, List.getElem_toArray, List.getElem_cons_succ, List.getElem_cons_zero, List.setIfInBounds_toArray, List.set_cons_zero, List.set_cons_succ])
        refine wpAnyH_take (i := 6) (v := ?_) rfl (by kernel_rfl) (by kernel_rfl) (by kernel_rfl) (fun _ _ _ h => h) (Or.inl ⟨by rfl, ?_⟩) (by assumption) ?_
        rotate_left
        focus (intro wq hSq; (try dsimp only at hSq); go_simp; first | done | (with_reducible rfl))
        (try simp only [Act.put, List.getElem_toArray, List.getElem_cons_succ, List.getElem_cons_zero, List.setIfInBounds_toArray, List.set_cons_zero, List.set_cons_succ])
        refine wpAnyH_take (i := 7) (v := ?_) rfl (by kernel_rfl) (by kernel_rfl) (by kernel_rfl) (fun _ _ _ h => h) (Or.inl ⟨by rfl, ?_⟩) (by assumption) ?_
        rotate_left
        focus (intro wq hSq; (try dsimp only at hSq); go_simp; first | done | (with_reducible rfl))
        (try simp only [Act.put, List.getElem_toArray, List.getElem_cons_succ, List.getElem_cons_zero, List.setIfInBounds_toArray, List.set_cons_zero, List.set_cons_succ])
        refine wpAnyH_take (i := 8) (v := ?_) rfl (by kernel_rfl) (by kernel_rfl) (by kernel_rfl) (fun _ _ _ h => h) (Or.inl ⟨by rfl, ?_⟩) (by assumption) ?_
        rotate_left
        focus (intro wq hSq; (try dsimp only at hSq); go_simp; first | done | (with_reducible rfl))
        (try simp only [Act.put, List.getElem_toArray, List.getElem_cons_succ, List.getElem_cons_zero, List.setIfInBounds_toArray, List.set_cons_zero, List.set_cons_succ])
        refine wpAnyH_take (i := 9) (v := undef) rfl (by kernel_rfl) (by kernel_rfl) (by kernel_rfl) (fun _ _ _ h => h) (Or.inr ⟨by rfl, rfl⟩) (by assumption) ?_
        (try simp only [Act.put, List.getElem_toArray, List.getElem_cons_succ, List.getElem_cons_zero, List.setIfInBounds_toArray, List.set_cons_zero, List.set_cons_succ])
        refine wpAnyH_take (i := 10) (v := undef) rfl (by kernel_rfl) (by kernel_rfl) (by kernel_rfl) (fun _ _ _ h => h) (Or.inr ⟨by rfl, rfl⟩) (by assumption) ?_
        (try simp only [Act.put, List.getElem_toArray, List.getElem_cons_succ, List.getElem_cons_zero, List.setIfInBounds_toArray, List.set_cons_zero, List.set_cons_succ])
        refine wpAnyH_take (i := 11) (v := undef) rfl (by kernel_rfl) (by kernel_rfl) (by kernel_rfl) (fun _ _ _ h => h) (Or.inr ⟨by rfl, rfl⟩) (by assumption) ?_
        (try simp only [Act.put, List.getElem_toArray, List.getElem_cons_succ, List.getElem_cons_zero, List.setIfInBounds_toArray, List.set_cons_zero, List.set_cons_succ])
        refine wpAnyH_take (i := 12) (v := ?_) rfl (by kernel_rfl) (by kernel_rfl) (by kernel_rfl) (fun _ _ _ h => h) (Or.inl ⟨by rfl, ?_⟩) (by assumption) ?_
        rotate_left
        focus (intro wq hSq; (try dsimp only at hSq); go_simp; first | done | (with_reducible rfl))
        (try simp only [Act.put, List.getElem_toArray, List.getElem_cons_succ, List.getElem_cons_zero, List.setIfInBounds_toArray, List.set_cons_zero, List.set_cons_succ])
        refine wpAnyH_take (i := 13) (v := ?_) rfl (by kernel_rfl) (by kernel_rfl) (by kernel_rfl) (fun _ _ _ h => h) (Or.inl ⟨by rfl, ?_⟩) (by assumption) ?_
        rotate_left
        focus (intro wq hSq; (try dsimp only at hSq); go_simp; first | done | (with_reducible rfl))
        (try simp only [Act.put, List.getElem_toArray, List.getElem_cons_succ, List.getElem_cons_zero, List.setIfInBounds_toArray, List.set_cons_zero, List.set_cons_succ])
        refine wpAnyH_take (i := 14) (v := ?_) rfl (by kernel_rfl) (by kernel_rfl) (by kernel_rfl) (fun _ _ _ h => h) (Or.inl ⟨by rfl, ?_⟩) (by assumption) ?_
        rotate_left
        focus (intro wq hSq; (try dsimp only at hSq); go_simp; first | done | (with_reducible rfl))
        (try simp only [Act.put, List.getElem_toArray, List.getElem_cons_succ, List.getElem_cons_zero, List.setIfInBounds_toArray, List.set_cons_zero, List.set_cons_succ])
        refine wpAnyH_take (i := 15) (v := ?_) rfl (by kernel_rfl) (by kernel_rfl) (by kernel_rfl) (fun _ _ _ h => h) (Or.inl ⟨by rfl, ?_⟩) (by assumption) ?_
        rotate_left
        focus (intro wq hSq; (try dsimp only at hSq); go_simp; first | done | (with_reducible rfl))
        (try simp only [Act.put, List.getElem_toArray, List.getElem_cons_succ, List.getElem_cons_zero, List.setIfInBounds_toArray, List.set_cons_zero, List.set_cons_succ])
        refine wpAnyH_take (i := 16) (v := ?_) rfl (by kernel_rfl) (by kernel_rfl) (by kernel_rfl) (fun _ _ _ h => h) (Or.inl ⟨by rfl, ?_⟩) (by assumption) ?_
        rotate_left
        focus (intro wq hSq; (try dsimp only at hSq); go_simp; first | done | (with_reducible rfl))
        (try simp only [Act.put, List.getElem_toArray, List.getElem_cons_succ, List.getElem_cons_zero, List.setIfInBounds_toArray, List.set_cons_zero, List.set_cons_succ])
        refine wpAnyH_take (i := 17) (v := ?_) rfl (by kernel_rfl) (by kernel_rfl) (by kernel_rfl) (fun _ _ _ h => h) (Or.inl ⟨by rfl, ?_⟩) (by assumption) ?_
        rotate_left
        focus (intro wq hSq; (try dsimp only at hSq); go_simp; first | done | (with_reducible rfl))
        (try simp only [Act.put, List.getElem_toArray, List.getElem_cons_succ, List.getElem_cons_zero, List.setIfInBounds_toArray, List.set_cons_zero, List.set_cons_succ])
        refine wpAnyH_take (i := 18) (v := ?_) rfl (by kernel_rfl) (by kernel_rfl) (by kernel_rfl) (fun _ _ _ h => h) (Or.inl ⟨by rfl, ?_⟩) (by assumption) ?_
        rotate_left
        focus (intro wq hSq; (try dsimp only at hSq); go_simp; first | done | (with_reducible rfl))
        (try simp only [Act.put, List.getElem_toArray, List.getElem_cons_succ, List.getElem_cons_zero, List.setIfInBounds_toArray, List.set_cons_zero, List.set_cons_succ])
        refine wpAnyH_take (i := 19) (v := ?_) rfl (by kernel_rfl) (by kernel_rfl) (by kernel_rfl) (fun _ _ _ h => h) (Or.inl ⟨by rfl, ?_⟩) (by assumption) ?_
        rotate_left
        focus (intro wq hSq; (try dsimp only at hSq); go_simp; first | done | (with_reducible rfl))
        (try simp only [Act.put, List.getElem_toArray, List.getElem_cons_succ, List.getElem_cons_zero, List.setIfInBounds_toArray, List.set_cons_zero, List.set_cons_succ])
        refine wpAnyH_take (i := 20) (v := ?_) rfl (by kernel_rfl) (by kernel_rfl) (by kernel_rfl) (fun _ _ _ h => h) (Or.inl ⟨by rfl, ?_⟩) (by assumption) ?_
        rotate_left
        focus (intro wq hSq; (try dsimp only at hSq); go_simp; first | done | (with_reducible rfl))
        (try simp only [Act.put, List.getElem_toArray, List.getElem_cons_succ, List.getElem_cons_zero, List.setIfInBounds_toArray, List.set_cons_zero, List.set_cons_succ])
        refine wpAnyH_take (i := 21) (v := ?_) rfl (by kernel_rfl) (by kernel_rfl) (by kernel_rfl) (fun _ _ _ h => h) (Or.inl ⟨by rfl, ?_⟩) (by assumption) ?_
        rotate_left
        focus (intro wq hSq; (try dsimp only at hSq); go_simp; first | done | (with_reducible rfl))
        (try simp only [Act.put, List.getElem_toArray, List.getElem_cons_succ, List.getElem_cons_zero, List.setIfInBounds_toArray, List.set_cons_zero, List.set_cons_succ])
        refine wpAnyH_take (i := 22) (v := ?_) rfl (by kernel_rfl) (by kernel_rfl) (by kernel_rfl) (fun _ _ _ h => h) (Or.inl ⟨by rfl, ?_⟩) (by assumption) ?_
        rotate_left
        focus (intro wq hSq; (try dsimp only at hSq); go_simp; first | done | (with_reducible rfl))
        (try simp only [Act.put, List.getElem_toArray, List.getElem_cons_succ, List.getElem_cons_zero, List.setIfInBounds_toArray, List.set_cons_zero, List.set_cons_succ])
        refine wpAnyH_take (i := 23) (v := ?_) rfl (by kernel_rfl) (by kernel_rfl) (by kernel_rfl) (fun _ _ _ h => h) (Or.inl ⟨by rfl, ?_⟩) (by assumption) ?_
        rotate_left
        focus (intro wq hSq; (try dsimp only at hSq); go_simp; first | done | (with_reducible rfl))
        (try simp only [Act.put, List.getElem_toArray, List.getElem_cons_succ, List.getElem_cons_zero, List.setIfInBounds_toArray, List.set_cons_zero, List.set_cons_succ])
        refine wpAnyH_take (i := 24) (v := ?_) rfl (by kernel_rfl) (by kernel_rfl) (by kernel_rfl) (fun _ _ _ h => h) (Or.inl ⟨by rfl, ?_⟩) (by assumption) ?_
        rotate_left
        focus (intro wq hSq; (try dsimp only at hSq); go_simp; first | done | (with_reducible rfl))
        (try simp only [Act.put, List.getElem_toArray, List.getElem_cons_succ, List.getElem_cons_zero, List.setIfInBounds_toArray, List.set_cons_zero, List.set_cons_succ])
        refine wpAnyH_take (i := 26) (v := ?_) rfl (by kernel_rfl) (by kernel_rfl) (by kernel_rfl) (fun _ _ _ h => h) (Or.inl ⟨by rfl, ?_⟩) (by assumption) ?_
        rotate_left
        focus (intro wq hSq; (try dsimp only at hSq); go_simp; first | done | (with_reducible rfl))
        (try simp only [Act.put, List.getElem_toArray, List.getElem_cons_succ, List.getElem_cons_zero, List.setIfInBounds_toArray, List.set_cons_zero, List.set_cons_succ])
        refine wpAnyH_ready (rs := [25]) (by kernel_rfl) (by simp) ?_
        refine AllReadyH.cons rfl (fun K hK => ?_) AllReadyH.nil
        rw [if_pos (by rfl)]
        go_simp
        refine (abs_any _ _ _).mono ?_
        rintro e wr ⟨rfl, hbr⟩
        obtain ⟨hcr, hfr, hzr, hBr⟩ := after (a := w5) (B := w5.heap.size) (w5.heap.size + 1) hbr (by first | (with_reducible assumption) | (simp; done) | omega | (simp; omega)) (by repeat' (first | (with_reducible exact Below.refl _ _) | (with_reducible assumption) | (with_reducible refine drewN_below ?_ _) | (with_reducible refine Below.drew ?_) | (with_reducible refine Below.alloc ?_ ?_ _) | (with_reducible refine Below.setCell ?_ ?_ _) | (simp; done) | omega | (simp; omega))) (by omega)
        have yA := Nat.lt_of_lt_of_le xA hzr
        have yB := Nat.lt_of_lt_of_le xB hzr
        have yF := Nat.lt_of_lt_of_le xF hzr
        have yC := Nat.lt_of_lt_of_le xC hzr
        have yM := Nat.lt_of_lt_of_le xM hzr
        rw [eg.out]
        dsimp only
        refine hK.out _ _ ?_ (fun hHeld => ?_)
        · (refine ⟨?_, ?_, ?_, ?_, ?_, ?_, ?_, ?_, ?_, ?_, ?_, ?_⟩ <;> first | assumption | ((repeat' (first | (with_reducible exact Below.refl _ _) | (with_reducible assumption) | (with_reducible refine drewN_below ?_ _) | (with_reducible refine Below.drew ?_) | (with_reducible refine Below.alloc ?_ ?_ _) | (with_reducible refine Below.setCell ?_ ?_ _) | (simp; done) | omega | (simp; omega))); done) | (simp [*]; done) | (simp [go_sem, *]; done) | (simp; omega))
        clear hK K
        (try simp only [Act.put, List.getElem_toArray, List.getElem_cons_succ, List.getElem_cons_zero, List.setIfInBounds_toArray, List.set_cons_zero, List.set_cons_succ])
        refine wpAnyH_ready (rs := [27]) (by kernel_rfl) (by simp) ?_
        refine AllReadyH.cons rfl (fun K hK => ?_) AllReadyH.nil
        rw [if_pos (by rfl)]
        go_simp
        refine (abs_any _ _ _).mono ?_
        rintro e wr ⟨rfl, hbr⟩
        obtain ⟨hcr, hfr, hzr, hBr⟩ := after (a := w5) (B := w5.heap.size) (w5.heap.size + 1) hbr (by first | (with_reducible assumption) | (simp; done) | omega | (simp; omega)) (by repeat' (first | (with_reducible exact Below.refl _ _) | (with_reducible assumption) | (with_reducible refine drewN_below ?_ _) | (with_reducible refine Below.drew ?_) | (with_reducible refine Below.alloc ?_ ?_ _) | (with_reducible refine Below.setCell ?_ ?_ _) | (simp; done) | omega | (simp; omega))) (by omega)
        have yA := Nat.lt_of_lt_of_le xA hzr
        have yB := Nat.lt_of_lt_of_le xB hzr
        have yF := Nat.lt_of_lt_of_le xF hzr
        have yC := Nat.lt_of_lt_of_le xC hzr
        have yM := Nat.lt_of_lt_of_le xM hzr
        rw [ek.out]
        dsimp only
        refine hK.out _ _ ?_ (fun hHeld => ?_)
        · (refine ⟨?_, ?_, ?_, ?_, ?_, ?_, ?_, ?_, ?_, ?_, ?_, ?_⟩ <;> first | assumption | ((repeat' (first | (with_reducible exact Below.refl _ _) | (with_reducible assumption) | (with_reducible refine drewN_below ?_ _) | (with_reducible refine Below.drew ?_) | (with_reducible refine Below.alloc ?_ ?_ _) | (with_reducible refine Below.setCell ?_ ?_ _) | (simp; done) | omega | (simp; omega))); done) | (simp [*]; done) | (simp [go_sem, *]; done) | (simp; omega))
        clear hK K
        (try simp only [Act.put, List.getElem_toArray, List.getElem_cons_succ, List.getElem_cons_zero, List.setIfInBounds_toArray, List.set_cons_zero, List.set_cons_succ])
        refine wpAnyH_ready (rs := [28]) (by kernel_rfl) (by simp) ?_
        refine AllReadyH.cons rfl (fun K hK => ?_) AllReadyH.nil
        rw [if_pos (by rfl)]
        go_simp
        refine (cmp_any _ _ _ _ _).mono ?_
        rintro e wr ⟨rfl, hbr⟩
        obtain ⟨hcr, hfr, hzr, hBr⟩ := after (a := w5) (B := w5.heap.size) (w5.heap.size + 1) hbr (by first | (with_reducible assumption) | (simp; done) | omega | (simp; omega)) (by repeat' (first | (with_reducible exact Below.refl _ _) | (with_reducible assumption) | (with_reducible refine drewN_below ?_ _) | (with_reducible refine Below.drew ?_) | (with_reducible refine Below.alloc ?_ ?_ _) | (with_reducible refine Below.setCell ?_ ?_ _) | (simp; done) | omega | (simp; omega))) (by omega)
        have yA := Nat.lt_of_lt_of_le xA hzr
        have yB := Nat.lt_of_lt_of_le xB hzr
        have yF := Nat.lt_of_lt_of_le xF hzr
        have yC := Nat.lt_of_lt_of_le xC hzr
        have yM := Nat.lt_of_lt_of_le xM hzr
        rw [e3.out]
        dsimp only
        refine hK.out _ _ ?_ (fun hHeld => ?_)
        · (refine ⟨?_, ?_, ?_, ?_, ?_, ?_, ?_, ?_, ?_, ?_, ?_, ?_⟩ <;> first | assumption | ((repeat' (first | (with_reducible exact Below.refl _ _) | (with_reducible assumption) | (with_reducible refine drewN_below ?_ _) | (with_reducible refine Below.drew ?_) | (with_reducible refine Below.alloc ?_ ?_ _) | (with_reducible refine Below.setCell ?_ ?_ _) | (simp; done) | omega | (simp; omega))); done) | (simp [*]; done) | (simp [go_sem, *]; done) | (simp; omega))
        clear hK K
        (try simp only [Act.put, List.getElem_toArray, List.getElem_cons_succ, List.getElem_cons_zero, List.setIfInBounds_toArray, List.set_cons_zero, List.set_cons_succ])
        refine wpAnyH_take (i := 29) (v := ?_) rfl (by kernel_rfl) (by kernel_rfl) (by kernel_rfl) (fun _ _ _ h => h) (Or.inl ⟨by rfl, ?_⟩) (by assumption) ?_
        rotate_left
        focus (intro wq hSq; (try dsimp only at hSq); go_simp; first | done | (with_reducible rfl))
        (try simp only [Act.put, List.getElem_toArray, List.getElem_cons_succ, List.getElem_cons_zero, List.setIfInBounds_toArray, List.set_cons_zero, List.set_cons_succ])
        refine wpAnyH_take (i := 30) (v := ?_) rfl (by kernel_rfl) (by kernel_rfl) (by kernel_rfl) (fun _ _ _ h => h) (Or.inl ⟨by rfl, ?_⟩) (by assumption) ?_
        rotate_left
        focus (intro wq hSq; (try dsimp only at hSq); go_simp; first | done | (with_reducible rfl))
        (try simp only [Act.put, List.getElem_toArray, List.getElem_cons_succ, List.getElem_cons_zero, List.setIfInBounds_toArray, List.set_cons_zero, List.set_cons_succ])
        refine wpAnyH_take (i := 31) (v := ?_) rfl (by kernel_rfl) (by kernel_rfl) (by kernel_rfl) (fun _ _ _ h => h) (Or.inl ⟨by rfl, ?_⟩) (by assumption) ?_
        rotate_left
        focus (intro wq hSq; (try dsimp only at hSq); go_simp; first | done | (with_reducible rfl))
        (try simp only [Act.put, List.getElem_toArray, List.getElem_cons_succ, List.getElem_cons_zero, List.setIfInBounds_toArray, List.set_cons_zero, List.set_cons_succ])
        refine wpAnyH_done (by kernel_rfl) ?_ _
        obtain ⟨s0, s1, s2, s3, s4, s5, s6, s7, s8, s9, s10, s11⟩ := (by assumption : wr.cell? ⟨w.heap.size, 0, none⟩ = some (.int .i64 an) ∧ wr.cell? ⟨w.heap.size, 1, none⟩ = some (.int .i64 ad) ∧ wr.cell? ⟨w.heap.size + 1, 0, none⟩ = some (.int .i64 bn) ∧ wr.cell? ⟨w.heap.size + 1, 1, none⟩ = some (.int .i64 bd) ∧ wr.cell? ⟨w2.heap.size, 0, none⟩ = some (.int .i64 fn) ∧ wr.cell? ⟨w2.heap.size, 1, none⟩ = some (.int .i64 fd) ∧ wr.cell? ⟨w3.heap.size, 0, none⟩ = some (.int .i64 rn) ∧ wr.cell? ⟨w3.heap.size, 1, none⟩ = some (.int .i64 rd) ∧ wr.cell? ⟨w5.heap.size, 0, none⟩ = some (.int .i64 mn) ∧ wr.cell? ⟨w5.heap.size, 1, none⟩ = some (.int .i64 md) ∧ w5.heap.size + 1 ≤ wr.heap.size ∧ Below w5.heap.size w5 wr)
        have cA0w6 := s0
        have cA1w6 := s1
        have cB0w6 := s2
        have cB1w6 := s3
        have cF0w6 := s4
        have cF1w6 := s5
        have cC0w6 := s6
        have cC1w6 := s7
        have cM0w6 := s8
        have cM1w6 := s9
        have bAw6 : w.heap.size < wr.heap.size := Nat.lt_of_lt_of_le xA s10
        have dAw6 : w.heap.size < wr.heap.size + 1 := Nat.lt_succ_of_lt bAw6
        have bBw6 : w.heap.size + 1 < wr.heap.size := Nat.lt_of_lt_of_le xB s10
        have dBw6 : w.heap.size + 1 < wr.heap.size + 1 := Nat.lt_succ_of_lt bBw6
        have bFw6 : w2.heap.size < wr.heap.size := Nat.lt_of_lt_of_le xF s10
        have dFw6 : w2.heap.size < wr.heap.size + 1 := Nat.lt_succ_of_lt bFw6
        have bCw6 : w3.heap.size < wr.heap.size := Nat.lt_of_lt_of_le xC s10
        have dCw6 : w3.heap.size < wr.heap.size + 1 := Nat.lt_succ_of_lt bCw6
        have bMw6 : w5.heap.size < wr.heap.size := Nat.lt_of_lt_of_le xM s10
        have dMw6 : w5.heap.size < wr.heap.size + 1 := Nat.lt_succ_of_lt bMw6
        have hBw6 : Below w.heap.size w wr := Below.trans hBw5 (s11.mono hBw5.size)
        have zw6 : w.heap.size ≤ wr.heap.size := hBw6.size
        clear s0 s1 s2 s3 s4 s5 s6 s7 s8 s9 s10 s11 xA xB xF xC xM hcr hfr hzr hBr hbr zw5 hBw5 dCw5 bCw5 cC1w5 cC0w5 dFw5 bFw5 cF1w5 cF0w5 dBw5 bBw5 cB1w5 cB0w5 dAw5 bAw5 cA1w5 cA0w5
        repeat (clear hcr hfr hzr hBr hbr)
        skip
        obtain ⟨w6, ew6⟩ : ∃ x, x = wr := ⟨_, rfl⟩
        subst ew6
        go_wp2_with fail
        refine (round_any _ _ _).mono ?_
        rintro e w7 ⟨rfl, hw7⟩
        have hmw7 : Below w6.heap.size w6 w7 := on_below hw7 (by repeat' (first | (with_reducible exact Below.refl _ _) | (with_reducible assumption) | (with_reducible refine drewN_below ?_ _) | (with_reducible refine Below.drew ?_) | (with_reducible refine Below.alloc ?_ ?_ _) | (with_reducible refine Below.setCell ?_ ?_ _) | (simp; done) | omega | (simp; omega))) (by first | (with_reducible assumption) | (simp; done) | omega | (simp; omega))
        have cA0w7 := (hmw7.cell (p := ⟨w.heap.size, 0, none⟩) bAw6).trans cA0w6
        have cA1w7 := (hmw7.cell (p := ⟨w.heap.size, 1, none⟩) bAw6).trans cA1w6
        have bAw7 : w.heap.size < w7.heap.size := Nat.lt_of_lt_of_le bAw6 hmw7.size
        have dAw7 : w.heap.size < w7.heap.size + 1 := Nat.lt_succ_of_lt bAw7
        have cB0w7 := (hmw7.cell (p := ⟨w.heap.size + 1, 0, none⟩) bBw6).trans cB0w6
        have cB1w7 := (hmw7.cell (p := ⟨w.heap.size + 1, 1, none⟩) bBw6).trans cB1w6
        have bBw7 : w.heap.size + 1 < w7.heap.size := Nat.lt_of_lt_of_le bBw6 hmw7.size
        have dBw7 : w.heap.size + 1 < w7.heap.size + 1 := Nat.lt_succ_of_lt bBw7
        have cF0w7 := (hmw7.cell (p := ⟨w2.heap.size, 0, none⟩) bFw6).trans cF0w6
        have cF1w7 := (hmw7.cell (p := ⟨w2.heap.size, 1, none⟩) bFw6).trans cF1w6
        have bFw7 : w2.heap.size < w7.heap.size := Nat.lt_of_lt_of_le bFw6 hmw7.size
        have dFw7 : w2.heap.size < w7.heap.size + 1 := Nat.lt_succ_of_lt bFw7
        have cC0w7 := (hmw7.cell (p := ⟨w3.heap.size, 0, none⟩) bCw6).trans cC0w6
        have cC1w7 := (hmw7.cell (p := ⟨w3.heap.size, 1, none⟩) bCw6).trans cC1w6
        have bCw7 : w3.heap.size < w7.heap.size := Nat.lt_of_lt_of_le bCw6 hmw7.size
        have dCw7 : w3.heap.size < w7.heap.size + 1 := Nat.lt_succ_of_lt bCw7
        have cM0w7 := (hmw7.cell (p := ⟨w5.heap.size, 0, none⟩) bMw6).trans cM0w6
        have cM1w7 := (hmw7.cell (p := ⟨w5.heap.size, 1, none⟩) bMw6).trans cM1w6
        have bMw7 : w5.heap.size < w7.heap.size := Nat.lt_of_lt_of_le bMw6 hmw7.size
        have dMw7 : w5.heap.size < w7.heap.size + 1 := Nat.lt_succ_of_lt bMw7
        have hBw7 : Below w.heap.size w w7 := Below.trans hBw6 (hmw7.mono hBw6.size)
        have zw7 : w.heap.size ≤ w7.heap.size := hBw7.size
        clear hmw7 hw7 zw6 hBw6 dMw6 bMw6 dCw6 bCw6 dFw6 bFw6 dBw6 bBw6 dAw6 bAw6 cM1w6 cM0w6 cC1w6 cC0w6 cF1w6 cF0w6 cB1w6 cB0w6 cA1w6 cA0w6
        rw [eu.out]
        go_wp2_with fail
        refine (sub_any _ _ _ _ _).mono ?_
        rintro e w8 ⟨rfl, hw8⟩
        have hmw8 : Below w7.heap.size w7 w8 := on_below hw8 (by repeat' (first | (with_reducible exact Below.refl _ _) | (with_reducible assumption) | (with_reducible refine drewN_below ?_ _) | (with_reducible refine Below.drew ?_) | (with_reducible refine Below.alloc ?_ ?_ _) | (with_reducible refine Below.setCell ?_ ?_ _) | (simp; done) | omega | (simp; omega))) (by first | (with_reducible assumption) | (simp; done) | omega | (simp; omega))
        have cA0w8 := (hmw8.cell (p := ⟨w.heap.size, 0, none⟩) bAw7).trans cA0w7
        have cA1w8 := (hmw8.cell (p := ⟨w.heap.size, 1, none⟩) bAw7).trans cA1w7
        have bAw8 : w.heap.size < w8.heap.size := Nat.lt_of_lt_of_le bAw7 hmw8.size
        have dAw8 : w.heap.size < w8.heap.size + 1 := Nat.lt_succ_of_lt bAw8
        have cB0w8 := (hmw8.cell (p := ⟨w.heap.size + 1, 0, none⟩) bBw7).trans cB0w7
        have cB1w8 := (hmw8.cell (p := ⟨w.heap.size + 1, 1, none⟩) bBw7).trans cB1w7
        have bBw8 : w.heap.size + 1 < w8.heap.size := Nat.lt_of_lt_of_le bBw7 hmw8.size
        have dBw8 : w.heap.size + 1 < w8.heap.size + 1 := Nat.lt_succ_of_lt bBw8
        have cF0w8 := (hmw8.cell (p := ⟨w2.heap.size, 0, none⟩) bFw7).trans cF0w7
        have cF1w8 := (hmw8.cell (p := ⟨w2.heap.size, 1, none⟩) bFw7).trans cF1w7
        have bFw8 : w2.heap.size < w8.heap.size := Nat.lt_of_lt_of_le bFw7 hmw8.size
        have dFw8 : w2.heap.size < w8.heap.size + 1 := Nat.lt_succ_of_lt bFw8
        have cC0w8 := (hmw8.cell (p := ⟨w3.heap.size, 0, none⟩) bCw7).trans cC0w7
        have cC1w8 := (hmw8.cell (p := ⟨w3.heap.size, 1, none⟩) bCw7).trans cC1w7
        have bCw8 : w3.heap.size < w8.heap.size := Nat.lt_of_lt_of_le bCw7 hmw8.size
        have dCw8 : w3.heap.size < w8.heap.size + 1 := Nat.lt_succ_of_lt bCw8
        have cM0w8 := (hmw8.cell (p := ⟨w5.heap.size, 0, none⟩) bMw7).trans cM0w7
        have cM1w8 := (hmw8.cell (p := ⟨w5.heap.size, 1, none⟩) bMw7).trans cM1w7
        have bMw8 : w5.heap.size < w8.heap.size := Nat.lt_of_lt_of_le bMw7 hmw8.size
        have dMw8 : w5.heap.size < w8.heap.size + 1 := Nat.lt_succ_of_lt bMw8
        have cU0w8 : w8.cell? ⟨w7.heap.size, 0, none⟩ = some (.int .i64 un) := by rw [hw8.cell (p := ⟨w7.heap.size, 0, none⟩) (by first | (with_reducible assumption) | (simp; done) | omega | (simp; omega))]; simp [go_sem]
        have cU1w8 : w8.cell? ⟨w7.heap.size, 1, none⟩ = some (.int .i64 ud) := by rw [hw8.cell (p := ⟨w7.heap.size, 1, none⟩) (by first | (with_reducible assumption) | (simp; done) | omega | (simp; omega))]; simp [go_sem]
        have bUw8 : w7.heap.size < w8.heap.size := by have := hw8.size; first | omega | (simp at this; omega)
        have dUw8 : w7.heap.size < w8.heap.size + 1 := Nat.lt_succ_of_lt bUw8
        have hBw8 : Below w.heap.size w w8 := Below.trans hBw7 (hmw8.mono hBw7.size)
        have zw8 : w.heap.size ≤ w8.heap.size := hBw8.size
        clear hmw8 hw8 zw7 hBw7 dMw7 bMw7 cM1w7 cM0w7 dCw7 bCw7 cC1w7 cC0w7 dFw7 bFw7 cF1w7 cF0w7 dBw7 bBw7 cB1w7 cB0w7 dAw7 bAw7 cA1w7 cA0w7
        rw [es.out]
        go_wp2_with fail
        refine (abs_any _ _ _).mono ?_
        rintro e w9 ⟨rfl, hw9⟩
        have hmw9 : Below w8.heap.size w8 w9 := on_below hw9 (by repeat' (first | (with_reducible exact Below.refl _ _) | (with_reducible assumption) | (with_reducible refine drewN_below ?_ _) | (with_reducible refine Below.drew ?_) | (with_reducible refine Below.alloc ?_ ?_ _) | (with_reducible refine Below.setCell ?_ ?_ _) | (simp; done) | omega | (simp; omega))) (by first | (with_reducible assumption) | (simp; done) | omega | (simp; omega))
        have cA0w9 := (hmw9.cell (p := ⟨w.heap.size, 0, none⟩) bAw8).trans cA0w8
        have cA1w9 := (hmw9.cell (p := ⟨w.heap.size, 1, none⟩) bAw8).trans cA1w8
        have bAw9 : w.heap.size < w9.heap.size := Nat.lt_of_lt_of_le bAw8 hmw9.size
        have dAw9 : w.heap.size < w9.heap.size + 1 := Nat.lt_succ_of_lt bAw9
        have cB0w9 := (hmw9.cell (p := ⟨w.heap.size + 1, 0, none⟩) bBw8).trans cB0w8
        have cB1w9 := (hmw9.cell (p := ⟨w.heap.size + 1, 1, none⟩) bBw8).trans cB1w8
        have bBw9 : w.heap.size + 1 < w9.heap.size := Nat.lt_of_lt_of_le bBw8 hmw9.size
        have dBw9 : w.heap.size + 1 < w9.heap.size + 1 := Nat.lt_succ_of_lt bBw9
        have cF0w9 := (hmw9.cell (p := ⟨w2.heap.size, 0, none⟩) bFw8).trans cF0w8
        have cF1w9 := (hmw9.cell (p := ⟨w2.heap.size, 1, none⟩) bFw8).trans cF1w8
        have bFw9 : w2.heap.size < w9.heap.size := Nat.lt_of_lt_of_le bFw8 hmw9.size
        have dFw9 : w2.heap.size < w9.heap.size + 1 := Nat.lt_succ_of_lt bFw9
        have cC0w9 := (hmw9.cell (p := ⟨w3.heap.size, 0, none⟩) bCw8).trans cC0w8
        have cC1w9 := (hmw9.cell (p := ⟨w3.heap.size, 1, none⟩) bCw8).trans cC1w8
        have bCw9 : w3.heap.size < w9.heap.size := Nat.lt_of_lt_of_le bCw8 hmw9.size
        have dCw9 : w3.heap.size < w9.heap.size + 1 := Nat.lt_succ_of_lt bCw9
        have cM0w9 := (hmw9.cell (p := ⟨w5.heap.size, 0, none⟩) bMw8).trans cM0w8
        have cM1w9 := (hmw9.cell (p := ⟨w5.heap.size, 1, none⟩) bMw8).trans cM1w8
        have bMw9 : w5.heap.size < w9.heap.size := Nat.lt_of_lt_of_le bMw8 hmw9.size
        have dMw9 : w5.heap.size < w9.heap.size + 1 := Nat.lt_succ_of_lt bMw9
        have cU0w9 := (hmw9.cell (p := ⟨w7.heap.size, 0, none⟩) bUw8).trans cU0w8
        have cU1w9 := (hmw9.cell (p := ⟨w7.heap.size, 1, none⟩) bUw8).trans cU1w8
        have bUw9 : w7.heap.size < w9.heap.size := Nat.lt_of_lt_of_le bUw8 hmw9.size
        have dUw9 : w7.heap.size < w9.heap.size + 1 := Nat.lt_succ_of_lt bUw9
        have hBw9 : Below w.heap.size w w9 := Below.trans hBw8 (hmw9.mono hBw8.size)
        have zw9 : w.heap.size ≤ w9.heap.size := hBw9.size
        clear hmw9 hw9 zw8 hBw8 dUw8 bUw8 cU1w8 cU0w8 dMw8 bMw8 cM1w8 cM0w8 dCw8 bCw8 cC1w8 cC0w8 dFw8 bFw8 cF1w8 cF0w8 dBw8 bBw8 cB1w8 cB0w8 dAw8 bAw8 cA1w8 cA0w8
        rw [et.out]
        go_wp2_with fail
        refine (cmp_any _ _ _ _ _).mono ?_
        rintro e w10 ⟨rfl, hw10⟩
        have hmw10 : Below w9.heap.size w9 w10 := on_below hw10 (by repeat' (first | (with_reducible exact Below.refl _ _) | (with_reducible assumption) | (with_reducible refine drewN_below ?_ _) | (with_reducible refine Below.drew ?_) | (with_reducible refine Below.alloc ?_ ?_ _) | (with_reducible refine Below.setCell ?_ ?_ _) | (simp; done) | omega | (simp; omega))) (by first | (with_reducible assumption) | (simp; done) | omega | (simp; omega))
        have cA0w10 := (hmw10.cell (p := ⟨w.heap.size, 0, none⟩) bAw9).trans cA0w9
        have cA1w10 := (hmw10.cell (p := ⟨w.heap.size, 1, none⟩) bAw9).trans cA1w9
        have bAw10 : w.heap.size < w10.heap.size := Nat.lt_of_lt_of_le bAw9 hmw10.size
        have dAw10 : w.heap.size < w10.heap.size + 1 := Nat.lt_succ_of_lt bAw10
        have cB0w10 := (hmw10.cell (p := ⟨w.heap.size + 1, 0, none⟩) bBw9).trans cB0w9
        have cB1w10 := (hmw10.cell (p := ⟨w.heap.size + 1, 1, none⟩) bBw9).trans cB1w9
        have bBw10 : w.heap.size + 1 < w10.heap.size := Nat.lt_of_lt_of_le bBw9 hmw10.size
        have dBw10 : w.heap.size + 1 < w10.heap.size + 1 := Nat.lt_succ_of_lt bBw10
        have cF0w10 := (hmw10.cell (p := ⟨w2.heap.size, 0, none⟩) bFw9).trans cF0w9
        have cF1w10 := (hmw10.cell (p := ⟨w2.heap.size, 1, none⟩) bFw9).trans cF1w9
        have bFw10 : w2.heap.size < w10.heap.size := Nat.lt_of_lt_of_le bFw9 hmw10.size
        have dFw10 : w2.heap.size < w10.heap.size + 1 := Nat.lt_succ_of_lt bFw10
        have cC0w10 := (hmw10.cell (p := ⟨w3.heap.size, 0, none⟩) bCw9).trans cC0w9
        have cC1w10 := (hmw10.cell (p := ⟨w3.heap.size, 1, none⟩) bCw9).trans cC1w9
        have bCw10 : w3.heap.size < w10.heap.size := Nat.lt_of_lt_of_le bCw9 hmw10.size
        have dCw10 : w3.heap.size < w10.heap.size + 1 := Nat.lt_succ_of_lt bCw10
        have cM0w10 := (hmw10.cell (p := ⟨w5.heap.size, 0, none⟩) bMw9).trans cM0w9
        have cM1w10 := (hmw10.cell (p := ⟨w5.heap.size, 1, none⟩) bMw9).trans cM1w9
        have bMw10 : w5.heap.size < w10.heap.size := Nat.lt_of_lt_of_le bMw9 hmw10.size
        have dMw10 : w5.heap.size < w10.heap.size + 1 := Nat.lt_succ_of_lt bMw10
        have cU0w10 := (hmw10.cell (p := ⟨w7.heap.size, 0, none⟩) bUw9).trans cU0w9
        have cU1w10 := (hmw10.cell (p := ⟨w7.heap.size, 1, none⟩) bUw9).trans cU1w9
        have bUw10 : w7.heap.size < w10.heap.size := Nat.lt_of_lt_of_le bUw9 hmw10.size
        have dUw10 : w7.heap.size < w10.heap.size + 1 := Nat.lt_succ_of_lt bUw10
        have hBw10 : Below w.heap.size w w10 := Below.trans hBw9 (hmw10.mono hBw9.size)
        have zw10 : w.heap.size ≤ w10.heap.size := hBw10.size
        clear hmw10 hw10 zw9 hBw9 dUw9 bUw9 cU1w9 cU0w9 dMw9 bMw9 cM1w9 cM0w9 dCw9 bCw9 cC1w9 cC0w9 dFw9 bFw9 cF1w9 cF0w9 dBw9 bBw9 cB1w9 cB0w9 dAw9 bAw9 cA1w9 cA0w9
        rw [e2.out]
        go_wp2_with fail
        refine (awake_any _).mono ?_
        rintro e w11 ⟨rfl, hw11⟩
        have hmw11 : Below w10.heap.size w10 w11 := on_below hw11 (by repeat' (first | (with_reducible exact Below.refl _ _) | (with_reducible assumption) | (with_reducible refine drewN_below ?_ _) | (with_reducible refine Below.drew ?_) | (with_reducible refine Below.alloc ?_ ?_ _) | (with_reducible refine Below.setCell ?_ ?_ _) | (simp; done) | omega | (simp; omega))) (by first | (with_reducible assumption) | (simp; done) | omega | (simp; omega))
        have cA0w11 := (hmw11.cell (p := ⟨w.heap.size, 0, none⟩) bAw10).trans cA0w10
        have cA1w11 := (hmw11.cell (p := ⟨w.heap.size, 1, none⟩) bAw10).trans cA1w10
        have bAw11 : w.heap.size < w11.heap.size := Nat.lt_of_lt_of_le bAw10 hmw11.size
        have dAw11 : w.heap.size < w11.heap.size + 1 := Nat.lt_succ_of_lt bAw11
        have cB0w11 := (hmw11.cell (p := ⟨w.heap.size + 1, 0, none⟩) bBw10).trans cB0w10
        have cB1w11 := (hmw11.cell (p := ⟨w.heap.size + 1, 1, none⟩) bBw10).trans cB1w10
        have bBw11 : w.heap.size + 1 < w11.heap.size := Nat.lt_of_lt_of_le bBw10 hmw11.size
        have dBw11 : w.heap.size + 1 < w11.heap.size + 1 := Nat.lt_succ_of_lt bBw11
        have cF0w11 := (hmw11.cell (p := ⟨w2.heap.size, 0, none⟩) bFw10).trans cF0w10
        have cF1w11 := (hmw11.cell (p := ⟨w2.heap.size, 1, none⟩) bFw10).trans cF1w10
        have bFw11 : w2.heap.size < w11.heap.size := Nat.lt_of_lt_of_le bFw10 hmw11.size
        have dFw11 : w2.heap.size < w11.heap.size + 1 := Nat.lt_succ_of_lt bFw11
        have cC0w11 := (hmw11.cell (p := ⟨w3.heap.size, 0, none⟩) bCw10).trans cC0w10
        have cC1w11 := (hmw11.cell (p := ⟨w3.heap.size, 1, none⟩) bCw10).trans cC1w10
        have bCw11 : w3.heap.size < w11.heap.size := Nat.lt_of_lt_of_le bCw10 hmw11.size
        have dCw11 : w3.heap.size < w11.heap.size + 1 := Nat.lt_succ_of_lt bCw11
        have cM0w11 := (hmw11.cell (p := ⟨w5.heap.size, 0, none⟩) bMw10).trans cM0w10
        have cM1w11 := (hmw11.cell (p := ⟨w5.heap.size, 1, none⟩) bMw10).trans cM1w10
        have bMw11 : w5.heap.size < w11.heap.size := Nat.lt_of_lt_of_le bMw10 hmw11.size
        have dMw11 : w5.heap.size < w11.heap.size + 1 := Nat.lt_succ_of_lt bMw11
        have cU0w11 := (hmw11.cell (p := ⟨w7.heap.size, 0, none⟩) bUw10).trans cU0w10
        have cU1w11 := (hmw11.cell (p := ⟨w7.heap.size, 1, none⟩) bUw10).trans cU1w10
        have bUw11 : w7.heap.size < w11.heap.size := Nat.lt_of_lt_of_le bUw10 hmw11.size
        have dUw11 : w7.heap.size < w11.heap.size + 1 := Nat.lt_succ_of_lt bUw11
        have hBw11 : Below w.heap.size w w11 := Below.trans hBw10 (hmw11.mono hBw10.size)
        have zw11 : w.heap.size ≤ w11.heap.size := hBw11.size
        clear hmw11 hw11 zw10 hBw10 dUw10 bUw10 cU1w10 cU0w10 dMw10 bMw10 cM1w10 cM0w10 dCw10 bCw10 cC1w10 cC0w10 dFw10 bFw10 cF1w10 cF0w10 dBw10 bBw10 cB1w10 cB0w10 dAw10 bAw10 cA1w10 cA0w10
        go_wp2
        go_ret
        exact ⟨rfl, (by repeat' (first | (with_reducible exact Below.refl _ _) | (with_reducible assumption) | (with_reducible refine drewN_below ?_ _) | (with_reducible refine Below.drew ?_) | (with_reducible refine Below.alloc ?_ ?_ _) | (with_reducible refine Below.setCell ?_ ?_ _) | (simp; done) | omega | (simp; omega)))⟩
      · have u4 : decide (0 < mn) = false := by simp; omega
        clear m1 m2 m3 g1 g2
        have xA : w.heap.size < w5.heap.size + 1 := by omega
        have xB : w.heap.size + 1 < w5.heap.size + 1 := by omega
        have xF : w2.heap.size < w5.heap.size + 1 := by omega
        have xC : w3.heap.size < w5.heap.size + 1 := by omega
        have xM : w5.heap.size < w5.heap.size + 1 := by omega
        refine wp_region_held_drew (S := (fun w' => w'.cell? ⟨w.heap.size, 0, none⟩ = some (.int .i64 an) ∧ w'.cell? ⟨w.heap.size, 1, none⟩ = some (.int .i64 ad) ∧ w'.cell? ⟨w.heap.size + 1, 0, none⟩ = some (.int .i64 bn) ∧ w'.cell? ⟨w.heap.size + 1, 1, none⟩ = some (.int .i64 bd) ∧ w'.cell? ⟨w2.heap.size, 0, none⟩ = some (.int .i64 fn) ∧ w'.cell? ⟨w2.heap.size, 1, none⟩ = some (.int .i64 fd) ∧ w'.cell? ⟨w3.heap.size, 0, none⟩ = some (.int .i64 rn) ∧ w'.cell? ⟨w3.heap.size, 1, none⟩ = some (.int .i64 rd) ∧ w'.cell? ⟨w5.heap.size, 0, none⟩ = some (.int .i64 mn) ∧ w'.cell? ⟨w5.heap.size, 1, none⟩ = some (.int .i64 md) ∧ w5.heap.size + 1 ≤ w'.heap.size ∧ Below w5.heap.size w5 w')) (by kernel_rfl) ?_ ?_
        · (refine ⟨?_, ?_, ?_, ?_, ?_, ?_, ?_, ?_, ?_, ?_, ?_, ?_⟩ <;> first | assumption | ((repeat' (first | (with_reducible exact Below.refl _ _) | (with_reducible assumption) | (with_reducible refine drewN_below ?_ _) | (with_reducible refine Below.drew ?_) | (with_reducible refine Below.alloc ?_ ?_ _) | (with_reducible refine Below.setCell ?_ ?_ _) | (simp; done) | omega | (simp; omega))); done) | (simp [*]; done) | (simp [go_sem, *]; done) | (simp; omega))
        intro hH0
        refine wpAnyH_take (i := 0) (v := ?_) rfl (by kernel_rfl) (by kernel_rfl) (by kernel_rfl) (fun _ _ _ h => h) (Or.inl ⟨by rfl, ?_⟩) (by assumption) ?_
        rotate_left
        focus (intro wq hSq; (try dsimp only at hSq); go_simp; first | done | (with_reducible rfl))
        (try simp only [Act.put, List.getElem_toArray, List.getElem_cons_zero, List.setIfInBounds_toArray, List.set_cons_zero, List.set_cons_succ])
        refine wpAnyH_take (i := 1) (v := ?_) rfl (by kernel_rfl) (by kernel_rfl) (by kernel_rfl) (fun _ _ _ h => h) (Or.inl ⟨by rfl, ?_⟩) (by assumption) ?_
        rotate_left
        focus (intro wq hSq; (try dsimp only at hSq); go_simp; first | done | (with_reducible rfl))
        (try simp only [Act.put, List.getElem_toArray, List.getElem_cons_succ, List.getElem_cons_zero, List.setIfInBounds_toArray, List.set_cons_zero, List.set_cons_succ])
        refine wpAnyH_ready (rs := [2]) (by kernel_rfl) (by simp) ?_
        refine AllReadyH.cons rfl (fun K hK => ?_) AllReadyH.nil
        rw [if_pos (by rfl)]
        go_simp
        refine hK.out _ _ ?_ (fun hHeld => ?_)
        · (refine ⟨?_, ?_, ?_, ?_, ?_, ?_, ?_, ?_, ?_, ?_, ?_, ?_⟩ <;> first | assumption | ((repeat' (first | (with_reducible exact Below.refl _ _) | (with_reducible assumption) | (with_reducible refine drewN_below ?_ _) | (with_reducible refine Below.drew ?_) | (with_reducible refine Below.alloc ?_ ?_ _) | (with_reducible refine Below.setCell ?_ ?_ _) | (simp; done) | omega | (simp; omega))); done) | (simp [*]; done) | (simp [go_sem, *]; done) | (simp; omega))
        clear hK K
        (try simp only [Act.put, List.getElem_toArray, List.getElem_cons_succ, List.getElem_cons_zero, List.setIfInBounds_toArray, List.set_cons_zero, List.set_cons_succ])
        refine wpAnyH_ready (rs := [3]) (by kernel_rfl) (by simp) ?_
        refine AllReadyH.cons rfl (fun K hK => ?_) AllReadyH.nil
        rw [if_pos (by rfl)]
        go_simp
        refine (numbers2 mn md bn bd _ _ (by simp [go_sem]) (by simp [go_sem]) (by simp [go_sem]) (by simp [go_sem]) (by simp)).mono ?_
        rintro e wr ⟨rfl, hbr⟩
        obtain ⟨hcr, hfr, hzr, hBr⟩ := after (a := w5) (B := w5.heap.size) (w5.heap.size + 1) hbr (by first | (with_reducible assumption) | (simp; done) | omega | (simp; omega)) (by repeat' (first | (with_reducible exact Below.refl _ _) | (with_reducible assumption) | (with_reducible refine drewN_below ?_ _) | (with_reducible refine Below.drew ?_) | (with_reducible refine Below.alloc ?_ ?_ _) | (with_reducible refine Below.setCell ?_ ?_ _) | (simp; done) | omega | (simp; omega))) (by omega)
        have yA := Nat.lt_of_lt_of_le xA hzr
        have yB := Nat.lt_of_lt_of_le xB hzr
        have yF := Nat.lt_of_lt_of_le xF hzr
        have yC := Nat.lt_of_lt_of_le xC hzr
        have yM := Nat.lt_of_lt_of_le xM hzr
        rw [hq]
        dsimp only
        refine hK.out _ _ ?_ (fun hHeld => ?_)
        · (refine ⟨?_, ?_, ?_, ?_, ?_, ?_, ?_, ?_, ?_, ?_, ?_, ?_⟩ <;> first | assumption | ((repeat' (first | (with_reducible exact Below.refl _ _) | (with_reducible assumption) | (with_reducible refine drewN_below ?_ _) | (with_reducible refine Below.drew ?_) | (with_reducible refine Below.alloc ?_ ?_ _) | (with_reducible refine Below.setCell ?_ ?_ _) | (simp; done) | omega | (simp; omega))); done) | (simp [*]; done) | (simp [go_sem, *]; done) | (simp; omega))
        clear hK K
        (try simp only [Act.put, List.getElem_toArray, List.getElem_cons_succ, List.getElem_cons_zero, List.setIfInBounds_toArray, List.set_cons_zero, List.set_cons_succ])
        refine wpAnyH_take (i := 4) (v := ?_) rfl (by kernel_rfl) (by kernel_rfl) (by kernel_rfl) (fun _ _ _ h => h) (Or.inl ⟨by rfl, ?_⟩) (by assumption) ?_
        rotate_left
        focus (intro wq hSq; (try dsimp only at hSq); go_simp; first | done | (with_reducible rfl))
        (try simp only [Act.put, List.getElem_toArray, List.getElem_cons_succ, List.getElem_cons_zero, List.setIfInBounds_toArray, List.set_cons_zero, List.set_cons_succ])
        refine wpAnyH_take (i := 5) (v := ?_) rfl (by kernel_rfl) (by kernel_rfl) (by kernel_rfl) (fun _ _ _ h => h) (Or.inl ⟨by rfl, ?_⟩) (by assumption) ?_
        rotate_left
        focus (intro wq hSq; (try dsimp only at hSq); go_simp; first | done | (with_reducible rfl))
        (try simp only [Act.put, List.getElem_toArray, List.getElem_cons_succ, List.getElem_cons_zero, List.setIfInBounds_toArray, List.set_cons_zero, List.set_cons_succ])
        refine wpAnyH_take (i := 6) (v := ?_) rfl (by kernel_rfl) (by kernel_rfl) (by kernel_rfl) (fun _ _ _ h => h) (Or.inl ⟨by rfl, ?_⟩) (by assumption) ?_
        rotate_left
        focus (intro wq hSq; (try dsimp only at hSq); go_simp; first | done | (with_reducible rfl))
        (try simp only [Act.put, List.getElem_toArray, List.getElem_cons_succ, List.getElem_cons_zero, List.setIfInBounds_toArray, List.set_cons_zero, List.set_cons_succ])
        refine wpAnyH_take (i := 7) (v := ?_) rfl (by kernel_rfl) (by kernel_rfl) (by kernel_rfl) (fun _ _ _ h => h) (Or.inl ⟨by rfl, ?_⟩) (by assumption) ?_
        rotate_left
        focus (intro wq hSq; (try dsimp only at hSq); go_simp; first | done | (with_reducible rfl))
        (try simp only [Act.put, List.getElem_toArray, List.getElem_cons_succ, List.getElem_cons_zero, List.setIfInBounds_toArray, List.set_cons_zero, List.set_cons_succ])
        refine wpAnyH_take (i := 8) (v := ?_) rfl (by kernel_rfl) (by kernel_rfl) (by kernel_rfl) (fun _ _ _ h => h) (Or.inl ⟨by rfl, ?_⟩) (by assumption) ?_
        rotate_left
        focus (intro wq hSq; (try dsimp only at hSq); go_simp; first | done | (with_reducible rfl))
        (try simp only [Act.put, List.getElem_toArray, List.getElem_cons_succ, List.getElem_cons_zero, List.setIfInBounds_toArray, List.set_cons_zero, List.set_cons_succ])
        refine wpAnyH_take (i := 9) (v := undef) rfl (by kernel_rfl) (by kernel_rfl) (by kernel_rfl) (fun _ _ _ h => h) (Or.inr ⟨by rfl, rfl⟩) (by assumption) ?_
        (try simp only [Act.put, List.getElem_toArray, List.getElem_cons_succ, List.getElem_cons_zero, List.setIfInBounds_toArray, List.set_cons_zero, List.set_cons_succ])
        refine wpAnyH_take (i := 10) (v := undef) rfl (by kernel_rfl) (by kernel_rfl) (by kernel_rfl) (fun _ _ _ h => h) (Or.inr ⟨by rfl, rfl⟩) (by assumption) ?_
        (try simp only [Act.put, List.getElem_toArray, List.getElem_cons_succ, List.getElem_cons_zero, List.setIfInBounds_toArray, List.set_cons_zero, List.set_cons_succ])
        refine wpAnyH_take (i := 11) (v := undef) rfl (by kernel_rfl) (by kernel_rfl) (by kernel_rfl) (fun _ _ _ h => h) (Or.inr ⟨by rfl, rfl⟩) (by assumption) ?_
        (try simp only [Act.put, List.getElem_toArray, List.getElem_cons_succ, List.getElem_cons_zero, List.setIfInBounds_toArray, List.set_cons_zero, List.set_cons_succ])
        refine wpAnyH_take (i := 12) (v := ?_) rfl (by kernel_rfl) (by kernel_rfl) (by kernel_rfl) (fun _ _ _ h => h) (Or.inl ⟨by rfl, ?_⟩) (by assumption) ?_
        rotate_left
        focus (intro wq hSq; (try dsimp only at hSq); go_simp; first | done | (with_reducible rfl))
        (try simp only [Act.put, List.getElem_toArray, List.getElem_cons_succ, List.getElem_cons_zero, List.setIfInBounds_toArray, List.set_cons_zero, List.set_cons_succ])
        refine wpAnyH_take (i := 13) (v := ?_) rfl (by kernel_rfl) (by kernel_rfl) (by kernel_rfl) (fun _ _ _ h => h) (Or.inl ⟨by rfl, ?_⟩) (by assumption) ?_
        rotate_left
        focus (intro wq hSq; (try dsimp only at hSq); go_simp; first | done | (with_reducible rfl))
        (try simp only [Act.put, List.getElem_toArray, List.getElem_cons_succ, List.getElem_cons_zero, List.setIfInBounds_toArray, List.set_cons_zero, List.set_cons_succ])
        refine wpAnyH_take (i := 14) (v := ?_) rfl (by kernel_rfl) (by kernel_rfl) (by kernel_rfl) (fun _ _ _ h => h) (Or.inl ⟨by rfl, ?_⟩) (by assumption) ?_
        rotate_left
        focus (intro wq hSq; (try dsimp only at hSq); go_simp; first | done | (with_reducible rfl))
        (try simp only [Act.put, List.getElem_toArray, List.getElem_cons_succ, List.getElem_cons_zero, List.setIfInBounds_toArray, List.set_cons_zero, List.set_cons_succ])
        refine wpAnyH_take (i := 15) (v := ?_) rfl (by kernel_rfl) (by kernel_rfl) (by kernel_rfl) (fun _ _ _ h => h) (Or.inl ⟨by rfl, ?_⟩) (by assumption) ?_
        rotate_left
        focus (intro wq hSq; (try dsimp only at hSq); go_simp; first | done | (with_reducible rfl))
        (try simp only [Act.put, List.getElem_toArray, List.getElem_cons_succ, List.getElem_cons_zero, List.setIfInBounds_toArray, List.set_cons_zero, List.set_cons_succ])
        refine wpAnyH_take (i := 16) (v := ?_) rfl (by kernel_rfl) (by kernel_rfl) (by kernel_rfl) (fun _ _ _ h => h) (Or.inl ⟨by rfl, ?_⟩) (by assumption) ?_
        rotate_left
        focus (intro wq hSq; (try dsimp only at hSq); go_simp; first | done | (with_reducible rfl))
        (try simp only [Act.put, List.getElem_toArray, List.getElem_cons_succ, List.getElem_cons_zero, List.setIfInBounds_toArray, List.set_cons_zero, List.set_cons_succ])
        refine wpAnyH_take (i := 17) (v := ?_) rfl (by kernel_rfl) (by kernel_rfl) (by kernel_rfl) (fun _ _ _ h => h) (Or.inl ⟨by rfl, ?_⟩) (by assumption) ?_
        rotate_left
        focus (intro wq hSq; (try dsimp only at hSq); go_simp; first | done | (with_reducible rfl))
        (try simp only [Act.put, List.getElem_toArray, List.getElem_cons_succ, List.getElem_cons_zero, List.setIfInBounds_toArray, List.set_cons_zero, List.set_cons_succ])
        refine wpAnyH_take (i := 18) (v := undef) rfl (by kernel_rfl) (by kernel_rfl) (by kernel_rfl) (fun _ _ _ h => h) (Or.inr ⟨by rfl, rfl⟩) (by assumption) ?_
        (try simp only [Act.put, List.getElem_toArray, List.getElem_cons_succ, List.getElem_cons_zero, List.setIfInBounds_toArray, List.set_cons_zero, List.set_cons_succ])
        refine wpAnyH_take (i := 19) (v := undef) rfl (by kernel_rfl) (by kernel_rfl) (by kernel_rfl) (fun _ _ _ h => h) (Or.inr ⟨by rfl, rfl⟩) (by assumption) ?_
        (try simp only [Act.put, List.getElem_toArray, List.getElem_cons_succ, List.getElem_cons_zero, List.setIfInBounds_toArray, List.set_cons_zero, List.set_cons_succ])
        refine wpAnyH_take (i := 20) (v := undef) rfl (by kernel_rfl) (by kernel_rfl) (by kernel_rfl) (fun _ _ _ h => h) (Or.inr ⟨by rfl, rfl⟩) (by assumption) ?_
        (try simp only [Act.put, List.getElem_toArray, List.getElem_cons_succ, List.getElem_cons_zero, List.setIfInBounds_toArray, List.set_cons_zero, List.set_cons_succ])
        refine wpAnyH_take (i := 21) (v := ?_) rfl (by kernel_rfl) (by kernel_rfl) (by kernel_rfl) (fun _ _ _ h => h) (Or.inl ⟨by rfl, ?_⟩) (by assumption) ?_
        rotate_left
        focus (intro wq hSq; (try dsimp only at hSq); go_simp; first | done | (with_reducible rfl))
        (try simp only [Act.put, List.getElem_toArray, List.getElem_cons_succ, List.getElem_cons_zero, List.setIfInBounds_toArray, List.set_cons_zero, List.set_cons_succ])
        refine wpAnyH_take (i := 22) (v := ?_) rfl (by kernel_rfl) (by kernel_rfl) (by kernel_rfl) (fun _ _ _ h => h) (Or.inl ⟨by rfl, ?_⟩) (by assumption) ?_
        rotate_left
        focus (intro wq hSq; (try dsimp only at hSq); go_simp; first | done | (with_reducible rfl))
        (try simp only [Act.put, List.getElem_toArray, List.getElem_cons_succ, List.getElem_cons_zero, List.setIfInBounds_toArray, List.set_cons_zero, List.set_cons_succ])
        refine wpAnyH_take (i := 23) (v := ?_) rfl (by kernel_rfl) (by kernel_rfl) (by kernel_rfl) (fun _ _ _ h => h) (Or.inl ⟨by rfl, ?_⟩) (by assumption) ?_
        rotate_left
        focus (intro wq hSq; (try dsimp only at hSq); go_simp; first | done | (with_reducible rfl))
        (try simp only [Act.put, List.getElem_toArray, List.getElem_cons_succ, List.getElem_cons_zero, List.setIfInBounds_toArray, List.set_cons_zero, List.set_cons_succ])
        refine wpAnyH_take (i := 24) (v := ?_) rfl (by kernel_rfl) (by kernel_rfl) (by kernel_rfl) (fun _ _ _ h => h) (Or.inl ⟨by rfl, ?_⟩) (by assumption) ?_
        rotate_left
        focus (intro wq hSq; (try dsimp only at hSq); go_simp; first | done | (with_reducible rfl))
        (try simp only [Act.put, List.getElem_toArray, List.getElem_cons_succ, List.getElem_cons_zero, List.setIfInBounds_toArray, List.set_cons_zero, List.set_cons_succ])
        refine wpAnyH_take (i := 26) (v := ?_) rfl (by kernel_rfl) (by kernel_rfl) (by kernel_rfl) (fun _ _ _ h => h) (Or.inl ⟨by rfl, ?_⟩) (by assumption) ?_
        rotate_left
        focus (intro wq hSq; (try dsimp only at hSq); go_simp; first | done | (with_reducible rfl))
        (try simp only [Act.put, List.getElem_toArray, List.getElem_cons_succ, List.getElem_cons_zero, List.setIfInBounds_toArray, List.set_cons_zero, List.set_cons_succ])
        refine wpAnyH_ready (rs := [25]) (by kernel_rfl) (by simp) ?_
        refine AllReadyH.cons rfl (fun K hK => ?_) AllReadyH.nil
        rw [if_pos (by rfl)]
        go_simp
        refine (abs_any _ _ _).mono ?_
        rintro e wr ⟨rfl, hbr⟩
        obtain ⟨hcr, hfr, hzr, hBr⟩ := after (a := w5) (B := w5.heap.size) (w5.heap.size + 1) hbr (by first | (with_reducible assumption) | (simp; done) | omega | (simp; omega)) (by repeat' (first | (with_reducible exact Below.refl _ _) | (with_reducible assumption) | (with_reducible refine drewN_below ?_ _) | (with_reducible refine Below.drew ?_) | (with_reducible refine Below.alloc ?_ ?_ _) | (with_reducible refine Below.setCell ?_ ?_ _) | (simp; done) | omega | (simp; omega))) (by omega)
        have yA := Nat.lt_of_lt_of_le xA hzr
        have yB := Nat.lt_of_lt_of_le xB hzr
        have yF := Nat.lt_of_lt_of_le xF hzr
        have yC := Nat.lt_of_lt_of_le xC hzr
        have yM := Nat.lt_of_lt_of_le xM hzr
        rw [eg.out]
        dsimp only
        refine hK.out _ _ ?_ (fun hHeld => ?_)
        · (refine ⟨?_, ?_, ?_, ?_, ?_, ?_, ?_, ?_, ?_, ?_, ?_, ?_⟩ <;> first | assumption | ((repeat' (first | (with_reducible exact Below.refl _ _) | (with_reducible assumption) | (with_reducible refine drewN_below ?_ _) | (with_reducible refine Below.drew ?_) | (with_reducible refine Below.alloc ?_ ?_ _) | (with_reducible refine Below.setCell ?_ ?_ _) | (simp; done) | omega | (simp; omega))); done) | (simp [*]; done) | (simp [go_sem, *]; done) | (simp; omega))
        clear hK K
        (try simp only [Act.put, List.getElem_toArray, List.getElem_cons_succ, List.getElem_cons_zero, List.setIfInBounds_toArray, List.set_cons_zero, List.set_cons_succ])
        refine wpAnyH_ready (rs := [27]) (by kernel_rfl) (by simp) ?_
        refine AllReadyH.cons rfl (fun K hK => ?_) AllReadyH.nil
        rw [if_pos (by rfl)]
        go_simp
        refine (abs_any _ _ _).mono ?_
        rintro e wr ⟨rfl, hbr⟩
        obtain ⟨hcr, hfr, hzr, hBr⟩ := after (a := w5) (B := w5.heap.size) (w5.heap.size + 1) hbr (by first | (with_reducible assumption) | (simp; done) | omega | (simp; omega)) (by repeat' (first | (with_reducible exact Below.refl _ _) | (with_reducible assumption) | (with_reducible refine drewN_below ?_ _) | (with_reducible refine Below.drew ?_) | (with_reducible refine Below.alloc ?_ ?_ _) | (with_reducible refine Below.setCell ?_ ?_ _) | (simp; done) | omega | (simp; omega))) (by omega)
        have yA := Nat.lt_of_lt_of_le xA hzr
        have yB := Nat.lt_of_lt_of_le xB hzr
        have yF := Nat.lt_of_lt_of_le xF hzr
        have yC := Nat.lt_of_lt_of_le xC hzr
        have yM := Nat.lt_of_lt_of_le xM hzr
        rw [ek.out]
        dsimp only
        refine hK.out _ _ ?_ (fun hHeld => ?_)
        · (refine ⟨?_, ?_, ?_, ?_, ?_, ?_, ?_, ?_, ?_, ?_, ?_, ?_⟩ <;> first | assumption | ((repeat' (first | (with_reducible exact Below.refl _ _) | (with_reducible assumption) | (with_reducible refine drewN_below ?_ _) | (with_reducible refine Below.drew ?_) | (with_reducible refine Below.alloc ?_ ?_ _) | (with_reducible refine Below.setCell ?_ ?_ _) | (simp; done) | omega | (simp; omega))); done) | (simp [*]; done) | (simp [go_sem, *]; done) | (simp; omega))
        clear hK K
        (try simp only [Act.put, List.getElem_toArray, List.getElem_cons_succ, List.getElem_cons_zero, List.setIfInBounds_toArray, List.set_cons_zero, List.set_cons_succ])
        refine wpAnyH_ready (rs := [28]) (by kernel_rfl) (by simp) ?_
        refine AllReadyH.cons rfl (fun K hK => ?_) AllReadyH.nil
        rw [if_pos (by rfl)]
        go_simp
        refine (cmp_any _ _ _ _ _).mono ?_
        rintro e wr ⟨rfl, hbr⟩
        obtain ⟨hcr, hfr, hzr, hBr⟩ := after (a := w5) (B := w5.heap.size) (w5.heap.size + 1) hbr (by first | (with_reducible assumption) | (simp; done) | omega | (simp; omega)) (by repeat' (first | (with_reducible exact Below.refl _ _) | (with_reducible assumption) | (with_reducible refine drewN_below ?_ _) | (with_reducible refine Below.drew ?_) | (with_reducible refine Below.alloc ?_ ?_ _) | (with_reducible refine Below.setCell ?_ ?_ _) | (simp; done) | omega | (simp; omega))) (by omega)
        have yA := Nat.lt_of_lt_of_le xA hzr
        have yB := Nat.lt_of_lt_of_le xB hzr
        have yF := Nat.lt_of_lt_of_le xF hzr
        have yC := Nat.lt_of_lt_of_le xC hzr
        have yM := Nat.lt_of_lt_of_le xM hzr
        rw [e3.out]
        dsimp only
        refine hK.out _ _ ?_ (fun hHeld => ?_)
        · (refine ⟨?_, ?_, ?_, ?_, ?_, ?_, ?_, ?_, ?_, ?_, ?_, ?_⟩ <;> first | assumption | ((repeat' (first | (with_reducible exact Below.refl _ _) | (with_reducible assumption) | (with_reducible refine drewN_below ?_ _) | (with_reducible refine Below.drew ?_) | (with_reducible refine Below.alloc ?_ ?_ _) | (with_reducible refine Below.setCell ?_ ?_ _) | (simp; done) | omega | (simp; omega))); done) | (simp [*]; done) | (simp [go_sem, *]; done) | (simp; omega))
        clear hK K
        (try simp only [Act.put, List.getElem_toArray, List.getElem_cons_succ, List.getElem_cons_zero, List.setIfInBounds_toArray, List.set_cons_zero, List.set_cons_succ])
        refine wpAnyH_take (i := 29) (v := ?_) rfl (by kernel_rfl) (by kernel_rfl) (by kernel_rfl) (fun _ _ _ h => h) (Or.inl ⟨by rfl, ?_⟩) (by assumption) ?_
        rotate_left
        focus (intro wq hSq; (try dsimp only at hSq); go_simp; first | done | (with_reducible rfl))
        (try simp only [Act.put, List.getElem_toArray, List.getElem_cons_succ, List.getElem_cons_zero, List.setIfInBounds_toArray, List.set_cons_zero, List.set_cons_succ])
        refine wpAnyH_take (i := 30) (v := ?_) rfl (by kernel_rfl) (by kernel_rfl) (by kernel_rfl) (fun _ _ _ h => h) (Or.inl ⟨by rfl, ?_⟩) (by assumption) ?_
        rotate_left
        focus (intro wq hSq; (try dsimp only at hSq); go_simp; first | done | (with_reducible rfl))
        (try simp only [Act.put, List.getElem_toArray, List.getElem_cons_succ, List.getElem_cons_zero, List.setIfInBounds_toArray, List.set_cons_zero, List.set_cons_succ])
        refine wpAnyH_take (i := 31) (v := ?_) rfl (by kernel_rfl) (by kernel_rfl) (by kernel_rfl) (fun _ _ _ h => h) (Or.inl ⟨by rfl, ?_⟩) (by assumption) ?_
        rotate_left
        focus (intro wq hSq; (try dsimp only at hSq); go_simp; first | done | (with_reducible rfl))
        (try simp only [Act.put, List.getElem_toArray, List.getElem_cons_succ, List.getElem_cons_zero, List.setIfInBounds_toArray, List.set_cons_zero, List.set_cons_succ])
        refine wpAnyH_done (by kernel_rfl) ?_ _
        obtain ⟨s0, s1, s2, s3, s4, s5, s6, s7, s8, s9, s10, s11⟩ := (by assumption : wr.cell? ⟨w.heap.size, 0, none⟩ = some (.int .i64 an) ∧ wr.cell? ⟨w.heap.size, 1, none⟩ = some (.int .i64 ad) ∧ wr.cell? ⟨w.heap.size + 1, 0, none⟩ = some (.int .i64 bn) ∧ wr.cell? ⟨w.heap.size + 1, 1, none⟩ = some (.int .i64 bd) ∧ wr.cell? ⟨w2.heap.size, 0, none⟩ = some (.int .i64 fn) ∧ wr.cell? ⟨w2.heap.size, 1, none⟩ = some (.int .i64 fd) ∧ wr.cell? ⟨w3.heap.size, 0, none⟩ = some (.int .i64 rn) ∧ wr.cell? ⟨w3.heap.size, 1, none⟩ = some (.int .i64 rd) ∧ wr.cell? ⟨w5.heap.size, 0, none⟩ = some (.int .i64 mn) ∧ wr.cell? ⟨w5.heap.size, 1, none⟩ = some (.int .i64 md) ∧ w5.heap.size + 1 ≤ wr.heap.size ∧ Below w5.heap.size w5 wr)
        have cA0w6 := s0
        have cA1w6 := s1
        have cB0w6 := s2
        have cB1w6 := s3
        have cF0w6 := s4
        have cF1w6 := s5
        have cC0w6 := s6
        have cC1w6 := s7
        have cM0w6 := s8
        have cM1w6 := s9
        have bAw6 : w.heap.size < wr.heap.size := Nat.lt_of_lt_of_le xA s10
        have dAw6 : w.heap.size < wr.heap.size + 1 := Nat.lt_succ_of_lt bAw6
        have bBw6 : w.heap.size + 1 < wr.heap.size := Nat.lt_of_lt_of_le xB s10
        have dBw6 : w.heap.size + 1 < wr.heap.size + 1 := Nat.lt_succ_of_lt bBw6
        have bFw6 : w2.heap.size < wr.heap.size := Nat.lt_of_lt_of_le xF s10
        have dFw6 : w2.heap.size < wr.heap.size + 1 := Nat.lt_succ_of_lt bFw6
        have bCw6 : w3.heap.size < wr.heap.size := Nat.lt_of_lt_of_le xC s10
        have dCw6 : w3.heap.size < wr.heap.size + 1 := Nat.lt_succ_of_lt bCw6
        have bMw6 : w5.heap.size < wr.heap.size := Nat.lt_of_lt_of_le xM s10
        have dMw6 : w5.heap.size < wr.heap.size + 1 := Nat.lt_succ_of_lt bMw6
        have hBw6 : Below w.heap.size w wr := Below.trans hBw5 (s11.mono hBw5.size)
        have zw6 : w.heap.size ≤ wr.heap.size := hBw6.size
        clear s0 s1 s2 s3 s4 s5 s6 s7 s8 s9 s10 s11 xA xB xF xC xM hcr hfr hzr hBr hbr zw5 hBw5 dCw5 bCw5 cC1w5 cC0w5 dFw5 bFw5 cF1w5 cF0w5 dBw5 bBw5 cB1w5 cB0w5 dAw5 bAw5 cA1w5 cA0w5
        repeat (clear hcr hfr hzr hBr hbr)
        skip
        obtain ⟨w6, ew6⟩ : ∃ x, x = wr := ⟨_, rfl⟩
        subst ew6
        go_wp2_with fail
        refine (round_any _ _ _).mono ?_
        rintro e w7 ⟨rfl, hw7⟩
        have hmw7 : Below w6.heap.size w6 w7 := on_below hw7 (by repeat' (first | (with_reducible exact Below.refl _ _) | (with_reducible assumption) | (with_reducible refine drewN_below ?_ _) | (with_reducible refine Below.drew ?_) | (with_reducible refine Below.alloc ?_ ?_ _) | (with_reducible refine Below.setCell ?_ ?_ _) | (simp; done) | omega | (simp; omega))) (by first | (with_reducible assumption) | (simp; done) | omega | (simp; omega))
        have cA0w7 := (hmw7.cell (p := ⟨w.heap.size, 0, none⟩) bAw6).trans cA0w6
        have cA1w7 := (hmw7.cell (p := ⟨w.heap.size, 1, none⟩) bAw6).trans cA1w6
        have bAw7 : w.heap.size < w7.heap.size := Nat.lt_of_lt_of_le bAw6 hmw7.size
        have dAw7 : w.heap.size < w7.heap.size + 1 := Nat.lt_succ_of_lt bAw7
        have cB0w7 := (hmw7.cell (p := ⟨w.heap.size + 1, 0, none⟩) bBw6).trans cB0w6
        have cB1w7 := (hmw7.cell (p := ⟨w.heap.size + 1, 1, none⟩) bBw6).trans cB1w6
        have bBw7 : w.heap.size + 1 < w7.heap.size := Nat.lt_of_lt_of_le bBw6 hmw7.size
        have dBw7 : w.heap.size + 1 < w7.heap.size + 1 := Nat.lt_succ_of_lt bBw7
        have cF0w7 := (hmw7.cell (p := ⟨w2.heap.size, 0, none⟩) bFw6).trans cF0w6
        have cF1w7 := (hmw7.cell (p := ⟨w2.heap.size, 1, none⟩) bFw6).trans cF1w6
        have bFw7 : w2.heap.size < w7.heap.size := Nat.lt_of_lt_of_le bFw6 hmw7.size
        have dFw7 : w2.heap.size < w7.heap.size + 1 := Nat.lt_succ_of_lt bFw7
        have cC0w7 := (hmw7.cell (p := ⟨w3.heap.size, 0, none⟩) bCw6).trans cC0w6
        have cC1w7 := (hmw7.cell (p := ⟨w3.heap.size, 1, none⟩) bCw6).trans cC1w6
        have bCw7 : w3.heap.size < w7.heap.size := Nat.lt_of_lt_of_le bCw6 hmw7.size
        have dCw7 : w3.heap.size < w7.heap.size + 1 := Nat.lt_succ_of_lt bCw7
        have cM0w7 := (hmw7.cell (p := ⟨w5.heap.size, 0, none⟩) bMw6).trans cM0w6
        have cM1w7 := (hmw7.cell (p := ⟨w5.heap.size, 1, none⟩) bMw6).trans cM1w6
        have bMw7 : w5.heap.size < w7.heap.size := Nat.lt_of_lt_of_le bMw6 hmw7.size
        have dMw7 : w5.heap.size < w7.heap.size + 1 := Nat.lt_succ_of_lt bMw7
        have hBw7 : Below w.heap.size w w7 := Below.trans hBw6 (hmw7.mono hBw6.size)
        have zw7 : w.heap.size ≤ w7.heap.size := hBw7.size
        clear hmw7 hw7 zw6 hBw6 dMw6 bMw6 dCw6 bCw6 dFw6 bFw6 dBw6 bBw6 dAw6 bAw6 cM1w6 cM0w6 cC1w6 cC0w6 cF1w6 cF0w6 cB1w6 cB0w6 cA1w6 cA0w6
        rw [eu.out]
        go_wp2_with fail
        refine (sub_any _ _ _ _ _).mono ?_
        rintro e w8 ⟨rfl, hw8⟩
        have hmw8 : Below w7.heap.size w7 w8 := on_below hw8 (by repeat' (first | (with_reducible exact Below.refl _ _) | (with_reducible assumption) | (with_reducible refine drewN_below ?_ _) | (with_reducible refine Below.drew ?_) | (with_reducible refine Below.alloc ?_ ?_ _) | (with_reducible refine Below.setCell ?_ ?_ _) | (simp; done) | omega | (simp; omega))) (by first | (with_reducible assumption) | (simp; done) | omega | (simp; omega))
        have cA0w8 := (hmw8.cell (p := ⟨w.heap.size, 0, none⟩) bAw7).trans cA0w7
        have cA1w8 := (hmw8.cell (p := ⟨w.heap.size, 1, none⟩) bAw7).trans cA1w7
        have bAw8 : w.heap.size < w8.heap.size := Nat.lt_of_lt_of_le bAw7 hmw8.size
        have dAw8 : w.heap.size < w8.heap.size + 1 := Nat.lt_succ_of_lt bAw8
        have cB0w8 := (hmw8.cell (p := ⟨w.heap.size + 1, 0, none⟩) bBw7).trans cB0w7
        have cB1w8 := (hmw8.cell (p := ⟨w.heap.size + 1, 1, none⟩) bBw7).trans cB1w7
        have bBw8 : w.heap.size + 1 < w8.heap.size := Nat.lt_of_lt_of_le bBw7 hmw8.size
        have dBw8 : w.heap.size + 1 < w8.heap.size + 1 := Nat.lt_succ_of_lt bBw8
        have cF0w8 := (hmw8.cell (p := ⟨w2.heap.size, 0, none⟩) bFw7).trans cF0w7
        have cF1w8 := (hmw8.cell (p := ⟨w2.heap.size, 1, none⟩) bFw7).trans cF1w7
        have bFw8 : w2.heap.size < w8.heap.size := Nat.lt_of_lt_of_le bFw7 hmw8.size
        have dFw8 : w2.heap.size < w8.heap.size + 1 := Nat.lt_succ_of_lt bFw8
        have cC0w8 := (hmw8.cell (p := ⟨w3.heap.size, 0, none⟩) bCw7).trans cC0w7
        have cC1w8 := (hmw8.cell (p := ⟨w3.heap.size, 1, none⟩) bCw7).trans cC1w7
        have bCw8 : w3.heap.size < w8.heap.size := Nat.lt_of_lt_of_le bCw7 hmw8.size
        have dCw8 : w3.heap.size < w8.heap.size + 1 := Nat.lt_succ_of_lt bCw8
        have cM0w8 := (hmw8.cell (p := ⟨w5.heap.size, 0, none⟩) bMw7).trans cM0w7
        have cM1w8 := (hmw8.cell (p := ⟨w5.heap.size, 1, none⟩) bMw7).trans cM1w7
        have bMw8 : w5.heap.size < w8.heap.size := Nat.lt_of_lt_of_le bMw7 hmw8.size
        have dMw8 : w5.heap.size < w8.heap.size + 1 := Nat.lt_succ_of_lt bMw8
        have cU0w8 : w8.cell? ⟨w7.heap.size, 0, none⟩ = some (.int .i64 un) := by rw [hw8.cell (p := ⟨w7.heap.size, 0, none⟩) (by first | (with_reducible assumption) | (simp; done) | omega | (simp; omega))]; simp [go_sem]
        have cU1w8 : w8.cell? ⟨w7.heap.size, 1, none⟩ = some (.int .i64 ud) := by rw [hw8.cell (p := ⟨w7.heap.size, 1, none⟩) (by first | (with_reducible assumption) | (simp; done) | omega | (simp; omega))]; simp [go_sem]
        have bUw8 : w7.heap.size < w8.heap.size := by have := hw8.size; first | omega | (simp at this; omega)
        have dUw8 : w7.heap.size < w8.heap.size + 1 := Nat.lt_succ_of_lt bUw8
        have hBw8 : Below w.heap.size w w8 := Below.trans hBw7 (hmw8.mono hBw7.size)
        have zw8 : w.heap.size ≤ w8.heap.size := hBw8.size
        clear hmw8 hw8 zw7 hBw7 dMw7 bMw7 cM1w7 cM0w7 dCw7 bCw7 cC1w7 cC0w7 dFw7 bFw7 cF1w7 cF0w7 dBw7 bBw7 cB1w7 cB0w7 dAw7 bAw7 cA1w7 cA0w7
        rw [es.out]
        go_wp2_with fail
        refine (abs_any _ _ _).mono ?_
        rintro e w9 ⟨rfl, hw9⟩
        have hmw9 : Below w8.heap.size w8 w9 := on_below hw9 (by repeat' (first | (with_reducible exact Below.refl _ _) | (with_reducible assumption) | (with_reducible refine drewN_below ?_ _) | (with_reducible refine Below.drew ?_) | (with_reducible refine Below.alloc ?_ ?_ _) | (with_reducible refine Below.setCell ?_ ?_ _) | (simp; done) | omega | (simp; omega))) (by first | (with_reducible assumption) | (simp; done) | omega | (simp; omega))
        have cA0w9 := (hmw9.cell (p := ⟨w.heap.size, 0, none⟩) bAw8).trans cA0w8
        have cA1w9 := (hmw9.cell (p := ⟨w.heap.size, 1, none⟩) bAw8).trans cA1w8
        have bAw9 : w.heap.size < w9.heap.size := Nat.lt_of_lt_of_le bAw8 hmw9.size
        have dAw9 : w.heap.size < w9.heap.size + 1 := Nat.lt_succ_of_lt bAw9
        have cB0w9 := (hmw9.cell (p := ⟨w.heap.size + 1, 0, none⟩) bBw8).trans cB0w8
        have cB1w9 := (hmw9.cell (p := ⟨w.heap.size + 1, 1, none⟩) bBw8).trans cB1w8
        have bBw9 : w.heap.size + 1 < w9.heap.size := Nat.lt_of_lt_of_le bBw8 hmw9.size
        have dBw9 : w.heap.size + 1 < w9.heap.size + 1 := Nat.lt_succ_of_lt bBw9
        have cF0w9 := (hmw9.cell (p := ⟨w2.heap.size, 0, none⟩) bFw8).trans cF0w8
        have cF1w9 := (hmw9.cell (p := ⟨w2.heap.size, 1, none⟩) bFw8).trans cF1w8
        have bFw9 : w2.heap.size < w9.heap.size := Nat.lt_of_lt_of_le bFw8 hmw9.size
        have dFw9 : w2.heap.size < w9.heap.size + 1 := Nat.lt_succ_of_lt bFw9
        have cC0w9 := (hmw9.cell (p := ⟨w3.heap.size, 0, none⟩) bCw8).trans cC0w8
        have cC1w9 := (hmw9.cell (p := ⟨w3.heap.size, 1, none⟩) bCw8).trans cC1w8
        have bCw9 : w3.heap.size < w9.heap.size := Nat.lt_of_lt_of_le bCw8 hmw9.size
        have dCw9 : w3.heap.size < w9.heap.size + 1 := Nat.lt_succ_of_lt bCw9
        have cM0w9 := (hmw9.cell (p := ⟨w5.heap.size, 0, none⟩) bMw8).trans cM0w8
        have cM1w9 := (hmw9.cell (p := ⟨w5.heap.size, 1, none⟩) bMw8).trans cM1w8
        have bMw9 : w5.heap.size < w9.heap.size := Nat.lt_of_lt_of_le bMw8 hmw9.size
        have dMw9 : w5.heap.size < w9.heap.size + 1 := Nat.lt_succ_of_lt bMw9
        have cU0w9 := (hmw9.cell (p := ⟨w7.heap.size, 0, none⟩) bUw8).trans cU0w8
        have cU1w9 := (hmw9.cell (p := ⟨w7.heap.size, 1, none⟩) bUw8).trans cU1w8
        have bUw9 : w7.heap.size < w9.heap.size := Nat.lt_of_lt_of_le bUw8 hmw9.size
        have dUw9 : w7.heap.size < w9.heap.size + 1 := Nat.lt_succ_of_lt bUw9
        have hBw9 : Below w.heap.size w w9 := Below.trans hBw8 (hmw9.mono hBw8.size)
        have zw9 : w.heap.size ≤ w9.heap.size := hBw9.size
        clear hmw9 hw9 zw8 hBw8 dUw8 bUw8 cU1w8 cU0w8 dMw8 bMw8 cM1w8 cM0w8 dCw8 bCw8 cC1w8 cC0w8 dFw8 bFw8 cF1w8 cF0w8 dBw8 bBw8 cB1w8 cB0w8 dAw8 bAw8 cA1w8 cA0w8
        rw [et.out]
        go_wp2_with fail
        refine (cmp_any _ _ _ _ _).mono ?_
        rintro e w10 ⟨rfl, hw10⟩
        have hmw10 : Below w9.heap.size w9 w10 := on_below hw10 (by repeat' (first | (with_reducible exact Below.refl _ _) | (with_reducible assumption) | (with_reducible refine drewN_below ?_ _) | (with_reducible refine Below.drew ?_) | (with_reducible refine Below.alloc ?_ ?_ _) | (with_reducible refine Below.setCell ?_ ?_ _) | (simp; done) | omega | (simp; omega))) (by first | (with_reducible assumption) | (simp; done) | omega | (simp; omega))
        have cA0w10 := (hmw10.cell (p := ⟨w.heap.size, 0, none⟩) bAw9).trans cA0w9
        have cA1w10 := (hmw10.cell (p := ⟨w.heap.size, 1, none⟩) bAw9).trans cA1w9
        have bAw10 : w.heap.size < w10.heap.size := Nat.lt_of_lt_of_le bAw9 hmw10.size
        have dAw10 : w.heap.size < w10.heap.size + 1 := Nat.lt_succ_of_lt bAw10
        have cB0w10 := (hmw10.cell (p := ⟨w.heap.size + 1, 0, none⟩) bBw9).trans cB0w9
        have cB1w10 := (hmw10.cell (p := ⟨w.heap.size + 1, 1, none⟩) bBw9).trans cB1w9
        have bBw10 : w.heap.size + 1 < w10.heap.size := Nat.lt_of_lt_of_le bBw9 hmw10.size
        have dBw10 : w.heap.size + 1 < w10.heap.size + 1 := Nat.lt_succ_of_lt bBw10
        have cF0w10 := (hmw10.cell (p := ⟨w2.heap.size, 0, none⟩) bFw9).trans cF0w9
        have cF1w10 := (hmw10.cell (p := ⟨w2.heap.size, 1, none⟩) bFw9).trans cF1w9
        have bFw10 : w2.heap.size < w10.heap.size := Nat.lt_of_lt_of_le bFw9 hmw10.size
        have dFw10 : w2.heap.size < w10.heap.size + 1 := Nat.lt_succ_of_lt bFw10
        have cC0w10 := (hmw10.cell (p := ⟨w3.heap.size, 0, none⟩) bCw9).trans cC0w9
        have cC1w10 := (hmw10.cell (p := ⟨w3.heap.size, 1, none⟩) bCw9).trans cC1w9
        have bCw10 : w3.heap.size < w10.heap.size := Nat.lt_of_lt_of_le bCw9 hmw10.size
        have dCw10 : w3.heap.size < w10.heap.size + 1 := Nat.lt_succ_of_lt bCw10
        have cM0w10 := (hmw10.cell (p := ⟨w5.heap.size, 0, none⟩) bMw9).trans cM0w9
        have cM1w10 := (hmw10.cell (p := ⟨w5.heap.size, 1, none⟩) bMw9).trans cM1w9
        have bMw10 : w5.heap.size < w10.heap.size := Nat.lt_of_lt_of_le bMw9 hmw10.size
        have dMw10 : w5.heap.size < w10.heap.size + 1 := Nat.lt_succ_of_lt bMw10
        have cU0w10 := (hmw10.cell (p := ⟨w7.heap.size, 0, none⟩) bUw9).trans cU0w9
        have cU1w10 := (hmw10.cell (p := ⟨w7.heap.size, 1, none⟩) bUw9).trans cU1w9
        have bUw10 : w7.heap.size < w10.heap.size := Nat.lt_of_lt_of_le bUw9 hmw10.size
        have dUw10 : w7.heap.size < w10.heap.size + 1 := Nat.lt_succ_of_lt bUw10
        have hBw10 : Below w.heap.size w w10 := Below.trans hBw9 (hmw10.mono hBw9.size)
        have zw10 : w.heap.size ≤ w10.heap.size := hBw10.size
        clear hmw10 hw10 zw9 hBw9 dUw9 bUw9 cU1w9 cU0w9 dMw9 bMw9 cM1w9 cM0w9 dCw9 bCw9 cC1w9 cC0w9 dFw9 bFw9 cF1w9 cF0w9 dBw9 bBw9 cB1w9 cB0w9 dAw9 bAw9 cA1w9 cA0w9
        rw [e2.out]
        go_wp2_with fail
        refine (awake_any _).mono ?_
        rintro e w11 ⟨rfl, hw11⟩
        have hmw11 : Below w10.heap.size w10 w11 := on_below hw11 (by repeat' (first | (with_reducible exact Below.refl _ _) | (with_reducible assumption) | (with_reducible refine drewN_below ?_ _) | (with_reducible refine Below.drew ?_) | (with_reducible refine Below.alloc ?_ ?_ _) | (with_reducible refine Below.setCell ?_ ?_ _) | (simp; done) | omega | (simp; omega))) (by first | (with_reducible assumption) | (simp; done) | omega | (simp; omega))
        have cA0w11 := (hmw11.cell (p := ⟨w.heap.size, 0, none⟩) bAw10).trans cA0w10
        have cA1w11 := (hmw11.cell (p := ⟨w.heap.size, 1, none⟩) bAw10).trans cA1w10
        have bAw11 : w.heap.size < w11.heap.size := Nat.lt_of_lt_of_le bAw10 hmw11.size
        have dAw11 : w.heap.size < w11.heap.size + 1 := Nat.lt_succ_of_lt bAw11
        have cB0w11 := (hmw11.cell (p := ⟨w.heap.size + 1, 0, none⟩) bBw10).trans cB0w10
        have cB1w11 := (hmw11.cell (p := ⟨w.heap.size + 1, 1, none⟩) bBw10).trans cB1w10
        have bBw11 : w.heap.size + 1 < w11.heap.size := Nat.lt_of_lt_of_le bBw10 hmw11.size
        have dBw11 : w.heap.size + 1 < w11.heap.size + 1 := Nat.lt_succ_of_lt bBw11
        have cF0w11 := (hmw11.cell (p := ⟨w2.heap.size, 0, none⟩) bFw10).trans cF0w10
        have cF1w11 := (hmw11.cell (p := ⟨w2.heap.size, 1, none⟩) bFw10).trans cF1w10
        have bFw11 : w2.heap.size < w11.heap.size := Nat.lt_of_lt_of_le bFw10 hmw11.size
        have dFw11 : w2.heap.size < w11.heap.size + 1 := Nat.lt_succ_of_lt bFw11
        have cC0w11 := (hmw11.cell (p := ⟨w3.heap.size, 0, none⟩) bCw10).trans cC0w10
        have cC1w11 := (hmw11.cell (p := ⟨w3.heap.size, 1, none⟩) bCw10).trans cC1w10
        have bCw11 : w3.heap.size < w11.heap.size := Nat.lt_of_lt_of_le bCw10 hmw11.size
        have dCw11 : w3.heap.size < w11.heap.size + 1 := Nat.lt_succ_of_lt bCw11
        have cM0w11 := (hmw11.cell (p := ⟨w5.heap.size, 0, none⟩) bMw10).trans cM0w10
        have cM1w11 := (hmw11.cell (p := ⟨w5.heap.size, 1, none⟩) bMw10).trans cM1w10
        have bMw11 : w5.heap.size < w11.heap.size := Nat.lt_of_lt_of_le bMw10 hmw11.size
        have dMw11 : w5.heap.size < w11.heap.size + 1 := Nat.lt_succ_of_lt bMw11
        have cU0w11 := (hmw11.cell (p := ⟨w7.heap.size, 0, none⟩) bUw10).trans cU0w10
        have cU1w11 := (hmw11.cell (p := ⟨w7.heap.size, 1, none⟩) bUw10).trans cU1w10
        have bUw11 : w7.heap.size < w11.heap.size := Nat.lt_of_lt_of_le bUw10 hmw11.size
        have dUw11 : w7.heap.size < w11.heap.size + 1 := Nat.lt_succ_of_lt bUw11
        have hBw11 : Below w.heap.size w w11 := Below.trans hBw10 (hmw11.mono hBw10.size)
        have zw11 : w.heap.size ≤ w11.heap.size := hBw11.size
        clear hmw11 hw11 zw10 hBw10 dUw10 bUw10 cU1w10 cU0w10 dMw10 bMw10 cM1w10 cM0w10 dCw10 bCw10 cC1w10 cC0w10 dFw10 bFw10 cF1w10 cF0w10 dBw10 bBw10 cB1w10 cB0w10 dAw10 bAw10 cA1w10 cA0w10
        go_wp2
        go_ret
        exact ⟨rfl, (by repeat' (first | (with_reducible exact Below.refl _ _) | (with_reducible assumption) | (with_reducible refine drewN_below ?_ _) | (with_reducible refine Below.drew ?_) | (with_reducible refine Below.alloc ?_ ?_ _) | (with_reducible refine Below.setCell ?_ ?_ _) | (simp; done) | omega | (simp; omega)))⟩

theorem rounds_any (an ad bn bd : Int) (w : World) :
    Calls Try.prog 8 #[.agg #[.int .i64 an, .int .i64 ad], .agg #[.int .i64 bn, .int .i64 bd]] w fun e w' => e = .returned (.bool true) ∧ Below w.heap.size w w' := by
  cases h : Q.isq an ad
  · exact rounds_none an ad bn bd h w
  · exact rounds_yes an ad bn bd h w
end Go.Proofs.Ytpoalckncfkdgaa
