/-
  Reading a number: what the call gives.
-/
import Derived.Test.YtpoalckncfkdgaaDoorPfrac
namespace Go.Proofs.YtpoalckncfkdgaaDoor
open Go.RowKit
namespace Q
theorem digs_lt (l : List UInt8) (m : Nat) : (digs l m).1 < 10 ^ m := by
  by_cases h : (digs l m).2 = true
  · obtain ⟨h1, h2, h3, h4⟩ := digs_ok h
    rw [h4]
    exact Nat.lt_of_lt_of_le (num_lt _ l rfl h3) (Nat.pow_le_pow_right (by decide) h2)
  · have : digs l m = (0, false) := by
      unfold digs at h ⊢
      split
      · rename_i h'; rw [if_pos h'] at h; exact absurd rfl h
      · rfl
    rw [this]; exact Nat.pow_pos (by decide)
theorem fraction_bd (l : List UInt8) : (fraction l).1 < 18446744073709551616 ∧ (fraction l).2.1 < 18446744073709551616 := by
  have a := digs_lt (cut1 47 l).1 10
  have b := digs_lt (cut1 47 l).2.1 10
  have c := digs_lt (cut1 46 l).1 10
  have d := digs_lt (cut1 46 l).2.1 9
  unfold fraction
  split
  · unfold frac1; constructor <;> dsimp only <;> omega
  · unfold frac2
    split
    · constructor <;> dsimp only <;> omega
    · split
      · rename_i h
        obtain ⟨d1, d2, _, _⟩ := digs_ok h
        have hp : (10 : Nat) ^ (cut1 46 l).2.1.length ≤ 10 ^ 9 := Nat.pow_le_pow_right (by decide) d2
        have hm : (digs (cut1 46 l).1 10).1 * 10 ^ (cut1 46 l).2.1.length ≤ 10 ^ 10 * 10 ^ 9 := Nat.mul_le_mul (by omega) hp
        constructor <;> dsimp only <;> omega
      · constructor <;> dsimp only <;> omega
theorem trim_len (l p : List UInt8) : (Lib.trimPrefix l p).length ≤ l.length := by
  unfold Lib.trimPrefix; split
  · rw [List.length_drop]; omega
  · exact Nat.le_refl _
end Q

set_option maxRecDepth 100000 in
set_option maxHeartbeats 1600000 in
theorem parse_any (s : ByteArray) (hs : s.size ≤ 9223372036854775807) (w : World) :
    Calls Tryd.prog 4 #[.string s] w fun e w' => e = .returned (.tuple #[.agg #[.int .i64 (Q.parse s.data.toList).1.1, .int .i64 (Q.parse s.data.toList).1.2], .int .i64 (Q.parse s.data.toList).2]) ∧ Below w.heap.size w w' := by
  have hsl : s.toList = s.data.toList := ByteArray.toList_eq s
  cases h0 : (s.data.toList == Q.none4)
  rotate_left
  · have e : Q.parse s.data.toList = ((0, 0), 0) := by unfold Q.parse; rw [h0]; rfl
    rw [e]
    have h1 : (s.toList == [110, 111, 110, 101]) = true := by rw [hsl]; exact h0
    clear e h0 hsl
    go_enter Tryd.func4, Tryd.ntmps4
    go_wp2
    exact bodyPost_ret (v := .tuple #[.agg #[.int .i64 0, .int .i64 0], .int .i64 0]) (by simp [results, Tryd.results4, go_sem]) rfl ⟨rfl, (by repeat' (first | (with_reducible exact Below.refl _ _) | (with_reducible assumption) | (with_reducible refine drewN_below ?_ _) | (with_reducible refine Below.drew ?_) | (with_reducible refine Below.alloc ?_ ?_ _) | (with_reducible refine Below.setCell ?_ ?_ _) | (simp; done) | omega | (simp; omega)))⟩
  · have h1 : (s.toList == [110, 111, 110, 101]) = false := by rw [hsl]; exact h0
    obtain ⟨U, hU⟩ : ∃ U : ByteArray, Hid ((⟨(Lib.trimPrefix s.data.toList (⟨#[45]⟩ : ByteArray).data.toList).toArray⟩ : ByteArray) = U) := ⟨_, rfl⟩
    obtain ⟨b, hb⟩ : ∃ b, Hid (Lib.hasPrefix s.data.toList (⟨#[45]⟩ : ByteArray).data.toList = b) := ⟨_, rfl⟩
    have hUl : U.data.toList = Lib.trimPrefix s.data.toList [45] := by rw [← hU.out]
    have hUs : U.size ≤ 9223372036854775807 := by
      rw [Lib.size_eq] at hs ⊢; rw [hUl]; exact Nat.le_trans (Q.trim_len _ _) hs
    have HE : Hid (Q.parse s.data.toList = Q.parse3 b (Q.fraction U.data.toList)) := by
      unfold Hid Q.parse; rw [h0, if_neg (by decide), hUl, ← hb.out]
    have hbd := Q.fraction_bd U.data.toList
    obtain ⟨N, hN⟩ : ∃ N, Hid ((Q.fraction U.data.toList).1 = N) := ⟨_, rfl⟩
    obtain ⟨D, hD⟩ : ∃ D, Hid ((Q.fraction U.data.toList).2.1 = D) := ⟨_, rfl⟩
    obtain ⟨ok, hok⟩ : ∃ o, Hid ((Q.fraction U.data.toList).2.2 = o) := ⟨_, rfl⟩
    rw [hN.out, hD.out] at hbd
    obtain ⟨hN1, hD1⟩ := hbd
    obtain ⟨x, y, hxy⟩ : ∃ x y, Hid (Q.low b N D = (x, y)) := ⟨_, _, rfl⟩
    have HP : Hid (Q.parse s.data.toList = if ok = true then Q.ends (x, y) else ((0, 0), 3)) := by
      unfold Hid; rw [HE.out]; unfold Q.parse3; rw [hok.out, hN.out, hD.out, hxy.out]
    clear hUl HE h0 hsl
    cases ok
    · rw [HP.out, if_neg (by decide)]
      clear HP
      go_enter Tryd.func4, Tryd.ntmps4
      go_wp2_with fail
      refine (Tryd.strings_CutPrefix _ _ _).mono ?_
      rintro e w0 ⟨rfl, rfl⟩
      rw [hU.out, hb.out]
      go_wp2_with fail
      refine (fraction_any _ hUs _).mono ?_
      rintro e w1 ⟨rfl, hw1⟩
      have hmw1 : Below w.heap.size w w1 := on_below hw1 (by repeat' (first | (with_reducible exact Below.refl _ _) | (with_reducible assumption) | (with_reducible refine drewN_below ?_ _) | (with_reducible refine Below.drew ?_) | (with_reducible refine Below.alloc ?_ ?_ _) | (with_reducible refine Below.setCell ?_ ?_ _) | (simp; done) | omega | (simp; omega))) (by first | (with_reducible assumption) | (simp; done) | omega | (simp; omega))
      have cR0w1 : w1.cell? ⟨w.heap.size, 0, none⟩ = some (.int .i64 0) := by rw [hw1.cell (p := ⟨w.heap.size, 0, none⟩) (by first | (with_reducible assumption) | (simp; done) | omega | (simp; omega))]; simp [go_sem]
      have cR1w1 : w1.cell? ⟨w.heap.size, 1, none⟩ = some (.int .i64 0) := by rw [hw1.cell (p := ⟨w.heap.size, 1, none⟩) (by first | (with_reducible assumption) | (simp; done) | omega | (simp; omega))]; simp [go_sem]
      have zR0w1 : w1.frozen? ⟨w.heap.size, 0, none⟩ = false := by rw [hw1.frozen (p := ⟨w.heap.size, 0, none⟩) (by first | (with_reducible assumption) | (simp; done) | omega | (simp; omega))]; simp [go_sem]
      have zR1w1 : w1.frozen? ⟨w.heap.size, 1, none⟩ = false := by rw [hw1.frozen (p := ⟨w.heap.size, 1, none⟩) (by first | (with_reducible assumption) | (simp; done) | omega | (simp; omega))]; simp [go_sem]
      have bRw1 : w.heap.size < w1.heap.size := by have := hw1.size; first | omega | (simp at this; omega)
      have dRw1 : w.heap.size < w1.heap.size + 1 := Nat.lt_succ_of_lt bRw1
      have hBw1 : Below w.heap.size w w1 := hmw1
      have zw1 : w.heap.size ≤ w1.heap.size := hBw1.size
      clear hmw1 hw1
      rw [hN.out, hD.out, hok.out]
      go_wp2
      exact bodyPost_ret (v := .tuple #[.agg #[.int .i64 0, .int .i64 0], .int .i64 3]) (by simp [results, Tryd.results4, go_sem, cR0w1, cR1w1]) rfl ⟨rfl, (by repeat' (first | (with_reducible exact Below.refl _ _) | (with_reducible assumption) | (with_reducible refine drewN_below ?_ _) | (with_reducible refine Below.drew ?_) | (with_reducible refine Below.alloc ?_ ?_ _) | (with_reducible refine Below.setCell ?_ ?_ _) | (simp; done) | omega | (simp; omega)))⟩
    · rw [HP.out, if_pos rfl]
      clear HP
      cases hq : Q.isq x y
      · have e : Q.ends (x, y) = ((0, 0), 4) := by unfold Q.ends; rw [hq]; rfl
        rw [e]; clear e
        go_enter Tryd.func4, Tryd.ntmps4
        go_wp2_with fail
        refine (Tryd.strings_CutPrefix _ _ _).mono ?_
        rintro e w0 ⟨rfl, rfl⟩
        rw [hU.out, hb.out]
        go_wp2_with fail
        refine (fraction_any _ hUs _).mono ?_
        rintro e w1 ⟨rfl, hw1⟩
        have hmw1 : Below w.heap.size w w1 := on_below hw1 (by repeat' (first | (with_reducible exact Below.refl _ _) | (with_reducible assumption) | (with_reducible refine drewN_below ?_ _) | (with_reducible refine Below.drew ?_) | (with_reducible refine Below.alloc ?_ ?_ _) | (with_reducible refine Below.setCell ?_ ?_ _) | (simp; done) | omega | (simp; omega))) (by first | (with_reducible assumption) | (simp; done) | omega | (simp; omega))
        have cR0w1 : w1.cell? ⟨w.heap.size, 0, none⟩ = some (.int .i64 0) := by rw [hw1.cell (p := ⟨w.heap.size, 0, none⟩) (by first | (with_reducible assumption) | (simp; done) | omega | (simp; omega))]; simp [go_sem]
        have cR1w1 : w1.cell? ⟨w.heap.size, 1, none⟩ = some (.int .i64 0) := by rw [hw1.cell (p := ⟨w.heap.size, 1, none⟩) (by first | (with_reducible assumption) | (simp; done) | omega | (simp; omega))]; simp [go_sem]
        have zR0w1 : w1.frozen? ⟨w.heap.size, 0, none⟩ = false := by rw [hw1.frozen (p := ⟨w.heap.size, 0, none⟩) (by first | (with_reducible assumption) | (simp; done) | omega | (simp; omega))]; simp [go_sem]
        have zR1w1 : w1.frozen? ⟨w.heap.size, 1, none⟩ = false := by rw [hw1.frozen (p := ⟨w.heap.size, 1, none⟩) (by first | (with_reducible assumption) | (simp; done) | omega | (simp; omega))]; simp [go_sem]
        have bRw1 : w.heap.size < w1.heap.size := by have := hw1.size; first | omega | (simp at this; omega)
        have dRw1 : w.heap.size < w1.heap.size + 1 := Nat.lt_succ_of_lt bRw1
        have hBw1 : Below w.heap.size w w1 := hmw1
        have zw1 : w.heap.size ≤ w1.heap.size := hBw1.size
        clear hmw1 hw1
        rw [hN.out, hD.out, hok.out]
        go_wp2_with fail
        refine (lowest_any _ _ _ hN1 hD1 _).mono ?_
        rintro e w2 ⟨rfl, hw2⟩
        have hmw2 : Below w1.heap.size w1 w2 := on_below hw2 (by repeat' (first | (with_reducible exact Below.refl _ _) | (with_reducible assumption) | (with_reducible refine drewN_below ?_ _) | (with_reducible refine Below.drew ?_) | (with_reducible refine Below.alloc ?_ ?_ _) | (with_reducible refine Below.setCell ?_ ?_ _) | (simp; done) | omega | (simp; omega))) (by first | (with_reducible assumption) | (simp; done) | omega | (simp; omega))
        have cR0w2 := (hmw2.cell (p := ⟨w.heap.size, 0, none⟩) bRw1).trans cR0w1
        have cR1w2 := (hmw2.cell (p := ⟨w.heap.size, 1, none⟩) bRw1).trans cR1w1
        have zR0w2 := (hmw2.frozen (p := ⟨w.heap.size, 0, none⟩) bRw1).trans zR0w1
        have zR1w2 := (hmw2.frozen (p := ⟨w.heap.size, 1, none⟩) bRw1).trans zR1w1
        have bRw2 : w.heap.size < w2.heap.size := Nat.lt_of_lt_of_le bRw1 hmw2.size
        have dRw2 : w.heap.size < w2.heap.size + 1 := Nat.lt_succ_of_lt bRw2
        have hBw2 : Below w.heap.size w w2 := Below.trans hBw1 (hmw2.mono hBw1.size)
        have zw2 : w.heap.size ≤ w2.heap.size := hBw2.size
        clear hmw2 hw2 zw1 hBw1 dRw1 bRw1 zR1w1 zR0w1 cR1w1 cR0w1
        rw [hxy.out]
        go_wp2_with fail
        refine (is_any _ _ _).mono ?_
        rintro e w3 ⟨rfl, hw3⟩
        have hmw3 : Below w2.heap.size w2 w3 := on_below hw3 (by repeat' (first | (with_reducible exact Below.refl _ _) | (with_reducible assumption) | (with_reducible refine drewN_below ?_ _) | (with_reducible refine Below.drew ?_) | (with_reducible refine Below.alloc ?_ ?_ _) | (with_reducible refine Below.setCell ?_ ?_ _) | (simp; done) | omega | (simp; omega))) (by first | (with_reducible assumption) | (simp; done) | omega | (simp; omega))
        have cR0w3 := (hmw3.cell (p := ⟨w.heap.size, 0, none⟩) bRw2).trans cR0w2
        have cR1w3 := (hmw3.cell (p := ⟨w.heap.size, 1, none⟩) bRw2).trans cR1w2
        have zR0w3 := (hmw3.frozen (p := ⟨w.heap.size, 0, none⟩) bRw2).trans zR0w2
        have zR1w3 := (hmw3.frozen (p := ⟨w.heap.size, 1, none⟩) bRw2).trans zR1w2
        have bRw3 : w.heap.size < w3.heap.size := Nat.lt_of_lt_of_le bRw2 hmw3.size
        have dRw3 : w.heap.size < w3.heap.size + 1 := Nat.lt_succ_of_lt bRw3
        have cP0w3 : w3.cell? ⟨w2.heap.size, 0, none⟩ = some (.int .i64 x) := by rw [hw3.cell (p := ⟨w2.heap.size, 0, none⟩) (by first | (with_reducible assumption) | (simp; done) | omega | (simp; omega))]; simp [go_sem]
        have cP1w3 : w3.cell? ⟨w2.heap.size, 1, none⟩ = some (.int .i64 y) := by rw [hw3.cell (p := ⟨w2.heap.size, 1, none⟩) (by first | (with_reducible assumption) | (simp; done) | omega | (simp; omega))]; simp [go_sem]
        have bPw3 : w2.heap.size < w3.heap.size := by have := hw3.size; first | omega | (simp at this; omega)
        have dPw3 : w2.heap.size < w3.heap.size + 1 := Nat.lt_succ_of_lt bPw3
        have hBw3 : Below w.heap.size w w3 := Below.trans hBw2 (hmw3.mono hBw2.size)
        have zw3 : w.heap.size ≤ w3.heap.size := hBw3.size
        clear hmw3 hw3 zw2 hBw2 dRw2 bRw2 zR1w2 zR0w2 cR1w2 cR0w2
        rw [hq]
        go_wp2
        exact bodyPost_ret (v := .tuple #[.agg #[.int .i64 0, .int .i64 0], .int .i64 4]) (by simp [results, Tryd.results4, go_sem, cR0w3, cR1w3]) rfl ⟨rfl, (by repeat' (first | (with_reducible exact Below.refl _ _) | (with_reducible assumption) | (with_reducible refine drewN_below ?_ _) | (with_reducible refine Below.drew ?_) | (with_reducible refine Below.alloc ?_ ?_ _) | (with_reducible refine Below.setCell ?_ ?_ _) | (simp; done) | omega | (simp; omega)))⟩
      · have e : Q.ends (x, y) = ((x, y), 0) := by unfold Q.ends; rw [hq]; rfl
        rw [e]; clear e
        go_enter Tryd.func4, Tryd.ntmps4
        go_wp2_with fail
        refine (Tryd.strings_CutPrefix _ _ _).mono ?_
        rintro e w0 ⟨rfl, rfl⟩
        rw [hU.out, hb.out]
        go_wp2_with fail
        refine (fraction_any _ hUs _).mono ?_
        rintro e w1 ⟨rfl, hw1⟩
        have hmw1 : Below w.heap.size w w1 := on_below hw1 (by repeat' (first | (with_reducible exact Below.refl _ _) | (with_reducible assumption) | (with_reducible refine drewN_below ?_ _) | (with_reducible refine Below.drew ?_) | (with_reducible refine Below.alloc ?_ ?_ _) | (with_reducible refine Below.setCell ?_ ?_ _) | (simp; done) | omega | (simp; omega))) (by first | (with_reducible assumption) | (simp; done) | omega | (simp; omega))
        have cR0w1 : w1.cell? ⟨w.heap.size, 0, none⟩ = some (.int .i64 0) := by rw [hw1.cell (p := ⟨w.heap.size, 0, none⟩) (by first | (with_reducible assumption) | (simp; done) | omega | (simp; omega))]; simp [go_sem]
        have cR1w1 : w1.cell? ⟨w.heap.size, 1, none⟩ = some (.int .i64 0) := by rw [hw1.cell (p := ⟨w.heap.size, 1, none⟩) (by first | (with_reducible assumption) | (simp; done) | omega | (simp; omega))]; simp [go_sem]
        have zR0w1 : w1.frozen? ⟨w.heap.size, 0, none⟩ = false := by rw [hw1.frozen (p := ⟨w.heap.size, 0, none⟩) (by first | (with_reducible assumption) | (simp; done) | omega | (simp; omega))]; simp [go_sem]
        have zR1w1 : w1.frozen? ⟨w.heap.size, 1, none⟩ = false := by rw [hw1.frozen (p := ⟨w.heap.size, 1, none⟩) (by first | (with_reducible assumption) | (simp; done) | omega | (simp; omega))]; simp [go_sem]
        have bRw1 : w.heap.size < w1.heap.size := by have := hw1.size; first | omega | (simp at this; omega)
        have dRw1 : w.heap.size < w1.heap.size + 1 := Nat.lt_succ_of_lt bRw1
        have hBw1 : Below w.heap.size w w1 := hmw1
        have zw1 : w.heap.size ≤ w1.heap.size := hBw1.size
        clear hmw1 hw1
        rw [hN.out, hD.out, hok.out]
        go_wp2_with fail
        refine (lowest_any _ _ _ hN1 hD1 _).mono ?_
        rintro e w2 ⟨rfl, hw2⟩
        have hmw2 : Below w1.heap.size w1 w2 := on_below hw2 (by repeat' (first | (with_reducible exact Below.refl _ _) | (with_reducible assumption) | (with_reducible refine drewN_below ?_ _) | (with_reducible refine Below.drew ?_) | (with_reducible refine Below.alloc ?_ ?_ _) | (with_reducible refine Below.setCell ?_ ?_ _) | (simp; done) | omega | (simp; omega))) (by first | (with_reducible assumption) | (simp; done) | omega | (simp; omega))
        have cR0w2 := (hmw2.cell (p := ⟨w.heap.size, 0, none⟩) bRw1).trans cR0w1
        have cR1w2 := (hmw2.cell (p := ⟨w.heap.size, 1, none⟩) bRw1).trans cR1w1
        have zR0w2 := (hmw2.frozen (p := ⟨w.heap.size, 0, none⟩) bRw1).trans zR0w1
        have zR1w2 := (hmw2.frozen (p := ⟨w.heap.size, 1, none⟩) bRw1).trans zR1w1
        have bRw2 : w.heap.size < w2.heap.size := Nat.lt_of_lt_of_le bRw1 hmw2.size
        have dRw2 : w.heap.size < w2.heap.size + 1 := Nat.lt_succ_of_lt bRw2
        have hBw2 : Below w.heap.size w w2 := Below.trans hBw1 (hmw2.mono hBw1.size)
        have zw2 : w.heap.size ≤ w2.heap.size := hBw2.size
        clear hmw2 hw2 zw1 hBw1 dRw1 bRw1 zR1w1 zR0w1 cR1w1 cR0w1
        rw [hxy.out]
        go_wp2_with fail
        refine (is_any _ _ _).mono ?_
        rintro e w3 ⟨rfl, hw3⟩
        have hmw3 : Below w2.heap.size w2 w3 := on_below hw3 (by repeat' (first | (with_reducible exact Below.refl _ _) | (with_reducible assumption) | (with_reducible refine drewN_below ?_ _) | (with_reducible refine Below.drew ?_) | (with_reducible refine Below.alloc ?_ ?_ _) | (with_reducible refine Below.setCell ?_ ?_ _) | (simp; done) | omega | (simp; omega))) (by first | (with_reducible assumption) | (simp; done) | omega | (simp; omega))
        have cR0w3 := (hmw3.cell (p := ⟨w.heap.size, 0, none⟩) bRw2).trans cR0w2
        have cR1w3 := (hmw3.cell (p := ⟨w.heap.size, 1, none⟩) bRw2).trans cR1w2
        have zR0w3 := (hmw3.frozen (p := ⟨w.heap.size, 0, none⟩) bRw2).trans zR0w2
        have zR1w3 := (hmw3.frozen (p := ⟨w.heap.size, 1, none⟩) bRw2).trans zR1w2
        have bRw3 : w.heap.size < w3.heap.size := Nat.lt_of_lt_of_le bRw2 hmw3.size
        have dRw3 : w.heap.size < w3.heap.size + 1 := Nat.lt_succ_of_lt bRw3
        have cP0w3 : w3.cell? ⟨w2.heap.size, 0, none⟩ = some (.int .i64 x) := by rw [hw3.cell (p := ⟨w2.heap.size, 0, none⟩) (by first | (with_reducible assumption) | (simp; done) | omega | (simp; omega))]; simp [go_sem]
        have cP1w3 : w3.cell? ⟨w2.heap.size, 1, none⟩ = some (.int .i64 y) := by rw [hw3.cell (p := ⟨w2.heap.size, 1, none⟩) (by first | (with_reducible assumption) | (simp; done) | omega | (simp; omega))]; simp [go_sem]
        have bPw3 : w2.heap.size < w3.heap.size := by have := hw3.size; first | omega | (simp at this; omega)
        have dPw3 : w2.heap.size < w3.heap.size + 1 := Nat.lt_succ_of_lt bPw3
        have hBw3 : Below w.heap.size w w3 := Below.trans hBw2 (hmw3.mono hBw2.size)
        have zw3 : w.heap.size ≤ w3.heap.size := hBw3.size
        clear hmw3 hw3 zw2 hBw2 dRw2 bRw2 zR1w2 zR0w2 cR1w2 cR0w2
        rw [hq]
        go_wp2
        exact bodyPost_ret (v := .tuple #[.agg #[.int .i64 x, .int .i64 y], .int .i64 0]) (by simp [results, Tryd.results4, go_sem, cR0w3, cR1w3]) rfl ⟨rfl, (by repeat' (first | (with_reducible exact Below.refl _ _) | (with_reducible assumption) | (with_reducible refine drewN_below ?_ _) | (with_reducible refine Below.drew ?_) | (with_reducible refine Below.alloc ?_ ?_ _) | (with_reducible refine Below.setCell ?_ ?_ _) | (simp; done) | omega | (simp; omega)))⟩

end Go.Proofs.YtpoalckncfkdgaaDoor
