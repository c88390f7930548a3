/-
  The specification's own fractions, and its reading of a number: what each call gives.
-/
import Derived.Test.YtpoalckncfkdgaaDoorRdig
namespace Go.Proofs.YtpoalckncfkdgaaDoor
open Go.RowKit

set_option maxRecDepth 100000 in
set_option maxHeartbeats 800000 in
theorem rfraction_any (n d : Int) (hn : -9223372036854775808 ≤ n ∧ n ≤ 9223372036854775807) (hd : -9223372036854775808 ≤ d ∧ d ≤ 9223372036854775807) (w : World) :
    Calls Tryd.prog 16 #[.int .i64 n, .int .i64 d] w fun e w' => e = .returned (.tuple #[.agg #[.int .i64 (Q.rfrac n d).1.1, .int .i64 (Q.rfrac n d).1.2], .int .i64 (Q.rfrac n d).2]) ∧ Below w.heap.size w w' := by
  by_cases h0 : d = 0
  · subst h0
    have e : Q.rfrac n 0 = ((0, 0), 3) := rfl
    rw [e]; clear e
    go_enter Tryd.func16, Tryd.ntmps16
    go_wp2_with fail
    refine (rnone_any _).mono ?_
    rintro e w1 ⟨rfl, hw1⟩
    have hmw1 : Below w.heap.size w w1 := on_below hw1 (by repeat' (first | (with_reducible exact Below.refl _ _) | (with_reducible assumption) | (with_reducible refine drewN_below ?_ _) | (with_reducible refine Below.drew ?_) | (with_reducible refine Below.alloc ?_ ?_ _) | (with_reducible refine Below.setCell ?_ ?_ _) | (simp; done) | omega | (simp; omega))) (by first | (with_reducible assumption) | (simp; done) | omega | (simp; omega))
    have cR0w1 : w1.cell? ⟨w.heap.size, 0, none⟩ = some (.int .i64 0) := by rw [hw1.cell (p := ⟨w.heap.size, 0, none⟩) (by first | (with_reducible assumption) | (simp; done) | omega | (simp; omega))]; simp [go_sem]
    have cR1w1 : w1.cell? ⟨w.heap.size, 1, none⟩ = some (.int .i64 0) := by rw [hw1.cell (p := ⟨w.heap.size, 1, none⟩) (by first | (with_reducible assumption) | (simp; done) | omega | (simp; omega))]; simp [go_sem]
    have zR0w1 : w1.frozen? ⟨w.heap.size, 0, none⟩ = false := by rw [hw1.frozen (p := ⟨w.heap.size, 0, none⟩) (by first | (with_reducible assumption) | (simp; done) | omega | (simp; omega))]; simp [go_sem]
    have zR1w1 : w1.frozen? ⟨w.heap.size, 1, none⟩ = false := by rw [hw1.frozen (p := ⟨w.heap.size, 1, none⟩) (by first | (with_reducible assumption) | (simp; done) | omega | (simp; omega))]; simp [go_sem]
    have bRw1 : w.heap.size < w1.heap.size := by have := hw1.size; first | omega | (simp at this; omega)
    have dRw1 : w.heap.size < w1.heap.size + 1 := Nat.lt_succ_of_lt bRw1
    have hBw1 : Below w.heap.size w w1 := hmw1
    have zw1 : w.heap.size ≤ w1.heap.size := hBw1.size
    clear hmw1 hw1
    go_wp2
    exact bodyPost_ret (v := .tuple #[.agg #[.int .i64 0, .int .i64 0], .int .i64 3]) (by simp [results, Tryd.results16, go_sem, cR0w1, cR1w1]) rfl ⟨rfl, (by repeat' (first | (with_reducible exact Below.refl _ _) | (with_reducible assumption) | (with_reducible refine drewN_below ?_ _) | (with_reducible refine Below.drew ?_) | (with_reducible refine Below.alloc ?_ ?_ _) | (with_reducible refine Below.setCell ?_ ?_ _) | (simp; done) | omega | (simp; omega)))⟩
  · have b0 : (d == 0) = false := by rw [beq_eq_false_iff_ne]; exact h0
    obtain ⟨x, y, hxy⟩ : ∃ x y, Hid (Q.mk n d = (x, y)) := ⟨_, _, rfl⟩
    cases hq : Q.isq x y
    · have e : Q.rfrac n d = ((0, 0), 4) := by unfold Q.rfrac Q.ends; rw [if_neg h0, hxy.out, hq]; rfl
      rw [e]; clear e
      go_enter Tryd.func16, Tryd.ntmps16
      go_wp2_with fail
      refine (rmake_all _ _ hn hd _).mono ?_
      rintro e w1 ⟨rfl, hw1⟩
      have hmw1 : Below w.heap.size w w1 := on_below hw1 (by repeat' (first | (with_reducible exact Below.refl _ _) | (with_reducible assumption) | (with_reducible refine drewN_below ?_ _) | (with_reducible refine Below.drew ?_) | (with_reducible refine Below.alloc ?_ ?_ _) | (with_reducible refine Below.setCell ?_ ?_ _) | (simp; done) | omega | (simp; omega))) (by first | (with_reducible assumption) | (simp; done) | omega | (simp; omega))
      have cR0w1 : w1.cell? ⟨w.heap.size, 0, none⟩ = some (.int .i64 0) := by rw [hw1.cell (p := ⟨w.heap.size, 0, none⟩) (by first | (with_reducible assumption) | (simp; done) | omega | (simp; omega))]; simp [go_sem]
      have cR1w1 : w1.cell? ⟨w.heap.size, 1, none⟩ = some (.int .i64 0) := by rw [hw1.cell (p := ⟨w.heap.size, 1, none⟩) (by first | (with_reducible assumption) | (simp; done) | omega | (simp; omega))]; simp [go_sem]
      have zR0w1 : w1.frozen? ⟨w.heap.size, 0, none⟩ = false := by rw [hw1.frozen (p := ⟨w.heap.size, 0, none⟩) (by first | (with_reducible assumption) | (simp; done) | omega | (simp; omega))]; simp [go_sem]
      have zR1w1 : w1.frozen? ⟨w.heap.size, 1, none⟩ = false := by rw [hw1.frozen (p := ⟨w.heap.size, 1, none⟩) (by first | (with_reducible assumption) | (simp; done) | omega | (simp; omega))]; simp [go_sem]
      have bRw1 : w.heap.size < w1.heap.size := by have := hw1.size; first | omega | (simp at this; omega)
      have dRw1 : w.heap.size < w1.heap.size + 1 := Nat.lt_succ_of_lt bRw1
      have hBw1 : Below w.heap.size w w1 := hmw1
      have zw1 : w.heap.size ≤ w1.heap.size := hBw1.size
      clear hmw1 hw1
      rw [hxy.out]
      go_wp2_with fail
      refine (ris_any _ _ _).mono ?_
      rintro e w2 ⟨rfl, hw2⟩
      have hmw2 : Below w1.heap.size w1 w2 := on_below hw2 (by repeat' (first | (with_reducible exact Below.refl _ _) | (with_reducible assumption) | (with_reducible refine drewN_below ?_ _) | (with_reducible refine Below.drew ?_) | (with_reducible refine Below.alloc ?_ ?_ _) | (with_reducible refine Below.setCell ?_ ?_ _) | (simp; done) | omega | (simp; omega))) (by first | (with_reducible assumption) | (simp; done) | omega | (simp; omega))
      have cR0w2 := (hmw2.cell (p := ⟨w.heap.size, 0, none⟩) bRw1).trans cR0w1
      have cR1w2 := (hmw2.cell (p := ⟨w.heap.size, 1, none⟩) bRw1).trans cR1w1
      have zR0w2 := (hmw2.frozen (p := ⟨w.heap.size, 0, none⟩) bRw1).trans zR0w1
      have zR1w2 := (hmw2.frozen (p := ⟨w.heap.size, 1, none⟩) bRw1).trans zR1w1
      have bRw2 : w.heap.size < w2.heap.size := Nat.lt_of_lt_of_le bRw1 hmw2.size
      have dRw2 : w.heap.size < w2.heap.size + 1 := Nat.lt_succ_of_lt bRw2
      have cP0w2 : w2.cell? ⟨w1.heap.size, 0, none⟩ = some (.int .i64 x) := by rw [hw2.cell (p := ⟨w1.heap.size, 0, none⟩) (by first | (with_reducible assumption) | (simp; done) | omega | (simp; omega))]; simp [go_sem]
      have cP1w2 : w2.cell? ⟨w1.heap.size, 1, none⟩ = some (.int .i64 y) := by rw [hw2.cell (p := ⟨w1.heap.size, 1, none⟩) (by first | (with_reducible assumption) | (simp; done) | omega | (simp; omega))]; simp [go_sem]
      have bPw2 : w1.heap.size < w2.heap.size := by have := hw2.size; first | omega | (simp at this; omega)
      have dPw2 : w1.heap.size < w2.heap.size + 1 := Nat.lt_succ_of_lt bPw2
      have hBw2 : Below w.heap.size w w2 := Below.trans hBw1 (hmw2.mono hBw1.size)
      have zw2 : w.heap.size ≤ w2.heap.size := hBw2.size
      clear hmw2 hw2 zw1 hBw1 dRw1 bRw1 zR1w1 zR0w1 cR1w1 cR0w1
      rw [hq]
      go_wp2_with fail
      refine (rnone_any _).mono ?_
      rintro e w3 ⟨rfl, hw3⟩
      have hmw3 : Below w2.heap.size w2 w3 := on_below hw3 (by repeat' (first | (with_reducible exact Below.refl _ _) | (with_reducible assumption) | (with_reducible refine drewN_below ?_ _) | (with_reducible refine Below.drew ?_) | (with_reducible refine Below.alloc ?_ ?_ _) | (with_reducible refine Below.setCell ?_ ?_ _) | (simp; done) | omega | (simp; omega))) (by first | (with_reducible assumption) | (simp; done) | omega | (simp; omega))
      have cR0w3 := (hmw3.cell (p := ⟨w.heap.size, 0, none⟩) bRw2).trans cR0w2
      have cR1w3 := (hmw3.cell (p := ⟨w.heap.size, 1, none⟩) bRw2).trans cR1w2
      have zR0w3 := (hmw3.frozen (p := ⟨w.heap.size, 0, none⟩) bRw2).trans zR0w2
      have zR1w3 := (hmw3.frozen (p := ⟨w.heap.size, 1, none⟩) bRw2).trans zR1w2
      have bRw3 : w.heap.size < w3.heap.size := Nat.lt_of_lt_of_le bRw2 hmw3.size
      have dRw3 : w.heap.size < w3.heap.size + 1 := Nat.lt_succ_of_lt bRw3
      have cP0w3 := (hmw3.cell (p := ⟨w1.heap.size, 0, none⟩) bPw2).trans cP0w2
      have cP1w3 := (hmw3.cell (p := ⟨w1.heap.size, 1, none⟩) bPw2).trans cP1w2
      have bPw3 : w1.heap.size < w3.heap.size := Nat.lt_of_lt_of_le bPw2 hmw3.size
      have dPw3 : w1.heap.size < w3.heap.size + 1 := Nat.lt_succ_of_lt bPw3
      have hBw3 : Below w.heap.size w w3 := Below.trans hBw2 (hmw3.mono hBw2.size)
      have zw3 : w.heap.size ≤ w3.heap.size := hBw3.size
      clear hmw3 hw3 zw2 hBw2 dPw2 bPw2 cP1w2 cP0w2 dRw2 bRw2 zR1w2 zR0w2 cR1w2 cR0w2
      go_wp2
      exact bodyPost_ret (v := .tuple #[.agg #[.int .i64 0, .int .i64 0], .int .i64 4]) (by simp [results, Tryd.results16, go_sem, cR0w3, cR1w3]) rfl ⟨rfl, (by repeat' (first | (with_reducible exact Below.refl _ _) | (with_reducible assumption) | (with_reducible refine drewN_below ?_ _) | (with_reducible refine Below.drew ?_) | (with_reducible refine Below.alloc ?_ ?_ _) | (with_reducible refine Below.setCell ?_ ?_ _) | (simp; done) | omega | (simp; omega)))⟩
    · have e : Q.rfrac n d = ((x, y), 0) := by unfold Q.rfrac Q.ends; rw [if_neg h0, hxy.out, hq]; rfl
      rw [e]; clear e
      go_enter Tryd.func16, Tryd.ntmps16
      go_wp2_with fail
      refine (rmake_all _ _ hn hd _).mono ?_
      rintro e w1 ⟨rfl, hw1⟩
      have hmw1 : Below w.heap.size w w1 := on_below hw1 (by repeat' (first | (with_reducible exact Below.refl _ _) | (with_reducible assumption) | (with_reducible refine drewN_below ?_ _) | (with_reducible refine Below.drew ?_) | (with_reducible refine Below.alloc ?_ ?_ _) | (with_reducible refine Below.setCell ?_ ?_ _) | (simp; done) | omega | (simp; omega))) (by first | (with_reducible assumption) | (simp; done) | omega | (simp; omega))
      have cR0w1 : w1.cell? ⟨w.heap.size, 0, none⟩ = some (.int .i64 0) := by rw [hw1.cell (p := ⟨w.heap.size, 0, none⟩) (by first | (with_reducible assumption) | (simp; done) | omega | (simp; omega))]; simp [go_sem]
      have cR1w1 : w1.cell? ⟨w.heap.size, 1, none⟩ = some (.int .i64 0) := by rw [hw1.cell (p := ⟨w.heap.size, 1, none⟩) (by first | (with_reducible assumption) | (simp; done) | omega | (simp; omega))]; simp [go_sem]
      have zR0w1 : w1.frozen? ⟨w.heap.size, 0, none⟩ = false := by rw [hw1.frozen (p := ⟨w.heap.size, 0, none⟩) (by first | (with_reducible assumption) | (simp; done) | omega | (simp; omega))]; simp [go_sem]
      have zR1w1 : w1.frozen? ⟨w.heap.size, 1, none⟩ = false := by rw [hw1.frozen (p := ⟨w.heap.size, 1, none⟩) (by first | (with_reducible assumption) | (simp; done) | omega | (simp; omega))]; simp [go_sem]
      have bRw1 : w.heap.size < w1.heap.size := by have := hw1.size; first | omega | (simp at this; omega)
      have dRw1 : w.heap.size < w1.heap.size + 1 := Nat.lt_succ_of_lt bRw1
      have hBw1 : Below w.heap.size w w1 := hmw1
      have zw1 : w.heap.size ≤ w1.heap.size := hBw1.size
      clear hmw1 hw1
      rw [hxy.out]
      go_wp2_with fail
      refine (ris_any _ _ _).mono ?_
      rintro e w2 ⟨rfl, hw2⟩
      have hmw2 : Below w1.heap.size w1 w2 := on_below hw2 (by repeat' (first | (with_reducible exact Below.refl _ _) | (with_reducible assumption) | (with_reducible refine drewN_below ?_ _) | (with_reducible refine Below.drew ?_) | (with_reducible refine Below.alloc ?_ ?_ _) | (with_reducible refine Below.setCell ?_ ?_ _) | (simp; done) | omega | (simp; omega))) (by first | (with_reducible assumption) | (simp; done) | omega | (simp; omega))
      have cR0w2 := (hmw2.cell (p := ⟨w.heap.size, 0, none⟩) bRw1).trans cR0w1
      have cR1w2 := (hmw2.cell (p := ⟨w.heap.size, 1, none⟩) bRw1).trans cR1w1
      have zR0w2 := (hmw2.frozen (p := ⟨w.heap.size, 0, none⟩) bRw1).trans zR0w1
      have zR1w2 := (hmw2.frozen (p := ⟨w.heap.size, 1, none⟩) bRw1).trans zR1w1
      have bRw2 : w.heap.size < w2.heap.size := Nat.lt_of_lt_of_le bRw1 hmw2.size
      have dRw2 : w.heap.size < w2.heap.size + 1 := Nat.lt_succ_of_lt bRw2
      have cP0w2 : w2.cell? ⟨w1.heap.size, 0, none⟩ = some (.int .i64 x) := by rw [hw2.cell (p := ⟨w1.heap.size, 0, none⟩) (by first | (with_reducible assumption) | (simp; done) | omega | (simp; omega))]; simp [go_sem]
      have cP1w2 : w2.cell? ⟨w1.heap.size, 1, none⟩ = some (.int .i64 y) := by rw [hw2.cell (p := ⟨w1.heap.size, 1, none⟩) (by first | (with_reducible assumption) | (simp; done) | omega | (simp; omega))]; simp [go_sem]
      have bPw2 : w1.heap.size < w2.heap.size := by have := hw2.size; first | omega | (simp at this; omega)
      have dPw2 : w1.heap.size < w2.heap.size + 1 := Nat.lt_succ_of_lt bPw2
      have hBw2 : Below w.heap.size w w2 := Below.trans hBw1 (hmw2.mono hBw1.size)
      have zw2 : w.heap.size ≤ w2.heap.size := hBw2.size
      clear hmw2 hw2 zw1 hBw1 dRw1 bRw1 zR1w1 zR0w1 cR1w1 cR0w1
      rw [hq]
      go_wp2
      exact bodyPost_ret (v := .tuple #[.agg #[.int .i64 x, .int .i64 y], .int .i64 0]) (by simp [results, Tryd.results16, go_sem, cR0w2, cR1w2]) rfl ⟨rfl, (by repeat' (first | (with_reducible exact Below.refl _ _) | (with_reducible assumption) | (with_reducible refine drewN_below ?_ _) | (with_reducible refine Below.drew ?_) | (with_reducible refine Below.alloc ?_ ?_ _) | (with_reducible refine Below.setCell ?_ ?_ _) | (simp; done) | omega | (simp; omega)))⟩


namespace Q
theorem parse_ref {l : List UInt8} {neg : Bool} {u : List UInt8} (h0 : (l == none4) = false) (hn : Lib.hasPrefix l [45] = neg) (hu : Lib.trimPrefix l [45] = u) : parse l = rparse2 neg u := by
  unfold parse; rw [h0, if_neg (by decide), hn, hu, parse2_eq]
theorem pref_yes {l : List UInt8} (h : 0 < l.length) (hc : l.getD 0 0 = 45) : Lib.hasPrefix l [45] = true ∧ Lib.trimPrefix l [45] = l.drop 1 := by
  cases l with
  | nil => simp at h
  | cons c l =>
    have : c = 45 := hc
    subst this
    have hp : Lib.hasPrefix (45 :: l) [45] = true := by unfold Lib.hasPrefix; rfl
    refine ⟨hp, ?_⟩
    unfold Lib.trimPrefix; rw [hp]; rfl
theorem pref_no {l : List UInt8} (h : l.length = 0 ∨ l.getD 0 0 ≠ 45) : Lib.hasPrefix l [45] = false ∧ Lib.trimPrefix l [45] = l := by
  have hp : Lib.hasPrefix l [45] = false := by
    cases l with
    | nil => rfl
    | cons c l =>
      have : c ≠ 45 := by rcases h with h | h; simp at h; exact h
      unfold Lib.hasPrefix
      simp only [List.isPrefixOf, Bool.and_true, beq_eq_false_iff_ne]
      exact fun h' => this h'.symm
  refine ⟨hp, ?_⟩
  unfold Lib.trimPrefix; rw [hp]; rfl
theorem sgn_bd (neg : Bool) (n : Int) (h : 0 ≤ n) : -n ≤ sgn neg * n ∧ sgn neg * n ≤ n := by
  cases neg
  · have : sgn false = 1 := rfl
    rw [this]; omega
  · have : sgn true = -1 := rfl
    rw [this]; omega
theorem span_ok {l : List UInt8} {m : Nat} (h : (span l m).2.2 = true) : 1 ≤ (span l m).2.1 ∧ (span l m).2.1 ≤ m ∧ (span l m).2.1 ≤ l.length ∧ (span l m).1 < 10 ^ m := by
  unfold span at h ⊢
  split at h
  · cases h
  · rename_i hm
    rw [if_neg hm]
    have h1 : 0 < (l.takeWhile isd).length := by simpa using h
    have h2 := (List.takeWhile_prefix isd (l := l)).length_le
    refine ⟨h1, by dsimp only; omega, h2, ?_⟩
    exact Nat.lt_of_lt_of_le (num_lt _ _ rfl (all_take l)) (Nat.pow_le_pow_right (by decide) (by omega))
theorem span_len (l : List UInt8) (m : Nat) : (span l m).2.1 ≤ l.length ∧ (span l m).1 < 10 ^ m := by
  have h2 := (List.takeWhile_prefix isd (l := l)).length_le
  unfold span
  split
  · exact ⟨by dsimp only; omega, Nat.pow_pos (by decide)⟩
  · exact ⟨h2, Nat.lt_of_lt_of_le (num_lt _ _ rfl (all_take l)) (Nat.pow_le_pow_right (by decide) (by omega))⟩
end Q

set_option maxRecDepth 100000 in
set_option maxHeartbeats 6400000 in
theorem rparse_pos (s : ByteArray) (hs : s.size ≤ 9223372036854775807) (h1 : (s.toList == [110, 111, 110, 101]) = false) (hz : s.size = 0 ∨ ∃ h : 0 < s.size, (((s[0]'h).toNat : Int) == 45) = false)
    (r t : Int) (E : Int) (hres : Hid (Q.rparse2 false (s.data.toList.drop 0) = ((r, t), E))) (w : World) :
    Calls Tryd.prog 5 #[.string s] w fun e w' => e = .returned (.tuple #[.agg #[.int .i64 r, .int .i64 t], .int .i64 E]) ∧ Below w.heap.size w w' := by
  have hi : 0 ≤ (0 : Int) ∧ (0 : Int) ≤ s.size := by omega
  have hdl : (s.data.toList.drop 0).length = s.size - 0 := by rw [List.length_drop, ← Lib.size_eq]
  obtain ⟨a, ha⟩ : ∃ a : Int, Hid (((Q.span (s.data.toList.drop (0 : Int).toNat) (10 : Int).toNat).1 : Nat) = a) := ⟨_, rfl⟩
  obtain ⟨q, hq⟩ : ∃ q : Nat, Hid ((Q.span (s.data.toList.drop 0) 10).2.1 = q) := ⟨_, rfl⟩
  obtain ⟨ok, hok⟩ : ∃ o, Hid ((Q.span (s.data.toList.drop (0 : Int).toNat) (10 : Int).toNat).2.2 = o) := ⟨_, rfl⟩
  have hT : Hid ((0 : Int) + ((Q.span (s.data.toList.drop (0 : Int).toNat) (10 : Int).toNat).2.1 : Nat) = ((0 + q : Nat) : Int)) := by
    unfold Hid; rw [← hq.out]; show (0 : Int) + ((Q.span (s.data.toList.drop 0) 10).2.1 : Nat) = _; omega
  have hok' : Hid ((Q.span (s.data.toList.drop 0) 10).2.2 = ok) := hok
  have ha' : Hid (((Q.span (s.data.toList.drop 0) 10).1 : Nat) = a) := ha
  have hsl := Q.span_len (s.data.toList.drop 0) 10
  rw [hdl, hq.out] at hsl
  have hab : 0 ≤ a ∧ a < 10000000000 := by have := ha'.out; omega
  obtain ⟨ha1, ha2⟩ := hab
  obtain ⟨T, hTT⟩ : ∃ T : Nat, 0 + q = T := ⟨_, rfl⟩
  rw [hTT] at hT
  have hTs : T ≤ s.size := by omega
  obtain ⟨nn, hnn⟩ : ∃ nn : Nat, (Q.span (s.data.toList.drop 0) 10).1 = nn := ⟨_, rfl⟩
  have hna : (nn : Int) = a := by rw [← hnn]; exact ha'.out
  have hdrop : (s.data.toList.drop 0).drop q = s.data.toList.drop T := by rw [List.drop_drop, hTT]
  have HTAIL : Hid ((if ok = true then Q.rtail false nn (s.data.toList.drop T) else ((0, 0), 3)) = ((r, t), E)) := by
    unfold Hid; rw [← hres.out]; unfold Q.rparse2; rw [hok'.out, hq.out, hnn, hdrop]
  have HNA := Lib.hid hna
  clear hres hq hok' ha' hsl hTT hnn hna hdrop hdl
  cases ok
  · have he := HTAIL.out
    rw [if_neg (by decide)] at he
    simp only [Prod.mk.injEq] at he
    obtain ⟨⟨rfl, rfl⟩, rfl⟩ := he
    clear HTAIL
    rcases hz with hz | ⟨hz, h45⟩
    · have hz0 : ¬ (0 : Int) < (s.size : Int) := by omega
      go_enter Tryd.func5, Tryd.ntmps5
      go_wp2_with fail
      refine (rdigits_any _ _ _ hi (by omega) hs _).mono ?_
      rintro e w0 ⟨rfl, rfl⟩
      rw [ha.out, hT.out, hok.out]
      go_wp2_with fail
      refine (rnone_any _).mono ?_
      rintro e w1 ⟨rfl, hw1⟩
      have hmw1 : Below w.heap.size w w1 := on_below hw1 (by repeat' (first | (with_reducible exact Below.refl _ _) | (with_reducible assumption) | (with_reducible refine drewN_below ?_ _) | (with_reducible refine Below.drew ?_) | (with_reducible refine Below.alloc ?_ ?_ _) | (with_reducible refine Below.setCell ?_ ?_ _) | (simp; done) | omega | (simp; omega))) (by first | (with_reducible assumption) | (simp; done) | omega | (simp; omega))
      have cR0w1 : w1.cell? ⟨w.heap.size, 0, none⟩ = some (.int .i64 0) := by rw [hw1.cell (p := ⟨w.heap.size, 0, none⟩) (by first | (with_reducible assumption) | (simp; done) | omega | (simp; omega))]; simp [go_sem]
      have cR1w1 : w1.cell? ⟨w.heap.size, 1, none⟩ = some (.int .i64 0) := by rw [hw1.cell (p := ⟨w.heap.size, 1, none⟩) (by first | (with_reducible assumption) | (simp; done) | omega | (simp; omega))]; simp [go_sem]
      have zR0w1 : w1.frozen? ⟨w.heap.size, 0, none⟩ = false := by rw [hw1.frozen (p := ⟨w.heap.size, 0, none⟩) (by first | (with_reducible assumption) | (simp; done) | omega | (simp; omega))]; simp [go_sem]
      have zR1w1 : w1.frozen? ⟨w.heap.size, 1, none⟩ = false := by rw [hw1.frozen (p := ⟨w.heap.size, 1, none⟩) (by first | (with_reducible assumption) | (simp; done) | omega | (simp; omega))]; simp [go_sem]
      have bRw1 : w.heap.size < w1.heap.size := by have := hw1.size; first | omega | (simp at this; omega)
      have dRw1 : w.heap.size < w1.heap.size + 1 := Nat.lt_succ_of_lt bRw1
      have hBw1 : Below w.heap.size w w1 := hmw1
      have zw1 : w.heap.size ≤ w1.heap.size := hBw1.size
      clear hmw1 hw1
      go_wp2
      exact bodyPost_ret (v := .tuple #[.agg #[.int .i64 0, .int .i64 0], .int .i64 3]) (by simp [results, Tryd.results5, go_sem, cR0w1, cR1w1]) rfl ⟨rfl, (by repeat' (first | (with_reducible exact Below.refl _ _) | (with_reducible assumption) | (with_reducible refine drewN_below ?_ _) | (with_reducible refine Below.drew ?_) | (with_reducible refine Below.alloc ?_ ?_ _) | (with_reducible refine Below.setCell ?_ ?_ _) | (simp; done) | omega | (simp; omega)))⟩
    · have hz0 : (0 : Int) < (s.size : Int) := by omega
      go_enter Tryd.func5, Tryd.ntmps5
      go_wp2_with fail
      refine (rdigits_any _ _ _ hi (by omega) hs _).mono ?_
      rintro e w0 ⟨rfl, rfl⟩
      rw [ha.out, hT.out, hok.out]
      go_wp2_with fail
      refine (rnone_any _).mono ?_
      rintro e w1 ⟨rfl, hw1⟩
      have hmw1 : Below w.heap.size w w1 := on_below hw1 (by repeat' (first | (with_reducible exact Below.refl _ _) | (with_reducible assumption) | (with_reducible refine drewN_below ?_ _) | (with_reducible refine Below.drew ?_) | (with_reducible refine Below.alloc ?_ ?_ _) | (with_reducible refine Below.setCell ?_ ?_ _) | (simp; done) | omega | (simp; omega))) (by first | (with_reducible assumption) | (simp; done) | omega | (simp; omega))
      have cR0w1 : w1.cell? ⟨w.heap.size, 0, none⟩ = some (.int .i64 0) := by rw [hw1.cell (p := ⟨w.heap.size, 0, none⟩) (by first | (with_reducible assumption) | (simp; done) | omega | (simp; omega))]; simp [go_sem]
      have cR1w1 : w1.cell? ⟨w.heap.size, 1, none⟩ = some (.int .i64 0) := by rw [hw1.cell (p := ⟨w.heap.size, 1, none⟩) (by first | (with_reducible assumption) | (simp; done) | omega | (simp; omega))]; simp [go_sem]
      have zR0w1 : w1.frozen? ⟨w.heap.size, 0, none⟩ = false := by rw [hw1.frozen (p := ⟨w.heap.size, 0, none⟩) (by first | (with_reducible assumption) | (simp; done) | omega | (simp; omega))]; simp [go_sem]
      have zR1w1 : w1.frozen? ⟨w.heap.size, 1, none⟩ = false := by rw [hw1.frozen (p := ⟨w.heap.size, 1, none⟩) (by first | (with_reducible assumption) | (simp; done) | omega | (simp; omega))]; simp [go_sem]
      have bRw1 : w.heap.size < w1.heap.size := by have := hw1.size; first | omega | (simp at this; omega)
      have dRw1 : w.heap.size < w1.heap.size + 1 := Nat.lt_succ_of_lt bRw1
      have hBw1 : Below w.heap.size w w1 := hmw1
      have zw1 : w.heap.size ≤ w1.heap.size := hBw1.size
      clear hmw1 hw1
      go_wp2
      exact bodyPost_ret (v := .tuple #[.agg #[.int .i64 0, .int .i64 0], .int .i64 3]) (by simp [results, Tryd.results5, go_sem, cR0w1, cR1w1]) rfl ⟨rfl, (by repeat' (first | (with_reducible exact Below.refl _ _) | (with_reducible assumption) | (with_reducible refine drewN_below ?_ _) | (with_reducible refine Below.drew ?_) | (with_reducible refine Below.alloc ?_ ?_ _) | (with_reducible refine Below.setCell ?_ ?_ _) | (simp; done) | omega | (simp; omega)))⟩
  · have he := HTAIL.out
    rw [if_pos rfl] at he
    by_cases hend : T = s.size
    · have hd0 : s.data.toList.drop T = [] := List.drop_eq_nil_of_le (by rw [← Lib.size_eq]; omega)
      rw [hd0] at he
      have he' : Q.rfrac (1 * a) 1 = ((r, t), E) := by rw [← HNA.out]; exact he
      have HF := Lib.hid he'
      have b1 : ((T : Int) == (s.size : Int)) = true := by rw [beq_iff_eq]; omega
      have hsg : 1 * a = a := by omega
      rw [hsg] at HF
      clear he he' hd0 HTAIL
      rcases hz with hz | ⟨hz, h45⟩
      · have hz0 : ¬ (0 : Int) < (s.size : Int) := by omega
        go_enter Tryd.func5, Tryd.ntmps5
        go_wp2_with fail
        refine (rdigits_any _ _ _ hi (by omega) hs _).mono ?_
        rintro e w0 ⟨rfl, rfl⟩
        rw [ha.out, hT.out, hok.out]
        go_wp2_with fail
        refine (rfraction_any _ _ (by omega) (by omega) _).mono ?_
        rintro e w1 ⟨rfl, hw1⟩
        have hmw1 : Below w.heap.size w w1 := on_below hw1 (by repeat' (first | (with_reducible exact Below.refl _ _) | (with_reducible assumption) | (with_reducible refine drewN_below ?_ _) | (with_reducible refine Below.drew ?_) | (with_reducible refine Below.alloc ?_ ?_ _) | (with_reducible refine Below.setCell ?_ ?_ _) | (simp; done) | omega | (simp; omega))) (by first | (with_reducible assumption) | (simp; done) | omega | (simp; omega))
        have cR0w1 : w1.cell? ⟨w.heap.size, 0, none⟩ = some (.int .i64 0) := by rw [hw1.cell (p := ⟨w.heap.size, 0, none⟩) (by first | (with_reducible assumption) | (simp; done) | omega | (simp; omega))]; simp [go_sem]
        have cR1w1 : w1.cell? ⟨w.heap.size, 1, none⟩ = some (.int .i64 0) := by rw [hw1.cell (p := ⟨w.heap.size, 1, none⟩) (by first | (with_reducible assumption) | (simp; done) | omega | (simp; omega))]; simp [go_sem]
        have zR0w1 : w1.frozen? ⟨w.heap.size, 0, none⟩ = false := by rw [hw1.frozen (p := ⟨w.heap.size, 0, none⟩) (by first | (with_reducible assumption) | (simp; done) | omega | (simp; omega))]; simp [go_sem]
        have zR1w1 : w1.frozen? ⟨w.heap.size, 1, none⟩ = false := by rw [hw1.frozen (p := ⟨w.heap.size, 1, none⟩) (by first | (with_reducible assumption) | (simp; done) | omega | (simp; omega))]; simp [go_sem]
        have bRw1 : w.heap.size < w1.heap.size := by have := hw1.size; first | omega | (simp at this; omega)
        have dRw1 : w.heap.size < w1.heap.size + 1 := Nat.lt_succ_of_lt bRw1
        have hBw1 : Below w.heap.size w w1 := hmw1
        have zw1 : w.heap.size ≤ w1.heap.size := hBw1.size
        clear hmw1 hw1
        rw [HF.out]
        go_wp2
        exact bodyPost_ret (v := .tuple #[.agg #[.int .i64 r, .int .i64 t], .int .i64 E]) (by simp [results, Tryd.results5, go_sem, cR0w1, cR1w1]) rfl ⟨rfl, (by repeat' (first | (with_reducible exact Below.refl _ _) | (with_reducible assumption) | (with_reducible refine drewN_below ?_ _) | (with_reducible refine Below.drew ?_) | (with_reducible refine Below.alloc ?_ ?_ _) | (with_reducible refine Below.setCell ?_ ?_ _) | (simp; done) | omega | (simp; omega)))⟩
      · have hz0 : (0 : Int) < (s.size : Int) := by omega
        go_enter Tryd.func5, Tryd.ntmps5
        go_wp2_with fail
        refine (rdigits_any _ _ _ hi (by omega) hs _).mono ?_
        rintro e w0 ⟨rfl, rfl⟩
        rw [ha.out, hT.out, hok.out]
        go_wp2_with fail
        refine (rfraction_any _ _ (by omega) (by omega) _).mono ?_
        rintro e w1 ⟨rfl, hw1⟩
        have hmw1 : Below w.heap.size w w1 := on_below hw1 (by repeat' (first | (with_reducible exact Below.refl _ _) | (with_reducible assumption) | (with_reducible refine drewN_below ?_ _) | (with_reducible refine Below.drew ?_) | (with_reducible refine Below.alloc ?_ ?_ _) | (with_reducible refine Below.setCell ?_ ?_ _) | (simp; done) | omega | (simp; omega))) (by first | (with_reducible assumption) | (simp; done) | omega | (simp; omega))
        have cR0w1 : w1.cell? ⟨w.heap.size, 0, none⟩ = some (.int .i64 0) := by rw [hw1.cell (p := ⟨w.heap.size, 0, none⟩) (by first | (with_reducible assumption) | (simp; done) | omega | (simp; omega))]; simp [go_sem]
        have cR1w1 : w1.cell? ⟨w.heap.size, 1, none⟩ = some (.int .i64 0) := by rw [hw1.cell (p := ⟨w.heap.size, 1, none⟩) (by first | (with_reducible assumption) | (simp; done) | omega | (simp; omega))]; simp [go_sem]
        have zR0w1 : w1.frozen? ⟨w.heap.size, 0, none⟩ = false := by rw [hw1.frozen (p := ⟨w.heap.size, 0, none⟩) (by first | (with_reducible assumption) | (simp; done) | omega | (simp; omega))]; simp [go_sem]
        have zR1w1 : w1.frozen? ⟨w.heap.size, 1, none⟩ = false := by rw [hw1.frozen (p := ⟨w.heap.size, 1, none⟩) (by first | (with_reducible assumption) | (simp; done) | omega | (simp; omega))]; simp [go_sem]
        have bRw1 : w.heap.size < w1.heap.size := by have := hw1.size; first | omega | (simp at this; omega)
        have dRw1 : w.heap.size < w1.heap.size + 1 := Nat.lt_succ_of_lt bRw1
        have hBw1 : Below w.heap.size w w1 := hmw1
        have zw1 : w.heap.size ≤ w1.heap.size := hBw1.size
        clear hmw1 hw1
        rw [HF.out]
        go_wp2
        exact bodyPost_ret (v := .tuple #[.agg #[.int .i64 r, .int .i64 t], .int .i64 E]) (by simp [results, Tryd.results5, go_sem, cR0w1, cR1w1]) rfl ⟨rfl, (by repeat' (first | (with_reducible exact Below.refl _ _) | (with_reducible assumption) | (with_reducible refine drewN_below ?_ _) | (with_reducible refine Below.drew ?_) | (with_reducible refine Below.alloc ?_ ?_ _) | (with_reducible refine Below.setCell ?_ ?_ _) | (simp; done) | omega | (simp; omega)))⟩
    · have hlt : T < s.size := by omega
      have b1 : ((T : Int) == (s.size : Int)) = false := by rw [beq_eq_false_iff_ne]; omega
      have hlt' : (T : Int) < (s.size : Int) := by omega
      have hcons : s.data.toList.drop T = (s[T]'hlt) :: s.data.toList.drop (T + 1) := by
        rw [List.drop_eq_getElem_cons (by rw [← Lib.size_eq]; exact hlt)]; rfl
      rw [hcons] at he
      unfold Q.rtail at he
      dsimp only at he
      have hi2 : 0 ≤ (T : Int) + 1 ∧ (T : Int) + 1 ≤ s.size := by omega
      have hTn : ((T : Int) + 1).toNat = T + 1 := by omega
      have HTN := Lib.hid hTn
      clear hTn hcons
      by_cases h47 : s[T]'hlt = 47
      · rw [if_pos h47] at he
        have b47 : (((s[T]'hlt).toNat : Int) == 47) = true := by rw [h47]; rfl
        have hsl := Q.span_len (s.data.toList.drop (T + 1)) 10
        have hl2 : (s.data.toList.drop (T + 1)).length = s.size - (T + 1) := by rw [List.length_drop, ← Lib.size_eq]
        have hso : (Q.span (s.data.toList.drop (T + 1)) 10).2.2 = true → (Q.span (s.data.toList.drop (T + 1)) 10).2.1 ≤ 10 ∧ 1 ≤ (Q.span (s.data.toList.drop (T + 1)) 10).2.1 := fun h => ⟨(Q.span_ok h).2.1, (Q.span_ok h).1⟩
        rw [hl2] at hsl he
        obtain ⟨dn, hdn⟩ : ∃ z : Nat, (Q.span (s.data.toList.drop (T + 1)) 10).1 = z := ⟨_, rfl⟩
        obtain ⟨dq, hdq⟩ : ∃ z : Nat, (Q.span (s.data.toList.drop (T + 1)) 10).2.1 = z := ⟨_, rfl⟩
        obtain ⟨ok2, hok2⟩ : ∃ z, (Q.span (s.data.toList.drop (T + 1)) 10).2.2 = z := ⟨_, rfl⟩
        rw [hdn, hdq, hok2] at he
        rw [hdn, hdq] at hsl
        rw [hdq, hok2] at hso
        have k1 : Hid (((Q.span (s.data.toList.drop ((T : Int) + 1).toNat) (10 : Int).toNat).1 : Nat) = (dn : Int)) := by unfold Hid; rw [HTN.out]; show ((Q.span (s.data.toList.drop (T + 1)) 10).1 : Int) = _; rw [hdn]
        have k2 : Hid ((T : Int) + 1 + ((Q.span (s.data.toList.drop ((T : Int) + 1).toNat) (10 : Int).toNat).2.1 : Nat) = ((T + 1 + dq : Nat) : Int)) := by unfold Hid; rw [HTN.out]; show (T : Int) + 1 + ((Q.span (s.data.toList.drop (T + 1)) 10).2.1 : Int) = _; rw [hdq]; omega
        have k3 : Hid ((Q.span (s.data.toList.drop ((T : Int) + 1).toNat) (10 : Int).toNat).2.2 = ok2) := by unfold Hid; rw [HTN.out]; exact hok2
        obtain ⟨EE, hEE⟩ : ∃ EE : Int, ((T + 1 + dq : Nat) : Int) = EE := ⟨_, rfl⟩
        obtain ⟨dI, hdI⟩ : ∃ dI : Int, (dn : Int) = dI := ⟨_, rfl⟩
        rw [hEE] at k2
        rw [hdI] at k1
        have hdb : 0 ≤ dI ∧ dI < 10000000000 := by omega
        obtain ⟨hdb1, hdb2⟩ := hdb
        clear hdn hdq hok2 hl2
        by_cases hgood : (ok2 && dq == s.size - (T + 1)) = true
        rotate_left
        · rw [if_neg hgood] at he
          simp only [Prod.mk.injEq] at he
          obtain ⟨⟨rfl, rfl⟩, rfl⟩ := he
          clear HTAIL
          cases ok2
          · clear hgood hEE hso
            rcases hz with hz | ⟨hz, h45⟩
            · exfalso; omega
            · have hz0 : (0 : Int) < (s.size : Int) := by omega
              go_enter Tryd.func5, Tryd.ntmps5
              go_wp2_with fail
              refine (rdigits_any _ _ _ hi (by omega) hs _).mono ?_
              rintro e w0 ⟨rfl, rfl⟩
              rw [ha.out, hT.out, hok.out]
              go_wp2_with fail
              refine (rdigits_any _ _ _ hi2 (by omega) hs _).mono ?_
              rintro e w9 ⟨rfl, rfl⟩
              rw [k1.out, k2.out, k3.out]
              go_wp2_with fail
              refine (rnone_any _).mono ?_
              rintro e w1 ⟨rfl, hw1⟩
              have hmw1 : Below w.heap.size w w1 := on_below hw1 (by repeat' (first | (with_reducible exact Below.refl _ _) | (with_reducible assumption) | (with_reducible refine drewN_below ?_ _) | (with_reducible refine Below.drew ?_) | (with_reducible refine Below.alloc ?_ ?_ _) | (with_reducible refine Below.setCell ?_ ?_ _) | (simp; done) | omega | (simp; omega))) (by first | (with_reducible assumption) | (simp; done) | omega | (simp; omega))
              have cR0w1 : w1.cell? ⟨w.heap.size, 0, none⟩ = some (.int .i64 0) := by rw [hw1.cell (p := ⟨w.heap.size, 0, none⟩) (by first | (with_reducible assumption) | (simp; done) | omega | (simp; omega))]; simp [go_sem]
              have cR1w1 : w1.cell? ⟨w.heap.size, 1, none⟩ = some (.int .i64 0) := by rw [hw1.cell (p := ⟨w.heap.size, 1, none⟩) (by first | (with_reducible assumption) | (simp; done) | omega | (simp; omega))]; simp [go_sem]
              have zR0w1 : w1.frozen? ⟨w.heap.size, 0, none⟩ = false := by rw [hw1.frozen (p := ⟨w.heap.size, 0, none⟩) (by first | (with_reducible assumption) | (simp; done) | omega | (simp; omega))]; simp [go_sem]
              have zR1w1 : w1.frozen? ⟨w.heap.size, 1, none⟩ = false := by rw [hw1.frozen (p := ⟨w.heap.size, 1, none⟩) (by first | (with_reducible assumption) | (simp; done) | omega | (simp; omega))]; simp [go_sem]
              have bRw1 : w.heap.size < w1.heap.size := by have := hw1.size; first | omega | (simp at this; omega)
              have dRw1 : w.heap.size < w1.heap.size + 1 := Nat.lt_succ_of_lt bRw1
              have hBw1 : Below w.heap.size w w1 := hmw1
              have zw1 : w.heap.size ≤ w1.heap.size := hBw1.size
              clear hmw1 hw1
              go_wp2
              exact bodyPost_ret (v := .tuple #[.agg #[.int .i64 0, .int .i64 0], .int .i64 3]) (by simp [results, Tryd.results5, go_sem, cR0w1, cR1w1]) rfl ⟨rfl, (by repeat' (first | (with_reducible exact Below.refl _ _) | (with_reducible assumption) | (with_reducible refine drewN_below ?_ _) | (with_reducible refine Below.drew ?_) | (with_reducible refine Below.alloc ?_ ?_ _) | (with_reducible refine Below.setCell ?_ ?_ _) | (simp; done) | omega | (simp; omega)))⟩
          · have b2 : (EE != (s.size : Int)) = true := by
              rw [bne_iff_ne]; intro h; apply hgood; rw [Bool.true_and, beq_iff_eq]; omega
            clear hgood hEE hso
            rcases hz with hz | ⟨hz, h45⟩
            · exfalso; omega
            · have hz0 : (0 : Int) < (s.size : Int) := by omega
              go_enter Tryd.func5, Tryd.ntmps5
              go_wp2_with fail
              refine (rdigits_any _ _ _ hi (by omega) hs _).mono ?_
              rintro e w0 ⟨rfl, rfl⟩
              rw [ha.out, hT.out, hok.out]
              go_wp2_with fail
              refine (rdigits_any _ _ _ hi2 (by omega) hs _).mono ?_
              rintro e w9 ⟨rfl, rfl⟩
              rw [k1.out, k2.out, k3.out]
              go_wp2_with fail
              refine (rnone_any _).mono ?_
              rintro e w1 ⟨rfl, hw1⟩
              have hmw1 : Below w.heap.size w w1 := on_below hw1 (by repeat' (first | (with_reducible exact Below.refl _ _) | (with_reducible assumption) | (with_reducible refine drewN_below ?_ _) | (with_reducible refine Below.drew ?_) | (with_reducible refine Below.alloc ?_ ?_ _) | (with_reducible refine Below.setCell ?_ ?_ _) | (simp; done) | omega | (simp; omega))) (by first | (with_reducible assumption) | (simp; done) | omega | (simp; omega))
              have cR0w1 : w1.cell? ⟨w.heap.size, 0, none⟩ = some (.int .i64 0) := by rw [hw1.cell (p := ⟨w.heap.size, 0, none⟩) (by first | (with_reducible assumption) | (simp; done) | omega | (simp; omega))]; simp [go_sem]
              have cR1w1 : w1.cell? ⟨w.heap.size, 1, none⟩ = some (.int .i64 0) := by rw [hw1.cell (p := ⟨w.heap.size, 1, none⟩) (by first | (with_reducible assumption) | (simp; done) | omega | (simp; omega))]; simp [go_sem]
              have zR0w1 : w1.frozen? ⟨w.heap.size, 0, none⟩ = false := by rw [hw1.frozen (p := ⟨w.heap.size, 0, none⟩) (by first | (with_reducible assumption) | (simp; done) | omega | (simp; omega))]; simp [go_sem]
              have zR1w1 : w1.frozen? ⟨w.heap.size, 1, none⟩ = false := by rw [hw1.frozen (p := ⟨w.heap.size, 1, none⟩) (by first | (with_reducible assumption) | (simp; done) | omega | (simp; omega))]; simp [go_sem]
              have bRw1 : w.heap.size < w1.heap.size := by have := hw1.size; first | omega | (simp at this; omega)
              have dRw1 : w.heap.size < w1.heap.size + 1 := Nat.lt_succ_of_lt bRw1
              have hBw1 : Below w.heap.size w w1 := hmw1
              have zw1 : w.heap.size ≤ w1.heap.size := hBw1.size
              clear hmw1 hw1
              go_wp2
              exact bodyPost_ret (v := .tuple #[.agg #[.int .i64 0, .int .i64 0], .int .i64 3]) (by simp [results, Tryd.results5, go_sem, cR0w1, cR1w1]) rfl ⟨rfl, (by repeat' (first | (with_reducible exact Below.refl _ _) | (with_reducible assumption) | (with_reducible refine drewN_below ?_ _) | (with_reducible refine Below.drew ?_) | (with_reducible refine Below.alloc ?_ ?_ _) | (with_reducible refine Below.setCell ?_ ?_ _) | (simp; done) | omega | (simp; omega)))⟩
        rw [if_pos hgood] at he
        rw [Bool.and_eq_true, beq_iff_eq] at hgood
        obtain ⟨hg1, hg2⟩ := hgood
        subst hg1
        have b2 : (EE != (s.size : Int)) = false := by rw [bne_eq_false_iff_eq]; omega
        have he' : Q.rfrac (1 * a) dI = ((r, t), E) := by rw [← HNA.out, ← hdI]; exact he
        have HF := Lib.hid he'
        have hsg : 1 * a = a := by omega
        rw [hsg] at HF
        clear he he' HTAIL hEE hdI hso hsl
        rcases hz with hz | ⟨hz, h45⟩
        · exfalso; omega
        · have hz0 : (0 : Int) < (s.size : Int) := by omega
          go_enter Tryd.func5, Tryd.ntmps5
          go_wp2_with fail
          refine (rdigits_any _ _ _ hi (by omega) hs _).mono ?_
          rintro e w0 ⟨rfl, rfl⟩
          rw [ha.out, hT.out, hok.out]
          go_wp2_with fail
          refine (rdigits_any _ _ _ hi2 (by omega) hs _).mono ?_
          rintro e w9 ⟨rfl, rfl⟩
          rw [k1.out, k2.out, k3.out]
          go_wp2_with fail
          refine (rfraction_any _ _ (by omega) (by omega) _).mono ?_
          rintro e w1 ⟨rfl, hw1⟩
          have hmw1 : Below w.heap.size w w1 := on_below hw1 (by repeat' (first | (with_reducible exact Below.refl _ _) | (with_reducible assumption) | (with_reducible refine drewN_below ?_ _) | (with_reducible refine Below.drew ?_) | (with_reducible refine Below.alloc ?_ ?_ _) | (with_reducible refine Below.setCell ?_ ?_ _) | (simp; done) | omega | (simp; omega))) (by first | (with_reducible assumption) | (simp; done) | omega | (simp; omega))
          have cR0w1 : w1.cell? ⟨w.heap.size, 0, none⟩ = some (.int .i64 0) := by rw [hw1.cell (p := ⟨w.heap.size, 0, none⟩) (by first | (with_reducible assumption) | (simp; done) | omega | (simp; omega))]; simp [go_sem]
          have cR1w1 : w1.cell? ⟨w.heap.size, 1, none⟩ = some (.int .i64 0) := by rw [hw1.cell (p := ⟨w.heap.size, 1, none⟩) (by first | (with_reducible assumption) | (simp; done) | omega | (simp; omega))]; simp [go_sem]
          have zR0w1 : w1.frozen? ⟨w.heap.size, 0, none⟩ = false := by rw [hw1.frozen (p := ⟨w.heap.size, 0, none⟩) (by first | (with_reducible assumption) | (simp; done) | omega | (simp; omega))]; simp [go_sem]
          have zR1w1 : w1.frozen? ⟨w.heap.size, 1, none⟩ = false := by rw [hw1.frozen (p := ⟨w.heap.size, 1, none⟩) (by first | (with_reducible assumption) | (simp; done) | omega | (simp; omega))]; simp [go_sem]
          have bRw1 : w.heap.size < w1.heap.size := by have := hw1.size; first | omega | (simp at this; omega)
          have dRw1 : w.heap.size < w1.heap.size + 1 := Nat.lt_succ_of_lt bRw1
          have hBw1 : Below w.heap.size w w1 := hmw1
          have zw1 : w.heap.size ≤ w1.heap.size := hBw1.size
          clear hmw1 hw1
          rw [HF.out]
          go_wp2
          exact bodyPost_ret (v := .tuple #[.agg #[.int .i64 r, .int .i64 t], .int .i64 E]) (by simp [results, Tryd.results5, go_sem, cR0w1, cR1w1]) rfl ⟨rfl, (by repeat' (first | (with_reducible exact Below.refl _ _) | (with_reducible assumption) | (with_reducible refine drewN_below ?_ _) | (with_reducible refine Below.drew ?_) | (with_reducible refine Below.alloc ?_ ?_ _) | (with_reducible refine Below.setCell ?_ ?_ _) | (simp; done) | omega | (simp; omega)))⟩
      · rw [if_neg h47] at he
        have b47 : (((s[T]'hlt).toNat : Int) == 47) = false := by
          rw [beq_eq_false_iff_ne]; intro h; apply h47; apply UInt8.toNat_inj.1; show (s[T]'hlt).toNat = 47; omega
        by_cases h46 : s[T]'hlt = 46
        rotate_left
        · rw [if_neg h46] at he
          have b46 : (((s[T]'hlt).toNat : Int) != 46) = true := by
            rw [bne_iff_ne]; intro h; apply h46; apply UInt8.toNat_inj.1; show (s[T]'hlt).toNat = 46; omega
          simp only [Prod.mk.injEq] at he
          obtain ⟨⟨rfl, rfl⟩, rfl⟩ := he
          clear HTAIL
          rcases hz with hz | ⟨hz, h45⟩
          · exfalso; omega
          · have hz0 : (0 : Int) < (s.size : Int) := by omega
            go_enter Tryd.func5, Tryd.ntmps5
            go_wp2_with fail
            refine (rdigits_any _ _ _ hi (by omega) hs _).mono ?_
            rintro e w0 ⟨rfl, rfl⟩
            rw [ha.out, hT.out, hok.out]
            go_wp2_with fail
            refine (rnone_any _).mono ?_
            rintro e w1 ⟨rfl, hw1⟩
            have hmw1 : Below w.heap.size w w1 := on_below hw1 (by repeat' (first | (with_reducible exact Below.refl _ _) | (with_reducible assumption) | (with_reducible refine drewN_below ?_ _) | (with_reducible refine Below.drew ?_) | (with_reducible refine Below.alloc ?_ ?_ _) | (with_reducible refine Below.setCell ?_ ?_ _) | (simp; done) | omega | (simp; omega))) (by first | (with_reducible assumption) | (simp; done) | omega | (simp; omega))
            have cR0w1 : w1.cell? ⟨w.heap.size, 0, none⟩ = some (.int .i64 0) := by rw [hw1.cell (p := ⟨w.heap.size, 0, none⟩) (by first | (with_reducible assumption) | (simp; done) | omega | (simp; omega))]; simp [go_sem]
            have cR1w1 : w1.cell? ⟨w.heap.size, 1, none⟩ = some (.int .i64 0) := by rw [hw1.cell (p := ⟨w.heap.size, 1, none⟩) (by first | (with_reducible assumption) | (simp; done) | omega | (simp; omega))]; simp [go_sem]
            have zR0w1 : w1.frozen? ⟨w.heap.size, 0, none⟩ = false := by rw [hw1.frozen (p := ⟨w.heap.size, 0, none⟩) (by first | (with_reducible assumption) | (simp; done) | omega | (simp; omega))]; simp [go_sem]
            have zR1w1 : w1.frozen? ⟨w.heap.size, 1, none⟩ = false := by rw [hw1.frozen (p := ⟨w.heap.size, 1, none⟩) (by first | (with_reducible assumption) | (simp; done) | omega | (simp; omega))]; simp [go_sem]
            have bRw1 : w.heap.size < w1.heap.size := by have := hw1.size; first | omega | (simp at this; omega)
            have dRw1 : w.heap.size < w1.heap.size + 1 := Nat.lt_succ_of_lt bRw1
            have hBw1 : Below w.heap.size w w1 := hmw1
            have zw1 : w.heap.size ≤ w1.heap.size := hBw1.size
            clear hmw1 hw1
            go_wp2
            exact bodyPost_ret (v := .tuple #[.agg #[.int .i64 0, .int .i64 0], .int .i64 3]) (by simp [results, Tryd.results5, go_sem, cR0w1, cR1w1]) rfl ⟨rfl, (by repeat' (first | (with_reducible exact Below.refl _ _) | (with_reducible assumption) | (with_reducible refine drewN_below ?_ _) | (with_reducible refine Below.drew ?_) | (with_reducible refine Below.alloc ?_ ?_ _) | (with_reducible refine Below.setCell ?_ ?_ _) | (simp; done) | omega | (simp; omega)))⟩
        · rw [if_pos h46] at he
          have b46 : (((s[T]'hlt).toNat : Int) != 46) = false := by rw [h46]; rfl
          have hsl := Q.span_len (s.data.toList.drop (T + 1)) 9
          have hl2 : (s.data.toList.drop (T + 1)).length = s.size - (T + 1) := by rw [List.length_drop, ← Lib.size_eq]
          have hso : (Q.span (s.data.toList.drop (T + 1)) 9).2.2 = true → (Q.span (s.data.toList.drop (T + 1)) 9).2.1 ≤ 9 ∧ 1 ≤ (Q.span (s.data.toList.drop (T + 1)) 9).2.1 := fun h => ⟨(Q.span_ok h).2.1, (Q.span_ok h).1⟩
          rw [hl2] at hsl he
          obtain ⟨dn, hdn⟩ : ∃ z : Nat, (Q.span (s.data.toList.drop (T + 1)) 9).1 = z := ⟨_, rfl⟩
          obtain ⟨dq, hdq⟩ : ∃ z : Nat, (Q.span (s.data.toList.drop (T + 1)) 9).2.1 = z := ⟨_, rfl⟩
          obtain ⟨ok2, hok2⟩ : ∃ z, (Q.span (s.data.toList.drop (T + 1)) 9).2.2 = z := ⟨_, rfl⟩
          rw [hdn, hdq, hok2] at he
          rw [hdn, hdq] at hsl
          rw [hdq, hok2] at hso
          have k1 : Hid (((Q.span (s.data.toList.drop ((T : Int) + 1).toNat) (9 : Int).toNat).1 : Nat) = (dn : Int)) := by unfold Hid; rw [HTN.out]; show ((Q.span (s.data.toList.drop (T + 1)) 9).1 : Int) = _; rw [hdn]
          have k2 : Hid ((T : Int) + 1 + ((Q.span (s.data.toList.drop ((T : Int) + 1).toNat) (9 : Int).toNat).2.1 : Nat) = ((T + 1 + dq : Nat) : Int)) := by unfold Hid; rw [HTN.out]; show (T : Int) + 1 + ((Q.span (s.data.toList.drop (T + 1)) 9).2.1 : Int) = _; rw [hdq]; omega
          have k3 : Hid ((Q.span (s.data.toList.drop ((T : Int) + 1).toNat) (9 : Int).toNat).2.2 = ok2) := by unfold Hid; rw [HTN.out]; exact hok2
          obtain ⟨EE, hEE⟩ : ∃ EE : Int, ((T + 1 + dq : Nat) : Int) = EE := ⟨_, rfl⟩
          obtain ⟨dI, hdI⟩ : ∃ dI : Int, (dn : Int) = dI := ⟨_, rfl⟩
          rw [hEE] at k2
          rw [hdI] at k1
          have hdb : 0 ≤ dI ∧ dI < 10000000000 := by omega
          obtain ⟨hdb1, hdb2⟩ := hdb
          clear hdn hdq hok2 hl2
          by_cases hgood : (ok2 && dq == s.size - (T + 1)) = true
          rotate_left
          · rw [if_neg hgood] at he
            simp only [Prod.mk.injEq] at he
            obtain ⟨⟨rfl, rfl⟩, rfl⟩ := he
            clear HTAIL
            cases ok2
            · clear hgood hEE hso
              rcases hz with hz | ⟨hz, h45⟩
              · exfalso; omega
              · have hz0 : (0 : Int) < (s.size : Int) := by omega
                go_enter Tryd.func5, Tryd.ntmps5
                go_wp2_with fail
                refine (rdigits_any _ _ _ hi (by omega) hs _).mono ?_
                rintro e w0 ⟨rfl, rfl⟩
                rw [ha.out, hT.out, hok.out]
                go_wp2_with fail
                refine (rdigits_any _ _ _ hi2 (by omega) hs _).mono ?_
                rintro e w9 ⟨rfl, rfl⟩
                rw [k1.out, k2.out, k3.out]
                go_wp2_with fail
                refine (rnone_any _).mono ?_
                rintro e w1 ⟨rfl, hw1⟩
                have hmw1 : Below w.heap.size w w1 := on_below hw1 (by repeat' (first | (with_reducible exact Below.refl _ _) | (with_reducible assumption) | (with_reducible refine drewN_below ?_ _) | (with_reducible refine Below.drew ?_) | (with_reducible refine Below.alloc ?_ ?_ _) | (with_reducible refine Below.setCell ?_ ?_ _) | (simp; done) | omega | (simp; omega))) (by first | (with_reducible assumption) | (simp; done) | omega | (simp; omega))
                have cR0w1 : w1.cell? ⟨w.heap.size, 0, none⟩ = some (.int .i64 0) := by rw [hw1.cell (p := ⟨w.heap.size, 0, none⟩) (by first | (with_reducible assumption) | (simp; done) | omega | (simp; omega))]; simp [go_sem]
                have cR1w1 : w1.cell? ⟨w.heap.size, 1, none⟩ = some (.int .i64 0) := by rw [hw1.cell (p := ⟨w.heap.size, 1, none⟩) (by first | (with_reducible assumption) | (simp; done) | omega | (simp; omega))]; simp [go_sem]
                have zR0w1 : w1.frozen? ⟨w.heap.size, 0, none⟩ = false := by rw [hw1.frozen (p := ⟨w.heap.size, 0, none⟩) (by first | (with_reducible assumption) | (simp; done) | omega | (simp; omega))]; simp [go_sem]
                have zR1w1 : w1.frozen? ⟨w.heap.size, 1, none⟩ = false := by rw [hw1.frozen (p := ⟨w.heap.size, 1, none⟩) (by first | (with_reducible assumption) | (simp; done) | omega | (simp; omega))]; simp [go_sem]
                have bRw1 : w.heap.size < w1.heap.size := by have := hw1.size; first | omega | (simp at this; omega)
                have dRw1 : w.heap.size < w1.heap.size + 1 := Nat.lt_succ_of_lt bRw1
                have hBw1 : Below w.heap.size w w1 := hmw1
                have zw1 : w.heap.size ≤ w1.heap.size := hBw1.size
                clear hmw1 hw1
                go_wp2
                exact bodyPost_ret (v := .tuple #[.agg #[.int .i64 0, .int .i64 0], .int .i64 3]) (by simp [results, Tryd.results5, go_sem, cR0w1, cR1w1]) rfl ⟨rfl, (by repeat' (first | (with_reducible exact Below.refl _ _) | (with_reducible assumption) | (with_reducible refine drewN_below ?_ _) | (with_reducible refine Below.drew ?_) | (with_reducible refine Below.alloc ?_ ?_ _) | (with_reducible refine Below.setCell ?_ ?_ _) | (simp; done) | omega | (simp; omega)))⟩
            · have b2 : (EE != (s.size : Int)) = true := by
                rw [bne_iff_ne]; intro h; apply hgood; rw [Bool.true_and, beq_iff_eq]; omega
              clear hgood hEE hso
              rcases hz with hz | ⟨hz, h45⟩
              · exfalso; omega
              · have hz0 : (0 : Int) < (s.size : Int) := by omega
                go_enter Tryd.func5, Tryd.ntmps5
                go_wp2_with fail
                refine (rdigits_any _ _ _ hi (by omega) hs _).mono ?_
                rintro e w0 ⟨rfl, rfl⟩
                rw [ha.out, hT.out, hok.out]
                go_wp2_with fail
                refine (rdigits_any _ _ _ hi2 (by omega) hs _).mono ?_
                rintro e w9 ⟨rfl, rfl⟩
                rw [k1.out, k2.out, k3.out]
                go_wp2_with fail
                refine (rnone_any _).mono ?_
                rintro e w1 ⟨rfl, hw1⟩
                have hmw1 : Below w.heap.size w w1 := on_below hw1 (by repeat' (first | (with_reducible exact Below.refl _ _) | (with_reducible assumption) | (with_reducible refine drewN_below ?_ _) | (with_reducible refine Below.drew ?_) | (with_reducible refine Below.alloc ?_ ?_ _) | (with_reducible refine Below.setCell ?_ ?_ _) | (simp; done) | omega | (simp; omega))) (by first | (with_reducible assumption) | (simp; done) | omega | (simp; omega))
                have cR0w1 : w1.cell? ⟨w.heap.size, 0, none⟩ = some (.int .i64 0) := by rw [hw1.cell (p := ⟨w.heap.size, 0, none⟩) (by first | (with_reducible assumption) | (simp; done) | omega | (simp; omega))]; simp [go_sem]
                have cR1w1 : w1.cell? ⟨w.heap.size, 1, none⟩ = some (.int .i64 0) := by rw [hw1.cell (p := ⟨w.heap.size, 1, none⟩) (by first | (with_reducible assumption) | (simp; done) | omega | (simp; omega))]; simp [go_sem]
                have zR0w1 : w1.frozen? ⟨w.heap.size, 0, none⟩ = false := by rw [hw1.frozen (p := ⟨w.heap.size, 0, none⟩) (by first | (with_reducible assumption) | (simp; done) | omega | (simp; omega))]; simp [go_sem]
                have zR1w1 : w1.frozen? ⟨w.heap.size, 1, none⟩ = false := by rw [hw1.frozen (p := ⟨w.heap.size, 1, none⟩) (by first | (with_reducible assumption) | (simp; done) | omega | (simp; omega))]; simp [go_sem]
                have bRw1 : w.heap.size < w1.heap.size := by have := hw1.size; first | omega | (simp at this; omega)
                have dRw1 : w.heap.size < w1.heap.size + 1 := Nat.lt_succ_of_lt bRw1
                have hBw1 : Below w.heap.size w w1 := hmw1
                have zw1 : w.heap.size ≤ w1.heap.size := hBw1.size
                clear hmw1 hw1
                go_wp2
                exact bodyPost_ret (v := .tuple #[.agg #[.int .i64 0, .int .i64 0], .int .i64 3]) (by simp [results, Tryd.results5, go_sem, cR0w1, cR1w1]) rfl ⟨rfl, (by repeat' (first | (with_reducible exact Below.refl _ _) | (with_reducible assumption) | (with_reducible refine drewN_below ?_ _) | (with_reducible refine Below.drew ?_) | (with_reducible refine Below.alloc ?_ ?_ _) | (with_reducible refine Below.setCell ?_ ?_ _) | (simp; done) | omega | (simp; omega)))⟩
          rw [if_pos hgood] at he
          rw [Bool.and_eq_true, beq_iff_eq] at hgood
          obtain ⟨hg1, hg2⟩ := hgood
          subst hg1
          have b2 : (EE != (s.size : Int)) = false := by rw [bne_eq_false_iff_eq]; omega
          obtain ⟨hso1, hso2⟩ := hso rfl
          have hk : 0 ≤ EE - (T : Int) - 1 ∧ EE - (T : Int) - 1 ≤ 9 := by omega
          have hkd : (EE - (T : Int) - 1).toNat = dq := by omega
          obtain ⟨P, hP⟩ : ∃ P : Nat, 10 ^ dq = P := ⟨_, rfl⟩
          have hPb : 1 ≤ P ∧ P ≤ 1000000000 := by
            have h1 : (10 : Nat) ^ dq ≤ 10 ^ 9 := Nat.pow_le_pow_right (by decide) hso1
            have h2 : 0 < (10 : Nat) ^ dq := Nat.pow_pos (by decide)
            omega
          obtain ⟨PI, hPI⟩ : ∃ PI : Int, (P : Int) = PI := ⟨_, rfl⟩
          have HPOW : Hid (((10 ^ (EE - (T : Int) - 1).toNat : Nat) : Int) = PI) := by unfold Hid; rw [hkd, hP, hPI]
          rw [hP] at he
          have hPIb : 1 ≤ PI ∧ PI ≤ 1000000000 := by omega
          obtain ⟨hPI1, hPI2⟩ := hPIb
          by_cases hbig : 2147483648 < nn
          · rw [if_pos hbig] at he
            have hbig' : 2147483648 < a := by have := HNA.out; omega
            simp only [Prod.mk.injEq] at he
            obtain ⟨⟨rfl, rfl⟩, rfl⟩ := he
            clear HTAIL hEE hdI hso hsl hkd hP hPI hbig hPb
            rcases hz with hz | ⟨hz, h45⟩
            · exfalso; omega
            · have hz0 : (0 : Int) < (s.size : Int) := by omega
              go_enter Tryd.func5, Tryd.ntmps5
              go_wp2_with fail
              refine (rdigits_any _ _ _ hi (by omega) hs _).mono ?_
              rintro e w0 ⟨rfl, rfl⟩
              rw [ha.out, hT.out, hok.out]
              go_wp2_with fail
              refine (rdigits_any _ _ _ hi2 (by omega) hs _).mono ?_
              rintro e w9 ⟨rfl, rfl⟩
              rw [k1.out, k2.out, k3.out]
              go_wp2_with fail
              refine (rten_any _ hk _).mono ?_
              rintro e w9 ⟨rfl, rfl⟩
              rw [HPOW.out]
              go_wp2_with fail
              refine (rnone_any _).mono ?_
              rintro e w1 ⟨rfl, hw1⟩
              have hmw1 : Below w.heap.size w w1 := on_below hw1 (by repeat' (first | (with_reducible exact Below.refl _ _) | (with_reducible assumption) | (with_reducible refine drewN_below ?_ _) | (with_reducible refine Below.drew ?_) | (with_reducible refine Below.alloc ?_ ?_ _) | (with_reducible refine Below.setCell ?_ ?_ _) | (simp; done) | omega | (simp; omega))) (by first | (with_reducible assumption) | (simp; done) | omega | (simp; omega))
              have cR0w1 : w1.cell? ⟨w.heap.size, 0, none⟩ = some (.int .i64 0) := by rw [hw1.cell (p := ⟨w.heap.size, 0, none⟩) (by first | (with_reducible assumption) | (simp; done) | omega | (simp; omega))]; simp [go_sem]
              have cR1w1 : w1.cell? ⟨w.heap.size, 1, none⟩ = some (.int .i64 0) := by rw [hw1.cell (p := ⟨w.heap.size, 1, none⟩) (by first | (with_reducible assumption) | (simp; done) | omega | (simp; omega))]; simp [go_sem]
              have zR0w1 : w1.frozen? ⟨w.heap.size, 0, none⟩ = false := by rw [hw1.frozen (p := ⟨w.heap.size, 0, none⟩) (by first | (with_reducible assumption) | (simp; done) | omega | (simp; omega))]; simp [go_sem]
              have zR1w1 : w1.frozen? ⟨w.heap.size, 1, none⟩ = false := by rw [hw1.frozen (p := ⟨w.heap.size, 1, none⟩) (by first | (with_reducible assumption) | (simp; done) | omega | (simp; omega))]; simp [go_sem]
              have bRw1 : w.heap.size < w1.heap.size := by have := hw1.size; first | omega | (simp at this; omega)
              have dRw1 : w.heap.size < w1.heap.size + 1 := Nat.lt_succ_of_lt bRw1
              have hBw1 : Below w.heap.size w w1 := hmw1
              have zw1 : w.heap.size ≤ w1.heap.size := hBw1.size
              clear hmw1 hw1
              go_wp2
              exact bodyPost_ret (v := .tuple #[.agg #[.int .i64 0, .int .i64 0], .int .i64 4]) (by simp [results, Tryd.results5, go_sem, cR0w1, cR1w1]) rfl ⟨rfl, (by repeat' (first | (with_reducible exact Below.refl _ _) | (with_reducible assumption) | (with_reducible refine drewN_below ?_ _) | (with_reducible refine Below.drew ?_) | (with_reducible refine Below.alloc ?_ ?_ _) | (with_reducible refine Below.setCell ?_ ?_ _) | (simp; done) | omega | (simp; omega)))⟩
          · rw [if_neg hbig] at he
            have hsm : ¬ 2147483648 < a := by have := HNA.out; omega
            obtain ⟨pr, hpr⟩ : ∃ pr, a * PI = pr := ⟨_, rfl⟩
            have hpb : 0 ≤ a * PI ∧ a * PI ≤ 2147483648 * 1000000000 := ⟨Int.mul_nonneg ha1 (by omega), Int.mul_le_mul (by omega) hPI2 (by omega) (by omega)⟩
            rw [hpr] at hpb
            have he' : Q.rfrac (pr + dI) PI = ((r, t), E) := by
              have e1 : 1 * ((nn * P + dn : Nat) : Int) = pr + dI := by
                rw [← hpr, ← HNA.out, ← hPI, ← hdI]; simp
              rw [← e1, ← hPI]; exact he
            have HF := Lib.hid he'
            obtain ⟨hpb1, hpb2⟩ := hpb
            clear he he' HTAIL hEE hdI hso hsl hkd hP hPI hbig hPb
            rcases hz with hz | ⟨hz, h45⟩
            · exfalso; omega
            · have hz0 : (0 : Int) < (s.size : Int) := by omega
              go_enter Tryd.func5, Tryd.ntmps5
              go_wp2_with fail
              refine (rdigits_any _ _ _ hi (by omega) hs _).mono ?_
              rintro e w0 ⟨rfl, rfl⟩
              rw [ha.out, hT.out, hok.out]
              go_wp2_with fail
              refine (rdigits_any _ _ _ hi2 (by omega) hs _).mono ?_
              rintro e w9 ⟨rfl, rfl⟩
              rw [k1.out, k2.out, k3.out]
              go_wp2_with fail
              refine (rten_any _ hk _).mono ?_
              rintro e w9 ⟨rfl, rfl⟩
              rw [HPOW.out]
              go_wp2_with fail
              refine (rfraction_any _ _ (by omega) (by omega) _).mono ?_
              rintro e w1 ⟨rfl, hw1⟩
              have hmw1 : Below w.heap.size w w1 := on_below hw1 (by repeat' (first | (with_reducible exact Below.refl _ _) | (with_reducible assumption) | (with_reducible refine drewN_below ?_ _) | (with_reducible refine Below.drew ?_) | (with_reducible refine Below.alloc ?_ ?_ _) | (with_reducible refine Below.setCell ?_ ?_ _) | (simp; done) | omega | (simp; omega))) (by first | (with_reducible assumption) | (simp; done) | omega | (simp; omega))
              have cR0w1 : w1.cell? ⟨w.heap.size, 0, none⟩ = some (.int .i64 0) := by rw [hw1.cell (p := ⟨w.heap.size, 0, none⟩) (by first | (with_reducible assumption) | (simp; done) | omega | (simp; omega))]; simp [go_sem]
              have cR1w1 : w1.cell? ⟨w.heap.size, 1, none⟩ = some (.int .i64 0) := by rw [hw1.cell (p := ⟨w.heap.size, 1, none⟩) (by first | (with_reducible assumption) | (simp; done) | omega | (simp; omega))]; simp [go_sem]
              have zR0w1 : w1.frozen? ⟨w.heap.size, 0, none⟩ = false := by rw [hw1.frozen (p := ⟨w.heap.size, 0, none⟩) (by first | (with_reducible assumption) | (simp; done) | omega | (simp; omega))]; simp [go_sem]
              have zR1w1 : w1.frozen? ⟨w.heap.size, 1, none⟩ = false := by rw [hw1.frozen (p := ⟨w.heap.size, 1, none⟩) (by first | (with_reducible assumption) | (simp; done) | omega | (simp; omega))]; simp [go_sem]
              have bRw1 : w.heap.size < w1.heap.size := by have := hw1.size; first | omega | (simp at this; omega)
              have dRw1 : w.heap.size < w1.heap.size + 1 := Nat.lt_succ_of_lt bRw1
              have hBw1 : Below w.heap.size w w1 := hmw1
              have zw1 : w.heap.size ≤ w1.heap.size := hBw1.size
              clear hmw1 hw1
              rw [HF.out]
              go_wp2
              exact bodyPost_ret (v := .tuple #[.agg #[.int .i64 r, .int .i64 t], .int .i64 E]) (by simp [results, Tryd.results5, go_sem, cR0w1, cR1w1]) rfl ⟨rfl, (by repeat' (first | (with_reducible exact Below.refl _ _) | (with_reducible assumption) | (with_reducible refine drewN_below ?_ _) | (with_reducible refine Below.drew ?_) | (with_reducible refine Below.alloc ?_ ?_ _) | (with_reducible refine Below.setCell ?_ ?_ _) | (simp; done) | omega | (simp; omega)))⟩

set_option maxRecDepth 100000 in
set_option maxHeartbeats 6400000 in
theorem rparse_neg (s : ByteArray) (hs : s.size ≤ 9223372036854775807) (h1 : (s.toList == [110, 111, 110, 101]) = false) (hz : 0 < s.size) (h45 : (((s[0]'hz).toNat : Int) == 45) = true)
    (r t : Int) (E : Int) (hres : Hid (Q.rparse2 true (s.data.toList.drop 1) = ((r, t), E))) (w : World) :
    Calls Tryd.prog 5 #[.string s] w fun e w' => e = .returned (.tuple #[.agg #[.int .i64 r, .int .i64 t], .int .i64 E]) ∧ Below w.heap.size w w' := by
  have hi : 0 ≤ (1 : Int) ∧ (1 : Int) ≤ s.size := by omega
  have hdl : (s.data.toList.drop 1).length = s.size - 1 := by rw [List.length_drop, ← Lib.size_eq]
  obtain ⟨a, ha⟩ : ∃ a : Int, Hid (((Q.span (s.data.toList.drop (1 : Int).toNat) (10 : Int).toNat).1 : Nat) = a) := ⟨_, rfl⟩
  obtain ⟨q, hq⟩ : ∃ q : Nat, Hid ((Q.span (s.data.toList.drop 1) 10).2.1 = q) := ⟨_, rfl⟩
  obtain ⟨ok, hok⟩ : ∃ o, Hid ((Q.span (s.data.toList.drop (1 : Int).toNat) (10 : Int).toNat).2.2 = o) := ⟨_, rfl⟩
  have hT : Hid ((1 : Int) + ((Q.span (s.data.toList.drop (1 : Int).toNat) (10 : Int).toNat).2.1 : Nat) = ((1 + q : Nat) : Int)) := by
    unfold Hid; rw [← hq.out]; show (1 : Int) + ((Q.span (s.data.toList.drop 1) 10).2.1 : Nat) = _; omega
  have hok' : Hid ((Q.span (s.data.toList.drop 1) 10).2.2 = ok) := hok
  have ha' : Hid (((Q.span (s.data.toList.drop 1) 10).1 : Nat) = a) := ha
  have hsl := Q.span_len (s.data.toList.drop 1) 10
  rw [hdl, hq.out] at hsl
  have hab : 0 ≤ a ∧ a < 10000000000 := by have := ha'.out; omega
  obtain ⟨ha1, ha2⟩ := hab
  obtain ⟨T, hTT⟩ : ∃ T : Nat, 1 + q = T := ⟨_, rfl⟩
  rw [hTT] at hT
  have hTs : T ≤ s.size := by omega
  obtain ⟨nn, hnn⟩ : ∃ nn : Nat, (Q.span (s.data.toList.drop 1) 10).1 = nn := ⟨_, rfl⟩
  have hna : (nn : Int) = a := by rw [← hnn]; exact ha'.out
  have hdrop : (s.data.toList.drop 1).drop q = s.data.toList.drop T := by rw [List.drop_drop, hTT]
  have HTAIL : Hid ((if ok = true then Q.rtail true nn (s.data.toList.drop T) else ((0, 0), 3)) = ((r, t), E)) := by
    unfold Hid; rw [← hres.out]; unfold Q.rparse2; rw [hok'.out, hq.out, hnn, hdrop]
  have HNA := Lib.hid hna
  clear hres hq hok' ha' hsl hTT hnn hna hdrop hdl
  have hz0 : (0 : Int) < (s.size : Int) := by omega
  cases ok
  · have he := HTAIL.out
    rw [if_neg (by decide)] at he
    simp only [Prod.mk.injEq] at he
    obtain ⟨⟨rfl, rfl⟩, rfl⟩ := he
    clear HTAIL
    go_enter Tryd.func5, Tryd.ntmps5
    go_wp2_with fail
    refine (rdigits_any _ _ _ hi (by omega) hs _).mono ?_
    rintro e w0 ⟨rfl, rfl⟩
    rw [ha.out, hT.out, hok.out]
    go_wp2_with fail
    refine (rnone_any _).mono ?_
    rintro e w1 ⟨rfl, hw1⟩
    have hmw1 : Below w.heap.size w w1 := on_below hw1 (by repeat' (first | (with_reducible exact Below.refl _ _) | (with_reducible assumption) | (with_reducible refine drewN_below ?_ _) | (with_reducible refine Below.drew ?_) | (with_reducible refine Below.alloc ?_ ?_ _) | (with_reducible refine Below.setCell ?_ ?_ _) | (simp; done) | omega | (simp; omega))) (by first | (with_reducible assumption) | (simp; done) | omega | (simp; omega))
    have cR0w1 : w1.cell? ⟨w.heap.size, 0, none⟩ = some (.int .i64 0) := by rw [hw1.cell (p := ⟨w.heap.size, 0, none⟩) (by first | (with_reducible assumption) | (simp; done) | omega | (simp; omega))]; simp [go_sem]
    have cR1w1 : w1.cell? ⟨w.heap.size, 1, none⟩ = some (.int .i64 0) := by rw [hw1.cell (p := ⟨w.heap.size, 1, none⟩) (by first | (with_reducible assumption) | (simp; done) | omega | (simp; omega))]; simp [go_sem]
    have zR0w1 : w1.frozen? ⟨w.heap.size, 0, none⟩ = false := by rw [hw1.frozen (p := ⟨w.heap.size, 0, none⟩) (by first | (with_reducible assumption) | (simp; done) | omega | (simp; omega))]; simp [go_sem]
    have zR1w1 : w1.frozen? ⟨w.heap.size, 1, none⟩ = false := by rw [hw1.frozen (p := ⟨w.heap.size, 1, none⟩) (by first | (with_reducible assumption) | (simp; done) | omega | (simp; omega))]; simp [go_sem]
    have bRw1 : w.heap.size < w1.heap.size := by have := hw1.size; first | omega | (simp at this; omega)
    have dRw1 : w.heap.size < w1.heap.size + 1 := Nat.lt_succ_of_lt bRw1
    have hBw1 : Below w.heap.size w w1 := hmw1
    have zw1 : w.heap.size ≤ w1.heap.size := hBw1.size
    clear hmw1 hw1
    go_wp2
    exact bodyPost_ret (v := .tuple #[.agg #[.int .i64 0, .int .i64 0], .int .i64 3]) (by simp [results, Tryd.results5, go_sem, cR0w1, cR1w1]) rfl ⟨rfl, (by repeat' (first | (with_reducible exact Below.refl _ _) | (with_reducible assumption) | (with_reducible refine drewN_below ?_ _) | (with_reducible refine Below.drew ?_) | (with_reducible refine Below.alloc ?_ ?_ _) | (with_reducible refine Below.setCell ?_ ?_ _) | (simp; done) | omega | (simp; omega)))⟩
  · have he := HTAIL.out
    rw [if_pos rfl] at he
    by_cases hend : T = s.size
    · have hd0 : s.data.toList.drop T = [] := List.drop_eq_nil_of_le (by rw [← Lib.size_eq]; omega)
      rw [hd0] at he
      have he' : Q.rfrac ((-1) * a) 1 = ((r, t), E) := by rw [← HNA.out]; exact he
      have HF := Lib.hid he'
      have b1 : ((T : Int) == (s.size : Int)) = true := by rw [beq_iff_eq]; omega
      have hsg : (-1) * a = -a := by omega
      rw [hsg] at HF
      clear he he' hd0 HTAIL
      go_enter Tryd.func5, Tryd.ntmps5
      go_wp2_with fail
      refine (rdigits_any _ _ _ hi (by omega) hs _).mono ?_
      rintro e w0 ⟨rfl, rfl⟩
      rw [ha.out, hT.out, hok.out]
      go_wp2_with fail
      refine (rfraction_any _ _ (by omega) (by omega) _).mono ?_
      rintro e w1 ⟨rfl, hw1⟩
      have hmw1 : Below w.heap.size w w1 := on_below hw1 (by repeat' (first | (with_reducible exact Below.refl _ _) | (with_reducible assumption) | (with_reducible refine drewN_below ?_ _) | (with_reducible refine Below.drew ?_) | (with_reducible refine Below.alloc ?_ ?_ _) | (with_reducible refine Below.setCell ?_ ?_ _) | (simp; done) | omega | (simp; omega))) (by first | (with_reducible assumption) | (simp; done) | omega | (simp; omega))
      have cR0w1 : w1.cell? ⟨w.heap.size, 0, none⟩ = some (.int .i64 0) := by rw [hw1.cell (p := ⟨w.heap.size, 0, none⟩) (by first | (with_reducible assumption) | (simp; done) | omega | (simp; omega))]; simp [go_sem]
      have cR1w1 : w1.cell? ⟨w.heap.size, 1, none⟩ = some (.int .i64 0) := by rw [hw1.cell (p := ⟨w.heap.size, 1, none⟩) (by first | (with_reducible assumption) | (simp; done) | omega | (simp; omega))]; simp [go_sem]
      have zR0w1 : w1.frozen? ⟨w.heap.size, 0, none⟩ = false := by rw [hw1.frozen (p := ⟨w.heap.size, 0, none⟩) (by first | (with_reducible assumption) | (simp; done) | omega | (simp; omega))]; simp [go_sem]
      have zR1w1 : w1.frozen? ⟨w.heap.size, 1, none⟩ = false := by rw [hw1.frozen (p := ⟨w.heap.size, 1, none⟩) (by first | (with_reducible assumption) | (simp; done) | omega | (simp; omega))]; simp [go_sem]
      have bRw1 : w.heap.size < w1.heap.size := by have := hw1.size; first | omega | (simp at this; omega)
      have dRw1 : w.heap.size < w1.heap.size + 1 := Nat.lt_succ_of_lt bRw1
      have hBw1 : Below w.heap.size w w1 := hmw1
      have zw1 : w.heap.size ≤ w1.heap.size := hBw1.size
      clear hmw1 hw1
      rw [HF.out]
      go_wp2
      exact bodyPost_ret (v := .tuple #[.agg #[.int .i64 r, .int .i64 t], .int .i64 E]) (by simp [results, Tryd.results5, go_sem, cR0w1, cR1w1]) rfl ⟨rfl, (by repeat' (first | (with_reducible exact Below.refl _ _) | (with_reducible assumption) | (with_reducible refine drewN_below ?_ _) | (with_reducible refine Below.drew ?_) | (with_reducible refine Below.alloc ?_ ?_ _) | (with_reducible refine Below.setCell ?_ ?_ _) | (simp; done) | omega | (simp; omega)))⟩
    · have hlt : T < s.size := by omega
      have b1 : ((T : Int) == (s.size : Int)) = false := by rw [beq_eq_false_iff_ne]; omega
      have hlt' : (T : Int) < (s.size : Int) := by omega
      have hcons : s.data.toList.drop T = (s[T]'hlt) :: s.data.toList.drop (T + 1) := by
        rw [List.drop_eq_getElem_cons (by rw [← Lib.size_eq]; exact hlt)]; rfl
      rw [hcons] at he
      unfold Q.rtail at he
      dsimp only at he
      have hi2 : 0 ≤ (T : Int) + 1 ∧ (T : Int) + 1 ≤ s.size := by omega
      have hTn : ((T : Int) + 1).toNat = T + 1 := by omega
      have HTN := Lib.hid hTn
      clear hTn hcons
      by_cases h47 : s[T]'hlt = 47
      · rw [if_pos h47] at he
        have b47 : (((s[T]'hlt).toNat : Int) == 47) = true := by rw [h47]; rfl
        have hsl := Q.span_len (s.data.toList.drop (T + 1)) 10
        have hl2 : (s.data.toList.drop (T + 1)).length = s.size - (T + 1) := by rw [List.length_drop, ← Lib.size_eq]
        have hso : (Q.span (s.data.toList.drop (T + 1)) 10).2.2 = true → (Q.span (s.data.toList.drop (T + 1)) 10).2.1 ≤ 10 ∧ 1 ≤ (Q.span (s.data.toList.drop (T + 1)) 10).2.1 := fun h => ⟨(Q.span_ok h).2.1, (Q.span_ok h).1⟩
        rw [hl2] at hsl he
        obtain ⟨dn, hdn⟩ : ∃ z : Nat, (Q.span (s.data.toList.drop (T + 1)) 10).1 = z := ⟨_, rfl⟩
        obtain ⟨dq, hdq⟩ : ∃ z : Nat, (Q.span (s.data.toList.drop (T + 1)) 10).2.1 = z := ⟨_, rfl⟩
        obtain ⟨ok2, hok2⟩ : ∃ z, (Q.span (s.data.toList.drop (T + 1)) 10).2.2 = z := ⟨_, rfl⟩
        rw [hdn, hdq, hok2] at he
        rw [hdn, hdq] at hsl
        rw [hdq, hok2] at hso
        have k1 : Hid (((Q.span (s.data.toList.drop ((T : Int) + 1).toNat) (10 : Int).toNat).1 : Nat) = (dn : Int)) := by unfold Hid; rw [HTN.out]; show ((Q.span (s.data.toList.drop (T + 1)) 10).1 : Int) = _; rw [hdn]
        have k2 : Hid ((T : Int) + 1 + ((Q.span (s.data.toList.drop ((T : Int) + 1).toNat) (10 : Int).toNat).2.1 : Nat) = ((T + 1 + dq : Nat) : Int)) := by unfold Hid; rw [HTN.out]; show (T : Int) + 1 + ((Q.span (s.data.toList.drop (T + 1)) 10).2.1 : Int) = _; rw [hdq]; omega
        have k3 : Hid ((Q.span (s.data.toList.drop ((T : Int) + 1).toNat) (10 : Int).toNat).2.2 = ok2) := by unfold Hid; rw [HTN.out]; exact hok2
        obtain ⟨EE, hEE⟩ : ∃ EE : Int, ((T + 1 + dq : Nat) : Int) = EE := ⟨_, rfl⟩
        obtain ⟨dI, hdI⟩ : ∃ dI : Int, (dn : Int) = dI := ⟨_, rfl⟩
        rw [hEE] at k2
        rw [hdI] at k1
        have hdb : 0 ≤ dI ∧ dI < 10000000000 := by omega
        obtain ⟨hdb1, hdb2⟩ := hdb
        clear hdn hdq hok2 hl2
        by_cases hgood : (ok2 && dq == s.size - (T + 1)) = true
        rotate_left
        · rw [if_neg hgood] at he
          simp only [Prod.mk.injEq] at he
          obtain ⟨⟨rfl, rfl⟩, rfl⟩ := he
          clear HTAIL
          cases ok2
          · clear hgood hEE hso
            go_enter Tryd.func5, Tryd.ntmps5
            go_wp2_with fail
            refine (rdigits_any _ _ _ hi (by omega) hs _).mono ?_
            rintro e w0 ⟨rfl, rfl⟩
            rw [ha.out, hT.out, hok.out]
            go_wp2_with fail
            refine (rdigits_any _ _ _ hi2 (by omega) hs _).mono ?_
            rintro e w9 ⟨rfl, rfl⟩
            rw [k1.out, k2.out, k3.out]
            go_wp2_with fail
            refine (rnone_any _).mono ?_
            rintro e w1 ⟨rfl, hw1⟩
            have hmw1 : Below w.heap.size w w1 := on_below hw1 (by repeat' (first | (with_reducible exact Below.refl _ _) | (with_reducible assumption) | (with_reducible refine drewN_below ?_ _) | (with_reducible refine Below.drew ?_) | (with_reducible refine Below.alloc ?_ ?_ _) | (with_reducible refine Below.setCell ?_ ?_ _) | (simp; done) | omega | (simp; omega))) (by first | (with_reducible assumption) | (simp; done) | omega | (simp; omega))
            have cR0w1 : w1.cell? ⟨w.heap.size, 0, none⟩ = some (.int .i64 0) := by rw [hw1.cell (p := ⟨w.heap.size, 0, none⟩) (by first | (with_reducible assumption) | (simp; done) | omega | (simp; omega))]; simp [go_sem]
            have cR1w1 : w1.cell? ⟨w.heap.size, 1, none⟩ = some (.int .i64 0) := by rw [hw1.cell (p := ⟨w.heap.size, 1, none⟩) (by first | (with_reducible assumption) | (simp; done) | omega | (simp; omega))]; simp [go_sem]
            have zR0w1 : w1.frozen? ⟨w.heap.size, 0, none⟩ = false := by rw [hw1.frozen (p := ⟨w.heap.size, 0, none⟩) (by first | (with_reducible assumption) | (simp; done) | omega | (simp; omega))]; simp [go_sem]
            have zR1w1 : w1.frozen? ⟨w.heap.size, 1, none⟩ = false := by rw [hw1.frozen (p := ⟨w.heap.size, 1, none⟩) (by first | (with_reducible assumption) | (simp; done) | omega | (simp; omega))]; simp [go_sem]
            have bRw1 : w.heap.size < w1.heap.size := by have := hw1.size; first | omega | (simp at this; omega)
            have dRw1 : w.heap.size < w1.heap.size + 1 := Nat.lt_succ_of_lt bRw1
            have hBw1 : Below w.heap.size w w1 := hmw1
            have zw1 : w.heap.size ≤ w1.heap.size := hBw1.size
            clear hmw1 hw1
            go_wp2
            exact bodyPost_ret (v := .tuple #[.agg #[.int .i64 0, .int .i64 0], .int .i64 3]) (by simp [results, Tryd.results5, go_sem, cR0w1, cR1w1]) rfl ⟨rfl, (by repeat' (first | (with_reducible exact Below.refl _ _) | (with_reducible assumption) | (with_reducible refine drewN_below ?_ _) | (with_reducible refine Below.drew ?_) | (with_reducible refine Below.alloc ?_ ?_ _) | (with_reducible refine Below.setCell ?_ ?_ _) | (simp; done) | omega | (simp; omega)))⟩
          · have b2 : (EE != (s.size : Int)) = true := by
              rw [bne_iff_ne]; intro h; apply hgood; rw [Bool.true_and, beq_iff_eq]; omega
            clear hgood hEE hso
            go_enter Tryd.func5, Tryd.ntmps5
            go_wp2_with fail
            refine (rdigits_any _ _ _ hi (by omega) hs _).mono ?_
            rintro e w0 ⟨rfl, rfl⟩
            rw [ha.out, hT.out, hok.out]
            go_wp2_with fail
            refine (rdigits_any _ _ _ hi2 (by omega) hs _).mono ?_
            rintro e w9 ⟨rfl, rfl⟩
            rw [k1.out, k2.out, k3.out]
            go_wp2_with fail
            refine (rnone_any _).mono ?_
            rintro e w1 ⟨rfl, hw1⟩
            have hmw1 : Below w.heap.size w w1 := on_below hw1 (by repeat' (first | (with_reducible exact Below.refl _ _) | (with_reducible assumption) | (with_reducible refine drewN_below ?_ _) | (with_reducible refine Below.drew ?_) | (with_reducible refine Below.alloc ?_ ?_ _) | (with_reducible refine Below.setCell ?_ ?_ _) | (simp; done) | omega | (simp; omega))) (by first | (with_reducible assumption) | (simp; done) | omega | (simp; omega))
            have cR0w1 : w1.cell? ⟨w.heap.size, 0, none⟩ = some (.int .i64 0) := by rw [hw1.cell (p := ⟨w.heap.size, 0, none⟩) (by first | (with_reducible assumption) | (simp; done) | omega | (simp; omega))]; simp [go_sem]
            have cR1w1 : w1.cell? ⟨w.heap.size, 1, none⟩ = some (.int .i64 0) := by rw [hw1.cell (p := ⟨w.heap.size, 1, none⟩) (by first | (with_reducible assumption) | (simp; done) | omega | (simp; omega))]; simp [go_sem]
            have zR0w1 : w1.frozen? ⟨w.heap.size, 0, none⟩ = false := by rw [hw1.frozen (p := ⟨w.heap.size, 0, none⟩) (by first | (with_reducible assumption) | (simp; done) | omega | (simp; omega))]; simp [go_sem]
            have zR1w1 : w1.frozen? ⟨w.heap.size, 1, none⟩ = false := by rw [hw1.frozen (p := ⟨w.heap.size, 1, none⟩) (by first | (with_reducible assumption) | (simp; done) | omega | (simp; omega))]; simp [go_sem]
            have bRw1 : w.heap.size < w1.heap.size := by have := hw1.size; first | omega | (simp at this; omega)
            have dRw1 : w.heap.size < w1.heap.size + 1 := Nat.lt_succ_of_lt bRw1
            have hBw1 : Below w.heap.size w w1 := hmw1
            have zw1 : w.heap.size ≤ w1.heap.size := hBw1.size
            clear hmw1 hw1
            go_wp2
            exact bodyPost_ret (v := .tuple #[.agg #[.int .i64 0, .int .i64 0], .int .i64 3]) (by simp [results, Tryd.results5, go_sem, cR0w1, cR1w1]) rfl ⟨rfl, (by repeat' (first | (with_reducible exact Below.refl _ _) | (with_reducible assumption) | (with_reducible refine drewN_below ?_ _) | (with_reducible refine Below.drew ?_) | (with_reducible refine Below.alloc ?_ ?_ _) | (with_reducible refine Below.setCell ?_ ?_ _) | (simp; done) | omega | (simp; omega)))⟩
        rw [if_pos hgood] at he
        rw [Bool.and_eq_true, beq_iff_eq] at hgood
        obtain ⟨hg1, hg2⟩ := hgood
        subst hg1
        have b2 : (EE != (s.size : Int)) = false := by rw [bne_eq_false_iff_eq]; omega
        have he' : Q.rfrac ((-1) * a) dI = ((r, t), E) := by rw [← HNA.out, ← hdI]; exact he
        have HF := Lib.hid he'
        have hsg : (-1) * a = -a := by omega
        rw [hsg] at HF
        clear he he' HTAIL hEE hdI hso hsl
        go_enter Tryd.func5, Tryd.ntmps5
        go_wp2_with fail
        refine (rdigits_any _ _ _ hi (by omega) hs _).mono ?_
        rintro e w0 ⟨rfl, rfl⟩
        rw [ha.out, hT.out, hok.out]
        go_wp2_with fail
        refine (rdigits_any _ _ _ hi2 (by omega) hs _).mono ?_
        rintro e w9 ⟨rfl, rfl⟩
        rw [k1.out, k2.out, k3.out]
        go_wp2_with fail
        refine (rfraction_any _ _ (by omega) (by omega) _).mono ?_
        rintro e w1 ⟨rfl, hw1⟩
        have hmw1 : Below w.heap.size w w1 := on_below hw1 (by repeat' (first | (with_reducible exact Below.refl _ _) | (with_reducible assumption) | (with_reducible refine drewN_below ?_ _) | (with_reducible refine Below.drew ?_) | (with_reducible refine Below.alloc ?_ ?_ _) | (with_reducible refine Below.setCell ?_ ?_ _) | (simp; done) | omega | (simp; omega))) (by first | (with_reducible assumption) | (simp; done) | omega | (simp; omega))
        have cR0w1 : w1.cell? ⟨w.heap.size, 0, none⟩ = some (.int .i64 0) := by rw [hw1.cell (p := ⟨w.heap.size, 0, none⟩) (by first | (with_reducible assumption) | (simp; done) | omega | (simp; omega))]; simp [go_sem]
        have cR1w1 : w1.cell? ⟨w.heap.size, 1, none⟩ = some (.int .i64 0) := by rw [hw1.cell (p := ⟨w.heap.size, 1, none⟩) (by first | (with_reducible assumption) | (simp; done) | omega | (simp; omega))]; simp [go_sem]
        have zR0w1 : w1.frozen? ⟨w.heap.size, 0, none⟩ = false := by rw [hw1.frozen (p := ⟨w.heap.size, 0, none⟩) (by first | (with_reducible assumption) | (simp; done) | omega | (simp; omega))]; simp [go_sem]
        have zR1w1 : w1.frozen? ⟨w.heap.size, 1, none⟩ = false := by rw [hw1.frozen (p := ⟨w.heap.size, 1, none⟩) (by first | (with_reducible assumption) | (simp; done) | omega | (simp; omega))]; simp [go_sem]
        have bRw1 : w.heap.size < w1.heap.size := by have := hw1.size; first | omega | (simp at this; omega)
        have dRw1 : w.heap.size < w1.heap.size + 1 := Nat.lt_succ_of_lt bRw1
        have hBw1 : Below w.heap.size w w1 := hmw1
        have zw1 : w.heap.size ≤ w1.heap.size := hBw1.size
        clear hmw1 hw1
        rw [HF.out]
        go_wp2
        exact bodyPost_ret (v := .tuple #[.agg #[.int .i64 r, .int .i64 t], .int .i64 E]) (by simp [results, Tryd.results5, go_sem, cR0w1, cR1w1]) rfl ⟨rfl, (by repeat' (first | (with_reducible exact Below.refl _ _) | (with_reducible assumption) | (with_reducible refine drewN_below ?_ _) | (with_reducible refine Below.drew ?_) | (with_reducible refine Below.alloc ?_ ?_ _) | (with_reducible refine Below.setCell ?_ ?_ _) | (simp; done) | omega | (simp; omega)))⟩
      · rw [if_neg h47] at he
        have b47 : (((s[T]'hlt).toNat : Int) == 47) = false := by
          rw [beq_eq_false_iff_ne]; intro h; apply h47; apply UInt8.toNat_inj.1; show (s[T]'hlt).toNat = 47; omega
        by_cases h46 : s[T]'hlt = 46
        rotate_left
        · rw [if_neg h46] at he
          have b46 : (((s[T]'hlt).toNat : Int) != 46) = true := by
            rw [bne_iff_ne]; intro h; apply h46; apply UInt8.toNat_inj.1; show (s[T]'hlt).toNat = 46; omega
          simp only [Prod.mk.injEq] at he
          obtain ⟨⟨rfl, rfl⟩, rfl⟩ := he
          clear HTAIL
          go_enter Tryd.func5, Tryd.ntmps5
          go_wp2_with fail
          refine (rdigits_any _ _ _ hi (by omega) hs _).mono ?_
          rintro e w0 ⟨rfl, rfl⟩
          rw [ha.out, hT.out, hok.out]
          go_wp2_with fail
          refine (rnone_any _).mono ?_
          rintro e w1 ⟨rfl, hw1⟩
          have hmw1 : Below w.heap.size w w1 := on_below hw1 (by repeat' (first | (with_reducible exact Below.refl _ _) | (with_reducible assumption) | (with_reducible refine drewN_below ?_ _) | (with_reducible refine Below.drew ?_) | (with_reducible refine Below.alloc ?_ ?_ _) | (with_reducible refine Below.setCell ?_ ?_ _) | (simp; done) | omega | (simp; omega))) (by first | (with_reducible assumption) | (simp; done) | omega | (simp; omega))
          have cR0w1 : w1.cell? ⟨w.heap.size, 0, none⟩ = some (.int .i64 0) := by rw [hw1.cell (p := ⟨w.heap.size, 0, none⟩) (by first | (with_reducible assumption) | (simp; done) | omega | (simp; omega))]; simp [go_sem]
          have cR1w1 : w1.cell? ⟨w.heap.size, 1, none⟩ = some (.int .i64 0) := by rw [hw1.cell (p := ⟨w.heap.size, 1, none⟩) (by first | (with_reducible assumption) | (simp; done) | omega | (simp; omega))]; simp [go_sem]
          have zR0w1 : w1.frozen? ⟨w.heap.size, 0, none⟩ = false := by rw [hw1.frozen (p := ⟨w.heap.size, 0, none⟩) (by first | (with_reducible assumption) | (simp; done) | omega | (simp; omega))]; simp [go_sem]
          have zR1w1 : w1.frozen? ⟨w.heap.size, 1, none⟩ = false := by rw [hw1.frozen (p := ⟨w.heap.size, 1, none⟩) (by first | (with_reducible assumption) | (simp; done) | omega | (simp; omega))]; simp [go_sem]
          have bRw1 : w.heap.size < w1.heap.size := by have := hw1.size; first | omega | (simp at this; omega)
          have dRw1 : w.heap.size < w1.heap.size + 1 := Nat.lt_succ_of_lt bRw1
          have hBw1 : Below w.heap.size w w1 := hmw1
          have zw1 : w.heap.size ≤ w1.heap.size := hBw1.size
          clear hmw1 hw1
          go_wp2
          exact bodyPost_ret (v := .tuple #[.agg #[.int .i64 0, .int .i64 0], .int .i64 3]) (by simp [results, Tryd.results5, go_sem, cR0w1, cR1w1]) rfl ⟨rfl, (by repeat' (first | (with_reducible exact Below.refl _ _) | (with_reducible assumption) | (with_reducible refine drewN_below ?_ _) | (with_reducible refine Below.drew ?_) | (with_reducible refine Below.alloc ?_ ?_ _) | (with_reducible refine Below.setCell ?_ ?_ _) | (simp; done) | omega | (simp; omega)))⟩
        · rw [if_pos h46] at he
          have b46 : (((s[T]'hlt).toNat : Int) != 46) = false := by rw [h46]; rfl
          have hsl := Q.span_len (s.data.toList.drop (T + 1)) 9
          have hl2 : (s.data.toList.drop (T + 1)).length = s.size - (T + 1) := by rw [List.length_drop, ← Lib.size_eq]
          have hso : (Q.span (s.data.toList.drop (T + 1)) 9).2.2 = true → (Q.span (s.data.toList.drop (T + 1)) 9).2.1 ≤ 9 ∧ 1 ≤ (Q.span (s.data.toList.drop (T + 1)) 9).2.1 := fun h => ⟨(Q.span_ok h).2.1, (Q.span_ok h).1⟩
          rw [hl2] at hsl he
          obtain ⟨dn, hdn⟩ : ∃ z : Nat, (Q.span (s.data.toList.drop (T + 1)) 9).1 = z := ⟨_, rfl⟩
          obtain ⟨dq, hdq⟩ : ∃ z : Nat, (Q.span (s.data.toList.drop (T + 1)) 9).2.1 = z := ⟨_, rfl⟩
          obtain ⟨ok2, hok2⟩ : ∃ z, (Q.span (s.data.toList.drop (T + 1)) 9).2.2 = z := ⟨_, rfl⟩
          rw [hdn, hdq, hok2] at he
          rw [hdn, hdq] at hsl
          rw [hdq, hok2] at hso
          have k1 : Hid (((Q.span (s.data.toList.drop ((T : Int) + 1).toNat) (9 : Int).toNat).1 : Nat) = (dn : Int)) := by unfold Hid; rw [HTN.out]; show ((Q.span (s.data.toList.drop (T + 1)) 9).1 : Int) = _; rw [hdn]
          have k2 : Hid ((T : Int) + 1 + ((Q.span (s.data.toList.drop ((T : Int) + 1).toNat) (9 : Int).toNat).2.1 : Nat) = ((T + 1 + dq : Nat) : Int)) := by unfold Hid; rw [HTN.out]; show (T : Int) + 1 + ((Q.span (s.data.toList.drop (T + 1)) 9).2.1 : Int) = _; rw [hdq]; omega
          have k3 : Hid ((Q.span (s.data.toList.drop ((T : Int) + 1).toNat) (9 : Int).toNat).2.2 = ok2) := by unfold Hid; rw [HTN.out]; exact hok2
          obtain ⟨EE, hEE⟩ : ∃ EE : Int, ((T + 1 + dq : Nat) : Int) = EE := ⟨_, rfl⟩
          obtain ⟨dI, hdI⟩ : ∃ dI : Int, (dn : Int) = dI := ⟨_, rfl⟩
          rw [hEE] at k2
          rw [hdI] at k1
          have hdb : 0 ≤ dI ∧ dI < 10000000000 := by omega
          obtain ⟨hdb1, hdb2⟩ := hdb
          clear hdn hdq hok2 hl2
          by_cases hgood : (ok2 && dq == s.size - (T + 1)) = true
          rotate_left
          · rw [if_neg hgood] at he
            simp only [Prod.mk.injEq] at he
            obtain ⟨⟨rfl, rfl⟩, rfl⟩ := he
            clear HTAIL
            cases ok2
            · clear hgood hEE hso
              go_enter Tryd.func5, Tryd.ntmps5
              go_wp2_with fail
              refine (rdigits_any _ _ _ hi (by omega) hs _).mono ?_
              rintro e w0 ⟨rfl, rfl⟩
              rw [ha.out, hT.out, hok.out]
              go_wp2_with fail
              refine (rdigits_any _ _ _ hi2 (by omega) hs _).mono ?_
              rintro e w9 ⟨rfl, rfl⟩
              rw [k1.out, k2.out, k3.out]
              go_wp2_with fail
              refine (rnone_any _).mono ?_
              rintro e w1 ⟨rfl, hw1⟩
              have hmw1 : Below w.heap.size w w1 := on_below hw1 (by repeat' (first | (with_reducible exact Below.refl _ _) | (with_reducible assumption) | (with_reducible refine drewN_below ?_ _) | (with_reducible refine Below.drew ?_) | (with_reducible refine Below.alloc ?_ ?_ _) | (with_reducible refine Below.setCell ?_ ?_ _) | (simp; done) | omega | (simp; omega))) (by first | (with_reducible assumption) | (simp; done) | omega | (simp; omega))
              have cR0w1 : w1.cell? ⟨w.heap.size, 0, none⟩ = some (.int .i64 0) := by rw [hw1.cell (p := ⟨w.heap.size, 0, none⟩) (by first | (with_reducible assumption) | (simp; done) | omega | (simp; omega))]; simp [go_sem]
              have cR1w1 : w1.cell? ⟨w.heap.size, 1, none⟩ = some (.int .i64 0) := by rw [hw1.cell (p := ⟨w.heap.size, 1, none⟩) (by first | (with_reducible assumption) | (simp; done) | omega | (simp; omega))]; simp [go_sem]
              have zR0w1 : w1.frozen? ⟨w.heap.size, 0, none⟩ = false := by rw [hw1.frozen (p := ⟨w.heap.size, 0, none⟩) (by first | (with_reducible assumption) | (simp; done) | omega | (simp; omega))]; simp [go_sem]
              have zR1w1 : w1.frozen? ⟨w.heap.size, 1, none⟩ = false := by rw [hw1.frozen (p := ⟨w.heap.size, 1, none⟩) (by first | (with_reducible assumption) | (simp; done) | omega | (simp; omega))]; simp [go_sem]
              have bRw1 : w.heap.size < w1.heap.size := by have := hw1.size; first | omega | (simp at this; omega)
              have dRw1 : w.heap.size < w1.heap.size + 1 := Nat.lt_succ_of_lt bRw1
              have hBw1 : Below w.heap.size w w1 := hmw1
              have zw1 : w.heap.size ≤ w1.heap.size := hBw1.size
              clear hmw1 hw1
              go_wp2
              exact bodyPost_ret (v := .tuple #[.agg #[.int .i64 0, .int .i64 0], .int .i64 3]) (by simp [results, Tryd.results5, go_sem, cR0w1, cR1w1]) rfl ⟨rfl, (by repeat' (first | (with_reducible exact Below.refl _ _) | (with_reducible assumption) | (with_reducible refine drewN_below ?_ _) | (with_reducible refine Below.drew ?_) | (with_reducible refine Below.alloc ?_ ?_ _) | (with_reducible refine Below.setCell ?_ ?_ _) | (simp; done) | omega | (simp; omega)))⟩
            · have b2 : (EE != (s.size : Int)) = true := by
                rw [bne_iff_ne]; intro h; apply hgood; rw [Bool.true_and, beq_iff_eq]; omega
              clear hgood hEE hso
              go_enter Tryd.func5, Tryd.ntmps5
              go_wp2_with fail
              refine (rdigits_any _ _ _ hi (by omega) hs _).mono ?_
              rintro e w0 ⟨rfl, rfl⟩
              rw [ha.out, hT.out, hok.out]
              go_wp2_with fail
              refine (rdigits_any _ _ _ hi2 (by omega) hs _).mono ?_
              rintro e w9 ⟨rfl, rfl⟩
              rw [k1.out, k2.out, k3.out]
              go_wp2_with fail
              refine (rnone_any _).mono ?_
              rintro e w1 ⟨rfl, hw1⟩
              have hmw1 : Below w.heap.size w w1 := on_below hw1 (by repeat' (first | (with_reducible exact Below.refl _ _) | (with_reducible assumption) | (with_reducible refine drewN_below ?_ _) | (with_reducible refine Below.drew ?_) | (with_reducible refine Below.alloc ?_ ?_ _) | (with_reducible refine Below.setCell ?_ ?_ _) | (simp; done) | omega | (simp; omega))) (by first | (with_reducible assumption) | (simp; done) | omega | (simp; omega))
              have cR0w1 : w1.cell? ⟨w.heap.size, 0, none⟩ = some (.int .i64 0) := by rw [hw1.cell (p := ⟨w.heap.size, 0, none⟩) (by first | (with_reducible assumption) | (simp; done) | omega | (simp; omega))]; simp [go_sem]
              have cR1w1 : w1.cell? ⟨w.heap.size, 1, none⟩ = some (.int .i64 0) := by rw [hw1.cell (p := ⟨w.heap.size, 1, none⟩) (by first | (with_reducible assumption) | (simp; done) | omega | (simp; omega))]; simp [go_sem]
              have zR0w1 : w1.frozen? ⟨w.heap.size, 0, none⟩ = false := by rw [hw1.frozen (p := ⟨w.heap.size, 0, none⟩) (by first | (with_reducible assumption) | (simp; done) | omega | (simp; omega))]; simp [go_sem]
              have zR1w1 : w1.frozen? ⟨w.heap.size, 1, none⟩ = false := by rw [hw1.frozen (p := ⟨w.heap.size, 1, none⟩) (by first | (with_reducible assumption) | (simp; done) | omega | (simp; omega))]; simp [go_sem]
              have bRw1 : w.heap.size < w1.heap.size := by have := hw1.size; first | omega | (simp at this; omega)
              have dRw1 : w.heap.size < w1.heap.size + 1 := Nat.lt_succ_of_lt bRw1
              have hBw1 : Below w.heap.size w w1 := hmw1
              have zw1 : w.heap.size ≤ w1.heap.size := hBw1.size
              clear hmw1 hw1
              go_wp2
              exact bodyPost_ret (v := .tuple #[.agg #[.int .i64 0, .int .i64 0], .int .i64 3]) (by simp [results, Tryd.results5, go_sem, cR0w1, cR1w1]) rfl ⟨rfl, (by repeat' (first | (with_reducible exact Below.refl _ _) | (with_reducible assumption) | (with_reducible refine drewN_below ?_ _) | (with_reducible refine Below.drew ?_) | (with_reducible refine Below.alloc ?_ ?_ _) | (with_reducible refine Below.setCell ?_ ?_ _) | (simp; done) | omega | (simp; omega)))⟩
          rw [if_pos hgood] at he
          rw [Bool.and_eq_true, beq_iff_eq] at hgood
          obtain ⟨hg1, hg2⟩ := hgood
          subst hg1
          have b2 : (EE != (s.size : Int)) = false := by rw [bne_eq_false_iff_eq]; omega
          obtain ⟨hso1, hso2⟩ := hso rfl
          have hk : 0 ≤ EE - (T : Int) - 1 ∧ EE - (T : Int) - 1 ≤ 9 := by omega
          have hkd : (EE - (T : Int) - 1).toNat = dq := by omega
          obtain ⟨P, hP⟩ : ∃ P : Nat, 10 ^ dq = P := ⟨_, rfl⟩
          have hPb : 1 ≤ P ∧ P ≤ 1000000000 := by
            have h1 : (10 : Nat) ^ dq ≤ 10 ^ 9 := Nat.pow_le_pow_right (by decide) hso1
            have h2 : 0 < (10 : Nat) ^ dq := Nat.pow_pos (by decide)
            omega
          obtain ⟨PI, hPI⟩ : ∃ PI : Int, (P : Int) = PI := ⟨_, rfl⟩
          have HPOW : Hid (((10 ^ (EE - (T : Int) - 1).toNat : Nat) : Int) = PI) := by unfold Hid; rw [hkd, hP, hPI]
          rw [hP] at he
          have hPIb : 1 ≤ PI ∧ PI ≤ 1000000000 := by omega
          obtain ⟨hPI1, hPI2⟩ := hPIb
          by_cases hbig : 2147483648 < nn
          · rw [if_pos hbig] at he
            have hbig' : 2147483648 < a := by have := HNA.out; omega
            simp only [Prod.mk.injEq] at he
            obtain ⟨⟨rfl, rfl⟩, rfl⟩ := he
            clear HTAIL hEE hdI hso hsl hkd hP hPI hbig hPb
            go_enter Tryd.func5, Tryd.ntmps5
            go_wp2_with fail
            refine (rdigits_any _ _ _ hi (by omega) hs _).mono ?_
            rintro e w0 ⟨rfl, rfl⟩
            rw [ha.out, hT.out, hok.out]
            go_wp2_with fail
            refine (rdigits_any _ _ _ hi2 (by omega) hs _).mono ?_
            rintro e w9 ⟨rfl, rfl⟩
            rw [k1.out, k2.out, k3.out]
            go_wp2_with fail
            refine (rten_any _ hk _).mono ?_
            rintro e w9 ⟨rfl, rfl⟩
            rw [HPOW.out]
            go_wp2_with fail
            refine (rnone_any _).mono ?_
            rintro e w1 ⟨rfl, hw1⟩
            have hmw1 : Below w.heap.size w w1 := on_below hw1 (by repeat' (first | (with_reducible exact Below.refl _ _) | (with_reducible assumption) | (with_reducible refine drewN_below ?_ _) | (with_reducible refine Below.drew ?_) | (with_reducible refine Below.alloc ?_ ?_ _) | (with_reducible refine Below.setCell ?_ ?_ _) | (simp; done) | omega | (simp; omega))) (by first | (with_reducible assumption) | (simp; done) | omega | (simp; omega))
            have cR0w1 : w1.cell? ⟨w.heap.size, 0, none⟩ = some (.int .i64 0) := by rw [hw1.cell (p := ⟨w.heap.size, 0, none⟩) (by first | (with_reducible assumption) | (simp; done) | omega | (simp; omega))]; simp [go_sem]
            have cR1w1 : w1.cell? ⟨w.heap.size, 1, none⟩ = some (.int .i64 0) := by rw [hw1.cell (p := ⟨w.heap.size, 1, none⟩) (by first | (with_reducible assumption) | (simp; done) | omega | (simp; omega))]; simp [go_sem]
            have zR0w1 : w1.frozen? ⟨w.heap.size, 0, none⟩ = false := by rw [hw1.frozen (p := ⟨w.heap.size, 0, none⟩) (by first | (with_reducible assumption) | (simp; done) | omega | (simp; omega))]; simp [go_sem]
            have zR1w1 : w1.frozen? ⟨w.heap.size, 1, none⟩ = false := by rw [hw1.frozen (p := ⟨w.heap.size, 1, none⟩) (by first | (with_reducible assumption) | (simp; done) | omega | (simp; omega))]; simp [go_sem]
            have bRw1 : w.heap.size < w1.heap.size := by have := hw1.size; first | omega | (simp at this; omega)
            have dRw1 : w.heap.size < w1.heap.size + 1 := Nat.lt_succ_of_lt bRw1
            have hBw1 : Below w.heap.size w w1 := hmw1
            have zw1 : w.heap.size ≤ w1.heap.size := hBw1.size
            clear hmw1 hw1
            go_wp2
            exact bodyPost_ret (v := .tuple #[.agg #[.int .i64 0, .int .i64 0], .int .i64 4]) (by simp [results, Tryd.results5, go_sem, cR0w1, cR1w1]) rfl ⟨rfl, (by repeat' (first | (with_reducible exact Below.refl _ _) | (with_reducible assumption) | (with_reducible refine drewN_below ?_ _) | (with_reducible refine Below.drew ?_) | (with_reducible refine Below.alloc ?_ ?_ _) | (with_reducible refine Below.setCell ?_ ?_ _) | (simp; done) | omega | (simp; omega)))⟩
          · rw [if_neg hbig] at he
            have hsm : ¬ 2147483648 < a := by have := HNA.out; omega
            obtain ⟨pr, hpr⟩ : ∃ pr, a * PI = pr := ⟨_, rfl⟩
            have hpb : 0 ≤ a * PI ∧ a * PI ≤ 2147483648 * 1000000000 := ⟨Int.mul_nonneg ha1 (by omega), Int.mul_le_mul (by omega) hPI2 (by omega) (by omega)⟩
            rw [hpr] at hpb
            have he' : Q.rfrac (-(pr + dI)) PI = ((r, t), E) := by
              have e1 : (-1) * ((nn * P + dn : Nat) : Int) = -(pr + dI) := by
                rw [← hpr, ← HNA.out, ← hPI, ← hdI]; simp
              rw [← e1, ← hPI]; exact he
            have HF := Lib.hid he'
            obtain ⟨hpb1, hpb2⟩ := hpb
            clear he he' HTAIL hEE hdI hso hsl hkd hP hPI hbig hPb
            go_enter Tryd.func5, Tryd.ntmps5
            go_wp2_with fail
            refine (rdigits_any _ _ _ hi (by omega) hs _).mono ?_
            rintro e w0 ⟨rfl, rfl⟩
            rw [ha.out, hT.out, hok.out]
            go_wp2_with fail
            refine (rdigits_any _ _ _ hi2 (by omega) hs _).mono ?_
            rintro e w9 ⟨rfl, rfl⟩
            rw [k1.out, k2.out, k3.out]
            go_wp2_with fail
            refine (rten_any _ hk _).mono ?_
            rintro e w9 ⟨rfl, rfl⟩
            rw [HPOW.out]
            go_wp2_with fail
            refine (rfraction_any _ _ (by omega) (by omega) _).mono ?_
            rintro e w1 ⟨rfl, hw1⟩
            have hmw1 : Below w.heap.size w w1 := on_below hw1 (by repeat' (first | (with_reducible exact Below.refl _ _) | (with_reducible assumption) | (with_reducible refine drewN_below ?_ _) | (with_reducible refine Below.drew ?_) | (with_reducible refine Below.alloc ?_ ?_ _) | (with_reducible refine Below.setCell ?_ ?_ _) | (simp; done) | omega | (simp; omega))) (by first | (with_reducible assumption) | (simp; done) | omega | (simp; omega))
            have cR0w1 : w1.cell? ⟨w.heap.size, 0, none⟩ = some (.int .i64 0) := by rw [hw1.cell (p := ⟨w.heap.size, 0, none⟩) (by first | (with_reducible assumption) | (simp; done) | omega | (simp; omega))]; simp [go_sem]
            have cR1w1 : w1.cell? ⟨w.heap.size, 1, none⟩ = some (.int .i64 0) := by rw [hw1.cell (p := ⟨w.heap.size, 1, none⟩) (by first | (with_reducible assumption) | (simp; done) | omega | (simp; omega))]; simp [go_sem]
            have zR0w1 : w1.frozen? ⟨w.heap.size, 0, none⟩ = false := by rw [hw1.frozen (p := ⟨w.heap.size, 0, none⟩) (by first | (with_reducible assumption) | (simp; done) | omega | (simp; omega))]; simp [go_sem]
            have zR1w1 : w1.frozen? ⟨w.heap.size, 1, none⟩ = false := by rw [hw1.frozen (p := ⟨w.heap.size, 1, none⟩) (by first | (with_reducible assumption) | (simp; done) | omega | (simp; omega))]; simp [go_sem]
            have bRw1 : w.heap.size < w1.heap.size := by have := hw1.size; first | omega | (simp at this; omega)
            have dRw1 : w.heap.size < w1.heap.size + 1 := Nat.lt_succ_of_lt bRw1
            have hBw1 : Below w.heap.size w w1 := hmw1
            have zw1 : w.heap.size ≤ w1.heap.size := hBw1.size
            clear hmw1 hw1
            rw [HF.out]
            go_wp2
            exact bodyPost_ret (v := .tuple #[.agg #[.int .i64 r, .int .i64 t], .int .i64 E]) (by simp [results, Tryd.results5, go_sem, cR0w1, cR1w1]) rfl ⟨rfl, (by repeat' (first | (with_reducible exact Below.refl _ _) | (with_reducible assumption) | (with_reducible refine drewN_below ?_ _) | (with_reducible refine Below.drew ?_) | (with_reducible refine Below.alloc ?_ ?_ _) | (with_reducible refine Below.setCell ?_ ?_ _) | (simp; done) | omega | (simp; omega)))⟩

set_option maxRecDepth 100000 in
set_option maxHeartbeats 400000 in
theorem rparse_none (s : ByteArray) (h1 : (s.toList == [110, 111, 110, 101]) = true) (w : World) :
    Calls Tryd.prog 5 #[.string s] w fun e w' => e = .returned (.tuple #[.agg #[.int .i64 0, .int .i64 0], .int .i64 0]) ∧ Below w.heap.size w w' := by
  go_enter Tryd.func5, Tryd.ntmps5
  go_wp2_with fail
  refine (rnone_any _).mono ?_
  rintro e w1 ⟨rfl, hw1⟩
  have hmw1 : Below w.heap.size w w1 := on_below hw1 (by repeat' (first | (with_reducible exact Below.refl _ _) | (with_reducible assumption) | (with_reducible refine drewN_below ?_ _) | (with_reducible refine Below.drew ?_) | (with_reducible refine Below.alloc ?_ ?_ _) | (with_reducible refine Below.setCell ?_ ?_ _) | (simp; done) | omega | (simp; omega))) (by first | (with_reducible assumption) | (simp; done) | omega | (simp; omega))
  have cR0w1 : w1.cell? ⟨w.heap.size, 0, none⟩ = some (.int .i64 0) := by rw [hw1.cell (p := ⟨w.heap.size, 0, none⟩) (by first | (with_reducible assumption) | (simp; done) | omega | (simp; omega))]; simp [go_sem]
  have cR1w1 : w1.cell? ⟨w.heap.size, 1, none⟩ = some (.int .i64 0) := by rw [hw1.cell (p := ⟨w.heap.size, 1, none⟩) (by first | (with_reducible assumption) | (simp; done) | omega | (simp; omega))]; simp [go_sem]
  have zR0w1 : w1.frozen? ⟨w.heap.size, 0, none⟩ = false := by rw [hw1.frozen (p := ⟨w.heap.size, 0, none⟩) (by first | (with_reducible assumption) | (simp; done) | omega | (simp; omega))]; simp [go_sem]
  have zR1w1 : w1.frozen? ⟨w.heap.size, 1, none⟩ = false := by rw [hw1.frozen (p := ⟨w.heap.size, 1, none⟩) (by first | (with_reducible assumption) | (simp; done) | omega | (simp; omega))]; simp [go_sem]
  have bRw1 : w.heap.size < w1.heap.size := by have := hw1.size; first | omega | (simp at this; omega)
  have dRw1 : w.heap.size < w1.heap.size + 1 := Nat.lt_succ_of_lt bRw1
  have hBw1 : Below w.heap.size w w1 := hmw1
  have zw1 : w.heap.size ≤ w1.heap.size := hBw1.size
  clear hmw1 hw1
  go_wp2
  exact bodyPost_ret (v := .tuple #[.agg #[.int .i64 0, .int .i64 0], .int .i64 0]) (by simp [results, Tryd.results5, go_sem, cR0w1, cR1w1]) rfl ⟨rfl, (by repeat' (first | (with_reducible exact Below.refl _ _) | (with_reducible assumption) | (with_reducible refine drewN_below ?_ _) | (with_reducible refine Below.drew ?_) | (with_reducible refine Below.alloc ?_ ?_ _) | (with_reducible refine Below.setCell ?_ ?_ _) | (simp; done) | omega | (simp; omega)))⟩

theorem rparse_any (s : ByteArray) (hs : s.size ≤ 9223372036854775807) (w : World) :
    Calls Tryd.prog 5 #[.string s] w fun e w' => e = .returned (.tuple #[.agg #[.int .i64 (Q.parse s.data.toList).1.1, .int .i64 (Q.parse s.data.toList).1.2], .int .i64 (Q.parse s.data.toList).2]) ∧ Below w.heap.size w w' := by
  have hsl : s.toList = s.data.toList := ByteArray.toList_eq s
  have hlen : s.data.toList.length = s.size := (Lib.size_eq s).symm
  cases h0 : (s.data.toList == Q.none4)
  · have h1 : (s.toList == [110, 111, 110, 101]) = false := by rw [hsl]; exact h0
    by_cases hz : 0 < s.size
    · cases h45 : (((s[0]'hz).toNat : Int) == 45)
      · have hb : s.data.toList.getD 0 0 ≠ 45 := by
          rw [byte_at s 0 hz]; intro h; rw [h] at h45; exact absurd h45 (by decide)
        obtain ⟨p1, p2⟩ := Q.pref_no (l := s.data.toList) (Or.inr hb)
        exact rparse_pos s hs h1 (Or.inr ⟨hz, h45⟩) _ _ _ (Lib.hid (Q.parse_ref h0 p1 p2).symm) w
      · have hb : s.data.toList.getD 0 0 = 45 := by
          rw [byte_at s 0 hz]; rw [beq_iff_eq] at h45; apply UInt8.toNat_inj.1; show (s[0]'hz).toNat = 45; omega
        obtain ⟨p1, p2⟩ := Q.pref_yes (l := s.data.toList) (by omega) hb
        exact rparse_neg s hs h1 hz h45 _ _ _ (Lib.hid (Q.parse_ref h0 p1 p2).symm) w
    · obtain ⟨p1, p2⟩ := Q.pref_no (l := s.data.toList) (Or.inl (by omega))
      exact rparse_pos s hs h1 (Or.inl (by omega)) _ _ _ (Lib.hid (Q.parse_ref h0 p1 p2).symm) w
  · have h1 : (s.toList == [110, 111, 110, 101]) = true := by rw [hsl]; exact h0
    have e : Q.parse s.data.toList = ((0, 0), 0) := by unfold Q.parse; rw [h0]; rfl
    rw [e]
    exact rparse_none s h1 w
end Go.Proofs.YtpoalckncfkdgaaDoor
