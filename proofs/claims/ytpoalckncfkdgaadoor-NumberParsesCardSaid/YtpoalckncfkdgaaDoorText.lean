/-
  Writing a number: what each call gives.
-/
import Derived.Test.YtpoalckncfkdgaaDoorRparse
import Derived.Lib.SmallJoins
import Derived.Lib.ItoaLen
import Derived.Laws.Concat
namespace Go.Proofs.YtpoalckncfkdgaaDoor
open Go.RowKit

theorem gTab : Tryd.prog.globalNamed "internal/strconv.uint64pow10" = some 0 := by kernel_rfl
theorem fmt_any (n : Int) (h0 : -9223372036854775808 ≤ n) (h1 : n ≤ 9223372036854775807) (w : World) (htab : Lib.TabIs Tryd.prog w "internal/strconv.uint64pow10" .u64 Lib.pow10Tab) :
    Calls Tryd.prog 18 #[.int .i64 n, .int .i64 10] w fun e w' => e = .returned (.string ⟨(Lib.itoa n).toArray⟩) ∧ Below w.heap.size w w' := by
  refine (Tryd.strconv_FormatInt_10 n h0 h1 w htab).mono ?_
  rintro e w1 ⟨he, k, os, hw⟩
  refine ⟨he, ?_⟩
  rw [hw]
  refine (drewN_below (Below.refl w.heap.size w) k).trans ⟨rfl, rfl, rfl, ?_, ?_⟩
  · show _ ≤ ((w.drewN k).heap ++ os).size
    rw [Array.size_append]; omega
  · intro j hj
    show ((w.drewN k).heap ++ os)[j]? = _
    exact Array.getElem?_append_left hj

set_option maxRecDepth 100000 in
set_option maxHeartbeats 1600000 in
theorem text_any (an ad : Int) (w : World) (htab : Lib.TabIs Tryd.prog w "internal/strconv.uint64pow10" .u64 Lib.pow10Tab) :
    Calls Tryd.prog 6 #[.agg #[.int .i64 an, .int .i64 ad]] w fun e w' => e = .returned (.string ⟨(Q.text (an, ad)).toArray⟩) ∧ Below w.heap.size w w' := by
  cases h : Q.isq an ad
  · have e : (⟨(Q.text (an, ad)).toArray⟩ : ByteArray) = ⟨#[110, 111, 110, 101]⟩ := by unfold Q.text; rw [h]; rfl
    rw [e]; clear e
    go_enter Tryd.func6, Tryd.ntmps6
    go_wp2_with fail
    refine (is_any _ _ _).mono ?_
    rintro e w1 ⟨rfl, hw1⟩
    have hmw1 : Below w.heap.size w w1 := on_below hw1 (by repeat' (first | (with_reducible exact Below.refl _ _) | (with_reducible assumption) | (with_reducible refine drewN_below ?_ _) | (with_reducible refine Below.drew ?_) | (with_reducible refine Below.alloc ?_ ?_ _) | (with_reducible refine Below.setCell ?_ ?_ _) | (simp; done) | omega | (simp; omega))) (by first | (with_reducible assumption) | (simp; done) | omega | (simp; omega))
    have cA0w1 : w1.cell? ⟨w.heap.size, 0, none⟩ = some (.int .i64 an) := by rw [hw1.cell (p := ⟨w.heap.size, 0, none⟩) (by first | (with_reducible assumption) | (simp; done) | omega | (simp; omega))]; simp [go_sem]
    have cA1w1 : w1.cell? ⟨w.heap.size, 1, none⟩ = some (.int .i64 ad) := by rw [hw1.cell (p := ⟨w.heap.size, 1, none⟩) (by first | (with_reducible assumption) | (simp; done) | omega | (simp; omega))]; simp [go_sem]
    have bAw1 : w.heap.size < w1.heap.size := by have := hw1.size; first | omega | (simp at this; omega)
    have dAw1 : w.heap.size < w1.heap.size + 1 := Nat.lt_succ_of_lt bAw1
    have hBw1 : Below w.heap.size w w1 := hmw1
    have zw1 : w.heap.size ≤ w1.heap.size := hBw1.size
    clear hmw1 hw1
    rw [h]
    go_wp2
    go_ret
    exact ⟨rfl, (by repeat' (first | (with_reducible exact Below.refl _ _) | (with_reducible assumption) | (with_reducible refine drewN_below ?_ _) | (with_reducible refine Below.drew ?_) | (with_reducible refine Below.alloc ?_ ?_ _) | (with_reducible refine Below.setCell ?_ ?_ _) | (simp; done) | omega | (simp; omega)))⟩
  · have hq := (Q.isq_iff _ _).1 h
    obtain ⟨hq1, hq2, hq3, hq4, _⟩ := hq
    obtain ⟨A, hA⟩ : ∃ A : ByteArray, Hid ((⟨(Lib.itoa an).toArray⟩ : ByteArray) = A) := ⟨_, rfl⟩
    by_cases h1 : ad = 1
    · subst h1
      have e : (⟨(Q.text (an, 1)).toArray⟩ : ByteArray) = A := by unfold Q.text; rw [h]; exact hA.out
      rw [e]; clear e
      go_enter Tryd.func6, Tryd.ntmps6
      go_wp2_with fail
      refine (is_any _ _ _).mono ?_
      rintro e w1 ⟨rfl, hw1⟩
      have hmw1 : Below w.heap.size w w1 := on_below hw1 (by repeat' (first | (with_reducible exact Below.refl _ _) | (with_reducible assumption) | (with_reducible refine drewN_below ?_ _) | (with_reducible refine Below.drew ?_) | (with_reducible refine Below.alloc ?_ ?_ _) | (with_reducible refine Below.setCell ?_ ?_ _) | (simp; done) | omega | (simp; omega))) (by first | (with_reducible assumption) | (simp; done) | omega | (simp; omega))
      have cA0w1 : w1.cell? ⟨w.heap.size, 0, none⟩ = some (.int .i64 an) := by rw [hw1.cell (p := ⟨w.heap.size, 0, none⟩) (by first | (with_reducible assumption) | (simp; done) | omega | (simp; omega))]; simp [go_sem]
      have cA1w1 : w1.cell? ⟨w.heap.size, 1, none⟩ = some (.int .i64 1) := by rw [hw1.cell (p := ⟨w.heap.size, 1, none⟩) (by first | (with_reducible assumption) | (simp; done) | omega | (simp; omega))]; simp [go_sem]
      have bAw1 : w.heap.size < w1.heap.size := by have := hw1.size; first | omega | (simp at this; omega)
      have dAw1 : w.heap.size < w1.heap.size + 1 := Nat.lt_succ_of_lt bAw1
      have hBw1 : Below w.heap.size w w1 := hmw1
      have zw1 : w.heap.size ≤ w1.heap.size := hBw1.size
      clear hmw1 hw1
      rw [h]
      go_wp2_with fail
      refine (fmt_any _ (by omega) (by omega) _ (Go.Joins.tab_stays gTab htab hBw1 (Nat.le_refl _))).mono ?_
      rintro e w2 ⟨rfl, hw2⟩
      have hmw2 : Below w1.heap.size w1 w2 := on_below hw2 (by repeat' (first | (with_reducible exact Below.refl _ _) | (with_reducible assumption) | (with_reducible refine drewN_below ?_ _) | (with_reducible refine Below.drew ?_) | (with_reducible refine Below.alloc ?_ ?_ _) | (with_reducible refine Below.setCell ?_ ?_ _) | (simp; done) | omega | (simp; omega))) (by first | (with_reducible assumption) | (simp; done) | omega | (simp; omega))
      have cA0w2 := (hmw2.cell (p := ⟨w.heap.size, 0, none⟩) bAw1).trans cA0w1
      have cA1w2 := (hmw2.cell (p := ⟨w.heap.size, 1, none⟩) bAw1).trans cA1w1
      have bAw2 : w.heap.size < w2.heap.size := Nat.lt_of_lt_of_le bAw1 hmw2.size
      have dAw2 : w.heap.size < w2.heap.size + 1 := Nat.lt_succ_of_lt bAw2
      have hBw2 : Below w.heap.size w w2 := Below.trans hBw1 (hmw2.mono hBw1.size)
      have zw2 : w.heap.size ≤ w2.heap.size := hBw2.size
      clear hmw2 hw2 zw1 hBw1 dAw1 bAw1 cA1w1 cA0w1
      rw [hA.out]
      go_wp2
      go_ret
      exact ⟨rfl, (by repeat' (first | (with_reducible exact Below.refl _ _) | (with_reducible assumption) | (with_reducible refine drewN_below ?_ _) | (with_reducible refine Below.drew ?_) | (with_reducible refine Below.alloc ?_ ?_ _) | (with_reducible refine Below.setCell ?_ ?_ _) | (simp; done) | omega | (simp; omega)))⟩
    · have b1 : (ad == 1) = false := by rw [beq_eq_false_iff_ne]; exact h1
      obtain ⟨B, hB⟩ : ∃ B : ByteArray, Hid ((⟨(Lib.itoa ad).toArray⟩ : ByteArray) = B) := ⟨_, rfl⟩
      have e : (⟨(Q.text (an, ad)).toArray⟩ : ByteArray) = A ++ ⟨#[47]⟩ ++ B := by
        unfold Q.text; rw [h]
        simp only [if_true, if_neg h1]
        rw [← hA.out, ← hB.out]
        have e1 := ByteArray.mk_append_mk (Lib.itoa an) [47]
        have e2 := ByteArray.mk_append_mk (Lib.itoa an ++ [47]) (Lib.itoa ad)
        have e3 : (⟨#[47]⟩ : ByteArray) = ⟨([47] : List UInt8).toArray⟩ := rfl
        rw [e3, e1, e2, List.append_assoc]; rfl
      rw [e]; clear e
      have hAs : A.size ≤ 21 := by rw [← hA.out]; have := Lib.itoa_length_le an (by omega) (by omega); exact this
      have hBs : B.size ≤ 21 := by rw [← hB.out]; have := Lib.itoa_length_le ad (by omega) (by omega); exact this
      go_enter Tryd.func6, Tryd.ntmps6
      go_wp2_with fail
      refine (is_any _ _ _).mono ?_
      rintro e w1 ⟨rfl, hw1⟩
      have hmw1 : Below w.heap.size w w1 := on_below hw1 (by repeat' (first | (with_reducible exact Below.refl _ _) | (with_reducible assumption) | (with_reducible refine drewN_below ?_ _) | (with_reducible refine Below.drew ?_) | (with_reducible refine Below.alloc ?_ ?_ _) | (with_reducible refine Below.setCell ?_ ?_ _) | (simp; done) | omega | (simp; omega))) (by first | (with_reducible assumption) | (simp; done) | omega | (simp; omega))
      have cA0w1 : w1.cell? ⟨w.heap.size, 0, none⟩ = some (.int .i64 an) := by rw [hw1.cell (p := ⟨w.heap.size, 0, none⟩) (by first | (with_reducible assumption) | (simp; done) | omega | (simp; omega))]; simp [go_sem]
      have cA1w1 : w1.cell? ⟨w.heap.size, 1, none⟩ = some (.int .i64 ad) := by rw [hw1.cell (p := ⟨w.heap.size, 1, none⟩) (by first | (with_reducible assumption) | (simp; done) | omega | (simp; omega))]; simp [go_sem]
      have bAw1 : w.heap.size < w1.heap.size := by have := hw1.size; first | omega | (simp at this; omega)
      have dAw1 : w.heap.size < w1.heap.size + 1 := Nat.lt_succ_of_lt bAw1
      have hBw1 : Below w.heap.size w w1 := hmw1
      have zw1 : w.heap.size ≤ w1.heap.size := hBw1.size
      clear hmw1 hw1
      rw [h]
      go_wp2_with fail
      refine (fmt_any _ (by omega) (by omega) _ (Go.Joins.tab_stays gTab htab hBw1 (Nat.le_refl _))).mono ?_
      rintro e w2 ⟨rfl, hw2⟩
      have hmw2 : Below w1.heap.size w1 w2 := on_below hw2 (by repeat' (first | (with_reducible exact Below.refl _ _) | (with_reducible assumption) | (with_reducible refine drewN_below ?_ _) | (with_reducible refine Below.drew ?_) | (with_reducible refine Below.alloc ?_ ?_ _) | (with_reducible refine Below.setCell ?_ ?_ _) | (simp; done) | omega | (simp; omega))) (by first | (with_reducible assumption) | (simp; done) | omega | (simp; omega))
      have cA0w2 := (hmw2.cell (p := ⟨w.heap.size, 0, none⟩) bAw1).trans cA0w1
      have cA1w2 := (hmw2.cell (p := ⟨w.heap.size, 1, none⟩) bAw1).trans cA1w1
      have bAw2 : w.heap.size < w2.heap.size := Nat.lt_of_lt_of_le bAw1 hmw2.size
      have dAw2 : w.heap.size < w2.heap.size + 1 := Nat.lt_succ_of_lt bAw2
      have hBw2 : Below w.heap.size w w2 := Below.trans hBw1 (hmw2.mono hBw1.size)
      have zw2 : w.heap.size ≤ w2.heap.size := hBw2.size
      clear hmw2 hw2 zw1 hBw1 dAw1 bAw1 cA1w1 cA0w1
      rw [hA.out]
      go_wp2_with fail
      refine (fmt_any _ (by omega) (by omega) _ (Go.Joins.tab_stays gTab htab hBw2 (Nat.le_refl _))).mono ?_
      rintro e w3 ⟨rfl, hw3⟩
      have hmw3 : Below w2.heap.size w2 w3 := on_below hw3 (by repeat' (first | (with_reducible exact Below.refl _ _) | (with_reducible assumption) | (with_reducible refine drewN_below ?_ _) | (with_reducible refine Below.drew ?_) | (with_reducible refine Below.alloc ?_ ?_ _) | (with_reducible refine Below.setCell ?_ ?_ _) | (simp; done) | omega | (simp; omega))) (by first | (with_reducible assumption) | (simp; done) | omega | (simp; omega))
      have cA0w3 := (hmw3.cell (p := ⟨w.heap.size, 0, none⟩) bAw2).trans cA0w2
      have cA1w3 := (hmw3.cell (p := ⟨w.heap.size, 1, none⟩) bAw2).trans cA1w2
      have bAw3 : w.heap.size < w3.heap.size := Nat.lt_of_lt_of_le bAw2 hmw3.size
      have dAw3 : w.heap.size < w3.heap.size + 1 := Nat.lt_succ_of_lt bAw3
      have hBw3 : Below w.heap.size w w3 := Below.trans hBw2 (hmw3.mono hBw2.size)
      have zw3 : w.heap.size ≤ w3.heap.size := hBw3.size
      clear hmw3 hw3 zw2 hBw2 dAw2 bAw2 cA1w2 cA0w2
      rw [hB.out]
      go_wp2
      go_ret
      exact ⟨rfl, (by repeat' (first | (with_reducible exact Below.refl _ _) | (with_reducible assumption) | (with_reducible refine drewN_below ?_ _) | (with_reducible refine Below.drew ?_) | (with_reducible refine Below.alloc ?_ ?_ _) | (with_reducible refine Below.setCell ?_ ?_ _) | (simp; done) | omega | (simp; omega)))⟩

set_option maxRecDepth 100000 in
set_option maxHeartbeats 1600000 in
theorem rtext_any (an ad : Int) (w : World) (htab : Lib.TabIs Tryd.prog w "internal/strconv.uint64pow10" .u64 Lib.pow10Tab) :
    Calls Tryd.prog 7 #[.agg #[.int .i64 an, .int .i64 ad]] w fun e w' => e = .returned (.string ⟨(Q.text (an, ad)).toArray⟩) ∧ Below w.heap.size w w' := by
  cases h : Q.isq an ad
  · have e : (⟨(Q.text (an, ad)).toArray⟩ : ByteArray) = ⟨#[110, 111, 110, 101]⟩ := by unfold Q.text; rw [h]; rfl
    rw [e]; clear e
    go_enter Tryd.func7, Tryd.ntmps7
    go_wp2_with fail
    refine (ris_any _ _ _).mono ?_
    rintro e w1 ⟨rfl, hw1⟩
    have hmw1 : Below w.heap.size w w1 := on_below hw1 (by repeat' (first | (with_reducible exact Below.refl _ _) | (with_reducible assumption) | (with_reducible refine drewN_below ?_ _) | (with_reducible refine Below.drew ?_) | (with_reducible refine Below.alloc ?_ ?_ _) | (with_reducible refine Below.setCell ?_ ?_ _) | (simp; done) | omega | (simp; omega))) (by first | (with_reducible assumption) | (simp; done) | omega | (simp; omega))
    have cA0w1 : w1.cell? ⟨w.heap.size, 0, none⟩ = some (.int .i64 an) := by rw [hw1.cell (p := ⟨w.heap.size, 0, none⟩) (by first | (with_reducible assumption) | (simp; done) | omega | (simp; omega))]; simp [go_sem]
    have cA1w1 : w1.cell? ⟨w.heap.size, 1, none⟩ = some (.int .i64 ad) := by rw [hw1.cell (p := ⟨w.heap.size, 1, none⟩) (by first | (with_reducible assumption) | (simp; done) | omega | (simp; omega))]; simp [go_sem]
    have bAw1 : w.heap.size < w1.heap.size := by have := hw1.size; first | omega | (simp at this; omega)
    have dAw1 : w.heap.size < w1.heap.size + 1 := Nat.lt_succ_of_lt bAw1
    have hBw1 : Below w.heap.size w w1 := hmw1
    have zw1 : w.heap.size ≤ w1.heap.size := hBw1.size
    clear hmw1 hw1
    rw [h]
    go_wp2
    go_ret
    exact ⟨rfl, (by repeat' (first | (with_reducible exact Below.refl _ _) | (with_reducible assumption) | (with_reducible refine drewN_below ?_ _) | (with_reducible refine Below.drew ?_) | (with_reducible refine Below.alloc ?_ ?_ _) | (with_reducible refine Below.setCell ?_ ?_ _) | (simp; done) | omega | (simp; omega)))⟩
  · have hq := (Q.isq_iff _ _).1 h
    obtain ⟨hq1, hq2, hq3, hq4, _⟩ := hq
    obtain ⟨A, hA⟩ : ∃ A : ByteArray, Hid ((⟨(Lib.itoa an).toArray⟩ : ByteArray) = A) := ⟨_, rfl⟩
    by_cases h1 : ad = 1
    · subst h1
      have e : (⟨(Q.text (an, 1)).toArray⟩ : ByteArray) = A := by unfold Q.text; rw [h]; exact hA.out
      rw [e]; clear e
      go_enter Tryd.func7, Tryd.ntmps7
      go_wp2_with fail
      refine (ris_any _ _ _).mono ?_
      rintro e w1 ⟨rfl, hw1⟩
      have hmw1 : Below w.heap.size w w1 := on_below hw1 (by repeat' (first | (with_reducible exact Below.refl _ _) | (with_reducible assumption) | (with_reducible refine drewN_below ?_ _) | (with_reducible refine Below.drew ?_) | (with_reducible refine Below.alloc ?_ ?_ _) | (with_reducible refine Below.setCell ?_ ?_ _) | (simp; done) | omega | (simp; omega))) (by first | (with_reducible assumption) | (simp; done) | omega | (simp; omega))
      have cA0w1 : w1.cell? ⟨w.heap.size, 0, none⟩ = some (.int .i64 an) := by rw [hw1.cell (p := ⟨w.heap.size, 0, none⟩) (by first | (with_reducible assumption) | (simp; done) | omega | (simp; omega))]; simp [go_sem]
      have cA1w1 : w1.cell? ⟨w.heap.size, 1, none⟩ = some (.int .i64 1) := by rw [hw1.cell (p := ⟨w.heap.size, 1, none⟩) (by first | (with_reducible assumption) | (simp; done) | omega | (simp; omega))]; simp [go_sem]
      have bAw1 : w.heap.size < w1.heap.size := by have := hw1.size; first | omega | (simp at this; omega)
      have dAw1 : w.heap.size < w1.heap.size + 1 := Nat.lt_succ_of_lt bAw1
      have hBw1 : Below w.heap.size w w1 := hmw1
      have zw1 : w.heap.size ≤ w1.heap.size := hBw1.size
      clear hmw1 hw1
      rw [h]
      go_wp2_with fail
      refine (fmt_any _ (by omega) (by omega) _ (Go.Joins.tab_stays gTab htab hBw1 (Nat.le_refl _))).mono ?_
      rintro e w2 ⟨rfl, hw2⟩
      have hmw2 : Below w1.heap.size w1 w2 := on_below hw2 (by repeat' (first | (with_reducible exact Below.refl _ _) | (with_reducible assumption) | (with_reducible refine drewN_below ?_ _) | (with_reducible refine Below.drew ?_) | (with_reducible refine Below.alloc ?_ ?_ _) | (with_reducible refine Below.setCell ?_ ?_ _) | (simp; done) | omega | (simp; omega))) (by first | (with_reducible assumption) | (simp; done) | omega | (simp; omega))
      have cA0w2 := (hmw2.cell (p := ⟨w.heap.size, 0, none⟩) bAw1).trans cA0w1
      have cA1w2 := (hmw2.cell (p := ⟨w.heap.size, 1, none⟩) bAw1).trans cA1w1
      have bAw2 : w.heap.size < w2.heap.size := Nat.lt_of_lt_of_le bAw1 hmw2.size
      have dAw2 : w.heap.size < w2.heap.size + 1 := Nat.lt_succ_of_lt bAw2
      have hBw2 : Below w.heap.size w w2 := Below.trans hBw1 (hmw2.mono hBw1.size)
      have zw2 : w.heap.size ≤ w2.heap.size := hBw2.size
      clear hmw2 hw2 zw1 hBw1 dAw1 bAw1 cA1w1 cA0w1
      rw [hA.out]
      go_wp2
      go_ret
      exact ⟨rfl, (by repeat' (first | (with_reducible exact Below.refl _ _) | (with_reducible assumption) | (with_reducible refine drewN_below ?_ _) | (with_reducible refine Below.drew ?_) | (with_reducible refine Below.alloc ?_ ?_ _) | (with_reducible refine Below.setCell ?_ ?_ _) | (simp; done) | omega | (simp; omega)))⟩
    · have b1 : (ad == 1) = false := by rw [beq_eq_false_iff_ne]; exact h1
      obtain ⟨B, hB⟩ : ∃ B : ByteArray, Hid ((⟨(Lib.itoa ad).toArray⟩ : ByteArray) = B) := ⟨_, rfl⟩
      have e : (⟨(Q.text (an, ad)).toArray⟩ : ByteArray) = A ++ ⟨#[47]⟩ ++ B := by
        unfold Q.text; rw [h]
        simp only [if_true, if_neg h1]
        rw [← hA.out, ← hB.out]
        have e1 := ByteArray.mk_append_mk (Lib.itoa an) [47]
        have e2 := ByteArray.mk_append_mk (Lib.itoa an ++ [47]) (Lib.itoa ad)
        have e3 : (⟨#[47]⟩ : ByteArray) = ⟨([47] : List UInt8).toArray⟩ := rfl
        rw [e3, e1, e2, List.append_assoc]; rfl
      rw [e]; clear e
      have hAs : A.size ≤ 21 := by rw [← hA.out]; have := Lib.itoa_length_le an (by omega) (by omega); exact this
      have hBs : B.size ≤ 21 := by rw [← hB.out]; have := Lib.itoa_length_le ad (by omega) (by omega); exact this
      go_enter Tryd.func7, Tryd.ntmps7
      go_wp2_with fail
      refine (ris_any _ _ _).mono ?_
      rintro e w1 ⟨rfl, hw1⟩
      have hmw1 : Below w.heap.size w w1 := on_below hw1 (by repeat' (first | (with_reducible exact Below.refl _ _) | (with_reducible assumption) | (with_reducible refine drewN_below ?_ _) | (with_reducible refine Below.drew ?_) | (with_reducible refine Below.alloc ?_ ?_ _) | (with_reducible refine Below.setCell ?_ ?_ _) | (simp; done) | omega | (simp; omega))) (by first | (with_reducible assumption) | (simp; done) | omega | (simp; omega))
      have cA0w1 : w1.cell? ⟨w.heap.size, 0, none⟩ = some (.int .i64 an) := by rw [hw1.cell (p := ⟨w.heap.size, 0, none⟩) (by first | (with_reducible assumption) | (simp; done) | omega | (simp; omega))]; simp [go_sem]
      have cA1w1 : w1.cell? ⟨w.heap.size, 1, none⟩ = some (.int .i64 ad) := by rw [hw1.cell (p := ⟨w.heap.size, 1, none⟩) (by first | (with_reducible assumption) | (simp; done) | omega | (simp; omega))]; simp [go_sem]
      have bAw1 : w.heap.size < w1.heap.size := by have := hw1.size; first | omega | (simp at this; omega)
      have dAw1 : w.heap.size < w1.heap.size + 1 := Nat.lt_succ_of_lt bAw1
      have hBw1 : Below w.heap.size w w1 := hmw1
      have zw1 : w.heap.size ≤ w1.heap.size := hBw1.size
      clear hmw1 hw1
      rw [h]
      go_wp2_with fail
      refine (fmt_any _ (by omega) (by omega) _ (Go.Joins.tab_stays gTab htab hBw1 (Nat.le_refl _))).mono ?_
      rintro e w2 ⟨rfl, hw2⟩
      have hmw2 : Below w1.heap.size w1 w2 := on_below hw2 (by repeat' (first | (with_reducible exact Below.refl _ _) | (with_reducible assumption) | (with_reducible refine drewN_below ?_ _) | (with_reducible refine Below.drew ?_) | (with_reducible refine Below.alloc ?_ ?_ _) | (with_reducible refine Below.setCell ?_ ?_ _) | (simp; done) | omega | (simp; omega))) (by first | (with_reducible assumption) | (simp; done) | omega | (simp; omega))
      have cA0w2 := (hmw2.cell (p := ⟨w.heap.size, 0, none⟩) bAw1).trans cA0w1
      have cA1w2 := (hmw2.cell (p := ⟨w.heap.size, 1, none⟩) bAw1).trans cA1w1
      have bAw2 : w.heap.size < w2.heap.size := Nat.lt_of_lt_of_le bAw1 hmw2.size
      have dAw2 : w.heap.size < w2.heap.size + 1 := Nat.lt_succ_of_lt bAw2
      have hBw2 : Below w.heap.size w w2 := Below.trans hBw1 (hmw2.mono hBw1.size)
      have zw2 : w.heap.size ≤ w2.heap.size := hBw2.size
      clear hmw2 hw2 zw1 hBw1 dAw1 bAw1 cA1w1 cA0w1
      rw [hA.out]
      go_wp2_with fail
      refine (fmt_any _ (by omega) (by omega) _ (Go.Joins.tab_stays gTab htab hBw2 (Nat.le_refl _))).mono ?_
      rintro e w3 ⟨rfl, hw3⟩
      have hmw3 : Below w2.heap.size w2 w3 := on_below hw3 (by repeat' (first | (with_reducible exact Below.refl _ _) | (with_reducible assumption) | (with_reducible refine drewN_below ?_ _) | (with_reducible refine Below.drew ?_) | (with_reducible refine Below.alloc ?_ ?_ _) | (with_reducible refine Below.setCell ?_ ?_ _) | (simp; done) | omega | (simp; omega))) (by first | (with_reducible assumption) | (simp; done) | omega | (simp; omega))
      have cA0w3 := (hmw3.cell (p := ⟨w.heap.size, 0, none⟩) bAw2).trans cA0w2
      have cA1w3 := (hmw3.cell (p := ⟨w.heap.size, 1, none⟩) bAw2).trans cA1w2
      have bAw3 : w.heap.size < w3.heap.size := Nat.lt_of_lt_of_le bAw2 hmw3.size
      have dAw3 : w.heap.size < w3.heap.size + 1 := Nat.lt_succ_of_lt bAw3
      have hBw3 : Below w.heap.size w w3 := Below.trans hBw2 (hmw3.mono hBw2.size)
      have zw3 : w.heap.size ≤ w3.heap.size := hBw3.size
      clear hmw3 hw3 zw2 hBw2 dAw2 bAw2 cA1w2 cA0w2
      rw [hB.out]
      go_wp2
      go_ret
      exact ⟨rfl, (by repeat' (first | (with_reducible exact Below.refl _ _) | (with_reducible assumption) | (with_reducible refine drewN_below ?_ _) | (with_reducible refine Below.drew ?_) | (with_reducible refine Below.alloc ?_ ?_ _) | (with_reducible refine Below.setCell ?_ ?_ _) | (simp; done) | omega | (simp; omega)))⟩

end Go.Proofs.YtpoalckncfkdgaaDoor
