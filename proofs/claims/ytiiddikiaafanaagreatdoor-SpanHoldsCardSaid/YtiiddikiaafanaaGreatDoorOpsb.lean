import Derived.Test.YtiiddikiaafanaaGreatDoorOps
set_option linter.all false
/-
  Floor and its kin, the least and the greatest, rests, and the specification's own: what each call gives.
-/
namespace Go.Proofs.YtiiddikiaafanaaGreatDoor.R
open Go.Proofs.YtiiddikiaafanaaGreatDoor
open Go.RowKit

set_option maxHeartbeats 800000 in
theorem divide_any (p d : Int) (hp : -1152921504606846976 ≤ p ∧ p ≤ 1152921504606846976) (hd : -1152921504606846976 ≤ d ∧ d ≤ 1152921504606846976) (hd0 : Hid (d ≠ 0)) (w : World) :
    Calls Tryz.prog 127 #[.int .i64 p, .int .i64 d] w fun e w' => e = .returned (.tuple #[.int .i64 (Q.dq p d), .int .i64 (Q.dr p d)]) ∧ Below w.heap.size w w' := by
  have hRb := Q.tmod_lt p d hd0.out
  have hQb := Q.tdiv_bd p d _ hp
  have eq1 : Hid (Q.dq p d = if ((p.tmod d != 0) && (decide (p.tmod d < 0) != decide (d < 0))) = true then p.tdiv d - 1 else p.tdiv d) := rfl
  have eq2 : Hid (Q.dr p d = if ((p.tmod d != 0) && (decide (p.tmod d < 0) != decide (d < 0))) = true then p.tmod d + d else p.tmod d) := rfl
  have d0 : (d == 0) = false := by rw [beq_eq_false_iff_ne]; exact hd0.out
  have d00 : ¬ d = 0 := hd0.out
  obtain ⟨q, hQ⟩ : ∃ q, p.tdiv d = q := ⟨_, rfl⟩
  obtain ⟨r, hR⟩ : ∃ r, p.tmod d = r := ⟨_, rfl⟩
  rw [hQ] at hQb
  rw [hR] at hRb
  rw [hQ, hR] at eq1
  rw [hR] at eq2
  have hrb : -1152921504606846976 ≤ r ∧ r ≤ 1152921504606846976 := by omega
  clear hRb
  by_cases g0 : r = 0
  · subst g0
    have g1 : True := trivial
    have g2 : True := trivial
    have e1 : Q.dq p d = q := by rw [eq1.out]; simp
    have e2 : Q.dr p d = 0 := by rw [eq2.out]; simp
    rw [e1, e2]; clear e1 e2 eq1 eq2
    go_enter Tryz.func127, Tryz.ntmps127
    go_wp2
    go_quiet (fail)
    go_wp2
    go_ret2
    exact ⟨rfl, bl⟩
  · have b0 : (r != 0) = true := by rw [bne_iff_ne]; exact g0
    by_cases g1 : r < 0
    · skip
      by_cases g2 : d < 0
      · have e1 : Q.dq p d = q := by rw [eq1.out]; first | (simp [g1, g2]; done) | (simp [g0, g1, g2]; done)
        have e2 : Q.dr p d = r := by rw [eq2.out]; first | (simp [g1, g2]; done) | (simp [g0, g1, g2]; done)
        rw [e1, e2]; clear e1 e2 eq1 eq2
        first | (have b1 : decide (r < 0) = true := by simp [g1]) | (have b1 : decide (r < 0) = false := by simp [g1])
        first | (have b2 : decide (d < 0) = true := by simp [g2]) | (have b2 : decide (d < 0) = false := by simp [g2])
        go_enter Tryz.func127, Tryz.ntmps127
        go_wp2
        go_quiet (fail)
        go_wp2
        go_ret2
        exact ⟨rfl, bl⟩
      · have e1 : Q.dq p d = q - 1 := by rw [eq1.out]; first | (simp [g1, g2]; done) | (simp [g0, g1, g2]; done)
        have e2 : Q.dr p d = (r + d) := by rw [eq2.out]; first | (simp [g1, g2]; done) | (simp [g0, g1, g2]; done)
        rw [e1, e2]; clear e1 e2 eq1 eq2
        first | (have b1 : decide (r < 0) = true := by simp [g1]) | (have b1 : decide (r < 0) = false := by simp [g1])
        first | (have b2 : decide (d < 0) = true := by simp [g2]) | (have b2 : decide (d < 0) = false := by simp [g2])
        go_enter Tryz.func127, Tryz.ntmps127
        go_wp2
        go_quiet (fail)
        go_wp2
        go_ret2
        exact ⟨rfl, bl⟩
    · skip
      by_cases g2 : d < 0
      · have e1 : Q.dq p d = q - 1 := by rw [eq1.out]; first | (simp [g1, g2]; done) | (simp [g0, g1, g2]; done)
        have e2 : Q.dr p d = (r + d) := by rw [eq2.out]; first | (simp [g1, g2]; done) | (simp [g0, g1, g2]; done)
        rw [e1, e2]; clear e1 e2 eq1 eq2
        first | (have b1 : decide (r < 0) = true := by simp [g1]) | (have b1 : decide (r < 0) = false := by simp [g1])
        first | (have b2 : decide (d < 0) = true := by simp [g2]) | (have b2 : decide (d < 0) = false := by simp [g2])
        go_enter Tryz.func127, Tryz.ntmps127
        go_wp2
        go_quiet (fail)
        go_wp2
        go_ret2
        exact ⟨rfl, bl⟩
      · have e1 : Q.dq p d = q := by rw [eq1.out]; first | (simp [g1, g2]; done) | (simp [g0, g1, g2]; done)
        have e2 : Q.dr p d = r := by rw [eq2.out]; first | (simp [g1, g2]; done) | (simp [g0, g1, g2]; done)
        rw [e1, e2]; clear e1 e2 eq1 eq2
        first | (have b1 : decide (r < 0) = true := by simp [g1]) | (have b1 : decide (r < 0) = false := by simp [g1])
        first | (have b2 : decide (d < 0) = true := by simp [g2]) | (have b2 : decide (d < 0) = false := by simp [g2])
        go_enter Tryz.func127, Tryz.ntmps127
        go_wp2
        go_quiet (fail)
        go_wp2
        go_ret2
        exact ⟨rfl, bl⟩

set_option maxHeartbeats 400000 in
theorem floordiv_any (p d : Int) (hp : -4611686018427387904 ≤ p ∧ p ≤ 4611686018427387904) (hd : 1 ≤ d ∧ d ≤ 4611686018427387904) (w : World) :
    Calls Tryz.prog 76 #[.int .i64 p, .int .i64 d] w fun e w' => e = .returned (.int .i64 (p / d)) ∧ w = w' := by
  have hQb := Q.tdiv_bd p d _ hp
  have hRb := Q.tmod_lt p d (by omega)
  have eq1 : Hid (p / d = if p.tmod d < 0 then p.tdiv d - 1 else p.tdiv d) := Q.floor_div p d (by omega)
  have d0 : (d == 0) = false := by rw [beq_eq_false_iff_ne]; omega
  have d00 : ¬ d = 0 := by omega
  obtain ⟨q, hQ⟩ : ∃ q, p.tdiv d = q := ⟨_, rfl⟩
  obtain ⟨r, hR⟩ : ∃ r, p.tmod d = r := ⟨_, rfl⟩
  obtain ⟨x, hX⟩ : ∃ x, p / d = x := ⟨_, rfl⟩
  rw [hQ] at hQb
  rw [hR] at hRb
  rw [hQ, hR, hX] at eq1
  rw [hX]
  clear hX
  have hrb : -4611686018427387904 ≤ r ∧ r ≤ 4611686018427387904 := by omega
  clear hRb hd
  by_cases g1 : r < 0
  · have e1 := eq1.out
    rw [if_pos g1] at e1
    subst e1
    clear eq1
    go_enter Tryz.func76, Tryz.ntmps76
    go_wp2
    go_ret
    exact ⟨rfl, rfl⟩
  · have e1 := eq1.out
    rw [if_neg g1] at e1
    subst e1
    clear eq1
    go_enter Tryz.func76, Tryz.ntmps76
    go_wp2
    go_ret
    exact ⟨rfl, rfl⟩

set_option maxHeartbeats 400000 in
theorem floor_any (an ad : Int) (w : World) :
    Calls Tryz.prog 101 #[.agg #[.int .i64 an, .int .i64 ad]] w fun e w' => e = .returned (.agg #[.int .i64 (Q.floor (an, ad)).1, .int .i64 (Q.floor (an, ad)).2]) ∧ Below w.heap.size w w' := by
  cases h : Q.isq an ad
  · have e : Q.floor (an, ad) = (0, 0) := by unfold Q.floor; rw [h]; rfl
    rw [e]; clear e
    go_enter Tryz.func101, Tryz.ntmps101
    go_wp2_with fail
    refine (is_any _ _ _).mono ?_
    rintro e w1 ⟨rfl, hb1⟩
    obtain ⟨hc1, hf1, hz1, hB1⟩ := after (a := w) (B := w.heap.size) (w.heap.size + 2) hb1 (by first | (with_reducible assumption) | (simp; done) | omega | (simp; omega)) bl (by omega)
    rw [h]
    go_wp2
    exact bodyPost_ret (v := .agg #[.int .i64 0, .int .i64 0]) (by simp [results, Tryz.results101, go_sem, hc1]) rfl ⟨rfl, bl⟩
  · have hq := (Q.isq_iff _ _).1 h
    obtain ⟨hq1, hq2, hq3, hq4, hq5⟩ := hq
    clear hq5
    have hb := Q.div_bd an ad 1073741824 (by omega) (by omega)
    have e : Q.floor (an, ad) = Q.mk (an / ad) 1 := by unfold Q.floor; rw [h]; rfl
    obtain ⟨r, s, hr⟩ : ∃ r s, Hid (Q.mk (an / ad) 1 = (r, s)) := ⟨_, _, rfl⟩
    rw [e, hr.out]; clear e
    go_enter Tryz.func101, Tryz.ntmps101
    go_wp2_with fail
    refine (is_any _ _ _).mono ?_
    rintro e w1 ⟨rfl, hb1⟩
    obtain ⟨hc1, hf1, hz1, hB1⟩ := after (a := w) (B := w.heap.size) (w.heap.size + 2) hb1 (by first | (with_reducible assumption) | (simp; done) | omega | (simp; omega)) bl (by omega)
    rw [h]
    go_wp2_with fail
    refine (divide_any _ _ (by omega) (by omega) (Lib.hid (by omega)) _).mono ?_
    rintro e w2 ⟨rfl, hb2⟩
    obtain ⟨hc2, hf2, hz2, hB2⟩ := after (a := w) (B := w.heap.size) (w.heap.size + 2) hb2 (by first | (with_reducible assumption) | (simp; done) | omega | (simp; omega)) bl (by omega)
    rw [(Q.dqr an ad (by omega)).1, (Q.dqr an ad (by omega)).2]
    go_wp2_with fail
    refine (whole_any _ (by omega) _).mono ?_
    rintro e w3 ⟨rfl, hb3⟩
    obtain ⟨hc3, hf3, hz3, hB3⟩ := after (a := w) (B := w.heap.size) (w.heap.size + 2) hb3 (by first | (with_reducible assumption) | (simp; done) | omega | (simp; omega)) bl (by omega)
    rw [hr.out]
    go_wp2
    exact bodyPost_ret (v := .agg #[.int .i64 r, .int .i64 s]) (by simp [results, Tryz.results101, go_sem, hc3, hc2, hc1]) rfl ⟨rfl, bl⟩

set_option maxHeartbeats 400000 in
theorem rfloor_any (an ad : Int) (w : World) :
    Calls Tryz.prog 34 #[.agg #[.int .i64 an, .int .i64 ad]] w fun e w' => e = .returned (.agg #[.int .i64 (Q.floor (an, ad)).1, .int .i64 (Q.floor (an, ad)).2]) ∧ Below w.heap.size w w' := by
  cases h : Q.isq an ad
  · have e : Q.floor (an, ad) = (0, 0) := by unfold Q.floor; rw [h]; rfl
    rw [e]; clear e
    go_enter Tryz.func34, Tryz.ntmps34
    go_wp2_with fail
    refine (ris_any _ _ _).mono ?_
    rintro e w1 ⟨rfl, hb1⟩
    obtain ⟨hc1, hf1, hz1, hB1⟩ := after (a := w) (B := w.heap.size) (w.heap.size + 2) hb1 (by first | (with_reducible assumption) | (simp; done) | omega | (simp; omega)) bl (by omega)
    rw [h]
    go_wp2_with fail
    refine (rnone_any _).mono ?_
    rintro e w2 ⟨rfl, hb2⟩
    obtain ⟨hc2, hf2, hz2, hB2⟩ := after (a := w) (B := w.heap.size) (w.heap.size + 2) hb2 (by first | (with_reducible assumption) | (simp; done) | omega | (simp; omega)) bl (by omega)
    go_wp2
    exact bodyPost_ret (v := .agg #[.int .i64 0, .int .i64 0]) (by simp [results, Tryz.results34, go_sem, hc2, hc1]) rfl ⟨rfl, bl⟩
  · have hq := (Q.isq_iff _ _).1 h
    obtain ⟨hq1, hq2, hq3, hq4, hq5⟩ := hq
    clear hq5
    have hb := Q.div_bd an ad 1073741824 (by omega) (by omega)
    have e : Q.floor (an, ad) = Q.mk (an / ad) 1 := by unfold Q.floor; rw [h]; rfl
    obtain ⟨r, s, hr⟩ : ∃ r s, Hid (Q.mk (an / ad) 1 = (r, s)) := ⟨_, _, rfl⟩
    rw [e, hr.out]; clear e
    go_enter Tryz.func34, Tryz.ntmps34
    go_wp2_with fail
    refine (ris_any _ _ _).mono ?_
    rintro e w1 ⟨rfl, hb1⟩
    obtain ⟨hc1, hf1, hz1, hB1⟩ := after (a := w) (B := w.heap.size) (w.heap.size + 2) hb1 (by first | (with_reducible assumption) | (simp; done) | omega | (simp; omega)) bl (by omega)
    rw [h]
    go_wp2_with fail
    refine (floordiv_any _ _ (by omega) (by omega) _).mono ?_
    rintro e w2 ⟨rfl, rfl⟩
    go_wp2_with fail
    refine (rwhole_any _ (by omega) _).mono ?_
    rintro e w3 ⟨rfl, hb3⟩
    obtain ⟨hc3, hf3, hz3, hB3⟩ := after (a := w) (B := w.heap.size) (w.heap.size + 2) hb3 (by first | (with_reducible assumption) | (simp; done) | omega | (simp; omega)) bl (by omega)
    rw [hr.out]
    go_wp2
    exact bodyPost_ret (v := .agg #[.int .i64 r, .int .i64 s]) (by simp [results, Tryz.results34, go_sem, hc3, hc1]) rfl ⟨rfl, bl⟩

set_option maxHeartbeats 800000 in
theorem min_any (an ad bn bd : Int) (w : World) :
    Calls Tryz.prog 96 #[.agg #[.int .i64 an, .int .i64 ad], .agg #[.int .i64 bn, .int .i64 bd]] w fun e w' => e = .returned (.agg #[.int .i64 (Q.min (an, ad) (bn, bd)).1, .int .i64 (Q.min (an, ad) (bn, bd)).2]) ∧ Below w.heap.size w w' := by
  cases h : Q.both (an, ad) (bn, bd)
  · have e : Q.min (an, ad) (bn, bd) = (0, 0) := by unfold Q.min; rw [h]; rfl
    rw [e]; clear e
    go_enter Tryz.func96, Tryz.ntmps96
    go_wp2_with fail
    refine (both_any _ _ _ _ _).mono ?_
    rintro e w1 ⟨rfl, hb1⟩
    obtain ⟨hc1, hf1, hz1, hB1⟩ := after (a := w) (B := w.heap.size) (w.heap.size + 3) hb1 (by first | (with_reducible assumption) | (simp; done) | omega | (simp; omega)) bl (by omega)
    rw [h]
    go_wp2
    exact bodyPost_ret (v := .agg #[.int .i64 0, .int .i64 0]) (by simp [results, Tryz.results96, go_sem, hc1]) rfl ⟨rfl, bl⟩
  · have hfl := Q.cmp_flip (an, ad) (bn, bd)
    obtain ⟨c, hc⟩ : ∃ c, Q.cmp (bn, bd) (an, ad) = c := ⟨_, rfl⟩
    by_cases g : Q.cmp (bn, bd) (an, ad) < 0
    · have e : Q.min (an, ad) (bn, bd) = (bn, bd) := by unfold Q.min; rw [h, if_pos g]; rfl
      rw [e]; clear e
      rw [hfl] at g
      rw [← hfl] at g
      rw [hc] at g
      clear hfl
      go_enter Tryz.func96, Tryz.ntmps96
      go_wp2_with fail
      refine (both_any _ _ _ _ _).mono ?_
      rintro e w1 ⟨rfl, hb1⟩
      obtain ⟨hc1, hf1, hz1, hB1⟩ := after (a := w) (B := w.heap.size) (w.heap.size + 3) hb1 (by first | (with_reducible assumption) | (simp; done) | omega | (simp; omega)) bl (by omega)
      rw [h]
      go_wp2_with fail
      refine (cmp_any _ _ _ _ _).mono ?_
      rintro e w2 ⟨rfl, hb2⟩
      obtain ⟨hc2, hf2, hz2, hB2⟩ := after (a := w) (B := w.heap.size) (w.heap.size + 3) hb2 (by first | (with_reducible assumption) | (simp; done) | omega | (simp; omega)) bl (by omega)
      rw [hc]
      go_wp2
      exact bodyPost_ret (v := .agg #[.int .i64 bn, .int .i64 bd]) (by simp [results, Tryz.results96, go_sem, hc2, hc1]) rfl ⟨rfl, bl⟩
    · have e : Q.min (an, ad) (bn, bd) = (an, ad) := by unfold Q.min; rw [h, if_neg g]; rfl
      rw [e]; clear e
      rw [hfl] at g
      rw [← hfl] at g
      rw [hc] at g
      clear hfl
      go_enter Tryz.func96, Tryz.ntmps96
      go_wp2_with fail
      refine (both_any _ _ _ _ _).mono ?_
      rintro e w1 ⟨rfl, hb1⟩
      obtain ⟨hc1, hf1, hz1, hB1⟩ := after (a := w) (B := w.heap.size) (w.heap.size + 3) hb1 (by first | (with_reducible assumption) | (simp; done) | omega | (simp; omega)) bl (by omega)
      rw [h]
      go_wp2_with fail
      refine (cmp_any _ _ _ _ _).mono ?_
      rintro e w2 ⟨rfl, hb2⟩
      obtain ⟨hc2, hf2, hz2, hB2⟩ := after (a := w) (B := w.heap.size) (w.heap.size + 3) hb2 (by first | (with_reducible assumption) | (simp; done) | omega | (simp; omega)) bl (by omega)
      rw [hc]
      go_wp2
      exact bodyPost_ret (v := .agg #[.int .i64 an, .int .i64 ad]) (by simp [results, Tryz.results96, go_sem, hc2, hc1]) rfl ⟨rfl, bl⟩

set_option maxHeartbeats 800000 in
theorem max_any (an ad bn bd : Int) (w : World) :
    Calls Tryz.prog 97 #[.agg #[.int .i64 an, .int .i64 ad], .agg #[.int .i64 bn, .int .i64 bd]] w fun e w' => e = .returned (.agg #[.int .i64 (Q.max (an, ad) (bn, bd)).1, .int .i64 (Q.max (an, ad) (bn, bd)).2]) ∧ Below w.heap.size w w' := by
  cases h : Q.both (an, ad) (bn, bd)
  · have e : Q.max (an, ad) (bn, bd) = (0, 0) := by unfold Q.max; rw [h]; rfl
    rw [e]; clear e
    go_enter Tryz.func97, Tryz.ntmps97
    go_wp2_with fail
    refine (both_any _ _ _ _ _).mono ?_
    rintro e w1 ⟨rfl, hb1⟩
    obtain ⟨hc1, hf1, hz1, hB1⟩ := after (a := w) (B := w.heap.size) (w.heap.size + 3) hb1 (by first | (with_reducible assumption) | (simp; done) | omega | (simp; omega)) bl (by omega)
    rw [h]
    go_wp2
    exact bodyPost_ret (v := .agg #[.int .i64 0, .int .i64 0]) (by simp [results, Tryz.results97, go_sem, hc1]) rfl ⟨rfl, bl⟩
  · have hfl := Q.cmp_flip (an, ad) (bn, bd)
    obtain ⟨c, hc⟩ : ∃ c, Q.cmp (bn, bd) (an, ad) = c := ⟨_, rfl⟩
    by_cases g : 0 < Q.cmp (bn, bd) (an, ad)
    · have e : Q.max (an, ad) (bn, bd) = (bn, bd) := by unfold Q.max; rw [h, if_pos g]; rfl
      rw [e]; clear e
      rw [hfl] at g
      rw [← hfl] at g
      rw [hc] at g
      clear hfl
      go_enter Tryz.func97, Tryz.ntmps97
      go_wp2_with fail
      refine (both_any _ _ _ _ _).mono ?_
      rintro e w1 ⟨rfl, hb1⟩
      obtain ⟨hc1, hf1, hz1, hB1⟩ := after (a := w) (B := w.heap.size) (w.heap.size + 3) hb1 (by first | (with_reducible assumption) | (simp; done) | omega | (simp; omega)) bl (by omega)
      rw [h]
      go_wp2_with fail
      refine (cmp_any _ _ _ _ _).mono ?_
      rintro e w2 ⟨rfl, hb2⟩
      obtain ⟨hc2, hf2, hz2, hB2⟩ := after (a := w) (B := w.heap.size) (w.heap.size + 3) hb2 (by first | (with_reducible assumption) | (simp; done) | omega | (simp; omega)) bl (by omega)
      rw [hc]
      go_wp2
      exact bodyPost_ret (v := .agg #[.int .i64 bn, .int .i64 bd]) (by simp [results, Tryz.results97, go_sem, hc2, hc1]) rfl ⟨rfl, bl⟩
    · have e : Q.max (an, ad) (bn, bd) = (an, ad) := by unfold Q.max; rw [h, if_neg g]; rfl
      rw [e]; clear e
      rw [hfl] at g
      rw [← hfl] at g
      rw [hc] at g
      clear hfl
      go_enter Tryz.func97, Tryz.ntmps97
      go_wp2_with fail
      refine (both_any _ _ _ _ _).mono ?_
      rintro e w1 ⟨rfl, hb1⟩
      obtain ⟨hc1, hf1, hz1, hB1⟩ := after (a := w) (B := w.heap.size) (w.heap.size + 3) hb1 (by first | (with_reducible assumption) | (simp; done) | omega | (simp; omega)) bl (by omega)
      rw [h]
      go_wp2_with fail
      refine (cmp_any _ _ _ _ _).mono ?_
      rintro e w2 ⟨rfl, hb2⟩
      obtain ⟨hc2, hf2, hz2, hB2⟩ := after (a := w) (B := w.heap.size) (w.heap.size + 3) hb2 (by first | (with_reducible assumption) | (simp; done) | omega | (simp; omega)) bl (by omega)
      rw [hc]
      go_wp2
      exact bodyPost_ret (v := .agg #[.int .i64 an, .int .i64 ad]) (by simp [results, Tryz.results97, go_sem, hc2, hc1]) rfl ⟨rfl, bl⟩

set_option maxHeartbeats 800000 in
theorem rmin_any (an ad bn bd : Int) (w : World) :
    Calls Tryz.prog 42 #[.agg #[.int .i64 an, .int .i64 ad], .agg #[.int .i64 bn, .int .i64 bd]] w fun e w' => e = .returned (.agg #[.int .i64 (Q.min (an, ad) (bn, bd)).1, .int .i64 (Q.min (an, ad) (bn, bd)).2]) ∧ Below w.heap.size w w' := by
  cases h : Q.both (an, ad) (bn, bd)
  · have e : Q.min (an, ad) (bn, bd) = (0, 0) := by unfold Q.min; rw [h]; rfl
    rw [e]; clear e
    go_enter Tryz.func42, Tryz.ntmps42
    go_wp2_with fail
    refine (rboth_any _ _ _ _ _).mono ?_
    rintro e w1 ⟨rfl, hb1⟩
    obtain ⟨hc1, hf1, hz1, hB1⟩ := after (a := w) (B := w.heap.size) (w.heap.size + 3) hb1 (by first | (with_reducible assumption) | (simp; done) | omega | (simp; omega)) bl (by omega)
    rw [h]
    go_wp2_with fail
    refine (rnone_any _).mono ?_
    rintro e w2 ⟨rfl, hb2⟩
    obtain ⟨hc2, hf2, hz2, hB2⟩ := after (a := w) (B := w.heap.size) (w.heap.size + 3) hb2 (by first | (with_reducible assumption) | (simp; done) | omega | (simp; omega)) bl (by omega)
    go_wp2
    exact bodyPost_ret (v := .agg #[.int .i64 0, .int .i64 0]) (by simp [results, Tryz.results42, go_sem, hc2, hc1]) rfl ⟨rfl, bl⟩
  · have hfl := Q.cmp_flip (an, ad) (bn, bd)
    obtain ⟨c, hc⟩ : ∃ c, Q.cmp (an, ad) (bn, bd) = c := ⟨_, rfl⟩
    by_cases g : Q.cmp (bn, bd) (an, ad) < 0
    · have e : Q.min (an, ad) (bn, bd) = (bn, bd) := by unfold Q.min; rw [h, if_pos g]; rfl
      rw [e]; clear e
      rw [hfl] at g
      skip
      rw [hc] at g
      clear hfl
      go_enter Tryz.func42, Tryz.ntmps42
      go_wp2_with fail
      refine (rboth_any _ _ _ _ _).mono ?_
      rintro e w1 ⟨rfl, hb1⟩
      obtain ⟨hc1, hf1, hz1, hB1⟩ := after (a := w) (B := w.heap.size) (w.heap.size + 3) hb1 (by first | (with_reducible assumption) | (simp; done) | omega | (simp; omega)) bl (by omega)
      rw [h]
      go_wp2_with fail
      refine (rcmp_any _ _ _ _ _).mono ?_
      rintro e w2 ⟨rfl, hb2⟩
      obtain ⟨hc2, hf2, hz2, hB2⟩ := after (a := w) (B := w.heap.size) (w.heap.size + 3) hb2 (by first | (with_reducible assumption) | (simp; done) | omega | (simp; omega)) bl (by omega)
      rw [hc]
      go_wp2
      exact bodyPost_ret (v := .agg #[.int .i64 bn, .int .i64 bd]) (by simp [results, Tryz.results42, go_sem, hc2, hc1]) rfl ⟨rfl, bl⟩
    · have e : Q.min (an, ad) (bn, bd) = (an, ad) := by unfold Q.min; rw [h, if_neg g]; rfl
      rw [e]; clear e
      rw [hfl] at g
      skip
      rw [hc] at g
      clear hfl
      go_enter Tryz.func42, Tryz.ntmps42
      go_wp2_with fail
      refine (rboth_any _ _ _ _ _).mono ?_
      rintro e w1 ⟨rfl, hb1⟩
      obtain ⟨hc1, hf1, hz1, hB1⟩ := after (a := w) (B := w.heap.size) (w.heap.size + 3) hb1 (by first | (with_reducible assumption) | (simp; done) | omega | (simp; omega)) bl (by omega)
      rw [h]
      go_wp2_with fail
      refine (rcmp_any _ _ _ _ _).mono ?_
      rintro e w2 ⟨rfl, hb2⟩
      obtain ⟨hc2, hf2, hz2, hB2⟩ := after (a := w) (B := w.heap.size) (w.heap.size + 3) hb2 (by first | (with_reducible assumption) | (simp; done) | omega | (simp; omega)) bl (by omega)
      rw [hc]
      go_wp2
      exact bodyPost_ret (v := .agg #[.int .i64 an, .int .i64 ad]) (by simp [results, Tryz.results42, go_sem, hc2, hc1]) rfl ⟨rfl, bl⟩

set_option maxHeartbeats 800000 in
theorem rmax_any (an ad bn bd : Int) (w : World) :
    Calls Tryz.prog 43 #[.agg #[.int .i64 an, .int .i64 ad], .agg #[.int .i64 bn, .int .i64 bd]] w fun e w' => e = .returned (.agg #[.int .i64 (Q.max (an, ad) (bn, bd)).1, .int .i64 (Q.max (an, ad) (bn, bd)).2]) ∧ Below w.heap.size w w' := by
  cases h : Q.both (an, ad) (bn, bd)
  · have e : Q.max (an, ad) (bn, bd) = (0, 0) := by unfold Q.max; rw [h]; rfl
    rw [e]; clear e
    go_enter Tryz.func43, Tryz.ntmps43
    go_wp2_with fail
    refine (rboth_any _ _ _ _ _).mono ?_
    rintro e w1 ⟨rfl, hb1⟩
    obtain ⟨hc1, hf1, hz1, hB1⟩ := after (a := w) (B := w.heap.size) (w.heap.size + 3) hb1 (by first | (with_reducible assumption) | (simp; done) | omega | (simp; omega)) bl (by omega)
    rw [h]
    go_wp2_with fail
    refine (rnone_any _).mono ?_
    rintro e w2 ⟨rfl, hb2⟩
    obtain ⟨hc2, hf2, hz2, hB2⟩ := after (a := w) (B := w.heap.size) (w.heap.size + 3) hb2 (by first | (with_reducible assumption) | (simp; done) | omega | (simp; omega)) bl (by omega)
    go_wp2
    exact bodyPost_ret (v := .agg #[.int .i64 0, .int .i64 0]) (by simp [results, Tryz.results43, go_sem, hc2, hc1]) rfl ⟨rfl, bl⟩
  · have hfl := Q.cmp_flip (an, ad) (bn, bd)
    obtain ⟨c, hc⟩ : ∃ c, Q.cmp (an, ad) (bn, bd) = c := ⟨_, rfl⟩
    by_cases g : 0 < Q.cmp (bn, bd) (an, ad)
    · have e : Q.max (an, ad) (bn, bd) = (bn, bd) := by unfold Q.max; rw [h, if_pos g]; rfl
      rw [e]; clear e
      rw [hfl] at g
      skip
      rw [hc] at g
      clear hfl
      go_enter Tryz.func43, Tryz.ntmps43
      go_wp2_with fail
      refine (rboth_any _ _ _ _ _).mono ?_
      rintro e w1 ⟨rfl, hb1⟩
      obtain ⟨hc1, hf1, hz1, hB1⟩ := after (a := w) (B := w.heap.size) (w.heap.size + 3) hb1 (by first | (with_reducible assumption) | (simp; done) | omega | (simp; omega)) bl (by omega)
      rw [h]
      go_wp2_with fail
      refine (rcmp_any _ _ _ _ _).mono ?_
      rintro e w2 ⟨rfl, hb2⟩
      obtain ⟨hc2, hf2, hz2, hB2⟩ := after (a := w) (B := w.heap.size) (w.heap.size + 3) hb2 (by first | (with_reducible assumption) | (simp; done) | omega | (simp; omega)) bl (by omega)
      rw [hc]
      go_wp2
      exact bodyPost_ret (v := .agg #[.int .i64 bn, .int .i64 bd]) (by simp [results, Tryz.results43, go_sem, hc2, hc1]) rfl ⟨rfl, bl⟩
    · have e : Q.max (an, ad) (bn, bd) = (an, ad) := by unfold Q.max; rw [h, if_neg g]; rfl
      rw [e]; clear e
      rw [hfl] at g
      skip
      rw [hc] at g
      clear hfl
      go_enter Tryz.func43, Tryz.ntmps43
      go_wp2_with fail
      refine (rboth_any _ _ _ _ _).mono ?_
      rintro e w1 ⟨rfl, hb1⟩
      obtain ⟨hc1, hf1, hz1, hB1⟩ := after (a := w) (B := w.heap.size) (w.heap.size + 3) hb1 (by first | (with_reducible assumption) | (simp; done) | omega | (simp; omega)) bl (by omega)
      rw [h]
      go_wp2_with fail
      refine (rcmp_any _ _ _ _ _).mono ?_
      rintro e w2 ⟨rfl, hb2⟩
      obtain ⟨hc2, hf2, hz2, hB2⟩ := after (a := w) (B := w.heap.size) (w.heap.size + 3) hb2 (by first | (with_reducible assumption) | (simp; done) | omega | (simp; omega)) bl (by omega)
      rw [hc]
      go_wp2
      exact bodyPost_ret (v := .agg #[.int .i64 an, .int .i64 ad]) (by simp [results, Tryz.results43, go_sem, hc2, hc1]) rfl ⟨rfl, bl⟩

end Go.Proofs.YtiiddikiaafanaaGreatDoor.R
