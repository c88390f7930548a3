import Derived.Test.YtiiddikiaafanaaGreatDoorOpsb
set_option linter.all false
/-
  Round, Frac, Abs, Mod, Valid, Clean and the specification's own: what each call gives.
-/
namespace Go.Proofs.YtiiddikiaafanaaGreatDoor.R
open Go.Proofs.YtiiddikiaafanaaGreatDoor
open Go.RowKit

set_option maxRecDepth 100000 in
set_option maxHeartbeats 800000 in
theorem round_any (an ad : Int) (w : World) :
    Calls Tryz.prog 102 #[.agg #[.int .i64 an, .int .i64 ad]] w fun e w' => e = .returned (.agg #[.int .i64 (Q.round (an, ad)).1, .int .i64 (Q.round (an, ad)).2]) ∧ Below w.heap.size w w' := by
  cases h : Q.isq an ad
  · have e : Q.round (an, ad) = (0, 0) := by unfold Q.round; rw [h]; rfl
    rw [e]; clear e
    go_enter Tryz.func102, Tryz.ntmps102
    go_wp2_with fail
    refine (is_any _ _ _).mono ?_
    rintro e w1 ⟨rfl, hb1⟩
    obtain ⟨hc1, hf1, hz1, hB1⟩ := after (a := w) (B := w.heap.size) (w.heap.size + 2) hb1 (by first | (with_reducible assumption) | (simp; done) | omega | (simp; omega)) bl (by omega)
    rw [h]
    go_wp2
    exact bodyPost_ret (v := .agg #[.int .i64 0, .int .i64 0]) (by simp [results, Tryz.results102, go_sem, hc1]) rfl ⟨rfl, bl⟩
  · have hq := (Q.isq_iff _ _).1 h
    obtain ⟨hq1, hq2, hq3, hq4, hq5⟩ := hq
    clear hq5
    have hb := Q.div_bd an ad 1073741824 (by omega) (by omega)
    have hm1 := Int.emod_nonneg an (show ad ≠ 0 by omega)
    have hm2 := Int.emod_lt_of_pos an (show 0 < ad by omega)
    have hm3 := Int.mul_ediv_add_emod an ad
    have hkb := Q.mul_bd (an / ad) ad (by omega) (by omega)
    have e : Q.round (an, ad) = Q.mk (Q.up an ad) 1 := by unfold Q.round; rw [h]; rfl
    have eu : Q.up an ad = if ad < 2 * (an % ad) ∨ (2 * (an % ad) = ad ∧ (an / ad).tmod 2 ≠ 0) then an / ad + 1 else an / ad := rfl
    have e2 := (Q.dqr an ad (by omega))
    rw [Int.mul_comm] at hm3
    generalize an / ad = k at *
    generalize an % ad = m at *
    rw [e]; clear e
    have E2 := Lib.hid e2
    clear e2
    have HM : an - k * ad = m := by omega
    have EU := Lib.hid eu
    clear eu hm3
    by_cases g1 : ad < 2 * m
    · have t1 : decide (ad < 2 * m) = true := by simp; omega
      have ev : Q.up an ad = k + 1 := by rw [EU.out]; first | rw [if_pos (by first | exact Or.inl g1 | exact Or.inr ⟨g2, g3⟩)] | (rw [if_neg (by rintro (h1 | ⟨h1, h2⟩) <;> first | omega | exact g3 h2 | exact g2 h1)])
      obtain ⟨r, s, hr⟩ : ∃ r s, Hid (Q.mk (k + 1) 1 = (r, s)) := ⟨_, _, rfl⟩
      rw [ev, hr.out]; clear ev
      go_enter Tryz.func102, Tryz.ntmps102
      go_wp2_with fail
      refine (is_any _ _ _).mono ?_
      rintro e w1 ⟨rfl, hb1⟩
      obtain ⟨hc1, hf1, hz1, hB1⟩ := after (a := w) (B := w.heap.size) (w.heap.size + 2) hb1 (by first | (with_reducible assumption) | (simp; done) | omega | (simp; omega)) bl (by omega)
      rw [h]
      go_wp2_with fail
      refine (divide_any _ _ (by omega) (by omega) (Lib.hid (by omega)) _).mono ?_
      rintro e w2 ⟨rfl, hb2⟩
      obtain ⟨hc2, hf2, hz2, hB2⟩ := after (a := w) (B := w.heap.size) (w.heap.size + 2) hb2 (by first | (with_reducible assumption) | (simp; done) | omega | (simp; omega)) bl (by omega)
      rw [E2.out.1, E2.out.2]
      go_wp2_with fail
      refine (whole_any _ (by omega) _).mono ?_
      rintro e w3 ⟨rfl, hb3⟩
      obtain ⟨hc3, hf3, hz3, hB3⟩ := after (a := w) (B := w.heap.size) (w.heap.size + 2) hb3 (by first | (with_reducible assumption) | (simp; done) | omega | (simp; omega)) bl (by omega)
      rw [hr.out]
      go_wp2
      exact bodyPost_ret (v := .agg #[.int .i64 r, .int .i64 s]) (by simp [results, Tryz.results102, go_sem, hc3, hc2, hc1]) rfl ⟨rfl, bl⟩
    · by_cases g2 : 2 * m = ad
      · by_cases g3 : k.tmod 2 ≠ 0
        · have t1 : decide (ad < 2 * m) = false := by simp; omega
          have t2 : (2 * m == ad) = true := by rw [beq_iff_eq]; exact g2
          have t3 : (k.tmod 2 != 0) = true := by rw [bne_iff_ne]; exact g3
          have ev : Q.up an ad = k + 1 := by rw [EU.out]; first | rw [if_pos (by first | exact Or.inl g1 | exact Or.inr ⟨g2, g3⟩)] | (rw [if_neg (by rintro (h1 | ⟨h1, h2⟩) <;> first | omega | exact g3 h2 | exact g2 h1)])
          obtain ⟨r, s, hr⟩ : ∃ r s, Hid (Q.mk (k + 1) 1 = (r, s)) := ⟨_, _, rfl⟩
          rw [ev, hr.out]; clear ev
          go_enter Tryz.func102, Tryz.ntmps102
          go_wp2_with fail
          refine (is_any _ _ _).mono ?_
          rintro e w1 ⟨rfl, hb1⟩
          obtain ⟨hc1, hf1, hz1, hB1⟩ := after (a := w) (B := w.heap.size) (w.heap.size + 2) hb1 (by first | (with_reducible assumption) | (simp; done) | omega | (simp; omega)) bl (by omega)
          rw [h]
          go_wp2_with fail
          refine (divide_any _ _ (by omega) (by omega) (Lib.hid (by omega)) _).mono ?_
          rintro e w2 ⟨rfl, hb2⟩
          obtain ⟨hc2, hf2, hz2, hB2⟩ := after (a := w) (B := w.heap.size) (w.heap.size + 2) hb2 (by first | (with_reducible assumption) | (simp; done) | omega | (simp; omega)) bl (by omega)
          rw [E2.out.1, E2.out.2]
          go_wp2_with fail
          refine (whole_any _ (by omega) _).mono ?_
          rintro e w3 ⟨rfl, hb3⟩
          obtain ⟨hc3, hf3, hz3, hB3⟩ := after (a := w) (B := w.heap.size) (w.heap.size + 2) hb3 (by first | (with_reducible assumption) | (simp; done) | omega | (simp; omega)) bl (by omega)
          rw [hr.out]
          go_wp2
          exact bodyPost_ret (v := .agg #[.int .i64 r, .int .i64 s]) (by simp [results, Tryz.results102, go_sem, hc3, hc2, hc1]) rfl ⟨rfl, bl⟩
        · have t1 : decide (ad < 2 * m) = false := by simp; omega
          have t2 : (2 * m == ad) = true := by rw [beq_iff_eq]; exact g2
          have t3 : (k.tmod 2 != 0) = false := by rw [bne_eq_false_iff_eq]; exact Classical.not_not.1 g3
          have ev : Q.up an ad = k := by rw [EU.out]; first | rw [if_pos (by first | exact Or.inl g1 | exact Or.inr ⟨g2, g3⟩)] | (rw [if_neg (by rintro (h1 | ⟨h1, h2⟩) <;> first | omega | exact g3 h2 | exact g2 h1)])
          obtain ⟨r, s, hr⟩ : ∃ r s, Hid (Q.mk (k) 1 = (r, s)) := ⟨_, _, rfl⟩
          rw [ev, hr.out]; clear ev
          go_enter Tryz.func102, Tryz.ntmps102
          go_wp2_with fail
          refine (is_any _ _ _).mono ?_
          rintro e w1 ⟨rfl, hb1⟩
          obtain ⟨hc1, hf1, hz1, hB1⟩ := after (a := w) (B := w.heap.size) (w.heap.size + 2) hb1 (by first | (with_reducible assumption) | (simp; done) | omega | (simp; omega)) bl (by omega)
          rw [h]
          go_wp2_with fail
          refine (divide_any _ _ (by omega) (by omega) (Lib.hid (by omega)) _).mono ?_
          rintro e w2 ⟨rfl, hb2⟩
          obtain ⟨hc2, hf2, hz2, hB2⟩ := after (a := w) (B := w.heap.size) (w.heap.size + 2) hb2 (by first | (with_reducible assumption) | (simp; done) | omega | (simp; omega)) bl (by omega)
          rw [E2.out.1, E2.out.2]
          go_wp2_with fail
          refine (whole_any _ (by omega) _).mono ?_
          rintro e w3 ⟨rfl, hb3⟩
          obtain ⟨hc3, hf3, hz3, hB3⟩ := after (a := w) (B := w.heap.size) (w.heap.size + 2) hb3 (by first | (with_reducible assumption) | (simp; done) | omega | (simp; omega)) bl (by omega)
          rw [hr.out]
          go_wp2
          exact bodyPost_ret (v := .agg #[.int .i64 r, .int .i64 s]) (by simp [results, Tryz.results102, go_sem, hc3, hc2, hc1]) rfl ⟨rfl, bl⟩
      · have g3 : True := trivial
        have t1 : decide (ad < 2 * m) = false := by simp; omega
        have t2 : (2 * m == ad) = false := by rw [beq_eq_false_iff_ne]; exact g2
        have ev : Q.up an ad = k := by rw [EU.out]; first | rw [if_pos (by first | exact Or.inl g1 | exact Or.inr ⟨g2, g3⟩)] | (rw [if_neg (by rintro (h1 | ⟨h1, h2⟩) <;> first | omega | exact g3 h2 | exact g2 h1)])
        obtain ⟨r, s, hr⟩ : ∃ r s, Hid (Q.mk (k) 1 = (r, s)) := ⟨_, _, rfl⟩
        rw [ev, hr.out]; clear ev
        go_enter Tryz.func102, Tryz.ntmps102
        go_wp2_with fail
        refine (is_any _ _ _).mono ?_
        rintro e w1 ⟨rfl, hb1⟩
        obtain ⟨hc1, hf1, hz1, hB1⟩ := after (a := w) (B := w.heap.size) (w.heap.size + 2) hb1 (by first | (with_reducible assumption) | (simp; done) | omega | (simp; omega)) bl (by omega)
        rw [h]
        go_wp2_with fail
        refine (divide_any _ _ (by omega) (by omega) (Lib.hid (by omega)) _).mono ?_
        rintro e w2 ⟨rfl, hb2⟩
        obtain ⟨hc2, hf2, hz2, hB2⟩ := after (a := w) (B := w.heap.size) (w.heap.size + 2) hb2 (by first | (with_reducible assumption) | (simp; done) | omega | (simp; omega)) bl (by omega)
        rw [E2.out.1, E2.out.2]
        go_wp2_with fail
        refine (whole_any _ (by omega) _).mono ?_
        rintro e w3 ⟨rfl, hb3⟩
        obtain ⟨hc3, hf3, hz3, hB3⟩ := after (a := w) (B := w.heap.size) (w.heap.size + 2) hb3 (by first | (with_reducible assumption) | (simp; done) | omega | (simp; omega)) bl (by omega)
        rw [hr.out]
        go_wp2
        exact bodyPost_ret (v := .agg #[.int .i64 r, .int .i64 s]) (by simp [results, Tryz.results102, go_sem, hc3, hc2, hc1]) rfl ⟨rfl, bl⟩

set_option maxRecDepth 100000 in
set_option maxHeartbeats 800000 in
theorem rround_any (an ad : Int) (w : World) :
    Calls Tryz.prog 35 #[.agg #[.int .i64 an, .int .i64 ad]] w fun e w' => e = .returned (.agg #[.int .i64 (Q.round (an, ad)).1, .int .i64 (Q.round (an, ad)).2]) ∧ Below w.heap.size w w' := by
  cases h : Q.isq an ad
  · have e : Q.round (an, ad) = (0, 0) := by unfold Q.round; rw [h]; rfl
    rw [e]; clear e
    go_enter Tryz.func35, Tryz.ntmps35
    go_wp2_with fail
    refine (ris_any _ _ _).mono ?_
    rintro e w1 ⟨rfl, hb1⟩
    obtain ⟨hc1, hf1, hz1, hB1⟩ := after (a := w) (B := w.heap.size) (w.heap.size + 2) hb1 (by first | (with_reducible assumption) | (simp; done) | omega | (simp; omega)) bl (by omega)
    rw [h]
    go_wp2_with fail
    refine (rnone_any _).mono ?_
    rintro e w2 ⟨rfl, hb2⟩
    obtain ⟨hc2, hf2, hz2, hB2⟩ := after (a := w) (B := w.heap.size) (w.heap.size + 2) hb2 (by first | (with_reducible assumption) | (simp; done) | omega | (simp; omega)) bl (by omega)
    go_wp2
    exact bodyPost_ret (v := .agg #[.int .i64 0, .int .i64 0]) (by simp [results, Tryz.results35, go_sem, hc2, hc1]) rfl ⟨rfl, bl⟩
  · have hq := (Q.isq_iff _ _).1 h
    obtain ⟨hq1, hq2, hq3, hq4, hq5⟩ := hq
    clear hq5
    have hb := Q.div_bd an ad 1073741824 (by omega) (by omega)
    have hm1 := Int.emod_nonneg an (show ad ≠ 0 by omega)
    have hm2 := Int.emod_lt_of_pos an (show 0 < ad by omega)
    have hm3 := Int.mul_ediv_add_emod an ad
    have hkb := Q.mul_bd (an / ad) ad (by omega) (by omega)
    have e : Q.round (an, ad) = Q.mk (Q.up an ad) 1 := by unfold Q.round; rw [h]; rfl
    have eu : Q.up an ad = if ad < 2 * (an % ad) ∨ (2 * (an % ad) = ad ∧ (an / ad).tmod 2 ≠ 0) then an / ad + 1 else an / ad := rfl
    have e2 := (Q.dqr an ad (by omega))
    rw [Int.mul_comm] at hm3
    generalize hk : an / ad = k at *
    have hK := Lib.hid hk
    clear hk
    generalize an % ad = m at *
    rw [e]; clear e
    skip
    clear e2
    have HM : an - k * ad = m := by omega
    have EU := Lib.hid eu
    clear eu hm3
    by_cases g1 : ad < 2 * m
    · have t1 : decide (ad < 2 * m) = true := by simp; omega
      have ev : Q.up an ad = k + 1 := by rw [EU.out]; first | rw [if_pos (by first | exact Or.inl g1 | exact Or.inr ⟨g2, g3⟩)] | (rw [if_neg (by rintro (h1 | ⟨h1, h2⟩) <;> first | omega | exact g3 h2 | exact g2 h1)])
      obtain ⟨r, s, hr⟩ : ∃ r s, Hid (Q.mk (k + 1) 1 = (r, s)) := ⟨_, _, rfl⟩
      rw [ev, hr.out]; clear ev
      go_enter Tryz.func35, Tryz.ntmps35
      go_wp2_with fail
      refine (ris_any _ _ _).mono ?_
      rintro e w1 ⟨rfl, hb1⟩
      obtain ⟨hc1, hf1, hz1, hB1⟩ := after (a := w) (B := w.heap.size) (w.heap.size + 2) hb1 (by first | (with_reducible assumption) | (simp; done) | omega | (simp; omega)) bl (by omega)
      rw [h]
      skip
      go_wp2_with fail
      refine (floordiv_any _ _ (by omega) (by omega) _).mono ?_
      rintro e w2 ⟨rfl, rfl⟩
      rw [hK.out]
      go_wp2_with fail
      refine (rwhole_any _ (by omega) _).mono ?_
      rintro e w3 ⟨rfl, hb3⟩
      obtain ⟨hc3, hf3, hz3, hB3⟩ := after (a := w) (B := w.heap.size) (w.heap.size + 2) hb3 (by first | (with_reducible assumption) | (simp; done) | omega | (simp; omega)) bl (by omega)
      rw [hr.out]
      go_wp2
      exact bodyPost_ret (v := .agg #[.int .i64 r, .int .i64 s]) (by simp [results, Tryz.results35, go_sem, hc3, hc1]) rfl ⟨rfl, bl⟩
    · by_cases g2 : 2 * m = ad
      · by_cases g3 : k.tmod 2 ≠ 0
        · have t1 : decide (ad < 2 * m) = false := by simp; omega
          have t2 : (2 * m == ad) = true := by rw [beq_iff_eq]; exact g2
          have t3 : (k.tmod 2 != 0) = true := by rw [bne_iff_ne]; exact g3
          have ev : Q.up an ad = k + 1 := by rw [EU.out]; first | rw [if_pos (by first | exact Or.inl g1 | exact Or.inr ⟨g2, g3⟩)] | (rw [if_neg (by rintro (h1 | ⟨h1, h2⟩) <;> first | omega | exact g3 h2 | exact g2 h1)])
          obtain ⟨r, s, hr⟩ : ∃ r s, Hid (Q.mk (k + 1) 1 = (r, s)) := ⟨_, _, rfl⟩
          rw [ev, hr.out]; clear ev
          go_enter Tryz.func35, Tryz.ntmps35
          go_wp2_with fail
          refine (ris_any _ _ _).mono ?_
          rintro e w1 ⟨rfl, hb1⟩
          obtain ⟨hc1, hf1, hz1, hB1⟩ := after (a := w) (B := w.heap.size) (w.heap.size + 2) hb1 (by first | (with_reducible assumption) | (simp; done) | omega | (simp; omega)) bl (by omega)
          rw [h]
          skip
          go_wp2_with fail
          refine (floordiv_any _ _ (by omega) (by omega) _).mono ?_
          rintro e w2 ⟨rfl, rfl⟩
          rw [hK.out]
          go_wp2_with fail
          refine (rwhole_any _ (by omega) _).mono ?_
          rintro e w3 ⟨rfl, hb3⟩
          obtain ⟨hc3, hf3, hz3, hB3⟩ := after (a := w) (B := w.heap.size) (w.heap.size + 2) hb3 (by first | (with_reducible assumption) | (simp; done) | omega | (simp; omega)) bl (by omega)
          rw [hr.out]
          go_wp2
          exact bodyPost_ret (v := .agg #[.int .i64 r, .int .i64 s]) (by simp [results, Tryz.results35, go_sem, hc3, hc1]) rfl ⟨rfl, bl⟩
        · have t1 : decide (ad < 2 * m) = false := by simp; omega
          have t2 : (2 * m == ad) = true := by rw [beq_iff_eq]; exact g2
          have t3 : (k.tmod 2 != 0) = false := by rw [bne_eq_false_iff_eq]; exact Classical.not_not.1 g3
          have ev : Q.up an ad = k := by rw [EU.out]; first | rw [if_pos (by first | exact Or.inl g1 | exact Or.inr ⟨g2, g3⟩)] | (rw [if_neg (by rintro (h1 | ⟨h1, h2⟩) <;> first | omega | exact g3 h2 | exact g2 h1)])
          obtain ⟨r, s, hr⟩ : ∃ r s, Hid (Q.mk (k) 1 = (r, s)) := ⟨_, _, rfl⟩
          rw [ev, hr.out]; clear ev
          go_enter Tryz.func35, Tryz.ntmps35
          go_wp2_with fail
          refine (ris_any _ _ _).mono ?_
          rintro e w1 ⟨rfl, hb1⟩
          obtain ⟨hc1, hf1, hz1, hB1⟩ := after (a := w) (B := w.heap.size) (w.heap.size + 2) hb1 (by first | (with_reducible assumption) | (simp; done) | omega | (simp; omega)) bl (by omega)
          rw [h]
          skip
          go_wp2_with fail
          refine (floordiv_any _ _ (by omega) (by omega) _).mono ?_
          rintro e w2 ⟨rfl, rfl⟩
          rw [hK.out]
          go_wp2_with fail
          refine (rwhole_any _ (by omega) _).mono ?_
          rintro e w3 ⟨rfl, hb3⟩
          obtain ⟨hc3, hf3, hz3, hB3⟩ := after (a := w) (B := w.heap.size) (w.heap.size + 2) hb3 (by first | (with_reducible assumption) | (simp; done) | omega | (simp; omega)) bl (by omega)
          rw [hr.out]
          go_wp2
          exact bodyPost_ret (v := .agg #[.int .i64 r, .int .i64 s]) (by simp [results, Tryz.results35, go_sem, hc3, hc1]) rfl ⟨rfl, bl⟩
      · have g3 : True := trivial
        have t1 : decide (ad < 2 * m) = false := by simp; omega
        have t2 : (2 * m == ad) = false := by rw [beq_eq_false_iff_ne]; exact g2
        have ev : Q.up an ad = k := by rw [EU.out]; first | rw [if_pos (by first | exact Or.inl g1 | exact Or.inr ⟨g2, g3⟩)] | (rw [if_neg (by rintro (h1 | ⟨h1, h2⟩) <;> first | omega | exact g3 h2 | exact g2 h1)])
        obtain ⟨r, s, hr⟩ : ∃ r s, Hid (Q.mk (k) 1 = (r, s)) := ⟨_, _, rfl⟩
        rw [ev, hr.out]; clear ev
        go_enter Tryz.func35, Tryz.ntmps35
        go_wp2_with fail
        refine (ris_any _ _ _).mono ?_
        rintro e w1 ⟨rfl, hb1⟩
        obtain ⟨hc1, hf1, hz1, hB1⟩ := after (a := w) (B := w.heap.size) (w.heap.size + 2) hb1 (by first | (with_reducible assumption) | (simp; done) | omega | (simp; omega)) bl (by omega)
        rw [h]
        skip
        go_wp2_with fail
        refine (floordiv_any _ _ (by omega) (by omega) _).mono ?_
        rintro e w2 ⟨rfl, rfl⟩
        rw [hK.out]
        go_wp2_with fail
        refine (rwhole_any _ (by omega) _).mono ?_
        rintro e w3 ⟨rfl, hb3⟩
        obtain ⟨hc3, hf3, hz3, hB3⟩ := after (a := w) (B := w.heap.size) (w.heap.size + 2) hb3 (by first | (with_reducible assumption) | (simp; done) | omega | (simp; omega)) bl (by omega)
        rw [hr.out]
        go_wp2
        exact bodyPost_ret (v := .agg #[.int .i64 r, .int .i64 s]) (by simp [results, Tryz.results35, go_sem, hc3, hc1]) rfl ⟨rfl, bl⟩

set_option maxRecDepth 100000 in
set_option maxHeartbeats 400000 in
theorem rclean_any (an ad : Int) (w : World) :
    Calls Tryz.prog 6 #[.agg #[.int .i64 an, .int .i64 ad]] w fun e w' => e = .returned (.agg #[.int .i64 (Q.clean (an, ad)).1, .int .i64 (Q.clean (an, ad)).2]) ∧ Below w.heap.size w w' := by
  cases h : Q.isq an ad
  · have e : Q.clean (an, ad) = (0, 0) := by unfold Q.clean; rw [h]; rfl
    rw [e]; clear e
    go_enter Tryz.func6, Tryz.ntmps6
    go_wp2_with fail
    refine (ris_any _ _ _).mono ?_
    rintro e w1 ⟨rfl, hb1⟩
    obtain ⟨hc1, hf1, hz1, hB1⟩ := after (a := w) (B := w.heap.size) (w.heap.size + 2) hb1 (by first | (with_reducible assumption) | (simp; done) | omega | (simp; omega)) bl (by omega)
    rw [h]
    go_wp2_with fail
    refine (rnone_any _).mono ?_
    rintro e w2 ⟨rfl, hb2⟩
    obtain ⟨hc2, hf2, hz2, hB2⟩ := after (a := w) (B := w.heap.size) (w.heap.size + 2) hb2 (by first | (with_reducible assumption) | (simp; done) | omega | (simp; omega)) bl (by omega)
    go_wp2
    exact bodyPost_ret (v := .agg #[.int .i64 0, .int .i64 0]) (by simp [results, Tryz.results6, go_sem, hc2, hc1]) rfl ⟨rfl, bl⟩
  · have e : Q.clean (an, ad) = (an, ad) := by unfold Q.clean; rw [h]; rfl
    rw [e]; clear e
    go_enter Tryz.func6, Tryz.ntmps6
    go_wp2_with fail
    refine (ris_any _ _ _).mono ?_
    rintro e w1 ⟨rfl, hb1⟩
    obtain ⟨hc1, hf1, hz1, hB1⟩ := after (a := w) (B := w.heap.size) (w.heap.size + 2) hb1 (by first | (with_reducible assumption) | (simp; done) | omega | (simp; omega)) bl (by omega)
    rw [h]
    go_wp2
    exact bodyPost_ret (v := .agg #[.int .i64 an, .int .i64 ad]) (by simp [results, Tryz.results6, go_sem, hc1]) rfl ⟨rfl, bl⟩

set_option maxRecDepth 100000 in
set_option maxHeartbeats 800000 in
theorem rabs_any (an ad : Int) (w : World) :
    Calls Tryz.prog 33 #[.agg #[.int .i64 an, .int .i64 ad]] w fun e w' => e = .returned (.agg #[.int .i64 (Q.abs (an, ad)).1, .int .i64 (Q.abs (an, ad)).2]) ∧ Below w.heap.size w w' := by
  cases h : Q.isq an ad
  · have e : Q.abs (an, ad) = (0, 0) := by unfold Q.abs; rw [h]; rfl
    have e2 : Q.clean (an, ad) = (0, 0) := by unfold Q.clean; rw [h]; rfl
    rw [e]; clear e
    have E2 := Lib.hid e2
    clear e2
    go_enter Tryz.func33, Tryz.ntmps33
    go_wp2_with fail
    refine (ris_any _ _ _).mono ?_
    rintro e w1 ⟨rfl, hb1⟩
    obtain ⟨hc1, hf1, hz1, hB1⟩ := after (a := w) (B := w.heap.size) (w.heap.size + 2) hb1 (by first | (with_reducible assumption) | (simp; done) | omega | (simp; omega)) bl (by omega)
    rw [h]
    go_wp2_with fail
    refine (rclean_any _ _ _).mono ?_
    rintro e w2 ⟨rfl, hb2⟩
    obtain ⟨hc2, hf2, hz2, hB2⟩ := after (a := w) (B := w.heap.size) (w.heap.size + 2) hb2 (by first | (with_reducible assumption) | (simp; done) | omega | (simp; omega)) bl (by omega)
    rw [E2.out]
    go_wp2
    exact bodyPost_ret (v := .agg #[.int .i64 0, .int .i64 0]) (by simp [results, Tryz.results33, go_sem, hc2, hc1]) rfl ⟨rfl, bl⟩
  · by_cases g : an < 0
    · have e : Q.abs (an, ad) = (-an, ad) := by unfold Q.abs; rw [h, if_pos rfl, if_pos g]
      have e2 : Q.neg (an, ad) = (-an, ad) := by unfold Q.neg; rw [h]; rfl
      rw [e]; clear e
      have E2 := Lib.hid e2
      clear e2
      go_enter Tryz.func33, Tryz.ntmps33
      go_wp2_with fail
      refine (ris_any _ _ _).mono ?_
      rintro e w1 ⟨rfl, hb1⟩
      obtain ⟨hc1, hf1, hz1, hB1⟩ := after (a := w) (B := w.heap.size) (w.heap.size + 2) hb1 (by first | (with_reducible assumption) | (simp; done) | omega | (simp; omega)) bl (by omega)
      rw [h]
      go_wp2_with fail
      refine (rneg_any _ _ _).mono ?_
      rintro e w2 ⟨rfl, hb2⟩
      obtain ⟨hc2, hf2, hz2, hB2⟩ := after (a := w) (B := w.heap.size) (w.heap.size + 2) hb2 (by first | (with_reducible assumption) | (simp; done) | omega | (simp; omega)) bl (by omega)
      rw [E2.out]
      go_wp2
      exact bodyPost_ret (v := .agg #[.int .i64 (-an), .int .i64 ad]) (by simp [results, Tryz.results33, go_sem, hc2, hc1]) rfl ⟨rfl, bl⟩
    · have e : Q.abs (an, ad) = (an, ad) := by unfold Q.abs; rw [h, if_pos rfl, if_neg g]
      have e2 : Q.clean (an, ad) = (an, ad) := by unfold Q.clean; rw [h]; rfl
      rw [e]; clear e
      have E2 := Lib.hid e2
      clear e2
      go_enter Tryz.func33, Tryz.ntmps33
      go_wp2_with fail
      refine (ris_any _ _ _).mono ?_
      rintro e w1 ⟨rfl, hb1⟩
      obtain ⟨hc1, hf1, hz1, hB1⟩ := after (a := w) (B := w.heap.size) (w.heap.size + 2) hb1 (by first | (with_reducible assumption) | (simp; done) | omega | (simp; omega)) bl (by omega)
      rw [h]
      go_wp2_with fail
      refine (rclean_any _ _ _).mono ?_
      rintro e w2 ⟨rfl, hb2⟩
      obtain ⟨hc2, hf2, hz2, hB2⟩ := after (a := w) (B := w.heap.size) (w.heap.size + 2) hb2 (by first | (with_reducible assumption) | (simp; done) | omega | (simp; omega)) bl (by omega)
      rw [E2.out]
      go_wp2
      exact bodyPost_ret (v := .agg #[.int .i64 an, .int .i64 ad]) (by simp [results, Tryz.results33, go_sem, hc2, hc1]) rfl ⟨rfl, bl⟩

set_option maxRecDepth 100000 in
set_option maxHeartbeats 1600000 in
theorem abs_any (an ad : Int) (w : World) :
    Calls Tryz.prog 126 #[.agg #[.int .i64 an, .int .i64 ad]] w fun e w' => e = .returned (.agg #[.int .i64 (Q.abs (an, ad)).1, .int .i64 (Q.abs (an, ad)).2]) ∧ Below w.heap.size w w' := by
  obtain ⟨r, s, hr⟩ : ∃ r s, Hid (Q.abs (an, ad) = (r, s)) := ⟨_, _, rfl⟩
  rw [hr.out]
  obtain ⟨x, y, hx⟩ : ∃ x y, Hid (Q.neg (an, ad) = (x, y)) := ⟨_, _, rfl⟩
  have hxy : Hid (Q.max (an, ad) (x, y) = (r, s)) := by have := hr.out; unfold Hid; rw [← hx.out, ← this]; exact Q.max_neg _
  clear hr
  go_enter Tryz.func126, Tryz.ntmps126
  go_wp2
  go_region_held3 (fun w' => w'.cell? ⟨w.heap.size, 0, none⟩ = some (.int .i64 an) ∧ w'.cell? ⟨w.heap.size, 1, none⟩ = some (.int .i64 ad) ∧ w.heap.size + 2 ≤ w'.heap.size ∧ Below w.heap.size w w') (first | (refine ⟨?_, ?_, ?_, ?_⟩ <;> first | assumption | ((repeat' (first | (with_reducible exact Below.refl _ _) | (with_reducible assumption) | (with_reducible refine drewN_below ?_ _) | (with_reducible refine Below.drew ?_) | (with_reducible refine Below.alloc ?_ ?_ _) | (with_reducible refine Below.setCell ?_ ?_ _) | (simp; done) | omega | (simp; omega))); done) | (simp [*]; done) | (simp [go_sem, *]; done) | (simp; omega)) | (refine ⟨?_, ?_, ?_, ?_, ?_, ?_⟩ <;> first | assumption | ((repeat' (first | (with_reducible exact Below.refl _ _) | (with_reducible assumption) | (with_reducible refine drewN_below ?_ _) | (with_reducible refine Below.drew ?_) | (with_reducible refine Below.alloc ?_ ?_ _) | (with_reducible refine Below.setCell ?_ ?_ _) | (simp; done) | omega | (simp; omega))); done) | (simp [*]; done) | (simp [go_sem, *]; done) | (simp; omega))) (first | (go_at_call 64; refine (neg_any _ _ _).mono ?_; rintro e w1 ⟨rfl, hb1⟩; obtain ⟨hc1, hf1, hz1, hB1⟩ := after (a := w) (B := w.heap.size) (w.heap.size + 2) hb1 (by first | (with_reducible assumption) | (simp; done) | omega | (simp; omega)) bl (by omega); rw [hx.out]) | (go_at_call 97; refine (max_any _ _ _ _ _).mono ?_; rintro e w2 ⟨rfl, hb2⟩; obtain ⟨hc2, hf2, hz2, hB2⟩ := after (a := w) (B := w.heap.size) (w.heap.size + 2) hb2 (by first | (with_reducible assumption) | (simp; done) | omega | (simp; omega)) bl (by omega); rw [hxy.out]))
  go_wp2
  exact bodyPost_ret (v := .agg #[.int .i64 r, .int .i64 s]) (by simp [results, Tryz.results126, go_sem, hc2, hc1]) rfl ⟨rfl, bl⟩

set_option maxRecDepth 100000 in
set_option maxHeartbeats 1600000 in
theorem rsub_any (an ad bn bd : Int) (w : World) :
    Calls Tryz.prog 38 #[.agg #[.int .i64 an, .int .i64 ad], .agg #[.int .i64 bn, .int .i64 bd]] w fun e w' => e = .returned (.agg #[.int .i64 (Q.sub (an, ad) (bn, bd)).1, .int .i64 (Q.sub (an, ad) (bn, bd)).2]) ∧ Below w.heap.size w w' := by
  obtain ⟨r, s, hr⟩ : ∃ r s, Hid (Q.sub (an, ad) (bn, bd) = (r, s)) := ⟨_, _, rfl⟩
  rw [hr.out]
  obtain ⟨x, y, hx⟩ : ∃ x y, Hid (Q.neg (bn, bd) = (x, y)) := ⟨_, _, rfl⟩
  have hxy : Hid (Q.add (an, ad) (x, y) = (r, s)) := by have := hr.out; unfold Hid; rw [← hx.out, ← this]; exact Q.add_neg _ _
  clear hr
  go_enter Tryz.func38, Tryz.ntmps38
  go_wp2
  go_region_held3 (fun w' => w'.cell? ⟨w.heap.size, 0, none⟩ = some (.int .i64 an) ∧ w'.cell? ⟨w.heap.size, 1, none⟩ = some (.int .i64 ad) ∧ w'.cell? ⟨w.heap.size + 1, 0, none⟩ = some (.int .i64 bn) ∧ w'.cell? ⟨w.heap.size + 1, 1, none⟩ = some (.int .i64 bd) ∧ w.heap.size + 3 ≤ w'.heap.size ∧ Below w.heap.size w w') (first | (refine ⟨?_, ?_, ?_, ?_⟩ <;> first | assumption | ((repeat' (first | (with_reducible exact Below.refl _ _) | (with_reducible assumption) | (with_reducible refine drewN_below ?_ _) | (with_reducible refine Below.drew ?_) | (with_reducible refine Below.alloc ?_ ?_ _) | (with_reducible refine Below.setCell ?_ ?_ _) | (simp; done) | omega | (simp; omega))); done) | (simp [*]; done) | (simp [go_sem, *]; done) | (simp; omega)) | (refine ⟨?_, ?_, ?_, ?_, ?_, ?_⟩ <;> first | assumption | ((repeat' (first | (with_reducible exact Below.refl _ _) | (with_reducible assumption) | (with_reducible refine drewN_below ?_ _) | (with_reducible refine Below.drew ?_) | (with_reducible refine Below.alloc ?_ ?_ _) | (with_reducible refine Below.setCell ?_ ?_ _) | (simp; done) | omega | (simp; omega))); done) | (simp [*]; done) | (simp [go_sem, *]; done) | (simp; omega))) (first | (go_at_call 32; refine (rneg_any _ _ _).mono ?_; rintro e w1 ⟨rfl, hb1⟩; obtain ⟨hc1, hf1, hz1, hB1⟩ := after (a := w) (B := w.heap.size) (w.heap.size + 3) hb1 (by first | (with_reducible assumption) | (simp; done) | omega | (simp; omega)) bl (by omega); rw [hx.out]) | (go_at_call 37; refine (radd_any _ _ _ _ _).mono ?_; rintro e w2 ⟨rfl, hb2⟩; obtain ⟨hc2, hf2, hz2, hB2⟩ := after (a := w) (B := w.heap.size) (w.heap.size + 3) hb2 (by first | (with_reducible assumption) | (simp; done) | omega | (simp; omega)) bl (by omega); rw [hxy.out]))
  go_wp2
  exact bodyPost_ret (v := .agg #[.int .i64 r, .int .i64 s]) (by simp [results, Tryz.results38, go_sem, hc2, hc1]) rfl ⟨rfl, bl⟩

set_option maxRecDepth 100000 in
set_option maxHeartbeats 1600000 in
theorem rfrac_any (an ad : Int) (w : World) :
    Calls Tryz.prog 36 #[.agg #[.int .i64 an, .int .i64 ad]] w fun e w' => e = .returned (.agg #[.int .i64 (Q.frac (an, ad)).1, .int .i64 (Q.frac (an, ad)).2]) ∧ Below w.heap.size w w' := by
  obtain ⟨r, s, hr⟩ : ∃ r s, Hid (Q.frac (an, ad) = (r, s)) := ⟨_, _, rfl⟩
  rw [hr.out]
  obtain ⟨x, y, hx⟩ : ∃ x y, Hid (Q.floor (an, ad) = (x, y)) := ⟨_, _, rfl⟩
  have hxy : Hid (Q.sub (an, ad) (x, y) = (r, s)) := by have := hr.out; unfold Hid; rw [← hx.out, ← this]; rfl
  clear hr
  go_enter Tryz.func36, Tryz.ntmps36
  go_wp2
  go_region_held3 (fun w' => w'.cell? ⟨w.heap.size, 0, none⟩ = some (.int .i64 an) ∧ w'.cell? ⟨w.heap.size, 1, none⟩ = some (.int .i64 ad) ∧ w.heap.size + 2 ≤ w'.heap.size ∧ Below w.heap.size w w') (first | (refine ⟨?_, ?_, ?_, ?_⟩ <;> first | assumption | ((repeat' (first | (with_reducible exact Below.refl _ _) | (with_reducible assumption) | (with_reducible refine drewN_below ?_ _) | (with_reducible refine Below.drew ?_) | (with_reducible refine Below.alloc ?_ ?_ _) | (with_reducible refine Below.setCell ?_ ?_ _) | (simp; done) | omega | (simp; omega))); done) | (simp [*]; done) | (simp [go_sem, *]; done) | (simp; omega)) | (refine ⟨?_, ?_, ?_, ?_, ?_, ?_⟩ <;> first | assumption | ((repeat' (first | (with_reducible exact Below.refl _ _) | (with_reducible assumption) | (with_reducible refine drewN_below ?_ _) | (with_reducible refine Below.drew ?_) | (with_reducible refine Below.alloc ?_ ?_ _) | (with_reducible refine Below.setCell ?_ ?_ _) | (simp; done) | omega | (simp; omega))); done) | (simp [*]; done) | (simp [go_sem, *]; done) | (simp; omega))) (first | (go_at_call 34; refine (rfloor_any _ _ _).mono ?_; rintro e w1 ⟨rfl, hb1⟩; obtain ⟨hc1, hf1, hz1, hB1⟩ := after (a := w) (B := w.heap.size) (w.heap.size + 2) hb1 (by first | (with_reducible assumption) | (simp; done) | omega | (simp; omega)) bl (by omega); rw [hx.out]) | (go_at_call 38; refine (rsub_any _ _ _ _ _).mono ?_; rintro e w2 ⟨rfl, hb2⟩; obtain ⟨hc2, hf2, hz2, hB2⟩ := after (a := w) (B := w.heap.size) (w.heap.size + 2) hb2 (by first | (with_reducible assumption) | (simp; done) | omega | (simp; omega)) bl (by omega); rw [hxy.out]))
  go_wp2
  exact bodyPost_ret (v := .agg #[.int .i64 r, .int .i64 s]) (by simp [results, Tryz.results36, go_sem, hc2, hc1]) rfl ⟨rfl, bl⟩

end Go.Proofs.YtiiddikiaafanaaGreatDoor.R
