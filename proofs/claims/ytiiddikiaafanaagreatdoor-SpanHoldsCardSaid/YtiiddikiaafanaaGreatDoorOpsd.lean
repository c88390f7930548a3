import Derived.Test.YtiiddikiaafanaaGreatDoorOpsc
set_option linter.all false
/-
  Mod, Valid and the specification's own, and the laws' own awake: what each call gives.
-/
namespace Go.Proofs.YtiiddikiaafanaaGreatDoor.R
open Go.Proofs.YtiiddikiaafanaaGreatDoor
open Go.RowKit
theorem dr_bd (p d : Int) (hd : d ≠ 0) : (Q.dr p d).natAbs < d.natAbs := by
  have h := Q.tmod_lt p d hd
  unfold Q.dr Q.turn
  by_cases h0 : p.tmod d = 0
  · simp [h0]; omega
  · by_cases hn : p.tmod d < 0 <;> by_cases hd' : d < 0 <;> simp [h0, hn, hd'] <;> first | omega | exact Nat.mod_lt _ (by omega)

set_option maxRecDepth 100000 in
set_option maxHeartbeats 1600000 in
theorem rmod_any (an ad bn bd : Int) (w : World) :
    Calls Tryz.prog 41 #[.agg #[.int .i64 an, .int .i64 ad], .agg #[.int .i64 bn, .int .i64 bd]] w fun e w' => e = .returned (.agg #[.int .i64 (Q.mod (an, ad) (bn, bd)).1, .int .i64 (Q.mod (an, ad) (bn, bd)).2]) ∧ Below w.heap.size w w' := by
  cases h : Q.both (an, ad) (bn, bd)
  · have e : Q.mod (an, ad) (bn, bd) = (0, 0) := by unfold Q.mod; rw [h]; rfl
    rw [e]; clear e
    go_enter Tryz.func41, Tryz.ntmps41
    go_wp2_with fail
    refine (rboth_any _ _ _ _ _).mono ?_
    rintro e w1 ⟨rfl, hb1⟩
    obtain ⟨hc1, hf1, hz1, hB1⟩ := after (a := w) (B := w.heap.size) (w.heap.size + 3) hb1 (by first | (with_reducible assumption) | (simp; done) | omega | (simp; omega)) bl (by omega)
    rw [h]
    go_wp2_with fail
    refine (rnone_any _).mono ?_
    rintro e w2 ⟨rfl, hb2⟩
    obtain ⟨hc2, hf2, hz2, hB2⟩ := after (a := w) (B := w.heap.size) (w.heap.size + 3) hb2 (by first | (with_reducible assumption) | (simp; done) | omega | (simp; omega)) bl (by omega)
    go_wp2
    exact bodyPost_ret (v := .agg #[.int .i64 0, .int .i64 0]) (by simp [results, Tryz.results41, go_sem, hc2, hc1]) rfl ⟨rfl, bl⟩
  · by_cases h0 : bn = 0
    · subst h0
      have e : Q.mod (an, ad) (0, bd) = (0, 0) := by unfold Q.mod; rw [h]; rfl
      rw [e]; clear e
      go_enter Tryz.func41, Tryz.ntmps41
      go_wp2_with fail
      refine (rboth_any _ _ _ _ _).mono ?_
      rintro e w1 ⟨rfl, hb1⟩
      obtain ⟨hc1, hf1, hz1, hB1⟩ := after (a := w) (B := w.heap.size) (w.heap.size + 3) hb1 (by first | (with_reducible assumption) | (simp; done) | omega | (simp; omega)) bl (by omega)
      rw [h]
      go_wp2_with fail
      refine (rnone_any _).mono ?_
      rintro e w2 ⟨rfl, hb2⟩
      obtain ⟨hc2, hf2, hz2, hB2⟩ := after (a := w) (B := w.heap.size) (w.heap.size + 3) hb2 (by first | (with_reducible assumption) | (simp; done) | omega | (simp; omega)) bl (by omega)
      go_wp2
      exact bodyPost_ret (v := .agg #[.int .i64 0, .int .i64 0]) (by simp [results, Tryz.results41, go_sem, hc2, hc1]) rfl ⟨rfl, bl⟩
    · have b0 : (bn == 0) = false := by rw [beq_eq_false_iff_ne]; exact h0
      have e : Q.mod (an, ad) (bn, bd) = Q.mk (Q.dr (an * bd) (bn * ad)) (ad * bd) := by unfold Q.mod; rw [h, if_pos (by simp [h0])]
      obtain ⟨x1, x2, x3, x4, x5, x6, x7, x8, x9⟩ := Q.bd_of h
      have hq0 : bn * ad ≠ 0 := Int.mul_ne_zero h0 (by omega)
      have hdb := dr_bd (an * bd) (bn * ad) hq0
      have hdr : -1152921504606846976 ≤ Q.dr (an * bd) (bn * ad) ∧ Q.dr (an * bd) (bn * ad) ≤ 1152921504606846976 := by omega
      clear hdb
      obtain ⟨m, hm⟩ : ∃ m, Q.dr (an * bd) (bn * ad) = m := ⟨_, rfl⟩
      rw [hm] at hdr e
      have HM := Lib.hid hm
      clear hm
      obtain ⟨r, s, hr⟩ : ∃ r s, Hid (Q.mk m (ad * bd) = (r, s)) := ⟨_, _, rfl⟩
      rw [e, hr.out]; clear e h0
      have HQ0 := Lib.hid hq0
      clear hq0
      have eq2 : Hid (Q.dr (an * bd) (bn * ad) = if (((an * bd).tmod (bn * ad) != 0) && (decide ((an * bd).tmod (bn * ad) < 0) != decide (bn * ad < 0))) = true then (an * bd).tmod (bn * ad) + bn * ad else (an * bd).tmod (bn * ad)) := rfl
      have hrt := Q.tmod_lt (an * bd) (bn * ad) HQ0.out
      have d0 : (bn * ad == 0) = false := by rw [beq_eq_false_iff_ne]; exact HQ0.out
      have d00 : ¬ bn * ad = 0 := HQ0.out
      obtain ⟨t, ht⟩ : ∃ t, (an * bd).tmod (bn * ad) = t := ⟨_, rfl⟩
      rw [ht, HM.out] at eq2
      rw [ht] at hrt
      have hrb : -1152921504606846976 ≤ t ∧ t ≤ 1152921504606846976 := by omega
      clear hrt
      by_cases g0 : t = 0
      · subst g0
        have em : m = 0 := by rw [eq2.out]; simp
        have EM := Lib.hid em
        clear em eq2
        go_enter Tryz.func41, Tryz.ntmps41
        go_wp2_with fail
        refine (rboth_any _ _ _ _ _).mono ?_
        rintro e w1 ⟨rfl, hb1⟩
        obtain ⟨hc1, hf1, hz1, hB1⟩ := after (a := w) (B := w.heap.size) (w.heap.size + 3) hb1 (by first | (with_reducible assumption) | (simp; done) | omega | (simp; omega)) bl (by omega)
        rw [h]
        go_wp2_with fail
        refine (rmake_all _ _ (by omega) (by omega) _).mono ?_
        rintro e w2 ⟨rfl, hb2⟩
        obtain ⟨hc2, hf2, hz2, hB2⟩ := after (a := w) (B := w.heap.size) (w.heap.size + 3) hb2 (by first | (with_reducible assumption) | (simp; done) | omega | (simp; omega)) bl (by omega)
        rw [← EM.out, hr.out]
        go_wp2
        exact bodyPost_ret (v := .agg #[.int .i64 r, .int .i64 s]) (by simp [results, Tryz.results41, go_sem, hc2, hc1]) rfl ⟨rfl, bl⟩
      · have t0 : (t != 0) = true := by rw [bne_iff_ne]; exact g0
        by_cases g1 : t < 0
        · skip
          by_cases g2 : bn * ad < 0
          · have em : m = t := by rw [eq2.out]; first | (simp [g1, g2]; done) | (simp [g0, g1, g2]; done)
            have EM := Lib.hid em
            clear em eq2
            first | (have b1 : decide (t < 0) = true := by simp [g1]) | (have b1 : decide (t < 0) = false := by simp [g1])
            first | (have b2 : decide (bn * ad < 0) = true := by simp [g2]) | (have b2 : decide (bn * ad < 0) = false := by simp [g2])
            go_enter Tryz.func41, Tryz.ntmps41
            go_wp2_with fail
            refine (rboth_any _ _ _ _ _).mono ?_
            rintro e w1 ⟨rfl, hb1⟩
            obtain ⟨hc1, hf1, hz1, hB1⟩ := after (a := w) (B := w.heap.size) (w.heap.size + 3) hb1 (by first | (with_reducible assumption) | (simp; done) | omega | (simp; omega)) bl (by omega)
            rw [h]
            go_wp2_with fail
            refine (rmake_all _ _ (by omega) (by omega) _).mono ?_
            rintro e w2 ⟨rfl, hb2⟩
            obtain ⟨hc2, hf2, hz2, hB2⟩ := after (a := w) (B := w.heap.size) (w.heap.size + 3) hb2 (by first | (with_reducible assumption) | (simp; done) | omega | (simp; omega)) bl (by omega)
            rw [← EM.out, hr.out]
            go_wp2
            exact bodyPost_ret (v := .agg #[.int .i64 r, .int .i64 s]) (by simp [results, Tryz.results41, go_sem, hc2, hc1]) rfl ⟨rfl, bl⟩
          · have em : m = t + bn * ad := by rw [eq2.out]; first | (simp [g1, g2]; done) | (simp [g0, g1, g2]; done)
            have EM := Lib.hid em
            clear em eq2
            first | (have b1 : decide (t < 0) = true := by simp [g1]) | (have b1 : decide (t < 0) = false := by simp [g1])
            first | (have b2 : decide (bn * ad < 0) = true := by simp [g2]) | (have b2 : decide (bn * ad < 0) = false := by simp [g2])
            go_enter Tryz.func41, Tryz.ntmps41
            go_wp2_with fail
            refine (rboth_any _ _ _ _ _).mono ?_
            rintro e w1 ⟨rfl, hb1⟩
            obtain ⟨hc1, hf1, hz1, hB1⟩ := after (a := w) (B := w.heap.size) (w.heap.size + 3) hb1 (by first | (with_reducible assumption) | (simp; done) | omega | (simp; omega)) bl (by omega)
            rw [h]
            go_wp2_with fail
            refine (rmake_all _ _ (by omega) (by omega) _).mono ?_
            rintro e w2 ⟨rfl, hb2⟩
            obtain ⟨hc2, hf2, hz2, hB2⟩ := after (a := w) (B := w.heap.size) (w.heap.size + 3) hb2 (by first | (with_reducible assumption) | (simp; done) | omega | (simp; omega)) bl (by omega)
            rw [← EM.out, hr.out]
            go_wp2
            exact bodyPost_ret (v := .agg #[.int .i64 r, .int .i64 s]) (by simp [results, Tryz.results41, go_sem, hc2, hc1]) rfl ⟨rfl, bl⟩
        · skip
          by_cases g2 : bn * ad < 0
          · have em : m = t + bn * ad := by rw [eq2.out]; first | (simp [g1, g2]; done) | (simp [g0, g1, g2]; done)
            have EM := Lib.hid em
            clear em eq2
            first | (have b1 : decide (t < 0) = true := by simp [g1]) | (have b1 : decide (t < 0) = false := by simp [g1])
            first | (have b2 : decide (bn * ad < 0) = true := by simp [g2]) | (have b2 : decide (bn * ad < 0) = false := by simp [g2])
            go_enter Tryz.func41, Tryz.ntmps41
            go_wp2_with fail
            refine (rboth_any _ _ _ _ _).mono ?_
            rintro e w1 ⟨rfl, hb1⟩
            obtain ⟨hc1, hf1, hz1, hB1⟩ := after (a := w) (B := w.heap.size) (w.heap.size + 3) hb1 (by first | (with_reducible assumption) | (simp; done) | omega | (simp; omega)) bl (by omega)
            rw [h]
            go_wp2_with fail
            refine (rmake_all _ _ (by omega) (by omega) _).mono ?_
            rintro e w2 ⟨rfl, hb2⟩
            obtain ⟨hc2, hf2, hz2, hB2⟩ := after (a := w) (B := w.heap.size) (w.heap.size + 3) hb2 (by first | (with_reducible assumption) | (simp; done) | omega | (simp; omega)) bl (by omega)
            rw [← EM.out, hr.out]
            go_wp2
            exact bodyPost_ret (v := .agg #[.int .i64 r, .int .i64 s]) (by simp [results, Tryz.results41, go_sem, hc2, hc1]) rfl ⟨rfl, bl⟩
          · have em : m = t := by rw [eq2.out]; first | (simp [g1, g2]; done) | (simp [g0, g1, g2]; done)
            have EM := Lib.hid em
            clear em eq2
            first | (have b1 : decide (t < 0) = true := by simp [g1]) | (have b1 : decide (t < 0) = false := by simp [g1])
            first | (have b2 : decide (bn * ad < 0) = true := by simp [g2]) | (have b2 : decide (bn * ad < 0) = false := by simp [g2])
            go_enter Tryz.func41, Tryz.ntmps41
            go_wp2_with fail
            refine (rboth_any _ _ _ _ _).mono ?_
            rintro e w1 ⟨rfl, hb1⟩
            obtain ⟨hc1, hf1, hz1, hB1⟩ := after (a := w) (B := w.heap.size) (w.heap.size + 3) hb1 (by first | (with_reducible assumption) | (simp; done) | omega | (simp; omega)) bl (by omega)
            rw [h]
            go_wp2_with fail
            refine (rmake_all _ _ (by omega) (by omega) _).mono ?_
            rintro e w2 ⟨rfl, hb2⟩
            obtain ⟨hc2, hf2, hz2, hB2⟩ := after (a := w) (B := w.heap.size) (w.heap.size + 3) hb2 (by first | (with_reducible assumption) | (simp; done) | omega | (simp; omega)) bl (by omega)
            rw [← EM.out, hr.out]
            go_wp2
            exact bodyPost_ret (v := .agg #[.int .i64 r, .int .i64 s]) (by simp [results, Tryz.results41, go_sem, hc2, hc1]) rfl ⟨rfl, bl⟩

set_option maxRecDepth 100000 in
set_option maxHeartbeats 400000 in
theorem valid_any (an ad : Int) (w : World) :
    Calls Tryz.prog 87 #[.agg #[.int .i64 an, .int .i64 ad]] w fun e w' => e = .returned (.bool (Q.valid (an, ad))) ∧ Below w.heap.size w w' := by
  by_cases h0 : an = 0 ∧ ad = 0
  · obtain ⟨rfl, rfl⟩ := h0
    have e : Q.valid (0, 0) = true := by decide
    have h : Q.isq 0 0 = false := by decide
    rw [e]; clear e
    go_enter Tryz.func87, Tryz.ntmps87
    go_wp2
    go_ret
    exact ⟨rfl, bl⟩
  · have e : Q.valid (an, ad) = Q.isq an ad := by unfold Q.valid; have : (an == 0 && ad == 0) = false := by (rw [Bool.and_eq_false_iff, beq_eq_false_iff_ne, beq_eq_false_iff_ne]; omega)
                                                  rw [this]; rfl
    rw [e]; clear e
    have h1 : (an == 0 && ad == 0) = false := by rw [Bool.and_eq_false_iff, beq_eq_false_iff_ne, beq_eq_false_iff_ne]; omega
    by_cases h2 : an = 0
    · subst h2
      have h3 : (ad == 0) = false := by rw [beq_eq_false_iff_ne]; omega
      clear h0 h1
      cases h : Q.isq 0 ad
      · go_enter Tryz.func87, Tryz.ntmps87
        go_wp2_with fail
        refine (is_any _ _ _).mono ?_
        rintro e w1 ⟨rfl, hb1⟩
        obtain ⟨hc1, hf1, hz1, hB1⟩ := after (a := w) (B := w.heap.size) (w.heap.size + 1) hb1 (by first | (with_reducible assumption) | (simp; done) | omega | (simp; omega)) bl (by omega)
        rw [h]
        go_wp2
        go_ret
        exact ⟨rfl, bl⟩
      · go_enter Tryz.func87, Tryz.ntmps87
        go_wp2_with fail
        refine (is_any _ _ _).mono ?_
        rintro e w1 ⟨rfl, hb1⟩
        obtain ⟨hc1, hf1, hz1, hB1⟩ := after (a := w) (B := w.heap.size) (w.heap.size + 1) hb1 (by first | (with_reducible assumption) | (simp; done) | omega | (simp; omega)) bl (by omega)
        rw [h]
        go_wp2
        go_ret
        exact ⟨rfl, bl⟩
    · have h3 : (an == 0) = false := by rw [beq_eq_false_iff_ne]; exact h2
      clear h0 h1
      cases h : Q.isq an ad
      · go_enter Tryz.func87, Tryz.ntmps87
        go_wp2_with fail
        refine (is_any _ _ _).mono ?_
        rintro e w1 ⟨rfl, hb1⟩
        obtain ⟨hc1, hf1, hz1, hB1⟩ := after (a := w) (B := w.heap.size) (w.heap.size + 1) hb1 (by first | (with_reducible assumption) | (simp; done) | omega | (simp; omega)) bl (by omega)
        rw [h]
        go_wp2
        go_ret
        exact ⟨rfl, bl⟩
      · go_enter Tryz.func87, Tryz.ntmps87
        go_wp2_with fail
        refine (is_any _ _ _).mono ?_
        rintro e w1 ⟨rfl, hb1⟩
        obtain ⟨hc1, hf1, hz1, hB1⟩ := after (a := w) (B := w.heap.size) (w.heap.size + 1) hb1 (by first | (with_reducible assumption) | (simp; done) | omega | (simp; omega)) bl (by omega)
        rw [h]
        go_wp2
        go_ret
        exact ⟨rfl, bl⟩

set_option maxRecDepth 100000 in
set_option maxHeartbeats 400000 in
theorem rvalid_any (an ad : Int) (w : World) :
    Calls Tryz.prog 86 #[.agg #[.int .i64 an, .int .i64 ad]] w fun e w' => e = .returned (.bool (Q.valid (an, ad))) ∧ Below w.heap.size w w' := by
  by_cases h0 : an = 0 ∧ ad = 0
  · obtain ⟨rfl, rfl⟩ := h0
    have e : Q.valid (0, 0) = true := by decide
    have h : Q.isq 0 0 = false := by decide
    rw [e]; clear e
    go_enter Tryz.func86, Tryz.ntmps86
    go_wp2_with fail
    refine (ris_any _ _ _).mono ?_
    rintro e w1 ⟨rfl, hb1⟩
    obtain ⟨hc1, hf1, hz1, hB1⟩ := after (a := w) (B := w.heap.size) (w.heap.size + 1) hb1 (by first | (with_reducible assumption) | (simp; done) | omega | (simp; omega)) bl (by omega)
    rw [h]
    go_wp2
    go_ret
    exact ⟨rfl, bl⟩
  · have e : Q.valid (an, ad) = Q.isq an ad := by unfold Q.valid; have : (an == 0 && ad == 0) = false := by (rw [Bool.and_eq_false_iff, beq_eq_false_iff_ne, beq_eq_false_iff_ne]; omega)
                                                  rw [this]; rfl
    rw [e]; clear e
    have h1 : (an == 0 && ad == 0) = false := by rw [Bool.and_eq_false_iff, beq_eq_false_iff_ne, beq_eq_false_iff_ne]; omega
    by_cases h2 : an = 0
    · subst h2
      have h3 : (ad == 0) = false := by rw [beq_eq_false_iff_ne]; omega
      clear h0 h1
      cases h : Q.isq 0 ad
      · go_enter Tryz.func86, Tryz.ntmps86
        go_wp2_with fail
        refine (ris_any _ _ _).mono ?_
        rintro e w1 ⟨rfl, hb1⟩
        obtain ⟨hc1, hf1, hz1, hB1⟩ := after (a := w) (B := w.heap.size) (w.heap.size + 1) hb1 (by first | (with_reducible assumption) | (simp; done) | omega | (simp; omega)) bl (by omega)
        rw [h]
        go_wp2
        go_ret
        exact ⟨rfl, bl⟩
      · go_enter Tryz.func86, Tryz.ntmps86
        go_wp2_with fail
        refine (ris_any _ _ _).mono ?_
        rintro e w1 ⟨rfl, hb1⟩
        obtain ⟨hc1, hf1, hz1, hB1⟩ := after (a := w) (B := w.heap.size) (w.heap.size + 1) hb1 (by first | (with_reducible assumption) | (simp; done) | omega | (simp; omega)) bl (by omega)
        rw [h]
        go_wp2
        go_ret
        exact ⟨rfl, bl⟩
    · have h3 : (an == 0) = false := by rw [beq_eq_false_iff_ne]; exact h2
      clear h0 h1
      cases h : Q.isq an ad
      · go_enter Tryz.func86, Tryz.ntmps86
        go_wp2_with fail
        refine (ris_any _ _ _).mono ?_
        rintro e w1 ⟨rfl, hb1⟩
        obtain ⟨hc1, hf1, hz1, hB1⟩ := after (a := w) (B := w.heap.size) (w.heap.size + 1) hb1 (by first | (with_reducible assumption) | (simp; done) | omega | (simp; omega)) bl (by omega)
        rw [h]
        go_wp2
        go_ret
        exact ⟨rfl, bl⟩
      · go_enter Tryz.func86, Tryz.ntmps86
        go_wp2_with fail
        refine (ris_any _ _ _).mono ?_
        rintro e w1 ⟨rfl, hb1⟩
        obtain ⟨hc1, hf1, hz1, hB1⟩ := after (a := w) (B := w.heap.size) (w.heap.size + 1) hb1 (by first | (with_reducible assumption) | (simp; done) | omega | (simp; omega)) bl (by omega)
        rw [h]
        go_wp2
        go_ret
        exact ⟨rfl, bl⟩

end Go.Proofs.YtiiddikiaafanaaGreatDoor.R
