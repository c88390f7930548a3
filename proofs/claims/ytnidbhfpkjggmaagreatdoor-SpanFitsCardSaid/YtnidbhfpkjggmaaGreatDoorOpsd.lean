import Derived.Test.YtnidbhfpkjggmaaGreatDoorOpsc
set_option linter.all false
/-
  Mod, Valid and the specification's own, and the laws' own awake: what each call gives.
-/
namespace Go.Proofs.YtnidbhfpkjggmaaGreatDoor.R
open Go.RowKit
set_option maxRecDepth 100000 in
set_option maxHeartbeats 400000 in
theorem valid_any (an ad : Int) (w : World) :
    Calls Tryz.prog 39 #[.agg #[.int .i64 an, .int .i64 ad]] w fun e w' => e = .returned (.bool (Q.valid (an, ad))) ∧ Below w.heap.size w w' := by
  by_cases h0 : an = 0 ∧ ad = 0
  · obtain ⟨rfl, rfl⟩ := h0
    have e : Q.valid (0, 0) = true := by decide
    have h : Q.isq 0 0 = false := by decide
    rw [e]; clear e
    go_enter Tryz.func39, Tryz.ntmps39
    go_wp2
    go_ret
    exact ⟨rfl, bl⟩
  · have e : Q.valid (an, ad) = Q.isq an ad := by unfold Q.valid; have : (an == 0 && ad == 0) = false := by (rw [Bool.and_eq_false_iff, beq_eq_false_iff_ne, beq_eq_false_iff_ne]; omega)
                                                  rw [this]; rfl
    rw [e]; clear e
    have h1 : (an == 0 && ad == 0) = false := by rw [Bool.and_eq_false_iff, beq_eq_false_iff_ne, beq_eq_false_iff_ne]; omega
    by_cases h2 : an = 0
    · subst h2
      have h3 : (ad == 0) = false := by rw [beq_eq_false_iff_ne]; omega
      clear h0 h1
      cases h : Q.isq 0 ad
      · go_enter Tryz.func39, Tryz.ntmps39
        go_wp2_with fail
        refine (is_any _ _ _).mono ?_
        rintro e w1 ⟨rfl, hb1⟩
        obtain ⟨hc1, hf1, hz1, hB1⟩ := after (a := w) (B := w.heap.size) (w.heap.size + 1) hb1 (by first | (with_reducible assumption) | (simp; done) | omega | (simp; omega)) bl (by omega)
        rw [h]
        go_wp2
        go_ret
        exact ⟨rfl, bl⟩
      · go_enter Tryz.func39, Tryz.ntmps39
        go_wp2_with fail
        refine (is_any _ _ _).mono ?_
        rintro e w1 ⟨rfl, hb1⟩
        obtain ⟨hc1, hf1, hz1, hB1⟩ := after (a := w) (B := w.heap.size) (w.heap.size + 1) hb1 (by first | (with_reducible assumption) | (simp; done) | omega | (simp; omega)) bl (by omega)
        rw [h]
        go_wp2
        go_ret
        exact ⟨rfl, bl⟩
    · have h3 : (an == 0) = false := by rw [beq_eq_false_iff_ne]; exact h2
      clear h0 h1
      cases h : Q.isq an ad
      · go_enter Tryz.func39, Tryz.ntmps39
        go_wp2_with fail
        refine (is_any _ _ _).mono ?_
        rintro e w1 ⟨rfl, hb1⟩
        obtain ⟨hc1, hf1, hz1, hB1⟩ := after (a := w) (B := w.heap.size) (w.heap.size + 1) hb1 (by first | (with_reducible assumption) | (simp; done) | omega | (simp; omega)) bl (by omega)
        rw [h]
        go_wp2
        go_ret
        exact ⟨rfl, bl⟩
      · go_enter Tryz.func39, Tryz.ntmps39
        go_wp2_with fail
        refine (is_any _ _ _).mono ?_
        rintro e w1 ⟨rfl, hb1⟩
        obtain ⟨hc1, hf1, hz1, hB1⟩ := after (a := w) (B := w.heap.size) (w.heap.size + 1) hb1 (by first | (with_reducible assumption) | (simp; done) | omega | (simp; omega)) bl (by omega)
        rw [h]
        go_wp2
        go_ret
        exact ⟨rfl, bl⟩

set_option maxRecDepth 100000 in
set_option maxHeartbeats 400000 in
theorem rvalid_any (an ad : Int) (w : World) :
    Calls Tryz.prog 43 #[.agg #[.int .i64 an, .int .i64 ad]] w fun e w' => e = .returned (.bool (Q.valid (an, ad))) ∧ Below w.heap.size w w' := by
  by_cases h0 : an = 0 ∧ ad = 0
  · obtain ⟨rfl, rfl⟩ := h0
    have e : Q.valid (0, 0) = true := by decide
    have h : Q.isq 0 0 = false := by decide
    rw [e]; clear e
    go_enter Tryz.func43, Tryz.ntmps43
    go_wp2_with fail
    refine (ris_any _ _ _).mono ?_
    rintro e w1 ⟨rfl, hb1⟩
    obtain ⟨hc1, hf1, hz1, hB1⟩ := after (a := w) (B := w.heap.size) (w.heap.size + 1) hb1 (by first | (with_reducible assumption) | (simp; done) | omega | (simp; omega)) bl (by omega)
    rw [h]
    go_wp2
    go_ret
    exact ⟨rfl, bl⟩
  · have e : Q.valid (an, ad) = Q.isq an ad := by unfold Q.valid; have : (an == 0 && ad == 0) = false := by (rw [Bool.and_eq_false_iff, beq_eq_false_iff_ne, beq_eq_false_iff_ne]; omega)
                                                  rw [this]; rfl
    rw [e]; clear e
    have h1 : (an == 0 && ad == 0) = false := by rw [Bool.and_eq_false_iff, beq_eq_false_iff_ne, beq_eq_false_iff_ne]; omega
    by_cases h2 : an = 0
    · subst h2
      have h3 : (ad == 0) = false := by rw [beq_eq_false_iff_ne]; omega
      clear h0 h1
      cases h : Q.isq 0 ad
      · go_enter Tryz.func43, Tryz.ntmps43
        go_wp2_with fail
        refine (ris_any _ _ _).mono ?_
        rintro e w1 ⟨rfl, hb1⟩
        obtain ⟨hc1, hf1, hz1, hB1⟩ := after (a := w) (B := w.heap.size) (w.heap.size + 1) hb1 (by first | (with_reducible assumption) | (simp; done) | omega | (simp; omega)) bl (by omega)
        rw [h]
        go_wp2
        go_ret
        exact ⟨rfl, bl⟩
      · go_enter Tryz.func43, Tryz.ntmps43
        go_wp2_with fail
        refine (ris_any _ _ _).mono ?_
        rintro e w1 ⟨rfl, hb1⟩
        obtain ⟨hc1, hf1, hz1, hB1⟩ := after (a := w) (B := w.heap.size) (w.heap.size + 1) hb1 (by first | (with_reducible assumption) | (simp; done) | omega | (simp; omega)) bl (by omega)
        rw [h]
        go_wp2
        go_ret
        exact ⟨rfl, bl⟩
    · have h3 : (an == 0) = false := by rw [beq_eq_false_iff_ne]; exact h2
      clear h0 h1
      cases h : Q.isq an ad
      · go_enter Tryz.func43, Tryz.ntmps43
        go_wp2_with fail
        refine (ris_any _ _ _).mono ?_
        rintro e w1 ⟨rfl, hb1⟩
        obtain ⟨hc1, hf1, hz1, hB1⟩ := after (a := w) (B := w.heap.size) (w.heap.size + 1) hb1 (by first | (with_reducible assumption) | (simp; done) | omega | (simp; omega)) bl (by omega)
        rw [h]
        go_wp2
        go_ret
        exact ⟨rfl, bl⟩
      · go_enter Tryz.func43, Tryz.ntmps43
        go_wp2_with fail
        refine (ris_any _ _ _).mono ?_
        rintro e w1 ⟨rfl, hb1⟩
        obtain ⟨hc1, hf1, hz1, hB1⟩ := after (a := w) (B := w.heap.size) (w.heap.size + 1) hb1 (by first | (with_reducible assumption) | (simp; done) | omega | (simp; omega)) bl (by omega)
        rw [h]
        go_wp2
        go_ret
        exact ⟨rfl, bl⟩

end Go.Proofs.YtnidbhfpkjggmaaGreatDoor.R
