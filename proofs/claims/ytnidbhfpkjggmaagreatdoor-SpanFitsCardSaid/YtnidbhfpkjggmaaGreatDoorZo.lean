import Derived.Test.YtnidbhfpkjggmaaGreatDoorZl
import Derived.Test.YtnidbhfpkjggmaaGreatDoorQb
set_option linter.all false
/-
  Sums, opposites, comparing: what each call gives.
-/
namespace Go.Proofs.YtnidbhfpkjggmaaGreatDoor
open Go.RowKit

set_option maxHeartbeats 400000 in
theorem both_any (an ad bn bd : Int) (w : World) :
    Calls Tryz.prog 105 #[.agg #[.int .i64 an, .int .i64 ad], .agg #[.int .i64 bn, .int .i64 bd]] w fun e w' => e = .returned (.bool (Q.both (an, ad) (bn, bd))) ∧ Below w.heap.size w w' := by
  have hq : Q.both (an, ad) (bn, bd) = (Q.isq an ad && Q.isq bn bd) := rfl
  rw [hq]; clear hq
  cases h1 : Q.isq an ad
  · go_enter Tryz.func105, Tryz.ntmps105
    go_wp2_with fail
    refine (is_any _ _ _).mono ?_
    rintro e w1 ⟨rfl, hb1⟩
    obtain ⟨hc1, hf1, hz1, hB1⟩ := after (a := w) (B := w.heap.size) (w.heap.size + 2) hb1 (by first | (with_reducible assumption) | (simp; done) | omega | (simp; omega)) bl (by omega)
    rw [h1]
    go_wp2
    go_ret
    exact ⟨rfl, bl⟩
  · cases h2 : Q.isq bn bd
    · go_enter Tryz.func105, Tryz.ntmps105
      go_wp2_with fail
      refine (is_any _ _ _).mono ?_
      rintro e w1 ⟨rfl, hb1⟩
      obtain ⟨hc1, hf1, hz1, hB1⟩ := after (a := w) (B := w.heap.size) (w.heap.size + 2) hb1 (by first | (with_reducible assumption) | (simp; done) | omega | (simp; omega)) bl (by omega)
      rw [h1]
      go_wp2_with fail
      refine (is_any _ _ _).mono ?_
      rintro e w2 ⟨rfl, hb2⟩
      obtain ⟨hc2, hf2, hz2, hB2⟩ := after (a := w) (B := w.heap.size) (w.heap.size + 2) hb2 (by first | (with_reducible assumption) | (simp; done) | omega | (simp; omega)) bl (by omega)
      rw [h2]
      go_wp2
      go_ret
      exact ⟨rfl, bl⟩
    · go_enter Tryz.func105, Tryz.ntmps105
      go_wp2_with fail
      refine (is_any _ _ _).mono ?_
      rintro e w1 ⟨rfl, hb1⟩
      obtain ⟨hc1, hf1, hz1, hB1⟩ := after (a := w) (B := w.heap.size) (w.heap.size + 2) hb1 (by first | (with_reducible assumption) | (simp; done) | omega | (simp; omega)) bl (by omega)
      rw [h1]
      go_wp2_with fail
      refine (is_any _ _ _).mono ?_
      rintro e w2 ⟨rfl, hb2⟩
      obtain ⟨hc2, hf2, hz2, hB2⟩ := after (a := w) (B := w.heap.size) (w.heap.size + 2) hb2 (by first | (with_reducible assumption) | (simp; done) | omega | (simp; omega)) bl (by omega)
      rw [h2]
      go_wp2
      go_ret
      exact ⟨rfl, bl⟩

set_option maxHeartbeats 400000 in
theorem div_any (an ad bn bd : Int) (w : World) :
    Calls Tryz.prog 185 #[.agg #[.int .i64 an, .int .i64 ad], .agg #[.int .i64 bn, .int .i64 bd]] w fun e w' => e = .returned (.agg #[.int .i64 (Q.div (an, ad) (bn, bd)).1, .int .i64 (Q.div (an, ad) (bn, bd)).2]) ∧ Below w.heap.size w w' := by
  cases h : Q.both (an, ad) (bn, bd)
  · have e : Q.div (an, ad) (bn, bd) = (0, 0) := by unfold Q.div; rw [h]; rfl
    rw [e]; clear e
    go_enter Tryz.func185, Tryz.ntmps185
    go_wp2_with fail
    refine (both_any _ _ _ _ _).mono ?_
    rintro e w1 ⟨rfl, hb1⟩
    obtain ⟨hc1, hf1, hz1, hB1⟩ := after (a := w) (B := w.heap.size) (w.heap.size + 3) hb1 (by first | (with_reducible assumption) | (simp; done) | omega | (simp; omega)) bl (by omega)
    rw [h]
    go_wp2
    exact bodyPost_ret (v := .agg #[.int .i64 0, .int .i64 0]) (by simp [results, Tryz.results185, go_sem, hc1]) rfl ⟨rfl, bl⟩
  · have e : Q.div (an, ad) (bn, bd) = Q.mk (an * bd) (ad * bn) := by unfold Q.div; rw [h]; rfl
    obtain ⟨r, s, hr⟩ : ∃ r s, Hid (Q.mk (an * bd) (ad * bn) = (r, s)) := ⟨_, _, rfl⟩
    rw [e, hr.out]; clear e
    obtain ⟨_, _, _, _, _, _, _, _, _⟩ := Q.bd_of h
    go_enter Tryz.func185, Tryz.ntmps185
    go_wp2_with fail
    refine (both_any _ _ _ _ _).mono ?_
    rintro e w1 ⟨rfl, hb1⟩
    obtain ⟨hc1, hf1, hz1, hB1⟩ := after (a := w) (B := w.heap.size) (w.heap.size + 3) hb1 (by first | (with_reducible assumption) | (simp; done) | omega | (simp; omega)) bl (by omega)
    rw [h]
    go_wp2_with fail
    refine (make_any _ _ (by omega) (by omega) _).mono ?_
    rintro e w2 ⟨rfl, hb2⟩
    obtain ⟨hc2, hf2, hz2, hB2⟩ := after (a := w) (B := w.heap.size) (w.heap.size + 3) hb2 (by first | (with_reducible assumption) | (simp; done) | omega | (simp; omega)) bl (by omega)
    rw [hr.out]
    go_wp2
    exact bodyPost_ret (v := .agg #[.int .i64 r, .int .i64 s]) (by simp [results, Tryz.results185, go_sem, hc2, hc1]) rfl ⟨rfl, bl⟩

set_option maxHeartbeats 800000 in
theorem rcmp_any (an ad bn bd : Int) (w : World) :
    Calls Tryz.prog 45 #[.agg #[.int .i64 an, .int .i64 ad], .agg #[.int .i64 bn, .int .i64 bd]] w fun e w' => e = .returned (.int .i64 (Q.cmp (an, ad) (bn, bd))) ∧ Below w.heap.size w w' := by
  cases h1 : Q.isq an ad
  · cases h2 : Q.isq bn bd
    · have e : Q.cmp (an, ad) (bn, bd) = 0 := by simp [Q.cmp, Q.both, Q.rank, Q.cmpi, h1, h2]
      rw [e]; clear e
      go_enter Tryz.func45, Tryz.ntmps45
      go_wp2_with fail
      refine (ris_any _ _ _).mono ?_
      rintro e w1 ⟨rfl, hb1⟩
      obtain ⟨hc1, hf1, hz1, hB1⟩ := after (a := w) (B := w.heap.size) (w.heap.size + 2) hb1 (by first | (with_reducible assumption) | (simp; done) | omega | (simp; omega)) bl (by omega)
      rw [h1]
      go_wp2_with fail
      refine (ris_any _ _ _).mono ?_
      rintro e w2 ⟨rfl, hb2⟩
      obtain ⟨hc2, hf2, hz2, hB2⟩ := after (a := w) (B := w.heap.size) (w.heap.size + 2) hb2 (by first | (with_reducible assumption) | (simp; done) | omega | (simp; omega)) bl (by omega)
      rw [h2]
      go_wp2
      go_ret
      exact ⟨rfl, bl⟩
    · have e : Q.cmp (an, ad) (bn, bd) = -1 := by simp [Q.cmp, Q.both, Q.rank, Q.cmpi, h1, h2]
      rw [e]; clear e
      go_enter Tryz.func45, Tryz.ntmps45
      go_wp2_with fail
      refine (ris_any _ _ _).mono ?_
      rintro e w1 ⟨rfl, hb1⟩
      obtain ⟨hc1, hf1, hz1, hB1⟩ := after (a := w) (B := w.heap.size) (w.heap.size + 2) hb1 (by first | (with_reducible assumption) | (simp; done) | omega | (simp; omega)) bl (by omega)
      rw [h1]
      go_wp2_with fail
      refine (ris_any _ _ _).mono ?_
      rintro e w2 ⟨rfl, hb2⟩
      obtain ⟨hc2, hf2, hz2, hB2⟩ := after (a := w) (B := w.heap.size) (w.heap.size + 2) hb2 (by first | (with_reducible assumption) | (simp; done) | omega | (simp; omega)) bl (by omega)
      rw [h2]
      go_wp2_with fail
      refine (ris_any _ _ _).mono ?_
      rintro e w3 ⟨rfl, hb3⟩
      obtain ⟨hc3, hf3, hz3, hB3⟩ := after (a := w) (B := w.heap.size) (w.heap.size + 2) hb3 (by first | (with_reducible assumption) | (simp; done) | omega | (simp; omega)) bl (by omega)
      rw [h1]
      go_wp2
      go_ret
      exact ⟨rfl, bl⟩
  · cases h2 : Q.isq bn bd
    · have e : Q.cmp (an, ad) (bn, bd) = 1 := by simp [Q.cmp, Q.both, Q.rank, Q.cmpi, h1, h2]
      rw [e]; clear e
      go_enter Tryz.func45, Tryz.ntmps45
      go_wp2_with fail
      refine (ris_any _ _ _).mono ?_
      rintro e w1 ⟨rfl, hb1⟩
      obtain ⟨hc1, hf1, hz1, hB1⟩ := after (a := w) (B := w.heap.size) (w.heap.size + 2) hb1 (by first | (with_reducible assumption) | (simp; done) | omega | (simp; omega)) bl (by omega)
      rw [h1]
      go_wp2_with fail
      refine (ris_any _ _ _).mono ?_
      rintro e w2 ⟨rfl, hb2⟩
      obtain ⟨hc2, hf2, hz2, hB2⟩ := after (a := w) (B := w.heap.size) (w.heap.size + 2) hb2 (by first | (with_reducible assumption) | (simp; done) | omega | (simp; omega)) bl (by omega)
      rw [h1]
      go_wp2_with fail
      refine (ris_any _ _ _).mono ?_
      rintro e w3 ⟨rfl, hb3⟩
      obtain ⟨hc3, hf3, hz3, hB3⟩ := after (a := w) (B := w.heap.size) (w.heap.size + 2) hb3 (by first | (with_reducible assumption) | (simp; done) | omega | (simp; omega)) bl (by omega)
      rw [h2]
      go_wp2
      go_ret
      exact ⟨rfl, bl⟩
    · have h : Q.both (an, ad) (bn, bd) = true := by simp [Q.both, h1, h2]
      have e : Q.cmp (an, ad) (bn, bd) = Q.cmpi (an * bd) (bn * ad) := by unfold Q.cmp; rw [h]; rfl
      rw [e]; clear e
      obtain ⟨_, _, _, _, _, _, _, _, _⟩ := Q.bd_of h
      by_cases g0 : an * bd < bn * ad
      · have e : Q.cmpi (an * bd) (bn * ad) = -1 := by unfold Q.cmpi; first | rw [if_pos g0] | (rw [if_neg g0]; first | rw [if_pos g1] | rw [if_neg g1])
        rw [e]; clear e
        go_enter Tryz.func45, Tryz.ntmps45
        go_wp2_with fail
        refine (ris_any _ _ _).mono ?_
        rintro e w1 ⟨rfl, hb1⟩
        obtain ⟨hc1, hf1, hz1, hB1⟩ := after (a := w) (B := w.heap.size) (w.heap.size + 2) hb1 (by first | (with_reducible assumption) | (simp; done) | omega | (simp; omega)) bl (by omega)
        rw [h1]
        go_wp2_with fail
        refine (ris_any _ _ _).mono ?_
        rintro e w2 ⟨rfl, hb2⟩
        obtain ⟨hc2, hf2, hz2, hB2⟩ := after (a := w) (B := w.heap.size) (w.heap.size + 2) hb2 (by first | (with_reducible assumption) | (simp; done) | omega | (simp; omega)) bl (by omega)
        rw [h1]
        go_wp2_with fail
        refine (ris_any _ _ _).mono ?_
        rintro e w3 ⟨rfl, hb3⟩
        obtain ⟨hc3, hf3, hz3, hB3⟩ := after (a := w) (B := w.heap.size) (w.heap.size + 2) hb3 (by first | (with_reducible assumption) | (simp; done) | omega | (simp; omega)) bl (by omega)
        rw [h2]
        go_wp2
        go_ret
        exact ⟨rfl, bl⟩
      · skip
        by_cases g1 : bn * ad < an * bd
        · have e : Q.cmpi (an * bd) (bn * ad) = 1 := by unfold Q.cmpi; first | rw [if_pos g0] | (rw [if_neg g0]; first | rw [if_pos g1] | rw [if_neg g1])
          rw [e]; clear e
          go_enter Tryz.func45, Tryz.ntmps45
          go_wp2_with fail
          refine (ris_any _ _ _).mono ?_
          rintro e w1 ⟨rfl, hb1⟩
          obtain ⟨hc1, hf1, hz1, hB1⟩ := after (a := w) (B := w.heap.size) (w.heap.size + 2) hb1 (by first | (with_reducible assumption) | (simp; done) | omega | (simp; omega)) bl (by omega)
          rw [h1]
          go_wp2_with fail
          refine (ris_any _ _ _).mono ?_
          rintro e w2 ⟨rfl, hb2⟩
          obtain ⟨hc2, hf2, hz2, hB2⟩ := after (a := w) (B := w.heap.size) (w.heap.size + 2) hb2 (by first | (with_reducible assumption) | (simp; done) | omega | (simp; omega)) bl (by omega)
          rw [h1]
          go_wp2_with fail
          refine (ris_any _ _ _).mono ?_
          rintro e w3 ⟨rfl, hb3⟩
          obtain ⟨hc3, hf3, hz3, hB3⟩ := after (a := w) (B := w.heap.size) (w.heap.size + 2) hb3 (by first | (with_reducible assumption) | (simp; done) | omega | (simp; omega)) bl (by omega)
          rw [h2]
          go_wp2
          go_ret
          exact ⟨rfl, bl⟩
        · skip
          have e : Q.cmpi (an * bd) (bn * ad) = 0 := by unfold Q.cmpi; first | rw [if_pos g0] | (rw [if_neg g0]; first | rw [if_pos g1] | rw [if_neg g1])
          rw [e]; clear e
          go_enter Tryz.func45, Tryz.ntmps45
          go_wp2_with fail
          refine (ris_any _ _ _).mono ?_
          rintro e w1 ⟨rfl, hb1⟩
          obtain ⟨hc1, hf1, hz1, hB1⟩ := after (a := w) (B := w.heap.size) (w.heap.size + 2) hb1 (by first | (with_reducible assumption) | (simp; done) | omega | (simp; omega)) bl (by omega)
          rw [h1]
          go_wp2_with fail
          refine (ris_any _ _ _).mono ?_
          rintro e w2 ⟨rfl, hb2⟩
          obtain ⟨hc2, hf2, hz2, hB2⟩ := after (a := w) (B := w.heap.size) (w.heap.size + 2) hb2 (by first | (with_reducible assumption) | (simp; done) | omega | (simp; omega)) bl (by omega)
          rw [h1]
          go_wp2_with fail
          refine (ris_any _ _ _).mono ?_
          rintro e w3 ⟨rfl, hb3⟩
          obtain ⟨hc3, hf3, hz3, hB3⟩ := after (a := w) (B := w.heap.size) (w.heap.size + 2) hb3 (by first | (with_reducible assumption) | (simp; done) | omega | (simp; omega)) bl (by omega)
          rw [h2]
          go_wp2
          go_ret
          exact ⟨rfl, bl⟩

set_option maxHeartbeats 400000 in
theorem rwhole_any (n : Int) (hn : -9223372036854775808 ≤ n ∧ n ≤ 9223372036854775807) (w : World) :
    Calls Tryz.prog 63 #[.int .i64 n] w fun e w' => e = .returned (.agg #[.int .i64 (Q.mk n 1).1, .int .i64 (Q.mk n 1).2]) ∧ Below w.heap.size w w' := by
  obtain ⟨r, s, hr⟩ : ∃ r s, Hid (Q.mk n 1 = (r, s)) := ⟨_, _, rfl⟩
  rw [hr.out]
  go_enter Tryz.func63, Tryz.ntmps63
  go_wp2_with fail
  refine (rmake_all _ _ (by omega) (by omega) _).mono ?_
  rintro e w1 ⟨rfl, hb1⟩
  obtain ⟨hc1, hf1, hz1, hB1⟩ := after (a := w) (B := w.heap.size) (w.heap.size + 1) hb1 (by first | (with_reducible assumption) | (simp; done) | omega | (simp; omega)) bl (by omega)
  rw [hr.out]
  go_wp2
  exact bodyPost_ret (v := .agg #[.int .i64 r, .int .i64 s]) (by simp [results, Tryz.results63, go_sem, hc1]) rfl ⟨rfl, bl⟩

set_option maxHeartbeats 400000 in
theorem neg_any (an ad : Int) (w : World) :
    Calls Tryz.prog 129 #[.agg #[.int .i64 an, .int .i64 ad]] w fun e w' => e = .returned (.agg #[.int .i64 (Q.neg (an, ad)).1, .int .i64 (Q.neg (an, ad)).2]) ∧ Below w.heap.size w w' := by
  cases h : Q.isq an ad
  · have e : Q.neg (an, ad) = (0, 0) := by unfold Q.neg; rw [h]; rfl
    rw [e]; clear e
    go_enter Tryz.func129, Tryz.ntmps129
    go_wp2_with fail
    refine (is_any _ _ _).mono ?_
    rintro e w1 ⟨rfl, hb1⟩
    obtain ⟨hc1, hf1, hz1, hB1⟩ := after (a := w) (B := w.heap.size) (w.heap.size + 2) hb1 (by first | (with_reducible assumption) | (simp; done) | omega | (simp; omega)) bl (by omega)
    rw [h]
    go_wp2
    exact bodyPost_ret (v := .agg #[.int .i64 0, .int .i64 0]) (by simp [results, Tryz.results129, go_sem, hc1]) rfl ⟨rfl, bl⟩
  · have e : Q.neg (an, ad) = (-an, ad) := by unfold Q.neg; rw [h]; rfl
    rw [e]; clear e
    have hq := (Q.isq_iff _ _).1 h
    obtain ⟨hq1, hq2, _, _, _⟩ := hq
    go_enter Tryz.func129, Tryz.ntmps129
    go_wp2_with fail
    refine (is_any _ _ _).mono ?_
    rintro e w1 ⟨rfl, hb1⟩
    obtain ⟨hc1, hf1, hz1, hB1⟩ := after (a := w) (B := w.heap.size) (w.heap.size + 2) hb1 (by first | (with_reducible assumption) | (simp; done) | omega | (simp; omega)) bl (by omega)
    rw [h]
    go_wp2
    exact bodyPost_ret (v := .agg #[.int .i64 (-an), .int .i64 ad]) (by simp [results, Tryz.results129, go_sem, hc1]) rfl ⟨rfl, bl⟩

set_option maxHeartbeats 400000 in
theorem floordiv_any (p d : Int) (hp : -4611686018427387904 ≤ p ∧ p ≤ 4611686018427387904) (hd : 1 ≤ d ∧ d ≤ 4611686018427387904) (w : World) :
    Calls Tryz.prog 136 #[.int .i64 p, .int .i64 d] w fun e w' => e = .returned (.int .i64 (p / d)) ∧ w = w' := by
  have hQb := Q.tdiv_bd p d _ hp
  have hRb := Q.tmod_lt p d (by omega)
  have eq1 : Hid (p / d = if p.tmod d < 0 then p.tdiv d - 1 else p.tdiv d) := Q.floor_div p d (by omega)
  have d0 : (d == 0) = false := by rw [beq_eq_false_iff_ne]; omega
  have d00 : ¬ d = 0 := by omega
  obtain ⟨q, hQ⟩ : ∃ q, p.tdiv d = q := ⟨_, rfl⟩
  obtain ⟨r, hR⟩ : ∃ r, p.tmod d = r := ⟨_, rfl⟩
  obtain ⟨x, hX⟩ : ∃ x, p / d = x := ⟨_, rfl⟩
  rw [hQ] at hQb
  rw [hR] at hRb
  rw [hQ, hR, hX] at eq1
  rw [hX]
  clear hX
  have hrb : -4611686018427387904 ≤ r ∧ r ≤ 4611686018427387904 := by omega
  clear hRb hd
  by_cases g1 : r < 0
  · have e1 := eq1.out
    rw [if_pos g1] at e1
    subst e1
    clear eq1
    go_enter Tryz.func136, Tryz.ntmps136
    go_wp2
    go_ret
    exact ⟨rfl, rfl⟩
  · have e1 := eq1.out
    rw [if_neg g1] at e1
    subst e1
    clear eq1
    go_enter Tryz.func136, Tryz.ntmps136
    go_wp2
    go_ret
    exact ⟨rfl, rfl⟩

end Go.Proofs.YtnidbhfpkjggmaaGreatDoor
