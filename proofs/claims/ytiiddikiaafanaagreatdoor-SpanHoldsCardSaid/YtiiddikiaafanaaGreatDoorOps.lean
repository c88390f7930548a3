import Derived.Test.YtiiddikiaafanaaGreatDoorAdd
import Derived.Test.YtiiddikiaafanaaGreatDoorQf
set_option linter.all false
/-
  Comparing, opposites, whole numbers, and the specification's own: what each call gives.
-/
namespace Go.Proofs.YtiiddikiaafanaaGreatDoor.R
open Go.Proofs.YtiiddikiaafanaaGreatDoor
open Go.RowKit

set_option maxHeartbeats 400000 in
theorem isnan_int (x : Int) (w : World) :
    Calls Tryz.prog 123 #[.int .i64 x] w fun e w' => e = .returned (.bool false) ∧ w = w' := by
  go_enter Tryz.func123, Tryz.ntmps123
  go_wp2
  go_ret
  exact ⟨rfl, rfl⟩

set_option maxHeartbeats 400000 in
theorem compare_int (x y : Int) (w : World) :
    Calls Tryz.prog 92 #[.int .i64 x, .int .i64 y] w fun e w' => e = .returned (.int .i64 (Q.cmpi x y)) ∧ w = w' := by
  by_cases h1 : x < y
  · have e : Q.cmpi x y = -1 := by unfold Q.cmpi; first | rw [if_pos h1] | (rw [if_neg h1]; first | rw [if_pos h2] | rw [if_neg h2])
    rw [e]; clear e
    go_enter Tryz.func92, Tryz.ntmps92
    go_wp2_with fail
    refine (isnan_int _ _).mono ?_
    rintro e w1 ⟨rfl, rfl⟩
    go_wp2_with fail
    refine (isnan_int _ _).mono ?_
    rintro e w2 ⟨rfl, rfl⟩
    go_wp2
    go_ret
    exact ⟨rfl, rfl⟩
  · by_cases h2 : y < x
    · have e : Q.cmpi x y = 1 := by unfold Q.cmpi; first | rw [if_pos h1] | (rw [if_neg h1]; first | rw [if_pos h2] | rw [if_neg h2])
      rw [e]; clear e
      go_enter Tryz.func92, Tryz.ntmps92
      go_wp2_with fail
      refine (isnan_int _ _).mono ?_
      rintro e w1 ⟨rfl, rfl⟩
      go_wp2_with fail
      refine (isnan_int _ _).mono ?_
      rintro e w2 ⟨rfl, rfl⟩
      go_wp2
      go_ret
      exact ⟨rfl, rfl⟩
    · have e : Q.cmpi x y = 0 := by unfold Q.cmpi; first | rw [if_pos h1] | (rw [if_neg h1]; first | rw [if_pos h2] | rw [if_neg h2])
      rw [e]; clear e
      go_enter Tryz.func92, Tryz.ntmps92
      go_wp2_with fail
      refine (isnan_int _ _).mono ?_
      rintro e w1 ⟨rfl, rfl⟩
      go_wp2_with fail
      refine (isnan_int _ _).mono ?_
      rintro e w2 ⟨rfl, rfl⟩
      go_wp2
      go_ret
      exact ⟨rfl, rfl⟩

set_option maxHeartbeats 400000 in
theorem isnan_int64 (x : Int) (w : World) :
    Calls Tryz.prog 124 #[.int .i64 x] w fun e w' => e = .returned (.bool false) ∧ w = w' := by
  go_enter Tryz.func124, Tryz.ntmps124
  go_wp2
  go_ret
  exact ⟨rfl, rfl⟩

set_option maxHeartbeats 400000 in
theorem compare_int64 (x y : Int) (w : World) :
    Calls Tryz.prog 94 #[.int .i64 x, .int .i64 y] w fun e w' => e = .returned (.int .i64 (Q.cmpi x y)) ∧ w = w' := by
  by_cases h1 : x < y
  · have e : Q.cmpi x y = -1 := by unfold Q.cmpi; first | rw [if_pos h1] | (rw [if_neg h1]; first | rw [if_pos h2] | rw [if_neg h2])
    rw [e]; clear e
    go_enter Tryz.func94, Tryz.ntmps94
    go_wp2_with fail
    refine (isnan_int64 _ _).mono ?_
    rintro e w1 ⟨rfl, rfl⟩
    go_wp2_with fail
    refine (isnan_int64 _ _).mono ?_
    rintro e w2 ⟨rfl, rfl⟩
    go_wp2
    go_ret
    exact ⟨rfl, rfl⟩
  · by_cases h2 : y < x
    · have e : Q.cmpi x y = 1 := by unfold Q.cmpi; first | rw [if_pos h1] | (rw [if_neg h1]; first | rw [if_pos h2] | rw [if_neg h2])
      rw [e]; clear e
      go_enter Tryz.func94, Tryz.ntmps94
      go_wp2_with fail
      refine (isnan_int64 _ _).mono ?_
      rintro e w1 ⟨rfl, rfl⟩
      go_wp2_with fail
      refine (isnan_int64 _ _).mono ?_
      rintro e w2 ⟨rfl, rfl⟩
      go_wp2
      go_ret
      exact ⟨rfl, rfl⟩
    · have e : Q.cmpi x y = 0 := by unfold Q.cmpi; first | rw [if_pos h1] | (rw [if_neg h1]; first | rw [if_pos h2] | rw [if_neg h2])
      rw [e]; clear e
      go_enter Tryz.func94, Tryz.ntmps94
      go_wp2_with fail
      refine (isnan_int64 _ _).mono ?_
      rintro e w1 ⟨rfl, rfl⟩
      go_wp2_with fail
      refine (isnan_int64 _ _).mono ?_
      rintro e w2 ⟨rfl, rfl⟩
      go_wp2
      go_ret
      exact ⟨rfl, rfl⟩

set_option maxHeartbeats 400000 in
theorem rank_any (an ad : Int) (w : World) :
    Calls Tryz.prog 93 #[.agg #[.int .i64 an, .int .i64 ad]] w fun e w' => e = .returned (.int .i64 (Q.rank (an, ad))) ∧ Below w.heap.size w w' := by
  cases h : Q.isq an ad
  · have e : Q.rank (an, ad) = 0 := by unfold Q.rank; rw [h]; rfl
    rw [e]; clear e
    go_enter Tryz.func93, Tryz.ntmps93
    go_wp2_with fail
    refine (is_any _ _ _).mono ?_
    rintro e w1 ⟨rfl, hb1⟩
    obtain ⟨hc1, hf1, hz1, hB1⟩ := after (a := w) (B := w.heap.size) (w.heap.size + 1) hb1 (by first | (with_reducible assumption) | (simp; done) | omega | (simp; omega)) bl (by omega)
    rw [h]
    go_wp2
    go_ret
    exact ⟨rfl, bl⟩
  · have e : Q.rank (an, ad) = 1 := by unfold Q.rank; rw [h]; rfl
    rw [e]; clear e
    go_enter Tryz.func93, Tryz.ntmps93
    go_wp2_with fail
    refine (is_any _ _ _).mono ?_
    rintro e w1 ⟨rfl, hb1⟩
    obtain ⟨hc1, hf1, hz1, hB1⟩ := after (a := w) (B := w.heap.size) (w.heap.size + 1) hb1 (by first | (with_reducible assumption) | (simp; done) | omega | (simp; omega)) bl (by omega)
    rw [h]
    go_wp2
    go_ret
    exact ⟨rfl, bl⟩

set_option maxHeartbeats 400000 in
theorem cmp_any (an ad bn bd : Int) (w : World) :
    Calls Tryz.prog 68 #[.agg #[.int .i64 an, .int .i64 ad], .agg #[.int .i64 bn, .int .i64 bd]] w fun e w' => e = .returned (.int .i64 (Q.cmp (an, ad) (bn, bd))) ∧ Below w.heap.size w w' := by
  cases h : Q.both (an, ad) (bn, bd)
  · have e : Q.cmp (an, ad) (bn, bd) = Q.cmpi (Q.rank (an, ad)) (Q.rank (bn, bd)) := by unfold Q.cmp; rw [h]; rfl
    rw [e]; clear e
    go_enter Tryz.func68, Tryz.ntmps68
    go_wp2_with fail
    refine (both_any _ _ _ _ _).mono ?_
    rintro e w1 ⟨rfl, hb1⟩
    obtain ⟨hc1, hf1, hz1, hB1⟩ := after (a := w) (B := w.heap.size) (w.heap.size + 2) hb1 (by first | (with_reducible assumption) | (simp; done) | omega | (simp; omega)) bl (by omega)
    rw [h]
    go_wp2
    go_region_held3 (fun w' => w'.cell? ⟨w.heap.size, 0, none⟩ = some (.int .i64 an) ∧ w'.cell? ⟨w.heap.size, 1, none⟩ = some (.int .i64 ad) ∧ w'.cell? ⟨w.heap.size + 1, 0, none⟩ = some (.int .i64 bn) ∧ w'.cell? ⟨w.heap.size + 1, 1, none⟩ = some (.int .i64 bd) ∧ w.heap.size + 2 ≤ w'.heap.size ∧ Below w.heap.size w w') (first | (refine ⟨?_, ?_, ?_, ?_, ?_, ?_⟩ <;> first | assumption | (simp [*]; done) | (simp; omega) | repeat' (first | (with_reducible exact Below.refl _ _) | (with_reducible assumption) | (with_reducible refine drewN_below ?_ _) | (with_reducible refine Below.drew ?_) | (with_reducible refine Below.alloc ?_ ?_ _) | (with_reducible refine Below.setCell ?_ ?_ _) | (simp; done) | omega | (simp; omega)))) (first | (go_at_call 93; refine (rank_any _ _ _).mono ?_; rintro e w2 ⟨rfl, hb2⟩; obtain ⟨hc2, hf2, hz2, hB2⟩ := after (a := w) (B := w.heap.size) (w.heap.size + 2) hb2 (by first | (with_reducible assumption) | (simp; done) | omega | (simp; omega)) bl (by omega)) | (go_at_call 92; refine (compare_int _ _ _).mono ?_; rintro e w3 ⟨rfl, rfl⟩))
    go_wp2
    go_ret
    exact ⟨rfl, bl⟩
  · have e : Q.cmp (an, ad) (bn, bd) = Q.cmpi (an * bd) (bn * ad) := by unfold Q.cmp; rw [h]; rfl
    rw [e]; clear e
    obtain ⟨_, _, _, _, _, _, _, _, _⟩ := Q.bd_of h
    go_enter Tryz.func68, Tryz.ntmps68
    go_wp2_with fail
    refine (both_any _ _ _ _ _).mono ?_
    rintro e w1 ⟨rfl, hb1⟩
    obtain ⟨hc1, hf1, hz1, hB1⟩ := after (a := w) (B := w.heap.size) (w.heap.size + 2) hb1 (by first | (with_reducible assumption) | (simp; done) | omega | (simp; omega)) bl (by omega)
    rw [h]
    go_wp2_with fail
    refine (compare_int64 _ _ _).mono ?_
    rintro e w2 ⟨rfl, rfl⟩
    go_wp2
    go_ret
    exact ⟨rfl, bl⟩

set_option maxHeartbeats 800000 in
theorem rcmp_any (an ad bn bd : Int) (w : World) :
    Calls Tryz.prog 18 #[.agg #[.int .i64 an, .int .i64 ad], .agg #[.int .i64 bn, .int .i64 bd]] w fun e w' => e = .returned (.int .i64 (Q.cmp (an, ad) (bn, bd))) ∧ Below w.heap.size w w' := by
  cases h1 : Q.isq an ad
  · cases h2 : Q.isq bn bd
    · have e : Q.cmp (an, ad) (bn, bd) = 0 := by simp [Q.cmp, Q.both, Q.rank, Q.cmpi, h1, h2]
      rw [e]; clear e
      go_enter Tryz.func18, Tryz.ntmps18
      go_wp2_with fail
      refine (ris_any _ _ _).mono ?_
      rintro e w1 ⟨rfl, hb1⟩
      obtain ⟨hc1, hf1, hz1, hB1⟩ := after (a := w) (B := w.heap.size) (w.heap.size + 2) hb1 (by first | (with_reducible assumption) | (simp; done) | omega | (simp; omega)) bl (by omega)
      rw [h1]
      go_wp2_with fail
      refine (ris_any _ _ _).mono ?_
      rintro e w2 ⟨rfl, hb2⟩
      obtain ⟨hc2, hf2, hz2, hB2⟩ := after (a := w) (B := w.heap.size) (w.heap.size + 2) hb2 (by first | (with_reducible assumption) | (simp; done) | omega | (simp; omega)) bl (by omega)
      rw [h2]
      go_wp2
      go_ret
      exact ⟨rfl, bl⟩
    · have e : Q.cmp (an, ad) (bn, bd) = -1 := by simp [Q.cmp, Q.both, Q.rank, Q.cmpi, h1, h2]
      rw [e]; clear e
      go_enter Tryz.func18, Tryz.ntmps18
      go_wp2_with fail
      refine (ris_any _ _ _).mono ?_
      rintro e w1 ⟨rfl, hb1⟩
      obtain ⟨hc1, hf1, hz1, hB1⟩ := after (a := w) (B := w.heap.size) (w.heap.size + 2) hb1 (by first | (with_reducible assumption) | (simp; done) | omega | (simp; omega)) bl (by omega)
      rw [h1]
      go_wp2_with fail
      refine (ris_any _ _ _).mono ?_
      rintro e w2 ⟨rfl, hb2⟩
      obtain ⟨hc2, hf2, hz2, hB2⟩ := after (a := w) (B := w.heap.size) (w.heap.size + 2) hb2 (by first | (with_reducible assumption) | (simp; done) | omega | (simp; omega)) bl (by omega)
      rw [h2]
      go_wp2_with fail
      refine (ris_any _ _ _).mono ?_
      rintro e w3 ⟨rfl, hb3⟩
      obtain ⟨hc3, hf3, hz3, hB3⟩ := after (a := w) (B := w.heap.size) (w.heap.size + 2) hb3 (by first | (with_reducible assumption) | (simp; done) | omega | (simp; omega)) bl (by omega)
      rw [h1]
      go_wp2
      go_ret
      exact ⟨rfl, bl⟩
  · cases h2 : Q.isq bn bd
    · have e : Q.cmp (an, ad) (bn, bd) = 1 := by simp [Q.cmp, Q.both, Q.rank, Q.cmpi, h1, h2]
      rw [e]; clear e
      go_enter Tryz.func18, Tryz.ntmps18
      go_wp2_with fail
      refine (ris_any _ _ _).mono ?_
      rintro e w1 ⟨rfl, hb1⟩
      obtain ⟨hc1, hf1, hz1, hB1⟩ := after (a := w) (B := w.heap.size) (w.heap.size + 2) hb1 (by first | (with_reducible assumption) | (simp; done) | omega | (simp; omega)) bl (by omega)
      rw [h1]
      go_wp2_with fail
      refine (ris_any _ _ _).mono ?_
      rintro e w2 ⟨rfl, hb2⟩
      obtain ⟨hc2, hf2, hz2, hB2⟩ := after (a := w) (B := w.heap.size) (w.heap.size + 2) hb2 (by first | (with_reducible assumption) | (simp; done) | omega | (simp; omega)) bl (by omega)
      rw [h1]
      go_wp2_with fail
      refine (ris_any _ _ _).mono ?_
      rintro e w3 ⟨rfl, hb3⟩
      obtain ⟨hc3, hf3, hz3, hB3⟩ := after (a := w) (B := w.heap.size) (w.heap.size + 2) hb3 (by first | (with_reducible assumption) | (simp; done) | omega | (simp; omega)) bl (by omega)
      rw [h2]
      go_wp2
      go_ret
      exact ⟨rfl, bl⟩
    · have h : Q.both (an, ad) (bn, bd) = true := by simp [Q.both, h1, h2]
      have e : Q.cmp (an, ad) (bn, bd) = Q.cmpi (an * bd) (bn * ad) := by unfold Q.cmp; rw [h]; rfl
      rw [e]; clear e
      obtain ⟨_, _, _, _, _, _, _, _, _⟩ := Q.bd_of h
      by_cases g0 : an * bd < bn * ad
      · have e : Q.cmpi (an * bd) (bn * ad) = -1 := by unfold Q.cmpi; first | rw [if_pos g0] | (rw [if_neg g0]; first | rw [if_pos g1] | rw [if_neg g1])
        rw [e]; clear e
        go_enter Tryz.func18, Tryz.ntmps18
        go_wp2_with fail
        refine (ris_any _ _ _).mono ?_
        rintro e w1 ⟨rfl, hb1⟩
        obtain ⟨hc1, hf1, hz1, hB1⟩ := after (a := w) (B := w.heap.size) (w.heap.size + 2) hb1 (by first | (with_reducible assumption) | (simp; done) | omega | (simp; omega)) bl (by omega)
        rw [h1]
        go_wp2_with fail
        refine (ris_any _ _ _).mono ?_
        rintro e w2 ⟨rfl, hb2⟩
        obtain ⟨hc2, hf2, hz2, hB2⟩ := after (a := w) (B := w.heap.size) (w.heap.size + 2) hb2 (by first | (with_reducible assumption) | (simp; done) | omega | (simp; omega)) bl (by omega)
        rw [h1]
        go_wp2_with fail
        refine (ris_any _ _ _).mono ?_
        rintro e w3 ⟨rfl, hb3⟩
        obtain ⟨hc3, hf3, hz3, hB3⟩ := after (a := w) (B := w.heap.size) (w.heap.size + 2) hb3 (by first | (with_reducible assumption) | (simp; done) | omega | (simp; omega)) bl (by omega)
        rw [h2]
        go_wp2
        go_ret
        exact ⟨rfl, bl⟩
      · skip
        by_cases g1 : bn * ad < an * bd
        · have e : Q.cmpi (an * bd) (bn * ad) = 1 := by unfold Q.cmpi; first | rw [if_pos g0] | (rw [if_neg g0]; first | rw [if_pos g1] | rw [if_neg g1])
          rw [e]; clear e
          go_enter Tryz.func18, Tryz.ntmps18
          go_wp2_with fail
          refine (ris_any _ _ _).mono ?_
          rintro e w1 ⟨rfl, hb1⟩
          obtain ⟨hc1, hf1, hz1, hB1⟩ := after (a := w) (B := w.heap.size) (w.heap.size + 2) hb1 (by first | (with_reducible assumption) | (simp; done) | omega | (simp; omega)) bl (by omega)
          rw [h1]
          go_wp2_with fail
          refine (ris_any _ _ _).mono ?_
          rintro e w2 ⟨rfl, hb2⟩
          obtain ⟨hc2, hf2, hz2, hB2⟩ := after (a := w) (B := w.heap.size) (w.heap.size + 2) hb2 (by first | (with_reducible assumption) | (simp; done) | omega | (simp; omega)) bl (by omega)
          rw [h1]
          go_wp2_with fail
          refine (ris_any _ _ _).mono ?_
          rintro e w3 ⟨rfl, hb3⟩
          obtain ⟨hc3, hf3, hz3, hB3⟩ := after (a := w) (B := w.heap.size) (w.heap.size + 2) hb3 (by first | (with_reducible assumption) | (simp; done) | omega | (simp; omega)) bl (by omega)
          rw [h2]
          go_wp2
          go_ret
          exact ⟨rfl, bl⟩
        · skip
          have e : Q.cmpi (an * bd) (bn * ad) = 0 := by unfold Q.cmpi; first | rw [if_pos g0] | (rw [if_neg g0]; first | rw [if_pos g1] | rw [if_neg g1])
          rw [e]; clear e
          go_enter Tryz.func18, Tryz.ntmps18
          go_wp2_with fail
          refine (ris_any _ _ _).mono ?_
          rintro e w1 ⟨rfl, hb1⟩
          obtain ⟨hc1, hf1, hz1, hB1⟩ := after (a := w) (B := w.heap.size) (w.heap.size + 2) hb1 (by first | (with_reducible assumption) | (simp; done) | omega | (simp; omega)) bl (by omega)
          rw [h1]
          go_wp2_with fail
          refine (ris_any _ _ _).mono ?_
          rintro e w2 ⟨rfl, hb2⟩
          obtain ⟨hc2, hf2, hz2, hB2⟩ := after (a := w) (B := w.heap.size) (w.heap.size + 2) hb2 (by first | (with_reducible assumption) | (simp; done) | omega | (simp; omega)) bl (by omega)
          rw [h1]
          go_wp2_with fail
          refine (ris_any _ _ _).mono ?_
          rintro e w3 ⟨rfl, hb3⟩
          obtain ⟨hc3, hf3, hz3, hB3⟩ := after (a := w) (B := w.heap.size) (w.heap.size + 2) hb3 (by first | (with_reducible assumption) | (simp; done) | omega | (simp; omega)) bl (by omega)
          rw [h2]
          go_wp2
          go_ret
          exact ⟨rfl, bl⟩

set_option maxHeartbeats 400000 in
theorem whole_any (n : Int) (hn : -9223372036854775808 ≤ n ∧ n ≤ 9223372036854775807) (w : World) :
    Calls Tryz.prog 128 #[.int .i64 n] w fun e w' => e = .returned (.agg #[.int .i64 (Q.mk n 1).1, .int .i64 (Q.mk n 1).2]) ∧ Below w.heap.size w w' := by
  obtain ⟨r, s, hr⟩ : ∃ r s, Hid (Q.mk n 1 = (r, s)) := ⟨_, _, rfl⟩
  rw [hr.out]
  go_enter Tryz.func128, Tryz.ntmps128
  go_wp2_with fail
  refine (make_any _ _ (by omega) (by omega) _).mono ?_
  rintro e w1 ⟨rfl, hb1⟩
  obtain ⟨hc1, hf1, hz1, hB1⟩ := after (a := w) (B := w.heap.size) (w.heap.size + 1) hb1 (by first | (with_reducible assumption) | (simp; done) | omega | (simp; omega)) bl (by omega)
  rw [hr.out]
  go_wp2
  exact bodyPost_ret (v := .agg #[.int .i64 r, .int .i64 s]) (by simp [results, Tryz.results128, go_sem, hc1]) rfl ⟨rfl, bl⟩

set_option maxHeartbeats 400000 in
theorem rwhole_any (n : Int) (hn : -9223372036854775808 ≤ n ∧ n ≤ 9223372036854775807) (w : World) :
    Calls Tryz.prog 13 #[.int .i64 n] w fun e w' => e = .returned (.agg #[.int .i64 (Q.mk n 1).1, .int .i64 (Q.mk n 1).2]) ∧ Below w.heap.size w w' := by
  obtain ⟨r, s, hr⟩ : ∃ r s, Hid (Q.mk n 1 = (r, s)) := ⟨_, _, rfl⟩
  rw [hr.out]
  go_enter Tryz.func13, Tryz.ntmps13
  go_wp2_with fail
  refine (rmake_all _ _ (by omega) (by omega) _).mono ?_
  rintro e w1 ⟨rfl, hb1⟩
  obtain ⟨hc1, hf1, hz1, hB1⟩ := after (a := w) (B := w.heap.size) (w.heap.size + 1) hb1 (by first | (with_reducible assumption) | (simp; done) | omega | (simp; omega)) bl (by omega)
  rw [hr.out]
  go_wp2
  exact bodyPost_ret (v := .agg #[.int .i64 r, .int .i64 s]) (by simp [results, Tryz.results13, go_sem, hc1]) rfl ⟨rfl, bl⟩

set_option maxHeartbeats 400000 in
theorem neg_any (an ad : Int) (w : World) :
    Calls Tryz.prog 64 #[.agg #[.int .i64 an, .int .i64 ad]] w fun e w' => e = .returned (.agg #[.int .i64 (Q.neg (an, ad)).1, .int .i64 (Q.neg (an, ad)).2]) ∧ Below w.heap.size w w' := by
  cases h : Q.isq an ad
  · have e : Q.neg (an, ad) = (0, 0) := by unfold Q.neg; rw [h]; rfl
    rw [e]; clear e
    go_enter Tryz.func64, Tryz.ntmps64
    go_wp2_with fail
    refine (is_any _ _ _).mono ?_
    rintro e w1 ⟨rfl, hb1⟩
    obtain ⟨hc1, hf1, hz1, hB1⟩ := after (a := w) (B := w.heap.size) (w.heap.size + 2) hb1 (by first | (with_reducible assumption) | (simp; done) | omega | (simp; omega)) bl (by omega)
    rw [h]
    go_wp2
    exact bodyPost_ret (v := .agg #[.int .i64 0, .int .i64 0]) (by simp [results, Tryz.results64, go_sem, hc1]) rfl ⟨rfl, bl⟩
  · have e : Q.neg (an, ad) = (-an, ad) := by unfold Q.neg; rw [h]; rfl
    rw [e]; clear e
    have hq := (Q.isq_iff _ _).1 h
    obtain ⟨hq1, hq2, _, _, _⟩ := hq
    go_enter Tryz.func64, Tryz.ntmps64
    go_wp2_with fail
    refine (is_any _ _ _).mono ?_
    rintro e w1 ⟨rfl, hb1⟩
    obtain ⟨hc1, hf1, hz1, hB1⟩ := after (a := w) (B := w.heap.size) (w.heap.size + 2) hb1 (by first | (with_reducible assumption) | (simp; done) | omega | (simp; omega)) bl (by omega)
    rw [h]
    go_wp2
    exact bodyPost_ret (v := .agg #[.int .i64 (-an), .int .i64 ad]) (by simp [results, Tryz.results64, go_sem, hc1]) rfl ⟨rfl, bl⟩

set_option maxHeartbeats 400000 in
theorem rneg_any (an ad : Int) (w : World) :
    Calls Tryz.prog 32 #[.agg #[.int .i64 an, .int .i64 ad]] w fun e w' => e = .returned (.agg #[.int .i64 (Q.neg (an, ad)).1, .int .i64 (Q.neg (an, ad)).2]) ∧ Below w.heap.size w w' := by
  cases h : Q.isq an ad
  · have e : Q.neg (an, ad) = (0, 0) := by unfold Q.neg; rw [h]; rfl
    rw [e]; clear e
    go_enter Tryz.func32, Tryz.ntmps32
    go_wp2_with fail
    refine (ris_any _ _ _).mono ?_
    rintro e w1 ⟨rfl, hb1⟩
    obtain ⟨hc1, hf1, hz1, hB1⟩ := after (a := w) (B := w.heap.size) (w.heap.size + 2) hb1 (by first | (with_reducible assumption) | (simp; done) | omega | (simp; omega)) bl (by omega)
    rw [h]
    go_wp2_with fail
    refine (rnone_any _).mono ?_
    rintro e w2 ⟨rfl, hb2⟩
    obtain ⟨hc2, hf2, hz2, hB2⟩ := after (a := w) (B := w.heap.size) (w.heap.size + 2) hb2 (by first | (with_reducible assumption) | (simp; done) | omega | (simp; omega)) bl (by omega)
    go_wp2
    exact bodyPost_ret (v := .agg #[.int .i64 0, .int .i64 0]) (by simp [results, Tryz.results32, go_sem, hc2, hc1]) rfl ⟨rfl, bl⟩
  · have e : Q.neg (an, ad) = (-an, ad) := by unfold Q.neg; rw [h]; rfl
    rw [e]; clear e
    have hq := (Q.isq_iff _ _).1 h
    obtain ⟨hq1, hq2, _, _, _⟩ := hq
    go_enter Tryz.func32, Tryz.ntmps32
    go_wp2_with fail
    refine (ris_any _ _ _).mono ?_
    rintro e w1 ⟨rfl, hb1⟩
    obtain ⟨hc1, hf1, hz1, hB1⟩ := after (a := w) (B := w.heap.size) (w.heap.size + 2) hb1 (by first | (with_reducible assumption) | (simp; done) | omega | (simp; omega)) bl (by omega)
    rw [h]
    go_wp2
    exact bodyPost_ret (v := .agg #[.int .i64 (-an), .int .i64 ad]) (by simp [results, Tryz.results32, go_sem, hc1]) rfl ⟨rfl, bl⟩

end Go.Proofs.YtiiddikiaafanaaGreatDoor.R
