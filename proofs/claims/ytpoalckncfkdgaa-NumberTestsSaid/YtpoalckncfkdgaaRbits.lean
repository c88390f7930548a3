/-
  The specification's own Bits by a name: what it gives.
-/
import Derived.Test.YtpoalckncfkdgaaDigits
import Derived.Test.YtpoalckncfkdgaaSays
namespace Go.Proofs.Ytpoalckncfkdgaa
open Go.RowKit

set_option maxRecDepth 100000 in
set_option maxHeartbeats 6400000 in
theorem rbits_any (s : ByteArray) (an ad bn bd : Int) (w : World) :
    Calls Try.prog 47 #[.string s, .agg #[.int .i64 an, .int .i64 ad], .agg #[.int .i64 bn, .int .i64 bd]] w fun e w' => e = .returned (.agg #[.int .i64 (Q.bts s.toList (an, ad) (bn, bd)).1, .int .i64 (Q.bts s.toList (an, ad) (bn, bd)).2]) ∧ Below w.heap.size w w' := by
  cases h : Q.both (an, ad) (bn, bd)
  · have e : Q.bts s.toList (an, ad) (bn, bd) = (0, 0) := by unfold Q.bts; rw [h]; rfl
    rw [e]; clear e
    go_enter Try.func47, Try.ntmps47
    go_wp2_with fail
    refine (rboth_any _ _ _ _ _).mono ?_
    rintro e w1 ⟨rfl, hb1⟩
    obtain ⟨hc1, hf1, hz1, hB1⟩ := after (a := w) (B := w.heap.size) (w.heap.size + 3) hb1 (by first | (with_reducible assumption) | (simp; done) | omega | (simp; omega)) (by repeat' (first | (with_reducible exact Below.refl _ _) | (with_reducible assumption) | (with_reducible refine drewN_below ?_ _) | (with_reducible refine Below.drew ?_) | (with_reducible refine Below.alloc ?_ ?_ _) | (with_reducible refine Below.setCell ?_ ?_ _) | (simp; done) | omega | (simp; omega))) (by omega)
    rw [h]
    go_wp2_with fail
    refine (rnone_any _).mono ?_
    rintro e w2 ⟨rfl, hb2⟩
    obtain ⟨hc2, hf2, hz2, hB2⟩ := after (a := w) (B := w.heap.size) (w.heap.size + 3) hb2 (by first | (with_reducible assumption) | (simp; done) | omega | (simp; omega)) (by repeat' (first | (with_reducible exact Below.refl _ _) | (with_reducible assumption) | (with_reducible refine drewN_below ?_ _) | (with_reducible refine Below.drew ?_) | (with_reducible refine Below.alloc ?_ ?_ _) | (with_reducible refine Below.setCell ?_ ?_ _) | (simp; done) | omega | (simp; omega))) (by omega)
    go_wp2
    exact bodyPost_ret (v := .agg #[.int .i64 0, .int .i64 0]) (by simp [results, Try.results47, go_sem, hc2, hc1]) rfl ⟨rfl, (by repeat' (first | (with_reducible exact Below.refl _ _) | (with_reducible assumption) | (with_reducible refine drewN_below ?_ _) | (with_reducible refine Below.drew ?_) | (with_reducible refine Below.alloc ?_ ?_ _) | (with_reducible refine Below.setCell ?_ ?_ _) | (simp; done) | omega | (simp; omega)))⟩
  by_cases g : ad = 1
  rotate_left
  · have e : Q.bts s.toList (an, ad) (bn, bd) = (0, 0) := by unfold Q.bts; rw [h]; simp [g]
    rw [e]; clear e
    have g1 : (ad != 1) = true := by rw [bne_iff_ne]; exact g
    go_enter Try.func47, Try.ntmps47
    go_wp2_with fail
    refine (rboth_any _ _ _ _ _).mono ?_
    rintro e w1 ⟨rfl, hb1⟩
    obtain ⟨hc1, hf1, hz1, hB1⟩ := after (a := w) (B := w.heap.size) (w.heap.size + 3) hb1 (by first | (with_reducible assumption) | (simp; done) | omega | (simp; omega)) (by repeat' (first | (with_reducible exact Below.refl _ _) | (with_reducible assumption) | (with_reducible refine drewN_below ?_ _) | (with_reducible refine Below.drew ?_) | (with_reducible refine Below.alloc ?_ ?_ _) | (with_reducible refine Below.setCell ?_ ?_ _) | (simp; done) | omega | (simp; omega))) (by omega)
    rw [h]
    go_wp2_with fail
    refine (rnone_any _).mono ?_
    rintro e w2 ⟨rfl, hb2⟩
    obtain ⟨hc2, hf2, hz2, hB2⟩ := after (a := w) (B := w.heap.size) (w.heap.size + 3) hb2 (by first | (with_reducible assumption) | (simp; done) | omega | (simp; omega)) (by repeat' (first | (with_reducible exact Below.refl _ _) | (with_reducible assumption) | (with_reducible refine drewN_below ?_ _) | (with_reducible refine Below.drew ?_) | (with_reducible refine Below.alloc ?_ ?_ _) | (with_reducible refine Below.setCell ?_ ?_ _) | (simp; done) | omega | (simp; omega))) (by omega)
    go_wp2
    exact bodyPost_ret (v := .agg #[.int .i64 0, .int .i64 0]) (by simp [results, Try.results47, go_sem, hc2, hc1]) rfl ⟨rfl, (by repeat' (first | (with_reducible exact Below.refl _ _) | (with_reducible assumption) | (with_reducible refine drewN_below ?_ _) | (with_reducible refine Below.drew ?_) | (with_reducible refine Below.alloc ?_ ?_ _) | (with_reducible refine Below.setCell ?_ ?_ _) | (simp; done) | omega | (simp; omega)))⟩
  subst g
  by_cases g : bd = 1
  rotate_left
  · have e : Q.bts s.toList (an, 1) (bn, bd) = (0, 0) := by unfold Q.bts; rw [h]; simp [g]
    rw [e]; clear e
    have g1 : (bd != 1) = true := by rw [bne_iff_ne]; exact g
    go_enter Try.func47, Try.ntmps47
    go_wp2_with fail
    refine (rboth_any _ _ _ _ _).mono ?_
    rintro e w1 ⟨rfl, hb1⟩
    obtain ⟨hc1, hf1, hz1, hB1⟩ := after (a := w) (B := w.heap.size) (w.heap.size + 3) hb1 (by first | (with_reducible assumption) | (simp; done) | omega | (simp; omega)) (by repeat' (first | (with_reducible exact Below.refl _ _) | (with_reducible assumption) | (with_reducible refine drewN_below ?_ _) | (with_reducible refine Below.drew ?_) | (with_reducible refine Below.alloc ?_ ?_ _) | (with_reducible refine Below.setCell ?_ ?_ _) | (simp; done) | omega | (simp; omega))) (by omega)
    rw [h]
    go_wp2_with fail
    refine (rnone_any _).mono ?_
    rintro e w2 ⟨rfl, hb2⟩
    obtain ⟨hc2, hf2, hz2, hB2⟩ := after (a := w) (B := w.heap.size) (w.heap.size + 3) hb2 (by first | (with_reducible assumption) | (simp; done) | omega | (simp; omega)) (by repeat' (first | (with_reducible exact Below.refl _ _) | (with_reducible assumption) | (with_reducible refine drewN_below ?_ _) | (with_reducible refine Below.drew ?_) | (with_reducible refine Below.alloc ?_ ?_ _) | (with_reducible refine Below.setCell ?_ ?_ _) | (simp; done) | omega | (simp; omega))) (by omega)
    go_wp2
    exact bodyPost_ret (v := .agg #[.int .i64 0, .int .i64 0]) (by simp [results, Try.results47, go_sem, hc2, hc1]) rfl ⟨rfl, (by repeat' (first | (with_reducible exact Below.refl _ _) | (with_reducible assumption) | (with_reducible refine drewN_below ?_ _) | (with_reducible refine Below.drew ?_) | (with_reducible refine Below.alloc ?_ ?_ _) | (with_reducible refine Below.setCell ?_ ?_ _) | (simp; done) | omega | (simp; omega)))⟩
  subst g
  have ha : Q.isq an 1 = true := ((Q.both_iff _ _).1 h).1
  have hb : Q.isq bn 1 = true := ((Q.both_iff _ _).1 h).2
  have hq := (Q.isq_iff _ _).1 ha
  obtain ⟨hq1, hq2, _, _, _⟩ := hq
  have hq := (Q.isq_iff _ _).1 hb
  obtain ⟨hq3, hq4, _, _, _⟩ := hq
  cases e0 : (s.toList == [97, 110, 100])
  rotate_left
  · skip
    obtain ⟨r, t, hr⟩ : ∃ r t, Hid (Q.mk (Q.logic Q.land an bn) 1 = (r, t)) := ⟨_, _, rfl⟩
    have e : Q.bts s.toList (an, 1) (bn, 1) = Q.mk (Q.logic Q.land an bn) 1 := by unfold Q.bts; rw [h, e0]; first | rfl | (simp; done)
    rw [e, hr.out]; clear e
    have hl := Q.logic_bd Q.land Q.land_01 an bn
    go_enter Try.func47, Try.ntmps47
    go_wp2_with fail
    refine (rboth_any _ _ _ _ _).mono ?_
    rintro e w1 ⟨rfl, hb1⟩
    obtain ⟨hc1, hf1, hz1, hB1⟩ := after (a := w) (B := w.heap.size) (w.heap.size + 3) hb1 (by first | (with_reducible assumption) | (simp; done) | omega | (simp; omega)) (by repeat' (first | (with_reducible exact Below.refl _ _) | (with_reducible assumption) | (with_reducible refine drewN_below ?_ _) | (with_reducible refine Below.drew ?_) | (with_reducible refine Below.alloc ?_ ?_ _) | (with_reducible refine Below.setCell ?_ ?_ _) | (simp; done) | omega | (simp; omega))) (by omega)
    rw [h]
    go_wp2_with fail
    refine (logic_and _ _ _ e0 ⟨hq1, hq2⟩ ⟨hq3, hq4⟩ _).mono ?_
    rintro e w2 ⟨rfl, rfl⟩
    go_wp2_with fail
    refine (rwhole_any _ (by omega) _).mono ?_
    rintro e w3 ⟨rfl, hb3⟩
    obtain ⟨hc3, hf3, hz3, hB3⟩ := after (a := w) (B := w.heap.size) (w.heap.size + 3) hb3 (by first | (with_reducible assumption) | (simp; done) | omega | (simp; omega)) (by repeat' (first | (with_reducible exact Below.refl _ _) | (with_reducible assumption) | (with_reducible refine drewN_below ?_ _) | (with_reducible refine Below.drew ?_) | (with_reducible refine Below.alloc ?_ ?_ _) | (with_reducible refine Below.setCell ?_ ?_ _) | (simp; done) | omega | (simp; omega))) (by omega)
    rw [hr.out]
    go_wp2
    exact bodyPost_ret (v := .agg #[.int .i64 r, .int .i64 t]) (by simp [results, Try.results47, go_sem, hc3, hc1]) rfl ⟨rfl, (by repeat' (first | (with_reducible exact Below.refl _ _) | (with_reducible assumption) | (with_reducible refine drewN_below ?_ _) | (with_reducible refine Below.drew ?_) | (with_reducible refine Below.alloc ?_ ?_ _) | (with_reducible refine Below.setCell ?_ ?_ _) | (simp; done) | omega | (simp; omega)))⟩
  cases e1 : (s.toList == [111, 114])
  rotate_left
  · skip
    obtain ⟨r, t, hr⟩ : ∃ r t, Hid (Q.mk (Q.logic Q.lor an bn) 1 = (r, t)) := ⟨_, _, rfl⟩
    have e : Q.bts s.toList (an, 1) (bn, 1) = Q.mk (Q.logic Q.lor an bn) 1 := by unfold Q.bts; rw [h, e0, e1]; first | rfl | (simp; done)
    rw [e, hr.out]; clear e
    have hl := Q.logic_bd Q.lor Q.lor_01 an bn
    go_enter Try.func47, Try.ntmps47
    go_wp2_with fail
    refine (rboth_any _ _ _ _ _).mono ?_
    rintro e w1 ⟨rfl, hb1⟩
    obtain ⟨hc1, hf1, hz1, hB1⟩ := after (a := w) (B := w.heap.size) (w.heap.size + 3) hb1 (by first | (with_reducible assumption) | (simp; done) | omega | (simp; omega)) (by repeat' (first | (with_reducible exact Below.refl _ _) | (with_reducible assumption) | (with_reducible refine drewN_below ?_ _) | (with_reducible refine Below.drew ?_) | (with_reducible refine Below.alloc ?_ ?_ _) | (with_reducible refine Below.setCell ?_ ?_ _) | (simp; done) | omega | (simp; omega))) (by omega)
    rw [h]
    go_wp2_with fail
    refine (logic_or _ _ _ e0 e1 ⟨hq1, hq2⟩ ⟨hq3, hq4⟩ _).mono ?_
    rintro e w2 ⟨rfl, rfl⟩
    go_wp2_with fail
    refine (rwhole_any _ (by omega) _).mono ?_
    rintro e w3 ⟨rfl, hb3⟩
    obtain ⟨hc3, hf3, hz3, hB3⟩ := after (a := w) (B := w.heap.size) (w.heap.size + 3) hb3 (by first | (with_reducible assumption) | (simp; done) | omega | (simp; omega)) (by repeat' (first | (with_reducible exact Below.refl _ _) | (with_reducible assumption) | (with_reducible refine drewN_below ?_ _) | (with_reducible refine Below.drew ?_) | (with_reducible refine Below.alloc ?_ ?_ _) | (with_reducible refine Below.setCell ?_ ?_ _) | (simp; done) | omega | (simp; omega))) (by omega)
    rw [hr.out]
    go_wp2
    exact bodyPost_ret (v := .agg #[.int .i64 r, .int .i64 t]) (by simp [results, Try.results47, go_sem, hc3, hc1]) rfl ⟨rfl, (by repeat' (first | (with_reducible exact Below.refl _ _) | (with_reducible assumption) | (with_reducible refine drewN_below ?_ _) | (with_reducible refine Below.drew ?_) | (with_reducible refine Below.alloc ?_ ?_ _) | (with_reducible refine Below.setCell ?_ ?_ _) | (simp; done) | omega | (simp; omega)))⟩
  cases e2 : (s.toList == [120, 111, 114])
  rotate_left
  · skip
    obtain ⟨r, t, hr⟩ : ∃ r t, Hid (Q.mk (Q.logic Q.lxor an bn) 1 = (r, t)) := ⟨_, _, rfl⟩
    have e : Q.bts s.toList (an, 1) (bn, 1) = Q.mk (Q.logic Q.lxor an bn) 1 := by unfold Q.bts; rw [h, e0, e1, e2]; first | rfl | (simp; done)
    rw [e, hr.out]; clear e
    have hl := Q.logic_bd Q.lxor Q.lxor_01 an bn
    go_enter Try.func47, Try.ntmps47
    go_wp2_with fail
    refine (rboth_any _ _ _ _ _).mono ?_
    rintro e w1 ⟨rfl, hb1⟩
    obtain ⟨hc1, hf1, hz1, hB1⟩ := after (a := w) (B := w.heap.size) (w.heap.size + 3) hb1 (by first | (with_reducible assumption) | (simp; done) | omega | (simp; omega)) (by repeat' (first | (with_reducible exact Below.refl _ _) | (with_reducible assumption) | (with_reducible refine drewN_below ?_ _) | (with_reducible refine Below.drew ?_) | (with_reducible refine Below.alloc ?_ ?_ _) | (with_reducible refine Below.setCell ?_ ?_ _) | (simp; done) | omega | (simp; omega))) (by omega)
    rw [h]
    go_wp2_with fail
    refine (logic_xor _ _ _ e0 e1 ⟨hq1, hq2⟩ ⟨hq3, hq4⟩ _).mono ?_
    rintro e w2 ⟨rfl, rfl⟩
    go_wp2_with fail
    refine (rwhole_any _ (by omega) _).mono ?_
    rintro e w3 ⟨rfl, hb3⟩
    obtain ⟨hc3, hf3, hz3, hB3⟩ := after (a := w) (B := w.heap.size) (w.heap.size + 3) hb3 (by first | (with_reducible assumption) | (simp; done) | omega | (simp; omega)) (by repeat' (first | (with_reducible exact Below.refl _ _) | (with_reducible assumption) | (with_reducible refine drewN_below ?_ _) | (with_reducible refine Below.drew ?_) | (with_reducible refine Below.alloc ?_ ?_ _) | (with_reducible refine Below.setCell ?_ ?_ _) | (simp; done) | omega | (simp; omega))) (by omega)
    rw [hr.out]
    go_wp2
    exact bodyPost_ret (v := .agg #[.int .i64 r, .int .i64 t]) (by simp [results, Try.results47, go_sem, hc3, hc1]) rfl ⟨rfl, (by repeat' (first | (with_reducible exact Below.refl _ _) | (with_reducible assumption) | (with_reducible refine drewN_below ?_ _) | (with_reducible refine Below.drew ?_) | (with_reducible refine Below.alloc ?_ ?_ _) | (with_reducible refine Below.setCell ?_ ?_ _) | (simp; done) | omega | (simp; omega)))⟩
  cases e3 : (s.toList == [115, 104, 108])
  rotate_left
  · skip
    by_cases g : bn < 0
    · have e : Q.bts s.toList (an, 1) (bn, 1) = (0, 0) := by
        have e' : Q.sh false an bn = (0, 0) := by unfold Q.sh; rw [if_pos (by omega)]
        rw [← e']; unfold Q.bts; rw [h, e0, e1, e2, e3]; first | rfl | (simp; done)
      rw [e]; clear e
      go_enter Try.func47, Try.ntmps47
      go_wp2_with fail
      refine (rboth_any _ _ _ _ _).mono ?_
      rintro e w1 ⟨rfl, hb1⟩
      obtain ⟨hc1, hf1, hz1, hB1⟩ := after (a := w) (B := w.heap.size) (w.heap.size + 3) hb1 (by first | (with_reducible assumption) | (simp; done) | omega | (simp; omega)) (by repeat' (first | (with_reducible exact Below.refl _ _) | (with_reducible assumption) | (with_reducible refine drewN_below ?_ _) | (with_reducible refine Below.drew ?_) | (with_reducible refine Below.alloc ?_ ?_ _) | (with_reducible refine Below.setCell ?_ ?_ _) | (simp; done) | omega | (simp; omega))) (by omega)
      rw [h]
      go_wp2_with fail
      refine (rnone_any _).mono ?_
      rintro e w2 ⟨rfl, hb2⟩
      obtain ⟨hc2, hf2, hz2, hB2⟩ := after (a := w) (B := w.heap.size) (w.heap.size + 3) hb2 (by first | (with_reducible assumption) | (simp; done) | omega | (simp; omega)) (by repeat' (first | (with_reducible exact Below.refl _ _) | (with_reducible assumption) | (with_reducible refine drewN_below ?_ _) | (with_reducible refine Below.drew ?_) | (with_reducible refine Below.alloc ?_ ?_ _) | (with_reducible refine Below.setCell ?_ ?_ _) | (simp; done) | omega | (simp; omega))) (by omega)
      go_wp2
      exact bodyPost_ret (v := .agg #[.int .i64 0, .int .i64 0]) (by simp [results, Try.results47, go_sem, hc2, hc1]) rfl ⟨rfl, (by repeat' (first | (with_reducible exact Below.refl _ _) | (with_reducible assumption) | (with_reducible refine drewN_below ?_ _) | (with_reducible refine Below.drew ?_) | (with_reducible refine Below.alloc ?_ ?_ _) | (with_reducible refine Below.setCell ?_ ?_ _) | (simp; done) | omega | (simp; omega)))⟩
    have g0 : ¬ bn < 0 := g
    clear g
    by_cases g : 62 < bn
    · have e : Q.bts s.toList (an, 1) (bn, 1) = (0, 0) := by
        have e' : Q.sh false an bn = (0, 0) := by unfold Q.sh; rw [if_pos (by omega)]
        rw [← e']; unfold Q.bts; rw [h, e0, e1, e2, e3]; first | rfl | (simp; done)
      rw [e]; clear e
      have g0' : ¬ bn < 0 := by omega
      go_enter Try.func47, Try.ntmps47
      go_wp2_with fail
      refine (rboth_any _ _ _ _ _).mono ?_
      rintro e w1 ⟨rfl, hb1⟩
      obtain ⟨hc1, hf1, hz1, hB1⟩ := after (a := w) (B := w.heap.size) (w.heap.size + 3) hb1 (by first | (with_reducible assumption) | (simp; done) | omega | (simp; omega)) (by repeat' (first | (with_reducible exact Below.refl _ _) | (with_reducible assumption) | (with_reducible refine drewN_below ?_ _) | (with_reducible refine Below.drew ?_) | (with_reducible refine Below.alloc ?_ ?_ _) | (with_reducible refine Below.setCell ?_ ?_ _) | (simp; done) | omega | (simp; omega))) (by omega)
      rw [h]
      go_wp2_with fail
      refine (rnone_any _).mono ?_
      rintro e w2 ⟨rfl, hb2⟩
      obtain ⟨hc2, hf2, hz2, hB2⟩ := after (a := w) (B := w.heap.size) (w.heap.size + 3) hb2 (by first | (with_reducible assumption) | (simp; done) | omega | (simp; omega)) (by repeat' (first | (with_reducible exact Below.refl _ _) | (with_reducible assumption) | (with_reducible refine drewN_below ?_ _) | (with_reducible refine Below.drew ?_) | (with_reducible refine Below.alloc ?_ ?_ _) | (with_reducible refine Below.setCell ?_ ?_ _) | (simp; done) | omega | (simp; omega))) (by omega)
      go_wp2
      exact bodyPost_ret (v := .agg #[.int .i64 0, .int .i64 0]) (by simp [results, Try.results47, go_sem, hc2, hc1]) rfl ⟨rfl, (by repeat' (first | (with_reducible exact Below.refl _ _) | (with_reducible assumption) | (with_reducible refine drewN_below ?_ _) | (with_reducible refine Below.drew ?_) | (with_reducible refine Below.alloc ?_ ?_ _) | (with_reducible refine Below.setCell ?_ ?_ _) | (simp; done) | omega | (simp; omega)))⟩
    have g1 : ¬ 62 < bn := g
    clear g
    obtain ⟨p, rfl⟩ : ∃ p : Nat, bn = (p : Int) := ⟨bn.toNat, by omega⟩
    obtain ⟨r, t, hr⟩ : ∃ r t, Hid (Q.dbl an p = (r, t)) := ⟨_, _, rfl⟩
    have e : Q.bts s.toList (an, 1) (p, 1) = Q.dbl an p := by
      have e' : Q.sh false an p = Q.dbl an p := by unfold Q.sh; rw [if_neg (by omega)]; simp
      rw [← e']; unfold Q.bts; rw [h, e0, e1, e2, e3]; first | rfl | (simp; done)
    rw [e, hr.out]; clear e
    have E2 : Hid (Q.mk 2 1 = (2, 1)) := Lib.hid (by decide)
    have hp62 : p ≤ 62 := by omega
    go_enter Try.func47, Try.ntmps47
    go_wp2_with fail
    refine (rboth_any _ _ _ _ _).mono ?_
    rintro e w1 ⟨rfl, hb1⟩
    obtain ⟨hc1, hf1, hz1, hB1⟩ := after (a := w) (B := w.heap.size) (w.heap.size + 3) hb1 (by first | (with_reducible assumption) | (simp; done) | omega | (simp; omega)) (by repeat' (first | (with_reducible exact Below.refl _ _) | (with_reducible assumption) | (with_reducible refine drewN_below ?_ _) | (with_reducible refine Below.drew ?_) | (with_reducible refine Below.alloc ?_ ?_ _) | (with_reducible refine Below.setCell ?_ ?_ _) | (simp; done) | omega | (simp; omega))) (by omega)
    rw [h]
    have cB0 : w1.cell? ⟨w.heap.size + 1, 0, none⟩ = some (.int .i64 (p : Int)) := by rw [hb1.cell (p := ⟨w.heap.size + 1, 0, none⟩) (by first | (with_reducible assumption) | (simp; done) | omega | (simp; omega))]; simp [go_sem]
    have cR0 : w1.cell? ⟨w.heap.size + 2, 0, none⟩ = some (.int .i64 0) := by rw [hb1.cell (p := ⟨w.heap.size + 2, 0, none⟩) (by first | (with_reducible assumption) | (simp; done) | omega | (simp; omega))]; simp [go_sem]
    have zR0 : w1.frozen? ⟨w.heap.size + 2, 0, none⟩ = false := by rw [hb1.frozen (p := ⟨w.heap.size + 2, 0, none⟩) (by first | (with_reducible assumption) | (simp; done) | omega | (simp; omega))]; simp [go_sem]
    have cR1 : w1.cell? ⟨w.heap.size + 2, 1, none⟩ = some (.int .i64 0) := by rw [hb1.cell (p := ⟨w.heap.size + 2, 1, none⟩) (by first | (with_reducible assumption) | (simp; done) | omega | (simp; omega))]; simp [go_sem]
    have zR1 : w1.frozen? ⟨w.heap.size + 2, 1, none⟩ = false := by rw [hb1.frozen (p := ⟨w.heap.size + 2, 1, none⟩) (by first | (with_reducible assumption) | (simp; done) | omega | (simp; omega))]; simp [go_sem]
    have bB : w.heap.size + 1 < w1.heap.size := by omega
    have bR : w.heap.size + 2 < w1.heap.size := by omega
    go_wp2
    clear hc1 hf1 hb1
    go_loopw [8] (fun t wr => ∃ (k : Nat) (x y : Int), t = .int .i64 k ∧ k ≤ p ∧ Hid (Q.dbl an k = (x, y)) ∧ wr.cell? ⟨w1.heap.size, 0, none⟩ = some (.int .i64 x) ∧ wr.cell? ⟨w1.heap.size, 1, none⟩ = some (.int .i64 y) ∧ wr.frozen? ⟨w1.heap.size, 0, none⟩ = false ∧ wr.frozen? ⟨w1.heap.size, 1, none⟩ = false ∧ w1.heap.size + 1 ≤ wr.heap.size ∧ Below w1.heap.size w1 wr) (fun t _ => p - (intOf t).toNat)
    case atStart => exact ⟨0, an, 1, by first | rfl | go_num, by omega, Lib.hid (Q.dbl_zero ha), by simp [go_sem], by simp [go_sem], by simp [go_sem], by simp [go_sem], by simp, (by repeat' (first | (with_reducible exact Below.refl _ _) | (with_reducible assumption) | (with_reducible refine drewN_below ?_ _) | (with_reducible refine Below.drew ?_) | (with_reducible refine Below.alloc ?_ ?_ _) | (with_reducible refine Below.setCell ?_ ?_ _) | (simp; done) | omega | (simp; omega)))⟩
    case round =>
      obtain ⟨k, x, y, rfl, hk, hxy, hx0, hy0, hf0, hg0, hsz, hbel⟩ := hrel
      have dB0 := (hbel.cell (p := ⟨w.heap.size + 1, 0, none⟩) bB).trans cB0
      by_cases hlt : k < p
      · obtain ⟨x', y', hm⟩ : ∃ x' y', Hid (Q.mul (x, y) (2, 1) = (x', y')) := ⟨_, _, rfl⟩
        have hnext : Hid (Q.dbl an (k + 1) = (x', y')) := by
          unfold Hid; rw [← Q.dbl_succ, hxy.out]; exact hm.out
        have hlt' : (k : Int) < (p : Int) := by omega
        go_wp2
        first | (go_region_with (first | (go_at_call 63; refine (rwhole_any _ (by omega) _).mono ?_; rintro e w8 ⟨rfl, hb8⟩; rw [E2.out]; have hm8 : Below wr.heap.size wr w8 := on_below hb8 (by repeat' (first | (with_reducible exact Below.refl _ _) | (with_reducible assumption) | (with_reducible refine drewN_below ?_ _) | (with_reducible refine Below.drew ?_) | (with_reducible refine Below.alloc ?_ ?_ _) | (with_reducible refine Below.setCell ?_ ?_ _) | (simp; done) | omega | (simp; omega))) (by first | (with_reducible assumption) | (simp; done) | omega | (simp; omega)); have hx8 := (hm8.cell (p := ⟨w1.heap.size, 0, none⟩) hsz).trans hx0; have hy8 := (hm8.cell (p := ⟨w1.heap.size, 1, none⟩) hsz).trans hy0; have hf8 := (hm8.frozen (p := ⟨w1.heap.size, 0, none⟩) hsz).trans hf0; have hg8 := (hm8.frozen (p := ⟨w1.heap.size, 1, none⟩) hsz).trans hg0; have hs8 : w1.heap.size < w8.heap.size := Nat.lt_of_lt_of_le hsz hm8.size) | (go_at_call 20; refine (rmul_any _ _ _ _ _).mono ?_; rintro e w9 ⟨rfl, hb9⟩; rw [hm.out]; have hm9 : Below w8.heap.size w8 w9 := on_below hb9 (by repeat' (first | (with_reducible exact Below.refl _ _) | (with_reducible assumption) | (with_reducible refine drewN_below ?_ _) | (with_reducible refine Below.drew ?_) | (with_reducible refine Below.alloc ?_ ?_ _) | (with_reducible refine Below.setCell ?_ ?_ _) | (simp; done) | omega | (simp; omega))) (by first | (with_reducible assumption) | (simp; done) | omega | (simp; omega)); have hx9 := (hm9.cell (p := ⟨w1.heap.size, 0, none⟩) hs8).trans hx8; have hy9 := (hm9.cell (p := ⟨w1.heap.size, 1, none⟩) hs8).trans hy8; have hf9 := (hm9.frozen (p := ⟨w1.heap.size, 0, none⟩) hs8).trans hf8; have hg9 := (hm9.frozen (p := ⟨w1.heap.size, 1, none⟩) hs8).trans hg8))) | fail
        all_goals
          have hz9 : w1.heap.size + 1 ≤ w9.heap.size := Nat.le_trans hs8 hm9.size
          have hB9 : Below w1.heap.size w1 w9 := Below.trans hbel ((Below.trans hm8 (hm9.mono hm8.size)).mono (by omega))
          clear hx0 hy0 hf0 hg0 hsz hbel hx8 hy8 hf8 hg8 hs8 hm8 hm9 hb8 hb9 dB0
          go_wp2
          go_roundw
          case rel => exact ⟨k + 1, x', y', by go_num, by omega, hnext, by simp [go_sem, hx9], by simp [go_sem, hy9], by simp [go_sem, hf9], by simp [go_sem, hg9], by simp; omega, (by repeat' (first | (with_reducible exact Below.refl _ _) | (with_reducible assumption) | (with_reducible refine drewN_below ?_ _) | (with_reducible refine Below.drew ?_) | (with_reducible refine Below.alloc ?_ ?_ _) | (with_reducible refine Below.setCell ?_ ?_ _) | (simp; done) | omega | (simp; omega)))⟩
          case measure => simp [intOf]; omega
      · have hkp : k = p := by omega
        subst hkp
        have hr2 := hr.out
        rw [hxy.out] at hr2
        simp only [Prod.mk.injEq] at hr2
        obtain ⟨rfl, rfl⟩ := hr2
        have dR0 := (hbel.cell (p := ⟨w.heap.size + 2, 0, none⟩) bR).trans cR0
        have dR1 := (hbel.cell (p := ⟨w.heap.size + 2, 1, none⟩) bR).trans cR1
        have eR0 := (hbel.frozen (p := ⟨w.heap.size + 2, 0, none⟩) bR).trans zR0
        have eR1 := (hbel.frozen (p := ⟨w.heap.size + 2, 1, none⟩) bR).trans zR1
        have hfin : Below w.heap.size w wr := Below.trans hB1 (hbel.mono hB1.size)
        have hszr : w.heap.size + 2 < wr.heap.size := by omega
        go_wp2
        exact bodyPost_ret (v := .agg #[.int .i64 x, .int .i64 y]) (by simp [results, Try.results47, go_sem, dR0, dR1]) rfl ⟨rfl, (by repeat' (first | (with_reducible exact Below.refl _ _) | (with_reducible assumption) | (with_reducible refine drewN_below ?_ _) | (with_reducible refine Below.drew ?_) | (with_reducible refine Below.alloc ?_ ?_ _) | (with_reducible refine Below.setCell ?_ ?_ _) | (simp; done) | omega | (simp; omega)))⟩
  cases e4 : (s.toList == [115, 104, 114])
  rotate_left
  · skip
    by_cases g : bn < 0
    · have e : Q.bts s.toList (an, 1) (bn, 1) = (0, 0) := by
        have e' : Q.sh true an bn = (0, 0) := by unfold Q.sh; rw [if_pos (by omega)]
        rw [← e']; unfold Q.bts; rw [h, e0, e1, e2, e3, e4]; first | rfl | (simp; done)
      rw [e]; clear e
      go_enter Try.func47, Try.ntmps47
      go_wp2_with fail
      refine (rboth_any _ _ _ _ _).mono ?_
      rintro e w1 ⟨rfl, hb1⟩
      obtain ⟨hc1, hf1, hz1, hB1⟩ := after (a := w) (B := w.heap.size) (w.heap.size + 3) hb1 (by first | (with_reducible assumption) | (simp; done) | omega | (simp; omega)) (by repeat' (first | (with_reducible exact Below.refl _ _) | (with_reducible assumption) | (with_reducible refine drewN_below ?_ _) | (with_reducible refine Below.drew ?_) | (with_reducible refine Below.alloc ?_ ?_ _) | (with_reducible refine Below.setCell ?_ ?_ _) | (simp; done) | omega | (simp; omega))) (by omega)
      rw [h]
      go_wp2_with fail
      refine (rnone_any _).mono ?_
      rintro e w2 ⟨rfl, hb2⟩
      obtain ⟨hc2, hf2, hz2, hB2⟩ := after (a := w) (B := w.heap.size) (w.heap.size + 3) hb2 (by first | (with_reducible assumption) | (simp; done) | omega | (simp; omega)) (by repeat' (first | (with_reducible exact Below.refl _ _) | (with_reducible assumption) | (with_reducible refine drewN_below ?_ _) | (with_reducible refine Below.drew ?_) | (with_reducible refine Below.alloc ?_ ?_ _) | (with_reducible refine Below.setCell ?_ ?_ _) | (simp; done) | omega | (simp; omega))) (by omega)
      go_wp2
      exact bodyPost_ret (v := .agg #[.int .i64 0, .int .i64 0]) (by simp [results, Try.results47, go_sem, hc2, hc1]) rfl ⟨rfl, (by repeat' (first | (with_reducible exact Below.refl _ _) | (with_reducible assumption) | (with_reducible refine drewN_below ?_ _) | (with_reducible refine Below.drew ?_) | (with_reducible refine Below.alloc ?_ ?_ _) | (with_reducible refine Below.setCell ?_ ?_ _) | (simp; done) | omega | (simp; omega)))⟩
    have g0 : ¬ bn < 0 := g
    clear g
    by_cases g : 62 < bn
    · have e : Q.bts s.toList (an, 1) (bn, 1) = (0, 0) := by
        have e' : Q.sh true an bn = (0, 0) := by unfold Q.sh; rw [if_pos (by omega)]
        rw [← e']; unfold Q.bts; rw [h, e0, e1, e2, e3, e4]; first | rfl | (simp; done)
      rw [e]; clear e
      have g0' : ¬ bn < 0 := by omega
      go_enter Try.func47, Try.ntmps47
      go_wp2_with fail
      refine (rboth_any _ _ _ _ _).mono ?_
      rintro e w1 ⟨rfl, hb1⟩
      obtain ⟨hc1, hf1, hz1, hB1⟩ := after (a := w) (B := w.heap.size) (w.heap.size + 3) hb1 (by first | (with_reducible assumption) | (simp; done) | omega | (simp; omega)) (by repeat' (first | (with_reducible exact Below.refl _ _) | (with_reducible assumption) | (with_reducible refine drewN_below ?_ _) | (with_reducible refine Below.drew ?_) | (with_reducible refine Below.alloc ?_ ?_ _) | (with_reducible refine Below.setCell ?_ ?_ _) | (simp; done) | omega | (simp; omega))) (by omega)
      rw [h]
      go_wp2_with fail
      refine (rnone_any _).mono ?_
      rintro e w2 ⟨rfl, hb2⟩
      obtain ⟨hc2, hf2, hz2, hB2⟩ := after (a := w) (B := w.heap.size) (w.heap.size + 3) hb2 (by first | (with_reducible assumption) | (simp; done) | omega | (simp; omega)) (by repeat' (first | (with_reducible exact Below.refl _ _) | (with_reducible assumption) | (with_reducible refine drewN_below ?_ _) | (with_reducible refine Below.drew ?_) | (with_reducible refine Below.alloc ?_ ?_ _) | (with_reducible refine Below.setCell ?_ ?_ _) | (simp; done) | omega | (simp; omega))) (by omega)
      go_wp2
      exact bodyPost_ret (v := .agg #[.int .i64 0, .int .i64 0]) (by simp [results, Try.results47, go_sem, hc2, hc1]) rfl ⟨rfl, (by repeat' (first | (with_reducible exact Below.refl _ _) | (with_reducible assumption) | (with_reducible refine drewN_below ?_ _) | (with_reducible refine Below.drew ?_) | (with_reducible refine Below.alloc ?_ ?_ _) | (with_reducible refine Below.setCell ?_ ?_ _) | (simp; done) | omega | (simp; omega)))⟩
    have g1 : ¬ 62 < bn := g
    clear g
    obtain ⟨p, rfl⟩ : ∃ p : Nat, bn = (p : Int) := ⟨bn.toNat, by omega⟩
    obtain ⟨r, t, hr⟩ : ∃ r t, Hid (Q.mk (an / 2 ^ p) 1 = (r, t)) := ⟨_, _, rfl⟩
    have e : Q.bts s.toList (an, 1) (p, 1) = Q.mk (an / 2 ^ p) 1 := by
      have e' : Q.sh true an p = Q.mk (an / 2 ^ p) 1 := by unfold Q.sh; rw [if_neg (by omega)]; simp
      rw [← e']; unfold Q.bts; rw [h, e0, e1, e2, e3, e4]; first | rfl | (simp; done)
    rw [e, hr.out]; clear e
    have hp62 : p ≤ 62 := by omega
    go_enter Try.func47, Try.ntmps47
    go_wp2_with fail
    refine (rboth_any _ _ _ _ _).mono ?_
    rintro e w1 ⟨rfl, hb1⟩
    obtain ⟨hc1, hf1, hz1, hB1⟩ := after (a := w) (B := w.heap.size) (w.heap.size + 3) hb1 (by first | (with_reducible assumption) | (simp; done) | omega | (simp; omega)) (by repeat' (first | (with_reducible exact Below.refl _ _) | (with_reducible assumption) | (with_reducible refine drewN_below ?_ _) | (with_reducible refine Below.drew ?_) | (with_reducible refine Below.alloc ?_ ?_ _) | (with_reducible refine Below.setCell ?_ ?_ _) | (simp; done) | omega | (simp; omega))) (by omega)
    rw [h]
    go_wp2
    go_loop [9, 10] (fun t i => ∃ k : Nat, k ≤ p ∧ i = .int .i64 k ∧ t = .int .i64 (an / 2 ^ k)) (fun _ i => p - (intOf i).toNat)
    case atStart => exact ⟨0, by omega, by first | rfl | go_num, by simp⟩
    case round =>
      obtain ⟨k, hk, rfl, rfl⟩ := hrel
      have hm := Q.shr_bd ⟨hq1, hq2⟩ k
      have hnext : Hid (an / 2 ^ k / 2 = an / 2 ^ (k + 1)) := Q.half_succ an k
      obtain ⟨m, hM⟩ : ∃ m, an / 2 ^ k = m := ⟨_, rfl⟩
      rw [hM] at hm hnext ⊢
      obtain ⟨hm1, hm2⟩ := hm
      have HM := Lib.hid hM
      clear hM
      by_cases hlt : k < p
      · have hlt' : (k : Int) < (p : Int) := by omega
        go_wp2_with fail
        refine (floordiv_any _ _ (by omega) (by omega) _).mono ?_
        rintro e w2 ⟨rfl, rfl⟩
        go_wp2
        go_round
        case rel => exact ⟨k + 1, by omega, by go_num, val_i hnext.out⟩
        case measure => simp [intOf]; omega
      · have hkp : k = p := by omega
        subst hkp
        rw [HM.out] at hr
        go_wp2_with fail
        refine (rwhole_any _ (by omega) _).mono ?_
        rintro e w2 ⟨rfl, hb2⟩
        obtain ⟨hc2, hf2, hz2, hB2⟩ := after (a := w) (B := w.heap.size) (w.heap.size + 3) hb2 (by first | (with_reducible assumption) | (simp; done) | omega | (simp; omega)) (by repeat' (first | (with_reducible exact Below.refl _ _) | (with_reducible assumption) | (with_reducible refine drewN_below ?_ _) | (with_reducible refine Below.drew ?_) | (with_reducible refine Below.alloc ?_ ?_ _) | (with_reducible refine Below.setCell ?_ ?_ _) | (simp; done) | omega | (simp; omega))) (by omega)
        rw [hr.out]
        go_wp2
        exact bodyPost_ret (v := .agg #[.int .i64 r, .int .i64 t]) (by simp [results, Try.results47, go_sem, hc2, hc1]) rfl ⟨rfl, (by repeat' (first | (with_reducible exact Below.refl _ _) | (with_reducible assumption) | (with_reducible refine drewN_below ?_ _) | (with_reducible refine Below.drew ?_) | (with_reducible refine Below.alloc ?_ ?_ _) | (with_reducible refine Below.setCell ?_ ?_ _) | (simp; done) | omega | (simp; omega)))⟩
  have e : Q.bts s.toList (an, 1) (bn, 1) = (0, 0) := by unfold Q.bts; rw [h, e0, e1, e2, e3, e4]; first | rfl | (simp; done)
  rw [e]; clear e
  go_enter Try.func47, Try.ntmps47
  go_wp2_with fail
  refine (rboth_any _ _ _ _ _).mono ?_
  rintro e w1 ⟨rfl, hb1⟩
  obtain ⟨hc1, hf1, hz1, hB1⟩ := after (a := w) (B := w.heap.size) (w.heap.size + 3) hb1 (by first | (with_reducible assumption) | (simp; done) | omega | (simp; omega)) (by repeat' (first | (with_reducible exact Below.refl _ _) | (with_reducible assumption) | (with_reducible refine drewN_below ?_ _) | (with_reducible refine Below.drew ?_) | (with_reducible refine Below.alloc ?_ ?_ _) | (with_reducible refine Below.setCell ?_ ?_ _) | (simp; done) | omega | (simp; omega))) (by omega)
  rw [h]
  go_wp2_with fail
  refine (rnone_any _).mono ?_
  rintro e w2 ⟨rfl, hb2⟩
  obtain ⟨hc2, hf2, hz2, hB2⟩ := after (a := w) (B := w.heap.size) (w.heap.size + 3) hb2 (by first | (with_reducible assumption) | (simp; done) | omega | (simp; omega)) (by repeat' (first | (with_reducible exact Below.refl _ _) | (with_reducible assumption) | (with_reducible refine drewN_below ?_ _) | (with_reducible refine Below.drew ?_) | (with_reducible refine Below.alloc ?_ ?_ _) | (with_reducible refine Below.setCell ?_ ?_ _) | (simp; done) | omega | (simp; omega))) (by omega)
  go_wp2
  exact bodyPost_ret (v := .agg #[.int .i64 0, .int .i64 0]) (by simp [results, Try.results47, go_sem, hc2, hc1]) rfl ⟨rfl, (by repeat' (first | (with_reducible exact Below.refl _ _) | (with_reducible assumption) | (with_reducible refine drewN_below ?_ _) | (with_reducible refine Below.drew ?_) | (with_reducible refine Below.alloc ?_ ?_ _) | (with_reducible refine Below.setCell ?_ ?_ _) | (simp; done) | omega | (simp; omega)))⟩

end Go.Proofs.Ytpoalckncfkdgaa
