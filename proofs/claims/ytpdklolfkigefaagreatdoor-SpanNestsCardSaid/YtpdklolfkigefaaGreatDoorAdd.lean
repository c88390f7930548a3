/-
  Both, sums and products, and the specification's own: what each call gives.
-/
import Derived.Test.YtpdklolfkigefaaGreatDoorMake2
set_option linter.all false
namespace Go.Proofs.YtpdklolfkigefaaGreatDoor.R
open Go.Proofs.YtpdklolfkigefaaGreatDoor
open Go.RowKit
/-- What a contract's end tells, said of the world that the walk began in. -/
theorem after {W w1 a : World} {B : Nat} (k : Nat) (hb : Below W.heap.size W w1) (hk : k ≤ W.heap.size) (h : Below B a W) (hB : B ≤ k) :
    (∀ b o, b < k → w1.cell? ⟨b, o, none⟩ = W.cell? ⟨b, o, none⟩) ∧ (∀ b o, b < k → w1.frozen? ⟨b, o, none⟩ = W.frozen? ⟨b, o, none⟩) ∧ k ≤ w1.heap.size ∧ Below B a w1 :=
  ⟨(bck k hb hk).1, (bck k hb hk).2.1, (bck k hb hk).2.2, on_below hb h (Nat.le_trans hB hk)⟩

set_option maxHeartbeats 400000 in
theorem both_any (an ad bn bd : Int) (w : World) :
    Calls Tryz.prog 92 #[.agg #[.int .i64 an, .int .i64 ad], .agg #[.int .i64 bn, .int .i64 bd]] w fun e w' => e = .returned (.bool (Q.both (an, ad) (bn, bd))) ∧ Below w.heap.size w w' := by
  have hq : Q.both (an, ad) (bn, bd) = (Q.isq an ad && Q.isq bn bd) := rfl
  rw [hq]; clear hq
  cases h1 : Q.isq an ad
  · go_enter Tryz.func92, Tryz.ntmps92
    go_wp2_with fail
    refine (is_any _ _ _).mono ?_
    rintro e w1 ⟨rfl, hb1⟩
    obtain ⟨hc1, hf1, hz1, hB1⟩ := after (a := w) (B := w.heap.size) (w.heap.size + 2) hb1 (by first | (with_reducible assumption) | (simp; done) | omega | (simp; omega)) (by repeat' (first | (with_reducible exact Below.refl _ _) | (with_reducible assumption) | (with_reducible refine drewN_below ?_ _) | (with_reducible refine Below.drew ?_) | (with_reducible refine Below.alloc ?_ ?_ _) | (with_reducible refine Below.setCell ?_ ?_ _) | (simp; done) | omega | (simp; omega))) (by omega)
    rw [h1]
    go_wp2
    go_ret
    exact ⟨rfl, (by repeat' (first | (with_reducible exact Below.refl _ _) | (with_reducible assumption) | (with_reducible refine drewN_below ?_ _) | (with_reducible refine Below.drew ?_) | (with_reducible refine Below.alloc ?_ ?_ _) | (with_reducible refine Below.setCell ?_ ?_ _) | (simp; done) | omega | (simp; omega)))⟩
  · cases h2 : Q.isq bn bd
    · go_enter Tryz.func92, Tryz.ntmps92
      go_wp2_with fail
      refine (is_any _ _ _).mono ?_
      rintro e w1 ⟨rfl, hb1⟩
      obtain ⟨hc1, hf1, hz1, hB1⟩ := after (a := w) (B := w.heap.size) (w.heap.size + 2) hb1 (by first | (with_reducible assumption) | (simp; done) | omega | (simp; omega)) (by repeat' (first | (with_reducible exact Below.refl _ _) | (with_reducible assumption) | (with_reducible refine drewN_below ?_ _) | (with_reducible refine Below.drew ?_) | (with_reducible refine Below.alloc ?_ ?_ _) | (with_reducible refine Below.setCell ?_ ?_ _) | (simp; done) | omega | (simp; omega))) (by omega)
      rw [h1]
      go_wp2_with fail
      refine (is_any _ _ _).mono ?_
      rintro e w2 ⟨rfl, hb2⟩
      obtain ⟨hc2, hf2, hz2, hB2⟩ := after (a := w) (B := w.heap.size) (w.heap.size + 2) hb2 (by first | (with_reducible assumption) | (simp; done) | omega | (simp; omega)) (by repeat' (first | (with_reducible exact Below.refl _ _) | (with_reducible assumption) | (with_reducible refine drewN_below ?_ _) | (with_reducible refine Below.drew ?_) | (with_reducible refine Below.alloc ?_ ?_ _) | (with_reducible refine Below.setCell ?_ ?_ _) | (simp; done) | omega | (simp; omega))) (by omega)
      rw [h2]
      go_wp2
      go_ret
      exact ⟨rfl, (by repeat' (first | (with_reducible exact Below.refl _ _) | (with_reducible assumption) | (with_reducible refine drewN_below ?_ _) | (with_reducible refine Below.drew ?_) | (with_reducible refine Below.alloc ?_ ?_ _) | (with_reducible refine Below.setCell ?_ ?_ _) | (simp; done) | omega | (simp; omega)))⟩
    · go_enter Tryz.func92, Tryz.ntmps92
      go_wp2_with fail
      refine (is_any _ _ _).mono ?_
      rintro e w1 ⟨rfl, hb1⟩
      obtain ⟨hc1, hf1, hz1, hB1⟩ := after (a := w) (B := w.heap.size) (w.heap.size + 2) hb1 (by first | (with_reducible assumption) | (simp; done) | omega | (simp; omega)) (by repeat' (first | (with_reducible exact Below.refl _ _) | (with_reducible assumption) | (with_reducible refine drewN_below ?_ _) | (with_reducible refine Below.drew ?_) | (with_reducible refine Below.alloc ?_ ?_ _) | (with_reducible refine Below.setCell ?_ ?_ _) | (simp; done) | omega | (simp; omega))) (by omega)
      rw [h1]
      go_wp2_with fail
      refine (is_any _ _ _).mono ?_
      rintro e w2 ⟨rfl, hb2⟩
      obtain ⟨hc2, hf2, hz2, hB2⟩ := after (a := w) (B := w.heap.size) (w.heap.size + 2) hb2 (by first | (with_reducible assumption) | (simp; done) | omega | (simp; omega)) (by repeat' (first | (with_reducible exact Below.refl _ _) | (with_reducible assumption) | (with_reducible refine drewN_below ?_ _) | (with_reducible refine Below.drew ?_) | (with_reducible refine Below.alloc ?_ ?_ _) | (with_reducible refine Below.setCell ?_ ?_ _) | (simp; done) | omega | (simp; omega))) (by omega)
      rw [h2]
      go_wp2
      go_ret
      exact ⟨rfl, (by repeat' (first | (with_reducible exact Below.refl _ _) | (with_reducible assumption) | (with_reducible refine drewN_below ?_ _) | (with_reducible refine Below.drew ?_) | (with_reducible refine Below.alloc ?_ ?_ _) | (with_reducible refine Below.setCell ?_ ?_ _) | (simp; done) | omega | (simp; omega)))⟩

set_option maxHeartbeats 400000 in
theorem rboth_any (an ad bn bd : Int) (w : World) :
    Calls Tryz.prog 86 #[.agg #[.int .i64 an, .int .i64 ad], .agg #[.int .i64 bn, .int .i64 bd]] w fun e w' => e = .returned (.bool (Q.both (an, ad) (bn, bd))) ∧ Below w.heap.size w w' := by
  have hq : Q.both (an, ad) (bn, bd) = (Q.isq an ad && Q.isq bn bd) := rfl
  rw [hq]; clear hq
  cases h1 : Q.isq an ad
  · go_enter Tryz.func86, Tryz.ntmps86
    go_wp2_with fail
    refine (ris_any _ _ _).mono ?_
    rintro e w1 ⟨rfl, hb1⟩
    obtain ⟨hc1, hf1, hz1, hB1⟩ := after (a := w) (B := w.heap.size) (w.heap.size + 2) hb1 (by first | (with_reducible assumption) | (simp; done) | omega | (simp; omega)) (by repeat' (first | (with_reducible exact Below.refl _ _) | (with_reducible assumption) | (with_reducible refine drewN_below ?_ _) | (with_reducible refine Below.drew ?_) | (with_reducible refine Below.alloc ?_ ?_ _) | (with_reducible refine Below.setCell ?_ ?_ _) | (simp; done) | omega | (simp; omega))) (by omega)
    rw [h1]
    go_wp2
    go_ret
    exact ⟨rfl, (by repeat' (first | (with_reducible exact Below.refl _ _) | (with_reducible assumption) | (with_reducible refine drewN_below ?_ _) | (with_reducible refine Below.drew ?_) | (with_reducible refine Below.alloc ?_ ?_ _) | (with_reducible refine Below.setCell ?_ ?_ _) | (simp; done) | omega | (simp; omega)))⟩
  · cases h2 : Q.isq bn bd
    · go_enter Tryz.func86, Tryz.ntmps86
      go_wp2_with fail
      refine (ris_any _ _ _).mono ?_
      rintro e w1 ⟨rfl, hb1⟩
      obtain ⟨hc1, hf1, hz1, hB1⟩ := after (a := w) (B := w.heap.size) (w.heap.size + 2) hb1 (by first | (with_reducible assumption) | (simp; done) | omega | (simp; omega)) (by repeat' (first | (with_reducible exact Below.refl _ _) | (with_reducible assumption) | (with_reducible refine drewN_below ?_ _) | (with_reducible refine Below.drew ?_) | (with_reducible refine Below.alloc ?_ ?_ _) | (with_reducible refine Below.setCell ?_ ?_ _) | (simp; done) | omega | (simp; omega))) (by omega)
      rw [h1]
      go_wp2_with fail
      refine (ris_any _ _ _).mono ?_
      rintro e w2 ⟨rfl, hb2⟩
      obtain ⟨hc2, hf2, hz2, hB2⟩ := after (a := w) (B := w.heap.size) (w.heap.size + 2) hb2 (by first | (with_reducible assumption) | (simp; done) | omega | (simp; omega)) (by repeat' (first | (with_reducible exact Below.refl _ _) | (with_reducible assumption) | (with_reducible refine drewN_below ?_ _) | (with_reducible refine Below.drew ?_) | (with_reducible refine Below.alloc ?_ ?_ _) | (with_reducible refine Below.setCell ?_ ?_ _) | (simp; done) | omega | (simp; omega))) (by omega)
      rw [h2]
      go_wp2
      go_ret
      exact ⟨rfl, (by repeat' (first | (with_reducible exact Below.refl _ _) | (with_reducible assumption) | (with_reducible refine drewN_below ?_ _) | (with_reducible refine Below.drew ?_) | (with_reducible refine Below.alloc ?_ ?_ _) | (with_reducible refine Below.setCell ?_ ?_ _) | (simp; done) | omega | (simp; omega)))⟩
    · go_enter Tryz.func86, Tryz.ntmps86
      go_wp2_with fail
      refine (ris_any _ _ _).mono ?_
      rintro e w1 ⟨rfl, hb1⟩
      obtain ⟨hc1, hf1, hz1, hB1⟩ := after (a := w) (B := w.heap.size) (w.heap.size + 2) hb1 (by first | (with_reducible assumption) | (simp; done) | omega | (simp; omega)) (by repeat' (first | (with_reducible exact Below.refl _ _) | (with_reducible assumption) | (with_reducible refine drewN_below ?_ _) | (with_reducible refine Below.drew ?_) | (with_reducible refine Below.alloc ?_ ?_ _) | (with_reducible refine Below.setCell ?_ ?_ _) | (simp; done) | omega | (simp; omega))) (by omega)
      rw [h1]
      go_wp2_with fail
      refine (ris_any _ _ _).mono ?_
      rintro e w2 ⟨rfl, hb2⟩
      obtain ⟨hc2, hf2, hz2, hB2⟩ := after (a := w) (B := w.heap.size) (w.heap.size + 2) hb2 (by first | (with_reducible assumption) | (simp; done) | omega | (simp; omega)) (by repeat' (first | (with_reducible exact Below.refl _ _) | (with_reducible assumption) | (with_reducible refine drewN_below ?_ _) | (with_reducible refine Below.drew ?_) | (with_reducible refine Below.alloc ?_ ?_ _) | (with_reducible refine Below.setCell ?_ ?_ _) | (simp; done) | omega | (simp; omega))) (by omega)
      rw [h2]
      go_wp2
      go_ret
      exact ⟨rfl, (by repeat' (first | (with_reducible exact Below.refl _ _) | (with_reducible assumption) | (with_reducible refine drewN_below ?_ _) | (with_reducible refine Below.drew ?_) | (with_reducible refine Below.alloc ?_ ?_ _) | (with_reducible refine Below.setCell ?_ ?_ _) | (simp; done) | omega | (simp; omega)))⟩

set_option maxHeartbeats 400000 in
theorem radd_any (an ad bn bd : Int) (w : World) :
    Calls Tryz.prog 42 #[.agg #[.int .i64 an, .int .i64 ad], .agg #[.int .i64 bn, .int .i64 bd]] w fun e w' => e = .returned (.agg #[.int .i64 (Q.add (an, ad) (bn, bd)).1, .int .i64 (Q.add (an, ad) (bn, bd)).2]) ∧ Below w.heap.size w w' := by
  cases h : Q.both (an, ad) (bn, bd)
  · have e : Q.add (an, ad) (bn, bd) = (0, 0) := by unfold Q.add; rw [h]; rfl
    rw [e]; clear e
    go_enter Tryz.func42, Tryz.ntmps42
    go_wp2_with fail
    refine (rboth_any _ _ _ _ _).mono ?_
    rintro e w1 ⟨rfl, hb1⟩
    obtain ⟨hc1, hf1, hz1, hB1⟩ := after (a := w) (B := w.heap.size) (w.heap.size + 3) hb1 (by first | (with_reducible assumption) | (simp; done) | omega | (simp; omega)) (by repeat' (first | (with_reducible exact Below.refl _ _) | (with_reducible assumption) | (with_reducible refine drewN_below ?_ _) | (with_reducible refine Below.drew ?_) | (with_reducible refine Below.alloc ?_ ?_ _) | (with_reducible refine Below.setCell ?_ ?_ _) | (simp; done) | omega | (simp; omega))) (by omega)
    rw [h]
    go_wp2_with fail
    refine (rnone_any _).mono ?_
    rintro e w2 ⟨rfl, hb2⟩
    obtain ⟨hc2, hf2, hz2, hB2⟩ := after (a := w) (B := w.heap.size) (w.heap.size + 3) hb2 (by first | (with_reducible assumption) | (simp; done) | omega | (simp; omega)) (by repeat' (first | (with_reducible exact Below.refl _ _) | (with_reducible assumption) | (with_reducible refine drewN_below ?_ _) | (with_reducible refine Below.drew ?_) | (with_reducible refine Below.alloc ?_ ?_ _) | (with_reducible refine Below.setCell ?_ ?_ _) | (simp; done) | omega | (simp; omega))) (by omega)
    go_wp2
    exact bodyPost_ret (v := .agg #[.int .i64 0, .int .i64 0]) (by simp [results, Tryz.results42, go_sem, hc2, hc1]) rfl ⟨rfl, (by repeat' (first | (with_reducible exact Below.refl _ _) | (with_reducible assumption) | (with_reducible refine drewN_below ?_ _) | (with_reducible refine Below.drew ?_) | (with_reducible refine Below.alloc ?_ ?_ _) | (with_reducible refine Below.setCell ?_ ?_ _) | (simp; done) | omega | (simp; omega)))⟩
  · have e : Q.add (an, ad) (bn, bd) = Q.mk (an * bd + bn * ad) (ad * bd) := by unfold Q.add; rw [h]; rfl
    obtain ⟨r, s, hr⟩ : ∃ r s, Hid (Q.mk (an * bd + bn * ad) (ad * bd) = (r, s)) := ⟨_, _, rfl⟩
    rw [e, hr.out]; clear e
    obtain ⟨_, _, _, _, _, _, _, _, _⟩ := Q.bd_of h
    go_enter Tryz.func42, Tryz.ntmps42
    go_wp2_with fail
    refine (rboth_any _ _ _ _ _).mono ?_
    rintro e w1 ⟨rfl, hb1⟩
    obtain ⟨hc1, hf1, hz1, hB1⟩ := after (a := w) (B := w.heap.size) (w.heap.size + 3) hb1 (by first | (with_reducible assumption) | (simp; done) | omega | (simp; omega)) (by repeat' (first | (with_reducible exact Below.refl _ _) | (with_reducible assumption) | (with_reducible refine drewN_below ?_ _) | (with_reducible refine Below.drew ?_) | (with_reducible refine Below.alloc ?_ ?_ _) | (with_reducible refine Below.setCell ?_ ?_ _) | (simp; done) | omega | (simp; omega))) (by omega)
    rw [h]
    go_wp2_with fail
    refine (rmake_all _ _ (by omega) (by omega) _).mono ?_
    rintro e w2 ⟨rfl, hb2⟩
    obtain ⟨hc2, hf2, hz2, hB2⟩ := after (a := w) (B := w.heap.size) (w.heap.size + 3) hb2 (by first | (with_reducible assumption) | (simp; done) | omega | (simp; omega)) (by repeat' (first | (with_reducible exact Below.refl _ _) | (with_reducible assumption) | (with_reducible refine drewN_below ?_ _) | (with_reducible refine Below.drew ?_) | (with_reducible refine Below.alloc ?_ ?_ _) | (with_reducible refine Below.setCell ?_ ?_ _) | (simp; done) | omega | (simp; omega))) (by omega)
    rw [hr.out]
    go_wp2
    exact bodyPost_ret (v := .agg #[.int .i64 r, .int .i64 s]) (by simp [results, Tryz.results42, go_sem, hc2, hc1]) rfl ⟨rfl, (by repeat' (first | (with_reducible exact Below.refl _ _) | (with_reducible assumption) | (with_reducible refine drewN_below ?_ _) | (with_reducible refine Below.drew ?_) | (with_reducible refine Below.alloc ?_ ?_ _) | (with_reducible refine Below.setCell ?_ ?_ _) | (simp; done) | omega | (simp; omega)))⟩

set_option maxHeartbeats 400000 in
theorem rmul_any (an ad bn bd : Int) (w : World) :
    Calls Tryz.prog 44 #[.agg #[.int .i64 an, .int .i64 ad], .agg #[.int .i64 bn, .int .i64 bd]] w fun e w' => e = .returned (.agg #[.int .i64 (Q.mul (an, ad) (bn, bd)).1, .int .i64 (Q.mul (an, ad) (bn, bd)).2]) ∧ Below w.heap.size w w' := by
  cases h : Q.both (an, ad) (bn, bd)
  · have e : Q.mul (an, ad) (bn, bd) = (0, 0) := by unfold Q.mul; rw [h]; rfl
    rw [e]; clear e
    go_enter Tryz.func44, Tryz.ntmps44
    go_wp2_with fail
    refine (rboth_any _ _ _ _ _).mono ?_
    rintro e w1 ⟨rfl, hb1⟩
    obtain ⟨hc1, hf1, hz1, hB1⟩ := after (a := w) (B := w.heap.size) (w.heap.size + 3) hb1 (by first | (with_reducible assumption) | (simp; done) | omega | (simp; omega)) (by repeat' (first | (with_reducible exact Below.refl _ _) | (with_reducible assumption) | (with_reducible refine drewN_below ?_ _) | (with_reducible refine Below.drew ?_) | (with_reducible refine Below.alloc ?_ ?_ _) | (with_reducible refine Below.setCell ?_ ?_ _) | (simp; done) | omega | (simp; omega))) (by omega)
    rw [h]
    go_wp2_with fail
    refine (rnone_any _).mono ?_
    rintro e w2 ⟨rfl, hb2⟩
    obtain ⟨hc2, hf2, hz2, hB2⟩ := after (a := w) (B := w.heap.size) (w.heap.size + 3) hb2 (by first | (with_reducible assumption) | (simp; done) | omega | (simp; omega)) (by repeat' (first | (with_reducible exact Below.refl _ _) | (with_reducible assumption) | (with_reducible refine drewN_below ?_ _) | (with_reducible refine Below.drew ?_) | (with_reducible refine Below.alloc ?_ ?_ _) | (with_reducible refine Below.setCell ?_ ?_ _) | (simp; done) | omega | (simp; omega))) (by omega)
    go_wp2
    exact bodyPost_ret (v := .agg #[.int .i64 0, .int .i64 0]) (by simp [results, Tryz.results44, go_sem, hc2, hc1]) rfl ⟨rfl, (by repeat' (first | (with_reducible exact Below.refl _ _) | (with_reducible assumption) | (with_reducible refine drewN_below ?_ _) | (with_reducible refine Below.drew ?_) | (with_reducible refine Below.alloc ?_ ?_ _) | (with_reducible refine Below.setCell ?_ ?_ _) | (simp; done) | omega | (simp; omega)))⟩
  · have e : Q.mul (an, ad) (bn, bd) = Q.mk (an * bn) (ad * bd) := by unfold Q.mul; rw [h]; rfl
    obtain ⟨r, s, hr⟩ : ∃ r s, Hid (Q.mk (an * bn) (ad * bd) = (r, s)) := ⟨_, _, rfl⟩
    rw [e, hr.out]; clear e
    obtain ⟨_, _, _, _, _, _, _, _, _⟩ := Q.bd_of h
    go_enter Tryz.func44, Tryz.ntmps44
    go_wp2_with fail
    refine (rboth_any _ _ _ _ _).mono ?_
    rintro e w1 ⟨rfl, hb1⟩
    obtain ⟨hc1, hf1, hz1, hB1⟩ := after (a := w) (B := w.heap.size) (w.heap.size + 3) hb1 (by first | (with_reducible assumption) | (simp; done) | omega | (simp; omega)) (by repeat' (first | (with_reducible exact Below.refl _ _) | (with_reducible assumption) | (with_reducible refine drewN_below ?_ _) | (with_reducible refine Below.drew ?_) | (with_reducible refine Below.alloc ?_ ?_ _) | (with_reducible refine Below.setCell ?_ ?_ _) | (simp; done) | omega | (simp; omega))) (by omega)
    rw [h]
    go_wp2_with fail
    refine (rmake_all _ _ (by omega) (by omega) _).mono ?_
    rintro e w2 ⟨rfl, hb2⟩
    obtain ⟨hc2, hf2, hz2, hB2⟩ := after (a := w) (B := w.heap.size) (w.heap.size + 3) hb2 (by first | (with_reducible assumption) | (simp; done) | omega | (simp; omega)) (by repeat' (first | (with_reducible exact Below.refl _ _) | (with_reducible assumption) | (with_reducible refine drewN_below ?_ _) | (with_reducible refine Below.drew ?_) | (with_reducible refine Below.alloc ?_ ?_ _) | (with_reducible refine Below.setCell ?_ ?_ _) | (simp; done) | omega | (simp; omega))) (by omega)
    rw [hr.out]
    go_wp2
    exact bodyPost_ret (v := .agg #[.int .i64 r, .int .i64 s]) (by simp [results, Tryz.results44, go_sem, hc2, hc1]) rfl ⟨rfl, (by repeat' (first | (with_reducible exact Below.refl _ _) | (with_reducible assumption) | (with_reducible refine drewN_below ?_ _) | (with_reducible refine Below.drew ?_) | (with_reducible refine Below.alloc ?_ ?_ _) | (with_reducible refine Below.setCell ?_ ?_ _) | (simp; done) | omega | (simp; omega)))⟩

set_option maxHeartbeats 400000 in
theorem div_any (an ad bn bd : Int) (w : World) :
    Calls Tryz.prog 140 #[.agg #[.int .i64 an, .int .i64 ad], .agg #[.int .i64 bn, .int .i64 bd]] w fun e w' => e = .returned (.agg #[.int .i64 (Q.div (an, ad) (bn, bd)).1, .int .i64 (Q.div (an, ad) (bn, bd)).2]) ∧ Below w.heap.size w w' := by
  cases h : Q.both (an, ad) (bn, bd)
  · have e : Q.div (an, ad) (bn, bd) = (0, 0) := by unfold Q.div; rw [h]; rfl
    rw [e]; clear e
    go_enter Tryz.func140, Tryz.ntmps140
    go_wp2_with fail
    refine (both_any _ _ _ _ _).mono ?_
    rintro e w1 ⟨rfl, hb1⟩
    obtain ⟨hc1, hf1, hz1, hB1⟩ := after (a := w) (B := w.heap.size) (w.heap.size + 3) hb1 (by first | (with_reducible assumption) | (simp; done) | omega | (simp; omega)) (by repeat' (first | (with_reducible exact Below.refl _ _) | (with_reducible assumption) | (with_reducible refine drewN_below ?_ _) | (with_reducible refine Below.drew ?_) | (with_reducible refine Below.alloc ?_ ?_ _) | (with_reducible refine Below.setCell ?_ ?_ _) | (simp; done) | omega | (simp; omega))) (by omega)
    rw [h]
    go_wp2
    exact bodyPost_ret (v := .agg #[.int .i64 0, .int .i64 0]) (by simp [results, Tryz.results140, go_sem, hc1]) rfl ⟨rfl, (by repeat' (first | (with_reducible exact Below.refl _ _) | (with_reducible assumption) | (with_reducible refine drewN_below ?_ _) | (with_reducible refine Below.drew ?_) | (with_reducible refine Below.alloc ?_ ?_ _) | (with_reducible refine Below.setCell ?_ ?_ _) | (simp; done) | omega | (simp; omega)))⟩
  · have e : Q.div (an, ad) (bn, bd) = Q.mk (an * bd) (ad * bn) := by unfold Q.div; rw [h]; rfl
    obtain ⟨r, s, hr⟩ : ∃ r s, Hid (Q.mk (an * bd) (ad * bn) = (r, s)) := ⟨_, _, rfl⟩
    rw [e, hr.out]; clear e
    obtain ⟨_, _, _, _, _, _, _, _, _⟩ := Q.bd_of h
    go_enter Tryz.func140, Tryz.ntmps140
    go_wp2_with fail
    refine (both_any _ _ _ _ _).mono ?_
    rintro e w1 ⟨rfl, hb1⟩
    obtain ⟨hc1, hf1, hz1, hB1⟩ := after (a := w) (B := w.heap.size) (w.heap.size + 3) hb1 (by first | (with_reducible assumption) | (simp; done) | omega | (simp; omega)) (by repeat' (first | (with_reducible exact Below.refl _ _) | (with_reducible assumption) | (with_reducible refine drewN_below ?_ _) | (with_reducible refine Below.drew ?_) | (with_reducible refine Below.alloc ?_ ?_ _) | (with_reducible refine Below.setCell ?_ ?_ _) | (simp; done) | omega | (simp; omega))) (by omega)
    rw [h]
    go_wp2_with fail
    refine (make_any _ _ (by omega) (by omega) _).mono ?_
    rintro e w2 ⟨rfl, hb2⟩
    obtain ⟨hc2, hf2, hz2, hB2⟩ := after (a := w) (B := w.heap.size) (w.heap.size + 3) hb2 (by first | (with_reducible assumption) | (simp; done) | omega | (simp; omega)) (by repeat' (first | (with_reducible exact Below.refl _ _) | (with_reducible assumption) | (with_reducible refine drewN_below ?_ _) | (with_reducible refine Below.drew ?_) | (with_reducible refine Below.alloc ?_ ?_ _) | (with_reducible refine Below.setCell ?_ ?_ _) | (simp; done) | omega | (simp; omega))) (by omega)
    rw [hr.out]
    go_wp2
    exact bodyPost_ret (v := .agg #[.int .i64 r, .int .i64 s]) (by simp [results, Tryz.results140, go_sem, hc2, hc1]) rfl ⟨rfl, (by repeat' (first | (with_reducible exact Below.refl _ _) | (with_reducible assumption) | (with_reducible refine drewN_below ?_ _) | (with_reducible refine Below.drew ?_) | (with_reducible refine Below.alloc ?_ ?_ _) | (with_reducible refine Below.setCell ?_ ?_ _) | (simp; done) | omega | (simp; omega)))⟩

set_option maxHeartbeats 400000 in
theorem rdiv_any (an ad bn bd : Int) (w : World) :
    Calls Tryz.prog 45 #[.agg #[.int .i64 an, .int .i64 ad], .agg #[.int .i64 bn, .int .i64 bd]] w fun e w' => e = .returned (.agg #[.int .i64 (Q.div (an, ad) (bn, bd)).1, .int .i64 (Q.div (an, ad) (bn, bd)).2]) ∧ Below w.heap.size w w' := by
  cases h : Q.both (an, ad) (bn, bd)
  · have e : Q.div (an, ad) (bn, bd) = (0, 0) := by unfold Q.div; rw [h]; rfl
    rw [e]; clear e
    go_enter Tryz.func45, Tryz.ntmps45
    go_wp2_with fail
    refine (rboth_any _ _ _ _ _).mono ?_
    rintro e w1 ⟨rfl, hb1⟩
    obtain ⟨hc1, hf1, hz1, hB1⟩ := after (a := w) (B := w.heap.size) (w.heap.size + 3) hb1 (by first | (with_reducible assumption) | (simp; done) | omega | (simp; omega)) (by repeat' (first | (with_reducible exact Below.refl _ _) | (with_reducible assumption) | (with_reducible refine drewN_below ?_ _) | (with_reducible refine Below.drew ?_) | (with_reducible refine Below.alloc ?_ ?_ _) | (with_reducible refine Below.setCell ?_ ?_ _) | (simp; done) | omega | (simp; omega))) (by omega)
    rw [h]
    go_wp2_with fail
    refine (rnone_any _).mono ?_
    rintro e w2 ⟨rfl, hb2⟩
    obtain ⟨hc2, hf2, hz2, hB2⟩ := after (a := w) (B := w.heap.size) (w.heap.size + 3) hb2 (by first | (with_reducible assumption) | (simp; done) | omega | (simp; omega)) (by repeat' (first | (with_reducible exact Below.refl _ _) | (with_reducible assumption) | (with_reducible refine drewN_below ?_ _) | (with_reducible refine Below.drew ?_) | (with_reducible refine Below.alloc ?_ ?_ _) | (with_reducible refine Below.setCell ?_ ?_ _) | (simp; done) | omega | (simp; omega))) (by omega)
    go_wp2
    exact bodyPost_ret (v := .agg #[.int .i64 0, .int .i64 0]) (by simp [results, Tryz.results45, go_sem, hc2, hc1]) rfl ⟨rfl, (by repeat' (first | (with_reducible exact Below.refl _ _) | (with_reducible assumption) | (with_reducible refine drewN_below ?_ _) | (with_reducible refine Below.drew ?_) | (with_reducible refine Below.alloc ?_ ?_ _) | (with_reducible refine Below.setCell ?_ ?_ _) | (simp; done) | omega | (simp; omega)))⟩
  · have e : Q.div (an, ad) (bn, bd) = Q.mk (an * bd) (ad * bn) := by unfold Q.div; rw [h]; rfl
    obtain ⟨r, s, hr⟩ : ∃ r s, Hid (Q.mk (an * bd) (ad * bn) = (r, s)) := ⟨_, _, rfl⟩
    rw [e, hr.out]; clear e
    obtain ⟨_, _, _, _, _, _, _, _, _⟩ := Q.bd_of h
    go_enter Tryz.func45, Tryz.ntmps45
    go_wp2_with fail
    refine (rboth_any _ _ _ _ _).mono ?_
    rintro e w1 ⟨rfl, hb1⟩
    obtain ⟨hc1, hf1, hz1, hB1⟩ := after (a := w) (B := w.heap.size) (w.heap.size + 3) hb1 (by first | (with_reducible assumption) | (simp; done) | omega | (simp; omega)) (by repeat' (first | (with_reducible exact Below.refl _ _) | (with_reducible assumption) | (with_reducible refine drewN_below ?_ _) | (with_reducible refine Below.drew ?_) | (with_reducible refine Below.alloc ?_ ?_ _) | (with_reducible refine Below.setCell ?_ ?_ _) | (simp; done) | omega | (simp; omega))) (by omega)
    rw [h]
    go_wp2_with fail
    refine (rmake_all _ _ (by omega) (by omega) _).mono ?_
    rintro e w2 ⟨rfl, hb2⟩
    obtain ⟨hc2, hf2, hz2, hB2⟩ := after (a := w) (B := w.heap.size) (w.heap.size + 3) hb2 (by first | (with_reducible assumption) | (simp; done) | omega | (simp; omega)) (by repeat' (first | (with_reducible exact Below.refl _ _) | (with_reducible assumption) | (with_reducible refine drewN_below ?_ _) | (with_reducible refine Below.drew ?_) | (with_reducible refine Below.alloc ?_ ?_ _) | (with_reducible refine Below.setCell ?_ ?_ _) | (simp; done) | omega | (simp; omega))) (by omega)
    rw [hr.out]
    go_wp2
    exact bodyPost_ret (v := .agg #[.int .i64 r, .int .i64 s]) (by simp [results, Tryz.results45, go_sem, hc2, hc1]) rfl ⟨rfl, (by repeat' (first | (with_reducible exact Below.refl _ _) | (with_reducible assumption) | (with_reducible refine drewN_below ?_ _) | (with_reducible refine Below.drew ?_) | (with_reducible refine Below.alloc ?_ ?_ _) | (with_reducible refine Below.setCell ?_ ?_ _) | (simp; done) | omega | (simp; omega)))⟩

end Go.Proofs.YtpdklolfkigefaaGreatDoor.R
