import Derived.Test.YtiiddikiaafanaaGreatDoorOpsd
import Derived.Test.YtiiddikiaafanaaGreatDoorQt
set_option linter.all false
/-
  Test and Bits by a name, and the specification's own: what each call gives.
-/
namespace Go.Proofs.YtiiddikiaafanaaGreatDoor.R
open Go.Proofs.YtiiddikiaafanaaGreatDoor
open Go.RowKit

theorem lit_ne {l : List UInt8} {a b : List UInt8} (h : (l == a) = true) (hab : (a == b) = false) : (l == b) = false := by
  rw [beq_iff_eq] at h; subst h; exact hab
set_option maxRecDepth 100000 in
set_option maxHeartbeats 400000 in
theorem truth_any (b : Bool) (w : World) :
    Calls Tryz.prog 163 #[.bool b] w fun e w' => e = .returned (.agg #[.int .i64 (Q.truth b).1, .int .i64 (Q.truth b).2]) ∧ Below w.heap.size w w' := by
  cases b
  · obtain ⟨r, s, hr⟩ : ∃ r s, Hid (Q.mk 0 1 = (r, s)) := ⟨_, _, rfl⟩
    have e : Q.truth false = (r, s) := hr.out
    rw [e]; clear e
    go_enter Tryz.func163, Tryz.ntmps163
    go_wp2_with fail
    refine (whole_any _ (by omega) _).mono ?_
    rintro e w1 ⟨rfl, hb1⟩
    obtain ⟨hc1, hf1, hz1, hB1⟩ := after (a := w) (B := w.heap.size) (w.heap.size + 1) hb1 (by first | (with_reducible assumption) | (simp; done) | omega | (simp; omega)) bl (by omega)
    rw [hr.out]
    go_wp2
    exact bodyPost_ret (v := .agg #[.int .i64 r, .int .i64 s]) (by simp [results, Tryz.results163, go_sem, hc1]) rfl ⟨rfl, bl⟩
  · obtain ⟨r, s, hr⟩ : ∃ r s, Hid (Q.mk 1 1 = (r, s)) := ⟨_, _, rfl⟩
    have e : Q.truth true = (r, s) := hr.out
    rw [e]; clear e
    go_enter Tryz.func163, Tryz.ntmps163
    go_wp2_with fail
    refine (whole_any _ (by omega) _).mono ?_
    rintro e w1 ⟨rfl, hb1⟩
    obtain ⟨hc1, hf1, hz1, hB1⟩ := after (a := w) (B := w.heap.size) (w.heap.size + 1) hb1 (by first | (with_reducible assumption) | (simp; done) | omega | (simp; omega)) bl (by omega)
    rw [hr.out]
    go_wp2
    exact bodyPost_ret (v := .agg #[.int .i64 r, .int .i64 s]) (by simp [results, Tryz.results163, go_sem, hc1]) rfl ⟨rfl, bl⟩

set_option maxRecDepth 100000 in
set_option maxHeartbeats 400000 in
theorem rtruth_any (b : Bool) (w : World) :
    Calls Tryz.prog 78 #[.bool b] w fun e w' => e = .returned (.agg #[.int .i64 (Q.truth b).1, .int .i64 (Q.truth b).2]) ∧ Below w.heap.size w w' := by
  cases b
  · obtain ⟨r, s, hr⟩ : ∃ r s, Hid (Q.mk 0 1 = (r, s)) := ⟨_, _, rfl⟩
    have e : Q.truth false = (r, s) := hr.out
    rw [e]; clear e
    go_enter Tryz.func78, Tryz.ntmps78
    go_wp2_with fail
    refine (rwhole_any _ (by omega) _).mono ?_
    rintro e w1 ⟨rfl, hb1⟩
    obtain ⟨hc1, hf1, hz1, hB1⟩ := after (a := w) (B := w.heap.size) (w.heap.size + 1) hb1 (by first | (with_reducible assumption) | (simp; done) | omega | (simp; omega)) bl (by omega)
    rw [hr.out]
    go_wp2
    exact bodyPost_ret (v := .agg #[.int .i64 r, .int .i64 s]) (by simp [results, Tryz.results78, go_sem, hc1]) rfl ⟨rfl, bl⟩
  · obtain ⟨r, s, hr⟩ : ∃ r s, Hid (Q.mk 1 1 = (r, s)) := ⟨_, _, rfl⟩
    have e : Q.truth true = (r, s) := hr.out
    rw [e]; clear e
    go_enter Tryz.func78, Tryz.ntmps78
    go_wp2_with fail
    refine (rwhole_any _ (by omega) _).mono ?_
    rintro e w1 ⟨rfl, hb1⟩
    obtain ⟨hc1, hf1, hz1, hB1⟩ := after (a := w) (B := w.heap.size) (w.heap.size + 1) hb1 (by first | (with_reducible assumption) | (simp; done) | omega | (simp; omega)) bl (by omega)
    rw [hr.out]
    go_wp2
    exact bodyPost_ret (v := .agg #[.int .i64 r, .int .i64 s]) (by simp [results, Tryz.results78, go_sem, hc1]) rfl ⟨rfl, bl⟩

set_option maxRecDepth 100000 in
set_option maxHeartbeats 1600000 in
theorem test_any (s : ByteArray) (an ad bn bd : Int) (w : World) :
    Calls Tryz.prog 137 #[.string s, .agg #[.int .i64 an, .int .i64 ad], .agg #[.int .i64 bn, .int .i64 bd]] w fun e w' => e = .returned (.agg #[.int .i64 (Q.tst s.toList (an, ad) (bn, bd)).1, .int .i64 (Q.tst s.toList (an, ad) (bn, bd)).2]) ∧ Below w.heap.size w w' := by
  cases h : Q.both (an, ad) (bn, bd)
  · have e : Q.tst s.toList (an, ad) (bn, bd) = (0, 0) := by unfold Q.tst; rw [h]; rfl
    rw [e]; clear e
    go_enter Tryz.func137, Tryz.ntmps137
    go_wp2_with fail
    refine (both_any _ _ _ _ _).mono ?_
    rintro e w1 ⟨rfl, hb1⟩
    obtain ⟨hc1, hf1, hz1, hB1⟩ := after (a := w) (B := w.heap.size) (w.heap.size + 3) hb1 (by first | (with_reducible assumption) | (simp; done) | omega | (simp; omega)) bl (by omega)
    rw [h]
    go_wp2
    exact bodyPost_ret (v := .agg #[.int .i64 0, .int .i64 0]) (by simp [results, Tryz.results137, go_sem, hc1]) rfl ⟨rfl, bl⟩
  · obtain ⟨c, hc⟩ : ∃ c, Hid (Q.cmp (an, ad) (bn, bd) = c) := ⟨_, rfl⟩
    cases e0 : (s.toList == [108, 116])
    rotate_left
    · obtain ⟨r, t, hr⟩ : ∃ r t, Hid (Q.truth (decide (c < 0)) = (r, t)) := ⟨_, _, rfl⟩
      have e : Q.tst s.toList (an, ad) (bn, bd) = (r, t) := by unfold Q.tst; rw [h, hc.out, e0]; simpa using hr.out
      rw [e]; clear e
      go_enter Tryz.func137, Tryz.ntmps137
      go_wp2_with fail
      refine (both_any _ _ _ _ _).mono ?_
      rintro e w1 ⟨rfl, hb1⟩
      obtain ⟨hc1, hf1, hz1, hB1⟩ := after (a := w) (B := w.heap.size) (w.heap.size + 3) hb1 (by first | (with_reducible assumption) | (simp; done) | omega | (simp; omega)) bl (by omega)
      rw [h]
      go_wp2_with fail
      refine (cmp_any _ _ _ _ _).mono ?_
      rintro e w2 ⟨rfl, hb2⟩
      obtain ⟨hc2, hf2, hz2, hB2⟩ := after (a := w) (B := w.heap.size) (w.heap.size + 3) hb2 (by first | (with_reducible assumption) | (simp; done) | omega | (simp; omega)) bl (by omega)
      rw [hc.out]
      go_wp2_with fail
      refine (truth_any _ _).mono ?_
      rintro e w3 ⟨rfl, hb3⟩
      obtain ⟨hc3, hf3, hz3, hB3⟩ := after (a := w) (B := w.heap.size) (w.heap.size + 3) hb3 (by first | (with_reducible assumption) | (simp; done) | omega | (simp; omega)) bl (by omega)
      rw [hr.out]
      go_wp2
      exact bodyPost_ret (v := .agg #[.int .i64 r, .int .i64 t]) (by simp [results, Tryz.results137, go_sem, hc3, hc2, hc1]) rfl ⟨rfl, bl⟩
    cases e1 : (s.toList == [108, 101])
    rotate_left
    · obtain ⟨r, t, hr⟩ : ∃ r t, Hid (Q.truth (decide (c ≤ 0)) = (r, t)) := ⟨_, _, rfl⟩
      have e : Q.tst s.toList (an, ad) (bn, bd) = (r, t) := by unfold Q.tst; rw [h, hc.out, e0, e1]; simpa using hr.out
      rw [e]; clear e
      go_enter Tryz.func137, Tryz.ntmps137
      go_wp2_with fail
      refine (both_any _ _ _ _ _).mono ?_
      rintro e w1 ⟨rfl, hb1⟩
      obtain ⟨hc1, hf1, hz1, hB1⟩ := after (a := w) (B := w.heap.size) (w.heap.size + 3) hb1 (by first | (with_reducible assumption) | (simp; done) | omega | (simp; omega)) bl (by omega)
      rw [h]
      go_wp2_with fail
      refine (cmp_any _ _ _ _ _).mono ?_
      rintro e w2 ⟨rfl, hb2⟩
      obtain ⟨hc2, hf2, hz2, hB2⟩ := after (a := w) (B := w.heap.size) (w.heap.size + 3) hb2 (by first | (with_reducible assumption) | (simp; done) | omega | (simp; omega)) bl (by omega)
      rw [hc.out]
      go_wp2_with fail
      refine (truth_any _ _).mono ?_
      rintro e w3 ⟨rfl, hb3⟩
      obtain ⟨hc3, hf3, hz3, hB3⟩ := after (a := w) (B := w.heap.size) (w.heap.size + 3) hb3 (by first | (with_reducible assumption) | (simp; done) | omega | (simp; omega)) bl (by omega)
      rw [hr.out]
      go_wp2
      exact bodyPost_ret (v := .agg #[.int .i64 r, .int .i64 t]) (by simp [results, Tryz.results137, go_sem, hc3, hc2, hc1]) rfl ⟨rfl, bl⟩
    cases e2 : (s.toList == [101, 113])
    rotate_left
    · obtain ⟨r, t, hr⟩ : ∃ r t, Hid (Q.truth (c == 0) = (r, t)) := ⟨_, _, rfl⟩
      have e : Q.tst s.toList (an, ad) (bn, bd) = (r, t) := by unfold Q.tst; rw [h, hc.out, e0, e1, e2]; simpa using hr.out
      rw [e]; clear e
      go_enter Tryz.func137, Tryz.ntmps137
      go_wp2_with fail
      refine (both_any _ _ _ _ _).mono ?_
      rintro e w1 ⟨rfl, hb1⟩
      obtain ⟨hc1, hf1, hz1, hB1⟩ := after (a := w) (B := w.heap.size) (w.heap.size + 3) hb1 (by first | (with_reducible assumption) | (simp; done) | omega | (simp; omega)) bl (by omega)
      rw [h]
      go_wp2_with fail
      refine (cmp_any _ _ _ _ _).mono ?_
      rintro e w2 ⟨rfl, hb2⟩
      obtain ⟨hc2, hf2, hz2, hB2⟩ := after (a := w) (B := w.heap.size) (w.heap.size + 3) hb2 (by first | (with_reducible assumption) | (simp; done) | omega | (simp; omega)) bl (by omega)
      rw [hc.out]
      go_wp2_with fail
      refine (truth_any _ _).mono ?_
      rintro e w3 ⟨rfl, hb3⟩
      obtain ⟨hc3, hf3, hz3, hB3⟩ := after (a := w) (B := w.heap.size) (w.heap.size + 3) hb3 (by first | (with_reducible assumption) | (simp; done) | omega | (simp; omega)) bl (by omega)
      rw [hr.out]
      go_wp2
      exact bodyPost_ret (v := .agg #[.int .i64 r, .int .i64 t]) (by simp [results, Tryz.results137, go_sem, hc3, hc2, hc1]) rfl ⟨rfl, bl⟩
    cases e3 : (s.toList == [110, 101])
    rotate_left
    · obtain ⟨r, t, hr⟩ : ∃ r t, Hid (Q.truth (c != 0) = (r, t)) := ⟨_, _, rfl⟩
      have e : Q.tst s.toList (an, ad) (bn, bd) = (r, t) := by unfold Q.tst; rw [h, hc.out, e0, e1, e2, e3]; simpa using hr.out
      rw [e]; clear e
      go_enter Tryz.func137, Tryz.ntmps137
      go_wp2_with fail
      refine (both_any _ _ _ _ _).mono ?_
      rintro e w1 ⟨rfl, hb1⟩
      obtain ⟨hc1, hf1, hz1, hB1⟩ := after (a := w) (B := w.heap.size) (w.heap.size + 3) hb1 (by first | (with_reducible assumption) | (simp; done) | omega | (simp; omega)) bl (by omega)
      rw [h]
      go_wp2_with fail
      refine (cmp_any _ _ _ _ _).mono ?_
      rintro e w2 ⟨rfl, hb2⟩
      obtain ⟨hc2, hf2, hz2, hB2⟩ := after (a := w) (B := w.heap.size) (w.heap.size + 3) hb2 (by first | (with_reducible assumption) | (simp; done) | omega | (simp; omega)) bl (by omega)
      rw [hc.out]
      go_wp2_with fail
      refine (truth_any _ _).mono ?_
      rintro e w3 ⟨rfl, hb3⟩
      obtain ⟨hc3, hf3, hz3, hB3⟩ := after (a := w) (B := w.heap.size) (w.heap.size + 3) hb3 (by first | (with_reducible assumption) | (simp; done) | omega | (simp; omega)) bl (by omega)
      rw [hr.out]
      go_wp2
      exact bodyPost_ret (v := .agg #[.int .i64 r, .int .i64 t]) (by simp [results, Tryz.results137, go_sem, hc3, hc2, hc1]) rfl ⟨rfl, bl⟩
    have e : Q.tst s.toList (an, ad) (bn, bd) = (0, 0) := by unfold Q.tst; rw [h, e0, e1, e2, e3]; rfl
    rw [e]; clear e
    go_enter Tryz.func137, Tryz.ntmps137
    go_wp2_with fail
    refine (both_any _ _ _ _ _).mono ?_
    rintro e w1 ⟨rfl, hb1⟩
    obtain ⟨hc1, hf1, hz1, hB1⟩ := after (a := w) (B := w.heap.size) (w.heap.size + 3) hb1 (by first | (with_reducible assumption) | (simp; done) | omega | (simp; omega)) bl (by omega)
    rw [h]
    go_wp2_with fail
    refine (cmp_any _ _ _ _ _).mono ?_
    rintro e w2 ⟨rfl, hb2⟩
    obtain ⟨hc2, hf2, hz2, hB2⟩ := after (a := w) (B := w.heap.size) (w.heap.size + 3) hb2 (by first | (with_reducible assumption) | (simp; done) | omega | (simp; omega)) bl (by omega)
    rw [hc.out]
    go_wp2
    exact bodyPost_ret (v := .agg #[.int .i64 0, .int .i64 0]) (by simp [results, Tryz.results137, go_sem, hc2, hc1]) rfl ⟨rfl, bl⟩

set_option maxRecDepth 100000 in
set_option maxHeartbeats 1600000 in
theorem rtest_any (s : ByteArray) (an ad bn bd : Int) (w : World) :
    Calls Tryz.prog 44 #[.string s, .agg #[.int .i64 an, .int .i64 ad], .agg #[.int .i64 bn, .int .i64 bd]] w fun e w' => e = .returned (.agg #[.int .i64 (Q.tst s.toList (an, ad) (bn, bd)).1, .int .i64 (Q.tst s.toList (an, ad) (bn, bd)).2]) ∧ Below w.heap.size w w' := by
  cases h : Q.both (an, ad) (bn, bd)
  · have e : Q.tst s.toList (an, ad) (bn, bd) = (0, 0) := by unfold Q.tst; rw [h]; rfl
    rw [e]; clear e
    go_enter Tryz.func44, Tryz.ntmps44
    go_wp2_with fail
    refine (rboth_any _ _ _ _ _).mono ?_
    rintro e w1 ⟨rfl, hb1⟩
    obtain ⟨hc1, hf1, hz1, hB1⟩ := after (a := w) (B := w.heap.size) (w.heap.size + 3) hb1 (by first | (with_reducible assumption) | (simp; done) | omega | (simp; omega)) bl (by omega)
    rw [h]
    go_wp2_with fail
    refine (rnone_any _).mono ?_
    rintro e w2 ⟨rfl, hb2⟩
    obtain ⟨hc2, hf2, hz2, hB2⟩ := after (a := w) (B := w.heap.size) (w.heap.size + 3) hb2 (by first | (with_reducible assumption) | (simp; done) | omega | (simp; omega)) bl (by omega)
    go_wp2
    exact bodyPost_ret (v := .agg #[.int .i64 0, .int .i64 0]) (by simp [results, Tryz.results44, go_sem, hc2, hc1]) rfl ⟨rfl, bl⟩
  · obtain ⟨c, hc⟩ : ∃ c, Hid (Q.cmp (an, ad) (bn, bd) = c) := ⟨_, rfl⟩
    cases e0 : (s.toList == [108, 116])
    rotate_left
    · obtain ⟨r, t, hr⟩ : ∃ r t, Hid (Q.truth (decide (c < 0)) = (r, t)) := ⟨_, _, rfl⟩
      have e : Q.tst s.toList (an, ad) (bn, bd) = (r, t) := by unfold Q.tst; rw [h, hc.out, e0]; simpa using hr.out
      rw [e]; clear e
      go_enter Tryz.func44, Tryz.ntmps44
      go_wp2_with fail
      refine (rboth_any _ _ _ _ _).mono ?_
      rintro e w1 ⟨rfl, hb1⟩
      obtain ⟨hc1, hf1, hz1, hB1⟩ := after (a := w) (B := w.heap.size) (w.heap.size + 3) hb1 (by first | (with_reducible assumption) | (simp; done) | omega | (simp; omega)) bl (by omega)
      rw [h]
      go_wp2_with fail
      refine (rcmp_any _ _ _ _ _).mono ?_
      rintro e w2 ⟨rfl, hb2⟩
      obtain ⟨hc2, hf2, hz2, hB2⟩ := after (a := w) (B := w.heap.size) (w.heap.size + 3) hb2 (by first | (with_reducible assumption) | (simp; done) | omega | (simp; omega)) bl (by omega)
      rw [hc.out]
      go_wp2_with fail
      refine (rtruth_any _ _).mono ?_
      rintro e w3 ⟨rfl, hb3⟩
      obtain ⟨hc3, hf3, hz3, hB3⟩ := after (a := w) (B := w.heap.size) (w.heap.size + 3) hb3 (by first | (with_reducible assumption) | (simp; done) | omega | (simp; omega)) bl (by omega)
      rw [hr.out]
      go_wp2
      exact bodyPost_ret (v := .agg #[.int .i64 r, .int .i64 t]) (by simp [results, Tryz.results44, go_sem, hc3, hc2, hc1]) rfl ⟨rfl, bl⟩
    cases e1 : (s.toList == [108, 101])
    rotate_left
    · obtain ⟨r, t, hr⟩ : ∃ r t, Hid (Q.truth (decide (c ≤ 0)) = (r, t)) := ⟨_, _, rfl⟩
      have e : Q.tst s.toList (an, ad) (bn, bd) = (r, t) := by unfold Q.tst; rw [h, hc.out, e0, e1]; simpa using hr.out
      rw [e]; clear e
      go_enter Tryz.func44, Tryz.ntmps44
      go_wp2_with fail
      refine (rboth_any _ _ _ _ _).mono ?_
      rintro e w1 ⟨rfl, hb1⟩
      obtain ⟨hc1, hf1, hz1, hB1⟩ := after (a := w) (B := w.heap.size) (w.heap.size + 3) hb1 (by first | (with_reducible assumption) | (simp; done) | omega | (simp; omega)) bl (by omega)
      rw [h]
      go_wp2_with fail
      refine (rcmp_any _ _ _ _ _).mono ?_
      rintro e w2 ⟨rfl, hb2⟩
      obtain ⟨hc2, hf2, hz2, hB2⟩ := after (a := w) (B := w.heap.size) (w.heap.size + 3) hb2 (by first | (with_reducible assumption) | (simp; done) | omega | (simp; omega)) bl (by omega)
      rw [hc.out]
      go_wp2_with fail
      refine (rtruth_any _ _).mono ?_
      rintro e w3 ⟨rfl, hb3⟩
      obtain ⟨hc3, hf3, hz3, hB3⟩ := after (a := w) (B := w.heap.size) (w.heap.size + 3) hb3 (by first | (with_reducible assumption) | (simp; done) | omega | (simp; omega)) bl (by omega)
      rw [hr.out]
      go_wp2
      exact bodyPost_ret (v := .agg #[.int .i64 r, .int .i64 t]) (by simp [results, Tryz.results44, go_sem, hc3, hc2, hc1]) rfl ⟨rfl, bl⟩
    cases e2 : (s.toList == [101, 113])
    rotate_left
    · obtain ⟨r, t, hr⟩ : ∃ r t, Hid (Q.truth (c == 0) = (r, t)) := ⟨_, _, rfl⟩
      have e : Q.tst s.toList (an, ad) (bn, bd) = (r, t) := by unfold Q.tst; rw [h, hc.out, e0, e1, e2]; simpa using hr.out
      rw [e]; clear e
      go_enter Tryz.func44, Tryz.ntmps44
      go_wp2_with fail
      refine (rboth_any _ _ _ _ _).mono ?_
      rintro e w1 ⟨rfl, hb1⟩
      obtain ⟨hc1, hf1, hz1, hB1⟩ := after (a := w) (B := w.heap.size) (w.heap.size + 3) hb1 (by first | (with_reducible assumption) | (simp; done) | omega | (simp; omega)) bl (by omega)
      rw [h]
      go_wp2_with fail
      refine (rcmp_any _ _ _ _ _).mono ?_
      rintro e w2 ⟨rfl, hb2⟩
      obtain ⟨hc2, hf2, hz2, hB2⟩ := after (a := w) (B := w.heap.size) (w.heap.size + 3) hb2 (by first | (with_reducible assumption) | (simp; done) | omega | (simp; omega)) bl (by omega)
      rw [hc.out]
      go_wp2_with fail
      refine (rtruth_any _ _).mono ?_
      rintro e w3 ⟨rfl, hb3⟩
      obtain ⟨hc3, hf3, hz3, hB3⟩ := after (a := w) (B := w.heap.size) (w.heap.size + 3) hb3 (by first | (with_reducible assumption) | (simp; done) | omega | (simp; omega)) bl (by omega)
      rw [hr.out]
      go_wp2
      exact bodyPost_ret (v := .agg #[.int .i64 r, .int .i64 t]) (by simp [results, Tryz.results44, go_sem, hc3, hc2, hc1]) rfl ⟨rfl, bl⟩
    cases e3 : (s.toList == [110, 101])
    rotate_left
    · obtain ⟨r, t, hr⟩ : ∃ r t, Hid (Q.truth (c != 0) = (r, t)) := ⟨_, _, rfl⟩
      have e : Q.tst s.toList (an, ad) (bn, bd) = (r, t) := by unfold Q.tst; rw [h, hc.out, e0, e1, e2, e3]; simpa using hr.out
      rw [e]; clear e
      go_enter Tryz.func44, Tryz.ntmps44
      go_wp2_with fail
      refine (rboth_any _ _ _ _ _).mono ?_
      rintro e w1 ⟨rfl, hb1⟩
      obtain ⟨hc1, hf1, hz1, hB1⟩ := after (a := w) (B := w.heap.size) (w.heap.size + 3) hb1 (by first | (with_reducible assumption) | (simp; done) | omega | (simp; omega)) bl (by omega)
      rw [h]
      go_wp2_with fail
      refine (rcmp_any _ _ _ _ _).mono ?_
      rintro e w2 ⟨rfl, hb2⟩
      obtain ⟨hc2, hf2, hz2, hB2⟩ := after (a := w) (B := w.heap.size) (w.heap.size + 3) hb2 (by first | (with_reducible assumption) | (simp; done) | omega | (simp; omega)) bl (by omega)
      rw [hc.out]
      go_wp2_with fail
      refine (rtruth_any _ _).mono ?_
      rintro e w3 ⟨rfl, hb3⟩
      obtain ⟨hc3, hf3, hz3, hB3⟩ := after (a := w) (B := w.heap.size) (w.heap.size + 3) hb3 (by first | (with_reducible assumption) | (simp; done) | omega | (simp; omega)) bl (by omega)
      rw [hr.out]
      go_wp2
      exact bodyPost_ret (v := .agg #[.int .i64 r, .int .i64 t]) (by simp [results, Tryz.results44, go_sem, hc3, hc2, hc1]) rfl ⟨rfl, bl⟩
    have e : Q.tst s.toList (an, ad) (bn, bd) = (0, 0) := by unfold Q.tst; rw [h, e0, e1, e2, e3]; rfl
    rw [e]; clear e
    go_enter Tryz.func44, Tryz.ntmps44
    go_wp2_with fail
    refine (rboth_any _ _ _ _ _).mono ?_
    rintro e w1 ⟨rfl, hb1⟩
    obtain ⟨hc1, hf1, hz1, hB1⟩ := after (a := w) (B := w.heap.size) (w.heap.size + 3) hb1 (by first | (with_reducible assumption) | (simp; done) | omega | (simp; omega)) bl (by omega)
    rw [h]
    go_wp2_with fail
    refine (rcmp_any _ _ _ _ _).mono ?_
    rintro e w2 ⟨rfl, hb2⟩
    obtain ⟨hc2, hf2, hz2, hB2⟩ := after (a := w) (B := w.heap.size) (w.heap.size + 3) hb2 (by first | (with_reducible assumption) | (simp; done) | omega | (simp; omega)) bl (by omega)
    rw [hc.out]
    go_wp2_with fail
    refine (rnone_any _).mono ?_
    rintro e w3 ⟨rfl, hb3⟩
    obtain ⟨hc3, hf3, hz3, hB3⟩ := after (a := w) (B := w.heap.size) (w.heap.size + 3) hb3 (by first | (with_reducible assumption) | (simp; done) | omega | (simp; omega)) bl (by omega)
    go_wp2
    exact bodyPost_ret (v := .agg #[.int .i64 0, .int .i64 0]) (by simp [results, Tryz.results44, go_sem, hc3, hc2, hc1]) rfl ⟨rfl, bl⟩

end Go.Proofs.YtiiddikiaafanaaGreatDoor.R
