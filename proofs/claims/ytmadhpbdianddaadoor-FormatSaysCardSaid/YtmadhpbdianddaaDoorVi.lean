/-
  Formats: Bound, Code, Value at any format: what the calls give.
-/
import Derived.Test.YtmadhpbdianddaaDoorVh
namespace Go.Proofs.YtmadhpbdianddaaDoor
open Go.RowKit
set_option maxRecDepth 100000 in
set_option maxHeartbeats 2000000 in
theorem Bound_any (k r o : ByteArray) (I F : Int) (hI : -9223372036854775808 ≤ I ∧ I ≤ 9223372036854775807) (hF : -9223372036854775808 ≤ F ∧ F ≤ 9223372036854775807) (w : World) :
    Calls Tryd.prog 23 #[.agg #[.string k, .int .i64 I, .int .i64 F, .string r, .string o]] w fun e w' => e = .returned (.tuple #[.agg #[.int .i64 (Z.bndQ k r o I F).1.1, .int .i64 (Z.bndQ k r o I F).1.2], .int .i64 (Z.bndQ k r o I F).2]) ∧ Below w.heap.size w w' := by
  cases hx : Z.isfx k r o I F
  · have e : Z.bndQ k r o I F = ((0, 0), 2) := by unfold Z.bndQ; rw [hx]; rfl
    rw [e]; clear e
    have HX := Lib.hid hx
    unfold Z.isfx at HX
    clear hx
    go_enter Tryd.func23, Tryd.ntmps23
    go_wp2_with fail
    refine (isFix_any _ _ _ _ _ hI hF _).mono ?_
    rintro e w1 ⟨rfl, hb1⟩
    obtain ⟨hc1, hf1, hz1, hB1⟩ := after (a := w) (B := w.heap.size) (w.heap.size + 2) hb1 (by first | (with_reducible assumption) | (simp; done) | omega | (simp; omega)) (by repeat' (first | (with_reducible exact Below.refl _ _) | (with_reducible assumption) | (with_reducible refine drewN_below ?_ _) | (with_reducible refine Below.drew ?_) | (with_reducible refine Below.alloc ?_ ?_ _) | (with_reducible refine Below.setCell ?_ ?_ _) | (simp; done) | omega | (simp; omega))) (by omega)
    rw [HX.out]
    go_wp2
    exact bodyPost_ret (v := .tuple #[.agg #[.int .i64 0, .int .i64 0], .int .i64 2]) (by simp [results, Tryd.results23, go_sem, hc1]) rfl ⟨rfl, (by repeat' (first | (with_reducible exact Below.refl _ _) | (with_reducible assumption) | (with_reducible refine drewN_below ?_ _) | (with_reducible refine Below.drew ?_) | (with_reducible refine Below.alloc ?_ ?_ _) | (with_reducible refine Below.setCell ?_ ?_ _) | (simp; done) | omega | (simp; omega)))⟩
  · have HX := Lib.hid hx
    unfold Z.isfx at HX
    obtain ⟨s, t, hs⟩ : ∃ s t, Hid (Z.stpQ k r o I F = (s, t)) := ⟨_, _, rfl⟩
    cases hn : (r.toList == [110, 101, 97, 114])
    · have e : Z.bndQ k r o I F = ((s, t), 0) := by unfold Z.bndQ; rw [hx, hn, hs.out]; rfl
      rw [e]; clear e hx
      go_enter Tryd.func23, Tryd.ntmps23
      go_wp2_with fail
      refine (isFix_any _ _ _ _ _ hI hF _).mono ?_
      rintro e w1 ⟨rfl, hb1⟩
      obtain ⟨hc1, hf1, hz1, hB1⟩ := after (a := w) (B := w.heap.size) (w.heap.size + 2) hb1 (by first | (with_reducible assumption) | (simp; done) | omega | (simp; omega)) (by repeat' (first | (with_reducible exact Below.refl _ _) | (with_reducible assumption) | (with_reducible refine drewN_below ?_ _) | (with_reducible refine Below.drew ?_) | (with_reducible refine Below.alloc ?_ ?_ _) | (with_reducible refine Below.setCell ?_ ?_ _) | (simp; done) | omega | (simp; omega))) (by omega)
      rw [HX.out]
      go_wp2_with fail
      refine (Step_any _ _ _ _ _ hI hF _).mono ?_
      rintro e w2 ⟨rfl, hb2⟩
      obtain ⟨hc2, hf2, hz2, hB2⟩ := after (a := w) (B := w.heap.size) (w.heap.size + 2) hb2 (by first | (with_reducible assumption) | (simp; done) | omega | (simp; omega)) (by repeat' (first | (with_reducible exact Below.refl _ _) | (with_reducible assumption) | (with_reducible refine drewN_below ?_ _) | (with_reducible refine Below.drew ?_) | (with_reducible refine Below.alloc ?_ ?_ _) | (with_reducible refine Below.setCell ?_ ?_ _) | (simp; done) | omega | (simp; omega))) (by omega)
      rw [hs.out]
      go_wp2
      exact bodyPost_ret (v := .tuple #[.agg #[.int .i64 s, .int .i64 t], .int .i64 0]) (by simp [results, Tryd.results23, go_sem, hc2, hc1]) rfl ⟨rfl, (by repeat' (first | (with_reducible exact Below.refl _ _) | (with_reducible assumption) | (with_reducible refine drewN_below ?_ _) | (with_reducible refine Below.drew ?_) | (with_reducible refine Below.alloc ?_ ?_ _) | (with_reducible refine Below.setCell ?_ ?_ _) | (simp; done) | omega | (simp; omega)))⟩
    · obtain ⟨a, b, hr⟩ : ∃ a b, Hid (Q.div (s, t) (2, 1) = (a, b)) := ⟨_, _, rfl⟩
      have e : Z.bndQ k r o I F = ((a, b), 0) := by unfold Z.bndQ; rw [hx, hn, hs.out]; simp only [if_true]; rw [hr.out]
      rw [e]; clear e hx
      have h21 : Hid (Q.mk 2 1 = (2, 1)) := by unfold Hid; decide
      go_enter Tryd.func23, Tryd.ntmps23
      go_wp2_with fail
      refine (isFix_any _ _ _ _ _ hI hF _).mono ?_
      rintro e w1 ⟨rfl, hb1⟩
      obtain ⟨hc1, hf1, hz1, hB1⟩ := after (a := w) (B := w.heap.size) (w.heap.size + 2) hb1 (by first | (with_reducible assumption) | (simp; done) | omega | (simp; omega)) (by repeat' (first | (with_reducible exact Below.refl _ _) | (with_reducible assumption) | (with_reducible refine drewN_below ?_ _) | (with_reducible refine Below.drew ?_) | (with_reducible refine Below.alloc ?_ ?_ _) | (with_reducible refine Below.setCell ?_ ?_ _) | (simp; done) | omega | (simp; omega))) (by omega)
      rw [HX.out]
      go_wp2_with fail
      refine (Step_any _ _ _ _ _ hI hF _).mono ?_
      rintro e w2 ⟨rfl, hb2⟩
      obtain ⟨hc2, hf2, hz2, hB2⟩ := after (a := w) (B := w.heap.size) (w.heap.size + 2) hb2 (by first | (with_reducible assumption) | (simp; done) | omega | (simp; omega)) (by repeat' (first | (with_reducible exact Below.refl _ _) | (with_reducible assumption) | (with_reducible refine drewN_below ?_ _) | (with_reducible refine Below.drew ?_) | (with_reducible refine Below.alloc ?_ ?_ _) | (with_reducible refine Below.setCell ?_ ?_ _) | (simp; done) | omega | (simp; omega))) (by omega)
      rw [hs.out]
      go_wp2_with fail
      refine (make_any _ _ (by omega) (by omega) _).mono ?_
      rintro e w3 ⟨rfl, hb3⟩
      obtain ⟨hc3, hf3, hz3, hB3⟩ := after (a := w) (B := w.heap.size) (w.heap.size + 2) hb3 (by first | (with_reducible assumption) | (simp; done) | omega | (simp; omega)) (by repeat' (first | (with_reducible exact Below.refl _ _) | (with_reducible assumption) | (with_reducible refine drewN_below ?_ _) | (with_reducible refine Below.drew ?_) | (with_reducible refine Below.alloc ?_ ?_ _) | (with_reducible refine Below.setCell ?_ ?_ _) | (simp; done) | omega | (simp; omega))) (by omega)
      rw [h21.out]
      go_wp2_with fail
      refine (div_any _ _ _ _ _).mono ?_
      rintro e w4 ⟨rfl, hb4⟩
      obtain ⟨hc4, hf4, hz4, hB4⟩ := after (a := w) (B := w.heap.size) (w.heap.size + 2) hb4 (by first | (with_reducible assumption) | (simp; done) | omega | (simp; omega)) (by repeat' (first | (with_reducible exact Below.refl _ _) | (with_reducible assumption) | (with_reducible refine drewN_below ?_ _) | (with_reducible refine Below.drew ?_) | (with_reducible refine Below.alloc ?_ ?_ _) | (with_reducible refine Below.setCell ?_ ?_ _) | (simp; done) | omega | (simp; omega))) (by omega)
      rw [hr.out]
      go_wp2
      exact bodyPost_ret (v := .tuple #[.agg #[.int .i64 a, .int .i64 b], .int .i64 0]) (by simp [results, Tryd.results23, go_sem, hc4, hc3, hc2, hc1]) rfl ⟨rfl, (by repeat' (first | (with_reducible exact Below.refl _ _) | (with_reducible assumption) | (with_reducible refine drewN_below ?_ _) | (with_reducible refine Below.drew ?_) | (with_reducible refine Below.alloc ?_ ?_ _) | (with_reducible refine Below.setCell ?_ ?_ _) | (simp; done) | omega | (simp; omega)))⟩

set_option maxRecDepth 100000 in
set_option maxHeartbeats 4000000 in
theorem Code_any (k r o : ByteArray) (I F : Int) (n d : Int) (hI : -9223372036854775808 ≤ I ∧ I ≤ 9223372036854775807) (hF : -9223372036854775808 ≤ F ∧ F ≤ 9223372036854775807) (w : World) :
    Calls Tryd.prog 25 #[.agg #[.string k, .int .i64 I, .int .i64 F, .string r, .string o], .agg #[.int .i64 n, .int .i64 d]] w fun e w' => e = .returned (.tuple #[.int .i64 (Z.codQ k r o I F n d).1, .int .i64 (Z.codQ k r o I F n d).2]) ∧ Below w.heap.size w w' := by
  cases hx : Z.isfx k r o I F
  · have e : Z.codQ k r o I F n d = (0, 2) := by unfold Z.codQ; rw [hx]; rfl
    rw [e]; clear e
    have HX := Lib.hid hx
    unfold Z.isfx at HX
    clear hx
    go_enter Tryd.func25, Tryd.ntmps25
    go_wp2_with fail
    refine (isFix_any _ _ _ _ _ hI hF _).mono ?_
    rintro e w1 ⟨rfl, hb1⟩
    obtain ⟨hc1, hf1, hz1, hB1⟩ := after (a := w) (B := w.heap.size) (w.heap.size + 2) hb1 (by first | (with_reducible assumption) | (simp; done) | omega | (simp; omega)) (by repeat' (first | (with_reducible exact Below.refl _ _) | (with_reducible assumption) | (with_reducible refine drewN_below ?_ _) | (with_reducible refine Below.drew ?_) | (with_reducible refine Below.alloc ?_ ?_ _) | (with_reducible refine Below.setCell ?_ ?_ _) | (simp; done) | omega | (simp; omega))) (by omega)
    rw [HX.out]
    go_wp2
    go_ret2
    exact ⟨rfl, (by repeat' (first | (with_reducible exact Below.refl _ _) | (with_reducible assumption) | (with_reducible refine drewN_below ?_ _) | (with_reducible refine Below.drew ?_) | (with_reducible refine Below.alloc ?_ ?_ _) | (with_reducible refine Below.setCell ?_ ?_ _) | (simp; done) | omega | (simp; omega)))⟩
  · have HX := Lib.hid hx
    unfold Z.isfx at HX
    cases hi : Z.isQ k r o I F n d
    · have e : Z.codQ k r o I F n d = (0, 5) := by unfold Z.codQ; rw [hx, hi]; rfl
      rw [e]; clear e hx
      go_enter Tryd.func25, Tryd.ntmps25
      go_wp2_with fail
      refine (isFix_any _ _ _ _ _ hI hF _).mono ?_
      rintro e w1 ⟨rfl, hb1⟩
      obtain ⟨hc1, hf1, hz1, hB1⟩ := after (a := w) (B := w.heap.size) (w.heap.size + 2) hb1 (by first | (with_reducible assumption) | (simp; done) | omega | (simp; omega)) (by repeat' (first | (with_reducible exact Below.refl _ _) | (with_reducible assumption) | (with_reducible refine drewN_below ?_ _) | (with_reducible refine Below.drew ?_) | (with_reducible refine Below.alloc ?_ ?_ _) | (with_reducible refine Below.setCell ?_ ?_ _) | (simp; done) | omega | (simp; omega))) (by omega)
      rw [HX.out]
      go_wp2_with fail
      refine (Is_any _ _ _ _ _ _ _ hI hF _).mono ?_
      rintro e w2 ⟨rfl, hb2⟩
      obtain ⟨hc2, hf2, hz2, hB2⟩ := after (a := w) (B := w.heap.size) (w.heap.size + 2) hb2 (by first | (with_reducible assumption) | (simp; done) | omega | (simp; omega)) (by repeat' (first | (with_reducible exact Below.refl _ _) | (with_reducible assumption) | (with_reducible refine drewN_below ?_ _) | (with_reducible refine Below.drew ?_) | (with_reducible refine Below.alloc ?_ ?_ _) | (with_reducible refine Below.setCell ?_ ?_ _) | (simp; done) | omega | (simp; omega))) (by omega)
      rw [hi]
      go_wp2
      go_ret2
      exact ⟨rfl, (by repeat' (first | (with_reducible exact Below.refl _ _) | (with_reducible assumption) | (with_reducible refine drewN_below ?_ _) | (with_reducible refine Below.drew ?_) | (with_reducible refine Below.alloc ?_ ?_ _) | (with_reducible refine Below.setCell ?_ ?_ _) | (simp; done) | omega | (simp; omega)))⟩
    · have e : Z.codQ k r o I F n d = (Z.cod I.toNat F.toNat n d, 0) := by unfold Z.codQ; rw [hx, hi]; rfl
      rw [e]; clear e
      have hv0 : Z.vld k r o I F = true := by unfold Z.isfx at hx; rw [Bool.and_eq_true] at hx; exact hx.1
      have hq := hi
      unfold Z.isQ at hq
      rw [Bool.and_eq_true] at hq
      obtain ⟨b1, b2, b3, b4, _⟩ := (Q.isq_iff n d).1 hq.1
      clear hq hx
      obtain ⟨p1, p2, p3, p4, p5, _⟩ := vld_parts hv0
      clear hv0
      obtain ⟨i, rfl⟩ := Int.eq_ofNat_of_zero_le p1
      obtain ⟨f, rfl⟩ := Int.eq_ofNat_of_zero_le p3
      have hs : i + f ≤ 30 := by omega
      have hB := pb_of hs
      obtain ⟨_, _, B1, B3⟩ := hB
      rw [show ((i : Int)).toNat = i by omega, show ((f : Int)).toNat = f by omega]
      have x0 : 0 ≤ (2 : Int) ^ f / d := Int.ediv_nonneg (by omega) (by omega)
      have x1 : (2 : Int) ^ f / d ≤ 1073741824 := Int.le_trans (Int.ediv_le_self _ (by omega)) B3.2
      have x2 := Q.mul_bd n ((2 : Int) ^ f / d) (by omega) (by omega)
      have y1 : IntKind.i64.wrap (2 ^ f) = 2 ^ f := Z.i64_in _ (by omega)
      have y2 : IntKind.i64.wrap ((2 ^ f : Int).tdiv d) = 2 ^ f / d := by rw [Int.tdiv_eq_ediv_of_nonneg (by omega)]; exact Z.i64_in _ (by omega)
      have y2' : (2 ^ f : Int).tdiv d = 2 ^ f / d := Int.tdiv_eq_ediv_of_nonneg (by omega)
      have y3 : IntKind.i64.wrap (n * (2 ^ f / d)) = n * (2 ^ f / d) := Z.i64_in _ (by omega)
      have y4 : ¬ d = 0 := by omega
      have y5 : (d == 0) = false := by rw [beq_eq_false_iff_ne]; omega
      obtain ⟨c, hc⟩ : ∃ c : Int, n * (2 ^ f / d) = c := ⟨_, rfl⟩
      have ecod : Z.cod i f n d = if c < 0 then c + 2 * 2 ^ (i + f) else c := by unfold Z.cod; rw [hc]
      obtain ⟨g, hg⟩ : ∃ g : Int, (2 : Int) ^ f / d = g := ⟨_, rfl⟩
      rw [hg] at hc y2 y2' y3
      rw [hc] at y3
      rw [hg, hc] at x2
      obtain ⟨H, hH⟩ : ∃ H : Int, Hid ((2 : Int) ^ (i + f) = H) := ⟨_, rfl⟩
      rw [hH.out] at ecod B1
      have y6 : wrap64 g = g := by unfold wrap64; omega
      have y7 : wrap64 (n * g) = c := by rw [hc]; unfold wrap64; omega
      have y8 : c < 0 → wrap64 (c + 2 * H) = c + 2 * H := fun h => by unfold wrap64; omega
      clear hg x0 x1
      by_cases h0 : c < 0
      · rw [if_pos h0] at ecod
        rw [ecod]; clear ecod
        have g0 : decide (c < 0) = true := decide_eq_true h0
        have y9 := y8 h0
        clear y8
        go_enter Tryd.func25, Tryd.ntmps25
        go_wp2_with fail
        refine (isFix_any _ _ _ _ _ hI hF _).mono ?_
        rintro e w1 ⟨rfl, hb1⟩
        obtain ⟨hc1, hf1, hz1, hB1⟩ := after (a := w) (B := w.heap.size) (w.heap.size + 2) hb1 (by first | (with_reducible assumption) | (simp; done) | omega | (simp; omega)) (by repeat' (first | (with_reducible exact Below.refl _ _) | (with_reducible assumption) | (with_reducible refine drewN_below ?_ _) | (with_reducible refine Below.drew ?_) | (with_reducible refine Below.alloc ?_ ?_ _) | (with_reducible refine Below.setCell ?_ ?_ _) | (simp; done) | omega | (simp; omega))) (by omega)
        rw [HX.out]
        go_wp2_with fail
        refine (Is_any _ _ _ _ _ _ _ hI hF _).mono ?_
        rintro e w2 ⟨rfl, hb2⟩
        obtain ⟨hc2, hf2, hz2, hB2⟩ := after (a := w) (B := w.heap.size) (w.heap.size + 2) hb2 (by first | (with_reducible assumption) | (simp; done) | omega | (simp; omega)) (by repeat' (first | (with_reducible exact Below.refl _ _) | (with_reducible assumption) | (with_reducible refine drewN_below ?_ _) | (with_reducible refine Below.drew ?_) | (with_reducible refine Below.alloc ?_ ?_ _) | (with_reducible refine Below.setCell ?_ ?_ _) | (simp; done) | omega | (simp; omega))) (by omega)
        rw [hi]
        go_wp2_with fail
        go_quiet (fail)
        go_wp2_with fail
        refine (half_any _ _ _ _ _ hs _).mono ?_
        rintro e w3 ⟨rfl, hb3⟩
        obtain ⟨hc3, hf3, hz3, hB3⟩ := after (a := w) (B := w.heap.size) (w.heap.size + 2) hb3 (by first | (with_reducible assumption) | (simp; done) | omega | (simp; omega)) (by repeat' (first | (with_reducible exact Below.refl _ _) | (with_reducible assumption) | (with_reducible refine drewN_below ?_ _) | (with_reducible refine Below.drew ?_) | (with_reducible refine Below.alloc ?_ ?_ _) | (with_reducible refine Below.setCell ?_ ?_ _) | (simp; done) | omega | (simp; omega))) (by omega)
        rw [hH.out]
        go_wp2
        go_ret2
        exact ⟨rfl, (by repeat' (first | (with_reducible exact Below.refl _ _) | (with_reducible assumption) | (with_reducible refine drewN_below ?_ _) | (with_reducible refine Below.drew ?_) | (with_reducible refine Below.alloc ?_ ?_ _) | (with_reducible refine Below.setCell ?_ ?_ _) | (simp; done) | omega | (simp; omega)))⟩
      · rw [if_neg h0] at ecod
        rw [ecod]; clear ecod y8
        have g0 : decide (c < 0) = false := decide_eq_false h0
        go_enter Tryd.func25, Tryd.ntmps25
        go_wp2_with fail
        refine (isFix_any _ _ _ _ _ hI hF _).mono ?_
        rintro e w1 ⟨rfl, hb1⟩
        obtain ⟨hc1, hf1, hz1, hB1⟩ := after (a := w) (B := w.heap.size) (w.heap.size + 2) hb1 (by first | (with_reducible assumption) | (simp; done) | omega | (simp; omega)) (by repeat' (first | (with_reducible exact Below.refl _ _) | (with_reducible assumption) | (with_reducible refine drewN_below ?_ _) | (with_reducible refine Below.drew ?_) | (with_reducible refine Below.alloc ?_ ?_ _) | (with_reducible refine Below.setCell ?_ ?_ _) | (simp; done) | omega | (simp; omega))) (by omega)
        rw [HX.out]
        go_wp2_with fail
        refine (Is_any _ _ _ _ _ _ _ hI hF _).mono ?_
        rintro e w2 ⟨rfl, hb2⟩
        obtain ⟨hc2, hf2, hz2, hB2⟩ := after (a := w) (B := w.heap.size) (w.heap.size + 2) hb2 (by first | (with_reducible assumption) | (simp; done) | omega | (simp; omega)) (by repeat' (first | (with_reducible exact Below.refl _ _) | (with_reducible assumption) | (with_reducible refine drewN_below ?_ _) | (with_reducible refine Below.drew ?_) | (with_reducible refine Below.alloc ?_ ?_ _) | (with_reducible refine Below.setCell ?_ ?_ _) | (simp; done) | omega | (simp; omega))) (by omega)
        rw [hi]
        go_wp2_with fail
        go_quiet (fail)
        go_wp2
        go_ret2
        exact ⟨rfl, (by repeat' (first | (with_reducible exact Below.refl _ _) | (with_reducible assumption) | (with_reducible refine drewN_below ?_ _) | (with_reducible refine Below.drew ?_) | (with_reducible refine Below.alloc ?_ ?_ _) | (with_reducible refine Below.setCell ?_ ?_ _) | (simp; done) | omega | (simp; omega)))⟩

set_option maxRecDepth 100000 in
set_option maxHeartbeats 4000000 in
theorem Value_any (k r o : ByteArray) (I F : Int) (c : Int) (hI : -9223372036854775808 ≤ I ∧ I ≤ 9223372036854775807) (hF : -9223372036854775808 ≤ F ∧ F ≤ 9223372036854775807) (hc : -9223372036854775808 ≤ c ∧ c ≤ 9223372036854775807) (w : World) :
    Calls Tryd.prog 27 #[.agg #[.string k, .int .i64 I, .int .i64 F, .string r, .string o], .int .i64 c] w fun e w' => e = .returned (.tuple #[.agg #[.int .i64 (Z.valQ k r o I F c).1.1, .int .i64 (Z.valQ k r o I F c).1.2], .int .i64 (Z.valQ k r o I F c).2]) ∧ Below w.heap.size w w' := by
  cases hx : Z.isfx k r o I F
  · have e : Z.valQ k r o I F c = ((0, 0), 2) := by unfold Z.valQ; rw [hx, if_neg (by simp)]
    rw [e]; clear e
    have HX := Lib.hid hx
    unfold Z.isfx at HX
    clear hx
    go_enter Tryd.func27, Tryd.ntmps27
    go_wp2_with fail
    refine (isFix_any _ _ _ _ _ hI hF _).mono ?_
    rintro e w1 ⟨rfl, hb1⟩
    obtain ⟨hc1, hf1, hz1, hB1⟩ := after (a := w) (B := w.heap.size) (w.heap.size + 2) hb1 (by first | (with_reducible assumption) | (simp; done) | omega | (simp; omega)) (by repeat' (first | (with_reducible exact Below.refl _ _) | (with_reducible assumption) | (with_reducible refine drewN_below ?_ _) | (with_reducible refine Below.drew ?_) | (with_reducible refine Below.alloc ?_ ?_ _) | (with_reducible refine Below.setCell ?_ ?_ _) | (simp; done) | omega | (simp; omega))) (by omega)
    rw [HX.out]
    go_wp2
    exact bodyPost_ret (v := .tuple #[.agg #[.int .i64 0, .int .i64 0], .int .i64 2]) (by simp [results, Tryd.results27, go_sem, hc1]) rfl ⟨rfl, (by repeat' (first | (with_reducible exact Below.refl _ _) | (with_reducible assumption) | (with_reducible refine drewN_below ?_ _) | (with_reducible refine Below.drew ?_) | (with_reducible refine Below.alloc ?_ ?_ _) | (with_reducible refine Below.setCell ?_ ?_ _) | (simp; done) | omega | (simp; omega)))⟩
  · have HX := Lib.hid hx
    unfold Z.isfx at HX
    have hv0 : Z.vld k r o I F = true := by unfold Z.isfx at hx; rw [Bool.and_eq_true] at hx; exact hx.1
    obtain ⟨p1, p2, p3, p4, p5, _⟩ := vld_parts hv0
    clear hv0
    obtain ⟨i, rfl⟩ := Int.eq_ofNat_of_zero_le p1
    obtain ⟨f, rfl⟩ := Int.eq_ofNat_of_zero_le p3
    have hs : i + f ≤ 30 := by omega
    have hB := pb_of hs
    obtain ⟨_, _, B1, B3⟩ := hB
    obtain ⟨H, hH⟩ : ∃ H : Int, Hid ((2 : Int) ^ (i + f) = H) := ⟨_, rfl⟩
    have ev : Z.valQ k r o (i : Int) (f : Int) c = if 0 ≤ c ∧ c < 2 * H then (Q.mk (if H ≤ c then c - 2 * H else c) (2 ^ f), 0) else ((0, 0), 2) := by
      unfold Z.valQ
      rw [hx, show ((i : Int)).toNat = i by omega, show ((f : Int)).toNat = f by omega, hH.out]
      simp only [true_and]
    rw [hH.out] at B1
    rw [ev]; clear ev hx
    have y4 : IntKind.i64.wrap (2 * H) = 2 * H := Z.i64_in _ (by omega)
    by_cases h1 : c < 0
    · rw [if_neg (by omega)]
      have g0 : decide (c < 0) = true := decide_eq_true h1
      go_enter Tryd.func27, Tryd.ntmps27
      go_wp2_with fail
      refine (isFix_any _ _ _ _ _ hI hF _).mono ?_
      rintro e w1 ⟨rfl, hb1⟩
      obtain ⟨hc1, hf1, hz1, hB1⟩ := after (a := w) (B := w.heap.size) (w.heap.size + 2) hb1 (by first | (with_reducible assumption) | (simp; done) | omega | (simp; omega)) (by repeat' (first | (with_reducible exact Below.refl _ _) | (with_reducible assumption) | (with_reducible refine drewN_below ?_ _) | (with_reducible refine Below.drew ?_) | (with_reducible refine Below.alloc ?_ ?_ _) | (with_reducible refine Below.setCell ?_ ?_ _) | (simp; done) | omega | (simp; omega))) (by omega)
      rw [HX.out]
      go_wp2
      exact bodyPost_ret (v := .tuple #[.agg #[.int .i64 0, .int .i64 0], .int .i64 2]) (by simp [results, Tryd.results27, go_sem, hc1]) rfl ⟨rfl, (by repeat' (first | (with_reducible exact Below.refl _ _) | (with_reducible assumption) | (with_reducible refine drewN_below ?_ _) | (with_reducible refine Below.drew ?_) | (with_reducible refine Below.alloc ?_ ?_ _) | (with_reducible refine Below.setCell ?_ ?_ _) | (simp; done) | omega | (simp; omega)))⟩
    · have g0 : decide (c < 0) = false := decide_eq_false h1
      by_cases h2 : 2 * H ≤ c
      · rw [if_neg (by omega)]
        have g1 : decide (2 * H ≤ c) = true := decide_eq_true h2
        go_enter Tryd.func27, Tryd.ntmps27
        go_wp2_with fail
        refine (isFix_any _ _ _ _ _ hI hF _).mono ?_
        rintro e w1 ⟨rfl, hb1⟩
        obtain ⟨hc1, hf1, hz1, hB1⟩ := after (a := w) (B := w.heap.size) (w.heap.size + 2) hb1 (by first | (with_reducible assumption) | (simp; done) | omega | (simp; omega)) (by repeat' (first | (with_reducible exact Below.refl _ _) | (with_reducible assumption) | (with_reducible refine drewN_below ?_ _) | (with_reducible refine Below.drew ?_) | (with_reducible refine Below.alloc ?_ ?_ _) | (with_reducible refine Below.setCell ?_ ?_ _) | (simp; done) | omega | (simp; omega))) (by omega)
        rw [HX.out]
        go_wp2_with fail
        refine (half_any _ _ _ _ _ hs _).mono ?_
        rintro e w2 ⟨rfl, hb2⟩
        obtain ⟨hc2, hf2, hz2, hB2⟩ := after (a := w) (B := w.heap.size) (w.heap.size + 2) hb2 (by first | (with_reducible assumption) | (simp; done) | omega | (simp; omega)) (by repeat' (first | (with_reducible exact Below.refl _ _) | (with_reducible assumption) | (with_reducible refine drewN_below ?_ _) | (with_reducible refine Below.drew ?_) | (with_reducible refine Below.alloc ?_ ?_ _) | (with_reducible refine Below.setCell ?_ ?_ _) | (simp; done) | omega | (simp; omega))) (by omega)
        rw [hH.out]
        go_wp2
        exact bodyPost_ret (v := .tuple #[.agg #[.int .i64 0, .int .i64 0], .int .i64 2]) (by simp [results, Tryd.results27, go_sem, hc2, hc1]) rfl ⟨rfl, (by repeat' (first | (with_reducible exact Below.refl _ _) | (with_reducible assumption) | (with_reducible refine drewN_below ?_ _) | (with_reducible refine Below.drew ?_) | (with_reducible refine Below.alloc ?_ ?_ _) | (with_reducible refine Below.setCell ?_ ?_ _) | (simp; done) | omega | (simp; omega)))⟩
      · rw [if_pos (by omega)]
        have g1 : decide (2 * H ≤ c) = false := decide_eq_false h2
        by_cases h3 : H ≤ c
        · rw [if_pos h3]
          have g2 : decide (H ≤ c) = true := decide_eq_true h3
          have y5 : IntKind.i64.wrap (c - 2 * H) = c - 2 * H := Z.i64_in _ (by omega)
          obtain ⟨a, b, hr⟩ : ∃ a b, Hid (Q.mk (c - 2 * H) (2 ^ f) = (a, b)) := ⟨_, _, rfl⟩
          rw [hr.out]
          go_enter Tryd.func27, Tryd.ntmps27
          go_wp2_with fail
          refine (isFix_any _ _ _ _ _ hI hF _).mono ?_
          rintro e w1 ⟨rfl, hb1⟩
          obtain ⟨hc1, hf1, hz1, hB1⟩ := after (a := w) (B := w.heap.size) (w.heap.size + 2) hb1 (by first | (with_reducible assumption) | (simp; done) | omega | (simp; omega)) (by repeat' (first | (with_reducible exact Below.refl _ _) | (with_reducible assumption) | (with_reducible refine drewN_below ?_ _) | (with_reducible refine Below.drew ?_) | (with_reducible refine Below.alloc ?_ ?_ _) | (with_reducible refine Below.setCell ?_ ?_ _) | (simp; done) | omega | (simp; omega))) (by omega)
          rw [HX.out]
          go_wp2_with fail
          refine (half_any _ _ _ _ _ hs _).mono ?_
          rintro e w2 ⟨rfl, hb2⟩
          obtain ⟨hc2, hf2, hz2, hB2⟩ := after (a := w) (B := w.heap.size) (w.heap.size + 2) hb2 (by first | (with_reducible assumption) | (simp; done) | omega | (simp; omega)) (by repeat' (first | (with_reducible exact Below.refl _ _) | (with_reducible assumption) | (with_reducible refine drewN_below ?_ _) | (with_reducible refine Below.drew ?_) | (with_reducible refine Below.alloc ?_ ?_ _) | (with_reducible refine Below.setCell ?_ ?_ _) | (simp; done) | omega | (simp; omega))) (by omega)
          rw [hH.out]
          go_wp2_with fail
          refine (half_any _ _ _ _ _ hs _).mono ?_
          rintro e w3 ⟨rfl, hb3⟩
          obtain ⟨hc3, hf3, hz3, hB3⟩ := after (a := w) (B := w.heap.size) (w.heap.size + 2) hb3 (by first | (with_reducible assumption) | (simp; done) | omega | (simp; omega)) (by repeat' (first | (with_reducible exact Below.refl _ _) | (with_reducible assumption) | (with_reducible refine drewN_below ?_ _) | (with_reducible refine Below.drew ?_) | (with_reducible refine Below.alloc ?_ ?_ _) | (with_reducible refine Below.setCell ?_ ?_ _) | (simp; done) | omega | (simp; omega))) (by omega)
          rw [hH.out]
          go_wp2_with fail
          refine (half_any _ _ _ _ _ hs _).mono ?_
          rintro e w4 ⟨rfl, hb4⟩
          obtain ⟨hc4, hf4, hz4, hB4⟩ := after (a := w) (B := w.heap.size) (w.heap.size + 2) hb4 (by first | (with_reducible assumption) | (simp; done) | omega | (simp; omega)) (by repeat' (first | (with_reducible exact Below.refl _ _) | (with_reducible assumption) | (with_reducible refine drewN_below ?_ _) | (with_reducible refine Below.drew ?_) | (with_reducible refine Below.alloc ?_ ?_ _) | (with_reducible refine Below.setCell ?_ ?_ _) | (simp; done) | omega | (simp; omega))) (by omega)
          rw [hH.out]
          go_wp2_with fail
          refine (steps_any _ _ _ _ _ _ (by omega) (by omega) _).mono ?_
          rintro e w5 ⟨rfl, hb5⟩
          obtain ⟨hc5, hf5, hz5, hB5⟩ := after (a := w) (B := w.heap.size) (w.heap.size + 2) hb5 (by first | (with_reducible assumption) | (simp; done) | omega | (simp; omega)) (by repeat' (first | (with_reducible exact Below.refl _ _) | (with_reducible assumption) | (with_reducible refine drewN_below ?_ _) | (with_reducible refine Below.drew ?_) | (with_reducible refine Below.alloc ?_ ?_ _) | (with_reducible refine Below.setCell ?_ ?_ _) | (simp; done) | omega | (simp; omega))) (by omega)
          rw [hr.out]
          go_wp2
          exact bodyPost_ret (v := .tuple #[.agg #[.int .i64 a, .int .i64 b], .int .i64 0]) (by simp [results, Tryd.results27, go_sem, hc5, hc4, hc3, hc2, hc1]) rfl ⟨rfl, (by repeat' (first | (with_reducible exact Below.refl _ _) | (with_reducible assumption) | (with_reducible refine drewN_below ?_ _) | (with_reducible refine Below.drew ?_) | (with_reducible refine Below.alloc ?_ ?_ _) | (with_reducible refine Below.setCell ?_ ?_ _) | (simp; done) | omega | (simp; omega)))⟩
        · rw [if_neg h3]
          have g2 : decide (H ≤ c) = false := decide_eq_false h3
          obtain ⟨a, b, hr⟩ : ∃ a b, Hid (Q.mk c (2 ^ f) = (a, b)) := ⟨_, _, rfl⟩
          rw [hr.out]
          go_enter Tryd.func27, Tryd.ntmps27
          go_wp2_with fail
          refine (isFix_any _ _ _ _ _ hI hF _).mono ?_
          rintro e w1 ⟨rfl, hb1⟩
          obtain ⟨hc1, hf1, hz1, hB1⟩ := after (a := w) (B := w.heap.size) (w.heap.size + 2) hb1 (by first | (with_reducible assumption) | (simp; done) | omega | (simp; omega)) (by repeat' (first | (with_reducible exact Below.refl _ _) | (with_reducible assumption) | (with_reducible refine drewN_below ?_ _) | (with_reducible refine Below.drew ?_) | (with_reducible refine Below.alloc ?_ ?_ _) | (with_reducible refine Below.setCell ?_ ?_ _) | (simp; done) | omega | (simp; omega))) (by omega)
          rw [HX.out]
          go_wp2_with fail
          refine (half_any _ _ _ _ _ hs _).mono ?_
          rintro e w2 ⟨rfl, hb2⟩
          obtain ⟨hc2, hf2, hz2, hB2⟩ := after (a := w) (B := w.heap.size) (w.heap.size + 2) hb2 (by first | (with_reducible assumption) | (simp; done) | omega | (simp; omega)) (by repeat' (first | (with_reducible exact Below.refl _ _) | (with_reducible assumption) | (with_reducible refine drewN_below ?_ _) | (with_reducible refine Below.drew ?_) | (with_reducible refine Below.alloc ?_ ?_ _) | (with_reducible refine Below.setCell ?_ ?_ _) | (simp; done) | omega | (simp; omega))) (by omega)
          rw [hH.out]
          go_wp2_with fail
          refine (half_any _ _ _ _ _ hs _).mono ?_
          rintro e w3 ⟨rfl, hb3⟩
          obtain ⟨hc3, hf3, hz3, hB3⟩ := after (a := w) (B := w.heap.size) (w.heap.size + 2) hb3 (by first | (with_reducible assumption) | (simp; done) | omega | (simp; omega)) (by repeat' (first | (with_reducible exact Below.refl _ _) | (with_reducible assumption) | (with_reducible refine drewN_below ?_ _) | (with_reducible refine Below.drew ?_) | (with_reducible refine Below.alloc ?_ ?_ _) | (with_reducible refine Below.setCell ?_ ?_ _) | (simp; done) | omega | (simp; omega))) (by omega)
          rw [hH.out]
          go_wp2_with fail
          refine (steps_any _ _ _ _ _ _ (by omega) (by omega) _).mono ?_
          rintro e w4 ⟨rfl, hb4⟩
          obtain ⟨hc4, hf4, hz4, hB4⟩ := after (a := w) (B := w.heap.size) (w.heap.size + 2) hb4 (by first | (with_reducible assumption) | (simp; done) | omega | (simp; omega)) (by repeat' (first | (with_reducible exact Below.refl _ _) | (with_reducible assumption) | (with_reducible refine drewN_below ?_ _) | (with_reducible refine Below.drew ?_) | (with_reducible refine Below.alloc ?_ ?_ _) | (with_reducible refine Below.setCell ?_ ?_ _) | (simp; done) | omega | (simp; omega))) (by omega)
          rw [hr.out]
          go_wp2
          exact bodyPost_ret (v := .tuple #[.agg #[.int .i64 a, .int .i64 b], .int .i64 0]) (by simp [results, Tryd.results27, go_sem, hc4, hc3, hc2, hc1]) rfl ⟨rfl, (by repeat' (first | (with_reducible exact Below.refl _ _) | (with_reducible assumption) | (with_reducible refine drewN_below ?_ _) | (with_reducible refine Below.drew ?_) | (with_reducible refine Below.alloc ?_ ?_ _) | (with_reducible refine Below.setCell ?_ ?_ _) | (simp; done) | omega | (simp; omega)))⟩

end Go.Proofs.YtmadhpbdianddaaDoor
