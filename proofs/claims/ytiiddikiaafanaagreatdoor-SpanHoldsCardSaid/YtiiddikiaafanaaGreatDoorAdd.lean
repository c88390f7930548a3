import Derived.Test.YtiiddikiaafanaaGreatDoorMake
set_option linter.all false
/-
  Make, and the specification's Make: both give Q.mk.
-/
namespace Go.Proofs.YtiiddikiaafanaaGreatDoor
open Go.RowKit

theorem q_let (p : Int × Int) : ∃ a b : Int, p = (a, b) := ⟨p.1, p.2, rfl⟩

set_option maxHeartbeats 400000 in
theorem make_any (n d : Int) (hn : -9223372036854775808 ≤ n ∧ n ≤ 9223372036854775807) (hd : -9223372036854775808 ≤ d ∧ d ≤ 9223372036854775807) (w : World) :
    Calls Tryz.prog 90 #[.int .i64 n, .int .i64 d] w fun e w' => e = .returned (.agg #[.int .i64 (Q.mk n d).1, .int .i64 (Q.mk n d).2]) ∧ Below w.heap.size w w' := by
  have hs : Hid (Q.mk n d = Q.low (!(decide (n < 0) == decide (d < 0))) n.natAbs d.natAbs) := rfl
  generalize Q.mk n d = r at *
  obtain ⟨r1, r2, rfl⟩ := q_let r
  go_enter Tryz.func90, Tryz.ntmps90
  go_wp2_with (first | (go_at_call 75; refine (size_any _ (by omega) _).mono ?_; rintro e w1 ⟨rfl, rfl⟩) | (go_at_call 122; refine (lowest_any _ _ _ (by omega) (by omega) _).mono ?_; rintro e w1 ⟨rfl, hb1⟩; obtain ⟨hc1, hf1⟩ := bcell hb1; rw [← hs.out]))
  have hz1 := hb1.size
  simp at hz1
  exact bodyPost_ret (v := .agg #[.int .i64 r1, .int .i64 r2]) (by simp [results, Tryz.results90, go_sem, hc1]) rfl ⟨rfl, Below.setCell (Below.setCell (on_below hb1 (by go_grown) (by simp)) (by simp) _) (by simp) _⟩

set_option maxHeartbeats 800000 in
theorem rmake_zero (n : Int) (w : World) :
    Calls Tryz.prog 52 #[.int .i64 n, .int .i64 0] w fun e w' => e = .returned (.agg #[.int .i64 0, .int .i64 0]) ∧ Below w.heap.size w w' := by
  go_enter Tryz.func52, Tryz.ntmps52
  go_wp2_with (go_at_call 16; refine (rnone_any _).mono ?_; rintro e w1 ⟨rfl, hb1⟩; obtain ⟨hc1, hf1⟩ := bcell hb1)
  have hz1 := hb1.size
  simp at hz1
  exact bodyPost_ret (v := .agg #[.int .i64 0, .int .i64 0]) (by simp [results, Tryz.results52, go_sem, hc1]) rfl ⟨rfl, Below.setCell (Below.setCell (on_below hb1 (by go_grown) (by simp)) (by simp) _) (by simp) _⟩

def leastB (a : Int) : Bool := a == leastInt
theorem leastB_no {a : Int} (h : leastB a = false) (h0 : -9223372036854775808 ≤ a) : -9223372036854775807 ≤ a := by
  unfold leastB leastInt at h; rw [beq_eq_false_iff_ne] at h; omega
theorem odd_of (a : Int) (h : ¬ a.tmod 2 = 0) : a.natAbs % 2 = 1 := by
  have h1 : a.tmod 2 = if 0 ≤ a then ((a.natAbs % 2 : Nat) : Int) else -((a.natAbs % 2 : Nat) : Int) := by
    split
    · rw [Int.tmod_eq_emod_of_nonneg (by assumption)]; omega
    · have : a = -(-a) := by omega
      rw [this, Int.neg_tmod, Int.tmod_eq_emod_of_nonneg (by omega)]; omega
  omega
theorem least_mod : leastInt.tmod 2 = 0 := by decide
def halfLeast : Int := -4611686018427387904
theorem least_half : wrap64 (leastInt.tdiv 2) = halfLeast := by unfold wrap64 leastInt halfLeast; decide
theorem leastB_yes {a : Int} (h : leastB a = true) : a = leastInt := by unfold leastB at h; exact eq_of_beq h
/-- What the end of the specification's Make does, over a number above 0. -/
structure MkFin (a b r s g x y : Int) : Prop where
  gcd : ((a.natAbs.gcd b.natAbs : Nat) : Int) = g
  pos : 0 < g
  ex : a.tdiv g = x
  ey : b.tdiv g = y
  yes : Q.isq x y = true → (r, s) = (x, y)
  no : Q.isq x y = false → (r, s) = (0, 0)
theorem fin_mk (a b : Int) (hb : 0 < b) : MkFin a b (Q.mk a b).1 (Q.mk a b).2 ((a.natAbs.gcd b.natAbs : Nat) : Int) (a.tdiv ((a.natAbs.gcd b.natAbs : Nat) : Int)) (b.tdiv ((a.natAbs.gcd b.natAbs : Nat) : Int)) :=
  ⟨rfl, by have := Q.gcd_pos' a b (by omega); omega, rfl, rfl, fun h => (Q.mk_pos a b hb _ rfl).1 h, fun h => (Q.mk_pos a b hb _ rfl).2 h⟩

set_option maxHeartbeats 1600000 in
theorem rmake_any (n d r s : Int) (hn : -9223372036854775808 ≤ n ∧ n ≤ 9223372036854775807) (hd : -9223372036854775808 ≤ d ∧ d ≤ 9223372036854775807) (hd0 : Hid (d ≠ 0))
    (hr : Hid (Q.mk n d = (r, s))) (w : World) :
    Calls Tryz.prog 52 #[.int .i64 n, .int .i64 d] w fun e w' => e = .returned (.agg #[.int .i64 r, .int .i64 s]) ∧ Below w.heap.size w w' := by
  have d0 : (d == 0) = false := by rw [beq_eq_false_iff_ne]; exact hd0.out
  go_enter Tryz.func52, Tryz.ntmps52
  go_wp2
  clear d0
  go_loop [0, 1] (fun p q => ∃ a b : Int, p = .int .i64 a ∧ q = .int .i64 b ∧ (-9223372036854775808 ≤ a ∧ a ≤ 9223372036854775807) ∧ (-9223372036854775808 ≤ b ∧ b ≤ 9223372036854775807) ∧ Hid (b ≠ 0 ∧ Q.mk a b = (r, s))) (fun p q => if leastB (intOf p) || leastB (intOf q) then 1 else 0)
  case atStart => exact ⟨n, d, rfl, rfl, hn, hd, ⟨hd0.out, hr.out⟩⟩
  case round =>
    clear hn hd hd0 hr
    obtain ⟨a, b, rfl, rfl, ha, hb, H⟩ := hrel
    cases la : leastB a
    · have ha1 := leastB_no la ha.1
      cases lb : leastB b
      · have hbb := leastB_no lb hb.1
        clear la lb
        by_cases hp : 0 < b
        · skip
          obtain ⟨g, x, y, F⟩ : ∃ g x y, Hid (MkFin (a) (b) r s g x y) := ⟨_, _, _, by have := fin_mk (a) (b) (by omega); rw [H.out.2] at this; exact this⟩
          have hgp := F.out.pos
          have u1 : IntKind.i64.wrap ((a).tdiv g) = x := by rw [← F.out.ex]; exact IntWalk.i64_quo' _ _ (by omega)
          have u2 : IntKind.i64.wrap ((b).tdiv g) = y := by rw [← F.out.ey]; exact IntWalk.i64_quo' _ _ (by omega)
          cases hi : Q.isq x y
          · have hrs := Lib.hid (F.out.no hi)
            go_wp2_with (first | (go_at_call 83; refine (rleast_no _ (by omega) _).mono ?_; rintro e w1 ⟨rfl, rfl⟩) | (go_at_call 55; refine (rdivisor_any _ _ (by omega) (by omega) _).mono ?_; rintro e w1 ⟨rfl, rfl⟩; rw [F.out.gcd]))
            have g0 : (g == 0) = false := by rw [beq_eq_false_iff_ne]; omega
            go_region
            go_wp2_with (first | (go_at_call 15; refine (ris_any _ _ _).mono ?_; rintro e w1 ⟨rfl, hb1⟩; obtain ⟨hc1, hf1, hz1⟩ := bck (w.heap.size + 2) hb1 (by simp); rw [hi]) | (go_at_call 16; refine (rnone_any _).mono ?_; rintro e w2 ⟨rfl, hb2⟩; obtain ⟨hc2, hf2, hz2⟩ := bck (w.heap.size + 2) hb2 hz1))
            have hrs := hrs.out
            simp only [Prod.mk.injEq] at hrs
            obtain ⟨rfl, rfl⟩ := hrs
            exact bodyPost_ret (v := .agg #[.int .i64 0, .int .i64 0]) (by simp [results, Tryz.results52, go_sem, hc2, hc1]) rfl ⟨rfl, Below.setCell (Below.setCell (on_below hb2 (on_below hb1 (by go_grown) (by simp; omega)) (by omega)) (by simp) _) (by simp) _⟩
          · have hrs := Lib.hid (F.out.yes hi)
            go_wp2_with (first | (go_at_call 83; refine (rleast_no _ (by omega) _).mono ?_; rintro e w1 ⟨rfl, rfl⟩) | (go_at_call 55; refine (rdivisor_any _ _ (by omega) (by omega) _).mono ?_; rintro e w1 ⟨rfl, rfl⟩; rw [F.out.gcd]))
            have g0 : (g == 0) = false := by rw [beq_eq_false_iff_ne]; omega
            go_region
            go_wp2_with (first | (go_at_call 15; refine (ris_any _ _ _).mono ?_; rintro e w1 ⟨rfl, hb1⟩; obtain ⟨hc1, hf1, hz1⟩ := bck (w.heap.size + 2) hb1 (by simp); rw [hi]) | (go_at_call 16; refine (rnone_any _).mono ?_; rintro e w2 ⟨rfl, hb2⟩; obtain ⟨hc2, hf2, hz2⟩ := bck (w.heap.size + 2) hb2 hz1))
            have hrs := hrs.out
            simp only [Prod.mk.injEq] at hrs
            obtain ⟨rfl, rfl⟩ := hrs
            exact bodyPost_ret (v := .agg #[.int .i64 r, .int .i64 s]) (by simp [results, Tryz.results52, go_sem, hc1]) rfl ⟨rfl, Below.setCell (Below.setCell (on_below hb1 (by go_grown) (by simp; omega)) (by simp) _) (by simp) _⟩
        · have hp2 : b < 0 := by have := H.out.1; omega
          clear hp
          have hF0 := fin_mk (-a) (-b) (by omega)
          rw [Q.mk_neg a b H.out.1, H.out.2] at hF0
          have hab : (-9223372036854775807 ≤ -a ∧ -a ≤ 9223372036854775807) ∧ (1 ≤ -b ∧ -b ≤ 9223372036854775807) := by omega
          obtain ⟨a', hna⟩ : ∃ a', -a = a' := ⟨_, rfl⟩
          obtain ⟨b', hnb⟩ : ∃ b', -b = b' := ⟨_, rfl⟩
          rw [hna, hnb] at hF0 hab
          obtain ⟨g, x, y, F⟩ : ∃ g x y, Hid (MkFin a' b' r s g x y) := ⟨_, _, _, hF0⟩
          clear hF0
          have hgp := F.out.pos
          have u1 : IntKind.i64.wrap (a'.tdiv g) = x := by rw [← F.out.ex]; exact IntWalk.i64_quo' _ _ (by omega)
          have u2 : IntKind.i64.wrap (b'.tdiv g) = y := by rw [← F.out.ey]; exact IntWalk.i64_quo' _ _ (by omega)
          cases hi : Q.isq x y
          · have hrs := Lib.hid (F.out.no hi)
            go_wp2_with (first | (go_at_call 83; refine (rleast_no _ (by omega) _).mono ?_; rintro e w1 ⟨rfl, rfl⟩) | (go_at_call 55; refine (rdivisor_any _ _ (by omega) (by omega) _).mono ?_; rintro e w1 ⟨rfl, rfl⟩; rw [F.out.gcd]))
            have g0 : (g == 0) = false := by rw [beq_eq_false_iff_ne]; omega
            go_region
            go_wp2_with (first | (go_at_call 15; refine (ris_any _ _ _).mono ?_; rintro e w1 ⟨rfl, hb1⟩; obtain ⟨hc1, hf1, hz1⟩ := bck (w.heap.size + 2) hb1 (by simp); rw [hi]) | (go_at_call 16; refine (rnone_any _).mono ?_; rintro e w2 ⟨rfl, hb2⟩; obtain ⟨hc2, hf2, hz2⟩ := bck (w.heap.size + 2) hb2 hz1))
            have hrs := hrs.out
            simp only [Prod.mk.injEq] at hrs
            obtain ⟨rfl, rfl⟩ := hrs
            exact bodyPost_ret (v := .agg #[.int .i64 0, .int .i64 0]) (by simp [results, Tryz.results52, go_sem, hc2, hc1]) rfl ⟨rfl, Below.setCell (Below.setCell (on_below hb2 (on_below hb1 (by go_grown) (by simp; omega)) (by omega)) (by simp) _) (by simp) _⟩
          · have hrs := Lib.hid (F.out.yes hi)
            go_wp2_with (first | (go_at_call 83; refine (rleast_no _ (by omega) _).mono ?_; rintro e w1 ⟨rfl, rfl⟩) | (go_at_call 55; refine (rdivisor_any _ _ (by omega) (by omega) _).mono ?_; rintro e w1 ⟨rfl, rfl⟩; rw [F.out.gcd]))
            have g0 : (g == 0) = false := by rw [beq_eq_false_iff_ne]; omega
            go_region
            go_wp2_with (first | (go_at_call 15; refine (ris_any _ _ _).mono ?_; rintro e w1 ⟨rfl, hb1⟩; obtain ⟨hc1, hf1, hz1⟩ := bck (w.heap.size + 2) hb1 (by simp); rw [hi]) | (go_at_call 16; refine (rnone_any _).mono ?_; rintro e w2 ⟨rfl, hb2⟩; obtain ⟨hc2, hf2, hz2⟩ := bck (w.heap.size + 2) hb2 hz1))
            have hrs := hrs.out
            simp only [Prod.mk.injEq] at hrs
            obtain ⟨rfl, rfl⟩ := hrs
            exact bodyPost_ret (v := .agg #[.int .i64 r, .int .i64 s]) (by simp [results, Tryz.results52, go_sem, hc1]) rfl ⟨rfl, Below.setCell (Below.setCell (on_below hb1 (by go_grown) (by simp; omega)) (by simp) _) (by simp) _⟩
      · obtain rfl := leastB_yes lb
        clear lb hb
        have L1 := least_mod
        have L2 := least_half
        by_cases hev : a.tmod 2 = 0
        · have t1 : (a.tmod 2 != 0) = false := by rw [hev]; rfl
          go_wp2_with (first | (go_at_call 83; refine (rleast_no _ (by omega) _).mono ?_; rintro e w1 ⟨rfl, rfl⟩) | (go_at_call 83; refine (rleast_yes _).mono ?_; rintro e w1 ⟨rfl, rfl⟩))
          have hH := H.out
          have e2 : a = 2 * a.tdiv 2 := by have := Int.mul_tdiv_add_tmod a 2; omega
          rw [least_half]
          refine ⟨⟨_, _, rfl, rfl, by omega, by decide, ⟨by decide, ?_⟩⟩, ?_⟩
          · rw [← hH.2, ← Q.mk_two, ← e2]; rfl
          · simp [intOf, leastB, leastInt]; unfold halfLeast; omega
        · have t1 : (a.tmod 2 != 0) = true := by rw [bne_iff_ne]; exact hev
          have hz : (r, s) = (0, 0) := by rw [← H.out.2]; exact Q.mk_least_d a (odd_of a hev)
          simp only [Prod.mk.injEq] at hz
          obtain ⟨rfl, rfl⟩ := hz
          go_wp2_with (first | (go_at_call 83; refine (rleast_no _ (by omega) _).mono ?_; rintro e w1 ⟨rfl, rfl⟩) | (go_at_call 83; refine (rleast_yes _).mono ?_; rintro e w1 ⟨rfl, rfl⟩) | (go_at_call 16; refine (rnone_any _).mono ?_; rintro e w2 ⟨rfl, hb2⟩; obtain ⟨hc2, hf2, hz2⟩ := bck (w.heap.size + 1) hb2 (by simp)))
          exact bodyPost_ret (v := .agg #[.int .i64 0, .int .i64 0]) (by simp [results, Tryz.results52, go_sem, hc2]) rfl ⟨rfl, Below.setCell (Below.setCell (on_below hb2 (by go_grown) (by simp)) (by simp) _) (by simp) _⟩
    · obtain rfl := leastB_yes la
      clear la ha
      have L1 := least_mod
      have L2 := least_half
      by_cases hev : b.tmod 2 = 0
      · have t1 : (b.tmod 2 != 0) = false := by rw [hev]; rfl
        go_wp2_with (first | (go_at_call 83; refine (rleast_yes _).mono ?_; rintro e w1 ⟨rfl, rfl⟩))
        have hH := H.out
        have e2 : b = 2 * b.tdiv 2 := by have := Int.mul_tdiv_add_tmod b 2; omega
        rw [least_half]
        refine ⟨⟨_, _, rfl, rfl, by decide, by omega, ⟨by omega, ?_⟩⟩, ?_⟩
        · rw [← hH.2, ← Q.mk_two, ← e2]; rfl
        · simp [intOf, leastB, leastInt]; unfold halfLeast; omega
      · have t1 : (b.tmod 2 != 0) = true := by rw [bne_iff_ne]; exact hev
        have hz : (r, s) = (0, 0) := by rw [← H.out.2]; exact Q.mk_least_n b (odd_of b hev)
        simp only [Prod.mk.injEq] at hz
        obtain ⟨rfl, rfl⟩ := hz
        go_wp2_with (first | (go_at_call 83; refine (rleast_yes _).mono ?_; rintro e w1 ⟨rfl, rfl⟩) | (go_at_call 16; refine (rnone_any _).mono ?_; rintro e w2 ⟨rfl, hb2⟩; obtain ⟨hc2, hf2, hz2⟩ := bck (w.heap.size + 1) hb2 (by simp)))
        exact bodyPost_ret (v := .agg #[.int .i64 0, .int .i64 0]) (by simp [results, Tryz.results52, go_sem, hc2]) rfl ⟨rfl, Below.setCell (Below.setCell (on_below hb2 (by go_grown) (by simp)) (by simp) _) (by simp) _⟩

theorem rmake_all (n d : Int) (hn : -9223372036854775808 ≤ n ∧ n ≤ 9223372036854775807) (hd : -9223372036854775808 ≤ d ∧ d ≤ 9223372036854775807) (w : World) :
    Calls Tryz.prog 52 #[.int .i64 n, .int .i64 d] w fun e w' => e = .returned (.agg #[.int .i64 (Q.mk n d).1, .int .i64 (Q.mk n d).2]) ∧ Below w.heap.size w w' := by
  by_cases h : d = 0
  · subst h; rw [Q.mk_zero]; exact rmake_zero n w
  · exact rmake_any n d _ _ hn hd h rfl w
end Go.Proofs.YtiiddikiaafanaaGreatDoor

/-
  Both, sums and products, and the specification's own: what each call gives.
-/
namespace Go.Proofs.YtiiddikiaafanaaGreatDoor.R
open Go.Proofs.YtiiddikiaafanaaGreatDoor
open Go.RowKit
/-- What a contract's end tells, said of the world that the walk began in. -/
theorem after {W w1 a : World} {B : Nat} (k : Nat) (hb : Below W.heap.size W w1) (hk : k ≤ W.heap.size) (h : Below B a W) (hB : B ≤ k) :
    (∀ b o, b < k → w1.cell? ⟨b, o, none⟩ = W.cell? ⟨b, o, none⟩) ∧ (∀ b o, b < k → w1.frozen? ⟨b, o, none⟩ = W.frozen? ⟨b, o, none⟩) ∧ k ≤ w1.heap.size ∧ Below B a w1 :=
  ⟨(bck k hb hk).1, (bck k hb hk).2.1, (bck k hb hk).2.2, on_below hb h (Nat.le_trans hB hk)⟩

set_option maxHeartbeats 400000 in
theorem both_any (an ad bn bd : Int) (w : World) :
    Calls Tryz.prog 91 #[.agg #[.int .i64 an, .int .i64 ad], .agg #[.int .i64 bn, .int .i64 bd]] w fun e w' => e = .returned (.bool (Q.both (an, ad) (bn, bd))) ∧ Below w.heap.size w w' := by
  have hq : Q.both (an, ad) (bn, bd) = (Q.isq an ad && Q.isq bn bd) := rfl
  rw [hq]; clear hq
  cases h1 : Q.isq an ad
  · go_enter Tryz.func91, Tryz.ntmps91
    go_wp2_with fail
    refine (is_any _ _ _).mono ?_
    rintro e w1 ⟨rfl, hb1⟩
    obtain ⟨hc1, hf1, hz1, hB1⟩ := after (a := w) (B := w.heap.size) (w.heap.size + 2) hb1 (by first | (with_reducible assumption) | (simp; done) | omega | (simp; omega)) bl (by omega)
    rw [h1]
    go_wp2
    go_ret
    exact ⟨rfl, bl⟩
  · cases h2 : Q.isq bn bd
    · go_enter Tryz.func91, Tryz.ntmps91
      go_wp2_with fail
      refine (is_any _ _ _).mono ?_
      rintro e w1 ⟨rfl, hb1⟩
      obtain ⟨hc1, hf1, hz1, hB1⟩ := after (a := w) (B := w.heap.size) (w.heap.size + 2) hb1 (by first | (with_reducible assumption) | (simp; done) | omega | (simp; omega)) bl (by omega)
      rw [h1]
      go_wp2_with fail
      refine (is_any _ _ _).mono ?_
      rintro e w2 ⟨rfl, hb2⟩
      obtain ⟨hc2, hf2, hz2, hB2⟩ := after (a := w) (B := w.heap.size) (w.heap.size + 2) hb2 (by first | (with_reducible assumption) | (simp; done) | omega | (simp; omega)) bl (by omega)
      rw [h2]
      go_wp2
      go_ret
      exact ⟨rfl, bl⟩
    · go_enter Tryz.func91, Tryz.ntmps91
      go_wp2_with fail
      refine (is_any _ _ _).mono ?_
      rintro e w1 ⟨rfl, hb1⟩
      obtain ⟨hc1, hf1, hz1, hB1⟩ := after (a := w) (B := w.heap.size) (w.heap.size + 2) hb1 (by first | (with_reducible assumption) | (simp; done) | omega | (simp; omega)) bl (by omega)
      rw [h1]
      go_wp2_with fail
      refine (is_any _ _ _).mono ?_
      rintro e w2 ⟨rfl, hb2⟩
      obtain ⟨hc2, hf2, hz2, hB2⟩ := after (a := w) (B := w.heap.size) (w.heap.size + 2) hb2 (by first | (with_reducible assumption) | (simp; done) | omega | (simp; omega)) bl (by omega)
      rw [h2]
      go_wp2
      go_ret
      exact ⟨rfl, bl⟩

set_option maxHeartbeats 400000 in
theorem rboth_any (an ad bn bd : Int) (w : World) :
    Calls Tryz.prog 77 #[.agg #[.int .i64 an, .int .i64 ad], .agg #[.int .i64 bn, .int .i64 bd]] w fun e w' => e = .returned (.bool (Q.both (an, ad) (bn, bd))) ∧ Below w.heap.size w w' := by
  have hq : Q.both (an, ad) (bn, bd) = (Q.isq an ad && Q.isq bn bd) := rfl
  rw [hq]; clear hq
  cases h1 : Q.isq an ad
  · go_enter Tryz.func77, Tryz.ntmps77
    go_wp2_with fail
    refine (ris_any _ _ _).mono ?_
    rintro e w1 ⟨rfl, hb1⟩
    obtain ⟨hc1, hf1, hz1, hB1⟩ := after (a := w) (B := w.heap.size) (w.heap.size + 2) hb1 (by first | (with_reducible assumption) | (simp; done) | omega | (simp; omega)) bl (by omega)
    rw [h1]
    go_wp2
    go_ret
    exact ⟨rfl, bl⟩
  · cases h2 : Q.isq bn bd
    · go_enter Tryz.func77, Tryz.ntmps77
      go_wp2_with fail
      refine (ris_any _ _ _).mono ?_
      rintro e w1 ⟨rfl, hb1⟩
      obtain ⟨hc1, hf1, hz1, hB1⟩ := after (a := w) (B := w.heap.size) (w.heap.size + 2) hb1 (by first | (with_reducible assumption) | (simp; done) | omega | (simp; omega)) bl (by omega)
      rw [h1]
      go_wp2_with fail
      refine (ris_any _ _ _).mono ?_
      rintro e w2 ⟨rfl, hb2⟩
      obtain ⟨hc2, hf2, hz2, hB2⟩ := after (a := w) (B := w.heap.size) (w.heap.size + 2) hb2 (by first | (with_reducible assumption) | (simp; done) | omega | (simp; omega)) bl (by omega)
      rw [h2]
      go_wp2
      go_ret
      exact ⟨rfl, bl⟩
    · go_enter Tryz.func77, Tryz.ntmps77
      go_wp2_with fail
      refine (ris_any _ _ _).mono ?_
      rintro e w1 ⟨rfl, hb1⟩
      obtain ⟨hc1, hf1, hz1, hB1⟩ := after (a := w) (B := w.heap.size) (w.heap.size + 2) hb1 (by first | (with_reducible assumption) | (simp; done) | omega | (simp; omega)) bl (by omega)
      rw [h1]
      go_wp2_with fail
      refine (ris_any _ _ _).mono ?_
      rintro e w2 ⟨rfl, hb2⟩
      obtain ⟨hc2, hf2, hz2, hB2⟩ := after (a := w) (B := w.heap.size) (w.heap.size + 2) hb2 (by first | (with_reducible assumption) | (simp; done) | omega | (simp; omega)) bl (by omega)
      rw [h2]
      go_wp2
      go_ret
      exact ⟨rfl, bl⟩

set_option maxHeartbeats 400000 in
theorem radd_any (an ad bn bd : Int) (w : World) :
    Calls Tryz.prog 37 #[.agg #[.int .i64 an, .int .i64 ad], .agg #[.int .i64 bn, .int .i64 bd]] w fun e w' => e = .returned (.agg #[.int .i64 (Q.add (an, ad) (bn, bd)).1, .int .i64 (Q.add (an, ad) (bn, bd)).2]) ∧ Below w.heap.size w w' := by
  cases h : Q.both (an, ad) (bn, bd)
  · have e : Q.add (an, ad) (bn, bd) = (0, 0) := by unfold Q.add; rw [h]; rfl
    rw [e]; clear e
    go_enter Tryz.func37, Tryz.ntmps37
    go_wp2_with fail
    refine (rboth_any _ _ _ _ _).mono ?_
    rintro e w1 ⟨rfl, hb1⟩
    obtain ⟨hc1, hf1, hz1, hB1⟩ := after (a := w) (B := w.heap.size) (w.heap.size + 3) hb1 (by first | (with_reducible assumption) | (simp; done) | omega | (simp; omega)) bl (by omega)
    rw [h]
    go_wp2_with fail
    refine (rnone_any _).mono ?_
    rintro e w2 ⟨rfl, hb2⟩
    obtain ⟨hc2, hf2, hz2, hB2⟩ := after (a := w) (B := w.heap.size) (w.heap.size + 3) hb2 (by first | (with_reducible assumption) | (simp; done) | omega | (simp; omega)) bl (by omega)
    go_wp2
    exact bodyPost_ret (v := .agg #[.int .i64 0, .int .i64 0]) (by simp [results, Tryz.results37, go_sem, hc2, hc1]) rfl ⟨rfl, bl⟩
  · have e : Q.add (an, ad) (bn, bd) = Q.mk (an * bd + bn * ad) (ad * bd) := by unfold Q.add; rw [h]; rfl
    obtain ⟨r, s, hr⟩ : ∃ r s, Hid (Q.mk (an * bd + bn * ad) (ad * bd) = (r, s)) := ⟨_, _, rfl⟩
    rw [e, hr.out]; clear e
    obtain ⟨_, _, _, _, _, _, _, _, _⟩ := Q.bd_of h
    go_enter Tryz.func37, Tryz.ntmps37
    go_wp2_with fail
    refine (rboth_any _ _ _ _ _).mono ?_
    rintro e w1 ⟨rfl, hb1⟩
    obtain ⟨hc1, hf1, hz1, hB1⟩ := after (a := w) (B := w.heap.size) (w.heap.size + 3) hb1 (by first | (with_reducible assumption) | (simp; done) | omega | (simp; omega)) bl (by omega)
    rw [h]
    go_wp2_with fail
    refine (rmake_all _ _ (by omega) (by omega) _).mono ?_
    rintro e w2 ⟨rfl, hb2⟩
    obtain ⟨hc2, hf2, hz2, hB2⟩ := after (a := w) (B := w.heap.size) (w.heap.size + 3) hb2 (by first | (with_reducible assumption) | (simp; done) | omega | (simp; omega)) bl (by omega)
    rw [hr.out]
    go_wp2
    exact bodyPost_ret (v := .agg #[.int .i64 r, .int .i64 s]) (by simp [results, Tryz.results37, go_sem, hc2, hc1]) rfl ⟨rfl, bl⟩

set_option maxHeartbeats 400000 in
theorem rmul_any (an ad bn bd : Int) (w : World) :
    Calls Tryz.prog 39 #[.agg #[.int .i64 an, .int .i64 ad], .agg #[.int .i64 bn, .int .i64 bd]] w fun e w' => e = .returned (.agg #[.int .i64 (Q.mul (an, ad) (bn, bd)).1, .int .i64 (Q.mul (an, ad) (bn, bd)).2]) ∧ Below w.heap.size w w' := by
  cases h : Q.both (an, ad) (bn, bd)
  · have e : Q.mul (an, ad) (bn, bd) = (0, 0) := by unfold Q.mul; rw [h]; rfl
    rw [e]; clear e
    go_enter Tryz.func39, Tryz.ntmps39
    go_wp2_with fail
    refine (rboth_any _ _ _ _ _).mono ?_
    rintro e w1 ⟨rfl, hb1⟩
    obtain ⟨hc1, hf1, hz1, hB1⟩ := after (a := w) (B := w.heap.size) (w.heap.size + 3) hb1 (by first | (with_reducible assumption) | (simp; done) | omega | (simp; omega)) bl (by omega)
    rw [h]
    go_wp2_with fail
    refine (rnone_any _).mono ?_
    rintro e w2 ⟨rfl, hb2⟩
    obtain ⟨hc2, hf2, hz2, hB2⟩ := after (a := w) (B := w.heap.size) (w.heap.size + 3) hb2 (by first | (with_reducible assumption) | (simp; done) | omega | (simp; omega)) bl (by omega)
    go_wp2
    exact bodyPost_ret (v := .agg #[.int .i64 0, .int .i64 0]) (by simp [results, Tryz.results39, go_sem, hc2, hc1]) rfl ⟨rfl, bl⟩
  · have e : Q.mul (an, ad) (bn, bd) = Q.mk (an * bn) (ad * bd) := by unfold Q.mul; rw [h]; rfl
    obtain ⟨r, s, hr⟩ : ∃ r s, Hid (Q.mk (an * bn) (ad * bd) = (r, s)) := ⟨_, _, rfl⟩
    rw [e, hr.out]; clear e
    obtain ⟨_, _, _, _, _, _, _, _, _⟩ := Q.bd_of h
    go_enter Tryz.func39, Tryz.ntmps39
    go_wp2_with fail
    refine (rboth_any _ _ _ _ _).mono ?_
    rintro e w1 ⟨rfl, hb1⟩
    obtain ⟨hc1, hf1, hz1, hB1⟩ := after (a := w) (B := w.heap.size) (w.heap.size + 3) hb1 (by first | (with_reducible assumption) | (simp; done) | omega | (simp; omega)) bl (by omega)
    rw [h]
    go_wp2_with fail
    refine (rmake_all _ _ (by omega) (by omega) _).mono ?_
    rintro e w2 ⟨rfl, hb2⟩
    obtain ⟨hc2, hf2, hz2, hB2⟩ := after (a := w) (B := w.heap.size) (w.heap.size + 3) hb2 (by first | (with_reducible assumption) | (simp; done) | omega | (simp; omega)) bl (by omega)
    rw [hr.out]
    go_wp2
    exact bodyPost_ret (v := .agg #[.int .i64 r, .int .i64 s]) (by simp [results, Tryz.results39, go_sem, hc2, hc1]) rfl ⟨rfl, bl⟩

set_option maxHeartbeats 400000 in
theorem div_any (an ad bn bd : Int) (w : World) :
    Calls Tryz.prog 135 #[.agg #[.int .i64 an, .int .i64 ad], .agg #[.int .i64 bn, .int .i64 bd]] w fun e w' => e = .returned (.agg #[.int .i64 (Q.div (an, ad) (bn, bd)).1, .int .i64 (Q.div (an, ad) (bn, bd)).2]) ∧ Below w.heap.size w w' := by
  cases h : Q.both (an, ad) (bn, bd)
  · have e : Q.div (an, ad) (bn, bd) = (0, 0) := by unfold Q.div; rw [h]; rfl
    rw [e]; clear e
    go_enter Tryz.func135, Tryz.ntmps135
    go_wp2_with fail
    refine (both_any _ _ _ _ _).mono ?_
    rintro e w1 ⟨rfl, hb1⟩
    obtain ⟨hc1, hf1, hz1, hB1⟩ := after (a := w) (B := w.heap.size) (w.heap.size + 3) hb1 (by first | (with_reducible assumption) | (simp; done) | omega | (simp; omega)) bl (by omega)
    rw [h]
    go_wp2
    exact bodyPost_ret (v := .agg #[.int .i64 0, .int .i64 0]) (by simp [results, Tryz.results135, go_sem, hc1]) rfl ⟨rfl, bl⟩
  · have e : Q.div (an, ad) (bn, bd) = Q.mk (an * bd) (ad * bn) := by unfold Q.div; rw [h]; rfl
    obtain ⟨r, s, hr⟩ : ∃ r s, Hid (Q.mk (an * bd) (ad * bn) = (r, s)) := ⟨_, _, rfl⟩
    rw [e, hr.out]; clear e
    obtain ⟨_, _, _, _, _, _, _, _, _⟩ := Q.bd_of h
    go_enter Tryz.func135, Tryz.ntmps135
    go_wp2_with fail
    refine (both_any _ _ _ _ _).mono ?_
    rintro e w1 ⟨rfl, hb1⟩
    obtain ⟨hc1, hf1, hz1, hB1⟩ := after (a := w) (B := w.heap.size) (w.heap.size + 3) hb1 (by first | (with_reducible assumption) | (simp; done) | omega | (simp; omega)) bl (by omega)
    rw [h]
    go_wp2_with fail
    refine (make_any _ _ (by omega) (by omega) _).mono ?_
    rintro e w2 ⟨rfl, hb2⟩
    obtain ⟨hc2, hf2, hz2, hB2⟩ := after (a := w) (B := w.heap.size) (w.heap.size + 3) hb2 (by first | (with_reducible assumption) | (simp; done) | omega | (simp; omega)) bl (by omega)
    rw [hr.out]
    go_wp2
    exact bodyPost_ret (v := .agg #[.int .i64 r, .int .i64 s]) (by simp [results, Tryz.results135, go_sem, hc2, hc1]) rfl ⟨rfl, bl⟩

set_option maxHeartbeats 400000 in
theorem rdiv_any (an ad bn bd : Int) (w : World) :
    Calls Tryz.prog 40 #[.agg #[.int .i64 an, .int .i64 ad], .agg #[.int .i64 bn, .int .i64 bd]] w fun e w' => e = .returned (.agg #[.int .i64 (Q.div (an, ad) (bn, bd)).1, .int .i64 (Q.div (an, ad) (bn, bd)).2]) ∧ Below w.heap.size w w' := by
  cases h : Q.both (an, ad) (bn, bd)
  · have e : Q.div (an, ad) (bn, bd) = (0, 0) := by unfold Q.div; rw [h]; rfl
    rw [e]; clear e
    go_enter Tryz.func40, Tryz.ntmps40
    go_wp2_with fail
    refine (rboth_any _ _ _ _ _).mono ?_
    rintro e w1 ⟨rfl, hb1⟩
    obtain ⟨hc1, hf1, hz1, hB1⟩ := after (a := w) (B := w.heap.size) (w.heap.size + 3) hb1 (by first | (with_reducible assumption) | (simp; done) | omega | (simp; omega)) bl (by omega)
    rw [h]
    go_wp2_with fail
    refine (rnone_any _).mono ?_
    rintro e w2 ⟨rfl, hb2⟩
    obtain ⟨hc2, hf2, hz2, hB2⟩ := after (a := w) (B := w.heap.size) (w.heap.size + 3) hb2 (by first | (with_reducible assumption) | (simp; done) | omega | (simp; omega)) bl (by omega)
    go_wp2
    exact bodyPost_ret (v := .agg #[.int .i64 0, .int .i64 0]) (by simp [results, Tryz.results40, go_sem, hc2, hc1]) rfl ⟨rfl, bl⟩
  · have e : Q.div (an, ad) (bn, bd) = Q.mk (an * bd) (ad * bn) := by unfold Q.div; rw [h]; rfl
    obtain ⟨r, s, hr⟩ : ∃ r s, Hid (Q.mk (an * bd) (ad * bn) = (r, s)) := ⟨_, _, rfl⟩
    rw [e, hr.out]; clear e
    obtain ⟨_, _, _, _, _, _, _, _, _⟩ := Q.bd_of h
    go_enter Tryz.func40, Tryz.ntmps40
    go_wp2_with fail
    refine (rboth_any _ _ _ _ _).mono ?_
    rintro e w1 ⟨rfl, hb1⟩
    obtain ⟨hc1, hf1, hz1, hB1⟩ := after (a := w) (B := w.heap.size) (w.heap.size + 3) hb1 (by first | (with_reducible assumption) | (simp; done) | omega | (simp; omega)) bl (by omega)
    rw [h]
    go_wp2_with fail
    refine (rmake_all _ _ (by omega) (by omega) _).mono ?_
    rintro e w2 ⟨rfl, hb2⟩
    obtain ⟨hc2, hf2, hz2, hB2⟩ := after (a := w) (B := w.heap.size) (w.heap.size + 3) hb2 (by first | (with_reducible assumption) | (simp; done) | omega | (simp; omega)) bl (by omega)
    rw [hr.out]
    go_wp2
    exact bodyPost_ret (v := .agg #[.int .i64 r, .int .i64 s]) (by simp [results, Tryz.results40, go_sem, hc2, hc1]) rfl ⟨rfl, bl⟩

end Go.Proofs.YtiiddikiaafanaaGreatDoor.R
