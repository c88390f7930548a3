/-
  Formats: whether one is valid, by the program and by the specification.
-/
import Derived.Test.YtpdklolfkigefaaDoorZl
set_option linter.all false
namespace Go.Proofs.YtpdklolfkigefaaDoor
open Go.RowKit
namespace Z
def hsz (k : ByteArray) (I F : Int) : Bool := if k.toList == [102, 105, 120] then decide (0 ≤ I ∧ I ≤ 30 ∧ 0 ≤ F ∧ F ≤ 30 ∧ I + F ≤ 30) else if k.toList == [102, 108, 111, 97, 116] then decide (1 ≤ I ∧ I ≤ 24 ∧ 0 ≤ F ∧ F ≤ 20 ∧ I + F ≤ 30) else false
def hrd (r : ByteArray) : Bool := (r.toList == [102, 108, 111, 111, 114]) || (r.toList == [110, 101, 97, 114]) || (r.toList == [122, 101, 114, 111])
def hov (k o : ByteArray) : Bool := (o.toList == [115, 97, 116]) || (o.toList == [110, 111, 110, 101]) || ((o.toList == [119, 114, 97, 112]) && (k.toList == [102, 105, 120]))
def vld (k r o : ByteArray) (I F : Int) : Bool := hsz k I F && hrd r && hov k o
end Z
theorem lit_ne {l : List UInt8} {a b : List UInt8} (h : (l == a) = true) (hab : (a == b) = false) : (l == b) = false := by
  rw [beq_iff_eq] at h; subst h; exact hab
set_option maxRecDepth 100000 in
set_option maxHeartbeats 4000000 in
theorem hasSizes_any (k r o : ByteArray) (I F : Int) (hI : -9223372036854775808 ≤ I ∧ I ≤ 9223372036854775807) (hF : -9223372036854775808 ≤ F ∧ F ≤ 9223372036854775807) (w : World) :
    Calls Tryd.prog 24 #[.agg #[.string k, .int .i64 I, .int .i64 F, .string r, .string o]] w fun e w' => e = .returned (.bool (Z.hsz k I F)) ∧ Below w.heap.size w w' := by
  cases e1 : (k.toList == [102, 105, 120])
  rotate_left
  · by_cases c0 : 0 ≤ I
    rotate_left
    · have e : Z.hsz k I F = false := by unfold Z.hsz; simp only [e1, if_true, if_false, Bool.false_eq_true]; simp; omega
      rw [e]; clear e
      go_enter Tryd.func24, Tryd.ntmps24
      go_wp2
      go_ret
      exact ⟨rfl, by go_grown⟩
    by_cases c1 : I ≤ 30
    rotate_left
    · have e : Z.hsz k I F = false := by unfold Z.hsz; simp only [e1, if_true, if_false, Bool.false_eq_true]; simp; omega
      rw [e]; clear e
      go_enter Tryd.func24, Tryd.ntmps24
      go_wp2
      go_ret
      exact ⟨rfl, by go_grown⟩
    by_cases c2 : 0 ≤ F
    rotate_left
    · have e : Z.hsz k I F = false := by unfold Z.hsz; simp only [e1, if_true, if_false, Bool.false_eq_true]; simp; omega
      rw [e]; clear e
      go_enter Tryd.func24, Tryd.ntmps24
      go_wp2
      go_ret
      exact ⟨rfl, by go_grown⟩
    by_cases c3 : F ≤ 30
    rotate_left
    · have e : Z.hsz k I F = false := by unfold Z.hsz; simp only [e1, if_true, if_false, Bool.false_eq_true]; simp; omega
      rw [e]; clear e
      go_enter Tryd.func24, Tryd.ntmps24
      go_wp2
      go_ret
      exact ⟨rfl, by go_grown⟩
    by_cases c4 : I + F ≤ 30
    rotate_left
    · have e : Z.hsz k I F = false := by unfold Z.hsz; simp only [e1, if_true, if_false, Bool.false_eq_true]; simp; omega
      rw [e]; clear e
      go_enter Tryd.func24, Tryd.ntmps24
      go_wp2
      go_ret
      exact ⟨rfl, by go_grown⟩
    have e : Z.hsz k I F = true := by unfold Z.hsz; simp only [e1, if_true, if_false, Bool.false_eq_true]; simp; omega
    rw [e]; clear e
    go_enter Tryd.func24, Tryd.ntmps24
    go_wp2
    go_ret
    exact ⟨rfl, by go_grown⟩
  · cases e2 : (k.toList == [102, 108, 111, 97, 116])
    rotate_left
    · by_cases c0 : 1 ≤ I
      rotate_left
      · have e : Z.hsz k I F = false := by unfold Z.hsz; simp only [e1, e2, if_true, if_false, Bool.false_eq_true]; simp; omega
        rw [e]; clear e
        go_enter Tryd.func24, Tryd.ntmps24
        go_wp2
        go_ret
        exact ⟨rfl, by go_grown⟩
      by_cases c1 : I ≤ 24
      rotate_left
      · have e : Z.hsz k I F = false := by unfold Z.hsz; simp only [e1, e2, if_true, if_false, Bool.false_eq_true]; simp; omega
        rw [e]; clear e
        go_enter Tryd.func24, Tryd.ntmps24
        go_wp2
        go_ret
        exact ⟨rfl, by go_grown⟩
      by_cases c2 : 0 ≤ F
      rotate_left
      · have e : Z.hsz k I F = false := by unfold Z.hsz; simp only [e1, e2, if_true, if_false, Bool.false_eq_true]; simp; omega
        rw [e]; clear e
        go_enter Tryd.func24, Tryd.ntmps24
        go_wp2
        go_ret
        exact ⟨rfl, by go_grown⟩
      by_cases c3 : F ≤ 20
      rotate_left
      · have e : Z.hsz k I F = false := by unfold Z.hsz; simp only [e1, e2, if_true, if_false, Bool.false_eq_true]; simp; omega
        rw [e]; clear e
        go_enter Tryd.func24, Tryd.ntmps24
        go_wp2
        go_ret
        exact ⟨rfl, by go_grown⟩
      by_cases c4 : I + F ≤ 30
      rotate_left
      · have e : Z.hsz k I F = false := by unfold Z.hsz; simp only [e1, e2, if_true, if_false, Bool.false_eq_true]; simp; omega
        rw [e]; clear e
        go_enter Tryd.func24, Tryd.ntmps24
        go_wp2
        go_ret
        exact ⟨rfl, by go_grown⟩
      have e : Z.hsz k I F = true := by unfold Z.hsz; simp only [e1, e2, if_true, if_false, Bool.false_eq_true]; simp; omega
      rw [e]; clear e
      go_enter Tryd.func24, Tryd.ntmps24
      go_wp2
      go_ret
      exact ⟨rfl, by go_grown⟩
    · have e : Z.hsz k I F = false := by unfold Z.hsz; rw [e1, e2]; rfl
      rw [e]; clear e
      go_enter Tryd.func24, Tryd.ntmps24
      go_wp2
      go_ret
      exact ⟨rfl, by go_grown⟩

set_option maxRecDepth 100000 in
set_option maxHeartbeats 2000000 in
theorem hasRound_any (k r o : ByteArray) (I F : Int) (w : World) :
    Calls Tryd.prog 25 #[.agg #[.string k, .int .i64 I, .int .i64 F, .string r, .string o]] w fun e w' => e = .returned (.bool (Z.hrd r)) ∧ Below w.heap.size w w' := by
  cases efloor : (r.toList == [102, 108, 111, 111, 114])
  rotate_left
  · have e : Z.hrd r = true := by unfold Z.hrd; simp [efloor]
    rw [e]; clear e
    go_enter Tryd.func25, Tryd.ntmps25
    go_wp2
    go_ret
    exact ⟨rfl, by go_grown⟩
  cases enear : (r.toList == [110, 101, 97, 114])
  rotate_left
  · have e : Z.hrd r = true := by unfold Z.hrd; simp [enear]
    rw [e]; clear e
    go_enter Tryd.func25, Tryd.ntmps25
    go_wp2
    go_ret
    exact ⟨rfl, by go_grown⟩
  cases ezero : (r.toList == [122, 101, 114, 111])
  rotate_left
  · have e : Z.hrd r = true := by unfold Z.hrd; simp [ezero]
    rw [e]; clear e
    go_enter Tryd.func25, Tryd.ntmps25
    go_wp2
    go_ret
    exact ⟨rfl, by go_grown⟩
  have e : Z.hrd r = false := by unfold Z.hrd; simp [efloor, enear, ezero]
  rw [e]; clear e
  go_enter Tryd.func25, Tryd.ntmps25
  go_wp2
  go_ret
  exact ⟨rfl, by go_grown⟩

set_option maxRecDepth 100000 in
set_option maxHeartbeats 2000000 in
theorem hasOver_any (k r o : ByteArray) (I F : Int) (w : World) :
    Calls Tryd.prog 26 #[.agg #[.string k, .int .i64 I, .int .i64 F, .string r, .string o]] w fun e w' => e = .returned (.bool (Z.hov k o)) ∧ Below w.heap.size w w' := by
  cases esat : (o.toList == [115, 97, 116])
  rotate_left
  · have e : Z.hov k o = true := by unfold Z.hov; simp [esat]
    rw [e]; clear e
    go_enter Tryd.func26, Tryd.ntmps26
    go_wp2
    go_ret
    exact ⟨rfl, by go_grown⟩
  cases enone : (o.toList == [110, 111, 110, 101])
  rotate_left
  · have e : Z.hov k o = true := by unfold Z.hov; simp [enone]
    rw [e]; clear e
    go_enter Tryd.func26, Tryd.ntmps26
    go_wp2
    go_ret
    exact ⟨rfl, by go_grown⟩
  cases ewrap : (o.toList == [119, 114, 97, 112])
  · have e : Z.hov k o = false := by unfold Z.hov; simp [esat, enone, ewrap]
    rw [e]; clear e
    go_enter Tryd.func26, Tryd.ntmps26
    go_wp2
    go_ret
    exact ⟨rfl, by go_grown⟩
  cases efix : (k.toList == [102, 105, 120])
  · have e : Z.hov k o = false := by unfold Z.hov; simp [esat, enone, ewrap, efix]
    rw [e]; clear e
    go_enter Tryd.func26, Tryd.ntmps26
    go_wp2
    go_ret
    exact ⟨rfl, by go_grown⟩
  · have e : Z.hov k o = true := by unfold Z.hov; simp [esat, enone, ewrap, efix]
    rw [e]; clear e
    go_enter Tryd.func26, Tryd.ntmps26
    go_wp2
    go_ret
    exact ⟨rfl, by go_grown⟩

set_option maxRecDepth 100000 in
set_option maxHeartbeats 2000000 in
theorem valid_any (k r o : ByteArray) (I F : Int) (hI : -9223372036854775808 ≤ I ∧ I ≤ 9223372036854775807) (hF : -9223372036854775808 ≤ F ∧ F ≤ 9223372036854775807) (w : World) :
    Calls Tryd.prog 14 #[.agg #[.string k, .int .i64 I, .int .i64 F, .string r, .string o]] w fun e w' => e = .returned (.bool (Z.vld k r o I F)) ∧ Below w.heap.size w w' := by
  cases e0 : Z.hsz k I F
  · have e : Z.vld k r o I F = false := by unfold Z.vld; simp [e0]
    rw [e]; clear e
    go_enter Tryd.func14, Tryd.ntmps14
    go_wp2_with fail
    refine (hasSizes_any _ _ _ _ _ hI hF _).mono ?_
    rintro e w1 ⟨rfl, hb1⟩
    obtain ⟨hc1, hf1, hz1, hB1⟩ := after (a := w) (B := w.heap.size) (w.heap.size + 1) hb1 (by first | (with_reducible assumption) | (simp; done) | omega | (simp; omega)) (by repeat' (first | (with_reducible exact Below.refl _ _) | (with_reducible assumption) | (with_reducible refine drewN_below ?_ _) | (with_reducible refine Below.drew ?_) | (with_reducible refine Below.alloc ?_ ?_ _) | (with_reducible refine Below.setCell ?_ ?_ _) | (simp; done) | omega | (simp; omega))) (by omega)
    rw [e0]
    go_wp2
    go_ret
    exact ⟨rfl, (by repeat' (first | (with_reducible exact Below.refl _ _) | (with_reducible assumption) | (with_reducible refine drewN_below ?_ _) | (with_reducible refine Below.drew ?_) | (with_reducible refine Below.alloc ?_ ?_ _) | (with_reducible refine Below.setCell ?_ ?_ _) | (simp; done) | omega | (simp; omega)))⟩
  cases e1 : Z.hrd r
  · have e : Z.vld k r o I F = false := by unfold Z.vld; simp [e0, e1]
    rw [e]; clear e
    go_enter Tryd.func14, Tryd.ntmps14
    go_wp2_with fail
    refine (hasSizes_any _ _ _ _ _ hI hF _).mono ?_
    rintro e w1 ⟨rfl, hb1⟩
    obtain ⟨hc1, hf1, hz1, hB1⟩ := after (a := w) (B := w.heap.size) (w.heap.size + 1) hb1 (by first | (with_reducible assumption) | (simp; done) | omega | (simp; omega)) (by repeat' (first | (with_reducible exact Below.refl _ _) | (with_reducible assumption) | (with_reducible refine drewN_below ?_ _) | (with_reducible refine Below.drew ?_) | (with_reducible refine Below.alloc ?_ ?_ _) | (with_reducible refine Below.setCell ?_ ?_ _) | (simp; done) | omega | (simp; omega))) (by omega)
    rw [e0]
    go_wp2_with fail
    refine (hasRound_any _ _ _ _ _ _).mono ?_
    rintro e w2 ⟨rfl, hb2⟩
    obtain ⟨hc2, hf2, hz2, hB2⟩ := after (a := w) (B := w.heap.size) (w.heap.size + 1) hb2 (by first | (with_reducible assumption) | (simp; done) | omega | (simp; omega)) (by repeat' (first | (with_reducible exact Below.refl _ _) | (with_reducible assumption) | (with_reducible refine drewN_below ?_ _) | (with_reducible refine Below.drew ?_) | (with_reducible refine Below.alloc ?_ ?_ _) | (with_reducible refine Below.setCell ?_ ?_ _) | (simp; done) | omega | (simp; omega))) (by omega)
    rw [e1]
    go_wp2
    go_ret
    exact ⟨rfl, (by repeat' (first | (with_reducible exact Below.refl _ _) | (with_reducible assumption) | (with_reducible refine drewN_below ?_ _) | (with_reducible refine Below.drew ?_) | (with_reducible refine Below.alloc ?_ ?_ _) | (with_reducible refine Below.setCell ?_ ?_ _) | (simp; done) | omega | (simp; omega)))⟩
  cases e2 : Z.hov k o
  · have e : Z.vld k r o I F = false := by unfold Z.vld; simp [e0, e1, e2]
    rw [e]; clear e
    go_enter Tryd.func14, Tryd.ntmps14
    go_wp2_with fail
    refine (hasSizes_any _ _ _ _ _ hI hF _).mono ?_
    rintro e w1 ⟨rfl, hb1⟩
    obtain ⟨hc1, hf1, hz1, hB1⟩ := after (a := w) (B := w.heap.size) (w.heap.size + 1) hb1 (by first | (with_reducible assumption) | (simp; done) | omega | (simp; omega)) (by repeat' (first | (with_reducible exact Below.refl _ _) | (with_reducible assumption) | (with_reducible refine drewN_below ?_ _) | (with_reducible refine Below.drew ?_) | (with_reducible refine Below.alloc ?_ ?_ _) | (with_reducible refine Below.setCell ?_ ?_ _) | (simp; done) | omega | (simp; omega))) (by omega)
    rw [e0]
    go_wp2_with fail
    refine (hasRound_any _ _ _ _ _ _).mono ?_
    rintro e w2 ⟨rfl, hb2⟩
    obtain ⟨hc2, hf2, hz2, hB2⟩ := after (a := w) (B := w.heap.size) (w.heap.size + 1) hb2 (by first | (with_reducible assumption) | (simp; done) | omega | (simp; omega)) (by repeat' (first | (with_reducible exact Below.refl _ _) | (with_reducible assumption) | (with_reducible refine drewN_below ?_ _) | (with_reducible refine Below.drew ?_) | (with_reducible refine Below.alloc ?_ ?_ _) | (with_reducible refine Below.setCell ?_ ?_ _) | (simp; done) | omega | (simp; omega))) (by omega)
    rw [e1]
    go_wp2_with fail
    refine (hasOver_any _ _ _ _ _ _).mono ?_
    rintro e w3 ⟨rfl, hb3⟩
    obtain ⟨hc3, hf3, hz3, hB3⟩ := after (a := w) (B := w.heap.size) (w.heap.size + 1) hb3 (by first | (with_reducible assumption) | (simp; done) | omega | (simp; omega)) (by repeat' (first | (with_reducible exact Below.refl _ _) | (with_reducible assumption) | (with_reducible refine drewN_below ?_ _) | (with_reducible refine Below.drew ?_) | (with_reducible refine Below.alloc ?_ ?_ _) | (with_reducible refine Below.setCell ?_ ?_ _) | (simp; done) | omega | (simp; omega))) (by omega)
    rw [e2]
    go_wp2
    go_ret
    exact ⟨rfl, (by repeat' (first | (with_reducible exact Below.refl _ _) | (with_reducible assumption) | (with_reducible refine drewN_below ?_ _) | (with_reducible refine Below.drew ?_) | (with_reducible refine Below.alloc ?_ ?_ _) | (with_reducible refine Below.setCell ?_ ?_ _) | (simp; done) | omega | (simp; omega)))⟩
  have e : Z.vld k r o I F = true := by unfold Z.vld; simp [e0, e1, e2]
  rw [e]; clear e
  go_enter Tryd.func14, Tryd.ntmps14
  go_wp2_with fail
  refine (hasSizes_any _ _ _ _ _ hI hF _).mono ?_
  rintro e w1 ⟨rfl, hb1⟩
  obtain ⟨hc1, hf1, hz1, hB1⟩ := after (a := w) (B := w.heap.size) (w.heap.size + 1) hb1 (by first | (with_reducible assumption) | (simp; done) | omega | (simp; omega)) (by repeat' (first | (with_reducible exact Below.refl _ _) | (with_reducible assumption) | (with_reducible refine drewN_below ?_ _) | (with_reducible refine Below.drew ?_) | (with_reducible refine Below.alloc ?_ ?_ _) | (with_reducible refine Below.setCell ?_ ?_ _) | (simp; done) | omega | (simp; omega))) (by omega)
  rw [e0]
  go_wp2_with fail
  refine (hasRound_any _ _ _ _ _ _).mono ?_
  rintro e w2 ⟨rfl, hb2⟩
  obtain ⟨hc2, hf2, hz2, hB2⟩ := after (a := w) (B := w.heap.size) (w.heap.size + 1) hb2 (by first | (with_reducible assumption) | (simp; done) | omega | (simp; omega)) (by repeat' (first | (with_reducible exact Below.refl _ _) | (with_reducible assumption) | (with_reducible refine drewN_below ?_ _) | (with_reducible refine Below.drew ?_) | (with_reducible refine Below.alloc ?_ ?_ _) | (with_reducible refine Below.setCell ?_ ?_ _) | (simp; done) | omega | (simp; omega))) (by omega)
  rw [e1]
  go_wp2_with fail
  refine (hasOver_any _ _ _ _ _ _).mono ?_
  rintro e w3 ⟨rfl, hb3⟩
  obtain ⟨hc3, hf3, hz3, hB3⟩ := after (a := w) (B := w.heap.size) (w.heap.size + 1) hb3 (by first | (with_reducible assumption) | (simp; done) | omega | (simp; omega)) (by repeat' (first | (with_reducible exact Below.refl _ _) | (with_reducible assumption) | (with_reducible refine drewN_below ?_ _) | (with_reducible refine Below.drew ?_) | (with_reducible refine Below.alloc ?_ ?_ _) | (with_reducible refine Below.setCell ?_ ?_ _) | (simp; done) | omega | (simp; omega))) (by omega)
  rw [e2]
  go_wp2
  go_ret
  exact ⟨rfl, (by repeat' (first | (with_reducible exact Below.refl _ _) | (with_reducible assumption) | (with_reducible refine drewN_below ?_ _) | (with_reducible refine Below.drew ?_) | (with_reducible refine Below.alloc ?_ ?_ _) | (with_reducible refine Below.setCell ?_ ?_ _) | (simp; done) | omega | (simp; omega)))⟩

end Go.Proofs.YtpdklolfkigefaaDoor
