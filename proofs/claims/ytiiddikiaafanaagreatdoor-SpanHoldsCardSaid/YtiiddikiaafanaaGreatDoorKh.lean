import Derived.Test.YtiiddikiaafanaaGreatDoorKg
import Derived.Test.YtiiddikiaafanaaGreatDoorPk
set_option linter.all false
/-
  SpanHolds, read: true at each form.
-/
namespace Go.Proofs.YtiiddikiaafanaaGreatDoor
open _root_.ByteArray (toList)
open Go.Pv Go.RowKit
theorem holds_q1n0 (op : ByteArray) (qm : List (List DV)) (kd : ByteArray) (I F : Int) (r o : ByteArray) (k : Bool → Option DV) :
    w3_SpanHolds_q1n0 op qm kd I F r o k = k true := by
  unfold w3_SpanHolds_q1n0 B_w3_SpanHolds_q1n0
  cases kind op
  case fit h =>
    subst h
    have hf : (toList ⟨#[102, 105, 116]⟩ == toList ⟨#[102, 105, 116]⟩) = true := beq_self_eq_true _
    rw [tk_fit]
    simp only [hf, Bool.not_false, Bool.not_true, cT, cF]
    exact awake_true _
  case none tk hf =>
    rw [tk]
    simp only [hf, Bool.not_false, Bool.not_true, cT, cF]
    exact awake_true _
  case one tk hf H =>
    rw [tk]
    simp only [hf, Bool.not_false, Bool.not_true, cT, cF]
    exact awake_true _
  case two tk hf H =>
    rw [tk]
    simp only [hf, Bool.not_false, Bool.not_true, cT, cF]
    exact awake_true _
  case three tk hf H =>
    rw [tk]
    simp only [hf, Bool.not_false, Bool.not_true, cT, cF]
    exact awake_true _
theorem holds_q1m12n0 (op : ByteArray) (l00 l01 l02 l03 l04 : Int) (l05 l06 : Bool) (lm : List (List DV)) (kd : ByteArray) (I F : Int) (r o : ByteArray) (k : Bool → Option DV) :
    w3_SpanHolds_q1m12n0 op l00 l01 l02 l03 l04 l05 l06 lm kd I F r o k = k true := by
  unfold w3_SpanHolds_q1m12n0 B_w3_SpanHolds_q1m12n0
  have elm1 : decide (((Nat.succ (List.length lm) : Nat) : Int) < 1) = false := decide_eq_false (by omega)
  have s1 : (true && decide (0 ≤ 1) && decide (1 ≤ ((Nat.succ (List.length lm) : Nat) : Int)) && decide (0 ≤ 0) && decide (0 ≤ 1)) = true := by rw [decide_eq_true (show (1 : Int) ≤ ((Nat.succ (List.length lm) : Nat) : Int) by omega)]; rfl
  cases kind op
  case fit h =>
    subst h
    have hf : (toList ⟨#[102, 105, 116]⟩ == toList ⟨#[102, 105, 116]⟩) = true := beq_self_eq_true _
    rw [tk_fit]
    simp only [elm1, s1, hf, Bool.not_false, Bool.not_true, cT, cF]
    exact awake_true _
  case none tk hf =>
    rw [tk]
    simp only [elm1, s1, hf, Bool.not_false, Bool.not_true, cT, cF]
    exact awake_true _
  case one tk hf H =>
    rw [tk]
    simp only [elm1, s1, hf, Bool.not_false, Bool.not_true, cT, cF]
    exact awake_true _
  case two tk hf H =>
    rw [tk]
    simp only [elm1, s1, hf, Bool.not_false, Bool.not_true, cT, cF]
    simp only [awake_true, Bool.cond_self]
  case three tk hf H =>
    rw [tk]
    simp only [elm1, s1, hf, Bool.not_false, Bool.not_true, cT, cF]
    simp only [awake_true, Bool.cond_self]
theorem holds_q1n12m1 (op : ByteArray) (l00 l01 l02 l03 l04 : Int) (l05 l06 : Bool) (q00 q01 : Int) (qm : List (List DV)) (kd : ByteArray) (I F : Int) (r o : ByteArray) (k : Bool → Option DV) :
    w3_SpanHolds_q1n12m1 op l00 l01 l02 l03 l04 l05 l06 q00 q01 qm kd I F r o k = k true := by
  unfold w3_SpanHolds_q1n12m1 B_w3_SpanHolds_q1n12m1
  have eqm1 : decide (((Nat.succ (List.length qm) : Nat) : Int) < 1) = false := decide_eq_false (by omega)
  cases kind op
  case fit h =>
    subst h
    have hf : (toList ⟨#[102, 105, 116]⟩ == toList ⟨#[102, 105, 116]⟩) = true := beq_self_eq_true _
    rw [tk_fit]
    simp only [eqm1, hf, Bool.not_false, Bool.not_true, cT, cF]
    have w := wayf kd r o I F l00 l01 l02 l03 l04 l05 l06 q00 q01 k
    simp only [hf, Bool.not_false, Bool.not_true, cT, cF] at w
    exact w
  case none tk hf =>
    rw [tk]
    simp only [eqm1, hf, Bool.not_false, Bool.not_true, cT, cF]
    exact awake_true _
  case one tk hf H =>
    rw [tk]
    simp only [eqm1, hf, Bool.not_false, Bool.not_true, cT, cF]
    have w := way1 hf H kd r o I F l00 l01 l02 l03 l04 l05 l06 q00 q01 k
    simp only [hf, Bool.not_false, Bool.not_true, cT, cF] at w
    exact w
  case two tk hf H =>
    rw [tk]
    simp only [eqm1, hf, Bool.not_false, Bool.not_true, cT, cF]
    exact awake_true _
  case three tk hf H =>
    rw [tk]
    simp only [eqm1, hf, Bool.not_false, Bool.not_true, cT, cF]
    exact awake_true _
theorem holds_q1m22n1 (op : ByteArray) (l00 l01 l02 l03 l04 : Int) (l05 l06 : Bool) (l10 l11 l12 l13 l14 : Int) (l15 l16 : Bool) (lm : List (List DV)) (q00 q01 : Int) (kd : ByteArray) (I F : Int) (r o : ByteArray) (k : Bool → Option DV) :
    w3_SpanHolds_q1m22n1 op l00 l01 l02 l03 l04 l05 l06 l10 l11 l12 l13 l14 l15 l16 lm q00 q01 kd I F r o k = k true := by
  unfold w3_SpanHolds_q1m22n1 B_w3_SpanHolds_q1m22n1
  have elm1 : decide (((Nat.succ (Nat.succ (List.length lm)) : Nat) : Int) < 1) = false := decide_eq_false (by omega)
  have s1 : (true && decide (0 ≤ 1) && decide (1 ≤ ((Nat.succ (Nat.succ (List.length lm)) : Nat) : Int)) && decide (0 ≤ 0) && decide (0 ≤ 1)) = true := by rw [decide_eq_true (show (1 : Int) ≤ ((Nat.succ (Nat.succ (List.length lm)) : Nat) : Int) by omega)]; rfl
  have elm2 : decide (((Nat.succ (Nat.succ (List.length lm)) : Nat) : Int) < 2) = false := decide_eq_false (by omega)
  have s2 : (true && decide (0 ≤ 2) && decide (2 ≤ ((Nat.succ (Nat.succ (List.length lm)) : Nat) : Int)) && decide (0 ≤ 0) && decide (0 ≤ 2)) = true := by rw [decide_eq_true (show (2 : Int) ≤ ((Nat.succ (Nat.succ (List.length lm)) : Nat) : Int) by omega)]; rfl
  cases kind op
  case fit h =>
    subst h
    have hf : (toList ⟨#[102, 105, 116]⟩ == toList ⟨#[102, 105, 116]⟩) = true := beq_self_eq_true _
    rw [tk_fit]
    simp only [elm1, s1, elm2, s2, hf, Bool.not_false, Bool.not_true, cT, cF]
    have w := wayf kd r o I F l00 l01 l02 l03 l04 l05 l06 q00 q01 k
    simp only [hf, Bool.not_false, Bool.not_true, cT, cF] at w
    exact w
  case none tk hf =>
    rw [tk]
    simp only [elm1, s1, elm2, s2, hf, Bool.not_false, Bool.not_true, cT, cF]
    exact awake_true _
  case one tk hf H =>
    rw [tk]
    simp only [elm1, s1, elm2, s2, hf, Bool.not_false, Bool.not_true, cT, cF]
    have w := way1 hf H kd r o I F l00 l01 l02 l03 l04 l05 l06 q00 q01 k
    simp only [hf, Bool.not_false, Bool.not_true, cT, cF] at w
    exact w
  case two tk hf H =>
    rw [tk]
    simp only [elm1, s1, elm2, s2, hf, Bool.not_false, Bool.not_true, cT, cF]
    exact awake_true _
  case three tk hf H =>
    rw [tk]
    simp only [elm1, s1, elm2, s2, hf, Bool.not_false, Bool.not_true, cT, cF]
    simp only [awake_true, Bool.cond_self]
theorem holds_q1n22m2 (op : ByteArray) (l00 l01 l02 l03 l04 : Int) (l05 l06 : Bool) (l10 l11 l12 l13 l14 : Int) (l15 l16 : Bool) (q00 q01 : Int) (q10 q11 : Int) (qm : List (List DV)) (kd : ByteArray) (I F : Int) (r o : ByteArray) (k : Bool → Option DV) :
    w3_SpanHolds_q1n22m2 op l00 l01 l02 l03 l04 l05 l06 l10 l11 l12 l13 l14 l15 l16 q00 q01 q10 q11 qm kd I F r o k = k true := by
  unfold w3_SpanHolds_q1n22m2 B_w3_SpanHolds_q1n22m2
  have eqm1 : decide (((Nat.succ (Nat.succ (List.length qm)) : Nat) : Int) < 1) = false := decide_eq_false (by omega)
  have eqm2 : decide (((Nat.succ (Nat.succ (List.length qm)) : Nat) : Int) < 2) = false := decide_eq_false (by omega)
  cases kind op
  case fit h =>
    subst h
    have hf : (toList ⟨#[102, 105, 116]⟩ == toList ⟨#[102, 105, 116]⟩) = true := beq_self_eq_true _
    rw [tk_fit]
    simp only [eqm1, eqm2, hf, Bool.not_false, Bool.not_true, cT, cF]
    have w := wayf kd r o I F l00 l01 l02 l03 l04 l05 l06 q00 q01 k
    simp only [hf, Bool.not_false, Bool.not_true, cT, cF] at w
    exact w
  case none tk hf =>
    rw [tk]
    simp only [eqm1, eqm2, hf, Bool.not_false, Bool.not_true, cT, cF]
    exact awake_true _
  case one tk hf H =>
    rw [tk]
    simp only [eqm1, eqm2, hf, Bool.not_false, Bool.not_true, cT, cF]
    have w := way1 hf H kd r o I F l00 l01 l02 l03 l04 l05 l06 q00 q01 k
    simp only [hf, Bool.not_false, Bool.not_true, cT, cF] at w
    exact w
  case two tk hf H =>
    rw [tk]
    simp only [eqm1, eqm2, hf, Bool.not_false, Bool.not_true, cT, cF]
    have w := way2 hf H kd r o I F l00 l01 l02 l03 l04 l05 l06 q00 q01 l10 l11 l12 l13 l14 l15 l16 q10 q11 k
    simp only [hf, Bool.not_false, Bool.not_true, cT, cF] at w
    exact w
  case three tk hf H =>
    rw [tk]
    simp only [eqm1, eqm2, hf, Bool.not_false, Bool.not_true, cT, cF]
    exact awake_true _
theorem holds_q1m32n2 (op : ByteArray) (l00 l01 l02 l03 l04 : Int) (l05 l06 : Bool) (l10 l11 l12 l13 l14 : Int) (l15 l16 : Bool) (l20 l21 l22 l23 l24 : Int) (l25 l26 : Bool) (lm : List (List DV)) (q00 q01 : Int) (q10 q11 : Int) (kd : ByteArray) (I F : Int) (r o : ByteArray) (k : Bool → Option DV) :
    w3_SpanHolds_q1m32n2 op l00 l01 l02 l03 l04 l05 l06 l10 l11 l12 l13 l14 l15 l16 l20 l21 l22 l23 l24 l25 l26 lm q00 q01 q10 q11 kd I F r o k = k true := by
  unfold w3_SpanHolds_q1m32n2 B_w3_SpanHolds_q1m32n2
  have elm1 : decide (((Nat.succ (Nat.succ (Nat.succ (List.length lm))) : Nat) : Int) < 1) = false := decide_eq_false (by omega)
  have s1 : (true && decide (0 ≤ 1) && decide (1 ≤ ((Nat.succ (Nat.succ (Nat.succ (List.length lm))) : Nat) : Int)) && decide (0 ≤ 0) && decide (0 ≤ 1)) = true := by rw [decide_eq_true (show (1 : Int) ≤ ((Nat.succ (Nat.succ (Nat.succ (List.length lm))) : Nat) : Int) by omega)]; rfl
  have elm2 : decide (((Nat.succ (Nat.succ (Nat.succ (List.length lm))) : Nat) : Int) < 2) = false := decide_eq_false (by omega)
  have s2 : (true && decide (0 ≤ 2) && decide (2 ≤ ((Nat.succ (Nat.succ (Nat.succ (List.length lm))) : Nat) : Int)) && decide (0 ≤ 0) && decide (0 ≤ 2)) = true := by rw [decide_eq_true (show (2 : Int) ≤ ((Nat.succ (Nat.succ (Nat.succ (List.length lm))) : Nat) : Int) by omega)]; rfl
  have elm3 : decide (((Nat.succ (Nat.succ (Nat.succ (List.length lm))) : Nat) : Int) < 3) = false := decide_eq_false (by omega)
  have s3 : (true && decide (0 ≤ 3) && decide (3 ≤ ((Nat.succ (Nat.succ (Nat.succ (List.length lm))) : Nat) : Int)) && decide (0 ≤ 0) && decide (0 ≤ 3)) = true := by rw [decide_eq_true (show (3 : Int) ≤ ((Nat.succ (Nat.succ (Nat.succ (List.length lm))) : Nat) : Int) by omega)]; rfl
  cases kind op
  case fit h =>
    subst h
    have hf : (toList ⟨#[102, 105, 116]⟩ == toList ⟨#[102, 105, 116]⟩) = true := beq_self_eq_true _
    rw [tk_fit]
    simp only [elm1, s1, elm2, s2, elm3, s3, hf, Bool.not_false, Bool.not_true, cT, cF]
    have w := wayf kd r o I F l00 l01 l02 l03 l04 l05 l06 q00 q01 k
    simp only [hf, Bool.not_false, Bool.not_true, cT, cF] at w
    exact w
  case none tk hf =>
    rw [tk]
    simp only [elm1, s1, elm2, s2, elm3, s3, hf, Bool.not_false, Bool.not_true, cT, cF]
    exact awake_true _
  case one tk hf H =>
    rw [tk]
    simp only [elm1, s1, elm2, s2, elm3, s3, hf, Bool.not_false, Bool.not_true, cT, cF]
    have w := way1 hf H kd r o I F l00 l01 l02 l03 l04 l05 l06 q00 q01 k
    simp only [hf, Bool.not_false, Bool.not_true, cT, cF] at w
    exact w
  case two tk hf H =>
    rw [tk]
    simp only [elm1, s1, elm2, s2, elm3, s3, hf, Bool.not_false, Bool.not_true, cT, cF]
    have w := way2 hf H kd r o I F l00 l01 l02 l03 l04 l05 l06 q00 q01 l10 l11 l12 l13 l14 l15 l16 q10 q11 k
    simp only [hf, Bool.not_false, Bool.not_true, cT, cF] at w
    exact w
  case three tk hf H =>
    rw [tk]
    simp only [elm1, s1, elm2, s2, elm3, s3, hf, Bool.not_false, Bool.not_true, cT, cF]
    exact awake_true _
theorem holds_q1m32m3 (op : ByteArray) (l00 l01 l02 l03 l04 : Int) (l05 l06 : Bool) (l10 l11 l12 l13 l14 : Int) (l15 l16 : Bool) (l20 l21 l22 l23 l24 : Int) (l25 l26 : Bool) (lm : List (List DV)) (q00 q01 : Int) (q10 q11 : Int) (q20 q21 : Int) (qm : List (List DV)) (kd : ByteArray) (I F : Int) (r o : ByteArray) (k : Bool → Option DV) :
    w3_SpanHolds_q1m32m3 op l00 l01 l02 l03 l04 l05 l06 l10 l11 l12 l13 l14 l15 l16 l20 l21 l22 l23 l24 l25 l26 lm q00 q01 q10 q11 q20 q21 qm kd I F r o k = k true := by
  unfold w3_SpanHolds_q1m32m3 B_w3_SpanHolds_q1m32m3
  have elm1 : decide (((Nat.succ (Nat.succ (Nat.succ (List.length lm))) : Nat) : Int) < 1) = false := decide_eq_false (by omega)
  have s1 : (true && decide (0 ≤ 1) && decide (1 ≤ ((Nat.succ (Nat.succ (Nat.succ (List.length lm))) : Nat) : Int)) && decide (0 ≤ 0) && decide (0 ≤ 1)) = true := by rw [decide_eq_true (show (1 : Int) ≤ ((Nat.succ (Nat.succ (Nat.succ (List.length lm))) : Nat) : Int) by omega)]; rfl
  have elm2 : decide (((Nat.succ (Nat.succ (Nat.succ (List.length lm))) : Nat) : Int) < 2) = false := decide_eq_false (by omega)
  have s2 : (true && decide (0 ≤ 2) && decide (2 ≤ ((Nat.succ (Nat.succ (Nat.succ (List.length lm))) : Nat) : Int)) && decide (0 ≤ 0) && decide (0 ≤ 2)) = true := by rw [decide_eq_true (show (2 : Int) ≤ ((Nat.succ (Nat.succ (Nat.succ (List.length lm))) : Nat) : Int) by omega)]; rfl
  have elm3 : decide (((Nat.succ (Nat.succ (Nat.succ (List.length lm))) : Nat) : Int) < 3) = false := decide_eq_false (by omega)
  have s3 : (true && decide (0 ≤ 3) && decide (3 ≤ ((Nat.succ (Nat.succ (Nat.succ (List.length lm))) : Nat) : Int)) && decide (0 ≤ 0) && decide (0 ≤ 3)) = true := by rw [decide_eq_true (show (3 : Int) ≤ ((Nat.succ (Nat.succ (Nat.succ (List.length lm))) : Nat) : Int) by omega)]; rfl
  have eqm1 : decide (((Nat.succ (Nat.succ (Nat.succ (List.length qm))) : Nat) : Int) < 1) = false := decide_eq_false (by omega)
  have eqm2 : decide (((Nat.succ (Nat.succ (Nat.succ (List.length qm))) : Nat) : Int) < 2) = false := decide_eq_false (by omega)
  have eqm3 : decide (((Nat.succ (Nat.succ (Nat.succ (List.length qm))) : Nat) : Int) < 3) = false := decide_eq_false (by omega)
  cases kind op
  case fit h =>
    subst h
    have hf : (toList ⟨#[102, 105, 116]⟩ == toList ⟨#[102, 105, 116]⟩) = true := beq_self_eq_true _
    rw [tk_fit]
    simp only [elm1, s1, elm2, s2, elm3, s3, eqm1, eqm2, eqm3, hf, Bool.not_false, Bool.not_true, cT, cF]
    have w := wayf kd r o I F l00 l01 l02 l03 l04 l05 l06 q00 q01 k
    simp only [hf, Bool.not_false, Bool.not_true, cT, cF] at w
    exact w
  case none tk hf =>
    rw [tk]
    simp only [elm1, s1, elm2, s2, elm3, s3, eqm1, eqm2, eqm3, hf, Bool.not_false, Bool.not_true, cT, cF]
    exact awake_true _
  case one tk hf H =>
    rw [tk]
    simp only [elm1, s1, elm2, s2, elm3, s3, eqm1, eqm2, eqm3, hf, Bool.not_false, Bool.not_true, cT, cF]
    have w := way1 hf H kd r o I F l00 l01 l02 l03 l04 l05 l06 q00 q01 k
    simp only [hf, Bool.not_false, Bool.not_true, cT, cF] at w
    exact w
  case two tk hf H =>
    rw [tk]
    simp only [elm1, s1, elm2, s2, elm3, s3, eqm1, eqm2, eqm3, hf, Bool.not_false, Bool.not_true, cT, cF]
    have w := way2 hf H kd r o I F l00 l01 l02 l03 l04 l05 l06 q00 q01 l10 l11 l12 l13 l14 l15 l16 q10 q11 k
    simp only [hf, Bool.not_false, Bool.not_true, cT, cF] at w
    exact w
  case three tk hf H =>
    rw [tk]
    simp only [elm1, s1, elm2, s2, elm3, s3, eqm1, eqm2, eqm3, hf, Bool.not_false, Bool.not_true, cT, cF]
    have w := way3 hf H kd r o I F l00 l01 l02 l03 l04 l05 l06 q00 q01 l10 l11 l12 l13 l14 l15 l16 q10 q11 l20 l21 l22 l23 l24 l25 l26 q20 q21 k
    simp only [hf, Bool.not_false, Bool.not_true, cT, cF] at w
    exact w
end Go.Proofs.YtiiddikiaafanaaGreatDoor
