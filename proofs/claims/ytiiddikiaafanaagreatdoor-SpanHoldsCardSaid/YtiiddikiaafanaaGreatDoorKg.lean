import Derived.Test.YtiiddikiaafanaaGreatDoorKf
set_option linter.all false
/-
  SpanHolds: each way through the law.
-/
namespace Go.Proofs.YtiiddikiaafanaaGreatDoor
open _root_.ByteArray (toList)
open Go.Pv Go.RowKit
theorem do_fit (a b : Int) (kd : ByteArray) (I F : Int) (r o : ByteArray) (k : Int → Int → Option DV) : s8_Do_n1 ⟨#[102, 105, 116]⟩ kd I F r o a b k = s2_Fit kd I F r o a b k := by kernel_rfl
theorem tk_fit (k0 k1 k2 k3 : Option DV) : s3_Takes ⟨#[102, 105, 116]⟩ k0 k1 k2 k3 = k0 := by kernel_rfl
theorem do_pick (a b c d e f : Int) (kd : ByteArray) (I F : Int) (r o : ByteArray) (k : Int → Int → Option DV) : s8_Do_n3 ⟨#[112, 105, 99, 107]⟩ kd I F r o a b c d e f k = bif !Q.isq a b then k 0 0 else (bif a == 0 then k c d else k e f) := by kernel_rfl
def H3 (op : ByteArray) (s t u : Sp) (a b c d e f : Int) : Prop := ∃ (R : Sp) (v w : Int), (∀ k, span_Op_n3 op s.ln s.ld s.hn s.hd s.den s.no s.em t.ln t.ld t.hn t.hd t.den t.no t.em u.ln u.ld u.hn u.hd u.den u.no u.em k = R.ap8 k) ∧ (∀ k0 I F r o k, s8_Do_n3 op k0 I F r o a b c d e f k = k v w) ∧ S.has R v w = true
theorem hold_pick {s t u : Sp} {a b c d e f : Int} (h : S.has (S.known s) a b = true) (h' : S.has (S.known t) c d = true) (h'' : S.has (S.known u) e f = true) : H3 ⟨#[112, 105, 99, 107]⟩ s t u a b c d e f := by
  refine ⟨_, _, _, fun k => ?_, fun k0 I F r o k => ?_, pick_holds h h' h''⟩
  · unfold span_Op_n3 B_span_Op_n3
    rw [in_pick]
    have hp : (toList ⟨#[112, 105, 99, 107]⟩ == toList ⟨#[112, 105, 99, 107]⟩) = true := beq_self_eq_true _
    have h3 : ((3 : Int) != 3) = false := by decide
    simp only [known_eq, hp, h3, cT, cF]
    have hk := S.known_ok s
    have k1 := known_known s
    have k2 := known_known t
    have k3 := known_known u
    rw [show (⟨s.ln, s.ld, s.hn, s.hd, s.den, s.no, s.em⟩ : Sp) = s from rfl, show (⟨t.ln, t.ld, t.hn, t.hd, t.den, t.no, t.em⟩ : Sp) = t from rfl, show (⟨u.ln, u.ld, u.hn, u.hd, u.den, u.no, u.em⟩ : Sp) = u from rfl]
    generalize S.known s = s at *
    generalize S.known t = t at *
    generalize S.known u = u at *
    unfold Sp.ap
    simp only [told_pick hk k1 k2 k3]
    unfold Sp.ap Sp.ap8
    cases s.no <;> cases s.em <;> cases t.no <;> cases t.em <;> rfl
  · rw [do_pick]
    cases hq : Q.isq a b
    · rw [Bool.not_false, cT]; rfl
    · rw [Bool.not_true, cF]
      by_cases h0 : a = 0
      · rw [beq_iff_eq.2 h0, cT, if_pos rfl, if_pos rfl, if_pos h0, if_pos h0]
      · rw [beq_eq_false_iff_ne.2 h0, cF, if_pos rfl, if_pos rfl, if_neg h0, if_neg h0]
theorem way1 {op : ByteArray} (hf : (toList op == toList ⟨#[102, 105, 116]⟩) = false) (H : ∀ {s a b}, S.has (S.known s) a b = true → H1 op s a b) (kd r o : ByteArray) (I F : Int) (l00 l01 l02 l03 l04 : Int) (l05 l06 : Bool) (q00 q01 : Int) (k : Bool → Option DV) :
    s1_Clean q00 q01 (fun x0 y0 => s3_Has l00 l01 l02 l03 l04 l05 l06 x0 y0 (fun b0 => bif !b0 then (w3_awake (fun r => k r)) else (span_Fit kd I F r o l00 l01 l02 l03 l04 l05 l06 (fun t0 t1 t2 t3 t4 t5 t6 => bif !(toList op == toList ⟨#[102, 105, 116]⟩) then (span_Op_n1 op l00 l01 l02 l03 l04 l05 l06 (fun u0 u1 u2 u3 u4 u5 u6 e => bif e != 0 then (k false) else (s8_Do_n1 op kd I F r o x0 y0 (fun v w => span_Has u0 u1 u2 u3 u4 u5 u6 v w (fun z => bif z then (w3_awake (fun r => k r)) else (k false)))))) else (s8_Do_n1 op kd I F r o x0 y0 (fun v w => span_Has t0 t1 t2 t3 t4 t5 t6 v w (fun z => bif z then (w3_awake (fun r => k r)) else (k false)))))))) = k true := by
  unfold s1_Clean
  dsimp only
  simp only [rhas_eq, awake_true]
  generalize (Q.clean (q00, q01)).1 = x0
  generalize (Q.clean (q00, q01)).2 = y0
  cases h0 : S.has (S.known ⟨l00, l01, l02, l03, l04, l05, l06⟩) x0 y0
  · rw [Bool.not_false, cT]
  rw [Bool.not_true, cF]
  obtain ⟨T, hT, -⟩ := hold_fit kd r o I F h0
  obtain ⟨R, v, w, e1, e2, e3⟩ := H h0
  rw [hT]
  unfold Sp.ap
  dsimp only
  rw [hf, Bool.not_false, cT, e1]
  unfold Sp.ap8
  dsimp only
  rw [show ((0 : Int) != 0) = false by decide, cF, e2, has_eq, known_has e3, cT]
theorem way2 {op : ByteArray} (hf : (toList op == toList ⟨#[102, 105, 116]⟩) = false) (H : ∀ {s t a b c d}, S.has (S.known s) a b = true → S.has (S.known t) c d = true → H2 op s t a b c d) (kd r o : ByteArray) (I F : Int) (l00 l01 l02 l03 l04 : Int) (l05 l06 : Bool) (q00 q01 : Int) (l10 l11 l12 l13 l14 : Int) (l15 l16 : Bool) (q10 q11 : Int) (k : Bool → Option DV) :
    s1_Clean q00 q01 (fun x0 y0 => s3_Has l00 l01 l02 l03 l04 l05 l06 x0 y0 (fun b0 => bif !b0 then (w3_awake (fun r => k r)) else (s1_Clean q10 q11 (fun x1 y1 => s3_Has l10 l11 l12 l13 l14 l15 l16 x1 y1 (fun b1 => bif !b1 then (w3_awake (fun r => k r)) else (span_Fit kd I F r o l00 l01 l02 l03 l04 l05 l06 (fun t0 t1 t2 t3 t4 t5 t6 => bif !(toList op == toList ⟨#[102, 105, 116]⟩) then (span_Op_n2 op l00 l01 l02 l03 l04 l05 l06 l10 l11 l12 l13 l14 l15 l16 (fun u0 u1 u2 u3 u4 u5 u6 e => bif e != 0 then (k false) else (s8_Do_n2 op kd I F r o x0 y0 x1 y1 (fun v w => span_Has u0 u1 u2 u3 u4 u5 u6 v w (fun z => bif z then (w3_awake (fun r => k r)) else (k false)))))) else (s8_Do_n2 op kd I F r o x0 y0 x1 y1 (fun v w => span_Has t0 t1 t2 t3 t4 t5 t6 v w (fun z => bif z then (w3_awake (fun r => k r)) else (k false))))))))))) = k true := by
  unfold s1_Clean
  dsimp only
  simp only [rhas_eq, awake_true]
  generalize (Q.clean (q00, q01)).1 = x0
  generalize (Q.clean (q00, q01)).2 = y0
  generalize (Q.clean (q10, q11)).1 = x1
  generalize (Q.clean (q10, q11)).2 = y1
  cases h0 : S.has (S.known ⟨l00, l01, l02, l03, l04, l05, l06⟩) x0 y0
  · rw [Bool.not_false, cT]
  rw [Bool.not_true, cF]
  cases h1 : S.has (S.known ⟨l10, l11, l12, l13, l14, l15, l16⟩) x1 y1
  · rw [Bool.not_false, cT]
  rw [Bool.not_true, cF]
  obtain ⟨T, hT, -⟩ := hold_fit kd r o I F h0
  obtain ⟨R, v, w, e1, e2, e3⟩ := H h0 h1
  rw [hT]
  unfold Sp.ap
  dsimp only
  rw [hf, Bool.not_false, cT, e1]
  unfold Sp.ap8
  dsimp only
  rw [show ((0 : Int) != 0) = false by decide, cF, e2, has_eq, known_has e3, cT]
theorem way3 {op : ByteArray} (hf : (toList op == toList ⟨#[102, 105, 116]⟩) = false) (H : ∀ {s t u a b c d e f}, S.has (S.known s) a b = true → S.has (S.known t) c d = true → S.has (S.known u) e f = true → H3 op s t u a b c d e f) (kd r o : ByteArray) (I F : Int) (l00 l01 l02 l03 l04 : Int) (l05 l06 : Bool) (q00 q01 : Int) (l10 l11 l12 l13 l14 : Int) (l15 l16 : Bool) (q10 q11 : Int) (l20 l21 l22 l23 l24 : Int) (l25 l26 : Bool) (q20 q21 : Int) (k : Bool → Option DV) :
    s1_Clean q00 q01 (fun x0 y0 => s3_Has l00 l01 l02 l03 l04 l05 l06 x0 y0 (fun b0 => bif !b0 then (w3_awake (fun r => k r)) else (s1_Clean q10 q11 (fun x1 y1 => s3_Has l10 l11 l12 l13 l14 l15 l16 x1 y1 (fun b1 => bif !b1 then (w3_awake (fun r => k r)) else (s1_Clean q20 q21 (fun x2 y2 => s3_Has l20 l21 l22 l23 l24 l25 l26 x2 y2 (fun b2 => bif !b2 then (w3_awake (fun r => k r)) else (span_Fit kd I F r o l00 l01 l02 l03 l04 l05 l06 (fun t0 t1 t2 t3 t4 t5 t6 => bif !(toList op == toList ⟨#[102, 105, 116]⟩) then (span_Op_n3 op l00 l01 l02 l03 l04 l05 l06 l10 l11 l12 l13 l14 l15 l16 l20 l21 l22 l23 l24 l25 l26 (fun u0 u1 u2 u3 u4 u5 u6 e => bif e != 0 then (k false) else (s8_Do_n3 op kd I F r o x0 y0 x1 y1 x2 y2 (fun v w => span_Has u0 u1 u2 u3 u4 u5 u6 v w (fun z => bif z then (w3_awake (fun r => k r)) else (k false)))))) else (s8_Do_n3 op kd I F r o x0 y0 x1 y1 x2 y2 (fun v w => span_Has t0 t1 t2 t3 t4 t5 t6 v w (fun z => bif z then (w3_awake (fun r => k r)) else (k false)))))))))))))) = k true := by
  unfold s1_Clean
  dsimp only
  simp only [rhas_eq, awake_true]
  generalize (Q.clean (q00, q01)).1 = x0
  generalize (Q.clean (q00, q01)).2 = y0
  generalize (Q.clean (q10, q11)).1 = x1
  generalize (Q.clean (q10, q11)).2 = y1
  generalize (Q.clean (q20, q21)).1 = x2
  generalize (Q.clean (q20, q21)).2 = y2
  cases h0 : S.has (S.known ⟨l00, l01, l02, l03, l04, l05, l06⟩) x0 y0
  · rw [Bool.not_false, cT]
  rw [Bool.not_true, cF]
  cases h1 : S.has (S.known ⟨l10, l11, l12, l13, l14, l15, l16⟩) x1 y1
  · rw [Bool.not_false, cT]
  rw [Bool.not_true, cF]
  cases h2 : S.has (S.known ⟨l20, l21, l22, l23, l24, l25, l26⟩) x2 y2
  · rw [Bool.not_false, cT]
  rw [Bool.not_true, cF]
  obtain ⟨T, hT, -⟩ := hold_fit kd r o I F h0
  obtain ⟨R, v, w, e1, e2, e3⟩ := H h0 h1 h2
  rw [hT]
  unfold Sp.ap
  dsimp only
  rw [hf, Bool.not_false, cT, e1]
  unfold Sp.ap8
  dsimp only
  rw [show ((0 : Int) != 0) = false by decide, cF, e2, has_eq, known_has e3, cT]
theorem wayf (kd r o : ByteArray) (I F : Int) (l00 l01 l02 l03 l04 : Int) (l05 l06 : Bool) (q00 q01 : Int) (k : Bool → Option DV) :
    s1_Clean q00 q01 (fun x0 y0 => s3_Has l00 l01 l02 l03 l04 l05 l06 x0 y0 (fun b0 => bif !b0 then (w3_awake (fun r => k r)) else (span_Fit kd I F r o l00 l01 l02 l03 l04 l05 l06 (fun t0 t1 t2 t3 t4 t5 t6 => bif !(toList ⟨#[102, 105, 116]⟩ == toList ⟨#[102, 105, 116]⟩) then (span_Op_n1 ⟨#[102, 105, 116]⟩ l00 l01 l02 l03 l04 l05 l06 (fun u0 u1 u2 u3 u4 u5 u6 e => bif e != 0 then (k false) else (s8_Do_n1 ⟨#[102, 105, 116]⟩ kd I F r o x0 y0 (fun v w => span_Has u0 u1 u2 u3 u4 u5 u6 v w (fun z => bif z then (w3_awake (fun r => k r)) else (k false)))))) else (s8_Do_n1 ⟨#[102, 105, 116]⟩ kd I F r o x0 y0 (fun v w => span_Has t0 t1 t2 t3 t4 t5 t6 v w (fun z => bif z then (w3_awake (fun r => k r)) else (k false)))))))) = k true := by
  unfold s1_Clean
  dsimp only
  simp only [rhas_eq, awake_true, do_fit, Y.sFit_eq]
  generalize (Q.clean (q00, q01)).1 = x0
  generalize (Q.clean (q00, q01)).2 = y0
  cases h0 : S.has (S.known ⟨l00, l01, l02, l03, l04, l05, l06⟩) x0 y0
  · rw [Bool.not_false, cT]
  rw [Bool.not_true, cF]
  obtain ⟨T, hT, e3⟩ := hold_fit kd r o I F h0
  rw [hT]
  unfold Sp.ap
  dsimp only
  rw [show (toList ⟨#[102, 105, 116]⟩ == toList ⟨#[102, 105, 116]⟩) = true from beq_self_eq_true _, Bool.not_true, cF, has_eq]
  rw [show (⟨T.ln, T.ld, T.hn, T.hd, T.den, T.no, T.em⟩ : Sp) = T from rfl, known_has e3, cT]
/-- What the name of an operation may be. -/
inductive Kind (op : ByteArray) : Prop
  | fit (h : op = ⟨#[102, 105, 116]⟩)
  | none (tk : ∀ k0 k1 k2 k3, s3_Takes op k0 k1 k2 k3 = k0) (hf : (toList op == toList ⟨#[102, 105, 116]⟩) = false)
  | one (tk : ∀ k0 k1 k2 k3, s3_Takes op k0 k1 k2 k3 = k1) (hf : (toList op == toList ⟨#[102, 105, 116]⟩) = false) (H : ∀ {s a b}, S.has (S.known s) a b = true → H1 op s a b)
  | two (tk : ∀ k0 k1 k2 k3, s3_Takes op k0 k1 k2 k3 = k2) (hf : (toList op == toList ⟨#[102, 105, 116]⟩) = false) (H : ∀ {s t a b c d}, S.has (S.known s) a b = true → S.has (S.known t) c d = true → H2 op s t a b c d)
  | three (tk : ∀ k0 k1 k2 k3, s3_Takes op k0 k1 k2 k3 = k3) (hf : (toList op == toList ⟨#[102, 105, 116]⟩) = false) (H : ∀ {s t u a b c d e f}, S.has (S.known s) a b = true → S.has (S.known t) c d = true → S.has (S.known u) e f = true → H3 op s t u a b c d e f)
theorem ba_is {op : ByteArray} {l : List UInt8} (h : (toList op == toList ⟨l.toArray⟩) = true) : op = ⟨l.toArray⟩ := by
  rw [Y.tl l] at h
  exact of_list h
theorem kind (op : ByteArray) : Kind op := by
  cases h_fit : (toList op == toList ⟨#[102, 105, 116]⟩)
  case true => exact .fit (ba_is h_fit)
  cases h_neg : (toList op == toList ⟨#[110, 101, 103]⟩)
  case true => obtain rfl := ba_is h_neg; exact .one tk_neg h_fit hold_neg
  cases h_abs : (toList op == toList ⟨#[97, 98, 115]⟩)
  case true => obtain rfl := ba_is h_abs; exact .one tk_abs h_fit hold_abs
  cases h_floor : (toList op == toList ⟨#[102, 108, 111, 111, 114]⟩)
  case true => obtain rfl := ba_is h_floor; exact .one tk_floor h_fit hold_floor
  cases h_round : (toList op == toList ⟨#[114, 111, 117, 110, 100]⟩)
  case true => obtain rfl := ba_is h_round; exact .one tk_round h_fit hold_round
  cases h_frac : (toList op == toList ⟨#[102, 114, 97, 99]⟩)
  case true => obtain rfl := ba_is h_frac; exact .one tk_frac h_fit hold_frac
  cases h_not : (toList op == toList ⟨#[110, 111, 116]⟩)
  case true => obtain rfl := ba_is h_not; exact .one tk_not h_fit hold_not
  cases h_add : (toList op == toList ⟨#[97, 100, 100]⟩)
  case true => obtain rfl := ba_is h_add; exact .two tk_add h_fit hold_add
  cases h_sub : (toList op == toList ⟨#[115, 117, 98]⟩)
  case true => obtain rfl := ba_is h_sub; exact .two tk_sub h_fit hold_sub
  cases h_mul : (toList op == toList ⟨#[109, 117, 108]⟩)
  case true => obtain rfl := ba_is h_mul; exact .two tk_mul h_fit hold_mul
  cases h_div : (toList op == toList ⟨#[100, 105, 118]⟩)
  case true => obtain rfl := ba_is h_div; exact .two tk_div h_fit hold_div
  cases h_mod : (toList op == toList ⟨#[109, 111, 100]⟩)
  case true => obtain rfl := ba_is h_mod; exact .two tk_mod h_fit hold_mod
  cases h_min : (toList op == toList ⟨#[109, 105, 110]⟩)
  case true => obtain rfl := ba_is h_min; exact .two tk_min h_fit hold_min
  cases h_max : (toList op == toList ⟨#[109, 97, 120]⟩)
  case true => obtain rfl := ba_is h_max; exact .two tk_max h_fit hold_max
  cases h_lt : (toList op == toList ⟨#[108, 116]⟩)
  case true => obtain rfl := ba_is h_lt; exact .two tk_lt h_fit hold_lt
  cases h_le : (toList op == toList ⟨#[108, 101]⟩)
  case true => obtain rfl := ba_is h_le; exact .two tk_le h_fit hold_le
  cases h_eq : (toList op == toList ⟨#[101, 113]⟩)
  case true => obtain rfl := ba_is h_eq; exact .two tk_eq h_fit hold_eq
  cases h_ne : (toList op == toList ⟨#[110, 101]⟩)
  case true => obtain rfl := ba_is h_ne; exact .two tk_ne h_fit hold_ne
  cases h_and : (toList op == toList ⟨#[97, 110, 100]⟩)
  case true => obtain rfl := ba_is h_and; exact .two tk_and h_fit hold_and
  cases h_or : (toList op == toList ⟨#[111, 114]⟩)
  case true => obtain rfl := ba_is h_or; exact .two tk_or h_fit hold_or
  cases h_xor : (toList op == toList ⟨#[120, 111, 114]⟩)
  case true => obtain rfl := ba_is h_xor; exact .two tk_xor h_fit hold_xor
  cases h_shl : (toList op == toList ⟨#[115, 104, 108]⟩)
  case true => obtain rfl := ba_is h_shl; exact .two tk_shl h_fit hold_shl
  cases h_shr : (toList op == toList ⟨#[115, 104, 114]⟩)
  case true => obtain rfl := ba_is h_shr; exact .two tk_shr h_fit hold_shr
  cases h_pick : (toList op == toList ⟨#[112, 105, 99, 107]⟩)
  case true => obtain rfl := ba_is h_pick; exact .three tk_pick h_fit hold_pick
  refine .none (fun k0 k1 k2 k3 => ?_) h_fit
  unfold s3_Takes B_s3_Takes
  simp only [h_neg, h_abs, h_floor, h_round, h_frac, h_not, h_add, h_sub, h_mul, h_div, h_mod, h_min, h_max, h_lt, h_le, h_eq, h_ne, h_and, h_or, h_xor, h_shl, h_shr, h_pick, cT, cF]
end Go.Proofs.YtiiddikiaafanaaGreatDoor
