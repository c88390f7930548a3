import Derived.Test.YtiiddikiaafanaaGreatDoorHi
import Derived.Test.YtiiddikiaafanaaGreatDoorYi
set_option linter.all false
/-
  What an operation of each name tells of spans, and what it makes of numbers.
-/
namespace Go.Proofs.YtiiddikiaafanaaGreatDoor
open _root_.ByteArray (toList)
open Go.Pv Go.RowKit
def Sp.ap8 (s : Sp) (k : Int → Int → Int → Int → Int → Bool → Bool → Int → Option DV) : Option DV := k s.ln s.ld s.hn s.hd s.den s.no s.em 0
theorem nothing_eq (o : Bool) (k : Int → Int → Int → Int → Int → Bool → Bool → Option DV) : span_nothing o k = k 0 0 0 0 0 o true := by
  unfold span_nothing B_span_nothing; rfl
theorem em_none {s : Sp} {a b : Int} (he : s.em = true) (h : S.has s a b = true) : Q.isq a b = false ∧ s.no = true := by
  cases hq : Q.isq a b
  · rw [S.has_none hq] at h; exact ⟨rfl, h⟩
  · have := ((S.has_iff hq).1 h).1; rw [he] at this; cases this
theorem orn_bif (R : Sp) (z : Bool) (k : Int → Int → Int → Int → Int → Bool → Bool → Int → Option DV) : R.ap (fun a b c d n o em => bif !o then k a b c d n z em 0 else k a b c d n true em 0) = (S.orn R z).ap8 k := by
  unfold Sp.ap Sp.ap8 S.orn; cases R.no <;> cases z <;> rfl
def H1 (op : ByteArray) (s : Sp) (a b : Int) : Prop := ∃ (R : Sp) (v w : Int), (∀ k, span_Op_n1 op s.ln s.ld s.hn s.hd s.den s.no s.em k = R.ap8 k) ∧ (∀ k0 I F r o k, s8_Do_n1 op k0 I F r o a b k = k v w) ∧ S.has R v w = true
def H2 (op : ByteArray) (s t : Sp) (a b c d : Int) : Prop := ∃ (R : Sp) (v w : Int), (∀ k, span_Op_n2 op s.ln s.ld s.hn s.hd s.den s.no s.em t.ln t.ld t.hn t.hd t.den t.no t.em k = R.ap8 k) ∧ (∀ k0 I F r o k, s8_Do_n2 op k0 I F r o a b c d k = k v w) ∧ S.has R v w = true
theorem h1_of {op : ByteArray} {s : Sp} {a b v w : Int} (hi : ∀ k, span_ins op k = k 1) (hp : (toList op == toList (⟨#[112, 105, 99, 107]⟩)) = false) (hd : ∀ k0 I F r o k, s8_Do_n1 op k0 I F r o a b k = k v w) (h : S.has (S.known s) a b = true) (hn : Q.isq a b = false → Q.isq v w = false)
    (hR : S.Ok (S.known s) → (S.known s).em = false → S.known (S.known s) = S.known s → ∃ R, (∀ k, span_ofOne op (S.known s).ln (S.known s).ld (S.known s).hn (S.known s).hd (S.known s).den (S.known s).no (S.known s).em k = R.ap k) ∧ S.has (S.orn R (S.known s).no) v w = true) : H1 op s a b := by
  have hk := S.known_ok s
  have hkk := known_known s
  have hu : ∀ k, span_Op_n1 op s.ln s.ld s.hn s.hd s.den s.no s.em k = bif (S.known s).em then k 0 0 0 0 0 (S.known s).no true 0 else span_ofOne op (S.known s).ln (S.known s).ld (S.known s).hn (S.known s).hd (S.known s).den (S.known s).no (S.known s).em (fun r16 r17 r18 r19 r20 r21 r22 => bif !r21 then k r16 r17 r18 r19 r20 (S.known s).no r22 0 else k r16 r17 r18 r19 r20 true r22 0) := fun k => by
    unfold span_Op_n1 B_span_Op_n1
    rw [hi]
    simp only [known_eq, nothing_eq, hp, cT, cF]
    rfl
  cases he : (S.known s).em
  · obtain ⟨R, h1, h2⟩ := hR hk he hkk
    exact ⟨_, v, w, fun k => by rw [hu, he, cF, ← he, h1, orn_bif], hd, h2⟩
  · obtain ⟨e1, e2⟩ := em_none he h
    exact ⟨⟨0, 0, 0, 0, 0, (S.known s).no, true⟩, v, w, fun k => by rw [hu, he, cT]; rfl, hd, by rw [S.has_none (hn e1)]; exact e2⟩
theorem h2_of {op : ByteArray} {s t : Sp} {a b c d v w : Int} (hi : ∀ k, span_ins op k = k 2) (hp : (toList op == toList (⟨#[112, 105, 99, 107]⟩)) = false) (hd : ∀ k0 I F r o k, s8_Do_n2 op k0 I F r o a b c d k = k v w) (h : S.has (S.known s) a b = true) (h' : S.has (S.known t) c d = true) (hn : Q.both (a, b) (c, d) = false → Q.isq v w = false)
    (hR : S.Ok (S.known s) → S.Ok (S.known t) → (S.known s).em = false → (S.known t).em = false → ∃ R, (∀ k, span_ofTwo op (S.known s).ln (S.known s).ld (S.known s).hn (S.known s).hd (S.known s).den (S.known s).no (S.known s).em (S.known t).ln (S.known t).ld (S.known t).hn (S.known t).hd (S.known t).den (S.known t).no (S.known t).em k = R.ap k) ∧ S.has (S.orn R ((S.known s).no || (S.known t).no)) v w = true) : H2 op s t a b c d := by
  have hk := S.known_ok s
  have hk' := S.known_ok t
  have hu : ∀ k, span_Op_n2 op s.ln s.ld s.hn s.hd s.den s.no s.em t.ln t.ld t.hn t.hd t.den t.no t.em k = bif (S.known s).em || (S.known t).em then k 0 0 0 0 0 ((S.known s).no || (S.known t).no) true 0 else span_ofTwo op (S.known s).ln (S.known s).ld (S.known s).hn (S.known s).hd (S.known s).den (S.known s).no (S.known s).em (S.known t).ln (S.known t).ld (S.known t).hn (S.known t).hd (S.known t).den (S.known t).no (S.known t).em (fun r16 r17 r18 r19 r20 r21 r22 => bif !r21 then k r16 r17 r18 r19 r20 ((S.known s).no || (S.known t).no) r22 0 else k r16 r17 r18 r19 r20 true r22 0) := fun k => by
    unfold span_Op_n2 B_span_Op_n2
    rw [hi]
    simp only [known_eq, nothing_eq, hp, cT, cF]
    unfold Sp.ap
    cases (S.known s).no <;> cases (S.known s).em <;> cases (S.known t).em <;> rfl
  cases he : (S.known s).em
  · cases he' : (S.known t).em
    · obtain ⟨R, h1, h2⟩ := hR hk hk' he he'
      exact ⟨_, v, w, fun k => by rw [hu, he, he', Bool.or_false, cF]; rw [he, he'] at h1; rw [h1, orn_bif], hd, h2⟩
    · obtain ⟨e1, e2⟩ := em_none he' h'
      exact ⟨⟨0, 0, 0, 0, 0, (S.known s).no || (S.known t).no, true⟩, v, w, fun k => by rw [hu, he', Bool.or_true, cT]; rfl, hd, by rw [S.has_none (hn (by unfold Q.both; rw [e1, Bool.and_false]))]; rw [e2, Bool.or_true]⟩
  · obtain ⟨e1, e2⟩ := em_none he h
    exact ⟨⟨0, 0, 0, 0, 0, (S.known s).no || (S.known t).no, true⟩, v, w, fun k => by rw [hu, he, Bool.true_or, cT]; rfl, hd, by rw [S.has_none (hn (by unfold Q.both; rw [e1, Bool.false_and]))]; rw [e2, Bool.true_or]⟩
theorem in_neg (k : Int → Option DV) : span_ins ⟨#[110, 101, 103]⟩ k = k 1 := by kernel_rfl
theorem tk_neg (k0 k1 k2 k3 : Option DV) : s3_Takes ⟨#[110, 101, 103]⟩ k0 k1 k2 k3 = k1 := by kernel_rfl
theorem np_neg : (toList ⟨#[110, 101, 103]⟩ == toList (⟨#[112, 105, 99, 107]⟩)) = false := by kernel_rfl
theorem in_abs (k : Int → Option DV) : span_ins ⟨#[97, 98, 115]⟩ k = k 1 := by kernel_rfl
theorem tk_abs (k0 k1 k2 k3 : Option DV) : s3_Takes ⟨#[97, 98, 115]⟩ k0 k1 k2 k3 = k1 := by kernel_rfl
theorem np_abs : (toList ⟨#[97, 98, 115]⟩ == toList (⟨#[112, 105, 99, 107]⟩)) = false := by kernel_rfl
theorem in_floor (k : Int → Option DV) : span_ins ⟨#[102, 108, 111, 111, 114]⟩ k = k 1 := by kernel_rfl
theorem tk_floor (k0 k1 k2 k3 : Option DV) : s3_Takes ⟨#[102, 108, 111, 111, 114]⟩ k0 k1 k2 k3 = k1 := by kernel_rfl
theorem np_floor : (toList ⟨#[102, 108, 111, 111, 114]⟩ == toList (⟨#[112, 105, 99, 107]⟩)) = false := by kernel_rfl
theorem in_round (k : Int → Option DV) : span_ins ⟨#[114, 111, 117, 110, 100]⟩ k = k 1 := by kernel_rfl
theorem tk_round (k0 k1 k2 k3 : Option DV) : s3_Takes ⟨#[114, 111, 117, 110, 100]⟩ k0 k1 k2 k3 = k1 := by kernel_rfl
theorem np_round : (toList ⟨#[114, 111, 117, 110, 100]⟩ == toList (⟨#[112, 105, 99, 107]⟩)) = false := by kernel_rfl
theorem in_frac (k : Int → Option DV) : span_ins ⟨#[102, 114, 97, 99]⟩ k = k 1 := by kernel_rfl
theorem tk_frac (k0 k1 k2 k3 : Option DV) : s3_Takes ⟨#[102, 114, 97, 99]⟩ k0 k1 k2 k3 = k1 := by kernel_rfl
theorem np_frac : (toList ⟨#[102, 114, 97, 99]⟩ == toList (⟨#[112, 105, 99, 107]⟩)) = false := by kernel_rfl
theorem in_not (k : Int → Option DV) : span_ins ⟨#[110, 111, 116]⟩ k = k 1 := by kernel_rfl
theorem tk_not (k0 k1 k2 k3 : Option DV) : s3_Takes ⟨#[110, 111, 116]⟩ k0 k1 k2 k3 = k1 := by kernel_rfl
theorem np_not : (toList ⟨#[110, 111, 116]⟩ == toList (⟨#[112, 105, 99, 107]⟩)) = false := by kernel_rfl
theorem in_add (k : Int → Option DV) : span_ins ⟨#[97, 100, 100]⟩ k = k 2 := by kernel_rfl
theorem tk_add (k0 k1 k2 k3 : Option DV) : s3_Takes ⟨#[97, 100, 100]⟩ k0 k1 k2 k3 = k2 := by kernel_rfl
theorem np_add : (toList ⟨#[97, 100, 100]⟩ == toList (⟨#[112, 105, 99, 107]⟩)) = false := by kernel_rfl
theorem in_sub (k : Int → Option DV) : span_ins ⟨#[115, 117, 98]⟩ k = k 2 := by kernel_rfl
theorem tk_sub (k0 k1 k2 k3 : Option DV) : s3_Takes ⟨#[115, 117, 98]⟩ k0 k1 k2 k3 = k2 := by kernel_rfl
theorem np_sub : (toList ⟨#[115, 117, 98]⟩ == toList (⟨#[112, 105, 99, 107]⟩)) = false := by kernel_rfl
theorem in_mul (k : Int → Option DV) : span_ins ⟨#[109, 117, 108]⟩ k = k 2 := by kernel_rfl
theorem tk_mul (k0 k1 k2 k3 : Option DV) : s3_Takes ⟨#[109, 117, 108]⟩ k0 k1 k2 k3 = k2 := by kernel_rfl
theorem np_mul : (toList ⟨#[109, 117, 108]⟩ == toList (⟨#[112, 105, 99, 107]⟩)) = false := by kernel_rfl
theorem in_div (k : Int → Option DV) : span_ins ⟨#[100, 105, 118]⟩ k = k 2 := by kernel_rfl
theorem tk_div (k0 k1 k2 k3 : Option DV) : s3_Takes ⟨#[100, 105, 118]⟩ k0 k1 k2 k3 = k2 := by kernel_rfl
theorem np_div : (toList ⟨#[100, 105, 118]⟩ == toList (⟨#[112, 105, 99, 107]⟩)) = false := by kernel_rfl
theorem in_mod (k : Int → Option DV) : span_ins ⟨#[109, 111, 100]⟩ k = k 2 := by kernel_rfl
theorem tk_mod (k0 k1 k2 k3 : Option DV) : s3_Takes ⟨#[109, 111, 100]⟩ k0 k1 k2 k3 = k2 := by kernel_rfl
theorem np_mod : (toList ⟨#[109, 111, 100]⟩ == toList (⟨#[112, 105, 99, 107]⟩)) = false := by kernel_rfl
theorem in_min (k : Int → Option DV) : span_ins ⟨#[109, 105, 110]⟩ k = k 2 := by kernel_rfl
theorem tk_min (k0 k1 k2 k3 : Option DV) : s3_Takes ⟨#[109, 105, 110]⟩ k0 k1 k2 k3 = k2 := by kernel_rfl
theorem np_min : (toList ⟨#[109, 105, 110]⟩ == toList (⟨#[112, 105, 99, 107]⟩)) = false := by kernel_rfl
theorem in_max (k : Int → Option DV) : span_ins ⟨#[109, 97, 120]⟩ k = k 2 := by kernel_rfl
theorem tk_max (k0 k1 k2 k3 : Option DV) : s3_Takes ⟨#[109, 97, 120]⟩ k0 k1 k2 k3 = k2 := by kernel_rfl
theorem np_max : (toList ⟨#[109, 97, 120]⟩ == toList (⟨#[112, 105, 99, 107]⟩)) = false := by kernel_rfl
theorem in_lt (k : Int → Option DV) : span_ins ⟨#[108, 116]⟩ k = k 2 := by kernel_rfl
theorem tk_lt (k0 k1 k2 k3 : Option DV) : s3_Takes ⟨#[108, 116]⟩ k0 k1 k2 k3 = k2 := by kernel_rfl
theorem np_lt : (toList ⟨#[108, 116]⟩ == toList (⟨#[112, 105, 99, 107]⟩)) = false := by kernel_rfl
theorem in_le (k : Int → Option DV) : span_ins ⟨#[108, 101]⟩ k = k 2 := by kernel_rfl
theorem tk_le (k0 k1 k2 k3 : Option DV) : s3_Takes ⟨#[108, 101]⟩ k0 k1 k2 k3 = k2 := by kernel_rfl
theorem np_le : (toList ⟨#[108, 101]⟩ == toList (⟨#[112, 105, 99, 107]⟩)) = false := by kernel_rfl
theorem in_eq (k : Int → Option DV) : span_ins ⟨#[101, 113]⟩ k = k 2 := by kernel_rfl
theorem tk_eq (k0 k1 k2 k3 : Option DV) : s3_Takes ⟨#[101, 113]⟩ k0 k1 k2 k3 = k2 := by kernel_rfl
theorem np_eq : (toList ⟨#[101, 113]⟩ == toList (⟨#[112, 105, 99, 107]⟩)) = false := by kernel_rfl
theorem in_ne (k : Int → Option DV) : span_ins ⟨#[110, 101]⟩ k = k 2 := by kernel_rfl
theorem tk_ne (k0 k1 k2 k3 : Option DV) : s3_Takes ⟨#[110, 101]⟩ k0 k1 k2 k3 = k2 := by kernel_rfl
theorem np_ne : (toList ⟨#[110, 101]⟩ == toList (⟨#[112, 105, 99, 107]⟩)) = false := by kernel_rfl
theorem in_and (k : Int → Option DV) : span_ins ⟨#[97, 110, 100]⟩ k = k 2 := by kernel_rfl
theorem tk_and (k0 k1 k2 k3 : Option DV) : s3_Takes ⟨#[97, 110, 100]⟩ k0 k1 k2 k3 = k2 := by kernel_rfl
theorem np_and : (toList ⟨#[97, 110, 100]⟩ == toList (⟨#[112, 105, 99, 107]⟩)) = false := by kernel_rfl
theorem in_or (k : Int → Option DV) : span_ins ⟨#[111, 114]⟩ k = k 2 := by kernel_rfl
theorem tk_or (k0 k1 k2 k3 : Option DV) : s3_Takes ⟨#[111, 114]⟩ k0 k1 k2 k3 = k2 := by kernel_rfl
theorem np_or : (toList ⟨#[111, 114]⟩ == toList (⟨#[112, 105, 99, 107]⟩)) = false := by kernel_rfl
theorem in_xor (k : Int → Option DV) : span_ins ⟨#[120, 111, 114]⟩ k = k 2 := by kernel_rfl
theorem tk_xor (k0 k1 k2 k3 : Option DV) : s3_Takes ⟨#[120, 111, 114]⟩ k0 k1 k2 k3 = k2 := by kernel_rfl
theorem np_xor : (toList ⟨#[120, 111, 114]⟩ == toList (⟨#[112, 105, 99, 107]⟩)) = false := by kernel_rfl
theorem in_shl (k : Int → Option DV) : span_ins ⟨#[115, 104, 108]⟩ k = k 2 := by kernel_rfl
theorem tk_shl (k0 k1 k2 k3 : Option DV) : s3_Takes ⟨#[115, 104, 108]⟩ k0 k1 k2 k3 = k2 := by kernel_rfl
theorem np_shl : (toList ⟨#[115, 104, 108]⟩ == toList (⟨#[112, 105, 99, 107]⟩)) = false := by kernel_rfl
theorem in_shr (k : Int → Option DV) : span_ins ⟨#[115, 104, 114]⟩ k = k 2 := by kernel_rfl
theorem tk_shr (k0 k1 k2 k3 : Option DV) : s3_Takes ⟨#[115, 104, 114]⟩ k0 k1 k2 k3 = k2 := by kernel_rfl
theorem np_shr : (toList ⟨#[115, 104, 114]⟩ == toList (⟨#[112, 105, 99, 107]⟩)) = false := by kernel_rfl
theorem in_pick (k : Int → Option DV) : span_ins ⟨#[112, 105, 99, 107]⟩ k = k 3 := by kernel_rfl
theorem tk_pick (k0 k1 k2 k3 : Option DV) : s3_Takes ⟨#[112, 105, 99, 107]⟩ k0 k1 k2 k3 = k3 := by kernel_rfl
theorem do_neg (a b : Int) (k0 : ByteArray) (I F : Int) (r o : ByteArray) (k : Int → Int → Option DV) : s8_Do_n1 ⟨#[110, 101, 103]⟩ k0 I F r o a b k = k (Q.neg (a, b)).1 (Q.neg (a, b)).2 := by kernel_rfl
theorem do_abs (a b : Int) (k0 : ByteArray) (I F : Int) (r o : ByteArray) (k : Int → Int → Option DV) : s8_Do_n1 ⟨#[97, 98, 115]⟩ k0 I F r o a b k = k (Q.abs (a, b)).1 (Q.abs (a, b)).2 := by kernel_rfl
theorem do_floor (a b : Int) (k0 : ByteArray) (I F : Int) (r o : ByteArray) (k : Int → Int → Option DV) : s8_Do_n1 ⟨#[102, 108, 111, 111, 114]⟩ k0 I F r o a b k = k (Q.floor (a, b)).1 (Q.floor (a, b)).2 := by kernel_rfl
theorem do_round (a b : Int) (k0 : ByteArray) (I F : Int) (r o : ByteArray) (k : Int → Int → Option DV) : s8_Do_n1 ⟨#[114, 111, 117, 110, 100]⟩ k0 I F r o a b k = k (Q.round (a, b)).1 (Q.round (a, b)).2 := by kernel_rfl
theorem do_frac (a b : Int) (k0 : ByteArray) (I F : Int) (r o : ByteArray) (k : Int → Int → Option DV) : s8_Do_n1 ⟨#[102, 114, 97, 99]⟩ k0 I F r o a b k = k (Q.frac (a, b)).1 (Q.frac (a, b)).2 := by kernel_rfl
theorem do_not (a b : Int) (k0 : ByteArray) (I F : Int) (r o : ByteArray) (k : Int → Int → Option DV) : s8_Do_n1 ⟨#[110, 111, 116]⟩ k0 I F r o a b k = bif !Q.isq a b then k 0 0 else (bif a == 0 then k 1 1 else k 0 1) := by kernel_rfl
theorem do_add (a b c d : Int) (k0 : ByteArray) (I F : Int) (r o : ByteArray) (k : Int → Int → Option DV) : s8_Do_n2 ⟨#[97, 100, 100]⟩ k0 I F r o a b c d k = k (Q.add (a, b) (c, d)).1 (Q.add (a, b) (c, d)).2 := by kernel_rfl
theorem do_sub (a b c d : Int) (k0 : ByteArray) (I F : Int) (r o : ByteArray) (k : Int → Int → Option DV) : s8_Do_n2 ⟨#[115, 117, 98]⟩ k0 I F r o a b c d k = k (Q.sub (a, b) (c, d)).1 (Q.sub (a, b) (c, d)).2 := by kernel_rfl
theorem do_mul (a b c d : Int) (k0 : ByteArray) (I F : Int) (r o : ByteArray) (k : Int → Int → Option DV) : s8_Do_n2 ⟨#[109, 117, 108]⟩ k0 I F r o a b c d k = k (Q.mul (a, b) (c, d)).1 (Q.mul (a, b) (c, d)).2 := by kernel_rfl
theorem do_div (a b c d : Int) (k0 : ByteArray) (I F : Int) (r o : ByteArray) (k : Int → Int → Option DV) : s8_Do_n2 ⟨#[100, 105, 118]⟩ k0 I F r o a b c d k = k (Q.div (a, b) (c, d)).1 (Q.div (a, b) (c, d)).2 := by kernel_rfl
theorem do_mod (a b c d : Int) (k0 : ByteArray) (I F : Int) (r o : ByteArray) (k : Int → Int → Option DV) : s8_Do_n2 ⟨#[109, 111, 100]⟩ k0 I F r o a b c d k = k (Q.mod (a, b) (c, d)).1 (Q.mod (a, b) (c, d)).2 := by kernel_rfl
theorem do_min (a b c d : Int) (k0 : ByteArray) (I F : Int) (r o : ByteArray) (k : Int → Int → Option DV) : s8_Do_n2 ⟨#[109, 105, 110]⟩ k0 I F r o a b c d k = k (Q.min (a, b) (c, d)).1 (Q.min (a, b) (c, d)).2 := by kernel_rfl
theorem do_max (a b c d : Int) (k0 : ByteArray) (I F : Int) (r o : ByteArray) (k : Int → Int → Option DV) : s8_Do_n2 ⟨#[109, 97, 120]⟩ k0 I F r o a b c d k = k (Q.max (a, b) (c, d)).1 (Q.max (a, b) (c, d)).2 := by kernel_rfl
theorem do_lt (a b c d : Int) (k0 : ByteArray) (I F : Int) (r o : ByteArray) (k : Int → Int → Option DV) : s8_Do_n2 ⟨#[108, 116]⟩ k0 I F r o a b c d k = s1_Test ⟨#[108, 116]⟩ a b c d k := by kernel_rfl
theorem do_le (a b c d : Int) (k0 : ByteArray) (I F : Int) (r o : ByteArray) (k : Int → Int → Option DV) : s8_Do_n2 ⟨#[108, 101]⟩ k0 I F r o a b c d k = s1_Test ⟨#[108, 101]⟩ a b c d k := by kernel_rfl
theorem do_eq (a b c d : Int) (k0 : ByteArray) (I F : Int) (r o : ByteArray) (k : Int → Int → Option DV) : s8_Do_n2 ⟨#[101, 113]⟩ k0 I F r o a b c d k = s1_Test ⟨#[101, 113]⟩ a b c d k := by kernel_rfl
theorem do_ne (a b c d : Int) (k0 : ByteArray) (I F : Int) (r o : ByteArray) (k : Int → Int → Option DV) : s8_Do_n2 ⟨#[110, 101]⟩ k0 I F r o a b c d k = s1_Test ⟨#[110, 101]⟩ a b c d k := by kernel_rfl
theorem do_and (a b c d : Int) (k0 : ByteArray) (I F : Int) (r o : ByteArray) (k : Int → Int → Option DV) : s8_Do_n2 ⟨#[97, 110, 100]⟩ k0 I F r o a b c d k = s1_Bits ⟨#[97, 110, 100]⟩ a b c d k := by kernel_rfl
theorem do_or (a b c d : Int) (k0 : ByteArray) (I F : Int) (r o : ByteArray) (k : Int → Int → Option DV) : s8_Do_n2 ⟨#[111, 114]⟩ k0 I F r o a b c d k = s1_Bits ⟨#[111, 114]⟩ a b c d k := by kernel_rfl
theorem do_xor (a b c d : Int) (k0 : ByteArray) (I F : Int) (r o : ByteArray) (k : Int → Int → Option DV) : s8_Do_n2 ⟨#[120, 111, 114]⟩ k0 I F r o a b c d k = s1_Bits ⟨#[120, 111, 114]⟩ a b c d k := by kernel_rfl
theorem do_shl (a b c d : Int) (k0 : ByteArray) (I F : Int) (r o : ByteArray) (k : Int → Int → Option DV) : s8_Do_n2 ⟨#[115, 104, 108]⟩ k0 I F r o a b c d k = s1_Bits ⟨#[115, 104, 108]⟩ a b c d k := by kernel_rfl
theorem do_shr (a b c d : Int) (k0 : ByteArray) (I F : Int) (r o : ByteArray) (k : Int → Int → Option DV) : s8_Do_n2 ⟨#[115, 104, 114]⟩ k0 I F r o a b c d k = s1_Bits ⟨#[115, 104, 114]⟩ a b c d k := by kernel_rfl
end Go.Proofs.YtiiddikiaafanaaGreatDoor
