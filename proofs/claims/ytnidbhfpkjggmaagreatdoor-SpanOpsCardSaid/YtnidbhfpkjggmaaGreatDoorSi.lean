/-
  The law on what spans are to each other: each reading says something; its reading is true.
-/
import Derived.Test.YtnidbhfpkjggmaaGreatDoorSh
set_option linter.all false
namespace Go.Proofs.YtnidbhfpkjggmaaGreatDoor
open Go.Pv Go.RowKit

theorem ap_ex (a b c d n : Int) (o e : Bool) : ∃ v : Sp, ∀ k : Int → Int → Int → Int → Int → Bool → Bool → Option DV, k a b c d n o e = v.ap k := ⟨⟨a, b, c, d, n, o, e⟩, fun _ => rfl⟩
theorem widen_says (a b c d n : Int) (o e : Bool) (a' b' c' d' n' : Int) (o' e' : Bool) : ∃ v : Sp, ∀ k, serinetteref03_Widen a b c d n o e a' b' c' d' n' o' e' k = v.ap k := by
  unfold serinetteref03_Widen B_serinetteref03_Widen serinetteref01_Cmp serinetteref01_None
  simp only [rknown_eq, rjoin_eq, Sp.ap]
  generalize S.known ⟨a, b, c, d, n, o, e⟩ = s
  generalize S.join _ _ = j
  generalize (Q.cmp (j.ln, j.ld) (s.ln, s.ld) != 0) = x1
  generalize (Q.cmp (j.hn, j.hd) (s.hn, s.hd) != 0) = x2
  generalize (j.den != s.den) = x3
  cases s.em <;> cases j.em <;> cases x1 <;> cases x2 <;> cases x3 <;> simp only [Bool.not_true, Bool.not_false, cond_true, cond_false] <;> exact ap_ex _ _ _ _ _ _ _
theorem meet_says (a b c d n : Int) (o e : Bool) (a' b' c' d' n' : Int) (o' e' : Bool) : ∃ v : Sp, ∀ k, serinetteref03_Meet a b c d n o e a' b' c' d' n' o' e' k = v.ap k := by
  unfold serinetteref03_Meet B_serinetteref03_Meet serinetteref01_Cmp serinetteref01_Is serinetteref03_Empty B_serinetteref03_Empty
  simp only [rknown_eq, Sp.ap]
  have hs := S.known_ok ⟨a, b, c, d, n, o, e⟩
  have ht := S.known_ok ⟨a', b', c', d', n', o', e'⟩
  generalize S.known ⟨a, b, c, d, n, o, e⟩ = s at *
  generalize S.known ⟨a', b', c', d', n', o', e'⟩ = t at *
  simp only [rgive _ ht.lo, rgive _ ht.hi, rgcd_eq hs.d0 hs.d1 ht.d0 ht.d1, if_true, Bool.false_eq_true, if_false]
  generalize S.give Q.max (s.ln, s.ld) (t.ln, t.ld) = p
  generalize S.give Q.min (s.hn, s.hd) (t.hn, t.hd) = q
  generalize decide (Q.cmp (p.1, p.2) (q.1, q.2) > 0) = x
  generalize Q.isq p.1 p.2 = y1
  generalize Q.isq q.1 q.2 = y2
  cases s.no <;> cases s.em <;> cases t.em <;> cases y1 <;> cases y2 <;> cases x <;> simp only [Bool.not_true, Bool.not_false, cond_true, cond_false] <;> exact ap_ex _ _ _ _ _ _ _
theorem text_says (a b c d n : Int) (o e : Bool) : ∃ T : ByteArray, ∀ k, serinetteref03_Text a b c d n o e k = k T := by
  unfold serinetteref03_Text B_serinetteref03_Text
  simp only [rknown_eq, Sp.ap]
  have hs := S.known_ok ⟨a, b, c, d, n, o, e⟩
  generalize S.known ⟨a, b, c, d, n, o, e⟩ = s at *
  obtain ⟨A, hA, eA⟩ := star_text hs.lo
  obtain ⟨B, hB, eB⟩ := star_text hs.hi
  obtain ⟨C, hC, eC⟩ := int_text (n := s.den) (by have := hs.d0; omega) (by have := hs.d1; omega)
  simp only [eA, eB, eC]
  have hm : IntKind.max .i64 = 9223372036854775807 := by decide
  have small : ∀ (X Y : ByteArray) (z : Option DV), X.size + Y.size ≤ 200 → (bif decide (((ByteArray.size X + ByteArray.size Y : Nat) : Int) > IntKind.max .i64) then none else z) = z := by
    intro X Y z h
    rw [decide_eq_false (by rw [hm]; omega)]; rfl
  have s1 : ByteArray.size ⟨#[91]⟩ = 1 := rfl
  have s2 : ByteArray.size ⟨#[44]⟩ = 1 := rfl
  have s3 : ByteArray.size ⟨#[93, 47]⟩ = 2 := rfl
  have s4 : ByteArray.size ⟨#[32, 110, 111, 110, 101]⟩ = 5 := rfl
  have s5 : ByteArray.size ⟨#[91, 93]⟩ = 2 := rfl
  cases s.em
  · simp only [Bool.not_false, cond_true]
    cases s.no
    · refine ⟨((((((⟨#[91]⟩ : ByteArray) ++ A) ++ (⟨#[44]⟩ : ByteArray)) ++ B) ++ (⟨#[93, 47]⟩ : ByteArray)) ++ C), fun k => ?_⟩
      rw [small _ _ _ (by simp only [ByteArray.size_append, s1, s2, s3, s4, s5]; omega), small _ _ _ (by simp only [ByteArray.size_append, s1, s2, s3, s4, s5]; omega), small _ _ _ (by simp only [ByteArray.size_append, s1, s2, s3, s4, s5]; omega), small _ _ _ (by simp only [ByteArray.size_append, s1, s2, s3, s4, s5]; omega), small _ _ _ (by simp only [ByteArray.size_append, s1, s2, s3, s4, s5]; omega)]
      rfl
    · refine ⟨((((((⟨#[91]⟩ : ByteArray) ++ A) ++ (⟨#[44]⟩ : ByteArray)) ++ B) ++ (⟨#[93, 47]⟩ : ByteArray)) ++ C) ++ (⟨#[32, 110, 111, 110, 101]⟩ : ByteArray), fun k => ?_⟩
      rw [small _ _ _ (by simp only [ByteArray.size_append, s1, s2, s3, s4, s5]; omega), small _ _ _ (by simp only [ByteArray.size_append, s1, s2, s3, s4, s5]; omega), small _ _ _ (by simp only [ByteArray.size_append, s1, s2, s3, s4, s5]; omega), small _ _ _ (by simp only [ByteArray.size_append, s1, s2, s3, s4, s5]; omega), small _ _ _ (by simp only [ByteArray.size_append, s1, s2, s3, s4, s5]; omega)]
      simp only [cond_true]
      rw [small _ _ _ (by simp only [ByteArray.size_append, s1, s2, s3, s4, s5]; omega)]
  · simp only [Bool.not_true, cond_false]
    cases s.no
    · exact ⟨(⟨#[91, 93]⟩ : ByteArray), fun k => rfl⟩
    · refine ⟨(⟨#[91, 93]⟩ : ByteArray) ++ (⟨#[32, 110, 111, 110, 101]⟩ : ByteArray), fun k => ?_⟩
      simp only [cond_true]
      rw [small _ _ _ (by simp only [ByteArray.size_append, s1, s2, s3, s4, s5]; omega)]
/-- The law's reading is true. -/
theorem spansays_true (a b c d n : Int) (o e : Bool) (a' b' c' d' n' : Int) (o' e' : Bool) (x y : Int) (k : Bool → Option DV) : serinettelaw03_SpanSays a b c d n o e a' b' c' d' n' o' e' x y k = k true := by
  obtain ⟨vw, hw⟩ := widen_says a b c d n o e a' b' c' d' n' o' e'
  obtain ⟨vm, hm⟩ := meet_says a b c d n o e a' b' c' d' n' o' e'
  obtain ⟨T, hT⟩ := text_says a b c d n o e
  unfold serinettelaw03_SpanSays B_serinettelaw03_SpanSays
  simp only [valid_eq, rvalid_eq, has_eq, rhas_eq, within_eq, rwithin_eq, text_same, hT, join_eq, rjoin_eq, meet_same, hm, widen_same, hw, point_eq, rpoint_eq, all_eq, rall_eq, awake_true, Sp.ap]
  simp
/-- The law answers true. -/
theorem spansays_any (a b c d n : Int) (o e : Bool) (a' b' c' d' n' : Int) (o' e' : Bool) (x y : Int) (w : World) (hI : Inv w) :
    Calls Tryz.prog 3 #[.agg #[.int .i64 a, .int .i64 b, .int .i64 c, .int .i64 d, .int .i64 n, .bool o, .bool e], .agg #[.int .i64 a', .int .i64 b', .int .i64 c', .int .i64 d', .int .i64 n', .bool o', .bool e'], .agg #[.int .i64 x, .int .i64 y]] w fun e w' => e = .returned (.bool true) ∧ Below w.heap.size w w' := by
  have h := m_serinettelaw03_SpanSays [.val (.agg ⟨[.int .i64 a, .int .i64 b, .int .i64 c, .int .i64 d, .int .i64 n, .bool o, .bool e]⟩), .val (.agg ⟨[.int .i64 a', .int .i64 b', .int .i64 c', .int .i64 d', .int .i64 n', .bool o', .bool e']⟩), .val (.agg ⟨[.int .i64 x, .int .i64 y]⟩)] some (.val (.bool true))
    (spansays_true a b c d n o e a' b' c' d' n' o' e' x y _)
  obtain ⟨_, x, hx, _, hc⟩ := h
  cases hx
  refine (hc (fun _ => False) w _ hI (fun _ h => h.elim) rfl ?_).mono fun e w' ⟨v, he, hb, hr⟩ => ⟨by rw [he, val_eq hr], hb⟩
  intro i x v h1 h2
  match i with
  | 0 => simp at h1 h2; subst h1; subst h2; exact .val _
  | 1 => simp at h1 h2; subst h1; subst h2; exact .val _
  | 2 => simp at h1 h2; subst h1; subst h2; exact .val _
  | i + 3 => simp at h1
end Go.Proofs.YtnidbhfpkjggmaaGreatDoor
