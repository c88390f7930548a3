/-
  SpanNests: what its readings say, and that it answers true.
-/
import Derived.Test.YtpdklolfkigefaaGreatDoorNb
set_option linter.all false
namespace Go.Proofs.YtpdklolfkigefaaGreatDoor
open Go.Pv Go.RowKit

theorem meetd_eq (a b c d n : Int) (o e : Bool) (a' b' c' d' n' : Int) (o' e' : Bool) (k : Int → Int → Int → Int → Int → Bool → Bool → Option DV) : span_Meet a b c d n o e a' b' c' d' n' o' e' k = (S.meet (S.known ⟨a, b, c, d, n, o, e⟩) (S.known ⟨a', b', c', d', n', o', e'⟩)).ap k := by
  unfold span_Meet B_span_Meet span_nothing B_span_nothing
  rw [S.meet_bif]
  simp only [known_eq, make_eq, Sp.ap]
  have hs := S.known_ok ⟨a, b, c, d, n, o, e⟩
  have ht := S.known_ok ⟨a', b', c', d', n', o', e'⟩
  generalize S.known ⟨a, b, c, d, n, o, e⟩ = s at *
  generalize S.known ⟨a', b', c', d', n', o', e'⟩ = t at *
  have hl := valid_give (valid_max hs.lo ht.lo) hs.lo ht.lo
  have hh := valid_give (valid_min hs.hi ht.hi) hs.hi ht.hi
  have hi := isden_gcd hs.d0 hs.d1 ht.d0 ht.d1
  simp only [give_max hs.lo ht.lo, give_min hs.hi ht.hi, gcd_eq hs.d0 hs.d1 ht.d0 ht.d1]
  generalize S.give Q.max (s.ln, s.ld) (t.ln, t.ld) = p at *
  generalize S.give Q.min (s.hn, s.hd) (t.hn, t.hd) = q at *
  generalize ((s.den.natAbs.gcd t.den.natAbs : Nat) : Int) = g at *
  obtain ⟨p1, p2⟩ := p
  obtain ⟨q1, q2⟩ := q
  simp only [S.make, clean_valid hl, clean_valid hh, hi, if_true]
  generalize S.ooo p1 p2 q1 q2 = x at *
  cases s.no <;> cases t.no <;> cases s.em <;> cases t.em <;> (try rfl) <;> cases x <;> rfl
theorem widend_eq (a b c d n : Int) (o e : Bool) (a' b' c' d' n' : Int) (o' e' : Bool) (k : Int → Int → Int → Int → Int → Bool → Bool → Option DV) : span_Widen a b c d n o e a' b' c' d' n' o' e' k = (S.widen (S.known ⟨a, b, c, d, n, o, e⟩) (S.known ⟨a', b', c', d', n', o', e'⟩)).ap k := by
  unfold span_Widen B_span_Widen S.widen S.eqq
  simp only [known_eq, join_eq, Sp.ap]
  have hkk := known_known ⟨a, b, c, d, n, o, e⟩
  generalize S.known ⟨a, b, c, d, n, o, e⟩ = s at *
  generalize S.known ⟨a', b', c', d', n', o', e'⟩ = t at *
  rw [show (⟨s.ln, s.ld, s.hn, s.hd, s.den, s.no, s.em⟩ : Sp) = s from rfl, hkk]
  have he := @join_em s t
  generalize S.join s t = j at *
  simp only [bne]
  generalize ((j.ln == s.ln) && ((j.ld == s.ld) && true)) = x1
  generalize ((j.hn == s.hn) && ((j.hd == s.hd) && true)) = x2
  generalize (j.den == s.den) = x3
  cases h : s.em
  · rw [he h]
    cases x1 <;> cases x2 <;> cases x3 <;> rfl
  · rfl

/-- A span's cells. -/
def spc (s : Sp) : List DV := [.val (.int .i64 s.ln), .val (.int .i64 s.ld), .val (.int .i64 s.hn), .val (.int .i64 s.hd), .val (.int .i64 s.den), .val (.bool s.no), .val (.bool s.em)]
theorem ld_spc (s : Sp) (k : Int → Int → Int → Int → Int → Bool → Bool → Option DV) : ld_iiiiibb (spc s) 0 k = s.ap k := rfl
theorem nth_app (A B : List DV) (j : Nat) : nth (A ++ B) (A.length + j) = nth B j := by
  unfold nth
  rw [List.getD_eq_getElem?_getD, List.getD_eq_getElem?_getD, List.getElem?_append_right (by omega)]
  congr 2
  omega
theorem ld_app {A : List DV} {o : Nat} (h : A.length = o) (s : Sp) (k : Int → Int → Int → Int → Int → Bool → Bool → Option DV) : ld_iiiiibb (A ++ spc s) o k = s.ap k := by
  subst h
  unfold ld_iiiiibb
  rw [nth_app A (spc s) 1, show A.length + 1 + 1 = A.length + 2 from rfl, show A.length + 2 + 1 = A.length + 3 from rfl, show A.length + 3 + 1 = A.length + 4 from rfl, show A.length + 4 + 1 = A.length + 5 from rfl, show A.length + 5 + 1 = A.length + 6 from rfl,
    nth_app A (spc s) 2, nth_app A (spc s) 3, nth_app A (spc s) 4, nth_app A (spc s) 5, nth_app A (spc s) 6, show nth (A ++ spc s) A.length = nth (spc s) 0 from nth_app A (spc s) 0]
  rfl
theorem opt_map (l : List Sp) (i : Nat) (f : List DV → Option DV) : optE ((l.map spc)[i]?) f = match l[i]? with | some s => f (spc s) | none => none := by
  rw [List.getElem?_map]
  cases l[i]? <;> rfl
theorem cond_t (a b : Option DV) : (bif true then a else b) = a := rfl
theorem cond_f (a b : Option DV) : (bif false then a else b) = b := rfl

theorem ex_bif {P : Int → Prop} {c : Bool} {A B : (Int → Option DV) → Option DV} (h1 : ∃ n, P n ∧ ∀ k, A k = k n) (h2 : ∃ n, P n ∧ ∀ k, B k = k n) : ∃ n, P n ∧ ∀ k, (bif c then A k else B k) = k n := by
  cases c
  · exact h2
  · exact h1
/-- What Takes answers. -/
theorem takes_le (s : ByteArray) : ∃ n : Int, (0 ≤ n ∧ n ≤ 3) ∧ ∀ k, serinetteref03_Takes s k = k n := by
  unfold serinetteref03_Takes B_serinetteref03_Takes
  repeat' first
    | exact ⟨_, ⟨by decide, by decide⟩, fun _ => rfl⟩
    | refine ex_bif ?_ ?_
theorem sp_eta (s : Sp) : (⟨s.ln, s.ld, s.hn, s.hd, s.den, s.no, s.em⟩ : Sp) = s := rfl
theorem dec_t {p : Prop} [Decidable p] (h : p) (a b : Option DV) : (bif decide p then a else b) = a := by simp [h]
theorem dec_f {p : Prop} [Decidable p] (h : ¬ p) (a b : Option DV) : (bif decide p then a else b) = b := by simp [h]
theorem wrap_nat {i : Nat} (h : i < 4611686018427387904) : IntKind.wrap .i64 ((i : Int) + 1) = ((i + 1 : Nat) : Int) := by
  rw [IntWalk.i64_in _ (by omega)]; omega


theorem l9_h1 (ls ms : List Sp) (n : Nat) (q1 q2 : Int) (b : Bool) (κ) (hl : n ≤ ls.length) (hm : n ≤ ms.length) (hn : n ≤ 3) : ∀ (m i : Nat) (cs : List DV), i ≤ n → cs.length = i * 7 → n - i < m → LF (F_serinettelaw03_SpanNests_l9 span_Has span_Meet serinetteref03_Has span_Join span_Widen serinettelaw03_awake serinetteref03_Empty serinetteref03_Takes) m (.h1 b (ls.map spc) (ms.map spc) n i i q1 q2 cs) κ = κ.2 b (ls.map spc)
  | 0, i, cs, _, _, h => by omega
  | m + 1, i, cs, hi, hc, h => by
    show B_serinettelaw03_SpanNests_l9_h1 span_Has span_Meet serinetteref03_Has span_Join span_Widen serinettelaw03_awake serinetteref03_Empty serinetteref03_Takes b (ls.map spc) (ms.map spc) n i i q1 q2 cs (fun x' => LF (F_serinettelaw03_SpanNests_l9 span_Has span_Meet serinetteref03_Has span_Join span_Widen serinettelaw03_awake serinetteref03_Empty serinetteref03_Takes) m x' κ) κ.1 κ.2 = _
    unfold B_serinettelaw03_SpanNests_l9_h1
    by_cases hlt : i < n
    · obtain ⟨l, hl'⟩ : ∃ l, ls[i]? = some l := ⟨_, List.getElem?_eq_getElem (by omega)⟩
      obtain ⟨y, hm'⟩ : ∃ y, ms[i]? = some y := ⟨_, List.getElem?_eq_getElem (by omega)⟩
      have e1 : decide ((i : Int) < (n : Int)) = true := by simp; omega
      have e2 : decide (0 ≤ (i : Int)) = true := by simp
      have a1 : Nat.ble (i * 7) (List.length cs) = true := Nat.ble_eq_true_of_le (by omega)
      have a2 : Nat.ble (i + 1) maxLen = true := Nat.ble_eq_true_of_le (by unfold maxLen; omega)
      have a3 : Nat.ble ((i + 1) * 48) 140737488355328 = true := Nat.ble_eq_true_of_le (by omega)
      have e4 : decide ((i : Int) < ((i + 1 : Nat) : Int)) = true := by simp; omega
      have hld : ∀ (J : Sp) (k : Int → Int → Int → Int → Int → Bool → Bool → Option DV), ld_iiiiibb (List.take (i * 7) cs ++ [.val (.int .i64 J.ln), .val (.int .i64 J.ld), .val (.int .i64 J.hn), .val (.int .i64 J.hd), .val (.int .i64 J.den), .val (.bool J.no), .val (.bool J.em)]) (0 + i * 7) k = k J.ln J.ld J.hn J.hd J.den J.no J.em :=
        fun J k => ld_app (A := List.take (i * 7) cs) (by simp; omega) J k
      have step : ∀ J : Sp, LF (F_serinettelaw03_SpanNests_l9 span_Has span_Meet serinetteref03_Has span_Join span_Widen serinettelaw03_awake serinetteref03_Empty serinetteref03_Takes) m (.h1 b (ls.map spc) (ms.map spc) n (i + 1) (IntKind.wrap .i64 ((i : Int) + 1)) q1 q2 (List.take (i * 7) cs ++ [.val (.int .i64 J.ln), .val (.int .i64 J.ld), .val (.int .i64 J.hn), .val (.int .i64 J.hd), .val (.int .i64 J.den), .val (.bool J.no), .val (.bool J.em)])) κ = κ.2 b (ls.map spc) := by
        intro J
        rw [wrap_nat (by omega)]
        exact l9_h1 ls ms n q1 q2 b κ hl hm hn m (i + 1) _ (by omega) (by simp; omega) (by omega)
      have vl := S.known_valid l
      have vy := S.known_valid y
      have j1 : S.has (S.known l) q1 q2 = true → S.has (S.known (S.join (S.known l) (S.known y))) q1 q2 = true := fun g => by
        rw [S.of_valid (S.join_valid vl vy)]; exact S.join_has g
      have j2 : S.has (S.known l) q1 q2 = true → S.has (S.known y) q1 q2 = true → S.has (S.known (S.meet (S.known l) (S.known y))) q1 q2 = true := fun g g' => by
        rw [S.of_valid (S.meet_valid vl vy)]; exact S.meet_has g g'
      simp only [e1, e2, a1, a2, a3, e4, Bool.true_and, cond_t, Int.toNat_natCast, opt_map, hl', hm', ld_spc, Sp.ap, join_eq, rhas_eq, sp_eta, hld, has_eq, meetd_eq, step]
      cases ha : S.has (S.known l) q1 q2
      · simp only [cond_f]
      · rw [j1 ha]
        cases hb : S.has (S.known y) q1 q2
        · simp only [cond_t, cond_f, Bool.not_true, Bool.not_false]
        · rw [j2 ha hb]; simp only [cond_t, cond_f, Bool.not_true, Bool.not_false]
    · have e1 : decide ((i : Int) < (n : Int)) = false := by simp; omega
      simp only [e1, cond_f]
theorem l9_h0 (ls ms : List Sp) (n : Nat) (q1 q2 : Int) (b : Bool) (κ) (hl : n ≤ ls.length) (hm : n ≤ ms.length) (hn : n ≤ 3) (hp : 0 < n) (m : Nat) (h : n < m) : LF (F_serinettelaw03_SpanNests_l9 span_Has span_Meet serinetteref03_Has span_Join span_Widen serinettelaw03_awake serinetteref03_Empty serinetteref03_Takes) m (.h0 b (ls.map spc) (ms.map spc) n 0 q1 q2) κ = κ.2 b (ls.map spc) := by
  cases m with
  | zero => omega
  | succ m =>
    show B_serinettelaw03_SpanNests_l9_h0 span_Has span_Meet serinetteref03_Has span_Join span_Widen serinettelaw03_awake serinetteref03_Empty serinetteref03_Takes b (ls.map spc) (ms.map spc) n 0 q1 q2 (fun x' => LF (F_serinettelaw03_SpanNests_l9 span_Has span_Meet serinetteref03_Has span_Join span_Widen serinettelaw03_awake serinetteref03_Empty serinetteref03_Takes) m x' κ) κ.1 κ.2 = _
    unfold B_serinettelaw03_SpanNests_l9_h0
    obtain ⟨l, hl'⟩ : ∃ l, ls[0]? = some l := ⟨_, List.getElem?_eq_getElem (by omega)⟩
    obtain ⟨y, hm'⟩ : ∃ y, ms[0]? = some y := ⟨_, List.getElem?_eq_getElem (by omega)⟩
    have e1 : decide ((0 : Int) < (n : Int)) = true := by simp; omega
    have e2 : decide ((0 : Int) ≤ 0) = true := by simp
    have e4 : decide ((0 : Int) < 1) = true := by simp
    have hld : ∀ (J : Sp) (k : Int → Int → Int → Int → Int → Bool → Bool → Option DV), ld_iiiiibb ([.val (.int .i64 J.ln), .val (.int .i64 J.ld), .val (.int .i64 J.hn), .val (.int .i64 J.hd), .val (.int .i64 J.den), .val (.bool J.no), .val (.bool J.em)]) (0 + Int.toNat 0 * 7) k = k J.ln J.ld J.hn J.hd J.den J.no J.em :=
      fun J k => rfl
    have step : ∀ J : Sp, LF (F_serinettelaw03_SpanNests_l9 span_Has span_Meet serinetteref03_Has span_Join span_Widen serinettelaw03_awake serinetteref03_Empty serinetteref03_Takes) m (.h1 b (ls.map spc) (ms.map spc) n 1 (IntKind.wrap .i64 ((0 : Int) + 1)) q1 q2 [.val (.int .i64 J.ln), .val (.int .i64 J.ld), .val (.int .i64 J.hn), .val (.int .i64 J.hd), .val (.int .i64 J.den), .val (.bool J.no), .val (.bool J.em)]) κ = κ.2 b (ls.map spc) := by
      intro J
      rw [show IntKind.wrap .i64 ((0 : Int) + 1) = ((1 : Nat) : Int) from IntWalk.i64_in _ (by omega)]
      exact l9_h1 ls ms n q1 q2 b κ hl hm hn m 1 _ (by omega) rfl (by omega)
    have vl := S.known_valid l
    have vy := S.known_valid y
    have j1 : S.has (S.known l) q1 q2 = true → S.has (S.known (S.join (S.known l) (S.known y))) q1 q2 = true := fun g => by
      rw [S.of_valid (S.join_valid vl vy)]; exact S.join_has g
    have j2 : S.has (S.known l) q1 q2 = true → S.has (S.known y) q1 q2 = true → S.has (S.known (S.meet (S.known l) (S.known y))) q1 q2 = true := fun g g' => by
      rw [S.of_valid (S.meet_valid vl vy)]; exact S.meet_has g g'
    have t0 : Int.toNat 0 = 0 := rfl
    simp only [e1, e2, e4, Bool.true_and, cond_t, opt_map, t0, hl', hm', ld_spc, Sp.ap, join_eq, rhas_eq, sp_eta, has_eq, meetd_eq, step]
    simp only [t0] at hld
    simp only [hld, has_eq, sp_eta]
    cases ha : S.has (S.known l) q1 q2
    · simp only [cond_f]
    · rw [j1 ha]
      cases hb : S.has (S.known y) q1 q2
      · simp only [cond_t, cond_f, Bool.not_true, Bool.not_false]
      · rw [j2 ha hb]; simp only [cond_t, cond_f, Bool.not_true, Bool.not_false]
theorem l17_all (ls : List Sp) (b : Bool) (κ) (hb : ls.length < 4611686018427387904) : ∀ (m i c : Nat) (s : Sp), i ≤ ls.length → c ≤ i → ls.length - i < m → LF (F_serinettelaw03_SpanNests_l17 span_Has span_Meet serinetteref03_Has span_Join span_Widen serinettelaw03_awake serinetteref03_Empty serinetteref03_Takes) m (.h0 b c (ls.map spc) ls.length i s.ln s.ld s.hn s.hd s.den s.no s.em) κ = κ b ((S.chain s c (ls.drop i)).2 : Nat)
  | 0, i, c, s, _, _, h => by omega
  | m + 1, i, c, s, hi, hc, h => by
    show B_serinettelaw03_SpanNests_l17_h0 span_Has span_Meet serinetteref03_Has span_Join span_Widen serinettelaw03_awake serinetteref03_Empty serinetteref03_Takes b c (ls.map spc) ls.length i s.ln s.ld s.hn s.hd s.den s.no s.em (fun x' => LF (F_serinettelaw03_SpanNests_l17 span_Has span_Meet serinetteref03_Has span_Join span_Widen serinettelaw03_awake serinetteref03_Empty serinetteref03_Takes) m x' κ) κ = _
    unfold B_serinettelaw03_SpanNests_l17_h0
    by_cases hlt : i < ls.length
    · have hx : ls[i]? = some ls[i] := List.getElem?_eq_getElem hlt
      have hd : ls.drop i = ls[i] :: ls.drop (i + 1) := List.drop_eq_getElem_cons hlt
      generalize ls[i] = x at hx hd
      have e1 : decide ((i : Int) < (ls.length : Int)) = true := by simp; omega
      have e2 : decide (0 ≤ (i : Int)) = true := by simp
      rw [hd]
      have ih := fun (c' : Nat) (hc' : c' ≤ i + 1) => l17_all ls b κ hb m (i + 1) c' (S.widen (S.known s) (S.known x)) (by omega) hc' (by omega)
      simp only [S.chain, S.round]
      simp only [e1, e2, cond_t, Int.toNat_natCast, opt_map, hx, ld_spc, Sp.ap, widend_eq, sp_eta, wrap_nat (show i < 4611686018427387904 by omega), wrap_nat (show c < 4611686018427387904 by omega)]
      cases he : s.em
      · simp only [cond_f]
        have hs : (((((S.widen (S.known s) (S.known x)).ln == s.ln) && (((S.widen (S.known s) (S.known x)).ld == s.ld) && true)) && ((((S.widen (S.known s) (S.known x)).hn == s.hn) && (((S.widen (S.known s) (S.known x)).hd == s.hd) && true)) && (((S.widen (S.known s) (S.known x)).den == s.den) && (((S.widen (S.known s) (S.known x)).no == s.no) && (((S.widen (S.known s) (S.known x)).em == false) && true)))))) = S.same (S.widen (S.known s) (S.known x)) s := by rw [← he]; rfl
        rw [hs]
        cases S.same (S.widen (S.known s) (S.known x)) s
        · simp only [Bool.not_false, cond_t, cond_f]; exact ih (c + 1) (by omega)
        · simp only [Bool.not_true, cond_t, cond_f]; exact ih c (by omega)
      · simp only [cond_t]; exact ih c (by omega)
    · have e1 : decide ((i : Int) < (ls.length : Int)) = false := by simp; omega
      have hd : ls.drop i = [] := List.drop_eq_nil_of_le (by omega)
      rw [hd]
      simp only [e1, cond_f, S.chain]
/-- The law answers true. -/
theorem spannests_true (op : ByteArray) (ls ms : List Sp) (q1 q2 : Int) (hb : ls.length < 4611686018427387904) (k : Bool → Option DV) : serinettelaw03_SpanNests op (ls.map spc) (ms.map spc) q1 q2 k = k true := by
  unfold serinettelaw03_SpanNests B_serinettelaw03_SpanNests
  obtain ⟨n, ⟨h0, h3⟩, ht⟩ := takes_le op
  obtain ⟨n', rfl⟩ : ∃ n' : Nat, n = n' := ⟨n.toNat, by omega⟩
  rw [ht]
  have fin : ∀ b : Bool, (serinetteref03_Empty false fun r1 r2 r3 r4 r5 r6 r7 => LF (F_serinettelaw03_SpanNests_l17 span_Has span_Meet serinetteref03_Has span_Join span_Widen serinettelaw03_awake serinetteref03_Empty serinetteref03_Takes) (φ_serinettelaw03_SpanNests_l17 (.h0 b 0 (ls.map spc) ((ls.map spc).length : Nat) 0 r1 r2 r3 r4 r5 r6 r7)) (.h0 b 0 (ls.map spc) ((ls.map spc).length : Nat) 0 r1 r2 r3 r4 r5 r6 r7) (fun _ z => bif decide (z ≤ 4) then (serinettelaw03_awake fun r => k r) else k false)) = k true := by
    intro b
    show LF (F_serinettelaw03_SpanNests_l17 span_Has span_Meet serinetteref03_Has span_Join span_Widen serinettelaw03_awake serinetteref03_Empty serinetteref03_Takes) (Int.toNat (((ls.map spc).length : Nat) - 0) + 1) (.h0 b 0 (ls.map spc) ((ls.map spc).length : Nat) 0 0 0 0 0 0 false true) _ = _
    rw [List.length_map]
    have := l17_all ls b (fun _ z => bif decide (z ≤ 4) then (serinettelaw03_awake fun r => k r) else k false) hb (Int.toNat ((ls.length : Nat) - 0) + 1) 0 0 ⟨0, 0, 0, 0, 0, false, true⟩ (by omega) (by omega) (by omega)
    refine this.trans ?_
    have := S.chain_few S.few_start ls
    simp only [List.drop_zero]
    rw [dec_t (by omega), awake_true]
  have g : ∀ m : Nat, ((ls.map spc).length = ls.length ∧ (ms.map spc).length = ms.length) := fun _ => ⟨by simp, by simp⟩
  by_cases p1 : (n' : Int) > 0
  · rw [dec_t p1]
    by_cases p2 : (((ls.map spc).length : Nat) : Int) ≥ n'
    · rw [dec_t p2]
      by_cases p3 : (((ms.map spc).length : Nat) : Int) ≥ n'
      · rw [dec_t p3]
        rw [List.length_map] at p2 p3
        rw [l9_h0 ls ms n' q1 q2 false _ (by omega) (by omega) (by omega) (by omega) _ (by show n' < Int.toNat (n' - 0) + 1; omega)]
        exact fin false
      · rw [dec_f p3]; exact fin false
    · rw [dec_f p2]; exact fin false
  · rw [dec_f p1]; exact fin false
end Go.Proofs.YtpdklolfkigefaaGreatDoor
