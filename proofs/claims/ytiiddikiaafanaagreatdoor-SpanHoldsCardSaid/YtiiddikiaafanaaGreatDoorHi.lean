import Derived.Test.YtiiddikiaafanaaGreatDoorHe
import Derived.Test.YtiiddikiaafanaaGreatDoorQf
set_option linter.all false
/-
  What comes of numbers of the spans is in the told one: quotients.
-/
namespace Go.Proofs.YtiiddikiaafanaaGreatDoor
open Go.Pv Go.RowKit

theorem mk_isnum {n d : Int} (hn : -1073741824 ≤ n ∧ n ≤ 1073741824) (hd : -1073741824 ≤ d ∧ d ≤ 1073741824) (h0 : d ≠ 0) : Q.isq (Q.mk n d).1 (Q.mk n d).2 = true := by
  rcases Q.mk_isq n d with h | h
  · exfalso
    unfold Q.mk Q.low at h
    have hg := Q.gcd_pos' n d h0
    have h1 := Nat.div_le_self n.natAbs (n.natAbs.gcd d.natAbs)
    have h2 := Nat.div_le_self d.natAbs (n.natAbs.gcd d.natAbs)
    have h3 : 0 < d.natAbs / n.natAbs.gcd d.natAbs := Nat.div_pos (Nat.le_of_dvd (by omega) (Nat.gcd_dvd_right _ _)) hg
    rw [if_neg (by omega), if_neg (by omega)] at h
    have := congrArg Prod.snd h
    simp only at this
    omega
  · exact h
theorem point_has {p q : Int} (h : Q.isq p q = true) : S.has (S.point p q) p q = true := by
  have e : S.point p q = ⟨p, q, p, q, q, false, false⟩ := by unfold S.point; rw [if_pos h]
  rw [e, S.has_iff h]
  exact ⟨rfl, fun _ => Int.le_refl _, fun _ => Int.le_refl _, Int.dvd_refl _⟩
theorem point_is {p q : Int} (h : Q.isq p q = true) : S.Ok (S.point p q) := (point_ok (p, q)).1
theorem div_holds {s t : Sp} {a b c d : Int} (hs : S.Ok s) (h : S.has s a b = true) (h' : S.has t c d = true) : S.has (S.orn (S.quot s t) (s.no || t.no)) (Q.div (a, b) (c, d)).1 (Q.div (a, b) (c, d)).2 = true := by
  unfold S.quot
  cases hc : S.ispt t && !(t.ln == 0)
  · rw [if_neg (by decide)]; exact all_holds _ _ _
  · rw [if_pos rfl]
    simp only [Bool.and_eq_true, Bool.not_eq_true', beq_eq_false_iff_ne] at hc
    obtain ⟨c1, c2⟩ := hc
    obtain ⟨i1, i2, i3, i4⟩ := pt_of c1
    have ib := isq_bd i1
    have e : Q.div (1, 1) (t.ln, t.ld) = Q.mk t.ld t.ln := by
      unfold Q.div
      rw [if_pos ((Q.both_iff _ _).2 ⟨isq11, i1⟩)]
      show Q.mk (1 * t.ld) (1 * t.ln) = Q.mk t.ld t.ln
      rw [Int.one_mul, Int.one_mul]
    have hm := mk_isnum (n := t.ld) (d := t.ln) (by omega) (by omega) c2
    have hx := Q.mk_cross c2 hm
    rw [e]
    have key : ∀ w : Int × Int, Q.div (a, b) (c, d) = w → (Q.both (a, b) (c, d) = true → w = Q.mul (a, b) (Q.mk t.ld t.ln)) → (Q.both (a, b) (c, d) = false → w = (0, 0)) → S.has (S.orn (S.prod s (S.point (Q.mk t.ld t.ln).1 (Q.mk t.ld t.ln).2)) (s.no || t.no)) w.1 w.2 = true := by
      intro w _ k1 k2
      cases hb : Q.both (a, b) (c, d)
      · rw [k2 hb, S.orn_none isq00, no_both h h' hb, Bool.or_true]
      · rw [k1 hb]
        obtain ⟨q1, q2⟩ := (Q.both_iff _ _).1 hb
        exact mul_holds hs (point_is hm) h (point_has hm) _ (fun hn => by rw [(Q.both_iff _ _).2 ⟨q1, hm⟩] at hn; cases hn)
    refine key _ rfl (fun hb => ?_) (fun hb => ?_)
    · obtain ⟨q1, q2⟩ := (Q.both_iff _ _).1 hb
      obtain ⟨j1, j2⟩ := pt_at q2 h' c1
      obtain ⟨e1, e2⟩ := cross q2 i1 j1
      have e1' : c = t.ln := e1
      have e2' : d = t.ld := e2
      unfold Q.div Q.mul
      rw [if_pos hb, if_pos ((Q.both_iff _ _).2 ⟨q1, hm⟩)]
      have p1 := isq_den q1
      have pm := isq_den hm
      show Q.mk (a * d) (b * c) = Q.mk (a * (Q.mk t.ld t.ln).1) (b * (Q.mk t.ld t.ln).2)
      generalize Q.mk t.ld t.ln = m at *
      have pb : b ≠ 0 := by have : 0 < b := p1; omega
      rw [Q.mk_rat (Int.mul_ne_zero pb (by rw [e1']; exact c2)), Q.mk_rat (Int.mul_ne_zero pb (by omega))]
      congr 1
      rw [Rat.divInt_eq_divInt_iff (Int.mul_ne_zero pb (by rw [e1']; exact c2)) (Int.mul_ne_zero pb (by omega))]
      rw [mmmc a d b m.2, mmmc a m.1 b c, e1', e2', ← hx, Int.mul_comm m.1]
    · unfold Q.div; rw [if_neg (by simp [hb])]
end Go.Proofs.YtiiddikiaafanaaGreatDoor

/-
  What comes of numbers of the spans is in the told one: pick; what is known of a told span has what it has.
-/
namespace Go.Proofs.YtiiddikiaafanaaGreatDoor
open Go.Pv Go.RowKit

theorem orn_false (s : Sp) : S.orn s false = s := by unfold S.orn; rw [Bool.or_false]
/-- Whether a told span is valid does not matter: what is not counts as all. -/
theorem known_has {s : Sp} {a b : Int} (h : S.has s a b = true) : S.has (S.known s) a b = true := by
  unfold S.known
  split
  · exact h
  · have := all_holds a b false
    rwa [orn_false] at this
theorem join_has_right {s t : Sp} {a b : Int} (h : S.has t a b = true) : S.has (S.join s t) a b = true := by
  cases hq : Q.isq a b
  · rw [S.has_none hq] at h ⊢
    unfold S.join
    split
    · simp [h]
    · split <;> simp [h]
  · rw [S.has_iff hq] at h ⊢
    obtain ⟨h1, h2, h3, h4⟩ := h
    unfold S.join
    split
    · exact ⟨h1, h2, h3, h4⟩
    · rw [if_neg (by simp [h1])]
      refine ⟨rfl, fun g => ?_, fun g => ?_, S.common_dvd' h4⟩
      · obtain ⟨a1, a2, -, a3, -⟩ := S.min_num g
        exact le_trans3 (isq_den g) (isq_den a2) (isq_den hq) a3 (h2 a2)
      · obtain ⟨a1, a2, -, a3, -⟩ := S.max_num g
        exact le_trans3 (isq_den hq) (isq_den a2) (isq_den g) (h3 a2) a3
namespace S
def pick (s a b : Sp) : Sp := if s.em = true then s else orn (if has s 0 1 = false then b else if iszero s = true then a else join a b) s.no
theorem orn_has {s : Sp} {a b : Int} (o : Bool) (h : has s a b = true) : has (orn s o) a b = true := by
  cases hq : Q.isq a b
  · rw [orn_none hq]; rw [has_none hq] at h; rw [h]; rfl
  · rw [orn_num hq]; exact h
end S
theorem pick_holds {s A B : Sp} {x y p q u v : Int} (h : S.has s x y = true) (hA : S.has A p q = true) (hB : S.has B u v = true) :
    S.has (S.pick s A B) (if Q.isq x y = true then (if x = 0 then p else u) else 0) (if Q.isq x y = true then (if x = 0 then q else v) else 0) = true := by
  unfold S.pick
  cases hq : Q.isq x y
  · rw [S.has_none hq] at h
    simp only [Bool.false_eq_true, if_false]
    cases s.em
    · simp only [Bool.false_eq_true, if_false]
      rw [S.orn_none isq00, h, Bool.or_true]
    · simp only [if_true]
      rw [S.has_none isq00]; exact h
  · have he := ((S.has_iff hq).1 h).1
    simp only [he, if_true, Bool.false_eq_true, if_false]
    apply S.orn_has
    by_cases hx : x = 0
    · rw [if_pos hx, if_pos hx]
      have hy := zero_num hq hx
      subst hx; subst hy
      rw [if_neg (by simp [h])]
      split
      · exact hA
      · exact S.join_has hA
    · rw [if_neg hx, if_neg hx]
      split
      · exact hB
      · split
        · rename_i hz
          exact absurd (zero_at hq h hz) hx
        · exact join_has_right hB
end Go.Proofs.YtiiddikiaafanaaGreatDoor

/-
  What comes of numbers of the spans is in the told one: binary digits.
-/
namespace Go.Proofs.YtiiddikiaafanaaGreatDoor
open Go.Pv Go.RowKit

namespace Q
theorem pw2 (k : Nat) : (0 : Int) < 2 ^ k := Int.pow_pos (by decide)
theorem digits_of (f : Int → Int → Int) (a b x : Int) (hf : ∀ i, f (dig a i) (dig b i) = dig x i) : ∀ k : Nat, x = lsum f a b k + 2 ^ k * (x / 2 ^ k)
  | 0 => by simp [lsum]
  | k + 1 => by
    have ih := digits_of f a b x hf k
    have e := half_succ x k
    have d : x / 2 ^ k = 2 * (x / 2 ^ (k + 1)) + dig x k := by rw [← e]; unfold dig; omega
    rw [lsum, hf]
    have p : (2 : Int) ^ (k + 1) * (x / 2 ^ (k + 1)) = 2 ^ k * (2 * (x / 2 ^ (k + 1))) := by rw [Int.pow_succ, Int.mul_assoc]
    have q : (2 : Int) ^ k * (x / 2 ^ k) = 2 ^ k * (2 * (x / 2 ^ (k + 1))) + dig x k * 2 ^ k := by
      rw [d, Int.mul_add, Int.mul_comm (2 ^ k) (dig x k)]
    omega
theorem lsum_le (f g : Int → Int → Int) (h : ∀ x y : Int, (x = 0 ∨ x = 1) → (y = 0 ∨ y = 1) → f x y ≤ g x y) (a b : Int) : ∀ k : Nat, lsum f a b k ≤ lsum g a b k
  | 0 => Int.le_refl _
  | k + 1 => by
    have ih := lsum_le f g h a b k
    have h1 := h _ _ (dig_01 a k) (dig_01 b k)
    have h2 := Int.mul_le_mul_of_nonneg_right h1 (Int.le_of_lt (pw2 k))
    rw [lsum, lsum]
    omega
theorem dig_high {a : Int} {j : Nat} (h0 : 0 ≤ a) (h1 : a < 2 ^ j) (k : Nat) (hk : j ≤ k) : dig a k = 0 := by
  unfold dig
  have : (2 : Int) ^ j ≤ 2 ^ k := by
    rw [show k = j + (k - j) by omega, Int.pow_add]
    have h1 : (1 : Int) ≤ 2 ^ (k - j) := Int.add_one_le_of_lt (Int.pow_pos (by decide))
    have := Int.mul_le_mul_of_nonneg_left h1 (Int.le_of_lt (pw2 j))
    omega
  rw [Int.ediv_eq_zero_of_lt h0 (by omega)]; rfl
theorem lsum_high (f : Int → Int → Int) (f0 : f 0 0 = 0) {a b : Int} {j : Nat} (ha : 0 ≤ a) (ha1 : a < 2 ^ j) (hb : 0 ≤ b) (hb1 : b < 2 ^ j) : ∀ k : Nat, j ≤ k → lsum f a b k = lsum f a b j
  | 0, h => by rw [show j = 0 by omega]
  | k + 1, h => by
    by_cases e : j = k + 1
    · rw [e]
    · rw [lsum, lsum_high f f0 ha ha1 hb hb1 k (by omega), dig_high ha ha1 k (by omega), dig_high hb hb1 k (by omega), f0]; omega
theorem p32 : (2 : Int) ^ 32 = 4294967296 := by decide
theorem logic_lsum (f : Int → Int → Int) (f0 : f 0 0 = 0) {a b : Int} (ha : 0 ≤ a ∧ a ≤ 1073741824) (hb : 0 ≤ b ∧ b ≤ 1073741824) : logic f a b = lsum f a b 32 := by
  unfold logic
  have := p32
  rw [dig_high ha.1 (by omega : a < 2 ^ 32) 32 (Nat.le_refl _), dig_high hb.1 (by omega : b < 2 ^ 32) 32 (Nat.le_refl _), f0]; omega
theorem land_le {a b : Int} (ha : 0 ≤ a ∧ a ≤ 1073741824) (hb : 0 ≤ b ∧ b ≤ 1073741824) : 0 ≤ logic land a b ∧ logic land a b ≤ a ∧ logic land a b ≤ b := by
  have hp := p32
  rw [logic_lsum land (by decide) ha hb]
  have d1 := digits_of (fun x _ => x) a b a (fun _ => rfl) 32
  have d2 := digits_of (fun _ y => y) a b b (fun _ => rfl) 32
  rw [Int.ediv_eq_zero_of_lt ha.1 (by omega), Int.mul_zero] at d1
  rw [Int.ediv_eq_zero_of_lt hb.1 (by omega), Int.mul_zero] at d2
  have l1 := lsum_le land (fun x _ => x) (by rintro x y (rfl | rfl) (rfl | rfl) <;> decide) a b 32
  have l2 := lsum_le land (fun _ y => y) (by rintro x y (rfl | rfl) (rfl | rfl) <;> decide) a b 32
  have b0 := (lsum_bd land land_01 a b 32).1
  omega
theorem join_lt (f : Int → Int → Int) (f0 : f 0 0 = 0) (hf : ∀ x y : Int, (x = 0 ∨ x = 1) → (y = 0 ∨ y = 1) → (f x y = 0 ∨ f x y = 1)) {a b : Int} (ha : 0 ≤ a ∧ a ≤ 1073741824) (hb : 0 ≤ b ∧ b ≤ 1073741824) (j : Nat) (h1 : a < 2 ^ j) (h2 : b < 2 ^ j) : 0 ≤ logic f a b ∧ logic f a b < 2 ^ j := by
  rw [logic_lsum f f0 ha hb]
  have b0 := lsum_bd f hf a b 32
  by_cases hj : j ≤ 32
  · have b1 := lsum_bd f hf a b j
    rw [lsum_high f f0 ha.1 h1 hb.1 h2 32 hj]
    exact b1
  · refine ⟨b0.1, ?_⟩
    have : (2 : Int) ^ 32 ≤ 2 ^ j := by
      rw [show j = 32 + (j - 32) by omega, Int.pow_add]
      have h1 : (1 : Int) ≤ 2 ^ (j - 32) := Int.add_one_le_of_lt (Int.pow_pos (by decide))
      have := Int.mul_le_mul_of_nonneg_left h1 (show (0 : Int) ≤ 2 ^ 32 by decide)
      omega
    omega
end Q
end Go.Proofs.YtiiddikiaafanaaGreatDoor

/-
  What comes of numbers of the spans is in the told one: and, or, xor.
-/
namespace Go.Proofs.YtiiddikiaafanaaGreatDoor
open Go.Pv Go.RowKit

theorem onL_pow : ∀ (l : List Int) (N D : Int), (∀ n ∈ l, ∃ j : Nat, n = 2 ^ j - 1) → (∃ n ∈ l, N ≤ n * D) → ∃ j : Nat, onL l N D = 2 ^ j - 1 ∧ N ≤ onL l N D * D
  | [], N, D, _, h => by obtain ⟨n, hn, _⟩ := h; cases hn
  | m :: l, N, D, hp, h => by
    unfold onL
    by_cases hm : m * D < N
    · rw [if_pos hm]
      refine onL_pow l N D (fun n hn => hp n (List.mem_cons_of_mem _ hn)) ?_
      obtain ⟨n, hn, hN⟩ := h
      rcases List.mem_cons.1 hn with e | e
      · subst e; omega
      · exact ⟨n, e, hN⟩
    · rw [if_neg hm]
      obtain ⟨j, hj⟩ := hp m (by simp)
      exact ⟨j, hj, by omega⟩
theorem onesL_pow : ∀ n ∈ onesL, ∃ j : Nat, n = 2 ^ j - 1 := by
  have h : ∀ n ∈ onesL, ∃ j : Fin 34, n = 2 ^ j.1 - 1 := by decide +kernel
  exact fun n hn => by obtain ⟨j, hj⟩ := h n hn; exact ⟨j.1, hj⟩
theorem ones_pow {N D : Int} (hD : 0 < D) (hN : N ≤ 1073741824 * D) : ∃ j : Nat, onL onesL N D = 2 ^ j - 1 ∧ N ≤ onL onesL N D * D :=
  onL_pow onesL N D onesL_pow ⟨2147483647, by unfold onesL; simp, by omega⟩
/-- What a number of a span of counts is. -/
theorem count_at {s : Sp} {a b : Int} (hq : Q.isq a b = true) (h : S.has s a b = true) (hc : S.count s = true) : b = 1 ∧ (0 ≤ a ∧ a ≤ 1073741824) ∧ Q.isq s.hn s.hd = true ∧ a * s.hd ≤ s.hn * 1 := by
  obtain ⟨h1, h2, h3, h4⟩ := (S.has_iff hq).1 h
  unfold S.count at hc
  simp only [Bool.and_eq_true, decide_eq_true_eq, beq_iff_eq] at hc
  obtain ⟨c1, ⟨c2, c3⟩, c4⟩ := hc
  have hb := isq_den hq
  rw [c1] at h4
  have b1 : b = 1 := by have := Int.le_of_dvd (by decide) h4; omega
  subst b1
  have l := h2 c2
  have dl := isq_den c2
  have bd := isq_bd hq
  have a0 : 0 ≤ a := by
    apply Classical.byContradiction; intro hn
    have := Int.mul_neg_of_neg_of_pos (show a < 0 by omega) dl
    omega
  exact ⟨rfl, ⟨a0, bd.2.1⟩, c4, h3 c4⟩
theorem bts_num {l : List UInt8} {a c : Int} (h1 : Q.isq a 1 = true) (h2 : Q.isq c 1 = true) : Q.bts l (a, 1) (c, 1) =
    (if (l == [97, 110, 100]) = true then Q.mk (Q.logic Q.land a c) 1 else if (l == [111, 114]) = true then Q.mk (Q.logic Q.lor a c) 1 else if (l == [120, 111, 114]) = true then Q.mk (Q.logic Q.lxor a c) 1 else if (l == [115, 104, 108]) = true then Q.sh false a c else if (l == [115, 104, 114]) = true then Q.sh true a c else (0, 0)) := by
  unfold Q.bts
  rw [if_pos (by rw [(Q.both_iff _ _).2 ⟨h1, h2⟩]; rfl)]
theorem bts_none {l : List UInt8} {p q : Int × Int} (h : Q.both p q = false) : Q.bts l p q = (0, 0) := by
  unfold Q.bts
  rw [if_neg (by simp [h])]
theorem whole_in {N Z W : Int} (o : Bool) (h0 : 0 ≤ N) (hW : 0 ≤ W) (hi : 0 < W → N * W ≤ Z) : S.has (S.orn (S.close (S.lowE 0 1) (S.upE Z W) 1) o) (Q.mk N 1).1 (Q.mk N 1).2 = true :=
  close_holds (by decide) (by decide) hW (fun _ => by omega) (fun x => by have := hi x; omega) (by decide) (by decide) (Int.one_dvd _) o
theorem and_holds {s t : Sp} {a b c d : Int} (h : S.has s a b = true) (h' : S.has t c d = true) : S.has (S.orn (S.digs true s t) (s.no || t.no)) (Q.bts [97, 110, 100] (a, b) (c, d)).1 (Q.bts [97, 110, 100] (a, b) (c, d)).2 = true := by
  unfold S.digs
  cases hc : S.count s && S.count t
  · rw [if_neg (by decide)]; exact all_holds _ _ _
  · rw [if_pos rfl, if_pos rfl]
    rw [Bool.and_eq_true] at hc
    cases hb : Q.both (a, b) (c, d)
    · rw [bts_none hb, S.orn_none isq00, no_both h h' hb, Bool.or_true]
    · obtain ⟨q1, q2⟩ := (Q.both_iff _ _).1 hb
      obtain ⟨e1, a1, a2, a3⟩ := count_at q1 h hc.1
      obtain ⟨e2, c1, c2, c3⟩ := count_at q2 h' hc.2
      have e1' : b = 1 := e1
      have e2' : d = 1 := e2
      subst e1'; subst e2'
      have ev : Q.bts [97, 110, 100] (a, 1) (c, 1) = Q.mk (Q.logic Q.land a c) 1 := by rw [bts_num q1 q2]; rfl
      rw [ev]
      obtain ⟨l0, l1, l2⟩ := Q.land_le a1 c1
      have dh := isq_den a2
      have dh' := isq_den c2
      rcases min_pick a2 c2 with ⟨e, _⟩ | ⟨e, _⟩
      · rw [e]
        refine whole_in _ l0 (Int.le_of_lt dh) (fun _ => ?_)
        have := Int.mul_le_mul_of_nonneg_right l1 (Int.le_of_lt dh)
        show _ * s.hd ≤ s.hn
        simp only at this a3
        omega
      · rw [e]
        refine whole_in _ l0 (Int.le_of_lt dh') (fun _ => ?_)
        have := Int.mul_le_mul_of_nonneg_right l2 (Int.le_of_lt dh')
        show _ * t.hd ≤ t.hn
        simp only at this c3
        omega
theorem joined_holds (f : Int → Int → Int) (f0 : f 0 0 = 0) (hf : ∀ x y : Int, (x = 0 ∨ x = 1) → (y = 0 ∨ y = 1) → (f x y = 0 ∨ f x y = 1)) (l : List UInt8) (hl : ∀ a c : Int, Q.isq a 1 = true → Q.isq c 1 = true → Q.bts l (a, 1) (c, 1) = Q.mk (Q.logic f a c) 1)
    {s t : Sp} {a b c d : Int} (h : S.has s a b = true) (h' : S.has t c d = true) : S.has (S.orn (S.digs false s t) (s.no || t.no)) (Q.bts l (a, b) (c, d)).1 (Q.bts l (a, b) (c, d)).2 = true := by
  unfold S.digs
  cases hc : S.count s && S.count t
  · rw [if_neg (by decide)]; exact all_holds _ _ _
  · rw [if_pos rfl, if_neg (by decide)]
    rw [Bool.and_eq_true] at hc
    cases hb : Q.both (a, b) (c, d)
    · rw [bts_none hb, S.orn_none isq00, no_both h h' hb, Bool.or_true]
    · obtain ⟨q1, q2⟩ := (Q.both_iff _ _).1 hb
      obtain ⟨e1, a1, a2, a3⟩ := count_at q1 h hc.1
      obtain ⟨e2, c1, c2, c3⟩ := count_at q2 h' hc.2
      have e1' : b = 1 := e1
      have e2' : d = 1 := e2
      subst e1'; subst e2'
      rw [hl a c q1 q2]
      have dh := isq_den a2
      have dh' := isq_den c2
      have hm : Q.isq (Q.max (s.hn, s.hd) (t.hn, t.hd)).1 (Q.max (s.hn, s.hd) (t.hn, t.hd)).2 = true := by
        rcases max_pick a2 c2 with ⟨e, _⟩ | ⟨e, _⟩ <;> rw [e]
        · exact a2
        · exact c2
      obtain ⟨-, -, m1, m2, -⟩ := S.max_num hm
      have dm := isq_den hm
      have bm := isq_bd hm
      have am := le_trans3 (by decide) dh dm a3 m1
      have cm := le_trans3 (by decide) dh' dm c3 m2
      generalize (Q.max (s.hn, s.hd) (t.hn, t.hd)).1 = M at *
      generalize (Q.max (s.hn, s.hd) (t.hn, t.hd)).2 = E at *
      obtain ⟨j, j1, j2⟩ := ones_pow (N := M) dm (by omega)
      have hle : ∀ x : Int, x * E ≤ M * 1 → x < 2 ^ j := fun x hx => by
        have : x ≤ onL onesL M E := Int.le_of_mul_le_mul_right (by omega) dm
        omega
      obtain ⟨n0, n1⟩ : 0 ≤ Q.logic f a c ∧ Q.logic f a c < 2 ^ j := Q.join_lt f f0 hf a1 c1 j (hle a am) (hle c cm)
      refine whole_in _ n0 (by decide) (fun _ => ?_)
      omega
theorem or_holds {s t : Sp} {a b c d : Int} (h : S.has s a b = true) (h' : S.has t c d = true) : S.has (S.orn (S.digs false s t) (s.no || t.no)) (Q.bts [111, 114] (a, b) (c, d)).1 (Q.bts [111, 114] (a, b) (c, d)).2 = true :=
  joined_holds Q.lor (by decide) Q.lor_01 [111, 114] (fun a c h1 h2 => by rw [bts_num h1 h2]; rfl) h h'
theorem xor_holds {s t : Sp} {a b c d : Int} (h : S.has s a b = true) (h' : S.has t c d = true) : S.has (S.orn (S.digs false s t) (s.no || t.no)) (Q.bts [120, 111, 114] (a, b) (c, d)).1 (Q.bts [120, 111, 114] (a, b) (c, d)).2 = true :=
  joined_holds Q.lxor (by decide) Q.lxor_01 [120, 111, 114] (fun a c h1 h2 => by rw [bts_num h1 h2]; rfl) h h'
end Go.Proofs.YtiiddikiaafanaaGreatDoor
