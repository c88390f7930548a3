import Derived.Test.YtiiddikiaafanaaGreatDoorOm
set_option linter.all false
/-
  Products of spans, on both sides.
-/
namespace Go.Proofs.YtiiddikiaafanaaGreatDoor
open Go.Pv Go.RowKit

/-- A choice that is made; no equation by unfolding. -/
theorem cT {α : Type} (a b : α) : cond true a b = a := Eq.trans (cond_true a b) (Eq.refl a)
theorem cF {α : Type} (a b : α) : cond false a b = b := Eq.trans (cond_false a b) (Eq.refl b)
/-- The product of two ends. -/
def pr (p q : Int × Int) : Int × Int := (p.1 * q.1, p.2 * q.2)
def ltE (p q : Int × Int) : Bool := decide (p.1 * q.2 < q.1 * p.2)
def min2 (m e : Int × Int) : Int × Int := bif ltE e m then e else m
def max2 (m e : Int × Int) : Int × Int := bif ltE m e then e else m
def minE (a b c d : Int × Int) : Int × Int := min2 (min2 (min2 a b) c) d
def maxE (a b c d : Int × Int) : Int × Int := max2 (max2 (max2 a b) c) d
/-- Ends that may be compared. -/
structure Fine (p : Int × Int) : Prop where
  n : -4611686018427387904 ≤ p.1 ∧ p.1 ≤ 4611686018427387904
  d : 1 ≤ p.2 ∧ p.2 ≤ 1152921504606846976
theorem cmpE {p q : Int × Int} (hp : Fine p) (hq : Fine q) (k : Int → Option DV) : span_compare p.1 p.2 q.1 q.2 k = k (Q.cmpi (p.1 * q.2) (q.1 * p.2)) := compare_eq hp.n hp.d hq.n hq.d k
theorem lt_is (p q : Int × Int) : decide (Q.cmpi (p.1 * q.2) (q.1 * p.2) < 0) = ltE p q := cmpi_lt _ _
theorem gt_is (p q : Int × Int) : decide (Q.cmpi (p.1 * q.2) (q.1 * p.2) > 0) = ltE q p := cmpi_gt _ _
theorem minfunc_eq {a b c d : Int × Int} (ha : Fine a) (hb : Fine b) (hc : Fine c) (hd : Fine d) (k : Int → Int → Option DV) : slices_MinFunc_serinette_span_end_n4_span_compare a.1 a.2 b.1 b.2 c.1 c.2 d.1 d.2 k = k (minE a b c d).1 (minE a b c d).2 := by
  unfold slices_MinFunc_serinette_span_end_n4_span_compare B_slices_MinFunc_serinette_span_end_n4_span_compare minE min2
  simp only [cmpE hb ha, cmpE hc hb, cmpE hc ha, cmpE hd hc, cmpE hd hb, cmpE hd ha, lt_is]
  cases h1 : ltE b a
  · simp only [cF]
    cases h2 : ltE c a
    · simp only [cF]; cases ltE d a <;> rfl
    · simp only [cT]; cases ltE d c <;> rfl
  · simp only [cT]
    cases h2 : ltE c b
    · simp only [cF]; cases ltE d b <;> rfl
    · simp only [cT]; cases ltE d c <;> rfl
theorem maxfunc_eq {a b c d : Int × Int} (ha : Fine a) (hb : Fine b) (hc : Fine c) (hd : Fine d) (k : Int → Int → Option DV) : slices_MaxFunc_serinette_span_end_n4_span_compare a.1 a.2 b.1 b.2 c.1 c.2 d.1 d.2 k = k (maxE a b c d).1 (maxE a b c d).2 := by
  unfold slices_MaxFunc_serinette_span_end_n4_span_compare B_slices_MaxFunc_serinette_span_end_n4_span_compare maxE max2
  simp only [cmpE hb ha, cmpE hc hb, cmpE hc ha, cmpE hd hc, cmpE hd hb, cmpE hd ha, gt_is]
  cases h1 : ltE a b
  · simp only [cF]
    cases h2 : ltE a c
    · simp only [cF]; cases ltE a d <;> rfl
    · simp only [cT]; cases ltE c d <;> rfl
  · simp only [cT]
    cases h2 : ltE b c
    · simp only [cF]; cases ltE b d <;> rfl
    · simp only [cT]; cases ltE c d <;> rfl
theorem pick_fine {a b c d : Int × Int} (P : Int × Int → Prop) (ha : P a) (hb : P b) (hc : P c) (hd : P d) : P (minE a b c d) ∧ P (maxE a b c d) := by
  have h2 : ∀ m e, P m → P e → P (min2 m e) ∧ P (max2 m e) := by
    intro m e hm he
    unfold min2 max2
    cases ltE e m <;> cases ltE m e <;> exact ⟨by assumption, by assumption⟩
  exact ⟨(h2 _ _ (h2 _ _ (h2 _ _ ha hb).1 hc).1 hd).1, (h2 _ _ (h2 _ _ (h2 _ _ ha hb).2 hc).2 hd).2⟩
theorem pr_fine {a b c d : Int} (h : Q.isq a b = true) (h2 : Q.isq c d = true) : Fine (pr (a, b) (c, d)) ∧ (-1152921504606846976 ≤ a * c ∧ a * c ≤ 1152921504606846976) ∧ (1 ≤ b * d ∧ b * d ≤ 1152921504606846976) := by
  have b1 := isq_bd h
  have b2 := isq_bd h2
  have m1 := Q.mul_bd a c (by omega) (by omega)
  have m2 := Q.mul_bd b d (by omega) (by omega)
  have m3 : 0 < b * d := Int.mul_pos (by omega) (by omega)
  exact ⟨⟨by simp only [pr]; omega, by simp only [pr]; omega⟩, m1, by omega⟩
theorem times_eq {a b c d : Int} (h : Q.valid (a, b) = true) (h2 : Q.valid (c, d) = true) (k : Int → Int → Option DV) : span_times a b c d k = k (pr (a, b) (c, d)).1 (pr (a, b) (c, d)).2 := by
  have b1 := valid_bd h
  have b2 := valid_bd h2
  have m1 := Q.mul_bd a c (by omega) (by omega)
  have m2 := Q.mul_bd b d (by omega) (by omega)
  unfold span_times B_span_times pr
  rw [IntWalk.i64_in (a * c) (by omega), IntWalk.i64_in (b * d) (by omega)]
namespace S
def dens (s t : Sp) : Int := if s.den * t.den > 1073741824 then 0 else s.den * t.den
def allq (s t : Sp) : Bool := Q.isq s.ln s.ld && Q.isq s.hn s.hd && Q.isq t.ln t.ld && Q.isq t.hn t.hd
def prlo (s t : Sp) : Int × Int := if (iszero s || iszero t) = true then (0, 1) else if allq s t = true then minE (pr (s.ln, s.ld) (t.ln, t.ld)) (pr (s.ln, s.ld) (t.hn, t.hd)) (pr (s.hn, s.hd) (t.ln, t.ld)) (pr (s.hn, s.hd) (t.hn, t.hd)) else (0, 0)
def prhi (s t : Sp) : Int × Int := if (iszero s || iszero t) = true then (0, 1) else if allq s t = true then maxE (pr (s.ln, s.ld) (t.ln, t.ld)) (pr (s.ln, s.ld) (t.hn, t.hd)) (pr (s.hn, s.hd) (t.ln, t.ld)) (pr (s.hn, s.hd) (t.hn, t.hd)) else (0, 0)
def prod (s t : Sp) : Sp := close (lowE (prlo s t).1 (prlo s t).2) (upE (prhi s t).1 (prhi s t).2) (dens s t)
end S
theorem dens_bd {s t : Sp} (hs : S.Ok s) (ht : S.Ok t) : 0 ≤ S.dens s t ∧ S.dens s t ≤ 1073741824 := by
  have h1 := hs.d0
  have h2 := ht.d0
  have m : 0 ≤ s.den * t.den := Int.mul_nonneg h1 h2
  unfold S.dens
  split <;> omega
theorem bounded_eq {s t : Sp} (hs : S.Ok s) (ht : S.Ok t) (k : Int → Option DV) : span_bounded (IntKind.wrap .i64 (s.den * t.den)) k = k (S.dens s t) := by
  have h1 := hs.d0
  have h2 := hs.d1
  have h3 := ht.d0
  have h4 := ht.d1
  have m := Q.mul_bd s.den t.den (by omega) (by omega)
  have m0 : 0 ≤ s.den * t.den := Int.mul_nonneg h1 h3
  rw [IntWalk.i64_in _ (by omega)]
  unfold span_bounded B_span_bounded S.dens
  simp only [isden_eq]
  unfold S.isden
  by_cases h : s.den * t.den > 1073741824
  · have h' : ¬ s.den * t.den ≤ 1073741824 := by omega
    rw [if_pos h, decide_eq_false h', Bool.and_false]; rfl
  · have h' : s.den * t.den ≤ 1073741824 := by omega
    have h'' : s.den * t.den ≥ 0 := by omega
    rw [if_neg h, decide_eq_true h', decide_eq_true h'']; rfl
/-- An end of a product is open just where a part is. -/
theorem pr_open {a b c d : Int} (h : Q.valid (a, b) = true) (h2 : Q.valid (c, d) = true) : ((pr (a, b) (c, d)).2 == 0) = !(Q.isq a b && Q.isq c d) := by
  unfold pr
  cases h3 : Q.isq a b
  · obtain ⟨_, e⟩ := valid_none h h3
    simp [e]
  · cases h4 : Q.isq c d
    · obtain ⟨_, e⟩ := valid_none h2 h4
      simp [e]
    · have := (pr_fine h3 h4).2.2
      have : b * d ≠ 0 := by omega
      simp [this]
theorem products_eq {s t : Sp} (hs : S.Ok s) (ht : S.Ok t) (k : Int → Int → Int → Int → Option DV) : span_products s.ln s.ld s.hn s.hd s.den s.no s.em t.ln t.ld t.hn t.hd t.den t.no t.em k = k (S.prlo s t).1 (S.prlo s t).2 (S.prhi s t).1 (S.prhi s t).2 := by
  unfold span_products B_span_products S.prlo S.prhi
  simp only [iszero_eq hs, iszero_eq ht]
  cases h1 : S.iszero s
  · cases h2 : S.iszero t
    · simp only [Bool.not_false, cT, cF, Bool.or_false, Bool.false_eq_true, if_false]
      simp only [times_eq hs.lo ht.lo, times_eq hs.lo ht.hi, times_eq hs.hi ht.lo, times_eq hs.hi ht.hi]
      unfold slices_ContainsFunc_serinette_span_end_n4_span_end_isOpen B_slices_ContainsFunc_serinette_span_end_n4_span_end_isOpen slices_IndexFunc_serinette_span_end_n4_span_end_isOpen B_slices_IndexFunc_serinette_span_end_n4_span_end_isOpen span_end_isOpen B_span_end_isOpen
      simp only [pr_open hs.lo ht.lo, pr_open hs.lo ht.hi, pr_open hs.hi ht.lo, pr_open hs.hi ht.hi]
      unfold S.allq
      have hlit : ∀ (x : Option DV) (y : Option DV), (bif decide ((-1 : Int) ≥ 0) then x else y) = y := fun x y => by rw [decide_eq_false (by omega)]; rfl
      have hlit0 : ∀ (n : Int) (x : Option DV) (y : Option DV), 0 ≤ n → (bif decide (n ≥ 0) then x else y) = x := fun n x y h => by rw [decide_eq_true (by omega)]; rfl
      cases q1 : Q.isq s.ln s.ld
      · simp only [Bool.false_and, Bool.not_false, cT, hlit0 0 _ _ (by omega), Bool.false_eq_true, if_false]
      · cases q3 : Q.isq t.ln t.ld
        · simp only [Bool.true_and, Bool.and_false, Bool.false_and, Bool.not_false, cT, hlit0 0 _ _ (by omega), Bool.false_eq_true, if_false]
        · cases q4 : Q.isq t.hn t.hd
          · simp only [Bool.true_and, Bool.and_false, Bool.and_self, Bool.not_true, Bool.not_false, cT, cF, hlit0 1 _ _ (by omega), Bool.false_eq_true, if_false]
          · cases q2 : Q.isq s.hn s.hd
            · simp only [Bool.true_and, Bool.and_false, Bool.false_and, Bool.and_self, Bool.not_true, Bool.not_false, cT, cF, hlit0 2 _ _ (by omega), Bool.false_eq_true, if_false]
            · simp only [Bool.and_self, Bool.not_true, cF, hlit, if_true]
              have f1 := (pr_fine q1 q3).1
              have f2 := (pr_fine q1 q4).1
              have f3 := (pr_fine q2 q3).1
              have f4 := (pr_fine q2 q4).1
              rw [minfunc_eq f1 f2 f3 f4, maxfunc_eq f1 f2 f3 f4]
    · simp only [Bool.not_false, cT, Bool.or_true, if_true]
  · simp only [Bool.not_true, cF, Bool.true_or, if_true]
theorem prlo_bd {s t : Sp} : (-4611686018427387904 ≤ (S.prlo s t).1 ∧ (S.prlo s t).1 ≤ 4611686018427387904) ∧ (0 ≤ (S.prlo s t).2 ∧ (S.prlo s t).2 ≤ 1152921504606846976) ∧ (-4611686018427387904 ≤ (S.prhi s t).1 ∧ (S.prhi s t).1 ≤ 4611686018427387904) ∧ (0 ≤ (S.prhi s t).2 ∧ (S.prhi s t).2 ≤ 1152921504606846976) := by
  unfold S.prlo S.prhi
  split
  · simp only []; omega
  · split
    · rename_i h
      unfold S.allq at h
      simp at h
      obtain ⟨⟨⟨q1, q2⟩, q3⟩, q4⟩ := h
      have f := pick_fine Fine (pr_fine q1 q3).1 (pr_fine q1 q4).1 (pr_fine q2 q3).1 (pr_fine q2 q4).1
      have f1 := f.1.n
      have f2 := f.1.d
      have f3 := f.2.n
      have f4 := f.2.d
      omega
    · simp only []; omega
theorem prod_eq {s t : Sp} (hs : S.Ok s) (ht : S.Ok t) (k : Int → Int → Int → Int → Int → Bool → Bool → Option DV) : span_product s.ln s.ld s.hn s.hd s.den s.no s.em t.ln t.ld t.hn t.hd t.den t.no t.em k = (S.prod s t).ap k := by
  have b := dens_bd hs ht
  obtain ⟨b1, b2, b3, b4⟩ := @prlo_bd s t
  unfold span_product B_span_product S.prod
  simp only [products_eq hs ht, bounded_eq hs ht]
  exact closed_eq b1 b2 b3 b4 b.1 b.2 k
end Go.Proofs.YtiiddikiaafanaaGreatDoor

/-
  Products and quotients of spans: the specification's side; both sides together.
-/
namespace Go.Proofs.YtiiddikiaafanaaGreatDoor
open Go.Pv Go.RowKit

theorem point_ok (p : Int × Int) : S.Ok (S.point p.1 p.2) ∧ ((S.point p.1 p.2).em = true → S.iszero (S.point p.1 p.2) = false) := by
  unfold S.point
  cases h : Q.isq p.1 p.2
  · simp only [Bool.false_eq_true, if_false]
    exact ⟨⟨by decide, by decide, by decide, by decide, by decide⟩, fun _ => rfl⟩
  · have b := isq_bd h
    refine ⟨⟨valid_isq h, valid_isq h, ooo_no fun _ _ => Int.le_refl _, ?_, ?_⟩, fun hx => by cases hx⟩
    · show 0 ≤ p.2; omega
    · show p.2 ≤ 1073741824; omega
namespace S
def quot (s t : Sp) : Sp := if (ispt t && !(t.ln == 0)) = true then prod s (point (Q.div (1, 1) (t.ln, t.ld)).1 (Q.div (1, 1) (t.ln, t.ld)).2) else all
end S
end Go.Proofs.YtiiddikiaafanaaGreatDoor

/-
  Binary digits of spans, on both sides; what is picked.
-/
namespace Go.Proofs.YtiiddikiaafanaaGreatDoor
open Go.Pv Go.RowKit

/-- The first number of the list that is not below a fraction. -/
def onL : List Int → Int → Int → Int
  | [], _, _ => 0
  | n :: ns, N, D => if n * D < N then onL ns N D else n
def onesL : List Int := [0, 1, 3, 7, 15, 31, 63, 127, 255, 511, 1023, 2047, 4095, 8191, 16383, 32767, 65535, 131071, 262143, 524287, 1048575, 2097151, 4194303, 8388607, 16777215, 33554431, 67108863, 134217727, 268435455, 536870911, 1073741823, 2147483647, 4294967295, 8589934591]
theorem on_step {n N D : Int} {ns : List Int} (G : Int → Option DV) {X : Option DV} (h : n * D < N → X = G (onL ns N D)) : (bif decide (n * D < N) then X else G n) = G (onL (n :: ns) N D) := by
  unfold onL
  by_cases hx : n * D < N
  · rw [decide_eq_true hx, if_pos hx]; exact h hx
  · rw [decide_eq_false hx, if_neg hx]; rfl
theorem on_bd : ∀ (l : List Int), (∀ n ∈ l, 0 ≤ n ∧ n ≤ 8589934591) → ∀ N D, 0 ≤ onL l N D ∧ onL l N D ≤ 8589934591
  | [], _, N, D => by unfold onL; omega
  | n :: ns, h, N, D => by
    unfold onL
    split
    · exact on_bd ns (fun m hm => h m (by simp [hm])) N D
    · exact h n (by simp)
theorem onesL_bd (N D : Int) : 0 ≤ onL onesL N D ∧ onL onesL N D ≤ 8589934591 := on_bd onesL (by unfold onesL; intro n hn; simp at hn; omega) N D
theorem ones_eq {N D : Int} (hN : 0 ≤ N ∧ N ≤ 1073741824) (hD : 1 ≤ D ∧ D ≤ 1073741824) (k : Int → Int → Option DV) : span_ones N D k = k (onL onesL N D) 1 := by
  have hc : ∀ n : Int, 0 ≤ n → n ≤ 1099511627776 → ∀ k', span_compare n 1 N D k' = k' (Q.cmpi (n * D) (N * 1)) := fun n h1 h2 k' => compare_eq (by omega) (by omega) (by omega) (by omega) k'
  have hd : ∀ x : Int, decide (Q.cmpi x (N * 1) < 0) = decide (x < N) := fun x => by rw [cmpi_lt, Int.mul_one]
  have h0 := hc 0 (by omega) (by omega)
  unfold span_ones B_span_ones onesL
  simp only [exactly_eq, hc 0 (by omega) (by omega), hc 1 (by omega) (by omega), hc 3 (by omega) (by omega), hc 7 (by omega) (by omega), hc 15 (by omega) (by omega), hc 31 (by omega) (by omega), hc 63 (by omega) (by omega), hc 127 (by omega) (by omega), hc 255 (by omega) (by omega), hc 511 (by omega) (by omega), hc 1023 (by omega) (by omega), hc 2047 (by omega) (by omega), hc 4095 (by omega) (by omega), hc 8191 (by omega) (by omega), hc 16383 (by omega) (by omega), hc 32767 (by omega) (by omega), hc 65535 (by omega) (by omega), hc 131071 (by omega) (by omega), hc 262143 (by omega) (by omega), hc 524287 (by omega) (by omega), hc 1048575 (by omega) (by omega), hc 2097151 (by omega) (by omega), hc 4194303 (by omega) (by omega), hc 8388607 (by omega) (by omega), hc 16777215 (by omega) (by omega), hc 33554431 (by omega) (by omega), hc 67108863 (by omega) (by omega), hc 134217727 (by omega) (by omega), hc 268435455 (by omega) (by omega), hc 536870911 (by omega) (by omega), hc 1073741823 (by omega) (by omega), hc 2147483647 (by omega) (by omega), hc 4294967295 (by omega) (by omega), hc 8589934591 (by omega) (by omega), hd]
  generalize hG : (fun n => k n 1) = G
  have hk : ∀ n, k n 1 = G n := fun n => by rw [← hG]
  simp only [hk]
  refine on_step G fun h => ?_
  refine on_step G fun h => ?_
  refine on_step G fun h => ?_
  refine on_step G fun h => ?_
  refine on_step G fun h => ?_
  refine on_step G fun h => ?_
  refine on_step G fun h => ?_
  refine on_step G fun h => ?_
  refine on_step G fun h => ?_
  refine on_step G fun h => ?_
  refine on_step G fun h => ?_
  refine on_step G fun h => ?_
  refine on_step G fun h => ?_
  refine on_step G fun h => ?_
  refine on_step G fun h => ?_
  refine on_step G fun h => ?_
  refine on_step G fun h => ?_
  refine on_step G fun h => ?_
  refine on_step G fun h => ?_
  refine on_step G fun h => ?_
  refine on_step G fun h => ?_
  refine on_step G fun h => ?_
  refine on_step G fun h => ?_
  refine on_step G fun h => ?_
  refine on_step G fun h => ?_
  refine on_step G fun h => ?_
  refine on_step G fun h => ?_
  refine on_step G fun h => ?_
  refine on_step G fun h => ?_
  refine on_step G fun h => ?_
  refine on_step G fun h => ?_
  refine on_step G fun h => ?_
  exfalso; omega
namespace S
def count (s : Sp) : Bool := (s.den == 1) && (Q.isq s.ln s.ld && decide (0 ≤ s.ln) && Q.isq s.hn s.hd)
def digs (an : Bool) (s t : Sp) : Sp :=
  if (count s && count t) = true then
    (if an = true then close (lowE 0 1) (upE (Q.min (s.hn, s.hd) (t.hn, t.hd)).1 (Q.min (s.hn, s.hd) (t.hn, t.hd)).2) 1
     else close (lowE 0 1) (upE (onL onesL (Q.max (s.hn, s.hd) (t.hn, t.hd)).1 (Q.max (s.hn, s.hd) (t.hn, t.hd)).2) 1) 1)
  else all
end S
theorem count_eq {s : Sp} (h : S.Ok s) (k : Bool → Option DV) : span_isCount s.ln s.ld s.hn s.hd s.den s.no s.em k = k (S.count s) := by
  unfold span_isCount B_span_isCount span_isOpen B_span_isOpen S.count
  simp only [open_eq h.lo, open_eq h.hi]
  have hg : decide (s.ln ≥ 0) = decide (0 ≤ s.ln) := rfl
  rw [hg]
  cases (s.den == 1)
  · rfl
  · cases Q.isq s.ln s.ld
    · rfl
    · cases decide (0 ≤ s.ln)
      · rfl
      · cases Q.isq s.hn s.hd <;> rfl
/-- The ends of two counts. -/
theorem count_ends {s t : Sp} (hs : S.Ok s) (ht : S.Ok t) (h1 : S.count s = true) (h2 : S.count t = true) :
    (Q.isq s.hn s.hd = true ∧ Q.isq t.hn t.hd = true) ∧ (0 ≤ s.hn ∧ 0 ≤ t.hn) := by
  unfold S.count at h1 h2
  simp at h1 h2
  obtain ⟨_, ⟨a1, a2⟩, a3⟩ := h1
  obtain ⟨_, ⟨b1, b2⟩, b3⟩ := h2
  have e1 := isq_bd a1
  have e2 := isq_bd a3
  have e3 := isq_bd b1
  have e4 := isq_bd b3
  have l1 := hs.le a1 a3
  have l2 := ht.le b1 b3
  have nn : ∀ a b c d : Int, 0 ≤ a → 1 ≤ b → 1 ≤ d → a * d ≤ c * b → 0 ≤ c := by
    intro a b c d ha hb hd h
    have : 0 ≤ a * d := Int.mul_nonneg ha (by omega)
    apply Classical.byContradiction
    intro hc
    have : c * b < 0 := Int.mul_neg_of_neg_of_pos (by omega) (by omega)
    omega
  exact ⟨⟨a3, b3⟩, nn _ _ _ _ a2 (by omega) (by omega) l1, nn _ _ _ _ b2 (by omega) (by omega) l2⟩
theorem mm_ends {s t : Sp} (hs : S.Ok s) (ht : S.Ok t) (h1 : S.count s = true) (h2 : S.count t = true) :
    ((0 ≤ (Q.max (s.hn, s.hd) (t.hn, t.hd)).1 ∧ (Q.max (s.hn, s.hd) (t.hn, t.hd)).1 ≤ 1073741824) ∧ (1 ≤ (Q.max (s.hn, s.hd) (t.hn, t.hd)).2 ∧ (Q.max (s.hn, s.hd) (t.hn, t.hd)).2 ≤ 1073741824)) ∧
    ((0 ≤ (Q.min (s.hn, s.hd) (t.hn, t.hd)).1 ∧ (Q.min (s.hn, s.hd) (t.hn, t.hd)).1 ≤ 1073741824) ∧ (1 ≤ (Q.min (s.hn, s.hd) (t.hn, t.hd)).2 ∧ (Q.min (s.hn, s.hd) (t.hn, t.hd)).2 ≤ 1073741824)) := by
  obtain ⟨⟨q1, q2⟩, n1, n2⟩ := count_ends hs ht h1 h2
  have e1 := isq_bd q1
  have e2 := isq_bd q2
  constructor
  · rcases max_pick q1 q2 with ⟨e, _⟩ | ⟨e, _⟩ <;> rw [e] <;> simp only [] <;> omega
  · rcases min_pick q1 q2 with ⟨e, _⟩ | ⟨e, _⟩ <;> rw [e] <;> simp only [] <;> omega
theorem digits_prog (op : ByteArray) (an : Bool) (hop : (ByteArray.toList op == ByteArray.toList (⟨#[97, 110, 100]⟩)) = an) {s t : Sp} (hs : S.Ok s) (ht : S.Ok t) (k : Int → Int → Int → Int → Int → Bool → Bool → Option DV) :
    span_digits op s.ln s.ld s.hn s.hd s.den s.no s.em t.ln t.ld t.hn t.hd t.den t.no t.em k = (S.digs an s t).ap k := by
  unfold span_digits B_span_digits S.digs ratio_Min ratio_Max
  simp only [hop, count_eq hs, count_eq ht, all_eq, exactly_eq, zero_eq]
  cases h1 : S.count s
  · simp only [Bool.not_false, Bool.not_true, cF, Bool.false_and, Bool.false_eq_true, if_false]
  · cases h2 : S.count t
    · simp only [Bool.not_false, Bool.not_true, cT, Bool.and_false, Bool.false_eq_true, if_false]
    · simp only [Bool.not_false, Bool.not_true, cT, cF, Bool.and_self, if_true]
      obtain ⟨⟨m1, m2⟩, m3, m4⟩ := mm_ends hs ht h1 h2
      cases an
      · simp only [Bool.not_false, cT, ones_eq m1 m2, Bool.false_eq_true, if_false]
        have b := onesL_bd (Q.max (s.hn, s.hd) (t.hn, t.hd)).1 (Q.max (s.hn, s.hd) (t.hn, t.hd)).2
        exact closed_eq (by omega) (by omega) (by omega) (by omega) (by omega) (by omega) k
      · simp only [Bool.not_true, cF, if_true]
        exact closed_eq (by omega) (by omega) (by omega) (by omega) (by omega) (by omega) k
end Go.Proofs.YtiiddikiaafanaaGreatDoor
