import Derived.Test.YtnidbhfpkjggmaaGreatDoorOm
set_option linter.all false

/-
  Products of spans, on both sides.
-/
namespace Go.Proofs.YtnidbhfpkjggmaaGreatDoor
open Go.Pv Go.RowKit

/-- A choice that is made; no equation by unfolding. -/
theorem cT {α : Type} (a b : α) : cond true a b = a := Eq.trans (cond_true a b) (Eq.refl a)
theorem cF {α : Type} (a b : α) : cond false a b = b := Eq.trans (cond_false a b) (Eq.refl b)
/-- The product of two ends. -/
def pr (p q : Int × Int) : Int × Int := (p.1 * q.1, p.2 * q.2)
def ltE (p q : Int × Int) : Bool := decide (p.1 * q.2 < q.1 * p.2)
def min2 (m e : Int × Int) : Int × Int := bif ltE e m then e else m
def max2 (m e : Int × Int) : Int × Int := bif ltE m e then e else m
def minE (a b c d : Int × Int) : Int × Int := min2 (min2 (min2 a b) c) d
def maxE (a b c d : Int × Int) : Int × Int := max2 (max2 (max2 a b) c) d
/-- Ends that may be compared. -/
structure Fine (p : Int × Int) : Prop where
  n : -4611686018427387904 ≤ p.1 ∧ p.1 ≤ 4611686018427387904
  d : 1 ≤ p.2 ∧ p.2 ≤ 1152921504606846976
theorem cmpE {p q : Int × Int} (hp : Fine p) (hq : Fine q) (k : Int → Option DV) : span_compare p.1 p.2 q.1 q.2 k = k (Q.cmpi (p.1 * q.2) (q.1 * p.2)) := compare_eq hp.n hp.d hq.n hq.d k
theorem ordE {p q : Int × Int} (hp : Fine p) (hq : Fine q) (k : Int → Option DV) : serinetteref03_order p.1 p.2 false q.1 q.2 false k = k (Q.cmpi (p.1 * q.2) (q.1 * p.2)) := order_eq hp.n hp.d hq.n hq.d k
theorem lt_is (p q : Int × Int) : decide (Q.cmpi (p.1 * q.2) (q.1 * p.2) < 0) = ltE p q := cmpi_lt _ _
theorem gt_is (p q : Int × Int) : decide (Q.cmpi (p.1 * q.2) (q.1 * p.2) > 0) = ltE q p := cmpi_gt _ _
theorem minfunc_eq {a b c d : Int × Int} (ha : Fine a) (hb : Fine b) (hc : Fine c) (hd : Fine d) (k : Int → Int → Option DV) : slices_MinFunc_serinette_span_end_n4_span_compare a.1 a.2 b.1 b.2 c.1 c.2 d.1 d.2 k = k (minE a b c d).1 (minE a b c d).2 := by
  unfold slices_MinFunc_serinette_span_end_n4_span_compare B_slices_MinFunc_serinette_span_end_n4_span_compare minE min2
  simp only [cmpE hb ha, cmpE hc hb, cmpE hc ha, cmpE hd hc, cmpE hd hb, cmpE hd ha, lt_is]
  cases h1 : ltE b a
  · simp only [cF]
    cases h2 : ltE c a
    · simp only [cF]; cases ltE d a <;> rfl
    · simp only [cT]; cases ltE d c <;> rfl
  · simp only [cT]
    cases h2 : ltE c b
    · simp only [cF]; cases ltE d b <;> rfl
    · simp only [cT]; cases ltE d c <;> rfl
theorem maxfunc_eq {a b c d : Int × Int} (ha : Fine a) (hb : Fine b) (hc : Fine c) (hd : Fine d) (k : Int → Int → Option DV) : slices_MaxFunc_serinette_span_end_n4_span_compare a.1 a.2 b.1 b.2 c.1 c.2 d.1 d.2 k = k (maxE a b c d).1 (maxE a b c d).2 := by
  unfold slices_MaxFunc_serinette_span_end_n4_span_compare B_slices_MaxFunc_serinette_span_end_n4_span_compare maxE max2
  simp only [cmpE hb ha, cmpE hc hb, cmpE hc ha, cmpE hd hc, cmpE hd hb, cmpE hd ha, gt_is]
  cases h1 : ltE a b
  · simp only [cF]
    cases h2 : ltE a c
    · simp only [cF]; cases ltE a d <;> rfl
    · simp only [cT]; cases ltE c d <;> rfl
  · simp only [cT]
    cases h2 : ltE b c
    · simp only [cF]; cases ltE b d <;> rfl
    · simp only [cT]; cases ltE c d <;> rfl
theorem ltE_self (p : Int × Int) : ltE p p = false := by unfold ltE; simp
theorem pick_fine {a b c d : Int × Int} (P : Int × Int → Prop) (ha : P a) (hb : P b) (hc : P c) (hd : P d) : P (minE a b c d) ∧ P (maxE a b c d) := by
  have h2 : ∀ m e, P m → P e → P (min2 m e) ∧ P (max2 m e) := by
    intro m e hm he
    unfold min2 max2
    cases ltE e m <;> cases ltE m e <;> exact ⟨by assumption, by assumption⟩
  exact ⟨(h2 _ _ (h2 _ _ (h2 _ _ ha hb).1 hc).1 hd).1, (h2 _ _ (h2 _ _ (h2 _ _ ha hb).2 hc).2 hd).2⟩
theorem pr_fine {a b c d : Int} (h : Q.isq a b = true) (h2 : Q.isq c d = true) : Fine (pr (a, b) (c, d)) ∧ (-1152921504606846976 ≤ a * c ∧ a * c ≤ 1152921504606846976) ∧ (1 ≤ b * d ∧ b * d ≤ 1152921504606846976) := by
  have b1 := isq_bd h
  have b2 := isq_bd h2
  have m1 := Q.mul_bd a c (by omega) (by omega)
  have m2 := Q.mul_bd b d (by omega) (by omega)
  have m3 : 0 < b * d := Int.mul_pos (by omega) (by omega)
  exact ⟨⟨by simp only [pr]; omega, by simp only [pr]; omega⟩, m1, by omega⟩
theorem times_eq {a b c d : Int} (h : Q.valid (a, b) = true) (h2 : Q.valid (c, d) = true) (k : Int → Int → Option DV) : span_times a b c d k = k (pr (a, b) (c, d)).1 (pr (a, b) (c, d)).2 := by
  have b1 := valid_bd h
  have b2 := valid_bd h2
  have m1 := Q.mul_bd a c (by omega) (by omega)
  have m2 := Q.mul_bd b d (by omega) (by omega)
  unfold span_times B_span_times pr
  rw [IntWalk.i64_in (a * c) (by omega), IntWalk.i64_in (b * d) (by omega)]
namespace S
def dens (s t : Sp) : Int := if s.den * t.den > 1073741824 then 0 else s.den * t.den
def allq (s t : Sp) : Bool := Q.isq s.ln s.ld && Q.isq s.hn s.hd && Q.isq t.ln t.ld && Q.isq t.hn t.hd
def prlo (s t : Sp) : Int × Int := if (iszero s || iszero t) = true then (0, 1) else if allq s t = true then minE (pr (s.ln, s.ld) (t.ln, t.ld)) (pr (s.ln, s.ld) (t.hn, t.hd)) (pr (s.hn, s.hd) (t.ln, t.ld)) (pr (s.hn, s.hd) (t.hn, t.hd)) else (0, 0)
def prhi (s t : Sp) : Int × Int := if (iszero s || iszero t) = true then (0, 1) else if allq s t = true then maxE (pr (s.ln, s.ld) (t.ln, t.ld)) (pr (s.ln, s.ld) (t.hn, t.hd)) (pr (s.hn, s.hd) (t.ln, t.ld)) (pr (s.hn, s.hd) (t.hn, t.hd)) else (0, 0)
def prod (s t : Sp) : Sp := close (lowE (prlo s t).1 (prlo s t).2) (upE (prhi s t).1 (prhi s t).2) (dens s t)
end S
theorem dens_bd {s t : Sp} (hs : S.Ok s) (ht : S.Ok t) : 0 ≤ S.dens s t ∧ S.dens s t ≤ 1073741824 := by
  have h1 := hs.d0
  have h2 := ht.d0
  have m : 0 ≤ s.den * t.den := Int.mul_nonneg h1 h2
  unfold S.dens
  split <;> omega
theorem bounded_eq {s t : Sp} (hs : S.Ok s) (ht : S.Ok t) (k : Int → Option DV) : span_bounded (IntKind.wrap .i64 (s.den * t.den)) k = k (S.dens s t) := by
  have h1 := hs.d0
  have h2 := hs.d1
  have h3 := ht.d0
  have h4 := ht.d1
  have m := Q.mul_bd s.den t.den (by omega) (by omega)
  have m0 : 0 ≤ s.den * t.den := Int.mul_nonneg h1 h3
  rw [IntWalk.i64_in _ (by omega)]
  unfold span_bounded B_span_bounded S.dens
  simp only [isden_eq]
  unfold S.isden
  by_cases h : s.den * t.den > 1073741824
  · have h' : ¬ s.den * t.den ≤ 1073741824 := by omega
    rw [if_pos h, decide_eq_false h', Bool.and_false]; rfl
  · have h' : s.den * t.den ≤ 1073741824 := by omega
    have h'' : s.den * t.den ≥ 0 := by omega
    rw [if_neg h, decide_eq_true h', decide_eq_true h'']; rfl
theorem rtimes_eq {s t : Sp} (hs : S.Ok s) (ht : S.Ok t) (k : Int → Option DV) : serinetteref03_times s.den t.den k = k (S.dens s t) := by
  have h1 := hs.d0
  have h2 := hs.d1
  have h3 := ht.d0
  have h4 := ht.d1
  have m := Q.mul_bd s.den t.den (by omega) (by omega)
  unfold serinetteref03_times B_serinetteref03_times S.dens
  rw [IntWalk.i64_in _ (by omega)]
  by_cases h : s.den * t.den > 1073741824
  · rw [if_pos h, decide_eq_true h]; rfl
  · rw [if_neg h, decide_eq_false h]; rfl
/-- An end of a product is open just where a part is. -/
theorem pr_open {a b c d : Int} (h : Q.valid (a, b) = true) (h2 : Q.valid (c, d) = true) : ((pr (a, b) (c, d)).2 == 0) = !(Q.isq a b && Q.isq c d) := by
  unfold pr
  cases h3 : Q.isq a b
  · obtain ⟨_, e⟩ := valid_none h h3
    simp [e]
  · cases h4 : Q.isq c d
    · obtain ⟨_, e⟩ := valid_none h2 h4
      simp [e]
    · have := (pr_fine h3 h4).2.2
      have : b * d ≠ 0 := by omega
      simp [this]
theorem products_eq {s t : Sp} (hs : S.Ok s) (ht : S.Ok t) (k : Int → Int → Int → Int → Option DV) : span_products s.ln s.ld s.hn s.hd s.den s.no s.em t.ln t.ld t.hn t.hd t.den t.no t.em k = k (S.prlo s t).1 (S.prlo s t).2 (S.prhi s t).1 (S.prhi s t).2 := by
  unfold span_products B_span_products S.prlo S.prhi
  simp only [iszero_eq hs, iszero_eq ht]
  cases h1 : S.iszero s
  · cases h2 : S.iszero t
    · simp only [Bool.not_false, cT, cF, Bool.or_false, Bool.false_eq_true, if_false]
      simp only [times_eq hs.lo ht.lo, times_eq hs.lo ht.hi, times_eq hs.hi ht.lo, times_eq hs.hi ht.hi]
      unfold slices_ContainsFunc_serinette_span_end_n4_span_end_isOpen B_slices_ContainsFunc_serinette_span_end_n4_span_end_isOpen slices_IndexFunc_serinette_span_end_n4_span_end_isOpen B_slices_IndexFunc_serinette_span_end_n4_span_end_isOpen span_end_isOpen B_span_end_isOpen
      simp only [pr_open hs.lo ht.lo, pr_open hs.lo ht.hi, pr_open hs.hi ht.lo, pr_open hs.hi ht.hi]
      unfold S.allq
      have hlit : ∀ (x : Option DV) (y : Option DV), (bif decide ((-1 : Int) ≥ 0) then x else y) = y := fun x y => by rw [decide_eq_false (by omega)]; rfl
      have hlit0 : ∀ (n : Int) (x : Option DV) (y : Option DV), 0 ≤ n → (bif decide (n ≥ 0) then x else y) = x := fun n x y h => by rw [decide_eq_true (by omega)]; rfl
      cases q1 : Q.isq s.ln s.ld
      · simp only [Bool.false_and, Bool.not_false, cT, hlit0 0 _ _ (by omega), Bool.false_eq_true, if_false]
      · cases q3 : Q.isq t.ln t.ld
        · simp only [Bool.true_and, Bool.and_false, Bool.false_and, Bool.not_false, cT, hlit0 0 _ _ (by omega), Bool.false_eq_true, if_false]
        · cases q4 : Q.isq t.hn t.hd
          · simp only [Bool.true_and, Bool.and_false, Bool.and_self, Bool.not_true, Bool.not_false, cT, cF, hlit0 1 _ _ (by omega), Bool.false_eq_true, if_false]
          · cases q2 : Q.isq s.hn s.hd
            · simp only [Bool.true_and, Bool.and_false, Bool.false_and, Bool.and_self, Bool.not_true, Bool.not_false, cT, cF, hlit0 2 _ _ (by omega), Bool.false_eq_true, if_false]
            · simp only [Bool.and_self, Bool.not_true, cF, hlit, if_true]
              have f1 := (pr_fine q1 q3).1
              have f2 := (pr_fine q1 q4).1
              have f3 := (pr_fine q2 q3).1
              have f4 := (pr_fine q2 q4).1
              rw [minfunc_eq f1 f2 f3 f4, maxfunc_eq f1 f2 f3 f4]
    · simp only [Bool.not_false, cT, Bool.or_true, if_true]
  · simp only [Bool.not_true, cF, Bool.true_or, if_true]
theorem prlo_bd {s t : Sp} : (-4611686018427387904 ≤ (S.prlo s t).1 ∧ (S.prlo s t).1 ≤ 4611686018427387904) ∧ (0 ≤ (S.prlo s t).2 ∧ (S.prlo s t).2 ≤ 1152921504606846976) ∧ (-4611686018427387904 ≤ (S.prhi s t).1 ∧ (S.prhi s t).1 ≤ 4611686018427387904) ∧ (0 ≤ (S.prhi s t).2 ∧ (S.prhi s t).2 ≤ 1152921504606846976) := by
  unfold S.prlo S.prhi
  split
  · simp only []; omega
  · split
    · rename_i h
      unfold S.allq at h
      simp at h
      obtain ⟨⟨⟨q1, q2⟩, q3⟩, q4⟩ := h
      have f := pick_fine Fine (pr_fine q1 q3).1 (pr_fine q1 q4).1 (pr_fine q2 q3).1 (pr_fine q2 q4).1
      have f1 := f.1.n
      have f2 := f.1.d
      have f3 := f.2.n
      have f4 := f.2.d
      omega
    · simp only []; omega
theorem prod_eq {s t : Sp} (hs : S.Ok s) (ht : S.Ok t) (k : Int → Int → Int → Int → Int → Bool → Bool → Option DV) : span_product s.ln s.ld s.hn s.hd s.den s.no s.em t.ln t.ld t.hn t.hd t.den t.no t.em k = (S.prod s t).ap k := by
  have b := dens_bd hs ht
  obtain ⟨b1, b2, b3, b4⟩ := @prlo_bd s t
  unfold span_product B_span_product S.prod
  simp only [products_eq hs ht, bounded_eq hs ht]
  exact closed_eq b1 b2 b3 b4 b.1 b.2 k
end Go.Proofs.YtnidbhfpkjggmaaGreatDoor

/-
  Products and quotients of spans: the specification's side; both sides together.
-/
namespace Go.Proofs.YtnidbhfpkjggmaaGreatDoor
open Go.Pv Go.RowKit

/-- One round of the search for the least and the greatest. -/
theorem round1 (K : Int × Int → Int × Int → Option DV) (lo hi e : Int × Int) :
    (bif ltE e lo then (bif ltE hi e then K e e else K e hi) else (bif ltE hi e then K lo e else K lo hi)) = K (min2 lo e) (max2 hi e) := by
  unfold min2 max2
  cases ltE e lo <;> cases ltE hi e <;> rfl
theorem round2 (K : Int × Int → Int × Int → Option DV) (lo hi e f : Int × Int) :
    (bif ltE e lo then (bif ltE hi e then K (min2 e f) (max2 e f) else K (min2 e f) (max2 hi f)) else (bif ltE hi e then K (min2 lo f) (max2 e f) else K (min2 lo f) (max2 hi f))) = K (min2 (min2 lo e) f) (max2 (max2 hi e) f) :=
  round1 (fun p q => K (min2 p f) (max2 q f)) lo hi e
theorem round3 (K : Int × Int → Int × Int → Option DV) (lo hi e f g : Int × Int) :
    (bif ltE e lo then (bif ltE hi e then K (min2 (min2 e f) g) (max2 (max2 e f) g) else K (min2 (min2 e f) g) (max2 (max2 hi f) g)) else (bif ltE hi e then K (min2 (min2 lo f) g) (max2 (max2 e f) g) else K (min2 (min2 lo f) g) (max2 (max2 hi f) g))) = K (min2 (min2 (min2 lo e) f) g) (max2 (max2 (max2 hi e) f) g) :=
  round1 (fun p q => K (min2 (min2 p f) g) (max2 (max2 q f) g)) lo hi e
theorem rprod_eq {s t : Sp} (hs : S.Ok s) (ht : S.Ok t) (he : s.em = false) (ht0 : t.em = true → S.iszero t = false) (o : Bool) (k : Int → Int → Int → Int → Int → Bool → Bool → Option DV) :
    serinetteref03_product s.ln s.ld s.hn s.hd s.den s.no s.em t.ln t.ld t.hn t.hd t.den t.no t.em o k = (S.orn (S.prod s t) o).ap k := by
  have bd := dens_bd hs ht
  have hz : (!t.em && S.iszero t) = S.iszero t := by
    cases h : t.em
    · rfl
    · rw [ht0 h]; rfl
  unfold serinetteref03_product B_serinetteref03_product
  simp only [rtimes_eq hs ht, riszero_eq hs, riszero_eq ht, serinetteref01_Is]
  rw [hz]
  simp only [he, Bool.not_false, Bool.true_and]
  have zero1 : ∀ k, serinetteref03_closed 0 1 false 0 1 false (S.dens s t) o k = (S.orn (S.close (S.lowE 0 1) (S.upE 0 1) (S.dens s t)) o).ap k := fun k =>
    rclosed_out (fun k => by rw [routward_eq false (by omega) (by omega)]; rfl) (fun k => by rw [routward_eq true (by omega) (by omega)]; rfl) o bd.1 bd.2 k
  have open1 : ∀ k, serinetteref03_closed 0 1 true 0 1 true (S.dens s t) o k = (S.orn (S.close (S.lowE 0 0) (S.upE 0 0) (S.dens s t)) o).ap k := fun k =>
    rclosed_out (fun k => by rw [routward_open, lowE_zero]) (fun k => by rw [routward_open, upE_zero]) o bd.1 bd.2 k
  unfold S.prod S.prlo S.prhi
  cases h1 : S.iszero s
  · cases h2 : S.iszero t
    · simp only [Bool.not_false, cT, cF, Bool.or_false, Bool.false_eq_true, if_false]
      unfold S.allq
      cases q1 : Q.isq s.ln s.ld
      · simp only [Bool.not_false, Bool.not_true, cF, Bool.false_and, Bool.false_eq_true, if_false, open1]
      · cases q2 : Q.isq s.hn s.hd
        · simp only [Bool.not_false, Bool.not_true, cF, cT, Bool.and_false, Bool.false_and, Bool.false_eq_true, if_false, open1]
        · cases q3 : Q.isq t.ln t.ld
          · simp only [Bool.not_false, Bool.not_true, cF, cT, Bool.and_false, Bool.false_and, Bool.false_eq_true, if_false, open1]
          · cases q4 : Q.isq t.hn t.hd
            · simp only [Bool.not_false, Bool.not_true, cF, cT, Bool.and_false, Bool.false_eq_true, if_false, open1]
            · simp only [Bool.not_false, Bool.not_true, cF, cT, Bool.and_self, if_true]
              have p1 := pr_fine q1 q3
              have p2 := pr_fine q1 q4
              have p3 := pr_fine q2 q3
              have p4 := pr_fine q2 q4
              have w1 : IntKind.wrap .i64 (s.ln * t.ln) = (pr (s.ln, s.ld) (t.ln, t.ld)).1 := IntWalk.i64_in _ (by omega)
              have w2 : IntKind.wrap .i64 (s.ld * t.ld) = (pr (s.ln, s.ld) (t.ln, t.ld)).2 := IntWalk.i64_in _ (by omega)
              have w3 : IntKind.wrap .i64 (s.ln * t.hn) = (pr (s.ln, s.ld) (t.hn, t.hd)).1 := IntWalk.i64_in _ (by omega)
              have w4 : IntKind.wrap .i64 (s.ld * t.hd) = (pr (s.ln, s.ld) (t.hn, t.hd)).2 := IntWalk.i64_in _ (by omega)
              have w5 : IntKind.wrap .i64 (s.hn * t.ln) = (pr (s.hn, s.hd) (t.ln, t.ld)).1 := IntWalk.i64_in _ (by omega)
              have w6 : IntKind.wrap .i64 (s.hd * t.ld) = (pr (s.hn, s.hd) (t.ln, t.ld)).2 := IntWalk.i64_in _ (by omega)
              have w7 : IntKind.wrap .i64 (s.hn * t.hn) = (pr (s.hn, s.hd) (t.hn, t.hd)).1 := IntWalk.i64_in _ (by omega)
              have w8 : IntKind.wrap .i64 (s.hd * t.hd) = (pr (s.hn, s.hd) (t.hn, t.hd)).2 := IntWalk.i64_in _ (by omega)
              simp only [w1, w2, w3, w4, w5, w6, w7, w8]
              have f1 := p1.1
              have f2 := p2.1
              have f3 := p3.1
              have f4 := p4.1
              generalize pr (s.ln, s.ld) (t.ln, t.ld) = a at *
              generalize pr (s.ln, s.ld) (t.hn, t.hd) = b at *
              generalize pr (s.hn, s.hd) (t.ln, t.ld) = c at *
              generalize pr (s.hn, s.hd) (t.hn, t.hd) = d at *
              simp only [ordE f1 f1, ordE f2 f1, ordE f3 f1, ordE f3 f2, ordE f4 f1, ordE f4 f2, ordE f4 f3, lt_is, gt_is, ltE_self, cF]
              obtain ⟨K, hK⟩ : ∃ K : Int × Int → Int × Int → Option DV, ∀ p q, serinetteref03_closed p.1 p.2 false q.1 q.2 false (S.dens s t) o k = K p q := ⟨_, fun _ _ => rfl⟩
              simp only [hK, round1, round2, round3]
              rw [← hK]
              obtain ⟨m1, m2⟩ := pick_fine Fine f1 f2 f3 f4
              exact rclosed_out (fun k => routward_eq false m1.n m1.d k) (fun k => routward_eq true m2.n m2.d k) o bd.1 bd.2 k
    · simp only [Bool.not_false, cT, Bool.or_true, if_true, zero1]
  · simp only [Bool.not_true, cF, Bool.true_or, if_true, zero1]
theorem two_mul {s t : Sp} (hs : S.Ok s) (ht : S.Ok t) (he : s.em = false) (he' : t.em = false) : TwoIs ⟨#[109, 117, 108]⟩ s t (S.prod s t) := by
  refine ⟨fun k => ?_, fun k => ?_, close_em _ _ _⟩
  · rw [tw_mul]; exact prod_eq hs ht k
  · rw [rtw_mul, rcommon_eq hs.d0 hs.d1 ht.d0 ht.d1]
    exact rprod_eq hs ht he (fun h => by rw [he'] at h; cases h) _ k
theorem point_ok (p : Int × Int) : S.Ok (S.point p.1 p.2) ∧ ((S.point p.1 p.2).em = true → S.iszero (S.point p.1 p.2) = false) := by
  unfold S.point
  cases h : Q.isq p.1 p.2
  · simp only [Bool.false_eq_true, if_false]
    exact ⟨⟨by decide, by decide, by decide, by decide, by decide⟩, fun _ => rfl⟩
  · have b := isq_bd h
    refine ⟨⟨valid_isq h, valid_isq h, ooo_no fun _ _ => Int.le_refl _, ?_, ?_⟩, fun hx => by cases hx⟩
    · show 0 ≤ p.2; omega
    · show p.2 ≤ 1073741824; omega
namespace S
def quot (s t : Sp) : Sp := if (ispt t && !(t.ln == 0)) = true then prod s (point (Q.div (1, 1) (t.ln, t.ld)).1 (Q.div (1, 1) (t.ln, t.ld)).2) else all
end S
theorem rpoint_of (a b : Int) (k : Int → Int → Int → Int → Int → Bool → Bool → Option DV) : serinetteref03_Point a b k = (S.point a b).ap k := rpoint_eq a b k
theorem two_div {s t : Sp} (hs : S.Ok s) (ht : S.Ok t) (he : s.em = false) (he' : t.em = false) : TwoIs ⟨#[100, 105, 118]⟩ s t (S.quot s t) := by
  obtain ⟨po, pz⟩ := point_ok (Q.div (1, 1) (t.ln, t.ld))
  refine ⟨fun k => ?_, fun k => ?_, by unfold S.quot; split <;> rfl⟩
  · rw [tw_div]
    unfold span_quotient B_span_quotient S.quot ratio_Div
    simp only [ispt_eq ht, iszero_eq ht, all_eq, one_eq, point_eq]
    unfold S.iszero
    cases h1 : S.ispt t
    · simp only [Bool.not_false, Bool.not_true, cF, Bool.false_and, Bool.false_eq_true, if_false]
    · cases h2 : (t.ln == 0)
      · simp only [Bool.not_false, Bool.not_true, cF, cT, Bool.and_false, Bool.true_and, if_true]
        exact prod_eq hs po k
      · simp only [Bool.not_true, Bool.not_false, cT, Bool.and_self, Bool.and_false, Bool.false_eq_true, if_false]
  · rw [rtw_div]
    unfold S.quot serinetteref01_Div
    simp only [rcommon_eq hs.d0 hs.d1 ht.d0 ht.d1, rispt_eq ht, whole1, rpoint_of, unknown_eq]
    rw [he', Bool.not_false, Bool.true_and]
    cases h1 : S.ispt t
    · simp only [cF, Bool.false_and, Bool.false_eq_true, if_false, orn_all]
    · cases h2 : (t.ln == 0)
      · simp only [bne, h2, Bool.not_false, cT, Bool.and_self, if_true]
        exact rprod_eq hs po he pz _ k
      · simp only [bne, h2, Bool.not_true, cT, cF, Bool.and_false, Bool.false_eq_true, if_false, orn_all]
end Go.Proofs.YtnidbhfpkjggmaaGreatDoor
