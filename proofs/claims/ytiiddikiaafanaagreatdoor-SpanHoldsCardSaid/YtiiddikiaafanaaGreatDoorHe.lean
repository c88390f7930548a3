import Derived.Test.YtiiddikiaafanaaGreatDoorHc
set_option linter.all false
/-
  What comes of numbers of the spans is in the told one: rests; sizes; all.
-/
namespace Go.Proofs.YtiiddikiaafanaaGreatDoor
open Go.Pv Go.RowKit

theorem all_holds (a b : Int) (o : Bool) : S.has (S.orn S.all o) a b = true := by
  cases hq : Q.isq a b
  · rw [S.orn_none hq]; rfl
  · rw [S.orn_num hq, S.has_iff hq]
    exact ⟨rfl, fun h => by simp [S.all, isq00] at h, fun h => by simp [S.all, isq00] at h, Int.dvd_zero b⟩
theorem common_div {s t : Sp} {a b c d : Int} (h4 : b ∣ s.den) (g4 : d ∣ t.den) (k : Int) : b * d ∣ (a * d + k * (c * b)) * S.common s.den t.den := by
  obtain ⟨u, hu⟩ := S.common_dvd (b := t.den) h4
  obtain ⟨v, hv⟩ := S.common_dvd' (a := s.den) g4
  refine ⟨a * u + k * (c * v), ?_⟩
  rw [Int.add_mul, Int.mul_add]
  have f1 : a * d * S.common s.den t.den = b * d * (a * u) := by rw [hu, mmmc a d b u, mmmc b d a u, Int.mul_comm a b]
  have f2 : c * b * S.common s.den t.den = b * d * (c * v) := by rw [hv, mmmc c b d v, Int.mul_comm b d, mmmc d b c v, Int.mul_comm c d]
  rw [f1, Int.mul_assoc k (c * b), f2, Int.mul_left_comm k (b * d)]
theorem mod_holds {s t : Sp} {a b c d : Int} (ht : S.Ok t) (h : S.has s a b = true) (h' : S.has t c d = true) : S.has (S.orn (S.rest s t) (s.no || t.no)) (Q.mod (a, b) (c, d)).1 (Q.mod (a, b) (c, d)).2 = true := by
  unfold S.rest
  cases hc : Q.isq t.ln t.ld && decide (0 < t.ln)
  · rw [if_neg (by decide)]; exact all_holds _ _ _
  · rw [if_pos rfl]
    simp only [Bool.and_eq_true, decide_eq_true_eq] at hc
    obtain ⟨c1, c2⟩ := hc
    cases hb : Q.both (a, b) (c, d)
    · have e : Q.mod (a, b) (c, d) = (0, 0) := by unfold Q.mod; rw [if_neg (by simp [hb])]
      rw [e, S.orn_none isq00, no_both h h' hb, Bool.or_true]
    · obtain ⟨q1, q2⟩ := (Q.both_iff _ _).1 hb
      obtain ⟨h1, h2, h3, h4⟩ := (S.has_iff q1).1 h
      obtain ⟨g1, g2, g3, g4⟩ := (S.has_iff q2).1 h'
      have p1 := isq_den q1
      have p2 := isq_den q2
      have pc : 0 < c := pos_cross (isq_den c1) p2 (g2 c1) c2
      have cz : (c != 0) = true := by simp; omega
      have e : Q.mod (a, b) (c, d) = Q.mk (Q.dr (a * d) (c * b)) (b * d) := by unfold Q.mod; rw [if_pos (by rw [hb, cz]; rfl)]
      have hcb : 0 < c * b := Int.mul_pos pc p1
      have er : Q.dr (a * d) (c * b) = a * d + -(a * d / (c * b)) * (c * b) := by
        rw [(Q.dqr _ _ hcb).2, Int.emod_def, Int.neg_mul, Int.sub_eq_add_neg, Int.mul_comm (c * b)]
      have m0 := ((Q.dr_sign (a * d) (c * b)).1 hcb).1
      have m1 := ((Q.dr_sign (a * d) (c * b)).1 hcb).2
      obtain ⟨y1, y2, y3, y4⟩ := zero_or ht
      have cb := common_bd s.den t.den
      rw [e]
      refine close_holds (Int.mul_pos p1 p2) (by omega) y2 (fun _ => by omega) (fun x => ?_) cb.1 cb.2 ?_ _
      · have k1 : c * t.hd ≤ t.hn * d := g3 (y4 x)
        have k2 := Int.mul_le_mul_of_nonneg_right (Int.le_of_lt m1) (Int.le_of_lt x)
        have k3 : c * t.hd * b ≤ t.hn * d * b := Int.mul_le_mul_of_nonneg_right k1 (Int.le_of_lt p1)
        have k4 : c * t.hd * b = c * b * t.hd := Int.mul_right_comm _ _ _
        have k5 : t.hn * d * b = t.hn * (b * d) := by rw [Int.mul_assoc, Int.mul_comm d b]
        show Q.dr (a * d) (c * b) * t.hd ≤ t.hn * (b * d)
        omega
      · rw [er]; exact common_div h4 g4 _
theorem abs_holds {s : Sp} {a b : Int} (h : S.has s a b = true) : S.has (S.orn (S.abs s) s.no) (Q.abs (a, b)).1 (Q.abs (a, b)).2 = true := by
  cases hq : Q.isq a b
  · rw [S.has_none hq] at h
    rw [abs_none hq, S.orn_none isq00, h, Bool.or_true]
  · obtain ⟨h1, h2, h3, h4⟩ := (S.has_iff hq).1 h
    have hb := isq_den hq
    have hn : Q.isq (if a < 0 then -a else a) b = true := by
      split
      · rw [Q.isq_neg]; exact hq
      · exact hq
    rw [abs_num hq, S.orn_num hn, S.has_iff hn]
    refine ⟨rfl, fun _ => ?_, fun g => ?_, h4⟩
    · show (S.least s).1 * b ≤ (if a < 0 then -a else a) * (S.least s).2
      unfold S.least
      split
      · rename_i hc
        simp only [Bool.and_eq_true, decide_eq_true_eq] at hc
        have l := h2 hc.1
        have := pos_cross (isq_den hc.1) hb l hc.2
        rw [if_neg (by omega)]; exact l
      · split
        · rename_i hc
          simp only [Bool.and_eq_true, decide_eq_true_eq] at hc
          have l := h3 hc.1
          have := neg_cross hb (isq_den hc.1) l hc.2
          rw [if_pos this]
          show -s.hn * b ≤ -a * s.hd
          rw [Int.neg_mul, Int.neg_mul]; omega
        · show 0 * b ≤ (if a < 0 then -a else a) * 1
          split <;> omega
    · have g' : Q.isq (Q.max (Q.abs (s.ln, s.ld)) (Q.abs (s.hn, s.hd))).1 (Q.max (Q.abs (s.ln, s.ld)) (Q.abs (s.hn, s.hd))).2 = true := g
      obtain ⟨a1, a2, a3, a4, -⟩ := S.max_num g'
      have i1 : Q.isq s.ln s.ld = true := by
        cases hx : Q.isq s.ln s.ld
        · rw [abs_none hx] at a1; simp [isq00] at a1
        · rfl
      have i2 : Q.isq s.hn s.hd = true := by
        cases hx : Q.isq s.hn s.hd
        · rw [abs_none hx] at a2; simp [isq00] at a2
        · rfl
      clear a1 a2 g
      show (if a < 0 then -a else a) * (Q.max (Q.abs (s.ln, s.ld)) (Q.abs (s.hn, s.hd))).2 ≤ (Q.max (Q.abs (s.ln, s.ld)) (Q.abs (s.hn, s.hd))).1 * b
      generalize Q.max (Q.abs (s.ln, s.ld)) (Q.abs (s.hn, s.hd)) = M at *
      rw [abs_num i1] at a3
      rw [abs_num i2] at a4
      have l : s.ln * b ≤ a * s.ld := h2 i1
      have u : a * s.hd ≤ s.hn * b := h3 i2
      have d1 := isq_den i1
      have d2 := isq_den i2
      by_cases ha : a < 0
      · rw [if_pos ha]
        refine le_trans3 (c := if s.ln < 0 then -s.ln else s.ln) (d := s.ld) hb d1 (isq_den g') ?_ a3
        have n0 := neg_cross d1 hb l ha
        rw [if_pos n0, Int.neg_mul, Int.neg_mul]; show -(a * s.ld) ≤ -(s.ln * b); omega
      · rw [if_neg ha]
        refine le_trans3 (c := if s.hn < 0 then -s.hn else s.hn) (d := s.hd) hb d2 (isq_den g') ?_ a4
        by_cases hh : s.hn < 0
        · exact absurd (neg_cross hb d2 u hh) ha
        · rw [if_neg hh]; exact u
end Go.Proofs.YtiiddikiaafanaaGreatDoor

/-
  What comes of numbers of the spans is in the told one: products.
-/
namespace Go.Proofs.YtiiddikiaafanaaGreatDoor
open Go.Pv Go.RowKit

/-- One end at most another. -/
def leE (p q : Int × Int) : Prop := p.1 * q.2 ≤ q.1 * p.2
theorem leE_trans {p q r : Int × Int} (hp : 0 < p.2) (hq : 0 < q.2) (hr : 0 < r.2) (h1 : leE p q) (h2 : leE q r) : leE p r := le_trans3 hp hq hr h1 h2
theorem min2_le (m e : Int × Int) : leE (min2 m e) m ∧ leE (min2 m e) e := by
  unfold min2 leE
  cases h : ltE e m
  · unfold ltE at h
    have := of_decide_eq_false h
    exact ⟨Int.le_refl _, by simp only [cond_false]; omega⟩
  · unfold ltE at h
    have := of_decide_eq_true h
    exact ⟨by simp only [cond_true]; omega, Int.le_refl _⟩
theorem max2_ge (m e : Int × Int) : leE m (max2 m e) ∧ leE e (max2 m e) := by
  unfold max2 leE
  cases h : ltE m e
  · unfold ltE at h
    have := of_decide_eq_false h
    exact ⟨Int.le_refl _, by simp only [cond_false]; omega⟩
  · unfold ltE at h
    have := of_decide_eq_true h
    exact ⟨by simp only [cond_true]; omega, Int.le_refl _⟩
theorem min2_pos {m e : Int × Int} (h : 0 < m.2) (h2 : 0 < e.2) : 0 < (min2 m e).2 := by
  unfold min2; cases ltE e m
  · exact h
  · exact h2
theorem max2_pos {m e : Int × Int} (h : 0 < m.2) (h2 : 0 < e.2) : 0 < (max2 m e).2 := by
  unfold max2; cases ltE m e
  · exact h
  · exact h2
theorem minE_le {a b c d : Int × Int} (ha : 0 < a.2) (hb : 0 < b.2) (hc : 0 < c.2) (hd : 0 < d.2) : 0 < (minE a b c d).2 ∧ leE (minE a b c d) a ∧ leE (minE a b c d) b ∧ leE (minE a b c d) c ∧ leE (minE a b c d) d := by
  unfold minE
  have p1 := min2_pos ha hb
  have p2 := min2_pos p1 hc
  have p3 := min2_pos p2 hd
  obtain ⟨x1, x2⟩ := min2_le a b
  obtain ⟨y1, y2⟩ := min2_le (min2 a b) c
  obtain ⟨z1, z2⟩ := min2_le (min2 (min2 a b) c) d
  have w := leE_trans p3 p2 p1 z1 y1
  exact ⟨p3, leE_trans p3 p1 ha w x1, leE_trans p3 p1 hb w x2, leE_trans p3 p2 hc z1 y2, z2⟩
theorem maxE_ge {a b c d : Int × Int} (ha : 0 < a.2) (hb : 0 < b.2) (hc : 0 < c.2) (hd : 0 < d.2) : 0 < (maxE a b c d).2 ∧ leE a (maxE a b c d) ∧ leE b (maxE a b c d) ∧ leE c (maxE a b c d) ∧ leE d (maxE a b c d) := by
  unfold maxE
  have p1 := max2_pos ha hb
  have p2 := max2_pos p1 hc
  have p3 := max2_pos p2 hd
  obtain ⟨x1, x2⟩ := max2_ge a b
  obtain ⟨y1, y2⟩ := max2_ge (max2 a b) c
  obtain ⟨z1, z2⟩ := max2_ge (max2 (max2 a b) c) d
  have w := leE_trans p1 p2 p3 y1 z1
  exact ⟨p3, leE_trans ha p1 p3 x1 w, leE_trans hb p1 p3 x2 w, leE_trans hc p2 p3 y2 z1, z2⟩
theorem pr_comm (p q : Int × Int) : pr p q = pr q p := by unfold pr; rw [Int.mul_comm p.1, Int.mul_comm p.2]
theorem pr_mono {p p' q : Int × Int} (h0 : 0 ≤ q.1) (hq : 0 < q.2) (h : leE p p') : leE (pr p q) (pr p' q) := by
  unfold leE pr at *
  show p.1 * q.1 * (p'.2 * q.2) ≤ p'.1 * q.1 * (p.2 * q.2)
  rw [mmmc, mmmc p'.1]
  exact Int.mul_le_mul_of_nonneg_right h (Int.mul_nonneg h0 (Int.le_of_lt hq))
theorem pr_anti {p p' q : Int × Int} (h0 : q.1 ≤ 0) (hq : 0 < q.2) (h : leE p' p) : leE (pr p q) (pr p' q) := by
  unfold leE pr at *
  show p.1 * q.1 * (p'.2 * q.2) ≤ p'.1 * q.1 * (p.2 * q.2)
  rw [mmmc, mmmc p'.1]
  exact Int.mul_le_mul_of_nonpos_right h (Int.mul_nonpos_of_nonpos_of_nonneg h0 (Int.le_of_lt hq))
theorem pr_mono' {p q q' : Int × Int} (h0 : 0 ≤ p.1) (hp : 0 < p.2) (h : leE q q') : leE (pr p q) (pr p q') := by
  rw [pr_comm p q, pr_comm p q']; exact pr_mono h0 hp h
theorem pr_anti' {p q q' : Int × Int} (h0 : p.1 ≤ 0) (hp : 0 < p.2) (h : leE q' q) : leE (pr p q) (pr p q') := by
  rw [pr_comm p q, pr_comm p q']; exact pr_anti h0 hp h
theorem pr_pos {p q : Int × Int} (hp : 0 < p.2) (hq : 0 < q.2) : 0 < (pr p q).2 := Int.mul_pos hp hq
/-- A product lies between the least and the greatest of the ends' products. -/
theorem between {l u x l' u' y : Int × Int} (pl : 0 < l.2) (pu : 0 < u.2) (px : 0 < x.2) (pl' : 0 < l'.2) (pu' : 0 < u'.2) (py : 0 < y.2) (h1 : leE l x) (h2 : leE x u) (h3 : leE l' y) (h4 : leE y u') :
    (0 < (minE (pr l l') (pr l u') (pr u l') (pr u u')).2 ∧ leE (minE (pr l l') (pr l u') (pr u l') (pr u u')) (pr x y)) ∧ (0 < (maxE (pr l l') (pr l u') (pr u l') (pr u u')).2 ∧ leE (pr x y) (maxE (pr l l') (pr l u') (pr u l') (pr u u'))) := by
  obtain ⟨m0, m1, m2, m3, m4⟩ := minE_le (pr_pos pl pl') (pr_pos pl pu') (pr_pos pu pl') (pr_pos pu pu')
  obtain ⟨g0, g1, g2, g3, g4⟩ := maxE_ge (pr_pos pl pl') (pr_pos pl pu') (pr_pos pu pl') (pr_pos pu pu')
  have pxy := pr_pos px py
  refine ⟨⟨m0, ?_⟩, ⟨g0, ?_⟩⟩
  · by_cases hy : 0 ≤ y.1
    · refine leE_trans m0 (pr_pos pl py) pxy ?_ (pr_mono hy py h1)
      by_cases hl : 0 ≤ l.1
      · exact leE_trans m0 (pr_pos pl pl') (pr_pos pl py) m1 (pr_mono' hl pl h3)
      · exact leE_trans m0 (pr_pos pl pu') (pr_pos pl py) m2 (pr_anti' (by omega) pl h4)
    · refine leE_trans m0 (pr_pos pu py) pxy ?_ (pr_anti (by omega) py h2)
      by_cases hl : 0 ≤ u.1
      · exact leE_trans m0 (pr_pos pu pl') (pr_pos pu py) m3 (pr_mono' hl pu h3)
      · exact leE_trans m0 (pr_pos pu pu') (pr_pos pu py) m4 (pr_anti' (by omega) pu h4)
  · by_cases hy : 0 ≤ y.1
    · refine leE_trans pxy (pr_pos pu py) g0 (pr_mono hy py h2) ?_
      by_cases hl : 0 ≤ u.1
      · exact leE_trans (pr_pos pu py) (pr_pos pu pu') g0 (pr_mono' hl pu h4) g4
      · exact leE_trans (pr_pos pu py) (pr_pos pu pl') g0 (pr_anti' (by omega) pu h3) g3
    · refine leE_trans pxy (pr_pos pl py) g0 (pr_anti (by omega) py h1) ?_
      by_cases hl : 0 ≤ l.1
      · exact leE_trans (pr_pos pl py) (pr_pos pl pu') g0 (pr_mono' hl pl h4) g2
      · exact leE_trans (pr_pos pl py) (pr_pos pl pl') g0 (pr_anti' (by omega) pl h3) g1
theorem zero_at {s : Sp} {a b : Int} (hq : Q.isq a b = true) (h : S.has s a b = true) (hz : S.iszero s = true) : a = 0 := by
  unfold S.iszero at hz
  rw [Bool.and_eq_true, beq_iff_eq] at hz
  obtain ⟨i1, i2⟩ := pt_at hq h hz.1
  rw [hz.2, Int.zero_mul] at i1
  rcases Int.mul_eq_zero.1 i1 with h | h <;> omega
theorem mul_holds {s t : Sp} {a b c d : Int} (hs : S.Ok s) (ht : S.Ok t) (h : S.has s a b = true) (h' : S.has t c d = true) (o : Bool) (ho : Q.both (a, b) (c, d) = false → ((S.prod s t).no || o) = true) : S.has (S.orn (S.prod s t) o) (Q.mul (a, b) (c, d)).1 (Q.mul (a, b) (c, d)).2 = true := by
  cases hb : Q.both (a, b) (c, d)
  · have e : Q.mul (a, b) (c, d) = (0, 0) := by unfold Q.mul; rw [if_neg (by simp [hb])]
    rw [e, S.orn_none isq00, ho hb]
  · have e : Q.mul (a, b) (c, d) = Q.mk (a * c) (b * d) := by unfold Q.mul; rw [if_pos hb]
    obtain ⟨q1, q2⟩ := (Q.both_iff _ _).1 hb
    obtain ⟨h1, h2, h3, h4⟩ := (S.has_iff q1).1 h
    obtain ⟨g1, g2, g3, g4⟩ := (S.has_iff q2).1 h'
    have p1 := isq_den q1
    have p2 := isq_den q2
    have db := dens_bd hs ht
    have hdv : b * d ∣ a * c * S.dens s t := by
      unfold S.dens
      split
      · rw [Int.mul_zero]; exact Int.dvd_zero _
      · obtain ⟨u, hu⟩ := h4
        obtain ⟨v, hv⟩ := g4
        refine ⟨a * c * (u * v), ?_⟩
        rw [hu, hv]
        show a * c * (b * u * (d * v)) = b * d * (a * c * (u * v))
        rw [mmmc b u d v, Int.mul_left_comm]
    rw [e]
    unfold S.prod
    cases hz : S.iszero s || S.iszero t
    · have e1 : S.prlo s t = if S.allq s t = true then minE (pr (s.ln, s.ld) (t.ln, t.ld)) (pr (s.ln, s.ld) (t.hn, t.hd)) (pr (s.hn, s.hd) (t.ln, t.ld)) (pr (s.hn, s.hd) (t.hn, t.hd)) else (0, 0) := by unfold S.prlo; rw [if_neg (by simp [hz])]
      have e2 : S.prhi s t = if S.allq s t = true then maxE (pr (s.ln, s.ld) (t.ln, t.ld)) (pr (s.ln, s.ld) (t.hn, t.hd)) (pr (s.hn, s.hd) (t.ln, t.ld)) (pr (s.hn, s.hd) (t.hn, t.hd)) else (0, 0) := by unfold S.prhi; rw [if_neg (by simp [hz])]
      rw [e1, e2]
      cases ha : S.allq s t
      · rw [if_neg (by decide), if_neg (by decide)]
        exact close_holds (Int.mul_pos p1 p2) (Int.le_refl 0) (Int.le_refl 0) (fun x => by simp at x) (fun x => by simp at x) db.1 db.2 hdv _
      · rw [if_pos rfl, if_pos rfl]
        unfold S.allq at ha
        simp only [Bool.and_eq_true] at ha
        obtain ⟨⟨⟨i1, i2⟩, i3⟩, i4⟩ := ha
        obtain ⟨⟨m0, m1⟩, ⟨x0, x1⟩⟩ := between (l := (s.ln, s.ld)) (u := (s.hn, s.hd)) (x := (a, b)) (l' := (t.ln, t.ld)) (u' := (t.hn, t.hd)) (y := (c, d)) (isq_den i1) (isq_den i2) p1 (isq_den i3) (isq_den i4) p2 (h2 i1) (h3 i2) (g2 i3) (g3 i4)
        exact close_holds (Int.mul_pos p1 p2) (Int.le_of_lt m0) (Int.le_of_lt x0) (fun _ => m1) (fun _ => x1) db.1 db.2 hdv _
    · have e1 : S.prlo s t = (0, 1) := by unfold S.prlo; rw [if_pos hz]
      have e2 : S.prhi s t = (0, 1) := by unfold S.prhi; rw [if_pos hz]
      have n0 : a * c = 0 := by
        rcases (Bool.or_eq_true_iff).1 hz with z | z
        · have z0 : a = 0 := zero_at q1 h z
          rw [z0, Int.zero_mul]
        · have z0 : c = 0 := zero_at q2 h' z
          rw [z0, Int.mul_zero]
      rw [e1, e2]
      exact close_holds (Int.mul_pos p1 p2) (by decide) (by decide) (fun _ => by rw [n0]; simp) (fun _ => by rw [n0]; simp) db.1 db.2 hdv _
end Go.Proofs.YtiiddikiaafanaaGreatDoor
