/-
  Plain mathematics of numbers' texts: reading and writing them.
-/
import Derived.Test.YtpoalckncfkdgaaDoorQv
import Derived.Lib.ItoaNum
import Derived.Lib.Strings
namespace Go.Proofs.YtpoalckncfkdgaaDoor
namespace Q
def isd (c : UInt8) : Bool := decide (48 ≤ c.toNat ∧ c.toNat ≤ 57)
/-- The number that digits write. -/
def num (l : List UInt8) : Nat := l.foldl (fun n c => 10 * n + (c.toNat - 48)) 0
/-- One to most digits and nothing else. -/
def digs (l : List UInt8) (most : Nat) : Nat × Bool := if 1 ≤ l.length ∧ l.length ≤ most ∧ l.all isd = true then (num l, true) else (0, false)
/-- What stands before the first c, what behind it, and whether there is one. -/
def cut1 (c : UInt8) : List UInt8 → List UInt8 × List UInt8 × Bool
  | [] => ([], [], false)
  | d :: r => if d = c then ([], r, true) else (d :: (cut1 c r).1, (cut1 c r).2.1, (cut1 c r).2.2)
def frac1 (a b : Nat × Bool) : Nat × Nat × Bool := (a.1, b.1, a.2 && b.2 && (b.1 != 0))
def frac2 (found : Bool) (behind : List UInt8) (a b : Nat × Bool) : Nat × Nat × Bool :=
  if (!found || !a.2) = true then (a.1, 1, a.2) else if b.2 = true then (a.1 * 10 ^ behind.length + b.1, 10 ^ behind.length, true) else (0, 0, false)
/-- A text without a sign. -/
def fraction (l : List UInt8) : Nat × Nat × Bool :=
  if (cut1 47 l).2.2 = true then frac1 (digs (cut1 47 l).1 10) (digs (cut1 47 l).2.1 10)
  else frac2 (cut1 46 l).2.2 (cut1 46 l).2.1 (digs (cut1 46 l).1 10) (digs (cut1 46 l).2.1 9)
def ends (q : Int × Int) : (Int × Int) × Int := if isq q.1 q.2 = true then (q, 0) else ((0, 0), 4)
def parse3 (neg : Bool) (f : Nat × Nat × Bool) : (Int × Int) × Int := if f.2.2 = true then ends (low neg f.1 f.2.1) else ((0, 0), 3)
def none4 : List UInt8 := [110, 111, 110, 101]
def parse (l : List UInt8) : (Int × Int) × Int :=
  if (l == none4) = true then ((0, 0), 0) else parse3 (Lib.hasPrefix l [45]) (fraction (Lib.trimPrefix l [45]))
/-- The specification's own: so many digits at a place. -/
def span (l : List UInt8) (most : Nat) : Nat × Nat × Bool :=
  if most < (l.takeWhile isd).length then (0, most, false) else (num (l.takeWhile isd), (l.takeWhile isd).length, decide (0 < (l.takeWhile isd).length))
def rfrac (n d : Int) : (Int × Int) × Int := if d = 0 then ((0, 0), 3) else ends (mk n d)
def sgn (neg : Bool) : Int := if neg = true then -1 else 1
def rtail (neg : Bool) (n : Nat) (r : List UInt8) : (Int × Int) × Int :=
  match r with
  | [] => rfrac (sgn neg * n) 1
  | c :: r =>
    if c = 47 then (if ((span r 10).2.2 && (span r 10).2.1 == r.length) = true then rfrac (sgn neg * n) (span r 10).1 else ((0, 0), 3))
    else if c = 46 then
      (if ((span r 9).2.2 && (span r 9).2.1 == r.length) = true then
        (if 2147483648 < n then ((0, 0), 4) else rfrac (sgn neg * (n * 10 ^ (span r 9).2.1 + (span r 9).1 : Nat)) (10 ^ (span r 9).2.1 : Nat))
      else ((0, 0), 3))
    else ((0, 0), 3)
def rparse2 (neg : Bool) (u : List UInt8) : (Int × Int) × Int :=
  if (span u 10).2.2 = true then rtail neg (span u 10).1 (u.drop (span u 10).2.1) else ((0, 0), 3)

theorem cut1_append {c : UInt8} (hc : isd c = false) : ∀ {p : List UInt8} (_ : p.all isd = true) (r : List UInt8), cut1 c (p ++ r) = (p ++ (cut1 c r).1, (cut1 c r).2.1, (cut1 c r).2.2)
  | [], _, r => rfl
  | d :: p, h, r => by
    rw [List.all_cons, Bool.and_eq_true] at h
    have ih := cut1_append hc h.2 r
    have hd : ¬ d = c := by intro e; rw [e, hc] at h; exact absurd h.1 (by decide)
    rw [List.cons_append, cut1, if_neg hd, ih]; rfl
theorem digs_bad {d : UInt8} (hd : isd d = false) (p x : List UInt8) (m : Nat) : digs (p ++ d :: x) m = (0, false) := by
  unfold digs
  rw [if_neg]
  rintro ⟨_, _, h⟩
  rw [List.all_append, List.all_cons, hd] at h
  simp at h
theorem digs_nil (m : Nat) : digs [] m = (0, false) := by unfold digs; rw [if_neg]; simp
theorem cut1_no {c : UInt8} (hc : isd c = false) {p : List UInt8} (h : p.all isd = true) : cut1 c p = (p, [], false) := by
  have := cut1_append hc h []
  rw [List.append_nil] at this
  rw [this]; simp [cut1]
theorem digs_ok {l : List UInt8} {m : Nat} (h : (digs l m).2 = true) : 1 ≤ l.length ∧ l.length ≤ m ∧ l.all isd = true ∧ digs l m = (num l, true) := by
  unfold digs at h ⊢
  split at h
  · rename_i h'; rw [if_pos h']; exact ⟨h'.1, h'.2.1, h'.2.2, rfl⟩
  · cases h
theorem take_all {l : List UInt8} (h : l.all isd = true) : l.takeWhile isd = l := by
  induction l with
  | nil => rfl
  | cons d l ih => rw [List.all_cons, Bool.and_eq_true] at h; rw [List.takeWhile_cons, if_pos h.1, ih h.2]
theorem all_take (l : List UInt8) : (l.takeWhile isd).all isd = true := by
  induction l with
  | nil => rfl
  | cons d l ih =>
    rw [List.takeWhile_cons]
    split
    · rename_i h; rw [List.all_cons, h, ih]; rfl
    · rfl
theorem span_digs (l : List UInt8) (m : Nat) : ((span l m).2.2 && (span l m).2.1 == l.length) = (digs l m).2 ∧ ((digs l m).2 = true → (span l m).1 = (digs l m).1 ∧ (span l m).2.1 = l.length) := by
  by_cases h : (digs l m).2 = true
  · obtain ⟨h1, h2, h3, h4⟩ := digs_ok h
    have e : span l m = (num l, l.length, true) := by
      unfold span
      rw [take_all h3, if_neg (by omega)]
      simp; omega
    rw [e, h4]; simp
  · have hf : (digs l m).2 = false := by simpa using h
    refine ⟨?_, fun h' => absurd h' h⟩
    rw [hf]
    by_cases hs : (span l m).2.2 = true ∧ (span l m).2.1 = l.length
    · exfalso
      apply h
      obtain ⟨h1, h2⟩ := hs
      unfold span at h1 h2
      split at h1
      · cases h1
      · rename_i hm
        rw [if_neg hm] at h2
        have h1 : 0 < (l.takeWhile isd).length := by simpa using h1
        have h2 : (l.takeWhile isd).length = l.length := h2
        have e : l.takeWhile isd = l := (List.takeWhile_prefix isd).eq_of_length h2
        have ha := all_take l
        rw [e] at ha hm h1
        unfold digs
        rw [if_pos ⟨h1, by omega, ha⟩]
    · rw [Bool.and_eq_false_iff, beq_eq_false_iff_ne]
      by_cases h1 : (span l m).2.2 = true
      · right; intro h2; exact hs ⟨h1, h2⟩
      · left; simpa using h1
theorem low_zero_sign (s t : Bool) (d : Nat) : low s 0 d = low t 0 d := by
  unfold low; cases s <;> cases t <;> simp
theorem mk_sgn (neg : Bool) (n d : Nat) : mk (sgn neg * n) d = low neg n d := by
  unfold mk
  have hd : decide ((d : Int) < 0) = false := by simp
  rw [hd]
  cases neg
  · have e : sgn false * (n : Int) = n := by unfold sgn; simp
    rw [e]
    have hn : decide ((n : Int) < 0) = false := by simp
    rw [hn]; simp
  · have e : sgn true * (n : Int) = -n := by unfold sgn; simp
    rw [e]
    by_cases h0 : n = 0
    · subst h0; simp only [Int.natCast_zero, Int.neg_zero, Int.natAbs_zero, Int.natAbs_natCast]; exact low_zero_sign _ _ _
    · have hn : decide (-(n : Int) < 0) = true := by simp; omega
      rw [hn]; simp
theorem low_big (s : Bool) (a b d : Nat) (hd : 0 < d) (h : 2147483648 < a) : isq (low s (a * d + b) d).1 (low s (a * d + b) d).2 = false := by
  have hg := Nat.gcd_pos_of_pos_right (a * d + b) hd
  have e : low s (a * d + b) d = (0, 0) := by
    unfold low
    rw [if_neg (by omega), if_pos]
    left
    obtain ⟨x, hx⟩ := Nat.gcd_dvd_left (a * d + b) d
    obtain ⟨y, hy⟩ := Nat.gcd_dvd_right (a * d + b) d
    generalize Nat.gcd (a * d + b) d = g at *
    have hy0 : 0 < y := by
      apply Nat.pos_of_ne_zero; intro h0; rw [h0] at hy; omega
    have h1 : (a * d + b) / g = x := by rw [hx]; exact Nat.mul_div_cancel_left _ hg
    rw [h1]
    have h2 : a * (g * y) + b = g * x := by rw [← hy]; exact hx
    have h3 : g * (a * y) ≤ g * x := by rw [← h2]; have : a * (g * y) = g * (a * y) := by rw [Nat.mul_left_comm]
                                        omega
    have h4 : a * y ≤ x := Nat.le_of_mul_le_mul_left h3 hg
    have h5 : a ≤ a * y := Nat.le_mul_of_pos_right _ hy0
    omega
  rw [e]; exact isq_none
theorem d47 : isd 47 = false := by decide
theorem d46 : isd 46 = false := by decide
theorem drop_take (u : List UInt8) : ∃ r, u = u.takeWhile isd ++ r ∧ u.drop (u.takeWhile isd).length = r ∧ (r = [] ∨ ∃ d x, r = d :: x ∧ isd d = false) := by
  refine ⟨u.dropWhile isd, (List.takeWhile_append_dropWhile).symm, ?_, ?_⟩
  · have h := List.takeWhile_append_dropWhile (p := isd) (l := u)
    have : u.drop (u.takeWhile isd).length = (u.takeWhile isd ++ u.dropWhile isd).drop (u.takeWhile isd).length := by rw [h]
    rw [this, List.drop_left]
  · cases h : u.dropWhile isd with
    | nil => exact Or.inl rfl
    | cons d x =>
      refine Or.inr ⟨d, x, rfl, ?_⟩
      have := List.head?_dropWhile_not isd u
      rw [h] at this
      simpa using this
/-- Both ways of reading a text without a sign are one. -/
theorem parse2_eq (neg : Bool) (u : List UInt8) : rparse2 neg u = parse3 neg (fraction u) := by
  obtain ⟨r, hu, hdr, hr⟩ := drop_take u
  have hp := all_take u
  have hspan : span u 10 = if 10 < (u.takeWhile isd).length then (0, 10, false) else (num (u.takeWhile isd), (u.takeWhile isd).length, decide (0 < (u.takeWhile isd).length)) := rfl
  generalize u.takeWhile isd = p at *
  subst hu
  have hdp : digs p 10 = if 1 ≤ p.length ∧ p.length ≤ 10 then (num p, true) else (0, false) := by
    unfold digs; simp only [hp, and_true]
  have c47 := cut1_append d47 hp r
  have c46 := cut1_append d46 hp r
  have frac47 : ∀ d x, r = d :: x → isd d = false → d ≠ 47 → d ≠ 46 → (fraction (p ++ r)).2.2 = false := by
    intro d x hr hd h7 h6
    unfold fraction
    rw [c47, c46, hr]
    simp only [cut1, if_neg h7, if_neg h6, digs_bad hd]
    split
    · unfold frac1; simp
    · unfold frac2; split
      · rfl
      · split
        · rename_i h1 h2; simp at h1
        · rfl
  by_cases hok : 1 ≤ p.length ∧ p.length ≤ 10
  · rw [if_pos hok] at hdp
    have hs : span (p ++ r) 10 = (num p, p.length, true) := by
      rw [hspan, if_neg (by omega)]; simp; omega
    unfold rparse2
    rw [hs]
    simp only [if_true]
    rw [hdr]
    rcases hr with rfl | ⟨d, x, rfl, hd⟩
    · unfold rtail rfrac
      rw [if_neg (by decide), show ((1 : Int)) = ((1 : Nat) : Int) from rfl, mk_sgn]
      unfold fraction parse3
      rw [c47, c46]
      simp only [cut1, List.append_nil, Bool.false_eq_true, if_false]
      rw [hdp]; rfl
    · unfold rtail
      by_cases h7 : d = 47
      · subst h7
        simp only [if_true]
        have hsd := span_digs x 10
        rw [hsd.1]
        unfold fraction parse3
        rw [c47]
        simp only [cut1, if_true, List.append_nil]
        rw [hdp]
        unfold frac1
        by_cases hx : (digs x 10).2 = true
        · rw [if_pos hx, (hsd.2 hx).1, hx]
          unfold rfrac
          by_cases h0 : (digs x 10).1 = 0
          · simp [h0]
          · have h0' : ¬ ((digs x 10).1 : Int) = 0 := by omega
            have hb : ((digs x 10).1 != 0) = true := by rw [bne_iff_ne]; exact h0
            rw [if_neg h0', mk_sgn, hb]; rfl
        · rw [if_neg hx]
          have hxf : (digs x 10).2 = false := by simpa using hx
          rw [hxf]; simp
      · dsimp only
        rw [if_neg h7]
        by_cases h6 : d = 46
        · subst h6
          simp only [if_true]
          have hsd := span_digs x 9
          rw [hsd.1]
          by_cases hx : (digs x 9).2 = true
          · rw [if_pos hx, (hsd.2 hx).1, (hsd.2 hx).2]
            obtain ⟨x1, x2, x3, x4⟩ := digs_ok hx
            have hf : fraction (p ++ 46 :: x) = (num p * 10 ^ x.length + num x, 10 ^ x.length, true) := by
              unfold fraction
              rw [c47, c46]
              simp only [cut1, if_neg h7, if_true, List.append_nil, cut1_no d47 x3, Bool.false_eq_true, if_false]
              rw [hdp, x4]
              unfold frac2; simp
            rw [hf, x4]
            unfold parse3
            simp only [if_true]
            by_cases hb : 2147483648 < num p
            · rw [if_pos hb]
              unfold ends
              rw [low_big neg (num p) (num x) (10 ^ x.length) (Nat.pow_pos (by decide)) hb]; rfl
            · rw [if_neg hb]
              unfold rfrac
              rw [if_neg (by have : 0 < 10 ^ x.length := Nat.pow_pos (by decide); omega), mk_sgn]
          · rw [if_neg hx]
            have hxf : (digs x 9).2 = false := by simpa using hx
            have hf : (fraction (p ++ 46 :: x)).2.2 = false := by
              unfold fraction
              rw [c47, c46]
              simp only [cut1, if_neg h7, if_true, List.append_nil]
              split
              · unfold frac1; rw [digs_bad d46]; simp
              · rw [hdp]; unfold frac2; rw [hxf]; simp
            unfold parse3; rw [hf]; simp
        · rw [if_neg h6]
          unfold parse3; rw [frac47 d x rfl hd h7 h6]; simp
  · rw [if_neg hok] at hdp
    have hs : (span (p ++ r) 10).2.2 = false := by
      rw [hspan]; split
      · rfl
      · exact decide_eq_false (by omega)
    unfold rparse2
    rw [hs]
    have hf : (fraction (p ++ r)).2.2 = false := by
      rcases hr with rfl | ⟨d, x, rfl, hd⟩
      · unfold fraction
        rw [c47, c46]
        simp only [cut1, List.append_nil, Bool.false_eq_true, if_false]
        rw [hdp]; unfold frac2; simp
      · by_cases h7 : d = 47
        · subst h7
          unfold fraction
          rw [c47]
          simp only [cut1, if_true, List.append_nil]
          rw [hdp]; unfold frac1; simp
        · by_cases h6 : d = 46
          · subst h6
            unfold fraction
            rw [c47, c46]
            simp only [cut1, if_neg h7, if_true, List.append_nil]
            split
            · unfold frac1; rw [digs_bad d46]; simp
            · rw [hdp]; unfold frac2; simp
          · exact frac47 d x rfl hd h7 h6
    unfold parse3; rw [hf]
    simp
/-- The text of a number. -/
def text (q : Int × Int) : List UInt8 :=
  if isq q.1 q.2 = true then (if q.2 = 1 then Lib.itoa q.1 else Lib.itoa q.1 ++ 47 :: Lib.itoa q.2) else none4
theorem num_snoc (l : List UInt8) (c : UInt8) : num (l ++ [c]) = 10 * num l + (c.toNat - 48) := by
  unfold num; rw [List.foldl_append]; rfl
theorem digit_byte {u : Nat} (h : u < 10) : (UInt8.ofNat (48 + u)).toNat = 48 + u := by
  rw [UInt8.toNat_ofNat']; omega
theorem dec_all : ∀ u : Nat, (Lib.decDigits u).all isd = true := by
  intro u
  induction u using Nat.strongRecOn with
  | ind u ih =>
    rw [Lib.decDigits]
    split
    · rename_i h
      rw [List.all_cons, List.all_nil, Bool.and_true]; unfold isd; rw [digit_byte h]; exact decide_eq_true (by omega)
    · rename_i h
      rw [List.all_append, ih (u / 10) (by omega), List.all_cons, List.all_nil, Bool.and_true, Bool.true_and]
      unfold isd; rw [digit_byte (Nat.mod_lt _ (by decide))]; exact decide_eq_true (by omega)
theorem dec_num : ∀ u : Nat, num (Lib.decDigits u) = u := by
  intro u
  induction u using Nat.strongRecOn with
  | ind u ih =>
    rw [Lib.decDigits]
    split
    · rename_i h
      have := num_snoc [] (UInt8.ofNat (48 + u))
      rw [List.nil_append, digit_byte h] at this
      rw [this]; show 10 * 0 + _ = _; omega
    · rename_i h
      rw [num_snoc, ih (u / 10) (by omega), digit_byte (Nat.mod_lt _ (by decide))]; omega
theorem dec_len : ∀ (k u : Nat), u < 10 ^ (k + 1) → 1 ≤ (Lib.decDigits u).length ∧ (Lib.decDigits u).length ≤ k + 1
  | 0, u, h => by
    rw [Lib.decDigits, dif_pos (by omega)]; simp
  | k + 1, u, h => by
    rw [Lib.decDigits]
    split
    · simp
    · have hk : u / 10 < 10 ^ (k + 1) := by rw [Nat.pow_succ] at h; omega
      have ih := dec_len k (u / 10) hk
      rw [List.length_append]; simp; omega
theorem dec_digs {u : Nat} (h : u ≤ 1073741824) : digs (Lib.decDigits u) 10 = (u, true) := by
  have hl := dec_len 9 u (by omega)
  unfold digs
  rw [if_pos ⟨hl.1, hl.2, dec_all u⟩, dec_num]
theorem dec_cons {u : Nat} (h : u ≤ 1073741824) : ∃ d x, Lib.decDigits u = d :: x ∧ isd d = true := by
  have hl := dec_len 9 u (by omega)
  have ha := dec_all u
  cases hd : Lib.decDigits u with
  | nil => rw [hd] at hl; simp at hl
  | cons d x => rw [hd, List.all_cons, Bool.and_eq_true] at ha; exact ⟨d, x, rfl, ha.1⟩
/-- What a text of a number is read as, its sign apart. -/
theorem fraction_text {n d : Nat} (hn : n ≤ 1073741824) (hd : 1 ≤ d ∧ d ≤ 1073741824) :
    fraction (Lib.decDigits n ++ (if d = 1 then [] else 47 :: Lib.decDigits d)) = (n, d, true) := by
  have c47 := cut1_append d47 (dec_all n) (if d = 1 then [] else 47 :: Lib.decDigits d)
  have c46 := cut1_append d46 (dec_all n) (if d = 1 then [] else 47 :: Lib.decDigits d)
  unfold fraction
  by_cases h1 : d = 1
  · rw [if_pos h1] at *
    rw [c47, c46]
    simp only [cut1, List.append_nil, Bool.false_eq_true, if_false]
    rw [dec_digs hn]; unfold frac2; simp [h1]
  · rw [if_neg h1] at *
    rw [c47]
    simp only [cut1, if_true, List.append_nil]
    rw [dec_digs hn, dec_digs hd.2]; unfold frac1
    have : (d != 0) = true := by rw [bne_iff_ne]; omega
    simp [this]
theorem parse_text (q : Int × Int) : parse (text q) = (clean q, 0) := by
  obtain ⟨n, d⟩ := q
  unfold text clean
  cases h : isq n d
  · simp only [Bool.false_eq_true, if_false]; rfl
  · have hq := (isq_iff _ _).1 h
    simp only [if_true]
    have hd1 : (d = 1) = (d.natAbs = 1) := by apply propext; omega
    have hdn : Lib.itoa d = Lib.decDigits d.natAbs := by unfold Lib.itoa; rw [if_neg (by omega)]; congr 1; omega
    have htext : (if d = 1 then Lib.itoa n else Lib.itoa n ++ 47 :: Lib.itoa d) = Lib.itoa n ++ (if d.natAbs = 1 then [] else 47 :: Lib.decDigits d.natAbs) := by
      rw [hdn]
      by_cases h1 : d = 1
      · rw [if_pos h1, if_pos (by omega), List.append_nil]
      · rw [if_neg h1, if_neg (by omega)]
    rw [htext]
    have hf := fraction_text (n := n.natAbs) (d := d.natAbs) (by omega) (by omega)
    generalize (if d.natAbs = 1 then [] else 47 :: Lib.decDigits d.natAbs) = r at *
    have hlow : ∀ s : Bool, (s = decide (n < 0)) → low s n.natAbs d.natAbs = (n, d) := by
      intro s hs
      have := mk_id (a := (n, d)) h
      unfold mk at this
      rw [hs]
      have hdd : decide (d < 0) = false := by simp; omega
      rw [hdd] at this
      simpa using this
    have hends : ends (n, d) = ((n, d), 0) := by unfold ends; rw [h]; rfl
    obtain ⟨c, x, hc, hcd⟩ := dec_cons (u := n.natAbs) (by omega)
    by_cases hn : n < 0
    · have hi : Lib.itoa n = 45 :: Lib.decDigits n.natAbs := by unfold Lib.itoa; rw [if_pos hn]
      unfold parse
      rw [hi, if_neg (by rw [List.cons_append]; intro h'; rw [beq_iff_eq] at h'; have := (List.cons.inj h').1; exact absurd this (by decide))]
      have hp : Lib.hasPrefix (45 :: Lib.decDigits n.natAbs ++ r) [45] = true := by unfold Lib.hasPrefix; rfl
      unfold Lib.trimPrefix
      rw [hp, if_pos rfl]
      show parse3 true (fraction (Lib.decDigits n.natAbs ++ r)) = _
      rw [hf]; unfold parse3
      simp only [if_true]
      rw [hlow true (by simp [hn]), hends]
    · have hi : Lib.itoa n = Lib.decDigits n.natAbs := by unfold Lib.itoa; rw [if_neg hn]; congr 1; omega
      have hne : c ≠ 45 := by intro h'; rw [h'] at hcd; exact absurd hcd (by decide)
      have hne2 : c ≠ 110 := by intro h'; rw [h'] at hcd; exact absurd hcd (by decide)
      unfold parse
      rw [hi, if_neg (by rw [hc, List.cons_append]; intro h'; rw [beq_iff_eq] at h'; exact hne2 (List.cons.inj h').1)]
      have hp : Lib.hasPrefix (Lib.decDigits n.natAbs ++ r) [45] = false := by
        unfold Lib.hasPrefix
        rw [hc, List.cons_append]
        simp only [List.isPrefixOf, Bool.and_true, beq_eq_false_iff_ne]
        exact fun h' => hne h'.symm
      unfold Lib.trimPrefix
      rw [hp, if_neg (by decide), hf]
      unfold parse3
      simp only [if_true]
      rw [hlow false (by simp [hn]), hends]
end Q
end Go.Proofs.YtpoalckncfkdgaaDoor
