/-
  Plain mathematics of numbers, part four: the laws of a field in order, as far as no none comes.
-/
import Derived.Test.YtpdklolfkigefaaDoorQv
set_option linter.all false
namespace Go.Proofs.YtpdklolfkigefaaDoor
namespace Q
def ofRat (q : Rat) : Int × Int := if q.num.natAbs > 1073741824 ∨ q.den > 1073741824 then (0, 0) else (q.num, (q.den : Int))
theorem mk_rat {n d : Int} (hd : d ≠ 0) : mk n d = ofRat (Rat.divInt n d) := by
  have key : ∀ n d : Int, 0 < d → mk n d = ofRat (Rat.divInt n d) := fun n d hd => by
    have hg : d.gcd n = n.natAbs.gcd d.natAbs := by unfold Int.gcd; exact Nat.gcd_comm _ _
    have hgp := gcd_pos' n d (by omega)
    have hs : d.sign = 1 := Int.sign_eq_one_of_pos hd
    have hdv : ((n.natAbs.gcd d.natAbs : Nat) : Int) ∣ n := Int.ofNat_dvd_left.2 (Nat.gcd_dvd_left _ _)
    have h1 : (Rat.divInt n d).num = n / ((n.natAbs.gcd d.natAbs : Nat) : Int) := by rw [Rat.num_divInt, hg, hs, Int.one_mul]
    have h2 : (Rat.divInt n d).den = d.natAbs / n.natAbs.gcd d.natAbs := by rw [Rat.den_divInt, if_neg (by omega), hg]
    have h3 : (n / ((n.natAbs.gcd d.natAbs : Nat) : Int)).natAbs = n.natAbs / n.natAbs.gcd d.natAbs := by
      obtain ⟨k, hk⟩ := hdv
      generalize n.natAbs.gcd d.natAbs = g at *
      subst hk
      rw [Int.mul_ediv_cancel_left _ (by omega), Int.natAbs_mul, Int.natAbs_natCast, Nat.mul_div_cancel_left _ hgp]
    unfold ofRat
    rw [h1, h2, h3]
    unfold mk low
    rw [if_neg (by omega)]
    have hn : decide (d < 0) = false := by simp; omega
    rw [hn]
    split
    · rfl
    · by_cases h : n < 0
      · have : n / ((n.natAbs.gcd d.natAbs : Nat) : Int) ≤ 0 := by
          obtain ⟨k, hk⟩ := hdv
          generalize n.natAbs.gcd d.natAbs = g at *
          subst hk
          rw [Int.mul_ediv_cancel_left _ (by omega)]
          apply Int.le_of_not_gt
          intro hk0
          have := Int.mul_pos (show (0 : Int) < (g : Int) by omega) hk0
          omega
        simp only [h, decide_true]
        simp
        omega
      · have := Int.ediv_nonneg (show 0 ≤ n by omega) (show (0 : Int) ≤ ((n.natAbs.gcd d.natAbs : Nat) : Int) by omega)
        simp only [h, decide_false]
        simp
        omega
  by_cases hp : 0 < d
  · exact key n d hp
  · rw [← mk_neg n d hd, key _ _ (by omega)]
    congr 1
    rw [Rat.divInt_eq_divInt_iff (by omega) hd]
    grind
theorem mk_of_val {n d : Int} {a : Int × Int} (hd : d ≠ 0) (ha : isq a.1 a.2 = true) (h : Rat.divInt n d = val a) : mk n d = a := by
  have pa := den_pos ha
  rw [mk_rat hd, h]
  unfold val
  rw [← mk_rat (by omega)]
  exact mk_id ha
theorem none_add {a b : Int × Int} (h : both a b = false) : add a b = (0, 0) ∧ mul a b = (0, 0) ∧ min a b = (0, 0) ∧ mod a b = (0, 0) := by
  unfold add mul min mod; rw [h]; exact ⟨rfl, rfl, rfl, rfl⟩
theorem assoc_law {a b c : Int × Int} (h1 : isq (add (add a b) c).1 (add (add a b) c).2 = true) (h2 : isq (add a (add b c)).1 (add a (add b c)).2 = true) : add (add a b) c = add a (add b c) := by
  have u := val_add h1
  have v := val_add h2
  have u1 := (both_iff _ _).1 u.1
  have v1 := (both_iff _ _).1 v.1
  refine val_inj h1 h2 ?_
  rw [u.2, v.2, (val_add u1.1).2, (val_add v1.2).2, Rat.add_assoc]
theorem distr_law {a b c : Int × Int} (h1 : isq (mul (add a b) c).1 (mul (add a b) c).2 = true) (h2 : isq (add (mul a c) (mul b c)).1 (add (mul a c) (mul b c)).2 = true) : mul (add a b) c = add (mul a c) (mul b c) := by
  have u := val_mul h1
  have v := val_add h2
  have u1 := (both_iff _ _).1 u.1
  have v1 := (both_iff _ _).1 v.1
  refine val_inj h1 h2 ?_
  rw [u.2, v.2, (val_add u1.1).2, (val_mul v1.1).2, (val_mul v1.2).2, Rat.add_mul]
theorem div_law {a b : Int × Int} (h : isq (div a b).1 (div a b).2 = true) : mul (div a b) b = clean a := by
  have u := val_div h
  have u1 := (both_iff _ _).1 u.1
  have hb0 : val b ≠ 0 := fun h0 => u.2.1 ((val_zero u1.2).1 h0)
  have hc : clean a = a := by unfold clean; rw [if_pos u1.1]
  have hb : both (div a b) b = true := (both_iff _ _).2 ⟨h, u1.2⟩
  have p1 := den_pos h
  have p2 := den_pos u1.2
  rw [hc]
  unfold mul
  rw [if_pos hb]
  refine mk_of_val (Int.ne_of_gt (Int.mul_pos p1 p2)) u1.1 ?_
  rw [← Rat.divInt_mul_divInt]
  show val (div a b) * val b = val a
  rw [u.2.2]
  grind
theorem order_law {a b c : Int × Int} (h : both a b = true) (h1 : isq (add a c).1 (add a c).2 = true) (h2 : isq (add b c).1 (add b c).2 = true) : cmp a b = cmp (add a c) (add b c) := by
  have h12 : both (add a c) (add b c) = true := (both_iff _ _).2 ⟨h1, h2⟩
  rw [val_cmp h, val_cmp h12]
  simp only [(val_add h1).2, (val_add h2).2, Rat.add_lt_add_right]
end Q
end Go.Proofs.YtpdklolfkigefaaDoor
