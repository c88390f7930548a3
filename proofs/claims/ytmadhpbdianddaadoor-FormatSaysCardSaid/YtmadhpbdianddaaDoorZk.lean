/-
  Plain mathematics of formats, part three: codes there and back, whole turns.
-/
import Derived.Test.YtmadhpbdianddaaDoorVi
namespace Go.Proofs.YtmadhpbdianddaaDoor
open Go.RowKit
namespace Z
theorem mk_num {n d : Int} (hn : -1073741824 ≤ n ∧ n ≤ 1073741824) (hd : 1 ≤ d ∧ d ≤ 1073741824) : Q.isq (Q.mk n d).1 (Q.mk n d).2 = true := by
  rcases Q.mk_isq n d with h | h
  · exfalso
    unfold Q.mk Q.low at h
    have hg := Q.gcd_pos' n d (by omega)
    have h1 := Nat.div_le_self n.natAbs (n.natAbs.gcd d.natAbs)
    have h2 := Nat.div_le_self d.natAbs (n.natAbs.gcd d.natAbs)
    have h3 : 0 < d.natAbs / n.natAbs.gcd d.natAbs := Nat.div_pos (Nat.le_of_dvd (by omega) (Nat.gcd_dvd_right _ _)) hg
    rw [if_neg (by omega), if_neg (by omega)] at h
    have := congrArg Prod.snd h
    simp only at this
    omega
  · exact h
/-- A value's own fraction. -/
structure Val (F : Nat) (k n d : Int) : Prop where
  q : Q.isq n d = true
  e : Q.mk k (2 ^ F) = (n, d)
  c : n * 2 ^ F = k * d
  t : n * (2 ^ F / d) = k
theorem val_of {I F : Nat} {k : Int} (h : I + F ≤ 30) (hk : -(2 ^ (I + F)) ≤ k ∧ k < 2 ^ (I + F)) : Val F k (Q.mk k (2 ^ F)).1 (Q.mk k (2 ^ F)).2 := by
  have hp := pb_of h
  have hq := mk_num (n := k) (d := 2 ^ F) (by have := hp.h; omega) (by have := hp.f; omega)
  have hc := Q.mk_cross (n := k) (d := 2 ^ F) (by have := hp.f; omega) hq
  refine ⟨hq, rfl, hc, ?_⟩
  obtain ⟨a1, a2, a3, a4, a5⟩ := (Q.isq_iff _ _).1 hq
  generalize (Q.mk k (2 ^ F)).1 = n at *
  generalize (Q.mk k (2 ^ F)).2 = d at *
  have hd : d.natAbs ∣ (2 ^ F : Int).natAbs := by
    have h1 : d.natAbs ∣ n.natAbs * (2 ^ F : Int).natAbs := by
      rw [← Int.natAbs_mul, hc, Int.natAbs_mul]; exact Nat.dvd_mul_left _ _
    exact Nat.Coprime.dvd_of_dvd_mul_left (by unfold Nat.Coprime; rw [Nat.gcd_comm]; exact a5) h1
  have hd' : d ∣ (2 ^ F : Int) := Int.natAbs_dvd_natAbs.1 hd
  obtain ⟨t, ht⟩ := hd'
  rw [ht, Int.mul_ediv_cancel_left _ (by omega)]
  rw [ht] at hc
  have : d * (n * t) = d * k := by rw [Int.mul_left_comm, hc, Int.mul_comm]
  exact Int.eq_of_mul_eq_mul_left (by omega) this
theorem val_fix {o m I F : Nat} {k n d : Int} (h : I + F ≤ 30) (hk : -(2 ^ (I + F)) ≤ k ∧ k < 2 ^ (I + F)) (v : Val F k n d) : fixV o m I F n d = (n, d) := by
  obtain ⟨a1, a2, a3, a4, a5⟩ := (Q.isq_iff _ _).1 v.q
  have hr : rnd m (n * 2 ^ F) d = k := by rw [v.c]; exact rnd_exact m k d (by omega)
  have hp := (pb_of h).h
  unfold fixV
  rw [hr]
  split
  · rw [← v.e]
    congr 1
    have : (k + 2 ^ (I + F)) % (2 * 2 ^ (I + F)) = k + 2 ^ (I + F) := Int.emod_eq_of_lt (by omega) (by omega)
    omega
  · exact v.e
theorem code_value {k r o : ByteArray} {I F c : Int} (hx : isfx k r o I F = true) (hc : 0 ≤ c ∧ c < 2 * 2 ^ (I.toNat + F.toNat)) :
    valQ k r o I F c = ((valQ k r o I F c).1, 0) ∧ codQ k r o I F (valQ k r o I F c).1.1 (valQ k r o I F c).1.2 = (c, 0) := by
  have hx' := hx
  unfold isfx at hx'
  rw [Bool.and_eq_true] at hx'
  obtain ⟨m, i, f, hm, hm2, hr, rfl, rfl, hs⟩ := vld_open hx'.1
  simp only [show ((i : Int)).toNat = i by omega, show ((f : Int)).toNat = f by omega] at hc
  have e : valQ k r o (i : Int) (f : Int) c = (Q.mk (if 2 ^ (i + f) ≤ c then c - 2 * 2 ^ (i + f) else c) (2 ^ f), 0) := by
    unfold valQ; rw [hx]; simp only [show ((i : Int)).toNat = i by omega, show ((f : Int)).toNat = f by omega]
    rw [if_pos ⟨trivial, hc⟩]
  rw [e]
  refine ⟨rfl, ?_⟩
  obtain ⟨x, hxx⟩ : ∃ x, x = (if 2 ^ (i + f) ≤ c then c - 2 * 2 ^ (i + f) else c) := ⟨_, rfl⟩
  have hp := (pb_of hs).h
  have hxb : -(2 ^ (i + f)) ≤ x ∧ x < 2 ^ (i + f) := by rw [hxx]; split <;> omega
  have hxc : (if x < 0 then x + 2 * 2 ^ (i + f) else x) = c := by rw [hxx]; split <;> split <;> omega
  rw [← hxx]
  have v := val_of hs hxb
  generalize (Q.mk x (2 ^ f)).1 = n at *
  generalize (Q.mk x (2 ^ f)).2 = d at *
  have hfit : fitQ k r o (i : Int) (f : Int) n d = (n, d) := by
    unfold fitQ fitV
    rw [v.q, hx'.1, if_pos (show (true && true) = true from rfl), if_pos hx'.2]
    exact val_fix hs hxb v
  unfold codQ isQ
  rw [hx, hfit, v.q]
  simp only [if_true, beq_self_eq_true, Bool.and_self]
  unfold cod
  simp only [show ((i : Int)).toNat = i by omega, show ((f : Int)).toNat = f by omega]
  rw [v.t, hxc]
/-- A whole turn more. -/
theorem fit_turn {k r o : ByteArray} {I F an ad : Int} (hx : isfx k r o I F = true) (ho : (o.toList == [119, 114, 97, 112]) = true) (hz : (r.toList == [122, 101, 114, 111]) = false)
    (hq : Q.isq (Q.add (an, ad) (Q.mk (2 ^ (I.toNat + 1)) 1)).1 (Q.add (an, ad) (Q.mk (2 ^ (I.toNat + 1)) 1)).2 = true) :
    fitQ k r o I F (Q.add (an, ad) (Q.mk (2 ^ (I.toNat + 1)) 1)).1 (Q.add (an, ad) (Q.mk (2 ^ (I.toNat + 1)) 1)).2 = fitQ k r o I F an ad := by
  have hx' := hx
  unfold isfx at hx'
  rw [Bool.and_eq_true] at hx'
  obtain ⟨m, i, f, hm, hm2, hr, rfl, rfl, hs⟩ := vld_open hx'.1
  simp only [show ((i : Int)).toNat = i by omega] at hq ⊢
  have hb := Q.none_of hq
  have hb' := (Q.both_iff _ _).1 hb
  have hT : Q.mk (2 ^ (i + 1)) 1 = (2 ^ (i + 1), 1) := by
    have h31 := p2_31 (i + 1) (by omega)
    by_cases h30 : (2 : Int) ^ (i + 1) ≤ 1073741824
    · exact (Q.mk_one (by omega)).1
    · exfalso
      have h2 := hb'.2
      rcases Q.mk_isq (2 ^ (i + 1)) 1 with h3 | h3
      · rw [h3] at h2; exact absurd h2 (by decide)
      · have h4 := Q.mk_cross (n := 2 ^ (i + 1)) (d := 1) (by decide) h3
        have h5 := (Q.isq_iff _ _).1 h3
        rw [Int.mul_one] at h4
        have h6 : (2 : Int) ^ (i + 1) * 1 ≤ 2 ^ (i + 1) * (Q.mk (2 ^ (i + 1)) 1).2 := Int.mul_le_mul_of_nonneg_left h5.2.2.1 (by omega)
        omega
  rw [hT] at hq hb ⊢
  have hadd : Q.add (an, ad) (2 ^ (i + 1), 1) = Q.mk (an * 1 + 2 ^ (i + 1) * ad) (ad * 1) := by unfold Q.add; rw [if_pos hb]
  rw [hadd] at hq ⊢
  rw [Int.mul_one, Int.mul_one] at hq ⊢
  have ha := (Q.isq_iff _ _).1 hb'.1
  simp only at ha
  have hcr := Q.mk_cross (n := an + 2 ^ (i + 1) * ad) (d := ad) (by omega) hq
  have hqq := (Q.isq_iff _ _).1 hq
  generalize (Q.mk (an + 2 ^ (i + 1) * ad) ad).1 = n at *
  generalize (Q.mk (an + 2 ^ (i + 1) * ad) ad).2 = d at *
  have hqa : Q.isq an ad = true := hb'.1
  unfold fitQ fitV
  rw [hq, hqa, hx'.1, if_pos (show (true && true) = true from rfl), if_pos (show (true && true) = true from rfl), if_pos hx'.2, if_pos hx'.2]
  unfold fixV
  rw [if_pos (ov_wrap ho), if_pos (ov_wrap ho)]
  have hm1 : rdm r < 2 := by
    unfold rdm; rw [hz]; split <;> simp
  have hp := (pb_of hs).h
  have e1 : rnd (rdm r) (n * 2 ^ f) d = rnd (rdm r) (an * 2 ^ f + (2 * 2 ^ (i + f)) * ad) ad := by
    apply rnd_cross _ _ _ _ _ (by omega) (by omega)
    have e2 : an * 2 ^ f + 2 * 2 ^ (i + f) * ad = (an + 2 ^ (i + 1) * ad) * 2 ^ f := by
      rw [Int.add_mul]
      congr 1
      have e5 : (2 : Int) ^ (i + 1) * 2 ^ f = 2 * 2 ^ (i + f) := by rw [← p2_add, show i + 1 + f = i + f + 1 by omega, Int.pow_succ, Int.mul_comm]
      rw [Int.mul_right_comm (2 ^ (i + 1)) ad, e5]
    rw [e2, Int.mul_right_comm, hcr, Int.mul_right_comm]
  have e3 : rnd (rdm r) (an * 2 ^ f + (2 * 2 ^ (i + f)) * ad) ad = rnd (rdm r) (an * 2 ^ f) ad + 2 * 2 ^ (i + f) := by
    apply rnd_add _ _ _ _ (by omega)
    have : rdm r = 0 ∨ rdm r = 1 := by omega
    rcases this with h | h
    · exact Or.inl h
    · exact Or.inr (Or.inr (Or.inl ⟨h, by omega⟩))
  simp only [show ((i : Int)).toNat = i by omega, show ((f : Int)).toNat = f by omega]
  rw [e1, e3]
  congr 2
  rw [show rnd (rdm r) (an * 2 ^ f) ad + 2 * 2 ^ (i + f) + 2 ^ (i + f) = rnd (rdm r) (an * 2 ^ f) ad + 2 ^ (i + f) + 2 * 2 ^ (i + f) by omega, Int.add_emod_right]
end Z
end Go.Proofs.YtmadhpbdianddaaDoor
