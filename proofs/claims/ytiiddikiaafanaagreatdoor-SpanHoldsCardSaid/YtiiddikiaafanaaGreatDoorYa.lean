import Derived.Test.YtiiddikiaafanaaGreatDoorZf
import Derived.Test.YtiiddikiaafanaaGreatDoorZl
set_option linter.all false
/-
  Plain mathematics of formats, part three: what the fields of a format say, and what a fraction comes to. No program, no memory.
-/
namespace Go.Proofs.YtiiddikiaafanaaGreatDoor
open Go.RowKit
namespace Z
def hsz (k : ByteArray) (I F : Int) : Bool := if k.toList == [102, 105, 120] then decide (0 ≤ I ∧ I ≤ 30 ∧ 0 ≤ F ∧ F ≤ 30 ∧ I + F ≤ 30) else if k.toList == [102, 108, 111, 97, 116] then decide (1 ≤ I ∧ I ≤ 24 ∧ 0 ≤ F ∧ F ≤ 20 ∧ I + F ≤ 30) else false
end Z
namespace Z
def hrd (r : ByteArray) : Bool := (r.toList == [102, 108, 111, 111, 114]) || (r.toList == [110, 101, 97, 114]) || (r.toList == [122, 101, 114, 111])
end Z
namespace Z
def hov (k o : ByteArray) : Bool := (o.toList == [115, 97, 116]) || (o.toList == [110, 111, 110, 101]) || ((o.toList == [119, 114, 97, 112]) && (k.toList == [102, 105, 120]))
end Z
namespace Z
def vld (k r o : ByteArray) (I F : Int) : Bool := hsz k I F && hrd r && hov k o
end Z
theorem lit_ne {l : List UInt8} {a b : List UInt8} (h : (l == a) = true) (hab : (a == b) = false) : (l == b) = false := by
  rw [beq_iff_eq] at h; subst h; exact hab
def rnm (m : Nat) : ByteArray := if m = 0 then ⟨#[102, 108, 111, 111, 114]⟩ else if m = 1 then ⟨#[110, 101, 97, 114]⟩ else ⟨#[122, 101, 114, 111]⟩
theorem vld_parts {k r o : ByteArray} {I F : Int} (h : Z.vld k r o I F = true) : 0 ≤ I ∧ I ≤ 30 ∧ 0 ≤ F ∧ F ≤ 30 ∧ I + F ≤ 30 ∧ ((k.toList == [102, 105, 120]) = false → (k.toList == [102, 108, 111, 97, 116]) = true ∧ 1 ≤ I ∧ I ≤ 24 ∧ F ≤ 20 ∧ (o.toList == [119, 114, 97, 112]) = false) := by
  unfold Z.vld Z.hsz at h
  rw [Bool.and_eq_true, Bool.and_eq_true] at h
  obtain ⟨⟨h1, h2⟩, h3⟩ := h
  split at h1
  · rename_i hk
    have := of_decide_eq_true h1
    exact ⟨by omega, by omega, by omega, by omega, by omega, fun hh => by rw [hk] at hh; cases hh⟩
  · split at h1
    · rename_i hk hf
      have := of_decide_eq_true h1
      refine ⟨by omega, by omega, by omega, by omega, by omega, fun hh => ⟨hf, by omega, by omega, by omega, ?_⟩⟩
      cases ho : (o.toList == [119, 114, 97, 112])
      · rfl
      · unfold Z.hov at h3
        rw [hh, lit_ne ho (b := [115, 97, 116]) (by decide), lit_ne ho (b := [110, 111, 110, 101]) (by decide), ho] at h3
        cases h3
    · cases h1
theorem vld_float {k r o : ByteArray} {I F : Int} (h : Z.vld k r o I F = true) : (k.toList == [102, 108, 111, 97, 116]) = !(k.toList == [102, 105, 120]) := by
  cases hk : (k.toList == [102, 105, 120])
  · exact ((vld_parts h).2.2.2.2.2 hk).1
  · exact lit_ne hk (by decide)
structure PB (I F : Nat) : Prop where
  s : I + F ≤ 30
  i : (1 : Int) ≤ 2 ^ I ∧ (2 : Int) ^ I ≤ 1073741824
  h : (1 : Int) ≤ 2 ^ (I + F) ∧ (2 : Int) ^ (I + F) ≤ 1073741824
  f : (1 : Int) ≤ 2 ^ F ∧ (2 : Int) ^ F ≤ 1073741824
theorem pb_of {I F : Nat} (h : I + F ≤ 30) : PB I F := ⟨h, Z.p2_30 I (by omega), Z.p2_30 _ h, Z.p2_30 F (by omega)⟩
theorem top_bd {I F : Nat} (h : I + F ≤ 30) : 0 ≤ (2 ^ I - 1 : Int) * 2 ^ F ∧ (2 ^ I - 1 : Int) * 2 ^ F ≤ 1073741824 := by
  have p := pb_of h
  constructor
  · exact Int.mul_nonneg (by have := p.i; omega) (by have := p.f; omega)
  · have : (2 ^ I - 1 : Int) * 2 ^ F ≤ 2 ^ I * 2 ^ F := Int.mul_le_mul_of_nonneg_right (by omega) (by have := p.f; omega)
    rw [← Z.p2_add] at this
    have := p.h
    omega
def ovn (o : ByteArray) : Nat := if o.toList == [110, 111, 110, 101] then 2 else if o.toList == [119, 114, 97, 112] then 1 else 0
theorem i64_mask (n : Int) (j : Nat) (hj : j ≤ 62) : bits .and .i64 n (2 ^ j - 1) = n % 2 ^ j := by
  have hp := Z.p2_bd j hj
  have hc : ((2 ^ j : Nat) : Int) = (2 : Int) ^ j := by simp
  have hm : (BitVec.ofInt 64 (2 ^ j - 1)).toNat = 2 ^ j - 1 := by
    rw [BitVec.toNat_ofInt]
    rw [← hc] at hp ⊢
    generalize 2 ^ j = x at *
    omega
  have key : (BitVec.ofInt 64 n &&& BitVec.ofInt 64 (2 ^ j - 1)).toNat = (n % ((2 ^ 64 : Nat) : Int)).toNat % 2 ^ j := by
    rw [BitVec.toNat_and, BitVec.toNat_ofInt, hm, Nat.and_two_pow_sub_one_eq_mod]
  show IntKind.i64.wrap ((BitVec.ofInt 64 n &&& BitVec.ofInt 64 (2 ^ j - 1)).toNat : Nat) = n % 2 ^ j
  rw [key, IntKind.wrap_i64]
  have e1 : (((n % ((2 ^ 64 : Nat) : Int)).toNat % 2 ^ j : Nat) : Int) = n % 2 ^ j := by
    have h0 : ((n % ((2 ^ 64 : Nat) : Int)).toNat : Int) = n % ((2 ^ 64 : Nat) : Int) := Int.toNat_of_nonneg (Int.emod_nonneg _ (by decide))
    rw [Int.natCast_emod, h0, hc]
    have hd : (2 : Int) ^ j ∣ ((2 ^ 64 : Nat) : Int) := by
      refine ⟨2 ^ (64 - j), ?_⟩
      rw [← Z.p2_add, show j + (64 - j) = 64 by omega]; rfl
    exact Int.emod_emod_of_dvd n hd
  rw [e1]
  have h1 := Int.emod_nonneg n (show (2 : Int) ^ j ≠ 0 by omega)
  have h2 := Int.emod_lt_of_pos n (show (0 : Int) < 2 ^ j by omega)
  generalize n % 2 ^ j = y at *
  omega
theorem fix_below {I F m : Nat} {n d : Int} (h : I + F ≤ 30) (hd : 1 ≤ d) (hb : Z.below n d ((I + 1 : Nat) : Int) = true) : (n.natAbs : Int) * 2 ^ F ≤ 2305843009213693952 * d ∧ -(2 * 2 ^ (I + F)) ≤ Z.rndE m n d (F : Int) ∧ Z.rndE m n d (F : Int) ≤ 2 * 2 ^ (I + F) := by
  refine ⟨?_, by rw [Z.rndE_pos]; exact Z.fix_small m I F n d (by omega) hb⟩
  rw [Z.below_pos, decide_eq_true_iff] at hb
  have hp := pb_of h
  have h3 : (n.natAbs : Int) * 2 ^ F ≤ d * 2 ^ (I + 1) * 2 ^ F := Int.mul_le_mul_of_nonneg_right (by omega) (by have := hp.f; omega)
  have e : d * 2 ^ (I + 1) * 2 ^ F = 2 * 2 ^ (I + F) * d := by
    rw [Int.mul_assoc, ← Z.p2_add, Int.mul_comm d, show I + 1 + F = I + F + 1 by omega, Int.pow_succ, Int.mul_comm (2 ^ (I + F)) 2]
  have h4 : 2 * 2 ^ (I + F) * d ≤ 2305843009213693952 * d := Int.mul_le_mul_of_nonneg_right (by have := hp.h; omega) (by omega)
  omega
theorem fix_rest {I : Nat} {n d : Int} (hn : -2305843009213693952 ≤ n ∧ n ≤ 2305843009213693952) (hd : 1 ≤ d) (hb : Z.below n d ((I + 1 : Nat) : Int) = false) :
    d * 2 ^ (I + 1) ≤ 2305843009213693952 ∧ 1 ≤ d * 2 ^ (I + 1) ∧ Z.below (n.tmod (d * 2 ^ (I + 1))) d ((I + 1 : Nat) : Int) = true ∧ (-2305843009213693952 ≤ n.tmod (d * 2 ^ (I + 1)) ∧ n.tmod (d * 2 ^ (I + 1)) ≤ 2305843009213693952) := by
  rw [Z.below_pos, decide_eq_false_iff_not] at hb
  have hp := Z.p2_pos (I + 1)
  have h1 : 0 < d * 2 ^ (I + 1) := Int.mul_pos (by omega) (by omega)
  have h2 := Q.tmod_lt n (d * 2 ^ (I + 1)) (by omega)
  rw [Z.below_pos, decide_eq_true_iff]
  generalize d * 2 ^ (I + 1) = D at *
  omega
theorem fix_wrapped {m I F : Nat} {n d : Int} (hm : m ≤ 2) (hd : 1 ≤ d) :
    (Z.rndE m (n.tmod (d * 2 ^ (I + 1))) d (F : Int) + 2 ^ (I + F)) % (2 * 2 ^ (I + F)) = (Z.rndE m n d (F : Int) + 2 ^ (I + F)) % (2 * 2 ^ (I + F)) := by
  rw [Z.rndE_pos, Z.rndE_pos]
  have hp := Z.p2_pos (I + 1)
  have h1 : 0 < d * 2 ^ (I + 1) := Int.mul_pos (by omega) (by omega)
  have e : n - n.tdiv (d * 2 ^ (I + 1)) * (d * 2 ^ (I + 1)) = n.tmod (d * 2 ^ (I + 1)) := by
    have := Int.mul_tdiv_add_tmod n (d * 2 ^ (I + 1)); rw [Int.mul_comm] at this; omega
  rw [← e]
  refine Z.fix_turns m m I F n d _ (by omega) ?_
  rw [e]
  by_cases h2 : m < 2
  · exact Or.inl ⟨rfl, h2⟩
  · refine Or.inr (Or.inl ⟨rfl, by omega, ?_⟩)
    by_cases h0 : n.tmod (d * 2 ^ (I + 1)) = 0
    · exact Or.inl h0
    · right
      by_cases hn : 0 ≤ n
      · have := Int.tmod_nonneg (d * 2 ^ (I + 1)) hn; omega
      · have : n.tmod (d * 2 ^ (I + 1)) = -((-n).tmod (d * 2 ^ (I + 1))) := by rw [Int.neg_tmod]; omega
        have h3 := Int.tmod_nonneg (d * 2 ^ (I + 1)) (show 0 ≤ -n by omega)
        omega
theorem flo_at {I F m : Nat} {n d X : Int} (h : I + F ≤ 30) (hI : 1 ≤ I) (hn : -2305843009213693952 ≤ n ∧ n ≤ 2305843009213693952) (hd : 1 ≤ d ∧ d ≤ 1152921504606846976) (hX : Z.expo I F n d = X) (hF : X ≤ F) :
    -(F : Int) ≤ X ∧ (n.natAbs : Int) * 2 ^ (-X).toNat ≤ 2305843009213693952 * (d * 2 ^ (- -X).toNat) ∧ d * 2 ^ (- -X).toNat ≤ 2305843009213693952 ∧ -(2 ^ I) ≤ Z.rndE m n d (-X) ∧ Z.rndE m n d (-X) ≤ 2 ^ I := by
  obtain ⟨s1, s2, s3, s4⟩ := Z.flx_spec I n d (2 * F + 1) (-(F : Int))
  unfold Z.expo at hX
  rw [hX] at s1 s2 s3 s4
  have hp := pb_of h
  have hb := s3 (by omega)
  rw [Z.below_iff n d _ (I + X.toNat) (-X).toNat (by omega)] at hb
  rw [show - -X = X by omega]
  have hpx := Z.p2_pos X.toNat
  have hD0 : 0 < d * 2 ^ X.toNat := Int.mul_pos (by omega) (by omega)
  have e1 : d * 2 ^ (I + X.toNat) = 2 ^ I * (d * 2 ^ X.toNat) := by rw [Z.p2_add, Int.mul_left_comm]
  have hD : d * 2 ^ X.toNat ≤ 2305843009213693952 := by
    by_cases hx : X ≤ 0
    · rw [show X.toNat = 0 by omega, Int.pow_zero]; omega
    · have hnb := s4 (X - 1) (by omega) (by omega)
      have : ¬ Z.below n d (I + (X - 1)) = true := by rw [hnb]; decide
      rw [Z.below_iff n d _ ((I - 1) + X.toNat) 0 (by omega), Int.pow_zero, Int.mul_one, Z.p2_add, Int.mul_left_comm] at this
      have h1 := Z.p2_pos (I - 1)
      have h2 : 1 * (d * 2 ^ X.toNat) ≤ 2 ^ (I - 1) * (d * 2 ^ X.toNat) := Int.mul_le_mul_of_nonneg_right h1 (by omega)
      omega
  refine ⟨s1, ?_, hD, ?_⟩
  · have h1 : 2 ^ I * (d * 2 ^ X.toNat) ≤ 2305843009213693952 * (d * 2 ^ X.toNat) := Int.mul_le_mul_of_nonneg_right (by have := hp.i; omega) (by omega)
    omega
  · unfold Z.rndE
    rw [show (- -X).toNat = X.toNat by omega]
    exact Z.rnd_small m _ _ _ hD0 (by rw [Z.natAbs_p2]; omega)
theorem flo_pw {I F : Nat} {M X : Int} (h : I + F ≤ 30) (hF : X ≤ F) (hM : -(2 ^ I) ≤ M ∧ M ≤ 2 ^ I) : -4611686018427387904 ≤ M * 2 ^ X.toNat ∧ M * 2 ^ X.toNat ≤ 4611686018427387904 := by
  have hp := pb_of h
  have h1 := Z.p2_pos X.toNat
  have h2 : (2 : Int) ^ X.toNat ≤ 2 ^ F := Z.p2_mono (by omega)
  have h3 : (2 : Int) ^ I * 2 ^ X.toNat ≤ 2 ^ I * 2 ^ F := Int.mul_le_mul_of_nonneg_left h2 (by have := hp.i; omega)
  have h6 := Z.p2_add I F
  have h4 : M * 2 ^ X.toNat ≤ 2 ^ I * 2 ^ X.toNat := Int.mul_le_mul_of_nonneg_right hM.2 (by omega)
  have h5 : -(2 ^ I) * 2 ^ X.toNat ≤ M * 2 ^ X.toNat := Int.mul_le_mul_of_nonneg_right hM.1 (by omega)
  rw [Int.neg_mul] at h5
  have := hp.h
  omega
theorem ov_wrap {o : ByteArray} (h : (o.toList == [119, 114, 97, 112]) = true) : ovn o = 1 := by
  unfold ovn; rw [lit_ne h (b := [110, 111, 110, 101]) (by decide), h]; rfl
theorem ov_not {o : ByteArray} (h : (o.toList == [119, 114, 97, 112]) = false) : ovn o ≠ 1 := by
  unfold ovn; rw [h]; cases (o.toList == [110, 111, 110, 101]) <;> decide
def Z.fitV (k o : ByteArray) (m I F : Nat) (n d : Int) : Int × Int := if (k.toList == [102, 105, 120]) = true then Z.fixV (ovn o) m I F n d else Z.floatV (ovn o) m I F n d
theorem of_list {s : ByteArray} {l : List UInt8} (h : (s.toList == l) = true) : s = ⟨l.toArray⟩ := by
  rw [beq_iff_eq, ByteArray.toList_eq] at h
  cases s with | mk d => cases d with | mk l' => simp at h; rw [h]
namespace Z
def rdm (r : ByteArray) : Nat := if r.toList == [110, 101, 97, 114] then 1 else if r.toList == [122, 101, 114, 111] then 2 else 0
end Z
namespace Z
theorem rdm_le (r : ByteArray) : rdm r ≤ 2 := by unfold rdm; split <;> (try split) <;> omega
end Z
namespace Z
theorem rnm_rdm {r : ByteArray} (h : hrd r = true) : rnm (rdm r) = r := by
  unfold rdm
  cases h1 : (r.toList == [110, 101, 97, 114])
  · cases h2 : (r.toList == [122, 101, 114, 111])
    · unfold hrd at h; rw [h1, h2] at h
      rw [of_list (show (r.toList == [102, 108, 111, 111, 114]) = true by simpa using h)]; rfl
    · rw [of_list h2]; rfl
  · rw [of_list h1]; rfl
end Z
namespace Z
def fitQ (k r o : ByteArray) (I F n d : Int) : Int × Int := if (Q.isq n d && vld k r o I F) = true then fitV k o (rdm r) I.toNat F.toNat n d else (0, 0)
end Z
namespace Z
def lstQ (k r o : ByteArray) (I F : Int) : Int × Int := if vld k r o I F = true then lst (k.toList == [102, 105, 120]) I.toNat F.toNat else (0, 0)
end Z
namespace Z
def grtQ (k r o : ByteArray) (I F : Int) : Int × Int := if vld k r o I F = true then grt (k.toList == [102, 105, 120]) I.toNat F.toNat else (0, 0)
end Z
namespace Z
def stpQ (k r o : ByteArray) (I F : Int) : Int × Int := if vld k r o I F = true then Q.mk 1 (2 ^ F.toNat) else (0, 0)
end Z
theorem vld_open {k r o : ByteArray} {I F : Int} (h : Z.vld k r o I F = true) : ∃ (m : Nat) (i f : Nat), m = Z.rdm r ∧ m ≤ 2 ∧ r = rnm m ∧ I = i ∧ F = f ∧ i + f ≤ 30 := by
  obtain ⟨p1, p2, p3, p4, p5, p6⟩ := vld_parts h
  obtain ⟨i, rfl⟩ := Int.eq_ofNat_of_zero_le p1
  obtain ⟨f, rfl⟩ := Int.eq_ofNat_of_zero_le p3
  have hr : Z.hrd r = true := by unfold Z.vld at h; simp only [Bool.and_eq_true] at h; exact h.1.2
  exact ⟨_, i, f, rfl, Z.rdm_le r, (Z.rnm_rdm hr).symm, rfl, rfl, by omega⟩
def rnmR (m : Nat) : ByteArray := if m = 0 then ⟨#[102, 108, 111, 111, 114]⟩ else if m = 1 then ⟨#[110, 101, 97, 114]⟩ else if m = 2 then ⟨#[122, 101, 114, 111]⟩ else ⟨#[117, 112]⟩
namespace Z
theorem split_div {w d r : Int} (hd : 0 < d) (hr : 0 ≤ r ∧ r < d) : (w * d + r) / d = w ∧ (w * d + r) % d = r :=
  (Int.ediv_emod_unique hd).2 ⟨by rw [Int.mul_comm d w]; omega, hr⟩
end Z
namespace Z
theorem split_neg {w d r : Int} (hd : 0 < d) (hr : 0 ≤ r ∧ r < d) : w * d + r < 0 ↔ w < 0 := by
  constructor
  · intro h; apply Classical.byContradiction; intro hc
    have := Int.mul_nonneg (show 0 ≤ w by omega) (show 0 ≤ d by omega); omega
  · intro h
    have : (w + 1) * d ≤ 0 * d := Int.mul_le_mul_of_nonneg_right (by omega) (by omega)
    rw [Int.add_mul] at this; omega
end Z
namespace Z
theorem rnd_split (m : Nat) {w d r : Int} (hd : 0 < d) (hr : 0 ≤ r ∧ r < d) : rnd m (w * d + r) d = if m = 1 then (if d < 2 * r ∨ (2 * r = d ∧ w % 2 ≠ 0) then w + 1 else w) else if m = 2 then (if w < 0 ∧ r ≠ 0 then w + 1 else w) else if m = 3 then (if r ≠ 0 then w + 1 else w) else w := by
  obtain ⟨e1, e2⟩ := split_div (w := w) hd hr
  unfold rnd
  rw [e1, e2]
  simp only [split_neg hd hr]
end Z
namespace Z
theorem low_bd {u l d r : Int} (hd : 0 < d) (hr : 0 ≤ r ∧ r < d) (hl : 0 ≤ l ∧ l < u) : 0 ≤ l * d + r ∧ l * d + r < u * d := by
  have h1 := Int.mul_nonneg hl.1 (show 0 ≤ d by omega)
  have h2 : (l + 1) * d ≤ u * d := Int.mul_le_mul_of_nonneg_right (by omega) (by omega)
  rw [Int.add_mul] at h2
  omega
end Z
namespace Z
theorem rnd_split2 (m : Nat) {w u l d r : Int} (hd : 0 < d) (hu : 0 < u) (hr : 0 ≤ r ∧ r < d) (hl : 0 ≤ l ∧ l < u) : rnd m ((w * u + l) * d + r) (d * u) = if m = 1 then (if u * d < 2 * (l * d + r) ∨ (2 * (l * d + r) = u * d ∧ w % 2 ≠ 0) then w + 1 else w) else if m = 2 then (if w < 0 ∧ l * d + r ≠ 0 then w + 1 else w) else if m = 3 then (if l * d + r ≠ 0 then w + 1 else w) else w := by
  have hb := low_bd hd hr hl
  have e : (w * u + l) * d + r = w * (u * d) + (l * d + r) := by rw [Int.add_mul, Int.mul_assoc]; omega
  rw [e, Int.mul_comm d u]
  exact rnd_split m (Int.mul_pos hu hd) hb
end Z
namespace Z
theorem tmod_two (w : Int) : w.tmod 2 = 0 ↔ w % 2 = 0 := by
  have h1 := Int.mul_tdiv_add_tmod w 2
  have h2 := Q.tmod_lt w 2 (by decide)
  omega
end Z
namespace Z
theorem low_cases {u l d r : Int} (hd : 0 < d) (hr : 0 ≤ r ∧ r < d) : (l * 2 > u → u * d < 2 * (l * d + r)) ∧ (l * 2 = u → 2 * (l * d + r) = u * d + 2 * r) ∧ (l * 2 ≤ u - 2 → 2 * (l * d + r) < u * d) ∧ (0 < l → 0 < l * d + r) ∧ (l = 0 → l * d + r = r) := by
  refine ⟨fun h => ?_, fun h => ?_, fun h => ?_, fun h => ?_, fun h => by rw [h, Int.zero_mul, Int.zero_add]⟩
  · have : (u + 1) * d ≤ (l * 2) * d := Int.mul_le_mul_of_nonneg_right (by omega) (by omega)
    rw [Int.add_mul, Int.mul_right_comm l 2 d] at this; omega
  · rw [← h, Int.mul_right_comm l 2 d]; omega
  · have : (l * 2) * d ≤ (u - 2) * d := Int.mul_le_mul_of_nonneg_right (by omega) (by omega)
    rw [Int.sub_mul, Int.mul_right_comm l 2 d] at this; omega
  · have := Int.mul_pos h hd; omega
end Z
namespace Z
def near (n d k : Int) : Bool := decide (-1099511627776 ≤ rndE 0 n d k ∧ rndE 0 n d k ≤ 1099511627776)
end Z
namespace Z
theorem rndE_d (m : Nat) (n c k : Int) (hc : 0 < c) (hk : 0 < k) : rndE m n c (k - 1) = rndE m n (2 * c) k := by
  obtain ⟨j, hj⟩ := Int.eq_ofNat_of_zero_le (show 0 ≤ k - 1 by omega)
  rw [show k = ((j + 1 : Nat) : Int) by omega, show ((j + 1 : Nat) : Int) - 1 = (j : Int) by omega, rndE_pos, rndE_pos, Int.pow_succ, ← Int.mul_assoc, Int.mul_comm _ 2, rnd_scale _ _ _ _ (by decide) hc]
end Z
namespace Z
theorem rndE_n (m : Nat) (c d k : Int) (hd : 0 < d) (hk : k < 0) : rndE m c d (k + 1) = rndE m (2 * c) d k := by
  obtain ⟨j, hj⟩ := Int.eq_ofNat_of_zero_le (show 0 ≤ -k - 1 by omega)
  rw [show k = -((j + 1 : Nat) : Int) by omega, show -((j + 1 : Nat) : Int) + 1 = -(j : Int) by omega, rndE_neg, rndE_neg, Int.pow_succ, ← Int.mul_assoc, Int.mul_comm _ 2, rnd_scale _ _ _ _ (by decide) (Int.mul_pos hd (by have := p2_pos j; omega))]
end Z
namespace Z
theorem rndE_dbl (m : Nat) (x d k : Int) (hk : 0 < k) : rndE m (2 * x) d (k - 1) = rndE m x d k := by
  obtain ⟨j, hj⟩ := Int.eq_ofNat_of_zero_le (show 0 ≤ k - 1 by omega)
  rw [show k = ((j + 1 : Nat) : Int) by omega, show ((j + 1 : Nat) : Int) - 1 = (j : Int) by omega, rndE_pos, rndE_pos, Int.pow_succ, ← Int.mul_assoc, Int.mul_comm 2, Int.mul_right_comm]
end Z
namespace Z
theorem rndE_far {w d r k : Int} (hd : 0 < d) (hr : 0 ≤ r ∧ r < d) (hk : 0 ≤ k) : (1099511627776 < w → 1099511627776 < rndE 0 (w * d + r) d k) ∧ (w < -1099511627776 → rndE 0 (w * d + r) d k < -1099511627776) := by
  obtain ⟨j, rfl⟩ := Int.eq_ofNat_of_zero_le hk
  rw [rndE_pos, rnd_0]
  have pj := p2_pos j
  constructor
  · intro h
    have h1 : w ≤ (w * d + r) * 2 ^ j / d := by
      rw [Int.le_ediv_iff_mul_le hd]
      have a1 : w * d * 1 ≤ (w * d + r) * 2 ^ j := by
        have b1 : w * d * 1 ≤ (w * d) * 2 ^ j := Int.mul_le_mul_of_nonneg_left pj (Int.mul_nonneg (by omega) (by omega))
        have b2 := Int.mul_nonneg hr.1 (show (0 : Int) ≤ 2 ^ j by omega)
        rw [Int.add_mul]; omega
      omega
    omega
  · intro h
    have h1 : (w * d + r) * 2 ^ j / d < w + 1 := by
      rw [Int.ediv_lt_iff_lt_mul hd]
      have c1 : w * d + r < (w + 1) * d := by rw [Int.add_mul]; omega
      have c2 : (w + 1) * d ≤ 0 * d := Int.mul_le_mul_of_nonneg_right (by omega) (by omega)
      have c3 : (w * d + r) * 2 ^ j ≤ (w * d + r) * 1 := by
        have := Int.mul_le_mul_of_nonneg_left pj (show 0 ≤ -(w * d + r) by omega)
        rw [Int.neg_mul, Int.neg_mul] at this; omega
      omega
    omega
end Z
theorem below_dbl (N d k : Int) (h0 : 0 ≤ N) (hk : k < 0) : Z.below (2 * N) d (k + 1) = Z.below N d k := by
  obtain ⟨j, hj⟩ := Int.eq_ofNat_of_zero_le (show 0 ≤ -k - 1 by omega)
  rw [show k = -((j + 1 : Nat) : Int) by omega, show -((j + 1 : Nat) : Int) + 1 = -(j : Int) by omega, Z.below_neg, Z.below_neg, Int.pow_succ]
  rw [show ((2 * N).natAbs : Int) = 2 * (N.natAbs : Int) by omega, Int.mul_comm 2, Int.mul_assoc, Int.mul_comm 2]
theorem below_no (N d k : Int) (h0 : 0 ≤ N) (hk : k < 0) (h : d ≤ N) : Z.below N d k = false := by
  obtain ⟨j, hj⟩ := Int.eq_ofNat_of_zero_le (show 0 ≤ -k by omega)
  rw [show k = -(j : Int) by omega, Z.below_neg]
  apply decide_eq_false
  have := Int.mul_le_mul_of_nonneg_left (Z.p2_pos j) (show 0 ≤ (N.natAbs : Int) by omega)
  omega
theorem rnmR_eq {m : Nat} (hm : m ≤ 2) : rnmR m = rnm m := by
  have : m = 0 ∨ m = 1 ∨ m = 2 := by omega
  rcases this with rfl | rfl | rfl <;> rfl
theorem mod_range (x h : Int) (hh : 0 < h) : (x + h) % (2 * h) - h = if h ≤ x % (2 * h) then x % (2 * h) - 2 * h else x % (2 * h) := by
  have m1 := Int.emod_nonneg x (show 2 * h ≠ 0 by omega)
  have m2 := Int.emod_lt_of_pos x (show 0 < 2 * h by omega)
  have e : (x + h) % (2 * h) = (x % (2 * h) + h) % (2 * h) := by rw [Int.emod_add_emod]
  rw [e]
  generalize x % (2 * h) = r at *
  split
  · have : r + h = (r - h) + 1 * (2 * h) := by omega
    rw [this, Int.add_mul_emod_self_right, Int.emod_eq_of_lt (by omega) (by omega)]; omega
  · rw [Int.emod_eq_of_lt (by omega) (by omega)]; omega
structure WR (n d T t s : Int) : Prop where
  e1 : n / d / T = t
  e2 : n - t * T * d = s
  tb : -4611686018427387904 ≤ t * T ∧ t * T ≤ 4611686018427387904
  pb : -6917529027641081856 ≤ t * T * d ∧ t * T * d ≤ 4611686018427387904
  sb : 0 ≤ s ∧ s ≤ 4611686018427387904
  sT : s < T * d
  qb : -4611686018427387904 ≤ n / d ∧ n / d ≤ 4611686018427387904
theorem wr_of {n d T : Int} (hn : -2305843009213693952 ≤ n ∧ n ≤ 2305843009213693952) (hd : 1 ≤ d ∧ d ≤ 1152921504606846976) (hT : 1 ≤ T ∧ T ≤ 2147483648) (hneg : n < 0 → T * d ≤ 4611686018427387904) : WR n d T (n / d / T) (n - n / d / T * T * d) := by
  have q1 := Int.mul_ediv_add_emod n d
  have q2 := Int.emod_nonneg n (show d ≠ 0 by omega)
  have q3 := Int.emod_lt_of_pos n (show 0 < d by omega)
  have qb := Q.div_bd n d 2305843009213693952 (by omega) hn
  obtain ⟨x, hx⟩ : ∃ x, n / d = x := ⟨_, rfl⟩
  rw [hx] at q1 qb ⊢
  have r1 := Int.mul_ediv_add_emod x T
  have r2 := Int.emod_nonneg x (show T ≠ 0 by omega)
  have r3 := Int.emod_lt_of_pos x (show 0 < T by omega)
  have c1 : x / T * T = x - x % T := by rw [Int.mul_comm]; omega
  have c2 : n - x / T * T * d = x % T * d + n % d := by
    rw [c1, Int.sub_mul, Int.mul_comm x d]; omega
  have c3 : 0 ≤ x % T * d := Int.mul_nonneg r2 (by omega)
  have c4 : (x % T + 1) * d ≤ T * d := Int.mul_le_mul_of_nonneg_right (by omega) (by omega)
  rw [Int.add_mul, Int.one_mul] at c4
  have hpos : 0 ≤ n → 0 ≤ x / T * T * d := fun h => by
    have x0 : 0 ≤ x := by rw [← hx]; exact Int.ediv_nonneg h (by omega)
    have : 0 ≤ x / T := Int.ediv_nonneg x0 (by omega)
    exact Int.mul_nonneg (Int.mul_nonneg this (by omega)) (by omega)
  refine ⟨by rw [hx], rfl, by omega, ?_, ?_, by omega, by rw [hx]; omega⟩
  · by_cases h : 0 ≤ n
    · have := hpos h; omega
    · have := hneg (by omega); omega
  · by_cases h : 0 ≤ n
    · have := hpos h; omega
    · have := hneg (by omega); omega
theorem fix_neg {m I F : Nat} {n d : Int} (hd : 1 ≤ d) (hK : Z.rndE m n d (F : Int) < -(2 ^ (I + F))) : 2 ^ I * d ≤ -n := by
  have hp := Z.p2_pos F
  rw [Z.rndE_pos] at hK
  apply Classical.byContradiction
  intro hc
  have h1 : -(2 ^ (I + F)) * d ≤ n * 2 ^ F := by
    have h2 : (-n) * 2 ^ F ≤ 2 ^ I * d * 2 ^ F := Int.mul_le_mul_of_nonneg_right (by omega) (by omega)
    rw [Int.mul_right_comm, ← Z.p2_add, Int.neg_mul] at h2
    rw [Int.neg_mul]; omega
  have := Z.rnd_ge m _ _ _ (by omega) h1
  omega
namespace Z
theorem expo_at {I F : Nat} {n d y : Int} (hy : -(F : Int) ≤ y) (hb : below n d (I + y) = true) : expo I F n d ≤ y := by
  obtain ⟨s1, s2, s3, s4⟩ := flx_spec I n d (2 * F + 1) (-(F : Int))
  unfold expo
  apply Classical.byContradiction
  intro hc
  rw [s4 y hy (by omega)] at hb
  cases hb
end Z
theorem float_zero {o m I F : Nat} {d : Int} (hI : 1 ≤ I) (hd : 1 ≤ d) : Z.floatV o m I F 0 d = Q.mk 0 1 := by
  have hb : ∀ e : Int, Z.below 0 d e = true := fun e => by
    rw [Z.below_iff 0 d e e.toNat (-e).toNat (by omega)]
    have := Int.mul_pos (show 0 < d by omega) (show (0 : Int) < 2 ^ e.toNat by have := Z.p2_pos e.toNat; omega)
    simpa using this
  have hX : Z.expo I F 0 d = -(F : Int) := by
    have h1 := Z.expo_at (I := I) (F := F) (n := 0) (d := d) (y := -(F : Int)) (by omega) (hb _)
    obtain ⟨s1, _⟩ := Z.flx_spec I 0 d (2 * F + 1) (-(F : Int))
    unfold Z.expo at *; omega
  have pI := Z.p2_pos I
  have hM : Z.rndE m 0 d (- -(F : Int)) = 0 := by
    rw [show - -(F : Int) = ((F : Nat) : Int) by omega, Z.rndE_pos, Int.zero_mul]
    have := Z.rnd_exact m 0 d (by omega)
    rwa [Int.zero_mul] at this
  unfold Z.floatV
  rw [hX, if_neg (by omega), hM, if_neg (by omega), Z.pw_zero]
  decide
theorem near_of {n d k B : Int} (h : -B ≤ Z.rndE 0 n d k ∧ Z.rndE 0 n d k ≤ B) (hB : B ≤ 1099511627776) : Z.near n d k = true := by
  unfold Z.near; exact decide_eq_true (by omega)
theorem hov_open {k r o : ByteArray} {I F : Int} (h : Z.vld k r o I F = true) : ((o.toList == [115, 97, 116]) = false → (o.toList == [119, 114, 97, 112]) = false → ovn o = 2) ∧ ((o.toList == [115, 97, 116]) = true → ovn o = 0) ∧ ((k.toList == [102, 105, 120]) = false → (o.toList == [115, 97, 116]) = false → ovn o = 2) := by
  have h3 : Z.hov k o = true := by unfold Z.vld at h; simp only [Bool.and_eq_true] at h; exact h.2
  have h0 : (o.toList == [110, 111, 110, 101]) = true → ovn o = 2 := fun hn => by unfold ovn; rw [hn]; rfl
  unfold Z.hov at h3
  refine ⟨fun hs hw => ?_, fun hs => ?_, fun hk hs => ?_⟩
  · rw [hs, hw] at h3; exact h0 (by simpa using h3)
  · unfold ovn; rw [lit_ne hs (b := [110, 111, 110, 101]) (by decide), lit_ne hs (b := [119, 114, 97, 112]) (by decide)]; rfl
  · rw [hs, hk] at h3; exact h0 (by simpa using h3)
theorem fitQ_num {k r o : ByteArray} {I F n d : Int} : Z.fitQ k r o I F n d = (0, 0) ∨ Q.isq (Z.fitQ k r o I F n d).1 (Z.fitQ k r o I F n d).2 = true := by
  have hmk : ∀ a b, Q.mk a b = (0, 0) ∨ Q.isq (Q.mk a b).1 (Q.mk a b).2 = true := Q.mk_isq
  have hbey : ∀ o fx i f ng, Z.bey o fx i f ng = (0, 0) ∨ Q.isq (Z.bey o fx i f ng).1 (Z.bey o fx i f ng).2 = true := fun o fx i f ng => by
    unfold Z.bey Z.lst Z.grt
    split
    · exact Or.inl rfl
    · split <;> split <;> exact hmk _ _
  unfold Z.fitQ
  split
  · unfold Z.fitV
    split
    · unfold Z.fixV
      split
      · exact hmk _ _
      · split
        · exact hmk _ _
        · exact hbey _ _ _ _ _
    · unfold Z.floatV
      split
      · exact hbey _ _ _ _ _
      · split
        · exact hbey _ _ _ _ _
        · unfold Z.pw; split <;> exact hmk _ _
  · exact Or.inl rfl
end Go.Proofs.YtiiddikiaafanaaGreatDoor
