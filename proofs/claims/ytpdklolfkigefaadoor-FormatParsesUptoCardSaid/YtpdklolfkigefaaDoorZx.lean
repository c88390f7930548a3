/-
  rounded: what a call gives.
-/
import Derived.Test.YtpdklolfkigefaaDoorZw
set_option linter.all false
namespace Go.Proofs.YtpdklolfkigefaaDoor
open Go.RowKit
/-- The names of the ways of rounding. -/
def rnm (m : Nat) : ByteArray := if m = 0 then ⟨#[102, 108, 111, 111, 114]⟩ else if m = 1 then ⟨#[110, 101, 97, 114]⟩ else ⟨#[122, 101, 114, 111]⟩
theorem ra_of (n d : Int) (A B : Nat) (hB : B ≤ 60) (hn : -2305843009213693952 ≤ n ∧ n ≤ 2305843009213693952) (hd : 1 ≤ d) (hk : (n.natAbs : Int) * 2 ^ B ≤ 2305843009213693952 * (d * 2 ^ A)) (hD : d * 2 ^ A ≤ 2305843009213693952) :
    ∃ H L M, RA n d (d * 2 ^ A) H L ((n.natAbs : Int) * 2 ^ B / (d * 2 ^ A)) ((n.natAbs : Int) * 2 ^ B % (d * 2 ^ A)) A B M := by
  have hp := Z.p2_pos A
  have hq := Z.p2_pos B
  have h60 := Z.p2_mono hB
  have hD1 : 1 ≤ d * 2 ^ A := by
    have := Int.mul_pos (show 0 < d by omega) (show (0 : Int) < 2 ^ A by omega); omega
  have hP0 : 0 ≤ (n.natAbs : Int) * 2 ^ B := Int.mul_nonneg (by omega) (by omega)
  have eP : ((n.natAbs * 2 ^ B : Nat) : Int) = (n.natAbs : Int) * 2 ^ B := by simp
  have eM : ((2 ^ B : Nat) : Int) = (2 : Int) ^ B := by simp
  have eN : ((n.natAbs * 2 ^ B / 18446744073709551616 : Nat) : Int) * 18446744073709551616 + ((n.natAbs * 2 ^ B % 18446744073709551616 : Nat) : Int) = (n.natAbs : Int) * 2 ^ B := by rw [← eP]; omega
  have hK : (n.natAbs : Int) * 2 ^ B / (d * 2 ^ A) ≤ 2305843009213693952 := by
    have h1 : (n.natAbs : Int) * 2 ^ B < (2305843009213693952 + 1) * (d * 2 ^ A) := by rw [Int.add_mul]; omega
    have := (Int.ediv_lt_iff_lt_mul (show 0 < d * 2 ^ A by omega)).2 h1
    omega
  obtain ⟨D, hDe⟩ : ∃ D, d * 2 ^ A = D := ⟨_, rfl⟩
  rw [hDe] at hK hk hD hD1 ⊢
  refine ⟨((n.natAbs * 2 ^ B / 18446744073709551616 : Nat) : Int), ((n.natAbs * 2 ^ B % 18446744073709551616 : Nat) : Int), 2 ^ B, hDe, rfl, rfl, rfl, by rw [eN], by rw [eN], ?_, ?_, ⟨hD1, hD⟩, ⟨Int.ediv_nonneg hP0 (by omega), by omega⟩, ⟨Int.emod_nonneg _ (by omega), Int.emod_lt_of_pos _ (by omega)⟩, ?_⟩
  · constructor
    · omega
    · rw [← eP] at hk
      generalize n.natAbs * 2 ^ B = P at *
      omega
  · generalize n.natAbs * 2 ^ B = P at *
    omega
  · have : (2 : Int) ^ 60 = 1152921504606846976 := rfl
    omega
theorem rounded_any (m : Nat) (hm : m ≤ 2) (n d e : Int) (hn : -2305843009213693952 ≤ n ∧ n ≤ 2305843009213693952) (hd : 1 ≤ d ∧ d ≤ 2305843009213693952) (he : -60 ≤ e ∧ e ≤ 60)
    (hk : (n.natAbs : Int) * 2 ^ e.toNat ≤ 2305843009213693952 * (d * 2 ^ (-e).toNat)) (hD : d * 2 ^ (-e).toNat ≤ 2305843009213693952) (w : World) :
    Calls Tryd.prog 68 #[.agg #[.int .i64 n, .int .i64 d], .int .i64 e, .string (rnm m)] w fun en w' => en = .returned (.int .i64 (Z.rndE m n d e)) ∧ Below w.heap.size w w' := by
  obtain ⟨H, L, M, ra⟩ := ra_of n d (-e).toNat e.toNat (by omega) hn hd.1 hk hD
  have m1 : max 0 (-e) = ((-e).toNat : Int) := by omega
  have m2 : max 0 e = (e.toNat : Int) := by omega
  have hA : (-e).toNat ≤ 60 := by omega
  have hB : e.toNat ≤ 60 := by omega
  have hD1 := ra.db
  have hs : n * 2 ^ e.toNat = if n < 0 then -((n.natAbs : Int) * 2 ^ e.toNat) else (n.natAbs : Int) * 2 ^ e.toNat := by
    split
    · rw [← Int.neg_mul]; congr 1; omega
    · congr 1; omega
  have hs0 : n < 0 → 0 < (n.natAbs : Int) * 2 ^ e.toNat := fun h => Int.mul_pos (by omega) (by have := Z.p2_pos e.toNat; omega)
  have hs1 : 0 ≤ (n.natAbs : Int) * 2 ^ e.toNat := Int.mul_nonneg (by omega) (by have := Z.p2_pos e.toNat; omega)
  unfold Z.rndE
  rw [hs]
  obtain ⟨P, hP⟩ : ∃ P, P = (n.natAbs : Int) * 2 ^ e.toNat := ⟨_, rfl⟩
  obtain ⟨D, hDe⟩ : ∃ D, D = d * 2 ^ (-e).toNat := ⟨_, rfl⟩
  rw [← hP, ← hDe] at ra
  rw [← hP] at hs0 hs1 hs ⊢
  rw [← hDe] at hD1 ⊢
  have hT := ra.tb
  have C : ∀ {v : Int} {val : Int}, val = v → Calls Tryd.prog 68 #[.agg #[.int .i64 n, .int .i64 d], .int .i64 e, .string (rnm m)] w (fun en w' => en = .returned (.int .i64 val) ∧ Below w.heap.size w w') → Calls Tryd.prog 68 #[.agg #[.int .i64 n, .int .i64 d], .int .i64 e, .string (rnm m)] w (fun en w' => en = .returned (.int .i64 v) ∧ Below w.heap.size w w') := by
    rintro v val rfl h; exact h
  have hcase : m = 0 ∨ m = 1 ∨ m = 2 := by omega
  by_cases h0 : n < 0
  · rw [if_pos h0]
    have hp := hs0 h0
    rcases hcase with rfl | rfl | rfl
    · by_cases h1 : 0 < P % D
      · exact C (by rw [Z.rnd_neg 0 P D (by omega) hp]; simp [h1]) (rd_floor_up_neg n d e D H L _ _ _ _ M hA hB m1 m2 hn hd he ra h0 h1 w)
      · exact C (by rw [Z.rnd_neg 0 P D (by omega) hp]; simp [h1]) (rd_floor_neg n d e D H L _ _ _ _ M hA hB m1 m2 hn hd he ra h0 (by omega) w)
    · by_cases h1 : D < 2 * (P % D)
      · exact C (by rw [Z.rnd_neg 1 P D (by omega) hp]; simp [h1]) (rd_near_over_neg n d e D H L _ _ _ _ M hA hB m1 m2 hn hd he ra h0 h1 w)
      · by_cases h2 : 2 * (P % D) = D
        · by_cases h3 : P / D % 2 = 1
          · exact C (by rw [Z.rnd_neg 1 P D (by omega) hp]; simp [h1, h2, h3]) (rd_near_odd_neg n d e D H L _ _ _ _ M hA hB m1 m2 hn hd he ra h0 h2 h3 w)
          · exact C (by rw [Z.rnd_neg 1 P D (by omega) hp]; simp [h1, h2, h3]) (rd_near_even_neg n d e D H L _ _ _ _ M hA hB m1 m2 hn hd he ra h0 h2 (by omega) w)
        · exact C (by rw [Z.rnd_neg 1 P D (by omega) hp]; simp [h1, h2]) (rd_near_neg n d e D H L _ _ _ _ M hA hB m1 m2 hn hd he ra h0 (by omega) w)
    · exact C (by rw [Z.rnd_neg 2 P D (by omega) hp]; simp) (rd_zero_neg n d e D H L _ _ _ _ M hA hB m1 m2 hn hd he ra h0 w)
  · rw [if_neg h0]
    have h0' : 0 ≤ n := by omega
    rcases hcase with rfl | rfl | rfl
    · exact C (by rw [Z.rnd_pos 0 P D (by omega) hs1]; simp) (rd_floor_pos n d e D H L _ _ _ _ M hA hB m1 m2 hn hd he ra h0' w)
    · by_cases h1 : D < 2 * (P % D)
      · exact C (by rw [Z.rnd_pos 1 P D (by omega) hs1]; simp [h1]) (rd_near_over_pos n d e D H L _ _ _ _ M hA hB m1 m2 hn hd he ra h0' h1 w)
      · by_cases h2 : 2 * (P % D) = D
        · by_cases h3 : P / D % 2 = 1
          · exact C (by rw [Z.rnd_pos 1 P D (by omega) hs1]; simp [h1, h2, h3]) (rd_near_odd_pos n d e D H L _ _ _ _ M hA hB m1 m2 hn hd he ra h0' h2 h3 w)
          · exact C (by rw [Z.rnd_pos 1 P D (by omega) hs1]; simp [h1, h2, h3]) (rd_near_even_pos n d e D H L _ _ _ _ M hA hB m1 m2 hn hd he ra h0' h2 (by omega) w)
        · exact C (by rw [Z.rnd_pos 1 P D (by omega) hs1]; simp [h1, h2]) (rd_near_pos n d e D H L _ _ _ _ M hA hB m1 m2 hn hd he ra h0' (by omega) w)
    · exact C (by rw [Z.rnd_pos 2 P D (by omega) hs1]; simp) (rd_zero_pos n d e D H L _ _ _ _ M hA hB m1 m2 hn hd he ra h0' w)
end Go.Proofs.YtpdklolfkigefaaDoor
