/-
  Lists of numbers alike: the program's.
-/
import Derived.Test.YtofmclaoihaenaaBc
set_option linter.all false
namespace Go.Proofs.Ytofmclaoihaenaa
open Go Go.Pv Go.RowKit
theorem alike_loop' (X Y : List (Int × Int)) (hl : X.length < 9223372036854775807) (κ : KB × Option DV) : ∀ (r1 r2 d1 d2 : List (Int × Int)), X = d1 ++ r1 → Y = d2 ++ r2 → d1.length = d2.length → r1.length = r2.length →
    LF (F_slices_EqualFunc_serinette_api_Q_block_isSameNumber_l4 block_isSameNumber) (r1.length + 1) (.h0 (Y.map qpc) (X.map qpc) (X.length : Nat) d1.length) κ = bx (alike r1 r2) κ.2 (κ.1 false)
  | [], [], d1, d2, hX, hY, hd, hr => by
    simp only [LF, F_slices_EqualFunc_serinette_api_Q_block_isSameNumber_l4, B_slices_EqualFunc_serinette_api_Q_block_isSameNumber_l4_h0]
    have : decide ((d1.length : Int) < (X.length : Int)) = false := by simp [hX]
    rw [this, bx_f]; rfl
  | q :: r1, r :: r2, d1, d2, hX, hY, hd, hr => by
    have hlx : X.length = d1.length + r1.length + 1 := by simp [hX]; omega
    have ih := alike_loop' X Y hl κ r1 r2 (d1 ++ [q]) (d2 ++ [r]) (by simp [hX]) (by simp [hY]) (by simp [hd]) (by simpa using hr)
    rw [show (q :: r1).length + 1 = (r1.length + 1) + 1 from rfl, LF]
    simp only [F_slices_EqualFunc_serinette_api_Q_block_isSameNumber_l4, B_slices_EqualFunc_serinette_api_Q_block_isSameNumber_l4_h0]
    have h1 : decide ((d1.length : Int) < (X.length : Int)) = true := by simp; omega
    have h2 : decide (0 ≤ (d1.length : Int)) = true := by simp
    have h3 : (X.map qpc)[Int.toNat (d1.length : Int)]? = some (qpc q) := by simp [hX]
    have h4 : (Y.map qpc)[Int.toNat (d1.length : Int)]? = some (qpc r) := by rw [hd]; simp [hY]
    simp only [h1, h2, h3, h4, bx_t, optE, ld_q, same_num]
    rw [wrap_next (by omega) (by omega)]
    rw [show (d1.length : Int) + 1 = ((d1 ++ [q]).length : Nat) by simp, ih]
    simp only [alike]
    change (bx (!alikeQ q r) (κ.1 false) (bx (alike r1 r2) κ.2 (κ.1 false))) = _
    cases alikeQ q r <;> simp [bx_t, bx_f]
theorem alike_prog (X Y : List (Int × Int)) (hl : X.length < 9223372036854775807) (k : KB) : slices_EqualFunc_serinette_api_Q_block_isSameNumber (X.map qpc) (Y.map qpc) k = k (alike X Y) := by
  unfold slices_EqualFunc_serinette_api_Q_block_isSameNumber B_slices_EqualFunc_serinette_api_Q_block_isSameNumber
  simp only [List.length_map, φ_slices_EqualFunc_serinette_api_Q_block_isSameNumber_l4]
  by_cases h : X.length = Y.length
  · have h1 : (((X.length : Nat) : Int) != ((Y.length : Nat) : Int)) = false := by simp [h]
    rw [h1, bx_f]
    have := alike_loop' X Y hl (k, k true) X Y [] [] rfl rfl rfl h
    rw [show Int.toNat (((X.length : Nat) : Int) - 0) + 1 = X.length + 1 by omega]
    refine Eq.trans this ?_
    cases alike X Y <;> rfl
  · have h1 : (((X.length : Nat) : Int) != ((Y.length : Nat) : Int)) = true := by simp; omega
    rw [h1, bx_t]
    cases h2 : alike X Y with
    | false => rfl
    | true => exact absurd (alike_len h2) h
end Go.Proofs.Ytofmclaoihaenaa
