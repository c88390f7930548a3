/-
  Same: the program's.
-/
import Derived.Test.YtofmclaoihaenaaBe
set_option linter.all false
namespace Go.Proofs.Ytofmclaoihaenaa
open Go Go.Pv Go.RowKit
theorem same_loop' (f0 : F11 (F11 (KB → Option DV))) (X Y : List BT) (hl : X.length < 9223372036854775807) (hf : ∀ x ∈ X, ∀ y ∈ Y, ∀ k : KB, BT.call2 f0 x y k = k (x.same y)) (κ : KB × Option DV) :
    ∀ (r1 r2 d1 d2 : List BT), X = d1 ++ r1 → Y = d2 ++ r2 → d1.length = d2.length → r1.length = r2.length →
    LF (F_slices_EqualFunc_serinette_api_Block_block_Same_l4 f0) (r1.length + 1) (.h0 (BT.cellsL Y) (BT.cellsL X) (X.length : Nat) d1.length) κ = bx (BT.sameL r1 r2) κ.2 (κ.1 false)
  | [], [], d1, d2, hX, hY, hd, hr => by
    simp only [LF, F_slices_EqualFunc_serinette_api_Block_block_Same_l4, B_slices_EqualFunc_serinette_api_Block_block_Same_l4_h0]
    have : decide ((d1.length : Int) < (X.length : Int)) = false := by simp [hX]
    rw [this, bx_f]; rfl
  | q :: r1, r :: r2, d1, d2, hX, hY, hd, hr => by
    have hlx : X.length = d1.length + r1.length + 1 := by simp [hX]; omega
    have ih := same_loop' f0 X Y hl hf κ r1 r2 (d1 ++ [q]) (d2 ++ [r]) (by simp [hX]) (by simp [hY]) (by simp [hd]) (by simpa using hr)
    rw [show (q :: r1).length + 1 = (r1.length + 1) + 1 from rfl, LF]
    simp only [F_slices_EqualFunc_serinette_api_Block_block_Same_l4, B_slices_EqualFunc_serinette_api_Block_block_Same_l4_h0]
    have h1 : decide ((d1.length : Int) < (X.length : Int)) = true := by simp; omega
    have h2 : decide (0 ≤ (d1.length : Int)) = true := by simp
    have h3 : (BT.cellsL X)[Int.toNat (d1.length : Int)]? = some q.cells := by simp [BT.cellsL_eq, hX]
    have h4 : (BT.cellsL Y)[Int.toNat (d1.length : Int)]? = some r.cells := by rw [hd]; simp [BT.cellsL_eq, hY]
    simp only [h1, h2, h3, h4, bx_t, optE, ld_tree]
    rw [call_call, hf q (by simp [hX]) r (by simp [hY])]
    rw [wrap_next (by omega) (by omega)]
    rw [show (d1.length : Int) + 1 = ((d1 ++ [q]).length : Nat) by simp, ih]
    simp only [BT.sameL]
    cases q.same r <;> simp [bx_t, bx_f]
  | [], r :: r2, d1, d2, hX, hY, hd, hr => by simp at hr
  | q :: r1, [], d1, d2, hX, hY, hd, hr => by simp at hr
theorem same_prog (N : Nat) : ∀ (n : Nat) (a b : BT), a.ok → b.ok → 2 * a.depth ≤ n → ∀ k : KB, BT.call2 (block_Same_n N n) a b k = k (a.same b)
  | 0, a, b, _, _, hd, k => by cases a; simp [BT.depth] at hd
  | 1, a, b, _, _, hd, k => by cases a; simp [BT.depth] at hd; omega
  | n + 2, .mk op nm nn m nums fk fi ff fr fo kids, .mk op' nm' nn' m' nums' fk' fi' ff' fr' fo' kids', ha, hb, hd, k => by
    simp only [BT.depth] at hd
    have hoka := ha.2.2.2.2.2.2.2
    have hokb := hb.2.2.2.2.2.2.2
    have hl : kids.length * 160 ≤ reachBytes := ha.2.2.2.2.2.2.1
    have hln : nums.length * 16 ≤ reachBytes := ha.2.2.2.2.1
    have hr : reachBytes < 9223372036854775807 := by decide
    show B_block_Same (slices_EqualFunc_serinette_api_Block_block_Same_n N (n + 1)) slices_EqualFunc_serinette_api_Q_block_isSameNumber op nm nn m (nums.map qpc) fk fi ff fr fo (BT.cellsL kids) op' nm' nn' m' (nums'.map qpc) fk' fi' ff' fr' fo' (BT.cellsL kids') k = _
    unfold B_block_Same
    simp only [BT.same]
    cases (ByteArray.toList op == ByteArray.toList op') with
    | false => rfl
    | true =>
    cases (ByteArray.toList nm == ByteArray.toList nm') with
    | false => rfl
    | true =>
    cases (nn == nn') with
    | false => rfl
    | true =>
    cases (m == m') with
    | false => rfl
    | true =>
    generalize ((ByteArray.toList fk == ByteArray.toList fk') && ((fi == fi') && ((ff == ff') && ((ByteArray.toList fr == ByteArray.toList fr') && ((ByteArray.toList fo == ByteArray.toList fo') && true))))) = c
    cases c with
    | false => rfl
    | true =>
    simp only [bx_t, Bool.true_and]
    rw [alike_prog nums nums' (by omega)]
    cases alike nums nums' with
    | false => rfl
    | true =>
    simp only [bx_t, Bool.true_and]
    show B_slices_EqualFunc_serinette_api_Block_block_Same (block_Same_n N n) (BT.cellsL kids) (BT.cellsL kids') k = _
    unfold B_slices_EqualFunc_serinette_api_Block_block_Same
    by_cases h : kids.length = kids'.length
    · have h1 : ((((BT.cellsL kids).length : Nat) : Int) != (((BT.cellsL kids').length : Nat) : Int)) = false := by simp [BT.cellsL_eq, h]
      rw [h1, bx_f]
      have := same_loop' (block_Same_n N n) kids kids' (by omega)
        (fun x hx y hy k => same_prog N n x y (BT.okL_mem hoka x hx) (BT.okL_mem hokb y hy) (by have := BT.depthL_mem x hx; omega) k) (k, k true) kids kids' [] [] rfl rfl rfl h
      simp only [φ_slices_EqualFunc_serinette_api_Block_block_Same_l4]
      rw [show ((BT.cellsL kids).length : Nat) = kids.length by simp [BT.cellsL_eq]]
      rw [show Int.toNat (((kids.length : Nat) : Int) - 0) + 1 = kids.length + 1 by omega]
      refine Eq.trans this ?_
      cases BT.sameL kids kids' <;> rfl
    · have h1 : ((((BT.cellsL kids).length : Nat) : Int) != (((BT.cellsL kids').length : Nat) : Int)) = true := by simp [BT.cellsL_eq]; omega
      rw [h1, bx_t, ne_len h]
end Go.Proofs.Ytofmclaoihaenaa
