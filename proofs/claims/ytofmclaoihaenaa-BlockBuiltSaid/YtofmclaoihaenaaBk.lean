/-
  Diagrams joined: both sides.
-/
import Derived.Test.YtofmclaoihaenaaBj
set_option linter.all false
namespace Go.Proofs.Ytofmclaoihaenaa
open Go Go.Pv Go.RowKit
theorem all_ref (op : ByteArray) (X : List BT) (hl : X.length < 9223372036854775807) (K : F11 (Option DV)) : serinetteref05_all op (BT.cellsL X) K = (foldB op X).call K := by
  unfold serinetteref05_all B_serinetteref05_all
  cases X with
  | nil => rfl
  | cons x xs =>
    have h1 : ((((BT.cellsL (x :: xs)).length : Nat) : Int) == 0) = false := by simp [BT.cellsL_eq]; omega
    have h2 : (BT.cellsL (x :: xs))[Int.toNat 0]? = some x.cells := rfl
    have h3 : Int.toNat ((((BT.cellsL (x :: xs)).length : Nat) : Int) - 1) + 1 = xs.length + 1 := by simp [BT.cellsL_eq]
    simp only [h1, h2, bx_f, optE, ld_tree, φ_serinetteref05_all_l5, h3]
    exact all_loop op (x :: xs) hl ⟨#[]⟩ ⟨#[]⟩ 0 0 ⟨#[]⟩ 0 0 ⟨#[]⟩ ⟨#[]⟩ _ xs [x] x rfl
theorem call_cells3 (x q : BT) (G : List DV → Option DV) : x.call (fun u0 u1 u2 u3 u4 u5 u6 u7 u8 u9 u10 => q.call (fun v0 v1 v2 v3 v4 v5 v6 v7 v8 v9 v10 => G [.val (.string u0), .val (.string u1), .val (.int .i64 u2), .val (.int .i64 u3), .lst 2 u4, .val (.string u5), .val (.int .i64 u6), .val (.int .i64 u7), .val (.string u8), .val (.string u9), .lst 11 u10, .val (.string v0), .val (.string v1), .val (.int .i64 v2), .val (.int .i64 v3), .lst 2 v4, .val (.string v5), .val (.int .i64 v6), .val (.int .i64 v7), .val (.string v8), .val (.string v9), .lst 11 v10])) = G (x.cells ++ q.cells) := by cases x; cases q; rfl
theorem joined_prog (N : Nat) (op : ByteArray) (X : List BT) (hl : X.length < 9223372036854775807) (hX : ∀ x ∈ X, x.ok ∧ x.depth ≤ N) (K : F11 (Option DV)) : block_joined N op (BT.cellsL X) K = (foldB op X).call K := by
  have hf : ∀ x ∈ X, ∀ K : F11 (Option DV), x.call (block_copied N) K = x.call K := fun x hx K => copied_tree N N x (hX x hx).1 (hX x hx).2 K
  unfold block_joined B_block_joined
  cases X with
  | nil => rfl
  | cons x xs =>
    have h1 : ((((BT.cellsL (x :: xs)).length : Nat) : Int) == 0) = false := by simp [BT.cellsL_eq]; omega
    have h2 : (BT.cellsL (x :: xs))[Int.toNat 0]? = some x.cells := rfl
    have h3 : List.drop (Int.toNat 1) (List.take (Int.toNat (((BT.cellsL (x :: xs)).length : Nat) : Int)) (BT.cellsL (x :: xs))) = BT.cellsL xs := by
      rw [Int.toNat_natCast, List.take_length]; rfl
    have h4 : (true && decide (0 ≤ (((BT.cellsL (x :: xs)).length : Nat) : Int)) && decide ((((BT.cellsL (x :: xs)).length : Nat) : Int) ≤ (((BT.cellsL (x :: xs)).length : Nat) : Int)) && decide (0 ≤ 1) && decide ((1 : Int) ≤ (((BT.cellsL (x :: xs)).length : Nat) : Int))) = true := by simp [BT.cellsL_eq]; omega
    have h5 : (((BT.cellsL xs).length : Nat) : Int) = ((xs.length : Nat) : Int) := by simp [BT.cellsL_eq]
    have h6 : Int.toNat (((xs.length : Nat) : Int) - 0) + 1 = xs.length + 1 := by omega
    simp only [h1, h2, bx_f, bx_t, optE, ld_tree, h3, h4, h5, φ_block_joined_l5, h6]
    rw [pull (block_copied N) x (hf x (by simp))]
    cases xs with
    | nil => cases x; rfl
    | cons q r =>
      have g1 : decide ((0 : Int) < (((q :: r).length : Nat) : Int)) = true := by simp
      have g2 : decide ((0 : Int) ≤ 0) = true := by decide
      have g3 : (BT.cellsL (q :: r))[Int.toNat 0]? = some q.cells := rfl
      obtain ⟨m, hm⟩ : ∃ m, r.length + 1 = m := ⟨_, rfl⟩
      rw [show (q :: r).length + 1 = (r.length + 1) + 1 from rfl, hm]
      simp only [LF, F_block_joined_l5, B_block_joined_l5_h0, g1, g2, g3, bx_t, optE, ld_tree]
      simp only [pull (block_copied N) q (hf q (by simp))]
      obtain ⟨y4, y5, y6, y7, y8, y9, y10, y11, y12, u', v', e, ih⟩ := join_h1 (block_copied N) op (q :: r) (by simp at hl ⊢; omega) (fun z hz => hf z (List.mem_cons_of_mem _ hz)) ((fun z70_0 z70_1 z70_2 z70_3 z70_4 z70_5 z70_6 z70_7 z70_8 z70_9 z70_10 z70_11 z70_12 z70_13 z70_14 z70_15 z70_16 z70_17 z70_18 z70_19 => K z70_9 z70_10 z70_11 z70_12 z70_13 z70_14 z70_15 z70_16 z70_17 z70_18 z70_19), (fun z71_0 z71_1 z71_2 z71_3 z71_4 z71_5 z71_6 z71_7 z71_8 z71_9 z71_10 z71_11 z71_12 z71_13 z71_14 z71_15 z71_16 z71_17 z71_18 z71_19 => bx (Nat.ble (0 + z71_18 * 11) (List.length z71_19)) (K z71_9 z71_10 z71_11 z71_12 [] z71_13 z71_14 z71_15 z71_16 z71_17 (chunks 11 z71_18 (List.drop 0 z71_19))) none)) r [q] x q ⟨#[]⟩ ⟨#[]⟩ 0 0 ⟨#[]⟩ 0 0 ⟨#[]⟩ ⟨#[]⟩ rfl
      refine Eq.trans (call_cells3 x q fun e => LF (F_block_joined_l5 (block_copied N)) m (.h1 op (BT.cellsL (q :: r)) ((q :: r).length : Nat) (IntKind.wrap .i64 (0 + 1)) ⟨#[]⟩ ⟨#[]⟩ 0 0 ⟨#[]⟩ 0 0 ⟨#[]⟩ ⟨#[]⟩ op ⟨#[]⟩ 0 0 ⟨#[]⟩ 0 0 ⟨#[]⟩ ⟨#[]⟩ 2 e) _) ?_
      rw [wrap_next (by omega) (by omega), ← hm]
      refine Eq.trans ih ?_
      have h4 : Nat.ble (0 + 2 * 11) (u'.cells ++ v'.cells).length = true := Nat.ble_eq_true_of_le (by simp [BT.cells_len])
      simp only [h4, bx_t, two_chunks, foldB, List.foldl_cons, ← e]
      rfl
end Go.Proofs.Ytofmclaoihaenaa
