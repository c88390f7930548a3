/-
  A copy of a diagram is the diagram: the whole.
-/
import Derived.Test.YtofmclaoihaenaaBg
set_option linter.all false
namespace Go.Proofs.Ytofmclaoihaenaa
open Go Go.Pv Go.RowKit
theorem one_cells (b : BT) : b.cells.all oneCellD = true := by cases b; rfl
theorem one_flat : ∀ l : List BT, (BT.cellsL l).flatten.all oneCellD = true
  | [] => rfl
  | b :: l => by simp only [BT.cellsL, List.flatten_cons, List.all_append, one_cells, one_flat l, Bool.and_self]
theorem one_nums : ∀ l : List (Int × Int), (l.map qpc).flatten.all oneCellD = true
  | [] => rfl
  | q :: l => by simp only [List.map_cons, List.flatten_cons, List.all_append, one_nums l, Bool.and_true]; rfl
theorem nums_len : ∀ l : List (Int × Int), (l.map qpc).flatten.length = l.length * 2
  | [] => rfl
  | q :: l => by simp only [List.map_cons, List.flatten_cons, List.length_append, nums_len l, List.length_cons, qpc, List.length_nil]; omega
theorem chunks_nums : ∀ l : List (Int × Int), chunks 2 l.length (l.map qpc).flatten = l.map qpc
  | [] => rfl
  | q :: l => by
    simp only [List.map_cons, List.flatten_cons, List.length_cons, chunks]
    rw [List.take_left' (by rfl), List.drop_left' (by rfl), chunks_nums l]
theorem reach_le : reachBytes ≤ 140737488355328 := by decide
theorem ok_kids {kids : List BT} (h : kids.length * 160 ≤ reachBytes) : cloneOk 160 (BT.cellsL kids) = true := by
  have := reach_le
  have hl : (BT.cellsL kids).length = kids.length := by simp [BT.cellsL_eq]
  simp only [cloneOk, one_flat, hl, Bool.true_and, Bool.and_eq_true]
  exact ⟨Nat.ble_eq_true_of_le (by unfold maxLen; omega), Nat.ble_eq_true_of_le (by omega)⟩
theorem ok_nums {nums : List (Int × Int)} (h : nums.length * 16 ≤ reachBytes) : cloneOk 16 (nums.map qpc) = true := by
  have := reach_le
  simp only [cloneOk, one_nums, List.length_map, Bool.true_and, Bool.and_eq_true]
  exact ⟨Nat.ble_eq_true_of_le (by unfold maxLen; omega), Nat.ble_eq_true_of_le (by omega)⟩
theorem copied_tree (N : Nat) : ∀ (n : Nat) (b : BT), b.ok → b.depth ≤ n → ∀ K : F11 (Option DV), b.call (block_copied_n N n) K = b.call K
  | 0, b, _, hd, K => by cases b; simp [BT.depth] at hd
  | n + 1, .mk op nm nn m nums fk fi ff fr fo kids, hb, hd, K => by
    simp only [BT.depth] at hd
    have hok := hb.2.2.2.2.2.2.2
    have hl : kids.length * 160 ≤ reachBytes := hb.2.2.2.2.2.2.1
    have hln : nums.length * 16 ≤ reachBytes := hb.2.2.2.2.1
    have hr := reach_le
    have hf : ∀ x ∈ kids, ∀ K : F11 (Option DV), x.call (block_copied_n N n) K = x.call K := fun x hx K => copied_tree N n x (BT.okL_mem hok x hx) (by have := BT.depthL_mem x hx; omega) K
    show B_block_copied (block_copied_n N n) op nm nn m (nums.map qpc) fk fi ff fr fo (BT.cellsL kids) K = K op nm nn m (nums.map qpc) fk fi ff fr fo (BT.cellsL kids)
    unfold B_block_copied
    have hkl : (BT.cellsL kids).length = kids.length := by simp [BT.cellsL_eq]
    have hb1 : Nat.ble (0 + kids.length * 11) (BT.cellsL kids).flatten.length = true := Nat.ble_eq_true_of_le (by rw [flat_len]; omega)
    have hb2 : Nat.ble (0 + nums.length * 2) (nums.map qpc).flatten.length = true := Nat.ble_eq_true_of_le (by rw [nums_len]; omega)
    have hfuel : Int.toNat (((kids.length : Nat) : Int) - 0) + 1 = kids.length + 1 := by omega
    cases nums with
    | nil =>
      cases kids with
      | nil => rfl
      | cons x xs =>
        have h1 : Nat.beq (BT.cellsL (x :: xs)).length 0 = false := rfl
        simp only [List.map_nil, List.length_nil, Nat.beq_refl, bx_t, h1, bx_f, ok_kids hl]
        simp only [φ_block_copied_l4, hkl, hfuel]
        obtain ⟨y14, y15, y16, y17, y18, y19, y20, y21, y22, h⟩ := copy_h1 (block_copied_n N n) op nm nn m [] fk fi ff fr fo ⟨#[]⟩ ⟨#[]⟩ 0 0 ⟨#[]⟩ 0 0 ⟨#[]⟩ ⟨#[]⟩ (x :: xs) (by omega) hf _ (x :: xs) [] rfl
        refine Eq.trans h ?_
        simp only [hb1, bx_t, List.drop_zero, chunks_flat]
    | cons q qs =>
      have h0 : Nat.beq (List.map qpc (q :: qs)).length 0 = false := rfl
      simp only [h0, bx_f, ok_nums hln, bx_t]
      cases kids with
      | nil =>
        simp only [BT.cellsL, List.length_nil, Nat.beq_refl, bx_t]
        have h2 : (List.map qpc (q :: qs)).length = (q :: qs).length := by simp
        simp only [h2]
        show bx (Nat.ble (0 + (q :: qs).length * 2) (List.map qpc (q :: qs)).flatten.length) (K op nm nn m (chunks 2 (q :: qs).length (List.drop 0 (List.map qpc (q :: qs)).flatten)) fk fi ff fr fo []) none = _
        rw [hb2, bx_t, List.drop_zero, chunks_nums]
      | cons x xs =>
        have h1 : Nat.beq (BT.cellsL (x :: xs)).length 0 = false := rfl
        have h2 : (List.map qpc (q :: qs)).length = (q :: qs).length := by simp
        simp only [h1, bx_f, ok_kids hl, bx_t, h2]
        simp only [φ_block_copied_l4, hkl, hfuel]
        obtain ⟨y14, y15, y16, y17, y18, y19, y20, y21, y22, h⟩ := copy_h3 (block_copied_n N n) op nm nn m (q :: qs).length fk fi ff fr fo ⟨#[]⟩ ⟨#[]⟩ 0 0 ⟨#[]⟩ 0 0 ⟨#[]⟩ ⟨#[]⟩ (List.map qpc (q :: qs)).flatten (x :: xs) (by omega) hf _ (x :: xs) [] rfl
        refine Eq.trans h ?_
        simp only [hb1, hb2, bx_t, List.drop_zero, chunks_flat, chunks_nums]
end Go.Proofs.Ytofmclaoihaenaa
