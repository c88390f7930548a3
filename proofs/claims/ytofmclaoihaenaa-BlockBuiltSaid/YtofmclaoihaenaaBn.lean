/-
  Wires.
-/
import Derived.Test.YtofmclaoihaenaaBm
set_option linter.all false
namespace Go.Proofs.Ytofmclaoihaenaa
open Go Go.Pv Go.RowKit
def wire : BT := .mk ⟨#[119, 105, 114, 101]⟩ ⟨#[]⟩ 0 0 [] ⟨#[]⟩ 0 0 ⟨#[]⟩ ⟨#[]⟩ []
def noneT : BT := .mk ⟨#[]⟩ ⟨#[]⟩ 0 0 [] ⟨#[]⟩ 0 0 ⟨#[]⟩ ⟨#[]⟩ []
def wiresT (a : Int) : BT := if 1 ≤ a ∧ a ≤ 64 then foldB ⟨#[112, 97, 114]⟩ (List.replicate a.toNat wire) else noneT
theorem rep_cells (n : Nat) : List.replicate n wire.cells = BT.cellsL (List.replicate n wire) := by rw [BT.cellsL_eq, List.map_replicate]
theorem wires_prog (N : Nat) (hN : 1 ≤ N) (a : Int) (K : F11 (Option DV)) : block_Wires N a K = (wiresT a).call K := by
  unfold block_Wires B_block_Wires wiresT
  by_cases h1 : a < 1
  · rw [show decide (a < 1) = true by simp [h1], if_neg (by omega)]; rfl
  · by_cases h2 : a > 64
    · rw [show decide (a < 1) = false by simp [h1], show decide (a > 64) = true by simp [h2], if_neg (by omega)]; rfl
    · rw [show decide (a < 1) = false by simp [h1], show decide (a > 64) = false by simp [h2], if_pos (by omega)]
      simp only [Bool.not_false, bx_t, bx_f]
      have h3 : (decide (1 ≤ a) && decide (a ≤ 64)) = true := by simp; omega
      show bx (decide (1 ≤ a) && decide (a ≤ 64)) (block_Row N (List.replicate a.toNat wire.cells) K) none = _
      rw [h3, bx_t, rep_cells]
      exact joined_prog N ⟨#[112, 97, 114]⟩ (List.replicate a.toNat wire) (by rw [List.length_replicate]; omega) (fun x hx => by
        have := List.eq_of_mem_replicate hx
        subst this
        exact ⟨by simp only [wire, BT.ok, i64, BT.okL]; simp, hN⟩) K
theorem wires_loop (n : Nat) (hn : n ≤ 64) (x3 x4 : ByteArray) (x5 x6 : Int) (x7 : ByteArray) (x8 x9 : Int) (x10 x11 : ByteArray) (κ : _) :
    ∀ (m i : Nat), i + m = n → LF (F_serinetteref05_Wires_l5 serinetteref05_Leaf serinetteref05_Row) (m + 1) (.h1 (n : Nat) i (i : Nat) x3 x4 x5 x6 x7 x8 x9 x10 x11 (BT.cellsL (List.replicate i wire)).flatten) κ = κ.2 n x3 x4 x5 x6 x7 x8 x9 x10 x11 (BT.cellsL (List.replicate n wire)).flatten
  | 0, i, he => by
    have : i = n := by omega
    subst this
    simp only [LF, F_serinetteref05_Wires_l5, B_serinetteref05_Wires_l5_h1]
    rw [show decide (((i : Nat) : Int) < ((i : Nat) : Int)) = false by simp, bx_f]
  | m + 1, i, he => by
    have ih := wires_loop n hn x3 x4 x5 x6 x7 x8 x9 x10 x11 κ m (i + 1) (by omega)
    rw [LF]
    simp only [F_serinetteref05_Wires_l5, B_serinetteref05_Wires_l5_h1]
    have h1 : decide (((i : Nat) : Int) < ((n : Nat) : Int)) = true := by simp; omega
    have hl : (BT.cellsL (List.replicate i wire)).flatten.length = i * 11 := by rw [flat_len, List.length_replicate]
    have h2 : Nat.ble (i * 11) (BT.cellsL (List.replicate i wire)).flatten.length = true := Nat.ble_eq_true_of_le (by omega)
    have h3 : Nat.ble (i + 1) maxLen = true := Nat.ble_eq_true_of_le (by unfold maxLen; omega)
    have h4 : Nat.ble ((i + 1) * 160) 140737488355328 = true := Nat.ble_eq_true_of_le (by omega)
    rw [h1, bx_t]
    show bx (true && true && Nat.ble (i * 11) (BT.cellsL (List.replicate i wire)).flatten.length && Nat.ble (i + 1) maxLen && Nat.ble ((i + 1) * 160) 140737488355328) (LF (F_serinetteref05_Wires_l5 serinetteref05_Leaf serinetteref05_Row) (m + 1) (.h1 (n : Nat) (i + 1) (IntKind.wrap .i64 (((i : Nat) : Int) + 1)) x3 x4 x5 x6 x7 x8 x9 x10 x11 (List.take (i * 11) (BT.cellsL (List.replicate i wire)).flatten ++ wire.cells)) κ) none = _
    rw [h2, h3, h4]
    simp only [Bool.and_self, bx_t]
    have e1 : List.take (i * 11) (BT.cellsL (List.replicate i wire)).flatten ++ wire.cells = (BT.cellsL (List.replicate (i + 1) wire)).flatten := by
      rw [List.take_of_length_le (by omega), List.replicate_succ', flat_app]
      simp [BT.cellsL]
    rw [e1, wrap_next (by omega) (by omega)]
    exact ih
theorem wires_ref (a : Int) (K : F11 (Option DV)) : serinetteref05_Wires a K = (wiresT a).call K := by
  unfold serinetteref05_Wires B_serinetteref05_Wires wiresT
  by_cases h1 : a < 1
  · rw [show decide (a < 1) = true by simp [h1], if_neg (by omega)]; rfl
  · by_cases h2 : a > 64
    · rw [show decide (a < 1) = false by simp [h1], show decide (a > 64) = true by simp [h2], if_neg (by omega)]; rfl
    · rw [show decide (a < 1) = false by simp [h1], show decide (a > 64) = false by simp [h2], if_pos (by omega)]
      simp only [Bool.not_false, bx_t, bx_f]
      obtain ⟨n, rfl⟩ : ∃ n : Nat, a = ((n + 1 : Nat) : Int) := ⟨a.toNat - 1, by omega⟩
      have hf : φ_serinetteref05_Wires_l5 (.h0 ((n + 1 : Nat) : Int) 0 ⟨#[]⟩ ⟨#[]⟩ 0 0 ⟨#[]⟩ 0 0 ⟨#[]⟩ ⟨#[]⟩) = n + 1 + 1 := by simp [φ_serinetteref05_Wires_l5]
      rw [hf, LF]
      simp only [F_serinetteref05_Wires_l5, B_serinetteref05_Wires_l5_h0]
      rw [show decide ((0 : Int) < ((n + 1 : Nat) : Int)) = true by simp, bx_t]
      have key := wires_loop (n + 1) (by omega) ⟨#[]⟩ ⟨#[]⟩ 0 0 ⟨#[]⟩ 0 0 ⟨#[]⟩ ⟨#[]⟩ ((fun _ _ _ _ _ _ _ _ _ => serinetteref05_Row [] (fun r24 r25 r26 r27 r28 r29 r30 r31 r32 r33 r34 => K r24 r25 r26 r27 r28 r29 r30 r31 r32 r33 r34)), (fun z35_0 _ _ _ _ _ _ _ _ _ z35_10 => bx (Nat.ble (0 + z35_0 * 11) (List.length z35_10)) (serinetteref05_Row (chunks 11 z35_0 (List.drop 0 z35_10)) (fun r36 r37 r38 r39 r40 r41 r42 r43 r44 r45 r46 => K r36 r37 r38 r39 r40 r41 r42 r43 r44 r45 r46)) none)) n 1 (by omega)
      refine Eq.trans key ?_
      have hb : Nat.ble (0 + (n + 1) * 11) (BT.cellsL (List.replicate (n + 1) wire)).flatten.length = true := Nat.ble_eq_true_of_le (by rw [flat_len, List.length_replicate]; omega)
      have hc : chunks 11 (n + 1) (BT.cellsL (List.replicate (n + 1) wire)).flatten = BT.cellsL (List.replicate (n + 1) wire) := by
        have := chunks_flat (List.replicate (n + 1) wire)
        rwa [List.length_replicate] at this
      simp only [hb, bx_t, List.drop_zero, hc, Int.toNat_natCast]
      exact all_ref ⟨#[112, 97, 114]⟩ (List.replicate (n + 1) wire) (by rw [List.length_replicate]; omega) K
end Go.Proofs.Ytofmclaoihaenaa
