/-
  Diagrams joined.
-/
import Derived.Test.YtofmclaoihaenaaBh
set_option linter.all false
namespace Go.Proofs.Ytofmclaoihaenaa
open Go Go.Pv Go.RowKit
/-- One over or behind another, by an op. -/
def joinT (op : ByteArray) (a b : BT) : BT := .mk op ⟨#[]⟩ 0 0 [] ⟨#[]⟩ 0 0 ⟨#[]⟩ ⟨#[]⟩ [a, b]
theorem pull (f0 : F11 (F11 (Option DV) → Option DV)) (q : BT) (h : ∀ K : F11 (Option DV), q.call f0 K = q.call K) (K : F11 (Option DV)) : q.call (fun v0 v1 v2 v3 v4 v5 v6 v7 v8 v9 v10 => f0 v0 v1 v2 v3 v4 v5 v6 v7 v8 v9 v10 K) = q.call K :=
  (show q.call (fun v0 v1 v2 v3 v4 v5 v6 v7 v8 v9 v10 => f0 v0 v1 v2 v3 v4 v5 v6 v7 v8 v9 v10 K) = q.call f0 K by cases q; rfl).trans (h K)
theorem call_cells (x : BT) (G : List DV → Option DV) : x.call (fun v0 v1 v2 v3 v4 v5 v6 v7 v8 v9 v10 => G [.val (.string v0), .val (.string v1), .val (.int .i64 v2), .val (.int .i64 v3), .lst 2 v4, .val (.string v5), .val (.int .i64 v6), .val (.int .i64 v7), .val (.string v8), .val (.string v9), .lst 11 v10]) = G x.cells := by cases x; rfl
theorem call_cells2 (x : BT) (A0 A1 A2 A3 A4 A5 A6 A7 A8 A9 A10 : DV) (G : List DV → Option DV) : x.call (fun v0 v1 v2 v3 v4 v5 v6 v7 v8 v9 v10 => G [A0, A1, A2, A3, A4, A5, A6, A7, A8, A9, A10, .val (.string v0), .val (.string v1), .val (.int .i64 v2), .val (.int .i64 v3), .lst 2 v4, .val (.string v5), .val (.int .i64 v6), .val (.int .i64 v7), .val (.string v8), .val (.string v9), .lst 11 v10]) = G ([A0, A1, A2, A3, A4, A5, A6, A7, A8, A9, A10] ++ x.cells) := by cases x; rfl
theorem two_flat (u v : BT) : (BT.cellsL [u, v]).flatten = u.cells ++ v.cells := by simp [BT.cellsL]
theorem two_chunks (u v : BT) : chunks 11 2 (List.drop 0 (u.cells ++ v.cells)) = BT.cellsL [u, v] := by
  rw [List.drop_zero, ← two_flat]; exact chunks_flat [u, v]
theorem join_h1 (f0 : F11 (F11 (Option DV) → Option DV)) (op : ByteArray) (X : List BT) (hl : X.length < 9223372036854775807) (hf : ∀ x ∈ X, ∀ K : F11 (Option DV), x.call f0 K = x.call K) (κ : _) :
    ∀ (r d : List BT) (u v : BT) (x4 x5 : ByteArray) (x6 x7 : Int) (x8 : ByteArray) (x9 x10 : Int) (x11 x12 : ByteArray), X = d ++ r → ∃ y4 y5 y6 y7 y8 y9 y10 y11 y12 u' v', joinT op u' v' = r.foldl (joinT op) (joinT op u v) ∧
    LF (F_block_joined_l5 f0) (r.length + 1) (.h1 op (BT.cellsL X) (X.length : Nat) d.length x4 x5 x6 x7 x8 x9 x10 x11 x12 op ⟨#[]⟩ 0 0 ⟨#[]⟩ 0 0 ⟨#[]⟩ ⟨#[]⟩ 2 (u.cells ++ v.cells)) κ = κ.2 y4 y5 y6 y7 y8 y9 y10 y11 y12 op ⟨#[]⟩ 0 0 ⟨#[]⟩ 0 0 ⟨#[]⟩ ⟨#[]⟩ 2 (u'.cells ++ v'.cells)
  | [], d, u, v, x4, x5, x6, x7, x8, x9, x10, x11, x12, hX => by
    refine ⟨x4, x5, x6, x7, x8, x9, x10, x11, x12, u, v, rfl, ?_⟩
    simp only [LF, F_block_joined_l5, B_block_joined_l5_h1]
    have : decide ((d.length : Int) < (X.length : Int)) = false := by simp [hX]
    rw [this, bx_f]
  | q :: r, d, u, v, x4, x5, x6, x7, x8, x9, x10, x11, x12, hX => by
    have hlx : X.length = d.length + r.length + 1 := by simp [hX]; omega
    obtain ⟨y4, y5, y6, y7, y8, y9, y10, y11, y12, u', v', e, ih⟩ := join_h1 f0 op X hl hf κ r (d ++ [q]) (joinT op u v) q x4 x5 x6 x7 x8 x9 x10 x11 x12 (by simp [hX])
    refine ⟨y4, y5, y6, y7, y8, y9, y10, y11, y12, u', v', e, ?_⟩
    rw [show (q :: r).length + 1 = (r.length + 1) + 1 from rfl, LF]
    simp only [F_block_joined_l5, B_block_joined_l5_h1]
    have h1 : decide ((d.length : Int) < (X.length : Int)) = true := by simp; omega
    have h2 : decide (0 ≤ (d.length : Int)) = true := by simp
    have h3 : (BT.cellsL X)[Int.toNat (d.length : Int)]? = some q.cells := by simp [BT.cellsL_eq, hX]
    have h4 : Nat.ble (0 + 2 * 11) (u.cells ++ v.cells).length = true := Nat.ble_eq_true_of_le (by simp [BT.cells_len])
    simp only [h1, h2, h3, h4, bx_t, optE, ld_tree]
    rw [pull f0 q (hf q (by simp [hX]))]
    refine Eq.trans (call_cells2 q _ _ _ _ _ _ _ _ _ _ _ fun e => LF (F_block_joined_l5 f0) (r.length + 1) (.h1 op (BT.cellsL X) (X.length : Nat) (IntKind.wrap .i64 ((d.length : Int) + 1)) x4 x5 x6 x7 x8 x9 x10 x11 x12 op ⟨#[]⟩ 0 0 ⟨#[]⟩ 0 0 ⟨#[]⟩ ⟨#[]⟩ 2 e) κ) ?_
    rw [two_chunks, wrap_next (by omega) (by omega), show (d.length : Int) + 1 = ((d ++ [q]).length : Nat) by simp]
    exact ih
theorem all_loop (op : ByteArray) (X : List BT) (hl : X.length < 9223372036854775807) (x3 x4 : ByteArray) (x5 x6 : Int) (x7 : ByteArray) (x8 x9 : Int) (x10 x11 : ByteArray) (κ : _) :
    ∀ (r d : List BT) (a : BT), X = d ++ r →
    a.call (fun v0 v1 v2 v3 v4 v5 v6 v7 v8 v9 v10 => LF (F_serinetteref05_all_l5 serinetteref05_Join) (r.length + 1) (.h0 op (BT.cellsL X) d.length x3 x4 x5 x6 x7 x8 x9 x10 x11 v0 v1 v2 v3 v4 v5 v6 v7 v8 v9 v10) κ) = (r.foldl (joinT op) a).call (κ x3 x4 x5 x6 x7 x8 x9 x10 x11)
  | [], d, a, hX => by
    simp only [LF, F_serinetteref05_all_l5, B_serinetteref05_all_l5_h0]
    have : decide ((d.length : Int) < (((BT.cellsL X).length : Nat) : Int)) = false := by simp [BT.cellsL_eq, hX]
    simp only [this, bx_f]
    cases a; rfl
  | q :: r, d, a, hX => by
    have hlx : X.length = d.length + r.length + 1 := by simp [hX]; omega
    have ih := all_loop op X hl x3 x4 x5 x6 x7 x8 x9 x10 x11 κ r (d ++ [q]) (joinT op a q) (by simp [hX])
    rw [show (q :: r).length + 1 = (r.length + 1) + 1 from rfl]
    simp only [LF, F_serinetteref05_all_l5, B_serinetteref05_all_l5_h0]
    have h1 : decide ((d.length : Int) < (((BT.cellsL X).length : Nat) : Int)) = true := by simp [BT.cellsL_eq]; omega
    have h2 : decide (0 ≤ (d.length : Int)) = true := by simp
    have h3 : (BT.cellsL X)[Int.toNat (d.length : Int)]? = some q.cells := by simp [BT.cellsL_eq, hX]
    simp only [h1, h2, h3, bx_t, optE, ld_tree]
    rw [wrap_next (by omega) (by omega), show (d.length : Int) + 1 = ((d ++ [q]).length : Nat) by simp]
    rw [List.foldl_cons, ← ih]
    cases a; cases q; rfl
/-- All of them, one behind another. -/
def foldB (op : ByteArray) : List BT → BT
  | [] => .mk ⟨#[]⟩ ⟨#[]⟩ 0 0 [] ⟨#[]⟩ 0 0 ⟨#[]⟩ ⟨#[]⟩ []
  | x :: xs => xs.foldl (joinT op) x
end Go.Proofs.Ytofmclaoihaenaa
