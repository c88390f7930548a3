/-
  A copy of a diagram is the diagram.
-/
import Derived.Test.YtofmclaoihaenaaBf
set_option linter.all false
namespace Go.Proofs.Ytofmclaoihaenaa
open Go Go.Pv Go.RowKit
theorem nth_app (A B : List DV) (j : Nat) : nth (A ++ B) (A.length + j) = nth B j := by
  unfold nth
  rw [List.getD_eq_getElem?_getD, List.getD_eq_getElem?_getD, List.getElem?_append_right (by omega)]
  congr 2; omega
theorem ld_shift (A B : List DV) (K : F11 (Option DV)) : ld_ssiil2siissl11 (A ++ B) A.length K = ld_ssiil2siissl11 B 0 K := by
  have h0 : nth (A ++ B) A.length = nth B 0 := nth_app A B 0
  simp only [ld_ssiil2siissl11, Nat.add_assoc, nth_app, h0, Nat.zero_add]
theorem ld_at (A B : List DV) (x : BT) (K : F11 (Option DV)) (o : Nat) (ho : o = A.length) : ld_ssiil2siissl11 (A ++ (x.cells ++ B)) o K = x.call K := by
  subst ho
  rw [ld_shift]
  cases x; rfl
theorem flat_len : ∀ l : List BT, (BT.cellsL l).flatten.length = l.length * 11
  | [] => rfl
  | b :: l => by simp only [BT.cellsL, List.flatten_cons, List.length_append, BT.cells_len, flat_len l, List.length_cons]; omega
theorem flat_app : ∀ a b : List BT, (BT.cellsL (a ++ b)).flatten = (BT.cellsL a).flatten ++ (BT.cellsL b).flatten
  | [], b => rfl
  | x :: a, b => by simp only [List.cons_append, BT.cellsL, List.flatten_cons, flat_app a b, List.append_assoc]
theorem chunks_flat : ∀ l : List BT, chunks 11 l.length (BT.cellsL l).flatten = BT.cellsL l
  | [] => rfl
  | b :: l => by
    simp only [BT.cellsL, List.flatten_cons, List.length_cons, chunks]
    rw [List.take_left' (BT.cells_len b), List.drop_left' (BT.cells_len b), chunks_flat l]
theorem copy_h1 (f0 : F11 (F11 (Option DV) → Option DV)) (x3 x4 : ByteArray) (x5 x6 : Int) (x7 : List (List DV)) (x8 : ByteArray) (x9 x10 : Int) (x11 x12 x14 x15 : ByteArray) (x16 x17 : Int) (x18 : ByteArray) (x19 x20 : Int) (x21 x22 : ByteArray) (X : List BT) (hl : X.length < 9223372036854775807) (hf : ∀ x ∈ X, ∀ K : F11 (Option DV), x.call f0 K = x.call K) (κ : _) :
    ∀ (r d : List BT), X = d ++ r → ∃ y14 y15 y16 y17 y18 y19 y20 y21 y22, LF (F_block_copied_l4 f0) (r.length + 1) (.h1 X.length (X.length : Nat) d.length x3 x4 x5 x6 x7 x8 x9 x10 x11 x12 X.length x14 x15 x16 x17 x18 x19 x20 x21 x22 (BT.cellsL X).flatten) κ = κ.2.1 x3 x4 x5 x6 x7 x8 x9 x10 x11 x12 X.length y14 y15 y16 y17 y18 y19 y20 y21 y22 (BT.cellsL X).flatten
  | [], d, hX => by
    refine ⟨x14, x15, x16, x17, x18, x19, x20, x21, x22, ?_⟩
    simp only [LF, F_block_copied_l4, B_block_copied_l4_h1]
    have : decide ((d.length : Int) < (X.length : Int)) = false := by simp [hX]
    rw [this, bx_f]
  | q :: r, d, hX => by
    obtain ⟨y14, y15, y16, y17, y18, y19, y20, y21, y22, ih⟩ := copy_h1 f0 x3 x4 x5 x6 x7 x8 x9 x10 x11 x12 x14 x15 x16 x17 x18 x19 x20 x21 x22 X hl hf κ r (d ++ [q]) (by simp [hX])
    refine ⟨y14, y15, y16, y17, y18, y19, y20, y21, y22, ?_⟩
    have hlx : X.length = d.length + r.length + 1 := by simp [hX]; omega
    rw [show (q :: r).length + 1 = (r.length + 1) + 1 from rfl, LF]
    simp only [F_block_copied_l4, B_block_copied_l4_h1]
    have h1 : decide ((d.length : Int) < (X.length : Int)) = true := by simp; omega
    have h2 : decide (0 ≤ (d.length : Int)) = true := by simp
    have hX2 : (BT.cellsL X).flatten = (BT.cellsL d).flatten ++ (q.cells ++ (BT.cellsL r).flatten) := by rw [hX, flat_app]; rfl
    have ho : 0 + Int.toNat (d.length : Int) * 11 = (BT.cellsL d).flatten.length := by rw [flat_len]; simp
    simp only [h1, h2, bx_t, Bool.and_true, Bool.true_and]
    rw [hX2, ld_at _ _ _ _ _ ho]
    have hcall : ∀ K : F11 (Option DV), q.call (fun v0 v1 v2 v3 v4 v5 v6 v7 v8 v9 v10 => f0 v0 v1 v2 v3 v4 v5 v6 v7 v8 v9 v10 K) = q.call K := fun K => (show q.call (fun v0 v1 v2 v3 v4 v5 v6 v7 v8 v9 v10 => f0 v0 v1 v2 v3 v4 v5 v6 v7 v8 v9 v10 K) = q.call f0 K by cases q; rfl).trans (hf q (by simp [hX]) K)
    rw [hcall]
    have hlen : Nat.ble (0 + Int.toNat (d.length : Int) * 11 + 11) ((BT.cellsL d).flatten ++ (q.cells ++ (BT.cellsL r).flatten)).length = true := Nat.ble_eq_true_of_le (by simp only [List.length_append, flat_len, BT.cells_len]; simp)
    simp only [hlen, bx_t]
    have hid : ∀ G : List DV → Option DV, q.call (fun v0 v1 v2 v3 v4 v5 v6 v7 v8 v9 v10 => G [.val (.string v0), .val (.string v1), .val (.int .i64 v2), .val (.int .i64 v3), .lst 2 v4, .val (.string v5), .val (.int .i64 v6), .val (.int .i64 v7), .val (.string v8), .val (.string v9), .lst 11 v10]) = G q.cells := by intro G; cases q; rfl
    refine Eq.trans (hid fun e => LF (F_block_copied_l4 f0) (r.length + 1) (.h1 X.length (X.length : Nat) (IntKind.wrap .i64 ((d.length : Int) + 1)) x3 x4 x5 x6 x7 x8 x9 x10 x11 x12 X.length x14 x15 x16 x17 x18 x19 x20 x21 x22 (List.take (0 + Int.toNat (d.length : Int) * 11) ((BT.cellsL d).flatten ++ (q.cells ++ (BT.cellsL r).flatten)) ++ e ++ List.drop (0 + Int.toNat (d.length : Int) * 11 + 11) ((BT.cellsL d).flatten ++ (q.cells ++ (BT.cellsL r).flatten)))) κ) ?_
    have e1 : List.take (0 + Int.toNat (d.length : Int) * 11) ((BT.cellsL d).flatten ++ (q.cells ++ (BT.cellsL r).flatten)) ++ q.cells ++ List.drop (0 + Int.toNat (d.length : Int) * 11 + 11) ((BT.cellsL d).flatten ++ (q.cells ++ (BT.cellsL r).flatten)) = (BT.cellsL X).flatten := by
      rw [ho, List.take_left' rfl, hX2, ← List.drop_drop, List.drop_left' rfl, List.drop_left' (BT.cells_len q), List.append_assoc]
    rw [e1, wrap_next (by omega) (by omega), show (d.length : Int) + 1 = ((d ++ [q]).length : Nat) by simp]
    rw [ih, hX2]
theorem copy_h3 (f0 : F11 (F11 (Option DV) → Option DV)) (x3 x4 : ByteArray) (x5 x6 : Int) (x7 : Nat) (x8 : ByteArray) (x9 x10 : Int) (x11 x12 x14 x15 : ByteArray) (x16 x17 : Int) (x18 : ByteArray) (x19 x20 : Int) (x21 x22 : ByteArray) (x24 : List DV) (X : List BT) (hl : X.length < 9223372036854775807) (hf : ∀ x ∈ X, ∀ K : F11 (Option DV), x.call f0 K = x.call K) (κ : _) :
    ∀ (r d : List BT), X = d ++ r → ∃ y14 y15 y16 y17 y18 y19 y20 y21 y22, LF (F_block_copied_l4 f0) (r.length + 1) (.h3 X.length (X.length : Nat) d.length x3 x4 x5 x6 x7 x8 x9 x10 x11 x12 X.length x14 x15 x16 x17 x18 x19 x20 x21 x22 (BT.cellsL X).flatten x24) κ = κ.2.2.2 x3 x4 x5 x6 x7 x8 x9 x10 x11 x12 X.length y14 y15 y16 y17 y18 y19 y20 y21 y22 x24 (BT.cellsL X).flatten
  | [], d, hX => by
    refine ⟨x14, x15, x16, x17, x18, x19, x20, x21, x22, ?_⟩
    simp only [LF, F_block_copied_l4, B_block_copied_l4_h3]
    have : decide ((d.length : Int) < (X.length : Int)) = false := by simp [hX]
    rw [this, bx_f]
  | q :: r, d, hX => by
    obtain ⟨y14, y15, y16, y17, y18, y19, y20, y21, y22, ih⟩ := copy_h3 f0 x3 x4 x5 x6 x7 x8 x9 x10 x11 x12 x14 x15 x16 x17 x18 x19 x20 x21 x22 x24 X hl hf κ r (d ++ [q]) (by simp [hX])
    refine ⟨y14, y15, y16, y17, y18, y19, y20, y21, y22, ?_⟩
    have hlx : X.length = d.length + r.length + 1 := by simp [hX]; omega
    rw [show (q :: r).length + 1 = (r.length + 1) + 1 from rfl, LF]
    simp only [F_block_copied_l4, B_block_copied_l4_h3]
    have h1 : decide ((d.length : Int) < (X.length : Int)) = true := by simp; omega
    have h2 : decide (0 ≤ (d.length : Int)) = true := by simp
    have hX2 : (BT.cellsL X).flatten = (BT.cellsL d).flatten ++ (q.cells ++ (BT.cellsL r).flatten) := by rw [hX, flat_app]; rfl
    have ho : 0 + Int.toNat (d.length : Int) * 11 = (BT.cellsL d).flatten.length := by rw [flat_len]; simp
    simp only [h1, h2, bx_t, Bool.and_true, Bool.true_and]
    rw [hX2, ld_at _ _ _ _ _ ho]
    have hcall : ∀ K : F11 (Option DV), q.call (fun v0 v1 v2 v3 v4 v5 v6 v7 v8 v9 v10 => f0 v0 v1 v2 v3 v4 v5 v6 v7 v8 v9 v10 K) = q.call K := fun K => (show q.call (fun v0 v1 v2 v3 v4 v5 v6 v7 v8 v9 v10 => f0 v0 v1 v2 v3 v4 v5 v6 v7 v8 v9 v10 K) = q.call f0 K by cases q; rfl).trans (hf q (by simp [hX]) K)
    rw [hcall]
    have hlen : Nat.ble (0 + Int.toNat (d.length : Int) * 11 + 11) ((BT.cellsL d).flatten ++ (q.cells ++ (BT.cellsL r).flatten)).length = true := Nat.ble_eq_true_of_le (by simp only [List.length_append, flat_len, BT.cells_len]; simp)
    simp only [hlen, bx_t]
    have hid : ∀ G : List DV → Option DV, q.call (fun v0 v1 v2 v3 v4 v5 v6 v7 v8 v9 v10 => G [.val (.string v0), .val (.string v1), .val (.int .i64 v2), .val (.int .i64 v3), .lst 2 v4, .val (.string v5), .val (.int .i64 v6), .val (.int .i64 v7), .val (.string v8), .val (.string v9), .lst 11 v10]) = G q.cells := by intro G; cases q; rfl
    refine Eq.trans (hid fun e => LF (F_block_copied_l4 f0) (r.length + 1) (.h3 X.length (X.length : Nat) (IntKind.wrap .i64 ((d.length : Int) + 1)) x3 x4 x5 x6 x7 x8 x9 x10 x11 x12 X.length x14 x15 x16 x17 x18 x19 x20 x21 x22 (List.take (0 + Int.toNat (d.length : Int) * 11) ((BT.cellsL d).flatten ++ (q.cells ++ (BT.cellsL r).flatten)) ++ e ++ List.drop (0 + Int.toNat (d.length : Int) * 11 + 11) ((BT.cellsL d).flatten ++ (q.cells ++ (BT.cellsL r).flatten))) x24) κ) ?_
    have e1 : List.take (0 + Int.toNat (d.length : Int) * 11) ((BT.cellsL d).flatten ++ (q.cells ++ (BT.cellsL r).flatten)) ++ q.cells ++ List.drop (0 + Int.toNat (d.length : Int) * 11 + 11) ((BT.cellsL d).flatten ++ (q.cells ++ (BT.cellsL r).flatten)) = (BT.cellsL X).flatten := by
      rw [ho, List.take_left' rfl, hX2, ← List.drop_drop, List.drop_left' rfl, List.drop_left' (BT.cells_len q), List.append_assoc]
    rw [e1, wrap_next (by omega) (by omega), show (d.length : Int) + 1 = ((d ++ [q]).length : Nat) by simp]
    rw [ih, hX2]
end Go.Proofs.Ytofmclaoihaenaa
