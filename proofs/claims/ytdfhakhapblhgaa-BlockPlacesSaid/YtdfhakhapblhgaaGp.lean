/-
  At and Put: what both sides say of trees.
-/
import Derived.Test.YtdfhakhapblhgaaGo
set_option linter.all false
namespace Go.Proofs.Ytdfhakhapblhgaa
open Go Go.Pv Go.RowKit
theorem callA_eq {α : Type} (f : F11 α) (t : BT) : t.callA f = t.call f := by cases t; rfl
theorem gflat_len : ∀ l : List BT, (BT.cellsL l).flatten.length = l.length * 11
  | [] => rfl
  | b :: l => by simp only [BT.cellsL, List.flatten_cons, List.length_append, BT.cells_len, gflat_len l, List.length_cons]; omega
theorem gchunks_flat : ∀ l : List BT, chunks 11 l.length (BT.cellsL l).flatten = BT.cellsL l
  | [] => rfl
  | b :: l => by
    simp only [BT.cellsL, List.flatten_cons, List.length_cons, chunks]
    rw [List.take_left' (BT.cells_len b), List.drop_left' (BT.cells_len b), gchunks_flat l]
theorem flat_set : ∀ (l : List BT) (i : Nat) (z : BT), i < l.length → (BT.cellsL (l.set i z)).flatten = (BT.cellsL l).flatten.take (i * 11) ++ z.cells ++ (BT.cellsL l).flatten.drop (i * 11 + 11)
  | [], i, z, h => by simp at h
  | b :: l, 0, z, h => by
    simp only [List.set_cons_zero, BT.cellsL, List.flatten_cons, Nat.zero_mul, List.take_zero, List.nil_append, Nat.zero_add]
    rw [List.drop_left' (BT.cells_len b)]
  | b :: l, i + 1, z, h => by
    have ih := flat_set l i z (by simpa using h)
    simp only [List.set_cons_succ, BT.cellsL, List.flatten_cons, ih]
    have hb := BT.cells_len b
    rw [show (i + 1) * 11 = b.cells.length + i * 11 by omega, show b.cells.length + i * 11 + 11 = b.cells.length + (i * 11 + 11) by omega, List.take_length_add_append, List.drop_length_add_append]
    simp only [List.append_assoc]
theorem intsL_tail (q : Int) (L : List Int) : List.drop (Int.toNat 1) (List.take (Int.toNat (((intsL (q :: L)).length : Nat) : Int)) (intsL (q :: L))) = intsL L := by
  have : Int.toNat (((intsL (q :: L)).length : Nat) : Int) = (intsL (q :: L)).length := by omega
  rw [this, List.take_length]
  rfl
theorem cond_tail (n : Nat) (h : 1 ≤ n) : (true && decide ((0 : Int) ≤ ((n : Nat) : Int)) && decide (((n : Nat) : Int) ≤ ((n : Nat) : Int)) && decide (0 ≤ 1) && decide ((1 : Int) ≤ ((n : Nat) : Int))) = true := by simp; omega
theorem call2k {α β : Type} (f : F11 (α → β → Option DV)) (u : BT) (a : α) (K : β) : u.call (fun v4 v5 v6 v7 v8 v9 v10 v11 v12 v13 v14 => f v4 v5 v6 v7 v8 v9 v10 v11 v12 v13 v14 a K) = u.call f a K := by cases u; rfl
/-- The specification's At. -/
theorem at_ref (N : Nat) : ∀ (L : List Int) (n : Nat) (t : BT) (k : (ByteArray → ByteArray → Int → Int → List (List DV) → ByteArray → Int → Int → ByteArray → ByteArray → List (List DV) → Int → Option DV)), L.length < n → t.call (serinetteref05_At_n N n) (intsL L) k = atK L t k
  | [], n + 1, .mk op nm nn m nums fk fi ff fr fo kids, k, h => rfl
  | q :: L, n + 1, .mk op nm nn m nums fk fi ff fr fo kids, k, h => by
    have ih := at_ref N L n
    show B_serinetteref05_At (serinetteref05_At_n N n) op nm nn m (nums.map qpc) fk fi ff fr fo (BT.cellsL kids) (intsL (q :: L)) k = _
    unfold B_serinetteref05_At
    have h1 : ((((intsL (q :: L)).length : Nat) : Int) == 0) = false := by simp [intsL]; omega
    have h2 : (intsL (q :: L))[Int.toNat 0]? = some [.val (.int .i64 q)] := rfl
    have h3 : ∀ K : Int → Option DV, ld_i [.val (.int .i64 q)] 0 K = K q := fun _ => rfl
    have hl : (BT.cellsL kids).length = kids.length := by simp [BT.cellsL_eq]
    rw [h1, bx_f, h2]
    simp only [optE, h3, hl, intsL_tail]
    have hc := cond_tail (intsL (q :: L)).length (by simp [intsL])
    by_cases hq : q < 0
    · have e1 : decide (q ≥ 0) = false := by simp; omega
      have e2 : BT.at (q :: L) (.mk op nm nn m nums fk fi ff fr fo kids) = none := by simp [BT.at, hq]
      rw [e1, bx_f]
      simp only [atK, e2]; rfl
    have e1 : decide (q ≥ 0) = true := by simp; omega
    rw [e1, bx_t]
    by_cases hq2 : q < (kids.length : Int)
    · have e3 : decide (q < (kids.length : Int)) = true := by simpa using hq2
      have e4 : decide (0 ≤ q) = true := by simp; omega
      have hu : kids[q.toNat]? = some kids[q.toNat] := List.getElem?_eq_getElem (by omega)
      generalize kids[q.toNat]'(by omega) = u at hu
      have e5 : (BT.cellsL kids)[Int.toNat q]? = some u.cells := by rw [cellsL_get, hu]; rfl
      rw [e3, bx_t, bx_t, e5]
      simp only [ld_tree]
      rw [hc]
      simp only [bx_t]
      refine Eq.trans (call2k (serinetteref05_At_n N n) u (intsL L) k) ?_
      rw [ih u k (by simp at h; omega)]
      have e6 : BT.at (q :: L) (.mk op nm nn m nums fk fi ff fr fo kids) = BT.at L u := by simp only [BT.at, BT.kids, hu]; rw [if_neg hq]
      simp only [atK, e6]
    · have e3 : decide (q < (kids.length : Int)) = false := by simp; omega
      have hu : kids[q.toNat]? = none := List.getElem?_eq_none (by omega)
      have e2 : BT.at (q :: L) (.mk op nm nn m nums fk fi ff fr fo kids) = none := by simp [BT.at, BT.kids, hu]
      rw [e3, bx_f]
      simp only [atK, e2]; rfl
theorem call3k {α β : Type} (f : F11 (α → F11 (β → Option DV))) (u x : BT) (a : α) (K : β) : u.call (fun v4 v5 v6 v7 v8 v9 v10 v11 v12 v13 v14 => x.call (f v4 v5 v6 v7 v8 v9 v10 v11 v12 v13 v14 a) K) = x.call (u.call f a) K := by cases u; rfl
theorem greach : reachBytes ≤ 140737488355328 := by decide
/-- The specification's Put. -/
theorem put_ref (N : Nat) : ∀ (L : List Int) (n : Nat) (t x : BT) (k : (ByteArray → ByteArray → Int → Int → List (List DV) → ByteArray → Int → Int → ByteArray → ByteArray → List (List DV) → Int → Option DV)), t.ok → L.length < n → x.call (t.call (serinetteref05_Put_n N n) (intsL L)) k = putK L t x k
  | [], n + 1, .mk op nm nn m nums fk fi ff fr fo kids, .mk op' nm' nn' m' nums' fk' fi' ff' fr' fo' kids', k, hok, h => rfl
  | q :: L, n + 1, .mk op nm nn m nums fk fi ff fr fo kids, .mk op' nm' nn' m' nums' fk' fi' ff' fr' fo' kids', k, hok, h => by
    have ih := put_ref N L n
    have hko := hok.2.2.2.2.2.2.1
    have hr := greach
    show B_serinetteref05_Put (serinetteref05_Put_n N n) op nm nn m (nums.map qpc) fk fi ff fr fo (BT.cellsL kids) (intsL (q :: L)) op' nm' nn' m' (nums'.map qpc) fk' fi' ff' fr' fo' (BT.cellsL kids') k = _
    unfold B_serinetteref05_Put
    have h1 : ((((intsL (q :: L)).length : Nat) : Int) == 0) = false := by simp [intsL]; omega
    have h2 : (intsL (q :: L))[Int.toNat 0]? = some [.val (.int .i64 q)] := rfl
    have h3 : ∀ K : Int → Option DV, ld_i [.val (.int .i64 q)] 0 K = K q := fun _ => rfl
    have hl : (BT.cellsL kids).length = kids.length := by simp [BT.cellsL_eq]
    rw [h1, bx_f, h2]
    simp only [optE, h3, hl, intsL_tail]
    have hc := cond_tail (intsL (q :: L)).length (by simp [intsL])
    by_cases hq : q < 0
    · have e1 : (!(decide (q < 0))) = false := by simp [hq]
      have e2 : BT.put (q :: L) (.mk op nm nn m nums fk fi ff fr fo kids) (.mk op' nm' nn' m' nums' fk' fi' ff' fr' fo' kids') = none := by simp [BT.put, hq]
      rw [e1, bx_f]
      simp only [putK, e2]; rfl
    have e1 : (!(decide (q < 0))) = true := by simp; omega
    rw [e1, bx_t]
    by_cases hq2 : q < (kids.length : Int)
    · have e3 : decide (q ≥ (kids.length : Int)) = false := by simp; omega
      have e4 : decide (0 ≤ q) = true := by simp; omega
      have hu : kids[q.toNat]? = some kids[q.toNat] := List.getElem?_eq_getElem (by omega)
      generalize kids[q.toNat]'(by omega) = u at hu
      have e5 : (BT.cellsL kids)[Int.toNat q]? = some u.cells := by rw [cellsL_get, hu]; rfl
      rw [e3, bx_f, e4, bx_t, e5]
      simp only [ld_tree]
      rw [hc]
      simp only [bx_t]
      refine Eq.trans (call3k (serinetteref05_Put_n N n) u (.mk op' nm' nn' m' nums' fk' fi' ff' fr' fo' kids') (intsL L) _) ?_
      rw [ih u _ _ (ok_mem hok.2.2.2.2.2.2.2 u (List.mem_of_getElem? hu)) (by simp at h; omega)]
      have e6 : BT.put (q :: L) (.mk op nm nn m nums fk fi ff fr fo kids) (.mk op' nm' nn' m' nums' fk' fi' ff' fr' fo' kids') = (BT.put L u (.mk op' nm' nn' m' nums' fk' fi' ff' fr' fo' kids')).map fun z => BT.withKids (.mk op nm nn m nums fk fi ff fr fo kids) (kids.set q.toNat z) := by simp only [BT.put, BT.kids, hu]; rw [if_neg hq]
      simp only [putK, e6]
      cases hz : BT.put L u (.mk op' nm' nn' m' nums' fk' fi' ff' fr' fo' kids') with
      | none => rfl
      | some z =>
        simp only [Option.map_some]
        have g1 : Nat.beq kids.length 0 = false := by
          cases hb : Nat.beq kids.length 0 with
          | false => rfl
          | true => have := Nat.eq_of_beq_eq_true hb; omega
        have g2 := cf_flat kids
        have g3 : (true && true && Nat.ble (0 * 11) (List.length ([] : List DV)) && Nat.ble (0 + kids.length) maxLen && Nat.ble ((0 + kids.length) * 160) 140737488355328) = true := by
          simp only [Bool.true_and, Bool.and_eq_true]
          exact ⟨⟨by decide, Nat.ble_eq_true_of_le (by unfold maxLen; omega)⟩, Nat.ble_eq_true_of_le (by omega)⟩
        have g4 : (true && decide (q < (((0 + kids.length) : Nat) : Int))) = true := by simp; omega
        have hi : q.toNat < kids.length := by omega
        have hF : List.take (0 * 11) ([] : List DV) ++ (BT.cellsL kids).flatten = (BT.cellsL kids).flatten := by simp
        have hz11 := BT.cells_len z
        have hfl := gflat_len kids
        have g5 : (true && Nat.ble (0 + Int.toNat q * 11 + 11) (List.length (List.take (0 * 11) ([] : List DV) ++ (BT.cellsL kids).flatten)) && true) = true := by
          rw [hF, hfl]
          simp only [Bool.true_and, Bool.and_true]
          exact Nat.ble_eq_true_of_le (by omega)
        have hset := flat_set kids q.toNat z hi
        have g6 : List.take (0 + Int.toNat q * 11) (List.take (0 * 11) ([] : List DV) ++ (BT.cellsL kids).flatten) ++ z.cells ++ List.drop (0 + Int.toNat q * 11 + 11) (List.take (0 * 11) ([] : List DV) ++ (BT.cellsL kids).flatten) = (BT.cellsL (kids.set q.toNat z)).flatten := by
          rw [hF, hset, Nat.zero_add]
        have g7 : Nat.ble (0 + (0 + kids.length) * 11) (List.length (BT.cellsL (kids.set q.toNat z)).flatten) = true := Nat.ble_eq_true_of_le (by rw [gflat_len, List.length_set]; omega)
        have g8 : chunks 11 (0 + kids.length) (List.drop 0 (BT.cellsL (kids.set q.toNat z)).flatten) = BT.cellsL (kids.set q.toNat z) := by
          have := gchunks_flat (kids.set q.toNat z)
          rw [List.length_set] at this
          rw [Nat.zero_add, List.drop_zero, this]
        obtain ⟨zop, znm, zn, zm, znums, zfk, zfi, zff, zfr, zfo, zkids⟩ := z
        simp only [BT.cells] at g6
        simp only [BT.callA, BT.withKids]
        rw [show ((0 : Int) != 0) = false from rfl, bx_f, g1, bx_f, g2, bx_t, g3, bx_t, g4, bx_t, g5, bx_t, g6, g7, bx_t, g8]
    · have e3 : decide (q ≥ (kids.length : Int)) = true := by simp; omega
      have hu : kids[q.toNat]? = none := List.getElem?_eq_none (by omega)
      have e2 : BT.put (q :: L) (.mk op nm nn m nums fk fi ff fr fo kids) (.mk op' nm' nn' m' nums' fk' fi' ff' fr' fo' kids') = none := by simp [BT.put, BT.kids, hu]
      rw [e3, bx_t]
      simp only [putK, e2]; rfl
end Go.Proofs.Ytdfhakhapblhgaa
