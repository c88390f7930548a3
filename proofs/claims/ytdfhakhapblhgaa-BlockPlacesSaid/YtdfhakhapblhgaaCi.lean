/-
  A slice of diagrams, copied one by one: what has been done so far.
-/
import Derived.Test.YtdfhakhapblhgaaCf
set_option linter.all false
namespace Go.Proofs.Ytdfhakhapblhgaa
open Go Go.Pv Go.RowKit
def fresh (w w' : World) : Nat → Prop := fun k => w.heap.size ≤ k ∧ k < w'.heap.size
theorem set11 (c : Array Value) (o : Nat) (v0 v1 v2 v3 v4 v5 v6 v7 v8 v9 v10 : Value) (h : o + 11 ≤ c.size) : (((((((((((c.setIfInBounds o v0).setIfInBounds (o + 1) v1).setIfInBounds (o + 2) v2).setIfInBounds (o + 3) v3).setIfInBounds (o + 4) v4).setIfInBounds (o + 5) v5).setIfInBounds (o + 6) v6).setIfInBounds (o + 7) v7).setIfInBounds (o + 8) v8).setIfInBounds (o + 9) v9).setIfInBounds (o + 10) v10).size = c.size ∧ (∀ i, (i < o ∨ o + 11 ≤ i) → (((((((((((c.setIfInBounds o v0).setIfInBounds (o + 1) v1).setIfInBounds (o + 2) v2).setIfInBounds (o + 3) v3).setIfInBounds (o + 4) v4).setIfInBounds (o + 5) v5).setIfInBounds (o + 6) v6).setIfInBounds (o + 7) v7).setIfInBounds (o + 8) v8).setIfInBounds (o + 9) v9).setIfInBounds (o + 10) v10)[i]? = c[i]?) ∧ ∀ j, j < 11 → (((((((((((c.setIfInBounds o v0).setIfInBounds (o + 1) v1).setIfInBounds (o + 2) v2).setIfInBounds (o + 3) v3).setIfInBounds (o + 4) v4).setIfInBounds (o + 5) v5).setIfInBounds (o + 6) v6).setIfInBounds (o + 7) v7).setIfInBounds (o + 8) v8).setIfInBounds (o + 9) v9).setIfInBounds (o + 10) v10)[o + j]? = [v0, v1, v2, v3, v4, v5, v6, v7, v8, v9, v10][j]? := by
  refine ⟨by simp only [Array.size_setIfInBounds], fun i hi => ?_, fun j hj => ?_⟩
  · simp only [Array.getElem?_setIfInBounds]
    repeat rw [if_neg (by omega)]
  · have : j = 0 ∨ j = 1 ∨ j = 2 ∨ j = 3 ∨ j = 4 ∨ j = 5 ∨ j = 6 ∨ j = 7 ∨ j = 8 ∨ j = 9 ∨ j = 10 := by omega
    simp only [Array.getElem?_setIfInBounds, Array.size_setIfInBounds]
    rcases this with rfl | rfl | rfl | rfl | rfl | rfl | rfl | rfl | rfl | rfl | rfl <;> simp <;> omega
structure CopyI (W : World) (kb : Nat) (cur : Array Value) (T : TypeId) (kids : List BT) (k : Nat) (wr : World) : Prop where
  keep : Keeps (fun j => j < W.heap.size ∧ j ≠ kb) W wr
  row : ∃ (cur' : Array Value) (G : Nat → Nat → Nat → Prop), wr.heap[kb]? = some (.cells cur' T (0, 0)) ∧ cur'.size = cur.size ∧ (∀ i, k * 11 ≤ i → cur'[i]? = cur[i]?) ∧
    (∀ i b j x, i < k → kids[i]? = some b → b.cells[j]? = some x → ∃ v, cur'[i * 11 + j]? = some v ∧ FRep wr (G i j) x v) ∧ (∀ i j q, i < k → G i j q → W.heap.size ≤ q ∧ q < wr.heap.size) ∧ ∀ i j i' j' q, i < k → i' < k → G i j q → G i' j' q → i = i' ∧ j = j'
theorem CopyI.start {W : World} {kb : Nat} {cur : Array Value} {T : TypeId} {kids : List BT} (h : W.heap[kb]? = some (.cells cur T (0, 0))) : CopyI W kb cur T kids 0 W :=
  ⟨Keeps.refl, cur, fun _ _ _ => False, h, rfl, fun _ _ => rfl, fun i b j x hi => absurd hi (Nat.not_lt_zero i), fun i j q hi => absurd hi (Nat.not_lt_zero i), fun i j i' j' q hi => absurd hi (Nat.not_lt_zero i)⟩
theorem CopyI.next {W wr wq wz : World} {kb k : Nat} {cur : Array Value} {T : TypeId} {kids : List BT} {x : BT} {vs : List Value} (h : CopyI W kb cur T kids k wr) (hx : kids[k]? = some x) (hkb : kb < W.heap.size)
    (hb : Below wr.heap.size wr wq) (hv : FVals wq (fresh wr wq) x.cells vs) (hk : Keeps (fun j => j ≠ kb) wq wz) (hz : ∀ c T, wq.heap[kb]? = some (.cells c T (0, 0)) → k * 11 + 11 ≤ c.size → ∃ c', wz.heap[kb]? = some (.cells c' T (0, 0)) ∧ c'.size = c.size ∧ (∀ i, i < k * 11 ∨ k * 11 + 11 ≤ i → c'[i]? = c[i]?) ∧ ∀ j, j < 11 → c'[k * 11 + j]? = vs[j]?)
    (hsz : k * 11 + 11 ≤ cur.size) : CopyI W kb cur T kids (k + 1) wz := by
  obtain ⟨cur', G, h1, h2, h3, h4, h5, h6⟩ := h.row
  have hkr : kb < wr.heap.size := lt_of_heap h1
  obtain ⟨c', e1, e2, e3, e4⟩ := hz cur' T (by rw [hb.block kb hkr]; exact h1) (by omega)
  obtain ⟨v1, G', v2, v3, v4⟩ := hv
  have hs1 := hb.size
  have hs2 := hk.size
  have hs0 := h.keep.size
  refine ⟨⟨hk.os.trans (hb.os.trans h.keep.os), hk.tape.trans (hb.tape.trans h.keep.tape), hk.output.trans (hb.output.trans h.keep.output), by omega, fun j hj => ?_⟩, c', fun i j q => if i = k then G' j q else G i j q, e1, by omega, ?_, ?_, ?_, ?_⟩
  · rw [hk.block j hj.2, hb.block j (by omega), h.keep.block j hj]
  · intro i hi
    rw [e3 i (by omega)]
    exact h3 i (by omega)
  · intro i b j y hi hb' hy
    have hj : j < 11 := by have := (List.getElem?_eq_some_iff.1 hy).1; rwa [b.cells_len] at this
    by_cases hik : i = k
    · subst hik
      rw [hx] at hb'
      cases hb'
      rw [e4 j hj]
      have hlt : j < vs.length := by rw [v1, x.cells_len]; exact hj
      refine ⟨vs[j], List.getElem?_eq_getElem hlt, ?_⟩
      simp only [if_true]
      exact (v2 j y _ hy (List.getElem?_eq_getElem hlt)).keep (fun _ h => h) (fun q hq => hk.block q (by have := (v3 j q hq).1; omega))
    · have hik' : i < k := by omega
      obtain ⟨v, g1, g2⟩ := h4 i b j y hik' hb' hy
      refine ⟨v, ?_, ?_⟩
      · rw [e3 (i * 11 + j) (by left; have : (i + 1) * 11 ≤ k * 11 := Nat.mul_le_mul_right 11 hik'; omega)]
        exact g1
      · simp only [if_neg hik]
        refine g2.keep (fun _ h => h) (fun q hq => ?_)
        obtain ⟨q1, q2⟩ := h5 i j q hik' hq
        rw [hk.block q (by omega), hb.block q q2]
  · intro i j q hi hq
    by_cases hik : i = k
    · rw [if_pos hik] at hq
      have := v3 j q hq
      unfold fresh at this
      omega
    · rw [if_neg hik] at hq
      have := h5 i j q (by omega) hq
      omega
  · intro i j i' j' q hi hi' hq hq'
    by_cases hik : i = k <;> by_cases hik' : i' = k
    · rw [if_pos hik] at hq; rw [if_pos hik'] at hq'
      exact ⟨by omega, v4 j j' q hq hq'⟩
    · rw [if_pos hik] at hq; rw [if_neg hik'] at hq'
      have g1 := (v3 j q hq).1
      have g2 := (h5 i' j' q (by omega) hq').2
      omega
    · rw [if_neg hik] at hq; rw [if_pos hik'] at hq'
      have g1 := (v3 j' q hq').1
      have g2 := (h5 i j q (by omega) hq).2
      omega
    · rw [if_neg hik] at hq; rw [if_neg hik'] at hq'
      exact h6 i j i' j' q (by omega) (by omega) hq hq'
theorem CopyI.done {W wr : World} {kb c : Nat} {cur : Array Value} {T : TypeId} {kids : List BT} (h : CopyI W kb cur T kids kids.length wr) (hkb : kb < W.heap.size) (hs : kids.length * 11 ≤ cur.size) (hc : kids.length ≤ c) :
    FRep wr (fun q => q = kb ∨ (W.heap.size ≤ q ∧ q < wr.heap.size)) (.lst 11 (BT.cellsL kids)) (.slice (some ⟨kb, 0, none⟩) kids.length c) := by
  obtain ⟨cur', G, h1, h2, h3, h4, h5, h6⟩ := h.row
  have hl : (BT.cellsL kids).length = kids.length := by simp [BT.cellsL_eq]
  have hil : ∀ i e, (BT.cellsL kids)[i]? = some e → i < kids.length := fun i e he => by have := (List.getElem?_eq_some_iff.1 he).1; omega
  have hb : ∀ i e, (BT.cellsL kids)[i]? = some e → ∃ b : BT, kids[i]? = some b ∧ e = b.cells := fun i e he => by
    rw [cellsL_get] at he
    cases hk : kids[i]? with
    | none => rw [hk] at he; cases he
    | some b => rw [hk] at he; cases he; exact ⟨b, by first | rfl | exact hk, rfl⟩
  have := FRep.lst (w := wr) (F := fun q => q = kb ∨ (W.heap.size ≤ q ∧ q < wr.heap.size)) (G := fun i j q => i < kids.length ∧ G i j q) (sz := 11) (b := kb) (c := c) (es := BT.cellsL kids) (g := fun i j => (cur'[i * 11 + j]?).getD undef) (cur := cur') (T := T) (.inl rfl) h1 (by omega) (by omega) (cf_len kids)
    (fun i j e x e1 e2 => by
      obtain ⟨b, hb1, rfl⟩ := hb i e e1
      obtain ⟨v, g1, _⟩ := h4 i b j x (hil i _ e1) hb1 e2
      simp [g1])
    (fun i j e x e1 e2 => by
      obtain ⟨b, hb1, rfl⟩ := hb i e e1
      obtain ⟨v, g1, g2⟩ := h4 i b j x (hil i _ e1) hb1 e2
      simp only [g1, Option.getD_some]
      exact g2.keep (fun q hq => ⟨hil i _ e1, hq⟩) (fun _ _ => rfl))
    (fun i j q hq => ⟨.inr (h5 i j q hq.1 hq.2), by have := h5 i j q hq.1 hq.2; omega⟩)
    (fun i j i' j' q hq hq' => h6 i j i' j' q hq.1 hq'.1 hq.2 hq'.2)
  rw [hl] at this
  exact this
end Go.Proofs.Ytdfhakhapblhgaa
