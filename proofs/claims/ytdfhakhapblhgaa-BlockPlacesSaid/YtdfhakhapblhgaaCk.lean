/-
  block.At, and the places of diagrams.
-/
import Derived.Test.YtdfhakhapblhgaaCh
set_option linter.all false
namespace Go.Proofs.Ytdfhakhapblhgaa
open Go Go.Pv Go.RowKit
def intsD (L : List Int) : DV := .lst 1 (L.map fun i => [.val (.int .i64 i)])
/-- block.at, of any place. -/
theorem at_any {U : Nat → Prop} {w : World} {b o : Nat} {L : List Int} {r : Option (Nat × Nat)} {vp : Value} (hL : L.length ≤ 9223372036854775807) (h : Loc w b o L r) (hp : DRep U w (intsD L) vp) :
    Calls Try.prog 29 #[.pointer (some ⟨b, o, none⟩), vp] w fun e w' => e = .returned (ptrOf r) ∧ w' = w := by
  unfold intsD at hp
  generalize hes : L.map (fun i => [DV.val (.int .i64 i)]) = es at hp
  have hlen : es.length = L.length := by rw [← hes, List.length_map]
  cases hp with
  | nil =>
    have : L = [] := List.length_eq_zero_iff.1 (by simpa using hlen.symm)
    subst this
    cases h
    exact at_nil w b o _ _
  | lst h1 h2 h3 h4 h5 h6 =>
    rename_i b1 off c g
    rw [hlen]
    refine at_some w b o b1 off c L r hL h (fun i hi => ?_)
    have he : es[i]? = some [DV.val (.int .i64 (L.getD i 0))] := by rw [← hes, List.getElem?_map, List.getElem?_eq_getElem hi]; simp [List.getD, List.getElem?_eq_getElem hi]
    have hc := h5 i 0 _ _ he rfl
    have hv := h6 i 0 _ _ he rfl
    generalize g i 0 = u at hc hv
    cases hv
    simpa using hc
/-- Places in diagrams that nothing writes. -/
theorem frozen_at {U : Nat → Prop} {w : World} : ∀ (L : List Int) (t : BT) (b o : Nat), CellsAt U w b o t.cells →
    (BT.at L t = none ∧ Loc w b o L none) ∨ ∃ s b' o', BT.at L t = some s ∧ Loc w b o L (some (b', o')) ∧ CellsAt U w b' o' s.cells
  | [], t, b, o, h => .inr ⟨t, b, o, rfl, .done b o, h⟩
  | q :: L, t, b, o, h => by
    obtain ⟨v, hv, hr⟩ := h 10 _ (cells10 t)
    have hlen : (BT.cellsL t.kids).length = t.kids.length := by simp [BT.cellsL_eq]
    generalize hcs : BT.cellsL t.kids = es at hr hlen
    cases hr with
    | nil =>
      have hk : t.kids = [] := List.length_eq_zero_iff.1 (by simpa using hlen.symm)
      left
      constructor
      · simp [BT.at, hk]
      · exact .out hv (by omega)
    | lst h1 h2 h3 h4 h5 h6 =>
      rename_i b1 off c g
      by_cases hq : q < 0 ∨ (es.length : Int) ≤ q
      · left
        constructor
        · simp only [BT.at]
          rcases hq with hq | hq
          · rw [if_pos hq]
          · rw [if_neg (by omega), List.getElem?_eq_none (by omega)]
        · exact .out hv hq
      · obtain ⟨i, rfl⟩ : ∃ i : Nat, q = i := ⟨q.toNat, by omega⟩
        have hi : i < t.kids.length := by omega
        have hu := List.getElem?_eq_getElem hi
        generalize t.kids[i] = u at hu
        have hei : es[i]? = some u.cells := by rw [← hcs, cellsL_get, hu]; rfl
        have hC : CellsAt U w b1 (off + i * 11) u.cells := fun j x hx => ⟨_, h5 i j _ x hei hx, h6 i j _ x hei hx⟩
        have hat : BT.at ((i : Int) :: L) t = BT.at L u := by simp only [BT.at]; rw [if_neg (by omega)]; simp only [Int.toNat_natCast, hu]
        rw [hat]
        rcases frozen_at L u b1 _ hC with ⟨g1, g2⟩ | ⟨s, b', o', g1, g2, g3⟩
        · exact .inl ⟨g1, .step hv (by omega) g2⟩
        · exact .inr ⟨s, b', o', g1, .step hv (by omega) g2, g3⟩
/-- The zero diagram. -/
def BT.zero : BT := .mk ByteArray.empty ByteArray.empty 0 0 [] ByteArray.empty 0 0 ByteArray.empty ByteArray.empty []
theorem cellsAt_alloc {U : Nat → Prop} {w : World} {cs : List DV} {vs : List Value} {T : TypeId} (hU : ∀ k, U k → k < w.heap.size) (h : CR U w cs vs) (o : Obj) : CellsAt U ((w.alloc (.cells vs.toArray T (0, 0))).alloc o) w.heap.size 0 cs := by
  intro i x hx
  have hi : i < vs.length := by have := (List.getElem?_eq_some_iff.1 hx).1; rw [h.1]; exact this
  refine ⟨vs[i], ?_, ?_⟩
  · have : ((w.alloc (.cells vs.toArray T (0, 0))).alloc o).heap[w.heap.size]? = some (.cells vs.toArray T (0, 0)) := by rw [Below.heap_alloc _ _ _ (by simp), heap_alloc_new]
    simp [World.cell?, this, hi]
  · exact ((h.2 i x _ hx (List.getElem?_eq_getElem hi)).alloc_ hU _).alloc_ (fun k hk => by have := hU k hk; simp; omega) _
end Go.Proofs.Ytdfhakhapblhgaa
