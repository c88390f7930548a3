/-
  block.Put, as it walks: what it stands on.
-/
import Derived.Test.YtdfhakhapblhgaaCl
set_option linter.all false
namespace Go.Proofs.Ytdfhakhapblhgaa
open Go Go.Pv Go.RowKit
theorem Loc.drew {w : World} {b o : Nat} {L : List Int} {r : Option (Nat × Nat)} (h : Loc w b o L r) : Loc w.drew b o L r := by
  induction h with
  | done b o => exact .done b o
  | step h1 h2 _ ih => exact .step h1 h2 ih
  | out h1 h2 => exact .out h1 h2
theorem put_some : ∀ (L : List Int) (t s x : BT), BT.at L t = some s → ∃ y, BT.put L t x = some y
  | [], t, s, x, _ => ⟨x, rfl⟩
  | q :: L, t, s, x, h => by
    simp only [BT.at] at h
    simp only [BT.put]
    by_cases hq : q < 0
    · rw [if_pos hq] at h; cases h
    rw [if_neg hq] at h ⊢
    cases hu : t.kids[q.toNat]? with
    | none => rw [hu] at h; cases h
    | some u =>
      rw [hu] at h
      obtain ⟨y, hy⟩ := put_some L u s x h
      exact ⟨_, by simp only [hy]; rfl⟩
theorem fcells_of {w : World} {F : Nat → Prop} {cs : List DV} {vs : List Value} {T : TypeId} (h : FVals w F cs vs) (hF : ∀ k, F k → k < w.heap.size) : FCells (w.alloc (.cells vs.toArray T (0, 0))) F w.heap.size 0 cs := by
  obtain ⟨h1, G, h2, h3, h4⟩ := h
  refine ⟨G, vs.toArray, T, heap_alloc_new _ _, by simp [h1], fun j x hx => ?_, fun j k hk => ⟨h3 j k hk, by have := hF k (h3 j k hk); omega⟩, h4⟩
  have hj : j < vs.length := by have := (List.getElem?_eq_some_iff.1 hx).1; omega
  exact ⟨vs[j], by simp [hj], (h2 j x _ hx (List.getElem?_eq_getElem hj)).keep (fun _ h => h) (fun k hk => Below.heap_alloc _ _ _ (hF k (h3 j k hk)))⟩
/-- Struct values written over a place of a block. -/
theorem fcells_set {w : World} {F : Nat → Prop} {cs : List DV} {vs : List Value} {b o : Nat} {cur cur' : Array Value} {T : TypeId} (h : FVals w F cs vs) (hb : w.heap[b]? = some (.cells cur T (0, 0))) (hs : cur'.size = cur.size) (ho : o + 11 ≤ cur.size) (hl : cs.length = 11) (hc : ∀ j, j < 11 → cur'[o + j]? = vs[j]?) (hF : ∀ k, F k → k ≠ b) {w' : World} (hb' : w'.heap[b]? = some (.cells cur' T (0, 0))) (hk : ∀ k, k ≠ b → w'.heap[k]? = w.heap[k]?) : FCells w' F b o cs := by
  obtain ⟨h1, G, h2, h3, h4⟩ := h
  refine ⟨G, cur', T, hb', by omega, fun j x hx => ?_, fun j k hg => ⟨h3 j k hg, hF k (h3 j k hg)⟩, h4⟩
  have hj : j < vs.length := by have := (List.getElem?_eq_some_iff.1 hx).1; omega
  exact ⟨vs[j], by rw [hc j (by omega)]; exact List.getElem?_eq_getElem hj, (h2 j x _ hx (List.getElem?_eq_getElem hj)).keep (fun _ h => h) (fun k hk' => hk k (hF k (h3 j k hk')))⟩
theorem fcells_vals {w : World} {F : Nat → Prop} {cs : List DV} {b o : Nat} (h : FCells w F b o cs) : ∃ (vs : List Value) (cur : Array Value) (T : TypeId), FVals w F cs vs ∧ w.heap[b]? = some (.cells cur T (0, 0)) ∧ (∀ j, j < cs.length → cur[o + j]? = vs[j]?) := by
  obtain ⟨G, cur, T, h0, h1, h2, h3, h4⟩ := h
  refine ⟨(List.range cs.length).map (fun j => (cur[o + j]?).getD undef), cur, T, ⟨by simp, G, fun j x v e1 e2 => ?_, fun j k hk => (h3 j k hk).1, h4⟩, h0, fun j hj => ?_⟩
  · obtain ⟨u, g1, g2⟩ := h2 j x e1
    have hj : j < cs.length := (List.getElem?_eq_some_iff.1 e1).1
    rw [List.getElem?_map, List.getElem?_range hj] at e2
    simp [g1] at e2
    subst e2
    exact g2
  · have : o + j < cur.size := by omega
    simp [hj, this]
end Go.Proofs.Ytdfhakhapblhgaa
