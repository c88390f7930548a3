/-
  BlockPlaces' call, of any arguments.
-/
import Derived.Test.YtdfhakhapblhgaaGq
set_option linter.all false
namespace Go.Proofs.Ytdfhakhapblhgaa
open Go Go.Pv Go.RowKit
theorem places_any (t x : BT) (L : List Int) (ht : t.ok) (hx : x.ok) (hL : L.length ≤ 9223372036854775807) (vs xs : List Value) (vp : Value) (w : World) (h0 : CR (fun k => k < w.heap.size) w t.cells vs) (h1 : CR (fun k => k < w.heap.size) w x.cells xs) (h2 : DRep (fun k => k < w.heap.size) w (intsD L) vp) :
    Calls Try.prog 3 #[.agg vs.toArray, .agg xs.toArray, vp] w fun e w' => e = .returned (.bool true) ∧ Below w.heap.size w w' := by
  have hr := places_true (t.depth + x.depth + L.length + 1) _ rfl t x L ht hx (by omega) hL
  have h := m_serinettelaw05_BlockPlaces (t.depth + x.depth + L.length + 1 + 64) [.agg t.cells, .agg x.cells, intsD L] some (.val (.bool true)) (by
    obtain ⟨op, nm, nn, m, nums, fk, fi, ff, fr, fo, kids⟩ := t
    obtain ⟨op', nm', nn', m', nums', fk', fi', ff', fr', fo', kids'⟩ := x
    exact hr fun r => some (.val (.bool r)))
  obtain ⟨_, d, hd, _, hcall⟩ := h
  cases hd
  refine (hcall (fun k => k < w.heap.size) w _ trivial (fun _ h => h) rfl ?_).mono fun e w' ⟨v, he, hb, hr⟩ => ⟨by rw [he, val_eq hr], hb⟩
  intro i d v' e1 e2
  match i with
  | 0 => simp at e1 e2; subst e1; subst e2; exact cr_agg h0
  | 1 => simp at e1 e2; subst e1; subst e2; exact cr_agg h1
  | 2 => simp at e1 e2; subst e1; subst e2; exact h2
  | i + 3 => simp at e1
end Go.Proofs.Ytdfhakhapblhgaa
