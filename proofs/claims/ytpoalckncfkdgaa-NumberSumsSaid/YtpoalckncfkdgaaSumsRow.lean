/- Proved: NumberSums answers true for every list of Qs, and leaves it as it was. No condition. -/
import Derived.Test.YtpoalckncfkdgaaRows
import Derived.Test.YtpoalckncfkdgaaSums
import Derived.Deep.Slices
import Derived.ChangeSame
import Derived.ProofKit
import Derived.OpenShut
import Derived.ShutString
import Derived.ChangeOld
import Derived.Below
import Derived.Carry
import Derived.Lib.SmallJoins
namespace Go.Proofs.Ytpoalckncfkdgaa.numberSums
open Go.ChangeShapes Go.WideShapes Go.ChangeAt Go.RowKit Go.Joins
open Go.ChangeMaps (open_string shut_string)
theorem own : ownKnob Try.prog.godebug = none := by kernel_rfl
theorem laidOut : laidOutB Try.prog = true := by kernel_rfl
theorem cellsQ : Try.prog.cellsOf 23 = 2 := by kernel_rfl
theorem cellsI : Try.prog.cellsOf 2 = 1 := by kernel_rfl
theorem gather {P : Nat → Int × Int → Prop} : ∀ N : Nat, (∀ i, i < N → ∃ q, P i q) → ∃ qs : List (Int × Int), qs.length = N ∧ ∀ i, i < N → P i (qs.getD i (0, 0))
  | 0, _ => ⟨[], rfl, fun i h => absurd h (Nat.not_lt_zero _)⟩
  | N + 1, h => by
    obtain ⟨qs, hl, hq⟩ := gather N fun i hi => h i (Nat.lt_succ_of_lt hi)
    obtain ⟨q, hN⟩ := h N (Nat.lt_succ_self _)
    refine ⟨qs ++ [q], by simp [hl], fun i hi => ?_⟩
    rcases Nat.lt_succ_iff_lt_or_eq.1 hi with h1 | rfl
    · have : (qs ++ [q]).getD i (0, 0) = qs.getD i (0, 0) := by
        rw [List.getD_eq_getElem?_getD, List.getD_eq_getElem?_getD, List.getElem?_append_left (by omega)]
      rw [this]; exact hq i h1
    · have : (qs ++ [q]).getD i (0, 0) = q := by
        rw [List.getD_eq_getElem?_getD, List.getElem?_append_right (by omega), hl]; simp
      rw [this]; exact hN
theorem sl_of {H : Type} {enc : TypeId × Value → H} {w : World} {base : Nat} {spare : Nat → Bool} {held : Bool} {fuel : Nat} {a : Option Addr} {len cap : Nat} {x : DataW H × List MemPlace}
    (h : DataW.trod enc Try.prog w base spare held fuel 38 [.slice a len cap] = some x) : IsSl w a len cap := by
  rcases Go.Deep.open_slice Try.underlying38 h with ⟨hcs, _⟩ | ⟨a', len', cap', m, n, D, Pl, hcs, _, hl, hm, hmm, _, hi⟩
  · simp at hcs
    obtain ⟨rfl, rfl, rfl⟩ := hcs
    exact Or.inl rfl
  · simp at hcs
    obtain ⟨rfl, rfl, rfl⟩ := hcs
    by_cases h0 : len = 0
    · exact Or.inl h0
    · have hlm : len ≤ m := by rw [hmm]; split <;> omega
      have hcell : ∀ i, i < len → ∃ q : Int × Int, w.cell? ((a'.add (i * 2)).add 0) = some (.int .i64 q.1) ∧ w.cell? ((a'.add (i * 2)).add 1) = some (.int .i64 q.2) := fun i hil => by
        obtain ⟨cs', hc, ht⟩ := hi i (by omega)
        rw [cellsQ] at hc
        obtain ⟨_, hcl, hat⟩ := World.cells?_some hc
        obtain ⟨z0, z1, mm, _, _, q0, q1⟩ := trod_struct2 Try.underlying23 ht
        match cs', hcl with
        | [c0, c1], _ =>
          simp [cellsI] at q0 q1
          obtain ⟨n1, e1, _, _⟩ := DataW.trod_int Try.underlying2 q0
          obtain ⟨n2, e2, _, _⟩ := DataW.trod_int Try.underlying2 q1
          simp at e1 e2
          subst e1 e2
          exact ⟨(n1, n2), by rw [hat 0 (by decide)]; rfl, by rw [hat 1 (by decide)]; rfl⟩
      obtain ⟨b, off, spot⟩ := a'
      have hspot : spot = none := by
        obtain ⟨q, h1, _⟩ := hcell 0 (by omega)
        have := World.cell?_spot h1
        simpa [Addr.add] using this
      subst hspot
      obtain ⟨qs, hql, hqs⟩ := gather len hcell
      have hb : b < w.heap.size := by
        obtain ⟨q, h1, _⟩ := hcell 0 (by omega)
        have := World.block_lt_of_cell? w _ h1
        simpa [Addr.add] using this
      refine Or.inr ⟨b, off, qs, rfl, by omega, hl, by unfold maxLen at hm; omega, hql, hb, fun i hil => ?_⟩
      have h2 := hqs i hil
      rw [Go.WideShapes.add_plain, Go.WideShapes.add_plain, Go.WideShapes.add_plain] at h2
      exact h2

set_option maxRecDepth 100000 in
theorem lifted (os : Os) (started : os.Started) (H : Type) (enc : TypeId × Value → H) :
    ReturnsInHanded {} Try.checked os 6 .any (Rows.numberSumsSpec.pre6 enc Try.prog Try.f6 Rows.numberSumsRow.domain false) (Rows.numberSumsSpec.post enc Try.prog Try.f6 false true false false) := by
  refine returnsInHanded_of_change (C := Try.checked) own started (by kernel_rfl) Try.func6
    (ChangeSpec.witness6 (enc := enc) (C := Try.checked) false ⟨#[], #[.slice none 0 0], []⟩ 8 (by kernel_rfl) (by kernel_rfl) (by kernel_rfl) (by kernel_rfl)) ?_
  intro W base args ds gs before hval0 hW hcnd hsz
  have hval : ∀ (j : Nat) t v, Try.f6.params[j]? = some t → args[j]? = some v → Value.okWide Try.prog W .any base t v := hval0
  have hW' := hW
  obtain ⟨p, q, hA0, hV, rfl, hfz, hnd⟩ := hW
  have hA : DataW.TrodAll enc Try.prog W 0 (fun _ => true) true Try.f6.params.toList args.toList ds p := hA0
  rw [Try.params6] at hA hval
  obtain ⟨v0, vs0, d0, ds0, p0, q0, hargs, rfl, rfl, h0, r0⟩ := trodAll_cons hA
  obtain ⟨rfl, rfl, rfl⟩ := trodAll_nil r0
  obtain rfl : args = #[v0] := by cases args; simp_all
  obtain ⟨rfl, rfl⟩ := trodVars_none hV
  have k0 := h0
  have lt0 : ∀ x ∈ p0, x.block < W.heap.size := by obtain ⟨m, hm⟩ := k0; exact DataW.trod_lt m _ _ _ hm
  obtain ⟨a0, len, cap, rfl⟩ := okWide_slice Try.underlying38 (hval 0 38 v0 rfl rfl)
  obtain ⟨fuel, hf⟩ := h0
  have hs := sl_of (by simpa [Value.cells] using hf)
  clear hA0 hval0
  refine (sums_any a0 len cap W hs).mono fun e W' ⟨he, bel⟩ => ?_
  subst he
  exact ⟨_, rfl, _, _, _, [], _, [], hW', trodAll_mk1 (shut_bool Try.underlying4 _), (trodAll_cons_mk (Below.trod laidOut (by kernel_rfl) (of_decide_eq_true (by kernel_rfl)) k0 bel lt0) trodAll_mk0), rfl, bel.frame _, fun h => by cases h⟩

theorem proved : Rows.NumberSumsSaid :=
  OpenClaim.holds_of_wide 6 Try.f6 rfl rfl rfl rfl rfl rfl rfl ⟨rfl, rfl, rfl, rfl, rfl⟩ rfl rfl rfl rfl rfl (by kernel_rfl) Try.func6 (by kernel_rfl)
    (of_decide_eq_true (by kernel_rfl)) (by unfold Func.isWrapper; first | (rw [if_pos (by decide +kernel)]; kernel_rfl) | (rw [if_neg (by decide +kernel)]; exact ⟨rfl, rfl⟩))
    (fun os started H enc _ => lifted os started H enc)
#print axioms proved
end Go.Proofs.Ytpoalckncfkdgaa.numberSums
