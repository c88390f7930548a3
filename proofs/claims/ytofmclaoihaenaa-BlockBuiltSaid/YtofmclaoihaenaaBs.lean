/-
  BlockBuilt's call, of any arguments.
-/
import Derived.Test.YtofmclaoihaenaaBr
set_option linter.all false
namespace Go.Proofs.Ytofmclaoihaenaa
open Go Go.Pv Go.RowKit
theorem built_any (op : ByteArray) (a b n : Int) (ha : i64 a) (hb : i64 b) (ks : List { b : BT // b.ok }) (hl : ks.length * 160 ≤ reachBytes) (v : Value) (w : World) (hv : DRep (fun k => k < w.heap.size) w (.lst 11 (ks.map fun b => b.1.cells)) v) :
    Calls Try.prog 4 #[.string op, .agg #[.int .i64 a, .int .i64 b], .int .i64 n, v] w fun e w' => e = .returned (.bool true) ∧ Below w.heap.size w w' := by
  have hr : reachBytes < 4611686018427387904 := by decide
  have hc : ks.map (fun b => b.1.cells) = BT.cellsL (ks.map (·.1)) := by rw [BT.cellsL_eq, List.map_map]; rfl
  rw [hc] at hv
  obtain ⟨M, hM⟩ : ∃ M, M = BT.depthL (ks.map (·.1)) + 1 := ⟨_, rfl⟩
  obtain ⟨N, hN⟩ : ∃ N, N = 2 * (M + ks.length) + 200 + 64 := ⟨_, rfl⟩
  have ht := built_true (2 * (M + ks.length) + 200) N M hN (ks.map (·.1)) (by rw [List.length_map]; omega) (fun x hx => ⟨by obtain ⟨y, _, rfl⟩ := List.mem_map.1 hx; exact y.2, by have := BT.depthL_mem x hx; omega⟩) (by omega) (by rw [List.length_map]; omega) op a b n ha hb
  have h := m_serinettelaw05_BlockBuilt N [.val (.string op), .val (.agg ⟨[.int .i64 a, .int .i64 b]⟩), .val (.int .i64 n), .lst 11 (BT.cellsL (ks.map (·.1)))] some (.val (.bool true)) (by unfold KK_serinettelaw05_BlockBuilt; exact ht fun r => some (.val (.bool r)))
  obtain ⟨_, x, hx, _, hcall⟩ := h
  cases hx
  refine (hcall (fun k => k < w.heap.size) w _ trivial (fun _ h => h) rfl ?_).mono fun e w' ⟨v, he, hb, hr⟩ => ⟨by rw [he, val_eq hr], hb⟩
  intro i x v' h1 h2
  match i with
  | 0 => simp at h1 h2; subst h1; subst h2; exact .val _
  | 1 => simp at h1 h2; subst h1; subst h2; exact .val _
  | 2 => simp at h1 h2; subst h1; subst h2; exact .val _
  | 3 => simp at h1 h2; subst h1; subst h2; exact hv
  | i + 4 => simp at h1
end Go.Proofs.Ytofmclaoihaenaa
