/-
  A copy of any diagram: in memory of its own.
-/
import Derived.Test.YtdfhakhapblhgaaCg
set_option linter.all false
namespace Go.Proofs.Ytdfhakhapblhgaa
open Go Go.Pv Go.RowKit
/-- What a struct of a diagram's cells is. -/
theorem cr_tree {U : Nat → Prop} {w : World} {op name fk fr fo : ByteArray} {n m fi ff : Int} {nums : List (Int × Int)} {kids : List BT} {vs : List Value} (h : CR U w (BT.mk op name n m nums fk fi ff fr fo kids).cells vs) :
    ∃ v4 v10, vs = [.string op, .string name, .int .i64 n, .int .i64 m, v4, .string fk, .int .i64 fi, .int .i64 ff, .string fr, .string fo, v10] ∧ DRep U w (.lst 2 (nums.map qpc)) v4 ∧ DRep U w (.lst 11 (BT.cellsL kids)) v10 := by
  obtain ⟨hl, h1⟩ := h
  match vs, hl with
  | [v0, v1, v2, v3, v4, v5, v6, v7, v8, v9, v10], _ =>
    have g0 := h1 0 _ v0 rfl rfl
    have g1 := h1 1 _ v1 rfl rfl
    have g2 := h1 2 _ v2 rfl rfl
    have g3 := h1 3 _ v3 rfl rfl
    have g4 := h1 4 _ v4 rfl rfl
    have g5 := h1 5 _ v5 rfl rfl
    have g6 := h1 6 _ v6 rfl rfl
    have g7 := h1 7 _ v7 rfl rfl
    have g8 := h1 8 _ v8 rfl rfl
    have g9 := h1 9 _ v9 rfl rfl
    have g10 := h1 10 _ v10 rfl rfl
    cases g0; cases g1; cases g2; cases g3; cases g5; cases g6; cases g7; cases g8; cases g9
    exact ⟨_, _, rfl, g4, g10⟩
theorem ok_mem : ∀ {bs : List BT}, BT.okL bs → ∀ b ∈ bs, b.ok
  | b :: bs, h, x, hx => by
    rcases List.mem_cons.1 hx with rfl | hx
    · exact h.1
    · exact ok_mem h.2 x hx
theorem copied_any : ∀ (k : Nat) (t : BT), SizeOf.sizeOf t < k → t.ok → ∀ (U : Nat → Prop) (w : World) (vs : List Value), (∀ k, U k → k < w.heap.size) → CR U w t.cells vs →
    Calls Try.prog 30 #[.agg vs.toArray] w fun e w' => ∃ vs', e = .returned (.agg vs'.toArray) ∧ Below w.heap.size w w' ∧ FVals w' (fresh w w') t.cells vs'
  | 0, t, hk, _, U, w, vs, _, _ => by omega
  | k + 1, .mk op name n m nums fk fi ff fr fo kids, hk, hok, U, w, vs, hU, hr => by
    obtain ⟨v4, v10, rfl, h4, h10⟩ := cr_tree hr
    refine (copied_fresh (.mk op name n m nums fk fi ff fr fo kids) op name fk fr fo n m fi ff nums kids v4 v10 hok.2.2.2.2.1 hok.2.2.2.2.2.2.1 (fun x hx U w vs hU hr => copied_any k x ?_ (ok_mem hok.2.2.2.2.2.2.2 x hx) U w vs hU hr) U w hU h4 h10).mono ?_
    · have := List.sizeOf_lt_of_mem hx
      simp only [BT.mk.sizeOf_spec] at hk
      omega
    · rintro e w' ⟨u4, u10, rfl, hb, G4, G10, g1, g2, g3, g4, g5⟩
      refine ⟨[.string op, .string name, .int .i64 n, .int .i64 m, u4, .string fk, .int .i64 fi, .int .i64 ff, .string fr, .string fo, u10], rfl, hb, rfl, fun j q => (j = 4 ∧ G4 q) ∨ (j = 10 ∧ G10 q), ?_, ?_, ?_⟩
      · intro j x v e1 e2
        match j, e1, e2 with
        | 0, e1, e2 => cases e1; cases e2; exact .val _
        | 1, e1, e2 => cases e1; cases e2; exact .val _
        | 2, e1, e2 => cases e1; cases e2; exact .val _
        | 3, e1, e2 => cases e1; cases e2; exact .val _
        | 4, e1, e2 => cases e1; cases e2; exact g1.keep (fun _ h => .inl ⟨rfl, h⟩) (fun _ _ => rfl)
        | 5, e1, e2 => cases e1; cases e2; exact .val _
        | 6, e1, e2 => cases e1; cases e2; exact .val _
        | 7, e1, e2 => cases e1; cases e2; exact .val _
        | 8, e1, e2 => cases e1; cases e2; exact .val _
        | 9, e1, e2 => cases e1; cases e2; exact .val _
        | 10, e1, e2 => cases e1; cases e2; exact g2.keep (fun _ h => .inr ⟨rfl, h⟩) (fun _ _ => rfl)
        | j + 11, e1, e2 => simp at e2
      · intro j q hq
        rcases hq with ⟨_, h⟩ | ⟨_, h⟩
        · exact g3 q h
        · exact g4 q h
      · intro j j' q hq hq'
        rcases hq with ⟨rfl, h⟩ | ⟨rfl, h⟩ <;> rcases hq' with ⟨rfl, h'⟩ | ⟨rfl, h'⟩
        · rfl
        · exact absurd h' (g5 q h)
        · exact absurd h (g5 q h')
        · rfl
end Go.Proofs.Ytdfhakhapblhgaa
