/-
  What a span reads as: its cells. -/
import Derived.Test.YtpdklolfkigefaaGreatDoorOpen
set_option linter.all false
namespace Go.Proofs.YtpdklolfkigefaaGreatDoor
open Go.ChangeShapes Go.WideShapes Go.ChangeAt Go.RowKit Go.Joins
theorem cellsP : Tryz.prog.cellsOf 35 = 7 := by kernel_rfl
theorem cellsB : Tryz.prog.cellsOf 4 = 1 := by kernel_rfl
set_option maxRecDepth 100000 in
theorem sp_of {H : Type} {enc : TypeId × Value → H} {w : World} {base : Nat} {spare : Nat → Bool} {held : Bool} {fuel : Nat} {cs : List Value} {x : DataW H × List MemPlace} (h : DataW.trod enc Tryz.prog w base spare held fuel 35 cs = some x) :
    ∃ (a b c d n : Int) (o e : Bool), cs = [.int .i64 a, .int .i64 b, .int .i64 c, .int .i64 d, .int .i64 n, .bool o, .bool e] ∧ (-9223372036854775808 ≤ a ∧ a ≤ 9223372036854775807) ∧ (-9223372036854775808 ≤ b ∧ b ≤ 9223372036854775807) ∧ (-9223372036854775808 ≤ c ∧ c ≤ 9223372036854775807) ∧ (-9223372036854775808 ≤ d ∧ d ≤ 9223372036854775807) ∧ (-9223372036854775808 ≤ n ∧ n ≤ 9223372036854775807) := by
  obtain ⟨xs, n, _, rfl, hl, hlen, hf⟩ := DataW.trod_struct Tryz.underlying35 h
  rw [cellsP] at hl
  match cs, hl with
  | [c0, c1, c2, c3, c4, c5, c6], _ =>
    match xs, hlen with
    | [y0, y1, y2, y3, y4], _ =>
      have g0 := hf 0 _ rfl
      have g1 := hf 1 _ rfl
      have g2 := hf 2 _ rfl
      have g3 := hf 3 _ rfl
      have g4 := hf 4 _ rfl
      simp [cells1, cellsB, cellsQ] at g0 g1 g2 g3 g4
      obtain ⟨a, b, e0, b1, b2⟩ := q_of g0
      obtain ⟨c, d, e1, b3, b4⟩ := q_of g1
      obtain ⟨m, e2, _, b5⟩ := DataW.trod_int Tryz.underlying2 g2
      obtain ⟨o, e3, _⟩ := DataW.trod_bool Tryz.underlying4 g3
      obtain ⟨e, e4, _⟩ := DataW.trod_bool Tryz.underlying4 g4
      simp at e0 e1 e2 e3 e4
      refine ⟨a, b, c, d, m, o, e, ?_, b1, b2, b3, b4, i64_bd b5⟩
      simp [e0, e1, e2, e3, e4]
end Go.Proofs.YtpdklolfkigefaaGreatDoor
