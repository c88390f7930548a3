/-
  What the case of a law reads as: its cells. -/
import Derived.Test.YtmadhpbdianddaaDoorOpen
namespace Go.Proofs.YtmadhpbdianddaaDoor
open Go.ChangeShapes Go.WideShapes Go.ChangeAt Go.RowKit Go.Joins
set_option maxRecDepth 100000 in
theorem case_of {H : Type} {enc : TypeId × Value → H} {w : World} {base : Nat} {spare : Nat → Bool} {held : Bool} {fuel : Nat} {cs : List Value} {x : DataW H × List MemPlace} (h : DataW.trod enc Tryd.prog w base spare held fuel 27 cs = some x) :
    ∃ (k : ByteArray) (I F : Int) (r o : ByteArray) (an ad bn bd c : Int), cs = [.string k, .int .i64 I, .int .i64 F, .string r, .string o, .int .i64 an, .int .i64 ad, .int .i64 bn, .int .i64 bd, .int .i64 c] ∧ (-9223372036854775808 ≤ I ∧ I ≤ 9223372036854775807) ∧ (-9223372036854775808 ≤ F ∧ F ≤ 9223372036854775807) ∧ (-9223372036854775808 ≤ c ∧ c ≤ 9223372036854775807) := by
  obtain ⟨xs, n, _, rfl, hl, hlen, hf⟩ := DataW.trod_struct Tryd.underlying27 h
  rw [show Tryd.prog.cellsOf 27 = 10 by kernel_rfl] at hl
  match cs, hl with
  | [c0, c1, c2, c3, c4, c5, c6, c7, c8, c9], _ =>
    match xs, hlen with
    | [y0, y1, y2, y3], _ =>
      have g0 := hf 0 _ rfl
      have g1 := hf 1 _ rfl
      have g2 := hf 2 _ rfl
      have g3 := hf 3 _ rfl
      simp [cells2, cellsQ, cellsF] at g0 g1 g2 g3
      obtain ⟨k, I, F, r, o, e0, b1, b2⟩ := fmt_of g0
      obtain ⟨an, ad, e1, _, _⟩ := q_of g1
      obtain ⟨bn, bd, e2, _, _⟩ := q_of g2
      obtain ⟨c, e3, _, b3⟩ := DataW.trod_int Tryd.underlying3 g3
      simp at e0 e1 e2 e3
      refine ⟨k, I, F, r, o, an, ad, bn, bd, c, ?_, b1, b2, i64_bd b3⟩
      simp [e0, e1, e2, e3]
end Go.Proofs.YtmadhpbdianddaaDoor
