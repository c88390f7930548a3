import Derived.Test.YtgohccjmphapfaaGreatDoorRows
import Derived.ProofKit
import Derived.OpenShut
import Derived.ChangeArms
import Derived.Lib.SmallJoins
set_option linter.all false
noncomputable section
namespace Go.Proofs.YtgohccjmphapfaaGreatDoor
open Go.ChangeShapes Go.WideShapes Go.ChangeAt Go.RowKit Go.Joins
theorem Wj7 {n : Int} (h : (Lit.int .i64 n).wf = true) : -9223372036854775808 ≤ n ∧ n ≤ 9223372036854775807 := by
 exact bounds_i64 h
theorem Wy1 : Tryz.prog.cellsOf 24 = 5 := by kernel_rfl
theorem W1q : Tryz.prog.cellsOf 38 = 2 := by kernel_rfl
theorem W1r : Tryz.prog.cellsOf 2 = 1 := by kernel_rfl
theorem Wy2 : Tryz.prog.cellsOf 3 = 1 := by kernel_rfl
theorem Wy3 : Tryz.prog.cellsOf 9 = 1 := by kernel_rfl
set_option maxRecDepth 100000 in
theorem W1s {H : Type} {enc : TypeId × Value → H} {w : World} {base : Nat} {spare : Nat → Bool} {held : Bool} {fuel : Nat} {cs : List Value} {x : DataW H × List MemPlace} (h : DataW.trod enc Tryz.prog w base spare held fuel 24 cs = some x) :
  ∃ (k : ByteArray) (I F : Int) (r o : ByteArray), cs = [.string k, .int .i64 I, .int .i64 F, .string r, .string o] ∧ (-9223372036854775808 ≤ I ∧ I ≤ 9223372036854775807) ∧ (-9223372036854775808 ≤ F ∧ F ≤ 9223372036854775807) := by
 obtain ⟨xs, n, _, rfl, hl, hlen, hf⟩ := DataW.trod_struct Tryz.underlying24 h
 rw [Wy1] at hl
 match cs, hl with
 | [c0, c1, c2, c3, c4], _ =>
  match xs, hlen with
  | [y0, y1, y2, y3, y4], _ =>
   have g0 := hf 0 _ rfl
   have g1 := hf 1 _ rfl
   have g2 := hf 2 _ rfl
   have g3 := hf 3 _ rfl
   have g4 := hf 4 _ rfl
   simp [Wy2, Wy3] at g0 g1 g2 g3 g4
   obtain ⟨k, a0, _, _⟩ := DataW.trod_string Tryz.underlying9 g0
   obtain ⟨I, a1, _, b1⟩ := DataW.trod_int Tryz.underlying3 g1
   obtain ⟨F, a2, _, b2⟩ := DataW.trod_int Tryz.underlying3 g2
   obtain ⟨r, a3, _, _⟩ := DataW.trod_string Tryz.underlying9 g3
   obtain ⟨o, a4, _, _⟩ := DataW.trod_string Tryz.underlying9 g4
   simp at a0 a1 a2 a3 a4
   exact ⟨k, I, F, r, o, by rw [a0, a1, a2, a3, a4], Wj7 b1, Wj7 b2⟩
set_option maxRecDepth 100000 in
theorem q_of {H : Type} {enc : TypeId × Value → H} {w : World} {base : Nat} {spare : Nat → Bool} {held : Bool} {fuel : Nat} {cs : List Value} {x : DataW H × List MemPlace} (h : DataW.trod enc Tryz.prog w base spare held fuel 38 cs = some x) :
  ∃ (a b : Int), cs = [.int .i64 a, .int .i64 b] ∧ (-9223372036854775808 ≤ a ∧ a ≤ 9223372036854775807) ∧ (-9223372036854775808 ≤ b ∧ b ≤ 9223372036854775807) := by
 obtain ⟨xs, n, _, rfl, hl, hlen, hf⟩ := DataW.trod_struct Tryz.underlying38 h
 rw [W1q] at hl
 match cs, hl with
 | [c0, c1], _ =>
  match xs, hlen with
  | [y0, y1], _ =>
   have g0 := hf 0 _ rfl
   have g1 := hf 1 _ rfl
   simp [W1r] at g0 g1
   obtain ⟨a, a0, _, b0⟩ := DataW.trod_int Tryz.underlying2 g0
   obtain ⟨b, a1, _, b1⟩ := DataW.trod_int Tryz.underlying2 g1
   simp at a0 a1
   exact ⟨a, b, by rw [a0, a1], Wj7 b0, Wj7 b1⟩
end Go.Proofs.YtgohccjmphapfaaGreatDoor
end
