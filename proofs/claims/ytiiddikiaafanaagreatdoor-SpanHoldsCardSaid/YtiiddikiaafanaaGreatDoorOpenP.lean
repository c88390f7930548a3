import Derived.Test.YtiiddikiaafanaaGreatDoorRows
import Derived.ProofKit
import Derived.OpenShut
import Derived.ChangeArms
import Derived.Lib.SmallJoins
set_option linter.all false
/-
  What a format, and a number, read as: their cells. -/
namespace Go.Proofs.YtiiddikiaafanaaGreatDoor
open Go.ChangeShapes Go.WideShapes Go.ChangeAt Go.RowKit Go.Joins
theorem i64_bd {n : Int} (h : (Lit.int .i64 n).wf = true) : -9223372036854775808 ≤ n ∧ n ≤ 9223372036854775807 := by
  exact bounds_i64 h
theorem cellsF : Tryz.prog.cellsOf 25 = 5 := by kernel_rfl
theorem cellsQ : Tryz.prog.cellsOf 31 = 2 := by kernel_rfl
theorem cells1 : Tryz.prog.cellsOf 2 = 1 := by kernel_rfl
theorem cells2 : Tryz.prog.cellsOf 3 = 1 := by kernel_rfl
theorem cells3 : Tryz.prog.cellsOf 9 = 1 := by kernel_rfl
set_option maxRecDepth 100000 in
theorem fmt_of {H : Type} {enc : TypeId × Value → H} {w : World} {base : Nat} {spare : Nat → Bool} {held : Bool} {fuel : Nat} {cs : List Value} {x : DataW H × List MemPlace} (h : DataW.trod enc Tryz.prog w base spare held fuel 25 cs = some x) :
    ∃ (k : ByteArray) (I F : Int) (r o : ByteArray), cs = [.string k, .int .i64 I, .int .i64 F, .string r, .string o] ∧ (-9223372036854775808 ≤ I ∧ I ≤ 9223372036854775807) ∧ (-9223372036854775808 ≤ F ∧ F ≤ 9223372036854775807) := by
  obtain ⟨xs, n, _, rfl, hl, hlen, hf⟩ := DataW.trod_struct Tryz.underlying25 h
  rw [cellsF] at hl
  match cs, hl with
  | [c0, c1, c2, c3, c4], _ =>
    match xs, hlen with
    | [y0, y1, y2, y3, y4], _ =>
      have g0 := hf 0 _ rfl
      have g1 := hf 1 _ rfl
      have g2 := hf 2 _ rfl
      have g3 := hf 3 _ rfl
      have g4 := hf 4 _ rfl
      simp [cells2, cells3] at g0 g1 g2 g3 g4
      obtain ⟨k, a0, _, _⟩ := DataW.trod_string Tryz.underlying9 g0
      obtain ⟨I, a1, _, b1⟩ := DataW.trod_int Tryz.underlying3 g1
      obtain ⟨F, a2, _, b2⟩ := DataW.trod_int Tryz.underlying3 g2
      obtain ⟨r, a3, _, _⟩ := DataW.trod_string Tryz.underlying9 g3
      obtain ⟨o, a4, _, _⟩ := DataW.trod_string Tryz.underlying9 g4
      simp at a0 a1 a2 a3 a4
      exact ⟨k, I, F, r, o, by rw [a0, a1, a2, a3, a4], i64_bd b1, i64_bd b2⟩
set_option maxRecDepth 100000 in
theorem q_of {H : Type} {enc : TypeId × Value → H} {w : World} {base : Nat} {spare : Nat → Bool} {held : Bool} {fuel : Nat} {cs : List Value} {x : DataW H × List MemPlace} (h : DataW.trod enc Tryz.prog w base spare held fuel 31 cs = some x) :
    ∃ (a b : Int), cs = [.int .i64 a, .int .i64 b] ∧ (-9223372036854775808 ≤ a ∧ a ≤ 9223372036854775807) ∧ (-9223372036854775808 ≤ b ∧ b ≤ 9223372036854775807) := by
  obtain ⟨xs, n, _, rfl, hl, hlen, hf⟩ := DataW.trod_struct Tryz.underlying31 h
  rw [cellsQ] at hl
  match cs, hl with
  | [c0, c1], _ =>
    match xs, hlen with
    | [y0, y1], _ =>
      have g0 := hf 0 _ rfl
      have g1 := hf 1 _ rfl
      simp [cells1] at g0 g1
      obtain ⟨a, a0, _, b0⟩ := DataW.trod_int Tryz.underlying2 g0
      obtain ⟨b, a1, _, b1⟩ := DataW.trod_int Tryz.underlying2 g1
      simp at a0 a1
      exact ⟨a, b, by rw [a0, a1], i64_bd b0, i64_bd b1⟩
end Go.Proofs.YtiiddikiaafanaaGreatDoor

/-
  What a span reads as: its cells. -/
namespace Go.Proofs.YtiiddikiaafanaaGreatDoor
open Go.ChangeShapes Go.WideShapes Go.ChangeAt Go.RowKit Go.Joins
theorem cellsP : Tryz.prog.cellsOf 35 = 7 := by kernel_rfl
theorem cellsB : Tryz.prog.cellsOf 4 = 1 := by kernel_rfl
set_option maxRecDepth 100000 in
theorem sp_of {H : Type} {enc : TypeId × Value → H} {w : World} {base : Nat} {spare : Nat → Bool} {held : Bool} {fuel : Nat} {cs : List Value} {x : DataW H × List MemPlace} (h : DataW.trod enc Tryz.prog w base spare held fuel 35 cs = some x) :
    ∃ (a b c d n : Int) (o e : Bool), cs = [.int .i64 a, .int .i64 b, .int .i64 c, .int .i64 d, .int .i64 n, .bool o, .bool e] ∧ (-9223372036854775808 ≤ a ∧ a ≤ 9223372036854775807) ∧ (-9223372036854775808 ≤ b ∧ b ≤ 9223372036854775807) ∧ (-9223372036854775808 ≤ c ∧ c ≤ 9223372036854775807) ∧ (-9223372036854775808 ≤ d ∧ d ≤ 9223372036854775807) ∧ (-9223372036854775808 ≤ n ∧ n ≤ 9223372036854775807) := by
  obtain ⟨xs, n, _, rfl, hl, hlen, hf⟩ := DataW.trod_struct Tryz.underlying35 h
  rw [cellsP] at hl
  match cs, hl with
  | [c0, c1, c2, c3, c4, c5, c6], _ =>
    match xs, hlen with
    | [y0, y1, y2, y3, y4], _ =>
      have g0 := hf 0 _ rfl
      have g1 := hf 1 _ rfl
      have g2 := hf 2 _ rfl
      have g3 := hf 3 _ rfl
      have g4 := hf 4 _ rfl
      simp [cells1, cellsB, cellsQ] at g0 g1 g2 g3 g4
      obtain ⟨a, b, e0, b1, b2⟩ := q_of g0
      obtain ⟨c, d, e1, b3, b4⟩ := q_of g1
      obtain ⟨m, e2, _, b5⟩ := DataW.trod_int Tryz.underlying2 g2
      obtain ⟨o, e3, _⟩ := DataW.trod_bool Tryz.underlying4 g3
      obtain ⟨e, e4, _⟩ := DataW.trod_bool Tryz.underlying4 g4
      simp at e0 e1 e2 e3 e4
      refine ⟨a, b, c, d, m, o, e, ?_, b1, b2, b3, b4, i64_bd b5⟩
      simp [e0, e1, e2, e3, e4]
end Go.Proofs.YtiiddikiaafanaaGreatDoor
