/-
  Diagrams as trees; what data of a diagram reads as.
-/
import Derived.Test.YtdfhakhapblhgaaCrw
import Derived.Test.YtdfhakhapblhgaaOpen
set_option linter.all false
namespace Go.Proofs.Ytdfhakhapblhgaa
open Go Go.Pv Go.RowKit Go.ChangeShapes Go.WideShapes Go.ChangeAt Go.Joins
inductive BT where
  | mk (op name : ByteArray) (n m : Int) (nums : List (Int × Int)) (fk : ByteArray) (fi ff : Int) (fr fo : ByteArray) (kids : List BT)
def qpc (q : Int × Int) : List DV := [.val (.int .i64 q.1), .val (.int .i64 q.2)]
mutual
def BT.cells : BT → List DV
  | .mk op name n m nums fk fi ff fr fo kids => [.val (.string op), .val (.string name), .val (.int .i64 n), .val (.int .i64 m), .lst 2 (nums.map qpc), .val (.string fk), .val (.int .i64 fi), .val (.int .i64 ff), .val (.string fr), .val (.string fo), .lst 11 (BT.cellsL kids)]
def BT.cellsL : List BT → List (List DV)
  | [] => []
  | b :: bs => b.cells :: BT.cellsL bs
end
theorem BT.cellsL_eq : ∀ bs : List BT, BT.cellsL bs = bs.map BT.cells
  | [] => rfl
  | b :: bs => by simp [BT.cellsL, BT.cellsL_eq bs]
theorem BT.cells_len (b : BT) : b.cells.length = 11 := by cases b; simp [BT.cells]
def i64 (n : Int) : Prop := -9223372036854775808 ≤ n ∧ n ≤ 9223372036854775807
mutual
/-- Numbers that a field holds; lists within the form's reach. -/
def BT.ok : BT → Prop
  | .mk _ _ n m nums _ fi ff _ _ kids => i64 n ∧ i64 m ∧ i64 fi ∧ i64 ff ∧ nums.length * 16 ≤ reachBytes ∧ (∀ q ∈ nums, i64 q.1 ∧ i64 q.2) ∧ kids.length * 160 ≤ reachBytes ∧ BT.okL kids
def BT.okL : List BT → Prop
  | [] => True
  | b :: bs => b.ok ∧ BT.okL bs
end
theorem BT.okL_of : ∀ gs : List { b : BT // b.ok }, BT.okL (gs.map (·.1))
  | [] => trivial
  | g :: gs => ⟨g.2, BT.okL_of gs⟩
theorem qq_of {H : Type} {enc : TypeId × Value → H} {w : World} {base : Nat} {spare : Nat → Bool} {held : Bool} (fuel : Nat) (cs : List Value) (x : DataW H × List MemPlace) (h : DataW.trod enc Try.prog w base spare held fuel 38 cs = some x) (_ : Light Try.prog 38 x.1) :
    ∃ q : { q : Int × Int // i64 q.1 ∧ i64 q.2 }, CR (fun k => k < w.heap.size) w (qpc q.1) cs := by
  obtain ⟨a, b, rfl, h1, h2⟩ := q_of h
  exact ⟨⟨(a, b), h1, h2⟩, CR.vals [.int .i64 a, .int .i64 b]⟩
theorem cellsBl : Try.prog.cellsOf 25 = 1 := by kernel_rfl
theorem cellsQl : Try.prog.cellsOf 22 = 1 := by kernel_rfl
theorem cellsB_ : Try.prog.cellsOf 27 = 11 := by kernel_rfl
theorem bytesB_ : Try.prog.bytesOf 27 = 160 := by kernel_rfl
theorem bytesQ_ : Try.prog.bytesOf 38 = 16 := by kernel_rfl
set_option maxRecDepth 100000 in
theorem block_of {H : Type} {enc : TypeId × Value → H} {w : World} {base : Nat} {spare : Nat → Bool} {held : Bool} : ∀ (k : Nat) (fuel : Nat) (cs : List Value) (x : DataW H × List MemPlace), SizeOf.sizeOf x.1 < k → DataW.trod enc Try.prog w base spare held fuel 27 cs = some x → Light Try.prog 27 x.1 →
    ∃ b : { b : BT // b.ok }, CR (fun k => k < w.heap.size) w b.1.cells cs
  | 0, fuel, cs, x, hk, h, hx => by omega
  | k + 1, fuel, cs, x, hk, h, hx => by
    obtain ⟨xs, n, _, rfl, hl, hlen, hf⟩ := DataW.trod_struct Try.underlying27 h
    rw [cellsB_] at hl
    match cs, hl with
    | [c0, c1, c2, c3, c4, c5, c6, c7, c8, c9, c10], _ =>
      match xs, hlen with
      | [y0, y1, y2, y3, y4, y5, y6], _ =>
        have g0 := hf 0 _ rfl
        have g1 := hf 1 _ rfl
        have g2 := hf 2 _ rfl
        have g3 := hf 3 _ rfl
        have g4 := hf 4 _ rfl
        have g5 := hf 5 _ rfl
        have g6 := hf 6 _ rfl
        simp [cells2, cells3, cellsF, cellsQl, cellsBl] at g0 g1 g2 g3 g4 g5 g6
        obtain ⟨op, a0, _, _⟩ := DataW.trod_string Try.underlying9 g0
        obtain ⟨nm, a1, _, _⟩ := DataW.trod_string Try.underlying9 g1
        obtain ⟨N, a2, _, b2⟩ := DataW.trod_int Try.underlying3 g2
        obtain ⟨M, a3, _, b3⟩ := DataW.trod_int Try.underlying3 g3
        obtain ⟨qs, lq, h4⟩ := slice_any (sz := 2) (fun q : { q : Int × Int // i64 q.1 ∧ i64 q.2 } => qpc q.1) (by kernel_rfl) (by omega) (fun _ => rfl) Try.underlying22 (fun f c y h1 h2 _ => qq_of f c y h1 h2) g4 (hx.field (j := 4) Try.underlying27 rfl rfl)
        obtain ⟨fk, fi, ff, fr, fo, a5, b5, b6⟩ := fmt_of g5
        obtain ⟨ks, lk, h6⟩ := slice_any (sz := 11) (fun b : { b : BT // b.ok } => b.1.cells) (by kernel_rfl) (by omega) (fun b => b.1.cells_len) Try.underlying25 (fun f c y h1 h2 h3 => block_of k f c y (by
          have hk' : SizeOf.sizeOf (DataW.agg [y0.1, y1.1, y2.1, y3.1, y4.1, y5.1, y6.1]) < k + 1 := hk
          simp only [DataW.agg.sizeOf_spec, List.cons.sizeOf_spec, List.nil.sizeOf_spec] at hk'
          omega) h1 h2) g6 (hx.field (j := 6) Try.underlying27 rfl rfl)
        simp at a0 a1 a2 a3 a5
        obtain ⟨rfl, rfl, rfl, rfl, rfl⟩ := a5
        subst a0 a1 a2 a3
        rw [bytesQ_] at lq
        rw [bytesB_] at lk
        refine ⟨⟨.mk op nm N M (qs.map (·.1)) fk fi ff fr fo (ks.map (·.1)), i64_bd b2, i64_bd b3, b5, b6, by simpa using lq, ?_, by simpa using lk, BT.okL_of ks⟩, ?_⟩
        · intro q hq
          obtain ⟨q', _, rfl⟩ := List.mem_map.1 hq
          exact q'.2
        · simp only [BT.cells, BT.cellsL_eq, List.map_map]
          exact ((CR.vals [.string op, .string nm, .int .i64 N, .int .i64 M]).app (CR.one h4)).app ((CR.vals [.string fk, .int .i64 fi, .int .i64 ff, .string fr, .string fo]).app (CR.one h6))
end Go.Proofs.Ytdfhakhapblhgaa
