import Derived.Test.YtgohccjmphapfaaGreatDoorCrw
import Derived.Test.YtgohccjmphapfaaGreatDoorOpen
set_option linter.all false
noncomputable section
namespace Go.Proofs.YtgohccjmphapfaaGreatDoor
open Go Go.Pv Go.RowKit Go.ChangeShapes Go.WideShapes Go.ChangeAt Go.Joins
inductive BT where
 | mk (op name : W4w) (n m : Int) (nums : List (Int × Int)) (fk : W4w) (fi ff : Int) (fr fo : W4w) (kids : List BT)
def qpc (q : Int × Int) : W4z := [.val (.int .i64 q.1), .val (.int .i64 q.2)]
mutual
def BT.cells : BT → List DV
 | .mk op name n m nums fk fi ff fr fo kids => [.val (.string op), .val (.string name), .val (.int .i64 n), .val (.int .i64 m), .lst 2 (nums.map qpc), .val (.string fk), .val (.int .i64 fi), .val (.int .i64 ff), .val (.string fr), .val (.string fo), .lst 11 (BT.cellsL kids)]
def BT.cellsL : List BT → List (List DV)
 | [] => []
 | b :: bs => b.cells :: BT.cellsL bs
end
theorem BT.cellsL_eq : ∀ bs : List BT, BT.cellsL bs = bs.map BT.cells
 | [] => rfl
 | b :: bs => by simp [BT.cellsL, BT.cellsL_eq bs]
theorem BT.cells_len (b : BT) : b.cells.length = 11 := by cases b; simp [BT.cells]
def i64 (n : Int) : Prop := -9223372036854775808 ≤ n ∧ n ≤ 9223372036854775807
mutual
def BT.ok : BT → Prop
 | .mk _ _ n m nums _ fi ff _ _ kids => i64 n ∧ i64 m ∧ i64 fi ∧ i64 ff ∧ nums.length * 16 ≤ reachBytes ∧ (∀ q ∈ nums, i64 q.1 ∧ i64 q.2) ∧ kids.length * 160 ≤ reachBytes ∧ BT.okL kids
def BT.okL : List BT → Prop
 | [] => True
 | b :: bs => b.ok ∧ BT.okL bs
end
theorem qq_of {H : Type} {enc : TypeId × Value → H} {w : World} {base : Nat} {spare : Nat → Bool} {held : Bool} (fuel : Nat) (cs : List Value) (x : DataW H × List MemPlace) (h : DataW.trod enc Tryz.prog w base spare held fuel 38 cs = some x) (_ : Wbb Tryz.prog 38 x.1) :
  ∃ q : { q : Int × Int // i64 q.1 ∧ i64 q.2 }, CR (fun k => k < w.heap.size) w (qpc q.1) cs := by
 obtain ⟨a, b, rfl, h1, h2⟩ := q_of h
 exact ⟨⟨(a, b), h1, h2⟩, CR.vals [.int .i64 a, .int .i64 b]⟩
theorem Wzb : Tryz.prog.cellsOf 25 = 1 := by kernel_rfl
theorem Wzc : Tryz.prog.cellsOf 22 = 1 := by kernel_rfl
theorem Wzd : Tryz.prog.cellsOf 27 = 11 := by kernel_rfl
theorem Wze : Tryz.prog.bytesOf 27 = 160 := by kernel_rfl
theorem Wzf : Tryz.prog.bytesOf 38 = 16 := by kernel_rfl
end Go.Proofs.YtgohccjmphapfaaGreatDoor
end
