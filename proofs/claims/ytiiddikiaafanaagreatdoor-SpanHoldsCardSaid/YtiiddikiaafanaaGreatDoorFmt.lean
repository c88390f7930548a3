import Derived.Test.YtiiddikiaafanaaGreatDoorMake
import Derived.Test.YtiiddikiaafanaaGreatDoorShelff
import Derived.Lib.SmallJoins
import Derived.Lib.ItoaLen
set_option linter.all false
/-
  What an integer is written as.
-/
namespace Go.Proofs.YtiiddikiaafanaaGreatDoor
open Go.RowKit

theorem gTab : Tryz.prog.globalNamed "internal/strconv.uint64pow10" = some 0 := by kernel_rfl
theorem fmt_any (n : Int) (h0 : -9223372036854775808 ≤ n) (h1 : n ≤ 9223372036854775807) (w : World) (htab : Lib.TabIs Tryz.prog w "internal/strconv.uint64pow10" .u64 Lib.pow10Tab) :
    Calls Tryz.prog 54 #[.int .i64 n, .int .i64 10] w fun e w' => e = .returned (.string ⟨(Lib.itoa n).toArray⟩) ∧ Below w.heap.size w w' := by
  refine (Tryz.strconv_FormatInt_10 n h0 h1 w htab).mono ?_
  rintro e w1 ⟨he, k, os, hw⟩
  refine ⟨he, ?_⟩
  rw [hw]
  refine (drewN_below (Below.refl w.heap.size w) k).trans ⟨rfl, rfl, rfl, ?_, ?_⟩
  · show _ ≤ ((w.drewN k).heap ++ os).size
    rw [Array.size_append]; omega
  · intro j hj
    show ((w.drewN k).heap ++ os)[j]? = _
    exact Array.getElem?_append_left hj
/-- The table that a world must hold: and it stays. -/
def Inv (w : World) : Prop := Lib.TabIs Tryz.prog w "internal/strconv.uint64pow10" .u64 Lib.pow10Tab
theorem stab : ∀ w w', Inv w → Below w.heap.size w w' → Inv w' := fun w w' h hb => Go.Joins.tab_stays gTab h hb (Nat.le_refl _)
end Go.Proofs.YtiiddikiaafanaaGreatDoor
