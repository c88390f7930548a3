/-
  The law on what spans are to each other: each reading says something; its reading is true.
-/
import Derived.Test.YtpdklolfkigefaaGreatDoorSh
set_option linter.all false
namespace Go.Proofs.YtpdklolfkigefaaGreatDoor
open Go.Pv Go.RowKit

theorem ap_ex (a b c d n : Int) (o e : Bool) : ∃ v : Sp, ∀ k : Int → Int → Int → Int → Int → Bool → Bool → Option DV, k a b c d n o e = v.ap k := ⟨⟨a, b, c, d, n, o, e⟩, fun _ => rfl⟩
end Go.Proofs.YtpdklolfkigefaaGreatDoor
