/-
  FormatParses: of any input the law answers true.
-/
import Derived.Test.YtpdklolfkigefaaDoorPo
import Derived.Test.YtpdklolfkigefaaDoorOpen
set_option linter.all false
namespace Go.Proofs.YtpdklolfkigefaaDoor
open Go.Pv Go.RowKit
theorem formatparses_any (s k r o : ByteArray) (I F : Int) (hs : s.size < 4294967281) (bI : -9223372036854775808 ≤ I ∧ I ≤ 9223372036854775807) (bF : -9223372036854775808 ≤ F ∧ F ≤ 9223372036854775807) (w : World) (hI : Inv w) :
    Calls Tryd.prog 3 #[.string s, .agg #[.string k, .int .i64 I, .int .i64 F, .string r, .string o]] w fun e w' => e = .returned (.bool true) ∧ Below w.heap.size w w' := by
  have h := m_serinettelaw02_FormatParses [.val (.string s), .val (.agg ⟨[.string k, .int .i64 I, .int .i64 F, .string r, .string o]⟩)] some (.val (.bool true)) (formatparses_true s k r o I F hs bI bF _)
  obtain ⟨_, x, hx, _, hc⟩ := h
  cases hx
  refine (hc (fun k => k < w.heap.size) w _ hI (fun _ h => h) rfl ?_).mono fun e w' ⟨v, he, hb, hr⟩ => ⟨by rw [he, val_eq hr], hb⟩
  intro i x v' h1 h2
  match i with
  | 0 => simp at h1 h2; subst h1; subst h2; exact .val _
  | 1 => simp at h1 h2; subst h1; subst h2; exact .val _
  | i + 2 => simp at h1
end Go.Proofs.YtpdklolfkigefaaDoor
