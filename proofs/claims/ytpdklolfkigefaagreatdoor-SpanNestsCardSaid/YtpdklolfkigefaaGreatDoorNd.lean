/-
  SpanNests: of any input the law answers true.
-/
import Derived.Test.YtpdklolfkigefaaGreatDoorNc
import Derived.Test.YtpdklolfkigefaaGreatDoorCr
set_option linter.all false
namespace Go.Proofs.YtpdklolfkigefaaGreatDoor
open Go.Pv Go.RowKit

theorem spc_len (s : Sp) : (spc s).length = 7 := rfl
theorem spc_of {H : Type} {enc : TypeId × Value → H} {w : World} {base : Nat} {spare : Nat → Bool} {held : Bool} (fuel : Nat) (cs : List Value) (x : DataW H × List MemPlace) (h : DataW.trod enc Tryz.prog w base spare held fuel 35 cs = some x) (_ : Light Tryz.prog 35 x.1) :
    ∃ s : Sp, CR (fun k => k < w.heap.size) w (spc s) cs := by
  obtain ⟨a, b, c, d, n, o, e, rfl, _⟩ := sp_of h
  exact ⟨⟨a, b, c, d, n, o, e⟩, CR.vals [.int .i64 a, .int .i64 b, .int .i64 c, .int .i64 d, .int .i64 n, .bool o, .bool e]⟩
theorem cellsSl : Tryz.prog.cellsOf 22 = 1 := by kernel_rfl
theorem cellsNest : Tryz.prog.cellsOf 43 = 5 := by kernel_rfl
set_option maxRecDepth 100000 in
theorem nests_of {H : Type} {enc : TypeId × Value → H} {w : World} {base : Nat} {spare : Nat → Bool} {held : Bool} {fuel : Nat} {cs : List Value} {x : DataW H × List MemPlace} (h : DataW.trod enc Tryz.prog w base spare held fuel 43 cs = some x) (hx : Light Tryz.prog 43 x.1) :
    ∃ (op : ByteArray) (ls ms : List Sp) (a b : Int), ls.length ≤ reachBytes ∧ CR (fun k => k < w.heap.size) w [.val (.string op), .lst 7 (ls.map spc), .lst 7 (ms.map spc), .val (.int .i64 a), .val (.int .i64 b)] cs := by
  obtain ⟨xs, n, _, rfl, hl, hlen, hf⟩ := DataW.trod_struct Tryz.underlying43 h
  rw [cellsNest] at hl
  match cs, hl with
  | [c0, c1, c2, c3, c4], _ =>
    match xs, hlen with
    | [y0, y1, y2, y3], _ =>
      have g0 := hf 0 _ rfl
      have g1 := hf 1 _ rfl
      have g2 := hf 2 _ rfl
      have g3 := hf 3 _ rfl
      simp [cells3, cellsSl, cellsQ] at g0 g1 g2 g3
      obtain ⟨k, a0, _, _⟩ := DataW.trod_string Tryz.underlying9 g0
      obtain ⟨ls, hl1, h1⟩ := slice_any spc (by kernel_rfl) (by omega) spc_len Tryz.underlying22 spc_of g1 (hx.field (j := 1) Tryz.underlying43 rfl rfl)
      obtain ⟨ms, _, h2⟩ := slice_any spc (by kernel_rfl) (by omega) spc_len Tryz.underlying22 spc_of g2 (hx.field (j := 2) Tryz.underlying43 rfl rfl)
      obtain ⟨a, b, a3, _, _⟩ := q_of g3
      simp at a0 a3
      obtain ⟨rfl, rfl⟩ := a3
      subst a0
      rw [show Tryz.prog.bytesOf 35 = 48 by kernel_rfl] at hl1
      exact ⟨k, ls, ms, a, b, by omega, ((((CR.one (.val _)).app (CR.one h1)).app (CR.one h2)).app (CR.one (.val _))).app (CR.one (.val _))⟩
/-- The law answers true. -/
theorem spannests_any (op : ByteArray) (ls ms : List Sp) (a b : Int) (hb : ls.length ≤ reachBytes) (v : Value) (w : World) (hI : Inv w) (hv : DRep (fun k => k < w.heap.size) w (.agg [.val (.string op), .lst 7 (ls.map spc), .lst 7 (ms.map spc), .val (.int .i64 a), .val (.int .i64 b)]) v) :
    Calls Tryz.prog 4 #[v] w fun e w' => e = .returned (.bool true) ∧ Below w.heap.size w w' := by
  have h := m_serinettelaw03_SpanNests [.agg [.val (.string op), .lst 7 (ls.map spc), .lst 7 (ms.map spc), .val (.int .i64 a), .val (.int .i64 b)]] some (.val (.bool true)) (spannests_true op ls ms a b (by unfold reachBytes at hb; omega) _)
  obtain ⟨_, x, hx, _, hc⟩ := h
  cases hx
  refine (hc (fun k => k < w.heap.size) w _ hI (fun _ h => h) rfl ?_).mono fun e w' ⟨v, he, hb, hr⟩ => ⟨by rw [he, val_eq hr], hb⟩
  intro i x v' h1 h2
  match i with
  | 0 => simp at h1 h2; subst h1; subst h2; exact hv
  | i + 1 => simp at h1
end Go.Proofs.YtpdklolfkigefaaGreatDoor
