import Derived.Test.YtiiddikiaafanaaGreatDoorKh
import Derived.Test.YtiiddikiaafanaaGreatDoorCr
set_option linter.all false
/-
  SpanHolds: of any input the law answers true.
-/
namespace Go.Proofs.YtiiddikiaafanaaGreatDoor
open Go.Pv Go.RowKit
def spc (s : Sp) : List DV := [.val (.int .i64 s.ln), .val (.int .i64 s.ld), .val (.int .i64 s.hn), .val (.int .i64 s.hd), .val (.int .i64 s.den), .val (.bool s.no), .val (.bool s.em)]
def qpc (q : Int × Int) : List DV := [.val (.int .i64 q.1), .val (.int .i64 q.2)]
theorem qpc_len (q : Int × Int) : (qpc q).length = 2 := rfl
theorem spc_len (s : Sp) : (spc s).length = 7 := rfl
theorem spanholds_true (op : ByteArray) (ls : List Sp) (qs : List (Int × Int)) (kd : ByteArray) (I F : Int) (r o : ByteArray) (k : DV → Option DV) :
    KK_w3_SpanHolds w3_SpanHolds_q1n0 w3_SpanHolds_q1m12n0 w3_SpanHolds_q1n12m1 w3_SpanHolds_q1m22n1 w3_SpanHolds_q1n22m2 w3_SpanHolds_q1m32n2 w3_SpanHolds_q1m32m3 [.agg [.val (.string op), .lst 7 (ls.map spc), .lst 2 (qs.map qpc), .val (.string kd), .val (.int .i64 I), .val (.int .i64 F), .val (.string r), .val (.string o)]] k = k (.val (.bool true)) :=
  match ls, qs with
  | [], qs => holds_q1n0 op (qs.map qpc) kd I F r o (fun z => k (.val (.bool z)))
  | s :: ls, [] => holds_q1m12n0 op s.ln s.ld s.hn s.hd s.den s.no s.em (ls.map spc) kd I F r o (fun z => k (.val (.bool z)))
  | [s], q :: qs => holds_q1n12m1 op s.ln s.ld s.hn s.hd s.den s.no s.em q.1 q.2 (qs.map qpc) kd I F r o (fun z => k (.val (.bool z)))
  | s :: t :: ls, [q] => holds_q1m22n1 op s.ln s.ld s.hn s.hd s.den s.no s.em t.ln t.ld t.hn t.hd t.den t.no t.em (ls.map spc) q.1 q.2 kd I F r o (fun z => k (.val (.bool z)))
  | [s, t], q :: p :: qs => holds_q1n22m2 op s.ln s.ld s.hn s.hd s.den s.no s.em t.ln t.ld t.hn t.hd t.den t.no t.em q.1 q.2 p.1 p.2 (qs.map qpc) kd I F r o (fun z => k (.val (.bool z)))
  | s :: t :: u :: ls, [q, p] => holds_q1m32n2 op s.ln s.ld s.hn s.hd s.den s.no s.em t.ln t.ld t.hn t.hd t.den t.no t.em u.ln u.ld u.hn u.hd u.den u.no u.em (ls.map spc) q.1 q.2 p.1 p.2 kd I F r o (fun z => k (.val (.bool z)))
  | s :: t :: u :: ls, q :: p :: v :: qs => holds_q1m32m3 op s.ln s.ld s.hn s.hd s.den s.no s.em t.ln t.ld t.hn t.hd t.den t.no t.em u.ln u.ld u.hn u.hd u.den u.no u.em (ls.map spc) q.1 q.2 p.1 p.2 v.1 v.2 (qs.map qpc) kd I F r o (fun z => k (.val (.bool z)))
theorem spanholds_any (op : ByteArray) (ls : List Sp) (qs : List (Int × Int)) (kd : ByteArray) (I F : Int) (r o : ByteArray) (v : Value) (w : World) (hI : Inv w) (hv : DRep (fun k => k < w.heap.size) w (.agg [.val (.string op), .lst 7 (ls.map spc), .lst 2 (qs.map qpc), .val (.string kd), .val (.int .i64 I), .val (.int .i64 F), .val (.string r), .val (.string o)]) v) :
    Calls Tryz.prog 3 #[v] w fun e w' => e = .returned (.bool true) ∧ Below w.heap.size w w' := by
  have h := m_w3_SpanHolds [.agg [.val (.string op), .lst 7 (ls.map spc), .lst 2 (qs.map qpc), .val (.string kd), .val (.int .i64 I), .val (.int .i64 F), .val (.string r), .val (.string o)]] some (.val (.bool true)) (spanholds_true op ls qs kd I F r o _)
  obtain ⟨_, x, hx, _, hc⟩ := h
  cases hx
  refine (hc (fun k => k < w.heap.size) w _ hI (fun _ h => h) rfl ?_).mono fun e w' ⟨v, he, hb, hr⟩ => ⟨by rw [he, val_eq hr], hb⟩
  intro i x v' h1 h2
  match i with
  | 0 => simp at h1 h2; subst h1; subst h2; exact hv
  | i + 1 => simp at h1
theorem spc_of {H : Type} {enc : TypeId × Value → H} {w : World} {base : Nat} {spare : Nat → Bool} {held : Bool} (fuel : Nat) (cs : List Value) (x : DataW H × List MemPlace) (h : DataW.trod enc Tryz.prog w base spare held fuel 35 cs = some x) (_ : Light Tryz.prog 35 x.1) :
    ∃ s : Sp, CR (fun k => k < w.heap.size) w (spc s) cs := by
  obtain ⟨a, b, c, d, n, o, e, rfl, _⟩ := sp_of h
  exact ⟨⟨a, b, c, d, n, o, e⟩, CR.vals [.int .i64 a, .int .i64 b, .int .i64 c, .int .i64 d, .int .i64 n, .bool o, .bool e]⟩
theorem qpc_of {H : Type} {enc : TypeId × Value → H} {w : World} {base : Nat} {spare : Nat → Bool} {held : Bool} (fuel : Nat) (cs : List Value) (x : DataW H × List MemPlace) (h : DataW.trod enc Tryz.prog w base spare held fuel 31 cs = some x) (_ : Light Tryz.prog 31 x.1) :
    ∃ q : Int × Int, CR (fun k => k < w.heap.size) w (qpc q) cs := by
  obtain ⟨a, b, rfl, _⟩ := q_of h
  exact ⟨(a, b), CR.vals [.int .i64 a, .int .i64 b]⟩
theorem cellsSl : Tryz.prog.cellsOf 22 = 1 := by kernel_rfl
theorem cellsQl : Tryz.prog.cellsOf 23 = 1 := by kernel_rfl
theorem cellsFm : Tryz.prog.cellsOf 25 = 5 := by kernel_rfl
theorem cellsHold : Tryz.prog.cellsOf 27 = 8 := by kernel_rfl
set_option maxRecDepth 100000 in
theorem holds_of {H : Type} {enc : TypeId × Value → H} {w : World} {base : Nat} {spare : Nat → Bool} {held : Bool} {fuel : Nat} {cs : List Value} {x : DataW H × List MemPlace} (h : DataW.trod enc Tryz.prog w base spare held fuel 27 cs = some x) (hx : Light Tryz.prog 27 x.1) :
    ∃ (op : ByteArray) (ls : List Sp) (qs : List (Int × Int)) (kd : ByteArray) (I F : Int) (r o : ByteArray), CR (fun k => k < w.heap.size) w [.val (.string op), .lst 7 (ls.map spc), .lst 2 (qs.map qpc), .val (.string kd), .val (.int .i64 I), .val (.int .i64 F), .val (.string r), .val (.string o)] cs := by
  obtain ⟨xs, n, _, rfl, hl, hlen, hf⟩ := DataW.trod_struct Tryz.underlying27 h
  rw [cellsHold] at hl
  match cs, hl with
  | [c0, c1, c2, c3, c4, c5, c6, c7], _ =>
    match xs, hlen with
    | [y0, y1, y2, y3], _ =>
      have g0 := hf 0 _ rfl
      have g1 := hf 1 _ rfl
      have g2 := hf 2 _ rfl
      have g3 := hf 3 _ rfl
      simp [cells3, cellsSl, cellsQl, cellsFm] at g0 g1 g2 g3
      obtain ⟨k, a0, _, _⟩ := DataW.trod_string Tryz.underlying9 g0
      obtain ⟨ls, _, h1⟩ := slice_any spc (by kernel_rfl) (by omega) spc_len Tryz.underlying22 spc_of g1 (hx.field (j := 1) Tryz.underlying27 rfl rfl)
      obtain ⟨qs, _, h2⟩ := slice_any qpc (by kernel_rfl) (by omega) qpc_len Tryz.underlying23 qpc_of g2 (hx.field (j := 2) Tryz.underlying27 rfl rfl)
      obtain ⟨kd, I, F, r, o, a3, _, _⟩ := fmt_of g3
      simp at a0 a3
      obtain ⟨rfl, rfl, rfl, rfl, rfl⟩ := a3
      subst a0
      exact ⟨k, ls, qs, kd, I, F, r, o, (((CR.one (.val _)).app (CR.one h1)).app (CR.one h2)).app (CR.vals [.string kd, .int .i64 I, .int .i64 F, .string r, .string o])⟩
end Go.Proofs.YtiiddikiaafanaaGreatDoor
