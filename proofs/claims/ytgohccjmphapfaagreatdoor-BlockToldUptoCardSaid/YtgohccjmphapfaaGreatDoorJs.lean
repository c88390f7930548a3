import Derived.Test.YtgohccjmphapfaaGreatDoorJn
import Derived.Test.YtgohccjmphapfaaGreatDoorRows
set_option linter.all false
noncomputable section
namespace Go.Pv
open Go Go.RowKit
theorem Wyo {T : Type} {cost : T → Nat} : ∀ (qs : List T) (ys : List Nat), qs.length = ys.length → (∀ (i : Nat) (q : T) (y : Nat), qs[i]? = some q → ys[i]? = some y → cost q ≤ y) → (qs.map cost).sum ≤ ys.sum
 | [], ys, _, _ => by simp
 | q :: qs, [], h, _ => by simp at h
 | q :: qs, y :: ys, h, hc => by
  have h1 := hc 0 q y rfl rfl
  have h2 := Wyo qs ys (by simpa using h) (fun i q' y' a b => hc (i + 1) q' y' (by simpa using a) (by simpa using b))
  simp only [List.map_cons, List.sum_cons]
  omega
theorem Wua {T : Type} {P : Program} {H : Type} (cost : T → Nat) (meas : DataW H → Nat) {enc : TypeId × Value → H} {w : World} {base : Nat} {spare : Nat → Bool} {held : Bool} {t e : TypeId} (cells : T → List DV) {sz : Nat} (hsz : P.cellsOf e = sz) (h1 : 1 ≤ sz) (hc : ∀ g, (cells g).length = sz) (ht : P.underlying t = some (.slice e))
  {x : DataW H × List MemPlace} (he : ∀ fuel' cs y, DataW.trod enc P w base spare held fuel' e cs = some y → Wbb P e y.1 → SizeOf.sizeOf y.1 < SizeOf.sizeOf x.1 → ∃ g, CR (fun k => k < w.heap.size) w (cells g) cs ∧ cost g ≤ meas y.1)
  {fuel : Nat} {v : Value} (h : DataW.trod enc P w base spare held fuel t [v] = some x) (hx : Wbb P t x.1) :
  ∃ gs : List T, gs.length * P.bytesOf e ≤ reachBytes ∧ DRep (fun k => k < w.heap.size) w (.lst sz (gs.map cells)) v ∧ ((gs.map cost).sum = 0 ∨ ∃ es ss, x.1 = .slice es ss ∧ (gs.map cost).sum ≤ (es.map meas).sum) := by
 rcases Go.Deep.open_slice ht h with ⟨hcs, _⟩ | ⟨a', len, cap, m, n, D, Pl, hcs, _, hl, hm, hmm, rfl, hi⟩
 ·simp at hcs
  subst hcs
  exact ⟨[], by simp, .nil, .inl rfl⟩
 ·simp at hcs
  subst hcs
  by_cases h0 : len = 0
  ·subst h0
   exact ⟨[], by simp, .nil, .inl rfl⟩
  ·have hlm : len ≤ m := by rw [hmm]; split <;> omega
   have hw : len * P.bytesOf e ≤ reachBytes := by
    have := hx ((len + (m - len)) * P.bytesOf e) (by simp [DataW.weights, ht])
    exact Nat.le_trans (Nat.mul_le_mul_right _ (by omega)) this
   have hlt : ∀ i, i < len → Wbb P e (D i) := fun i hi n hn => hx n (by
    simp only [DataW.weights, ht, List.mem_cons, List.mem_append]
    exact .inr (.inl (Wbz (List.mem_map.2 ⟨i, by simpa using hi, rfl⟩) n hn)))
   have hcell : ∀ i, i < len → ∃ q : T, (∀ (j : Nat) (d : DV), (cells q)[j]? = some d → ∃ u, w.cell? ((a'.add (i * sz)).add j) = some u ∧ DRep (fun k => k < w.heap.size) w d u) ∧ cost q ≤ meas (D i) := fun i hil => by
    obtain ⟨cs', hc', ht'⟩ := hi i (by omega)
    rw [hsz] at hc'
    obtain ⟨_, hcl, hat⟩ := World.cells?_some hc'
    obtain ⟨g, hg, hcost⟩ := he _ _ _ ht' (hlt i hil) (by
     have : D i ∈ (List.range len).map D := List.mem_map.2 ⟨i, by simpa using hil, rfl⟩
     have := List.sizeOf_lt_of_mem this
     simp only [DataW.slice.sizeOf_spec]
     omega)
    refine ⟨g, fun j d hd => ?_, hcost⟩
    have hj : j < sz := by have := (List.getElem?_eq_some_iff.1 hd).1; rw [hc] at this; exact this
    have h9 := hat j hj
    have hjc : j < cs'.length := by rw [hg.1, hc]; exact hj
    exact ⟨cs'[j], by rw [h9]; exact List.getElem?_eq_getElem hjc, hg.2 j d _ hd (List.getElem?_eq_getElem hjc)⟩
   obtain ⟨b, off, spot⟩ := a'
   have first : ∃ u, w.cell? (((⟨b, off, spot⟩ : Addr).add (0 * sz)).add 0) = some u := by
    obtain ⟨q, h2, _⟩ := hcell 0 (by omega)
    obtain ⟨d, hd⟩ : ∃ d, (cells q)[0]? = some d := ⟨_, List.getElem?_eq_getElem (by rw [hc]; omega)⟩
    obtain ⟨u, hu, _⟩ := h2 0 d hd
    exact ⟨u, hu⟩
   obtain ⟨u0, hu0⟩ := first
   have hspot : spot = none := by
    have := World.cell?_spot hu0
    simpa [Addr.add] using this
   subst hspot
   obtain ⟨qs, hql, hqs⟩ := Won len hcell
   have hb : b < w.heap.size := by
    have := World.block_lt_of_cell? w _ hu0
    simpa [Addr.add] using this
   refine ⟨qs, by rw [hql]; exact hw, ?_, .inr ⟨_, _, rfl, Wyo qs _ (by simp [hql]) fun i q y hq hy => ?_⟩⟩
   rotate_left
   ·simp only [List.getElem?_map, Option.map_eq_some_iff] at hy
    obtain ⟨z, ⟨i', hi', rfl⟩, rfl⟩ := hy
    rw [List.getElem?_range] at hi'
    ·cases hi'; exact (hqs i q hq).2
    ·have := (List.getElem?_eq_some_iff.1 hq).1; omega
   have hlen : (qs.map cells).length = len := by simp [hql]
   have := DRep.lst (U := fun k => k < w.heap.size) (w := w) (sz := sz) (b := b) (off := off) (c := cap) (es := qs.map cells) (g := fun i j => (w.cell? ⟨b, off + i * sz + j, none⟩).getD undef) hb hb (by omega) (fun e he => by
     obtain ⟨q, _, rfl⟩ := List.mem_map.1 he; exact hc q) (fun i j e x he hx => by
     simp only [List.getElem?_map, Option.map_eq_some_iff] at he
     obtain ⟨q, hq, rfl⟩ := he
     obtain ⟨u, hu, _⟩ := (hqs i q hq).1 j x hx
     rw [Go.WideShapes.add_plain, Go.WideShapes.add_plain] at hu
     rw [hu]; rfl) (fun i j e x he hx => by
     simp only [List.getElem?_map, Option.map_eq_some_iff] at he
     obtain ⟨q, hq, rfl⟩ := he
     obtain ⟨u, hu, hr⟩ := (hqs i q hq).1 j x hx
     rw [Go.WideShapes.add_plain, Go.WideShapes.add_plain] at hu
     rw [hu]; exact hr)
   rw [hlen] at this
   exact this
end Go.Pv
namespace Go.Proofs.YtgohccjmphapfaaGreatDoor
open Go Go.Pv Go.RowKit Go.ChangeShapes Go.WideShapes Go.ChangeAt Go.Joins
theorem Wqr : ∀ gs : List { b : BT // b.ok ∧ b.nok }, (BT.preL (gs.map (·.1))).length = (gs.map fun b => b.1.pre.length).sum
 | [] => rfl
 | g :: gs => by simp only [List.map_cons, BT.preL, List.length_append, List.sum_cons, Wqr gs]
theorem Wqs {H : Type} : ∀ l : List (DataW H), Rows.uptoBulkAll l = (l.map Rows.uptoBulk).sum
 | [] => rfl
 | d :: l => by simp only [Rows.uptoBulkAll, List.map_cons, List.sum_cons, Wqs l]
set_option maxRecDepth 100000 in
theorem Wml {H : Type} {enc : TypeId × Value → H} {w : World} {base : Nat} {spare : Nat → Bool} {held : Bool} : ∀ (k : Nat) (fuel : Nat) (cs : List Value) (x : DataW H × List MemPlace), SizeOf.sizeOf x.1 < k → DataW.trod enc Tryz.prog w base spare held fuel 27 cs = some x → Wbb Tryz.prog 27 x.1 →
  ∃ b : { b : BT // b.ok ∧ b.nok }, CR (fun k => k < w.heap.size) w b.1.cells cs ∧ b.1.pre.length ≤ Rows.uptoBulk x.1
 | 0, fuel, cs, x, hk, h, hx => by omega
 | k + 1, fuel, cs, x, hk, h, hx => by
  obtain ⟨xs, n, _, rfl, hl, hlen, hf⟩ := DataW.trod_struct Tryz.underlying27 h
  rw [Wzd] at hl
  match cs, hl with
  | [c0, c1, c2, c3, c4, c5, c6, c7, c8, c9, c10], _ =>
   match xs, hlen with
   | [y0, y1, y2, y3, y4, y5, y6], _ =>
    have g0 := hf 0 _ rfl
    have g1 := hf 1 _ rfl
    have g2 := hf 2 _ rfl
    have g3 := hf 3 _ rfl
    have g4 := hf 4 _ rfl
    have g5 := hf 5 _ rfl
    have g6 := hf 6 _ rfl
    simp [Wy2, Wy3, Wy1, Wzc, Wzb] at g0 g1 g2 g3 g4 g5 g6
    obtain ⟨op, a0, _, _⟩ := DataW.trod_string Tryz.underlying9 g0
    obtain ⟨nm, a1, n1, _⟩ := DataW.trod_string Tryz.underlying9 g1
    have hnm : nm.size ≤ reachBytes := Wt9 (n1 ▸ hx.field (j := 1) Tryz.underlying27 rfl rfl)
    obtain ⟨N, a2, _, b2⟩ := DataW.trod_int Tryz.underlying3 g2
    obtain ⟨M, a3, _, b3⟩ := DataW.trod_int Tryz.underlying3 g3
    obtain ⟨qs, lq, h4⟩ := Wtn (sz := 2) (fun q : { q : Int × Int // i64 q.1 ∧ i64 q.2 } => qpc q.1) (by kernel_rfl) (by omega) (fun _ => rfl) Tryz.underlying22 (fun f c y h1 h2 _ => qq_of f c y h1 h2) g4 (hx.field (j := 4) Tryz.underlying27 rfl rfl)
    obtain ⟨fk, fi, ff, fr, fo, a5, b5, b6⟩ := W1s g5
    obtain ⟨ks, lk, h6, hsum⟩ := Wua (sz := 11) (fun b : { b : BT // b.ok ∧ b.nok } => b.1.pre.length) Rows.uptoBulk (fun b : { b : BT // b.ok ∧ b.nok } => b.1.cells) (by kernel_rfl) (by omega) (fun b => b.1.cells_len) Tryz.underlying25 (fun f c y h1 h2 h3 => Wml k f c y (by
     have hk' : SizeOf.sizeOf (DataW.agg [y0.1, y1.1, y2.1, y3.1, y4.1, y5.1, y6.1]) < k + 1 := hk
     simp only [DataW.agg.sizeOf_spec, List.cons.sizeOf_spec, List.nil.sizeOf_spec] at hk'
     omega) h1 h2) g6 (hx.field (j := 6) Tryz.underlying27 rfl rfl)
    simp at a0 a1 a2 a3 a5
    obtain ⟨rfl, rfl, rfl, rfl, rfl⟩ := a5
    subst a0 a1 a2 a3
    rw [Wzf] at lq
    rw [Wze] at lk
    refine ⟨⟨.mk op nm N M (qs.map (·.1)) fk fi ff fr fo (ks.map (·.1)), ⟨Wj7 b2, Wj7 b3, b5, b6, by simpa using lq, ?_, by simpa using lk, BT.okLn_of ks⟩, hnm, BT.nokL_of ks⟩, ?_, ?_⟩
    ·intro q hq
     obtain ⟨q', _, rfl⟩ := List.mem_map.1 hq
     exact q'.2
    ·simp only [BT.cells, BT.cellsL_eq, List.map_map]
     exact ((CR.vals [.string op, .string nm, .int .i64 N, .int .i64 M]).app (CR.one h4)).app ((CR.vals [.string fk, .int .i64 fi, .int .i64 ff, .string fr, .string fo]).app (CR.one h6))
    ·have h1 : (BT.preL (ks.map (·.1))).length = (ks.map fun b => b.1.pre.length).sum := Wqr ks
     have h2 : (ks.map fun b => b.1.pre.length).sum ≤ Rows.uptoBulk y6.1 := by
      rcases hsum with h | ⟨es, ss, h, h'⟩
      ·omega
      ·rw [h, Rows.uptoBulk]
       have := Wqs es
       omega
     show (BT.preL (ks.map (·.1))).length + 1 ≤ _
     simp only [Rows.uptoBulk, Rows.uptoBulkAll, List.map_cons, List.map_nil]
     omega
end Go.Proofs.YtgohccjmphapfaaGreatDoor
end

noncomputable section
namespace Go.Proofs.YtgohccjmphapfaaGreatDoor
open Go Go.Pv Go.RowKit
def namc (x : BT) : W4z := [.val (.string x.nam)]
def K6a (l : List BT) : W4z := (l.map namc).flatten
theorem Wmm (a b : List BT) : K6a (a ++ b) = K6a a ++ K6a b := by unfold K6a; rw [List.map_append, List.flatten_append]
theorem K6b : ∀ l : List BT, (K6a l).length = l.length
 | [] => rfl
 | b :: l => by
  have : K6a (b :: l) = namc b ++ K6a l := rfl
  rw [this, List.length_append, K6b l, List.length_cons]; simp [namc]; omega
theorem Wub : ∀ l : List BT, Kcy 1 l.length (K6a l) = l.map namc
 | [] => rfl
 | b :: l => by
  have : K6a (b :: l) = namc b ++ K6a l := rfl
  rw [List.length_cons, Kcy, this, List.take_left' (show (namc b).length = 1 from rfl), List.drop_left' (show (namc b).length = 1 from rfl), Wub l]; rfl
theorem Wuc {a : Nat} {l : List DV} (hl : l.length = a) (h : Kh7 (a + 1)) : (true && true && Nat.ble (a * 1) (l.length) && Nat.ble (a + 1) maxLen && Nat.ble ((a + 1) * 16) 140737488355328) = true := by
 have hm := Kum
 unfold Kh7 at h
 rw [Kpa (show a * 1 ≤ l.length by omega), Kpa (show a + 1 ≤ maxLen by omega), Kpa (show (a + 1) * 16 ≤ 140737488355328 by omega)]; rfl
theorem W09 (x : BT) (A : W4j) : Kal x.cells 0 (fun v18 v19 v20 v21 v22 v23 v24 v25 v26 v27 v28 => A v19) = A x.nam := by cases x; rfl
theorem Wqt (f1 : W2e) (f2 : W18) (L : List BT) (hl : L.length < 9223372036854775807) (κ : W3n) :
  ∀ (rest done acc : List BT), L = done ++ rest → Kh7 (acc ++ rest).length → LF (Khy f1 f2) (rest.length + 1) (.h1 acc.length (L.map BT.cells) (L.length : Nat) done.length (K6a acc)) κ = κ.2 (acc ++ rest).length (K6a (acc ++ rest))
 | [], done, acc, he, hb => by
  rw [List.append_nil]
  simp only [LF, Khy]
  have : decide ((done.length : Int) < (L.length : Int)) = false := by simp [he]
  rw [this, bx_f]
 | x :: rest, done, acc, he, hb => by
  have hlen : L.length = done.length + rest.length + 1 := by simp [he]; omega
  have h1 : decide ((done.length : Int) < (L.length : Int)) = true := by simp; omega
  have h2 : decide (0 ≤ (done.length : Int)) = true := by simp
  have h3 : (L.map BT.cells)[Int.toNat (done.length : Int)]? = some x.cells := by simp [he]
  have hw : IntKind.wrap .i64 ((done.length : Int) + 1) = ((done ++ [x]).length : Nat) := by rw [Kcp (by omega) (by omega)]; simp
  rw [show (x :: rest).length + 1 = (rest.length + 1) + 1 from rfl, LF]
  simp only [Khy, h1, h2, h3, bx_t, optE]
  have hf : Kh7 (acc.length + 1) := by unfold Kh7 at *; simp at hb; omega
  rw [Wuc (K6b acc) hf]
  simp only [bx_t, Nat.mul_one]
  rw [List.take_of_length_le (by rw [K6b]; omega), hw]
  have ih := Wqt f1 f2 L hl κ rest (done ++ [x]) (acc ++ [x]) (by simp [he]) (by simpa using hb)
  rw [W09 x (fun v => LF (Khy f1 f2) (rest.length + 1) (.h1 (acc.length + 1) (L.map BT.cells) (L.length : Nat) (done ++ [x]).length (K6a acc ++ [DV.val (Value.string v)])) κ)]
  have hx : acc ++ x :: rest = (acc ++ [x]) ++ rest := by simp
  rw [hx, ← ih, Wmm, show (acc ++ [x]).length = acc.length + 1 from by simp]; rfl
def Wud (κ : W3n) (l : List BT) : W4y := match l with | [] => κ.1 | b :: r => κ.2 (b :: r).length (K6a (b :: r))
theorem Wwz (f1 : W2e) (f2 : W18) (L : List BT) (hf : Kh7 L.length) (κ : W3n) :
  LF (Khy f1 f2) (L.length + 1) (.h0 (L.map BT.cells) (L.length : Nat) 0) κ = Wud κ L := by
 have hl : L.length < 9223372036854775807 := K2z hf
 match L, hl, hf with
 | [], _, _ => rfl
 | x :: rest, hl, hf =>
  have h1 : decide ((0 : Int) < ((x :: rest).length : Int)) = true := decide_eq_true (by simp only [List.length_cons]; omega)
  have h3 : ((x :: rest).map BT.cells)[Int.toNat 0]? = some x.cells := rfl
  rw [show (x :: rest).length + 1 = (rest.length + 1) + 1 from rfl, LF]
  simp only [Khy, h1, h3, optE, bx_t]
  have ih := Wqt f1 f2 (x :: rest) hl κ rest [x] [x] rfl hf
  refine Eq.trans ?_ ih
  rw [show decide ((0 : Int) ≤ 0) = true from rfl, bx_t]
  exact W09 x (fun v => LF (Khy f1 f2) (rest.length + 1) (.h1 1 ((x :: rest).map BT.cells) ((x :: rest).length : Nat) (IntKind.wrap .i64 ((0 : Int) + 1)) [DV.val (Value.string v)]) κ)
theorem Wkw (f1 : W2d) (f2 : W18) (L : List BT) (hl : L.length < 9223372036854775807) (κ : W3n) :
  ∀ (rest done acc : List BT), L = done ++ rest → Kh7 (acc ++ rest.filter isS).length → LF (Kb0 f1 f2) (rest.length + 1) (.h1 acc.length (L.map BT.cells) (L.length : Nat) done.length (K6a acc)) κ = κ.2 (acc ++ rest.filter isS).length (K6a (acc ++ rest.filter isS))
 | [], done, acc, he, hb => by
  rw [List.filter_nil, List.append_nil]
  simp only [LF, Kb0]
  have : decide ((done.length : Int) < (L.length : Int)) = false := by simp [he]
  rw [this, bx_f]
 | x :: rest, done, acc, he, hb => by
  have hlen : L.length = done.length + rest.length + 1 := by simp [he]; omega
  have h1 : decide ((done.length : Int) < (L.length : Int)) = true := by simp; omega
  have h2 : decide (0 ≤ (done.length : Int)) = true := by simp
  have h3 : (L.map BT.cells)[Int.toNat (done.length : Int)]? = some x.cells := by simp [he]
  have hw : IntKind.wrap .i64 ((done.length : Int) + 1) = ((done ++ [x]).length : Nat) := by rw [Kcp (by omega) (by omega)]; simp
  rw [show (x :: rest).length + 1 = (rest.length + 1) + 1 from rfl, LF]
  simp only [Kb0, h1, h2, h3, bx_t, optE]
  rw [hw, List.filter_cons]
  have hop : ∀ (A C : ByteArray → Option DV), Kal x.cells 0 (fun v18 v19 v20 v21 v22 v23 v24 v25 v26 v27 v28 => bx (v18.toList == ByteArray.toList (⟨#[115, 104, 111, 119]⟩)) (A v19) (C v19)) = bx (isS x) (A x.nam) (C x.nam) := fun A C => by
   rw [show ByteArray.toList (⟨#[115, 104, 111, 119]⟩) = [115, 104, 111, 119] from tl _]
   cases x; rfl
  rw [hop (fun v => bx (true && true && Nat.ble (acc.length * 1) (List.length (K6a acc)) && Nat.ble (acc.length + 1) maxLen && Nat.ble ((acc.length + 1) * 16) 140737488355328) (LF (Kb0 f1 f2) (rest.length + 1) (.h1 (acc.length + 1) (L.map BT.cells) (L.length : Nat) (done ++ [x]).length (List.take (acc.length * 1) (K6a acc) ++ [DV.val (Value.string v)])) κ) none) (fun _ => LF (Kb0 f1 f2) (rest.length + 1) (.h1 acc.length (L.map BT.cells) (L.length : Nat) (done ++ [x]).length (K6a acc)) κ)]
  rw [List.filter_cons] at hb
  cases hs : isS x with
  | false =>
   rw [hs] at hb
   rw [bx_f]
   exact Wkw f1 f2 L hl κ rest (done ++ [x]) acc (by simp [he]) (by simpa using hb)
  | true =>
   rw [hs, if_pos rfl] at hb
   rw [bx_t, if_pos rfl]
   have hf : Kh7 (acc.length + 1) := by unfold Kh7 at *; simp only [List.length_append, List.length_cons] at hb; omega
   rw [Wuc (K6b acc) hf, bx_t, Nat.mul_one, List.take_of_length_le (by rw [K6b]; omega)]
   have ih := Wkw f1 f2 L hl κ rest (done ++ [x]) (acc ++ [x]) (by simp [he]) (by simpa using hb)
   have hx : acc ++ x :: rest.filter isS = (acc ++ [x]) ++ rest.filter isS := by simp
   rw [hx, ← ih, Wmm, show (acc ++ [x]).length = acc.length + 1 from by simp]; rfl
theorem Wqu (f1 : W2d) (f2 : W18) (L : List BT) (hl : L.length < 9223372036854775807) (κ : W3n) :
  ∀ (rest done : List BT), L = done ++ rest → Kh7 (rest.filter isS).length → LF (Kb0 f1 f2) (rest.length + 1) (.h0 (L.map BT.cells) (L.length : Nat) done.length) κ = Wud κ (rest.filter isS)
 | [], done, he, hb => by
  simp only [LF, Kb0]
  have : decide ((done.length : Int) < (L.length : Int)) = false := by simp [he]
  rw [this, bx_f]; rfl
 | x :: rest, done, he, hb => by
  have hlen : L.length = done.length + rest.length + 1 := by simp [he]; omega
  have h1 : decide ((done.length : Int) < (L.length : Int)) = true := by simp; omega
  have h2 : decide (0 ≤ (done.length : Int)) = true := by simp
  have h3 : (L.map BT.cells)[Int.toNat (done.length : Int)]? = some x.cells := by simp [he]
  have hw : IntKind.wrap .i64 ((done.length : Int) + 1) = ((done ++ [x]).length : Nat) := by rw [Kcp (by omega) (by omega)]; simp
  rw [show (x :: rest).length + 1 = (rest.length + 1) + 1 from rfl, LF]
  simp only [Kb0, h1, h2, h3, bx_t, optE]
  rw [hw, List.filter_cons]
  have hop : ∀ (A C : ByteArray → Option DV), Kal x.cells 0 (fun v18 v19 v20 v21 v22 v23 v24 v25 v26 v27 v28 => bx (v18.toList == ByteArray.toList (⟨#[115, 104, 111, 119]⟩)) (A v19) (C v19)) = bx (isS x) (A x.nam) (C x.nam) := fun A C => by
   rw [show ByteArray.toList (⟨#[115, 104, 111, 119]⟩) = [115, 104, 111, 119] from tl _]
   cases x; rfl
  rw [hop (fun v => LF (Kb0 f1 f2) (rest.length + 1) (.h1 1 (L.map BT.cells) (L.length : Nat) (done ++ [x]).length [DV.val (Value.string v)]) κ) (fun _ => LF (Kb0 f1 f2) (rest.length + 1) (.h0 (L.map BT.cells) (L.length : Nat) (done ++ [x]).length) κ)]
  rw [List.filter_cons] at hb
  cases hs : isS x with
  | false =>
   rw [hs] at hb
   rw [bx_f]
   exact Wqu f1 f2 L hl κ rest (done ++ [x]) (by simp [he]) (by simpa using hb)
  | true =>
   rw [hs, if_pos rfl] at hb
   rw [bx_t, if_pos rfl]
   exact Wkw f1 f2 L hl κ rest (done ++ [x]) [x] (by simp [he]) hb
def BT.shw (b : BT) : List BT × Int := bif b.prt.2.2 != 0 then ([], b.prt.2.2) else (b.pre.filter isS, 0)
theorem Wmn (k : W3x) (l : List BT) : Wud (k [] 0, fun z w => bx (Nat.ble (0 + z * 1) (w.length)) (k (Kcy 1 z (List.drop 0 w)) 0) none) l = k (l.map namc) 0 := by
 cases l with
 | nil => rfl
 | cons q r =>
  show bx (Nat.ble (0 + (q :: r).length * 1) (List.length (K6a (q :: r)))) _ _ = _
  rw [Kpa (by rw [K6b]; omega), bx_t, List.drop_zero]
  exact congrArg (fun z => k z 0) (Wub _)
theorem Wse (N : Nat) (b : BT) (hok : b.ok) (hd : 4 * b.depth ≤ N) (hf : Kh7 b.pre.length) (k : W3x) : b.call (Kw7 N) k = k (b.shw.1.map namc) b.shw.2 := by
 have h1 := Weg N b hok hd hf
 have h2 := K22 N ⟨#[115, 104, 111, 119]⟩ N b hok (by omega) hf
 rw [W08] at h2
 unfold BT.shw
 have hfS : Kh7 (b.pre.filter isS).length := by
  have := List.length_filter_le isS b.pre
  unfold Kh7 at *; omega
 obtain ⟨op, name, n, m, nums, fk, fi, ff, fr, fo, kids⟩ := b
 have h1' : ∀ k : Int → Int → Int → Option DV, Khr N op name n m (nums.map qpc) fk fi ff fr fo (BT.cellsL kids) k = app3 (BT.mk op name n m nums fk fi ff fr fo kids).prt k := h1
 have h2' : ∀ k : List (List DV) → Option DV, Keb N ⟨#[115, 104, 111, 119]⟩ op name n m (nums.map qpc) fk fi ff fr fo (BT.cellsL kids) k = k (((BT.mk op name n m nums fk fi ff fr fo kids).pre.filter isS).map BT.cells) := h2
 show K2u (Keb N) (Khr N) op name n m (nums.map qpc) fk fi ff fr fo (BT.cellsL kids) k = _
 unfold K2u
 rw [h1', app3]
 cases hc : ((BT.mk op name n m nums fk fi ff fr fo kids).prt.2.2 != 0) with
 | true => simp [bx_t]
 | false =>
  rw [bx_f, h2']
  have hφ : Kp3 (Key.h0 (((BT.mk op name n m nums fk fi ff fr fo kids).pre.filter isS).map BT.cells) ((List.length (((BT.mk op name n m nums fk fi ff fr fo kids).pre.filter isS).map BT.cells) : Nat) : Int) 0) = ((BT.mk op name n m nums fk fi ff fr fo kids).pre.filter isS).length + 1 := by simp [Kp3]
  rw [hφ, List.length_map]
  exact Eq.trans (Wwz _ _ _ hfS _) (Wmn k _)
theorem Wue (N : Nat) (b : BT) (hok : b.ok) (hnk : b.nok) (hd : b.depth ≤ N) (hf : Kh7 b.pre.length) (k : W3x) : b.call (Kh9 N) k = k (b.shw.1.map namc) b.shw.2 := by
 have h1 := Wg6 N b hok hnk hd hf
 have h2 := Wc6 N N b hok hd hf
 unfold BT.shw
 have hfS : Kh7 (b.pre.filter isS).length := by
  have := List.length_filter_le isS b.pre
  unfold Kh7 at *; omega
 obtain ⟨op, name, n, m, nums, fk, fi, ff, fr, fo, kids⟩ := b
 have h1' : ∀ k : Int → Int → Int → Option DV, Kcb N op name n m (nums.map qpc) fk fi ff fr fo (BT.cellsL kids) k = app3 (BT.mk op name n m nums fk fi ff fr fo kids).prt k := h1
 have h2' : ∀ k : List (List DV) → Option DV, Kbv N op name n m (nums.map qpc) fk fi ff fr fo (BT.cellsL kids) k = k ((BT.mk op name n m nums fk fi ff fr fo kids).pre.map BT.cells) := h2
 show Knn (Kbv N) (Kcb N) op name n m (nums.map qpc) fk fi ff fr fo (BT.cellsL kids) k = _
 unfold Knn
 rw [h1', app3]
 cases hc : ((BT.mk op name n m nums fk fi ff fr fo kids).prt.2.2 != 0) with
 | true => simp [bx_t]
 | false =>
  rw [bx_f, h2']
  have hφ : Kh5 (Kbm.h0 ((BT.mk op name n m nums fk fi ff fr fo kids).pre.map BT.cells) ((List.length ((BT.mk op name n m nums fk fi ff fr fo kids).pre.map BT.cells) : Nat) : Int) 0) = (BT.mk op name n m nums fk fi ff fr fo kids).pre.length + 1 := by simp [Kh5]
  rw [hφ, List.length_map]
  exact Eq.trans (Wqu _ _ _ (K2z hf) _ (BT.mk op name n m nums fk fi ff fr fo kids).pre [] rfl hfS) (Wmn k _)
end Go.Proofs.YtgohccjmphapfaaGreatDoor
end

noncomputable section
namespace Go.Proofs.YtgohccjmphapfaaGreatDoor
open Go Go.Pv Go.RowKit
def four (x : BT) : Prop := ∃ a b c d, x.num = [a, b, c, d]
def knc (x : BT) : W4z := match x.num with
 | [a, b, c, d] => [.val (.string x.nam), .val (.int .i64 a.1), .val (.int .i64 a.2), .val (.int .i64 b.1), .val (.int .i64 b.2), .val (.int .i64 c.1), .val (.int .i64 c.2), .val (.int .i64 d.1), .val (.int .i64 d.2), .val (.bool false)]
 | _ => List.replicate 10 (.val (.bool false))
theorem Wow (x : BT) : (knc x).length = 10 := by
 unfold knc
 split <;> simp
def Kza (l : List BT) : W4z := (l.map knc).flatten
theorem Wg7 (a b : List BT) : Kza (a ++ b) = Kza a ++ Kza b := by unfold Kza; rw [List.map_append, List.flatten_append]
theorem K0i : ∀ l : List BT, (Kza l).length = l.length * 10
 | [] => rfl
 | b :: l => by
  have : Kza (b :: l) = knc b ++ Kza l := rfl
  rw [this, List.length_append, K0i l, Wow, List.length_cons]; omega
theorem Wuf : ∀ l : List BT, Kcy 10 l.length (Kza l) = l.map knc
 | [] => rfl
 | b :: l => by
  have : Kza (b :: l) = knc b ++ Kza l := rfl
  rw [List.length_cons, Kcy, this, List.take_left' (Wow b), List.drop_left' (Wow b), Wuf l]; rfl
theorem Wug {a : Nat} {l : List DV} (hl : l.length = a * 10) (h : Kh7 (a + 1)) : (true && true && Nat.ble (a * 10) (l.length) && Nat.ble (a + 1) maxLen && Nat.ble ((a + 1) * 88) 140737488355328) = true := by
 have hm := Kum
 unfold Kh7 at h
 rw [Kpa (show a * 10 ≤ l.length by omega), Kpa (show a + 1 ≤ maxLen by omega), Kpa (show (a + 1) * 88 ≤ 140737488355328 by omega)]; rfl
def nub : List BT → List BT → List BT
 | acc, [] => acc
 | acc, x :: r => bif acc.any (fun y => Krz y.nam x.nam) then nub acc r else nub (acc ++ [x]) r
theorem Wox : ∀ (r acc : List BT), (nub acc r).length ≤ acc.length + r.length
 | [], acc => by simp [nub]
 | x :: r, acc => by
  rw [nub]
  cases acc.any (fun y => Krz y.nam x.nam) with
  | true => have := Wox r acc; simp only [cond_true, List.length_cons]; omega
  | false => have := Wox r (acc ++ [x]); simp only [cond_false, List.length_cons]; simp only [List.length_append, List.length_singleton] at this; omega
theorem ld_bt (k : KB) : ld_b [DV.val (Value.bool true)] 0 k = k true := rfl
theorem W1a {acc : List BT} {x : BT} (h : ∃ y ∈ acc, y.nam = x.nam) : acc.any (fun y => Krz y.nam x.nam) = true := by
 obtain ⟨y, hy, hn⟩ := h
 exact List.any_eq_true.2 ⟨y, hy, by rw [hn]; exact Krt _⟩
theorem Wzo {acc : List BT} {x : BT} (h : ∀ y ∈ acc, y.nam ≠ x.nam) : acc.any (fun y => Krz y.nam x.nam) = false := by
 rw [List.any_eq_false]
 exact fun y hy => by rw [Kwq (h y hy)]; simp
theorem Wkx (f1 : W2e) (f2 : W18) (L : List BT) (hl : L.length < 9223372036854775807) (h4 : ∀ x ∈ L, four x) (κ : W3n) :
  ∀ (rest done acc : List BT) (Z : List (ByteArray × DV)), L = done ++ rest → Inv2 Z acc → Kh7 (acc.length + rest.length) → LF (Kjz f1 f2) (rest.length + 1) (.h1 acc.length (L.map BT.cells) (L.length : Nat) done.length (Kza acc) Z) κ = κ.2 (nub acc rest).length (Kza (nub acc rest))
 | [], done, acc, Z, he, hi, hb => by
  rw [nub]
  simp only [LF, Kjz]
  have : decide ((done.length : Int) < (L.length : Int)) = false := by simp [he]
  rw [this, bx_f]
 | x :: rest, done, acc, Z, he, hi, hb => by
  have hlen : L.length = done.length + rest.length + 1 := by simp [he]; omega
  have h1 : decide ((done.length : Int) < (L.length : Int)) = true := by simp; omega
  have h2 : decide (0 ≤ (done.length : Int)) = true := by simp
  have h3 : (L.map BT.cells)[Int.toNat (done.length : Int)]? = some x.cells := by simp [he]
  have hw : IntKind.wrap .i64 ((done.length : Int) + 1) = ((done ++ [x]).length : Nat) := by rw [Kcp (by omega) (by omega)]; simp
  rw [show (x :: rest).length + 1 = (rest.length + 1) + 1 from rfl, LF]
  simp only [Kjz, h1, h2, h3, bx_t, optE, Kmb]
  have hf : Kh7 (acc.length + 1) := by unfold Kh7 at *; simp at hb; omega
  rw [hw]
  rw [nub]
  obtain ⟨a, b, c, d, hx⟩ := h4 x (by simp [he])
  have hk : knc x = [.val (.string x.nam), .val (.int .i64 a.1), .val (.int .i64 a.2), .val (.int .i64 b.1), .val (.int .i64 b.2), .val (.int .i64 c.1), .val (.int .i64 c.2), .val (.int .i64 d.1), .val (.int .i64 d.2), .val (.bool false)] := by unfold knc; rw [hx]
  rcases hi x.nam with ⟨g1, g2⟩ | ⟨g1, g2⟩
  ·have ih := Wkx f1 f2 L hl h4 κ rest (done ++ [x]) (acc ++ [x]) (dset Z x.nam (.val (.bool true))) (by simp [he]) (Wku hi) (by unfold Kh7 at *; simp at hb ⊢; omega)
   rw [Wzo g2, cond_false, ← ih, Wg7, show Kza [x] = knc x from List.append_nil _, hk, show (acc ++ [x]).length = acc.length + 1 from by simp]
   obtain ⟨op, name, n, m, nums, fk, fi, ff, fr, fo, kids⟩ := x
   have hx : nums = [a, b, c, d] := hx
   have g1' : dget Z name = none := g1
   subst hx
   have q0 : (List.map qpc [a, b, c, d])[Int.toNat 0]? = some (qpc a) := rfl
   have q1 : (List.map qpc [a, b, c, d])[Int.toNat 1]? = some (qpc b) := rfl
   have q2 : (List.map qpc [a, b, c, d])[Int.toNat 2]? = some (qpc c) := rfl
   have q3 : (List.map qpc [a, b, c, d])[Int.toNat 3]? = some (qpc d) := rfl
   simp only [BT.call]
   rw [g1']
   simp only [optV, q0, q1, q2, q3, ld_q]
   rw [Wug (K0i acc) hf, bx_t, List.take_of_length_le (by rw [K0i]; omega)]
   rfl
  ·have ih := Wkx f1 f2 L hl h4 κ rest (done ++ [x]) acc Z (by simp [he]) hi (by unfold Kh7 at *; simp at hb; omega)
   rw [W1a g2, cond_true, ← ih]
   obtain ⟨op, name, n, m, nums, fk, fi, ff, fr, fo, kids⟩ := x
   have g1 : dget Z name = some (.val (.bool true)) := g1
   simp only [BT.call, g1, optV, ld_bt, Bool.not_true, bx_f]
def Wqv (κ : W3n) (l : List BT) : W4y := match l with | [] => κ.1 | b :: r => κ.2 (b :: r).length (Kza (b :: r))
theorem Wqw : ∀ (r acc : List BT), acc ≠ [] → nub acc r ≠ []
 | [], acc, h => h
 | x :: r, acc, h => by
  rw [nub]
  cases acc.any (fun y => Krz y.nam x.nam) with
  | true => exact Wqw r acc h
  | false => exact Wqw r (acc ++ [x]) (by simp)
theorem Wmo {κ : Option DV × (Nat → List DV → Option DV)} {l : List BT} (h : l ≠ []) : Wqv κ l = κ.2 l.length (Kza l) := by
 cases l with
 | nil => exact absurd rfl h
 | cons b r => rfl
theorem Ww0 (f1 : W2e) (f2 : W18) (L : List BT) (hfL : Kh7 L.length) (h4 : ∀ x ∈ L, four x) (κ : W3n) :
  LF (Kjz f1 f2) (L.length + 1) (.h0 (L.map BT.cells) (L.length : Nat) 0 []) κ = Wqv κ (nub [] L) := by
 have hl : L.length < 9223372036854775807 := K2z hfL
 match L, hl, hfL, h4 with
 | [], _, _, _ => rfl
 | x :: rest, hl, hfL, h4 =>
  have h1 : decide ((0 : Int) < ((x :: rest).length : Int)) = true := decide_eq_true (by simp only [List.length_cons]; omega)
  have h3 : ((x :: rest).map BT.cells)[Int.toNat 0]? = some x.cells := rfl
  have hn : nub [] (x :: rest) = nub [x] rest := rfl
  have ih := Wkx f1 f2 (x :: rest) hl h4 κ rest [x] [x] (dset [] x.nam (.val (.bool true))) rfl (Wku (l := []) (fun s => .inl ⟨rfl, fun y hy => by cases hy⟩)) (by unfold Kh7 at *; simp at hfL ⊢; omega)
  rw [hn, Wmo (Wqw rest [x] (by simp)), ← ih]
  rw [show (x :: rest).length + 1 = (rest.length + 1) + 1 from rfl, LF]
  simp only [Kjz, h1, h3, optE, bx_t, Kmb]
  rw [show decide ((0 : Int) ≤ 0) = true from rfl, bx_t]
  obtain ⟨a, b, c, d, hx⟩ := h4 x (by simp)
  have hk : knc x = [.val (.string x.nam), .val (.int .i64 a.1), .val (.int .i64 a.2), .val (.int .i64 b.1), .val (.int .i64 b.2), .val (.int .i64 c.1), .val (.int .i64 c.2), .val (.int .i64 d.1), .val (.int .i64 d.2), .val (.bool false)] := by unfold knc; rw [hx]
  rw [show Kza [x] = knc x from List.append_nil _, hk]
  obtain ⟨op, name, n, m, nums, fk, fi, ff, fr, fo, kids⟩ := x
  have hx : nums = [a, b, c, d] := hx
  subst hx
  rfl
end Go.Proofs.YtgohccjmphapfaaGreatDoor
end

noncomputable section
namespace Go.Proofs.YtgohccjmphapfaaGreatDoor
open Go Go.Pv Go.RowKit
theorem knc4 {x : BT} (h : four x) : ∃ r, knc x = .val (.string x.nam) :: r := by
 obtain ⟨a, b, c, d, hx⟩ := h
 exact ⟨_, by unfold knc; rw [hx]⟩
theorem knth {acc done rest : List BT} {y : BT} (he : acc = done ++ y :: rest) (h : four y) : nth (Kza acc) (done.length * 10) = .val (.string y.nam) := by
 obtain ⟨r, hr⟩ := knc4 h
 unfold nth
 rw [List.getD_eq_getElem?_getD, he, Wg7, List.getElem?_append_right (by rw [K0i]; omega), K0i, Nat.sub_self, show Kza (y :: rest) = knc y ++ Kza rest from rfl, hr]
 rfl
theorem Wuh (f0 : W2d) (acc : List BT) (h4 : ∀ y ∈ acc, four y) (hl : acc.length < 9223372036854775807) (Lc : W4x) (u v : Int) (op name : W4w) (n m : Int) (nums : W4x) (fk : W4w) (fi ff : Int) (fr fo : W4w) (kids : W4x) (κ : (Bool → List (List DV) → Int → Int → ByteArray → ByteArray → Int → Int → List (List DV) → ByteArray → Int → Int → ByteArray → ByteArray → List (List DV) → Option DV) × (Nat → Bool → List (List DV) → Int → Int → List DV → ByteArray → ByteArray → Int → Int → List (List DV) → ByteArray → Int → Int → ByteArray → ByteArray → List (List DV) → Option DV)) :
  ∀ (rest done : List BT) (th : Bool), acc = done ++ rest → LF (Kc6 f0) (rest.length + 1) (.h1 acc.length th done.length Lc u v (Kza acc) op name n m nums fk fi ff fr fo kids) κ = κ.2 acc.length (th || rest.any (fun y => Krz y.nam name)) Lc u v (Kza acc) op name n m nums fk fi ff fr fo kids
 | [], done, th, he => by
  simp only [LF, Kc6]
  have : decide ((done.length : Int) < (acc.length : Int)) = false := by simp [he]
  rw [this, bx_f, List.any_nil, Bool.or_false]
 | y :: rest, done, th, he => by
  have hlen : acc.length = done.length + rest.length + 1 := by simp [he]; omega
  have h1 : decide ((done.length : Int) < (acc.length : Int)) = true := by simp; omega
  have h2 : decide (0 ≤ (done.length : Int)) = true := by simp
  have hw : IntKind.wrap .i64 ((done.length : Int) + 1) = ((done ++ [y]).length : Nat) := by rw [Kcp (by omega) (by omega)]; simp
  rw [show (y :: rest).length + 1 = (rest.length + 1) + 1 from rfl, LF]
  simp only [Kc6, h1, h2, bx_t, hw, Bool.and_true]
  cases th with
  | true =>
   rw [Bool.not_true, bx_f, Wuh f0 acc h4 hl Lc u v op name n m nums fk fi ff fr fo kids κ rest (done ++ [y]) true (by simp [he])]
   simp
  | false =>
   rw [Bool.not_false, bx_t, ld_s, show 0 + Int.toNat (done.length : Int) * 10 + 0 = done.length * 10 by simp, knth he (h4 y (by simp [he]))]
   show LF (Kc6 f0) (rest.length + 1) (.h1 acc.length (ByteArray.toList y.nam == name.toList) (done ++ [y]).length Lc u v (Kza acc) op name n m nums fk fi ff fr fo kids) κ = _
   rw [tle, Wuh f0 acc h4 hl Lc u v op name n m nums fk fi ff fr fo kids κ rest (done ++ [y]) _ (by simp [he]), List.any_cons, Bool.false_or]
theorem Wqx (op : W4w) : (op.toList == ByteArray.toList (⟨#[107, 110, 111, 98]⟩)) = (op.toList == [107, 110, 111, 98]) := by rw [show ByteArray.toList (⟨#[107, 110, 111, 98]⟩) = [107, 110, 111, 98] from tl _]
theorem Wb3 (f0 : W2d) (L : List BT) (hl : L.length < 9223372036854775807) (h4 : ∀ x ∈ L, isK x = true → four x) (κ : W3n) :
  ∀ (rest done acc : List BT), L = done ++ rest → (∀ y ∈ acc, four y) → Kh7 (acc.length + rest.length) → LF (Kc7 f0) (rest.length + 1) (.h1 acc.length (L.map BT.cells) (L.length : Nat) done.length (Kza acc)) κ = κ.2 (nub acc (rest.filter isK)).length (Kza (nub acc (rest.filter isK)))
 | [], done, acc, he, ha, hb => by
  rw [List.filter_nil, nub]
  simp only [LF, Kc7]
  have : decide ((done.length : Int) < (L.length : Int)) = false := by simp [he]
  rw [this, bx_f]
 | x :: rest, done, acc, he, ha, hb => by
  have hlen : L.length = done.length + rest.length + 1 := by simp [he]; omega
  have h1 : decide ((done.length : Int) < (L.length : Int)) = true := by simp; omega
  have h2 : decide (0 ≤ (done.length : Int)) = true := by simp
  have h3 : (L.map BT.cells)[Int.toNat (done.length : Int)]? = some x.cells := by simp [he]
  have hw : IntKind.wrap .i64 ((done.length : Int) + 1) = ((done ++ [x]).length : Nat) := by rw [Kcp (by omega) (by omega)]; simp
  rw [show (x :: rest).length + 1 = (rest.length + 1) + 1 from rfl, LF]
  simp only [Kc7, h1, h2, h3, bx_t, optE, Kmb, hw]
  have hf : Kh7 (acc.length + 1) := by unfold Kh7 at *; simp at hb; omega
  have ihN := Wb3 f0 L hl h4 κ rest (done ++ [x]) acc (by simp [he]) ha (by unfold Kh7 at *; simp at hb; omega)
  have hfour := h4 x (by simp [he])
  rw [List.filter_cons]
  have hop : isK x = true ∨ isK x = false := by cases isK x <;> simp
  rcases hop with hk | hk
  ·have hfo := hfour hk
   have ihS := Wb3 f0 L hl h4 κ rest (done ++ [x]) (acc ++ [x]) (by simp [he]) (fun y hy => by
    rcases List.mem_append.1 hy with hy | hy
    ·exact ha y hy
    ·rw [List.mem_singleton.1 hy]; exact hfo) (by unfold Kh7 at *; simp at hb ⊢; omega)
   obtain ⟨a, b, c, d, hx⟩ := hfo
   have hkc : knc x = [.val (.string x.nam), .val (.int .i64 a.1), .val (.int .i64 a.2), .val (.int .i64 b.1), .val (.int .i64 b.2), .val (.int .i64 c.1), .val (.int .i64 c.2), .val (.int .i64 d.1), .val (.int .i64 d.2), .val (.bool false)] := by unfold knc; rw [hx]
   rw [Wg7, show Kza [x] = knc x from List.append_nil _, hkc, show (acc ++ [x]).length = acc.length + 1 from by simp] at ihS
   rw [if_pos hk, nub]
   obtain ⟨op, name, n, m, nums, fk, fi, ff, fr, fo, kids⟩ := x
   have hx' : nums = [a, b, c, d] := hx
   subst hx'
   have hk' : (op.toList == [107, 110, 111, 98]) = true := hk
   simp only [BT.call, Wqx, hk', Bool.not_true, bx_f]
   have hin := fun κ => Wuh f0 acc ha (by unfold Kh7 at hf; omega) (L.map BT.cells) (L.length : Nat) done.length op name n m (List.map qpc [a, b, c, d]) fk fi ff fr fo (BT.cellsL kids) κ acc [] false rfl
   have hφ : Kd9 (Ka4.h1 acc.length false 0 (L.map BT.cells) (L.length : Nat) done.length (Kza acc) op name n m (List.map qpc [a, b, c, d]) fk fi ff fr fo (BT.cellsL kids)) = acc.length + 1 := by simp [Kd9]
   rw [hφ]
   refine Eq.trans (hin _) ?_
   simp only [Bool.false_or]
   have hnm : (BT.mk op name n m [a, b, c, d] fk fi ff fr fo kids).nam = name := rfl
   rw [hnm]
   have q0 : (List.map qpc [a, b, c, d])[Int.toNat 0]? = some (qpc a) := rfl
   have q1 : (List.map qpc [a, b, c, d])[Int.toNat 1]? = some (qpc b) := rfl
   have q2 : (List.map qpc [a, b, c, d])[Int.toNat 2]? = some (qpc c) := rfl
   have q3 : (List.map qpc [a, b, c, d])[Int.toNat 3]? = some (qpc d) := rfl
   cases acc.any (fun y => Krz y.nam name) with
   | true =>
    rw [Bool.not_true, bx_f, cond_true]
    rw [hw]
    exact ihN
   | false =>
    simp only [Bool.not_false, bx_t, cond_false, q0, q1, q2, q3, optE, ld_q]
    rw [Wug (K0i acc) hf, bx_t, List.take_of_length_le (by rw [K0i]; omega), hw]
    exact ihS
  ·rw [if_neg (by rw [hk]; simp)]
   obtain ⟨op, name, n, m, nums, fk, fi, ff, fr, fo, kids⟩ := x
   have hk' : (op.toList == [107, 110, 111, 98]) = false := hk
   simp only [BT.call, Wqx, hk', Bool.not_false, bx_t]
   exact ihN
theorem Wg8 (f0 : W2d) (L : List BT) (hl : L.length < 9223372036854775807) (h4 : ∀ x ∈ L, isK x = true → four x) (κ : W3n) :
  ∀ (rest done : List BT), L = done ++ rest → Kh7 rest.length → LF (Kc7 f0) (rest.length + 1) (.h0 (L.map BT.cells) (L.length : Nat) done.length) κ = Wqv κ (nub [] (rest.filter isK))
 | [], done, he, hb => by
  rw [List.filter_nil, nub]
  simp only [LF, Kc7]
  have : decide ((done.length : Int) < (L.length : Int)) = false := by simp [he]
  rw [this, bx_f]; rfl
 | x :: rest, done, he, hb => by
  have hlen : L.length = done.length + rest.length + 1 := by simp [he]; omega
  have h1 : decide ((done.length : Int) < (L.length : Int)) = true := by simp; omega
  have h2 : decide (0 ≤ (done.length : Int)) = true := by simp
  have h3 : (L.map BT.cells)[Int.toNat (done.length : Int)]? = some x.cells := by simp [he]
  have hw : IntKind.wrap .i64 ((done.length : Int) + 1) = ((done ++ [x]).length : Nat) := by rw [Kcp (by omega) (by omega)]; simp
  rw [show (x :: rest).length + 1 = (rest.length + 1) + 1 from rfl, LF]
  simp only [Kc7, h1, h2, h3, bx_t, optE, Kmb, hw]
  have ihN := Wg8 f0 L hl h4 κ rest (done ++ [x]) (by simp [he]) (by unfold Kh7 at *; simp at hb; omega)
  have hfour := h4 x (by simp [he])
  rw [List.filter_cons]
  have hop : isK x = true ∨ isK x = false := by cases isK x <;> simp
  rcases hop with hk | hk
  ·have hfo := hfour hk
   have ihS := Wb3 f0 L hl h4 κ rest (done ++ [x]) [x] (by simp [he]) (fun y hy => by rw [List.mem_singleton.1 hy]; exact hfo) (by unfold Kh7 at *; simp at hb ⊢; omega)
   obtain ⟨a, b, c, d, hx⟩ := hfo
   have hkc : knc x = [.val (.string x.nam), .val (.int .i64 a.1), .val (.int .i64 a.2), .val (.int .i64 b.1), .val (.int .i64 b.2), .val (.int .i64 c.1), .val (.int .i64 c.2), .val (.int .i64 d.1), .val (.int .i64 d.2), .val (.bool false)] := by unfold knc; rw [hx]
   rw [show Kza [x] = knc x from List.append_nil _, hkc] at ihS
   rw [if_pos hk, show nub [] (x :: rest.filter isK) = nub [x] (rest.filter isK) from rfl, Wmo (Wqw _ [x] (by simp)), ← ihS]
   obtain ⟨op, name, n, m, nums, fk, fi, ff, fr, fo, kids⟩ := x
   have hx' : nums = [a, b, c, d] := hx
   subst hx'
   have hk' : (op.toList == [107, 110, 111, 98]) = true := hk
   simp only [BT.call, Wqx, hk', Bool.not_true, bx_f]
   rw [show Kd9 (Ka4.h0 false 0 (L.map BT.cells) (L.length : Nat) done.length op name n m (List.map qpc [a, b, c, d]) fk fi ff fr fo (BT.cellsL kids)) = 0 + 1 from rfl, LF]
   simp only [Kc6]
   rw [show decide ((0 : Int) < 0) = false from rfl, bx_f, Bool.not_false, bx_t]
   rw [← hw]
   rfl
  ·rw [if_neg (by rw [hk]; simp)]
   obtain ⟨op, name, n, m, nums, fk, fi, ff, fr, fo, kids⟩ := x
   have hk' : (op.toList == [107, 110, 111, 98]) = false := hk
   simp only [BT.call, Wqx, hk', Bool.not_false, bx_t]
   exact ihN
end Go.Proofs.YtgohccjmphapfaaGreatDoor
end

noncomputable section
namespace Go.Proofs.YtgohccjmphapfaaGreatDoor
open Go Go.Pv Go.RowKit
theorem Ww1 : ∀ {X : List (Int × Int)}, ctl X = true → ∃ a b c d, X = [a, b, c, d]
 | [a, b, c, d], _ => ⟨a, b, c, d, rfl⟩
 | [], h => by cases h
 | [_], h => by cases h
 | [_, _], h => by cases h
 | [_, _, _], h => by cases h
 | _ :: _ :: _ :: _ :: _ :: _, h => by cases h
theorem Woy {x : BT} (h : x.vld = true) (hk : isK x = true) : four x := by
 obtain ⟨op, name, n, m, nums, fk, fi, ff, fr, fo, kids⟩ := x
 rw [BT.vld, Bool.and_eq_true] at h
 have h := h.1
 have hop : op.toList = [107, 110, 111, 98] := by
  have : (op.toList == [107, 110, 111, 98]) = true := hk
  exact eq_of_beq this
 cases hs : shp op.toList with
 | none => rw [hs] at h; cases h
 | some s =>
  rw [hs] at h
  simp only [askO, Bool.and_eq_true, ask] at h
  obtain ⟨_, h1, _, _, _, _, _, _, h8⟩ := h
  rw [hop] at h8
  exact Ww1 h8
def BT.knb (b : BT) : List BT × Int := bif b.prt.2.2 != 0 then ([], b.prt.2.2) else (nub [] (b.pre.filter isK), 0)
theorem Wmp (k : W3x) (l : List BT) : Wqv (k [] 0, fun z w => bx (Nat.ble (0 + z * 10) (w.length)) (k (Kcy 10 z (List.drop 0 w)) 0) none) l = k (l.map knc) 0 := by
 cases l with
 | nil => rfl
 | cons q r =>
  show bx (Nat.ble (0 + (q :: r).length * 10) (List.length (Kza (q :: r)))) _ _ = _
  rw [Kpa (by rw [K0i]; omega), bx_t, List.drop_zero]
  exact congrArg (fun z => k z 0) (Wuf _)
theorem Woz {b : BT} (h : (b.prt.2.2 != 0) = false) : b.vld = true := by
 cases hv : b.vld with
 | true => rfl
 | false => unfold BT.prt at h; rw [hv] at h; cases h
theorem Wsf (N : Nat) (b : BT) (hok : b.ok) (hd : 4 * b.depth ≤ N) (hf : Kh7 b.pre.length) (k : W3x) : b.call (Kw6 N) k = k (b.knb.1.map knc) b.knb.2 := by
 have h1 := Weg N b hok hd hf
 have h2 := K22 N ⟨#[107, 110, 111, 98]⟩ N b hok (by omega) hf
 rw [W07] at h2
 unfold BT.knb
 have hfS : Kh7 (b.pre.filter isK).length := by
  have := List.length_filter_le isK b.pre
  unfold Kh7 at *; omega
 have hfour : (b.prt.2.2 != 0) = false → ∀ x ∈ b.pre.filter isK, four x := fun h x hx => by
  obtain ⟨h3, h4⟩ := List.mem_filter.1 hx
  exact Woy (BT.pre_vld b (Woz h) x h3) h4
 obtain ⟨op, name, n, m, nums, fk, fi, ff, fr, fo, kids⟩ := b
 have h1' : ∀ k : Int → Int → Int → Option DV, Khr N op name n m (nums.map qpc) fk fi ff fr fo (BT.cellsL kids) k = app3 (BT.mk op name n m nums fk fi ff fr fo kids).prt k := h1
 have h2' : ∀ k : List (List DV) → Option DV, Keb N ⟨#[107, 110, 111, 98]⟩ op name n m (nums.map qpc) fk fi ff fr fo (BT.cellsL kids) k = k (((BT.mk op name n m nums fk fi ff fr fo kids).pre.filter isK).map BT.cells) := h2
 show K2t (Keb N) (Khr N) op name n m (nums.map qpc) fk fi ff fr fo (BT.cellsL kids) k = _
 unfold K2t
 rw [h1', app3]
 cases hc : ((BT.mk op name n m nums fk fi ff fr fo kids).prt.2.2 != 0) with
 | true => simp [bx_t]
 | false =>
  rw [bx_f, h2']
  have hφ : Kp2 (Kdm.h0 (((BT.mk op name n m nums fk fi ff fr fo kids).pre.filter isK).map BT.cells) ((List.length (((BT.mk op name n m nums fk fi ff fr fo kids).pre.filter isK).map BT.cells) : Nat) : Int) 0 ([] : List (ByteArray × DV))) = ((BT.mk op name n m nums fk fi ff fr fo kids).pre.filter isK).length + 1 := by simp [Kp2]
  rw [hφ, List.length_map]
  exact Eq.trans (Ww0 _ _ _ hfS (hfour hc) _) (Wmp k _)
theorem Wui (N : Nat) (b : BT) (hok : b.ok) (hnk : b.nok) (hd : b.depth ≤ N) (hf : Kh7 b.pre.length) (k : W3x) : b.call (Kh8 N) k = k (b.knb.1.map knc) b.knb.2 := by
 have h1 := Wg6 N b hok hnk hd hf
 have h2 := Wc6 N N b hok hd hf
 unfold BT.knb
 have hfour : (b.prt.2.2 != 0) = false → ∀ x ∈ b.pre, isK x = true → four x := fun h x hx hk => Woy (BT.pre_vld b (Woz h) x hx) hk
 obtain ⟨op, name, n, m, nums, fk, fi, ff, fr, fo, kids⟩ := b
 have h1' : ∀ k : Int → Int → Int → Option DV, Kcb N op name n m (nums.map qpc) fk fi ff fr fo (BT.cellsL kids) k = app3 (BT.mk op name n m nums fk fi ff fr fo kids).prt k := h1
 have h2' : ∀ k : List (List DV) → Option DV, Kbv N op name n m (nums.map qpc) fk fi ff fr fo (BT.cellsL kids) k = k ((BT.mk op name n m nums fk fi ff fr fo kids).pre.map BT.cells) := h2
 show Knm (Kmm N) (Kcb N) op name n m (nums.map qpc) fk fi ff fr fo (BT.cellsL kids) k = _
 unfold Knm
 rw [h1', app3]
 cases hc : ((BT.mk op name n m nums fk fi ff fr fo kids).prt.2.2 != 0) with
 | true => simp [bx_t]
 | false =>
  rw [bx_f]
  show Kkv (Kbv N) op name n m (nums.map qpc) fk fi ff fr fo (BT.cellsL kids) (fun r4 => k r4 0) = _
  unfold Kkv
  rw [h2']
  have hφ : Kgl (Kar.h0 ((BT.mk op name n m nums fk fi ff fr fo kids).pre.map BT.cells) ((List.length ((BT.mk op name n m nums fk fi ff fr fo kids).pre.map BT.cells) : Nat) : Int) 0) = (BT.mk op name n m nums fk fi ff fr fo kids).pre.length + 1 := by simp [Kgl]
  rw [hφ, List.length_map]
  exact Eq.trans (Wg8 _ _ (K2z hf) (hfour hc) _ (BT.mk op name n m nums fk fi ff fr fo kids).pre [] rfl hf) (Wmp k _)
end Go.Proofs.YtgohccjmphapfaaGreatDoor
end
