/-
  Copies of diagrams, in memory of their own.
-/
import Derived.Test.YtdfhakhapblhgaaFt
set_option linter.all false
namespace Go.Pv
open Go Go.RowKit
theorem flatten_get {α : Type} {sz : Nat} : ∀ (es : List (List α)) (i j : Nat) (e : List α), (∀ x ∈ es, x.length = sz) → es[i]? = some e → j < sz → es.flatten[i * sz + j]? = e[j]?
  | [], i, j, e, _, h, _ => by simp at h
  | x :: es, 0, j, e, hl, h, hj => by
    simp only [List.getElem?_cons_zero, Option.some.injEq] at h
    subst h
    have := hl x (by simp)
    simp only [List.flatten_cons, Nat.zero_mul, Nat.zero_add]
    rw [List.getElem?_append_left (by omega)]
  | x :: es, i + 1, j, e, hl, h, hj => by
    simp only [List.getElem?_cons_succ] at h
    have hx := hl x (by simp)
    simp only [List.flatten_cons]
    rw [List.getElem?_append_right (by rw [hx, Nat.add_mul]; omega), hx, show (i + 1) * sz + j - sz = i * sz + j by rw [Nat.add_mul]; omega]
    exact flatten_get es i j e (fun y hy => hl y (by simp [hy])) h hj
/-- What a copy of a slice is. -/
theorem clone_calls {P : Program} {g : FuncId} {e : TypeId} {sz by' : Nat} (hsz : 1 ≤ sz) (h : CloneIs P g e sz by') {es : List (List DV)} (hc : es ≠ [] → cloneOk by' es = true) {U : Nat → Prop} {w : World} {v : Value} (hU : ∀ k, U k → k < w.heap.size) (hv : DRep U w (.lst sz es) v) :
    Calls P g #[v] w fun x w' => ∃ v', x = .returned v' ∧ Below w.heap.size w w' ∧ ((es = [] ∧ ∃ a c, v' = .slice a 0 c) ∨ (es ≠ [] ∧ ∃ kb c cur, v' = .slice (some ⟨kb, 0, none⟩) es.length c ∧ w.heap.size ≤ kb ∧ w'.heap[kb]? = some (.cells cur e (0, 0)) ∧ es.length * sz ≤ cur.size ∧ es.length ≤ c ∧ c ≤ maxLen ∧
      ∀ (i : Nat) (x : DV) (u : Value), es.flatten[i]? = some x → cur[i]? = some u → DRep U w x u ∧ u.oneCell' = true)) := by
  cases hn : es with
  | nil =>
    subst hn
    have go : ∀ a c, Calls P g #[.slice a 0 c] w fun x w' => ∃ v', x = .returned v' ∧ Below w.heap.size w w' ∧ ((([] : List (List DV)) = [] ∧ ∃ a c, v' = .slice a 0 c) ∨ (([] : List (List DV)) ≠ [] ∧ ∃ kb c cur, v' = .slice (some ⟨kb, 0, none⟩) ([] : List (List DV)).length c ∧ w.heap.size ≤ kb ∧ w'.heap[kb]? = some (.cells cur e (0, 0)) ∧ ([] : List (List DV)).length * sz ≤ cur.size ∧ ([] : List (List DV)).length ≤ c ∧ c ≤ maxLen ∧
        ∀ (i : Nat) (x : DV) (u : Value), ([] : List (List DV)).flatten[i]? = some x → cur[i]? = some u → DRep U w x u ∧ u.oneCell' = true)) := by
      intro a c
      cases a with
      | none =>
        refine (h.nil 0 c w).mono fun x w' hx => ?_
        obtain ⟨rfl, rfl⟩ := hx
        exact ⟨_, rfl, Below.refl _ _, .inl ⟨rfl, _, _, rfl⟩⟩
      | some a =>
        refine (h.row a 0 c [] w (by simp) (fun j u hu => by simp at hu) (fun u hu => by cases hu) (Nat.zero_le _) (by simp)).mono fun x w' hx => ?_
        obtain ⟨v', rfl, hown, hne, hb⟩ := hx
        rcases hown.2 with ⟨rfl, _⟩ | ⟨g', cap, cur, rfl, _⟩
        · exact absurd rfl hne
        · exact ⟨_, rfl, hb, .inl ⟨rfl, _, _, rfl⟩⟩
    cases hv with
    | nil => exact go _ _
    | lst _ _ _ _ _ _ => exact go _ _
  | cons e0 es0 =>
    rw [← hn]
    have hne0 : es ≠ [] := by rw [hn]; simp
    have hcc := hc hne0
    have hpos : 1 ≤ es.length := by rw [hn]; simp
    clear hn
    simp only [cloneOk, Bool.and_eq_true] at hcc
    obtain ⟨⟨h1, h2⟩, h3⟩ := hcc
    have hW : WRel (fun _ => none) U (fun _ => False) w [] w := ⟨Keeps.refl, hU, (fun b k h => by cases h), (fun b k vs h => by cases h), (fun b k vs h => by cases h), (fun b vs h => by simp at h), (fun b b' k vs vs' h => by simp at h)⟩
    obtain ⟨ad, cp, rfl, news, l1, l2, hcells, hone, hrep⟩ := newsD_ok (H := []) (sz := sz) (m := es.length) (ns := es.flatten) (x := .dv (.lst sz es)) (by simp [newsD]) hpos hsz h1 hW (Compat.refl _) hv
    refine (h.row ad es.length cp news w l1 hcells hone (Nat.le_of_ble_eq_true h2) (Nat.le_of_ble_eq_true h3)).mono fun x w' hx => ?_
    obtain ⟨v', rfl, hown, hne, hb⟩ := hx
    rcases hown.2 with ⟨rfl, _⟩ | ⟨g', cap, cur, rfl, hge, hblk, hnc, hmx, hcs, htake⟩
    · exact absurd rfl hne
    · have hcap : es.length * sz ≤ cur.size := by rw [hcs]; exact Nat.mul_le_mul_right _ hnc
      refine ⟨_, rfl, hb, .inr ⟨hne0, g', cap, cur, rfl, hge, hblk, hcap, hnc, hmx, ?_⟩⟩
      intro i x u hx hu
      have hi : i < es.length * sz := by have := (List.getElem?_eq_some_iff.1 hx).1; omega
      have hnu : news[i]? = some u := by
        rw [← htake, List.getElem?_take_of_lt hi, Array.getElem?_toList]
        exact hu
      exact ⟨hrep i x u hx hnu, hone u (List.mem_of_getElem? hnu)⟩
end Go.Pv
namespace Go.Pv
open Go Go.RowKit
theorem DRep.alloc_ {U : Nat → Prop} {w : World} {d : DV} {v : Value} (h : DRep U w d v) (hU : ∀ k, U k → k < w.heap.size) (o : Obj) : DRep U (w.alloc o) d v :=
  h.keep (fun _ h => h) (fun k hk => Below.heap_alloc _ _ _ (hU k hk)) (by simp)
theorem DRep.below_ {U : Nat → Prop} {w w' : World} {d : DV} {v : Value} (h : DRep U w d v) (hU : ∀ k, U k → k < w.heap.size) (hb : Below w.heap.size w w') : DRep U w' d v :=
  h.keep (fun _ h => h) (fun k hk => hb.block k (hU k hk)) hb.size
theorem heap_setCell (w : World) (b o : Nat) (v : Value) (k : Nat) : (w.setCell ⟨b, o, none⟩ v).heap[k]? = if k = b then (w.heap[b]?).map (fun x => match x with | .cells c e f => .cells (c.setIfInBounds o v) e f | y => y) else w.heap[k]? := by
  simp only [World.setCell, Array.getElem?_modify]
  by_cases h : b = k
  · subst h
    simp only [if_true, Option.isSome_none, Bool.false_eq_true, if_false]
    cases w.heap[b]? with
    | none => rfl
    | some x => cases x <;> rfl
  · simp [h, Ne.symm h]
theorem heap_setCell_ne (w : World) (b o : Nat) (v : Value) {k : Nat} (h : k ≠ b) : (w.setCell ⟨b, o, none⟩ v).heap[k]? = w.heap[k]? := by rw [heap_setCell, if_neg h]
theorem heap_setCell_eq {w : World} {b o : Nat} {v : Value} {c : Array Value} {e : TypeId} {f : Nat × Nat} (h : w.heap[b]? = some (.cells c e f)) : (w.setCell ⟨b, o, none⟩ v).heap[b]? = some (.cells (c.setIfInBounds o v) e f) := by rw [heap_setCell, if_pos rfl, h]; rfl
theorem heap_alloc2 (w : World) (o o' : Obj) : ((w.alloc o).alloc o').heap[w.heap.size + 1]? = some o' := by
  rw [show w.heap.size + 1 = (w.alloc o).heap.size from by simp]
  exact heap_alloc_new _ _
theorem on_below' {n : Nat} {w W w1 : World} (h : Below W.heap.size W w1) (h2 : Below n w W) (hn : n ≤ W.heap.size) : Below n w w1 := h2.trans (h.mono hn)
theorem frep_flat {U : Nat → Prop} {w : World} {sz b c : Nat} {es : List (List DV)} {cur : Array Value} {T : TypeId} (h : w.heap[b]? = some (.cells cur T (0, 0))) (hs : es.length * sz ≤ cur.size) (hc : es.length ≤ c) (hl : ∀ e ∈ es, e.length = sz)
    (hv : ∀ e ∈ es, ∀ x ∈ e, ∃ v, x = DV.val v) (hr : ∀ (i : Nat) (x : DV) (u : Value), es.flatten[i]? = some x → cur[i]? = some u → DRep U w x u) : FRep w (fun k => k = b) (.lst sz es) (.slice (some ⟨b, 0, none⟩) es.length c) := by
  have key : ∀ i j e x, es[i]? = some e → e[j]? = some x → ∃ v, cur[i * sz + j]? = some v ∧ x = .val v := by
    intro i j e x e1 e2
    have he := hl e (List.mem_of_getElem? e1)
    have hj : j < sz := by have := (List.getElem?_eq_some_iff.1 e2).1; omega
    have hi : i < es.length := (List.getElem?_eq_some_iff.1 e1).1
    have hlt : i * sz + j < cur.size := by
      have : (i + 1) * sz ≤ es.length * sz := Nat.mul_le_mul_right sz hi
      rw [Nat.add_mul] at this; omega
    obtain ⟨v, rfl⟩ := hv e (List.mem_of_getElem? e1) x (List.mem_of_getElem? e2)
    have := hr (i * sz + j) _ cur[i * sz + j] ((flatten_get es i j e hl e1 hj).trans e2) (Array.getElem?_eq_getElem hlt)
    cases this
    exact ⟨_, Array.getElem?_eq_getElem hlt, rfl⟩
  refine .lst (G := fun _ _ _ => False) (g := fun i j => (cur[i * sz + j]?).getD undef) rfl h hs hc hl (fun i j e x e1 e2 => ?_) (fun i j e x e1 e2 => ?_) (fun _ _ _ h => h.elim) (fun _ _ _ _ _ h => h.elim)
  · obtain ⟨v, g, _⟩ := key i j e x e1 e2; simp [g]
  · obtain ⟨v, g, rfl⟩ := key i j e x e1 e2; simp only [g, Option.getD_some]; exact .val v
theorem lst_slice {U : Nat → Prop} {w : World} {sz : Nat} {es : List (List DV)} {v : Value} (h : DRep U w (.lst sz es) v) : ∃ a n c, v = .slice a n c := by cases h <;> exact ⟨_, _, _, rfl⟩
theorem keeps_setCell {N : Nat → Prop} {a w : World} (h : Keeps N a w) {b o : Nat} (hb : ¬ N b) (v : Value) : Keeps N a (w.setCell ⟨b, o, none⟩ v) :=
  h.trans ⟨rfl, rfl, rfl, Nat.le_of_eq (by simp [World.setCell]), fun k hk => heap_setCell_ne _ _ _ _ (fun e => hb (e ▸ hk))⟩
theorem size_setCell (w : World) (a : Addr) (v : Value) : (w.setCell a v).heap.size = w.heap.size := by simp [World.setCell]
end Go.Pv
namespace Go.Proofs.Ytdfhakhapblhgaa
open Go Go.Pv Go.RowKit
theorem cf_one (b : BT) : b.cells.all oneCellD = true := by cases b; rfl
theorem cf_flat : ∀ l : List BT, (BT.cellsL l).flatten.all oneCellD = true
  | [] => rfl
  | b :: l => by simp only [BT.cellsL, List.flatten_cons, List.all_append, cf_one, cf_flat l, Bool.and_self]
theorem cf_nums : ∀ l : List (Int × Int), (l.map qpc).flatten.all oneCellD = true
  | [] => rfl
  | q :: l => by simp only [List.map_cons, List.flatten_cons, List.all_append, cf_nums l, Bool.and_true]; rfl
theorem cf_len (kids : List BT) : ∀ e ∈ BT.cellsL kids, e.length = 11 := by
  intro e he; rw [BT.cellsL_eq] at he; obtain ⟨b, _, rfl⟩ := List.mem_map.1 he; exact b.cells_len
theorem cf_reach : reachBytes ≤ 140737488355328 := by decide
theorem cf_kids {kids : List BT} (h : kids.length * 160 ≤ reachBytes) : cloneOk 160 (BT.cellsL kids) = true := by
  have := cf_reach
  have hl : (BT.cellsL kids).length = kids.length := by simp [BT.cellsL_eq]
  simp only [cloneOk, cf_flat, hl, Bool.true_and, Bool.and_eq_true]
  exact ⟨Nat.ble_eq_true_of_le (by unfold maxLen; omega), Nat.ble_eq_true_of_le (by omega)⟩
theorem cf_okn {nums : List (Int × Int)} (h : nums.length * 16 ≤ reachBytes) : cloneOk 16 (nums.map qpc) = true := by
  have := cf_reach
  simp only [cloneOk, cf_nums, List.length_map, Bool.true_and, Bool.and_eq_true]
  exact ⟨Nat.ble_eq_true_of_le (by unfold maxLen; omega), Nat.ble_eq_true_of_le (by omega)⟩
theorem fvals_tree {w : World} {F : Nat → Prop} {op name fk fr fo : ByteArray} {n m fi ff : Int} {nums : List (Int × Int)} {kids : List BT} {vs : List Value} (h : FVals w F (BT.mk op name n m nums fk fi ff fr fo kids).cells vs) :
    ∃ a4 n4 c4 a10 n10 c10, vs = [.string op, .string name, .int .i64 n, .int .i64 m, .slice a4 n4 c4, .string fk, .int .i64 fi, .int .i64 ff, .string fr, .string fo, .slice a10 n10 c10] := by
  obtain ⟨hl, G, h1, _, _⟩ := h
  match vs, hl with
  | [v0, v1, v2, v3, v4, v5, v6, v7, v8, v9, v10], _ =>
    have g0 := h1 0 _ v0 rfl rfl
    have g1 := h1 1 _ v1 rfl rfl
    have g2 := h1 2 _ v2 rfl rfl
    have g3 := h1 3 _ v3 rfl rfl
    have g4 := (h1 4 _ v4 rfl rfl).drep (U := fun _ => True) (fun _ _ => trivial)
    have g5 := h1 5 _ v5 rfl rfl
    have g6 := h1 6 _ v6 rfl rfl
    have g7 := h1 7 _ v7 rfl rfl
    have g8 := h1 8 _ v8 rfl rfl
    have g9 := h1 9 _ v9 rfl rfl
    have g10 := (h1 10 _ v10 rfl rfl).drep (U := fun _ => True) (fun _ _ => trivial)
    obtain ⟨a4, n4, c4, rfl⟩ := lst_slice g4
    obtain ⟨a10, n10, c10, rfl⟩ := lst_slice g10
    cases g0; cases g1; cases g2; cases g3; cases g5; cases g6; cases g7; cases g8; cases g9
    exact ⟨_, _, _, _, _, _, rfl⟩
end Go.Proofs.Ytdfhakhapblhgaa
