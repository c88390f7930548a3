/-
  Trees in memory of their own: each part where nothing else stands.
-/
import Derived.Test.YtdfhakhapblhgaaAt
set_option linter.all false
namespace Go.Pv
open Go Go.RowKit

/-- That a value stands for it, in memory in which nothing else stands. -/
inductive FRep (w : World) : (Nat → Prop) → DV → Value → Prop
  | val {F : Nat → Prop} (v : Value) : FRep w F (.val v) v
  | nil {F : Nat → Prop} {sz c : Nat} {a : Option Addr} : FRep w F (.lst sz []) (.slice a 0 c)
  | lst {F : Nat → Prop} {G : Nat → Nat → Nat → Prop} {sz b c : Nat} {es : List (List DV)} {g : Nat → Nat → Value} {cur : Array Value} {T : TypeId} :
      F b → w.heap[b]? = some (.cells cur T (0, 0)) → es.length * sz ≤ cur.size → es.length ≤ c → (∀ e ∈ es, e.length = sz) →
      (∀ i j e x, es[i]? = some e → e[j]? = some x → cur[i * sz + j]? = some (g i j)) →
      (∀ i j e x, es[i]? = some e → e[j]? = some x → FRep w (G i j) x (g i j)) →
      (∀ i j k, G i j k → F k ∧ k ≠ b) → (∀ i j i' j' k, G i j k → G i' j' k → i = i' ∧ j = j') →
      FRep w F (.lst sz es) (.slice (some ⟨b, 0, none⟩) es.length c)
theorem FRep.keep {w w' : World} {F F' : Nat → Prop} {d : DV} {v : Value} (h : FRep w F d v) (hF : ∀ k, F k → F' k) (hk : ∀ k, F k → w'.heap[k]? = w.heap[k]?) : FRep w' F' d v := by
  induction h generalizing F' with
  | val v => exact .val v
  | nil => exact .nil
  | lst h1 h2 h3 h4 h5 h6 _ h8 h9 ih =>
    exact .lst (hF _ h1) (by rw [hk _ h1]; exact h2) h3 h4 h5 h6 (fun i j e x e1 e2 => ih i j e x e1 e2 (F' := _) (fun k hk => hk) (fun k hg => hk k (h8 i j k hg).1)) (fun i j k hg => ⟨hF k (h8 i j k hg).1, (h8 i j k hg).2⟩) h9
theorem FRep.drep {w : World} {F U : Nat → Prop} {d : DV} {v : Value} (h : FRep w F d v) (hF : ∀ k, F k → U k) : DRep U w d v := by
  induction h with
  | val v => exact .val v
  | nil => exact .nil
  | lst h1 h2 h3 h4 h5 h6 _ h8 h9 ih =>
    refine .lst (off := 0) (g := ‹Nat → Nat → Value›) (hF _ h1) (lt_of_heap h2) h4 h5 (fun i j e x e1 e2 => ?_) (fun i j e x e1 e2 => ih i j e x e1 e2 (fun k hk => hF k (h8 i j k hk).1))
    have := h6 i j e x e1 e2
    simp [World.cell?, h2, this]
/-- The same of a row of cells in a block. -/
def FCells (w : World) (F : Nat → Prop) (b o : Nat) (cs : List DV) : Prop := ∃ (G : Nat → Nat → Prop) (cur : Array Value) (T : TypeId), w.heap[b]? = some (.cells cur T (0, 0)) ∧ o + cs.length ≤ cur.size ∧
  (∀ (j : Nat) (x : DV), cs[j]? = some x → ∃ v, cur[o + j]? = some v ∧ FRep w (G j) x v) ∧ (∀ j k, G j k → F k ∧ k ≠ b) ∧ ∀ j j' k, G j k → G j' k → j = j'
/-- The same of a struct's cells. -/
def FVals (w : World) (F : Nat → Prop) (cs : List DV) (vs : List Value) : Prop := vs.length = cs.length ∧ ∃ G : Nat → Nat → Prop,
  (∀ (j : Nat) (x : DV) (v : Value), cs[j]? = some x → vs[j]? = some v → FRep w (G j) x v) ∧ (∀ j k, G j k → F k) ∧ ∀ j j' k, G j k → G j' k → j = j'
theorem FVals.keep {w w' : World} {F F' : Nat → Prop} {cs : List DV} {vs : List Value} (h : FVals w F cs vs) (hF : ∀ k, F k → F' k) (hk : ∀ k, F k → w'.heap[k]? = w.heap[k]?) : FVals w' F' cs vs := by
  obtain ⟨h1, G, h2, h3, h4⟩ := h
  exact ⟨h1, G, fun j x v e1 e2 => (h2 j x v e1 e2).keep (fun _ h => h) (fun k hg => hk k (h3 j k hg)), fun j k hg => hF k (h3 j k hg), h4⟩
theorem FCells.keep {w w' : World} {F F' : Nat → Prop} {b o : Nat} {cs : List DV} (h : FCells w F b o cs) (hF : ∀ k, F k → F' k) (hb : w'.heap[b]? = w.heap[b]?) (hk : ∀ k, F k → w'.heap[k]? = w.heap[k]?) : FCells w' F' b o cs := by
  obtain ⟨G, cur, T, h0, h1, h2, h3, h4⟩ := h
  refine ⟨G, cur, T, by rw [hb]; exact h0, h1, fun j x e => ?_, fun j k hg => ⟨hF k (h3 j k hg).1, (h3 j k hg).2⟩, h4⟩
  obtain ⟨v, e1, e2⟩ := h2 j x e
  exact ⟨v, e1, e2.keep (fun _ h => h) (fun k hg => hk k (h3 j k hg).1)⟩
end Go.Pv
namespace Go.Proofs.Ytdfhakhapblhgaa
open Go Go.Pv Go.RowKit
def BT.kids : BT → List BT
  | .mk _ _ _ _ _ _ _ _ _ _ ks => ks
def BT.withKids : BT → List BT → BT
  | .mk a b c d e f g h i j _, ks => .mk a b c d e f g h i j ks
/-- The block at a place. -/
def BT.at : List Int → BT → Option BT
  | [], b => some b
  | k :: L, b => if k < 0 then none else match b.kids[k.toNat]? with
    | some x => BT.at L x
    | none => none
/-- The tree with another block at a place. -/
def BT.put : List Int → BT → BT → Option BT
  | [], _, x => some x
  | k :: L, b, x => if k < 0 then none else match b.kids[k.toNat]? with
    | some y => (BT.put L y x).map fun z => b.withKids (b.kids.set k.toNat z)
    | none => none
theorem cells10 (t : BT) : t.cells[10]? = some (.lst 11 (BT.cellsL t.kids)) := by cases t; rfl
theorem cells_with (t : BT) (ks : List BT) (j : Nat) (hj : j ≠ 10) : (t.withKids ks).cells[j]? = t.cells[j]? := by
  cases t
  simp only [BT.withKids, BT.cells]
  match j with
  | 0 | 1 | 2 | 3 | 4 | 5 | 6 | 7 | 8 | 9 => rfl
  | 10 => exact absurd rfl hj
  | n + 11 => rfl
theorem kids_with (t : BT) (ks : List BT) : (t.withKids ks).kids = ks := by cases t; rfl
theorem cellsL_get (ks : List BT) (i : Nat) : (BT.cellsL ks)[i]? = (ks[i]?).map BT.cells := by rw [BT.cellsL_eq, List.getElem?_map]
/-- A place in a tree in memory of its own: where it stands, and what another block there makes of it. -/
theorem fresh_at (w : World) : ∀ (L : List Int) (t s : BT) (F : Nat → Prop) (b o : Nat), FCells w F b o t.cells → ¬ F b → BT.at L t = some s →
    ∃ (b' o' : Nat) (F' : Nat → Prop), Loc w b o L (some (b', o')) ∧ FCells w F' b' o' s.cells ∧ (∀ k, F' k → F k) ∧ ((b' = b ∧ o' = o) ∨ F b') ∧ ¬ F' b' ∧
      ∀ (w' : World) (F2 : Nat → Prop) (x y : BT), BT.put L t x = some y → (∀ k, k ≠ b' → (F k ∨ k = b) → w'.heap[k]? = w.heap[k]?) →
        (∀ cur T, w.heap[b']? = some (.cells cur T (0, 0)) → ∃ cur', w'.heap[b']? = some (.cells cur' T (0, 0)) ∧ cur'.size = cur.size ∧ ∀ i, (i < o' ∨ o' + 11 ≤ i) → cur'[i]? = cur[i]?) →
        FCells w' F2 b' o' x.cells → (∀ k, F2 k → ¬ F k ∧ k ≠ b) → FCells w' (fun k => F k ∨ F2 k) b o y.cells
  | [], t, s, F, b, o, h, hb, hs => by
    simp only [BT.at, Option.some.injEq] at hs
    subst hs
    refine ⟨b, o, F, .done b o, h, fun _ h => h, .inl ⟨rfl, rfl⟩, hb, ?_⟩
    intro w' F2 x y hy _ _ hx _
    simp only [BT.put, Option.some.injEq] at hy
    subst hy
    exact hx.keep (fun k hk => .inr hk) rfl (fun _ _ => rfl)
  | q :: L, t, s, F, b, o, h, hb, hs => by
    simp only [BT.at] at hs
    by_cases hq : q < 0
    · rw [if_pos hq] at hs; cases hs
    rw [if_neg hq] at hs
    obtain ⟨i, rfl⟩ : ∃ i : Nat, q = i := ⟨q.toNat, by omega⟩
    simp only [Int.toNat_natCast] at hs
    cases hu : t.kids[i]? with
    | none => rw [hu] at hs; cases hs
    | some u =>
    rw [hu] at hs
    simp only [] at hs
    obtain ⟨G, cur, T, c1, c2, c3, c4, c5⟩ := h
    obtain ⟨v, hv, hr⟩ := c3 10 _ (cells10 t)
    have hlen : (BT.cellsL t.kids).length = t.kids.length := by simp [BT.cellsL_eq]
    have hil : i < t.kids.length := (List.getElem?_eq_some_iff.1 hu).1
    generalize hcs : BT.cellsL t.kids = es at hr hlen
    cases hr with
    | nil => simp at hlen; omega
    | lst h1 h2 h3 h4 h5 h6 h7 h8 h9 =>
    rename_i G1 b1 c g cur1 T1
    have hei : es[i]? = some u.cells := by rw [← hcs, cellsL_get, hu]; rfl
    have hF1 : FCells w (fun k => ∃ j, G1 i j k) b1 (i * 11) u.cells := by
      refine ⟨fun j k => G1 i j k, cur1, T1, h2, ?_, fun j x e => ⟨_, h6 i j _ x hei e, h7 i j _ x hei e⟩, fun j k hk => ⟨⟨j, hk⟩, (h8 i j k hk).2⟩, fun j j' k e1 e2 => (h9 i j i j' k e1 e2).2⟩
      have : i < es.length := by omega
      rw [BT.cells_len]
      have : (i + 1) * 11 ≤ es.length * 11 := Nat.mul_le_mul_right 11 this
      omega
    obtain ⟨b', o', F', l1, l2, l3, l4, l5, l6⟩ := fresh_at w L u s _ b1 (i * 11) hF1 (fun ⟨j, hj⟩ => (h8 i j b1 hj).2 rfl) hs
    have inF : ∀ k, (∃ j, G1 i j k) → F k := fun k ⟨j, hj⟩ => (c4 10 k (h8 i j k hj).1).1
    have b1F : F b1 := (c4 10 b1 h1).1
    have b'F : F b' := l4.elim (fun e => e.1 ▸ b1F) (inF _)
    have b'10 : G 10 b' := l4.elim (fun e => e.1 ▸ h1) (fun ⟨j, hj⟩ => (h8 i j _ hj).1)
    have hbb : b ≠ b' := fun e => hb (e ▸ b'F)
    refine ⟨b', o', F', ?_, l2, fun k hk => inF k (l3 k hk), .inr b'F, l5, ?_⟩
    · refine .step (b' := b1) (off := 0) (n := es.length) (c := c) ?_ (by omega) (by simpa using l1)
      simp [World.cell?, c1, hv]
    intro w' F2 x y hy k1 k2 k3 k4
    simp only [BT.put, if_neg hq, Int.toNat_natCast, hu] at hy
    cases hz : BT.put L u x with
    | none => rw [hz] at hy; cases hy
    | some z =>
    rw [hz] at hy
    simp only [Option.map_some, Option.some.injEq] at hy
    subst hy
    have hZ := l6 w' F2 x z hz (fun k hk hk' => k1 k hk (.inl (hk'.elim (inF k) (fun e => e ▸ b1F)))) k2 k3 (fun k hk => ⟨fun h => (k4 k hk).1 (inF k h), fun e => (k4 k hk).1 (e ▸ b1F)⟩)
    obtain ⟨Gz, curz, Tz, z1, z2, z3, z4, z5⟩ := hZ
    have hb1 : ∃ cur1', w'.heap[b1]? = some (.cells cur1' T1 (0, 0)) ∧ cur1'.size = cur1.size ∧ ∀ m, (m < i * 11 ∨ i * 11 + 11 ≤ m) → cur1'[m]? = cur1[m]? := by
      by_cases e : b1 = b'
      · subst e
        rcases l4 with ⟨_, e⟩ | ⟨j, hj⟩
        · subst e; exact k2 cur1 T1 h2
        · exact absurd rfl (h8 i j b1 hj).2
      · exact ⟨cur1, by rw [k1 b1 e (.inl b1F)]; exact h2, rfl, fun _ _ => rfl⟩
    obtain ⟨cur1', m1, m2, m3⟩ := hb1
    rw [z1] at m1
    simp only [Option.some.injEq, Obj.cells.injEq, and_true] at m1
    obtain ⟨rfl, rfl⟩ := m1
    have hlz : (t.withKids (t.kids.set i z)).cells.length = t.cells.length := by rw [BT.cells_len, BT.cells_len]
    have other : ∀ j, j ≠ 10 → ∀ k, G j k → w'.heap[k]? = w.heap[k]? := fun j hj k hk => k1 k (fun e => hj (c5 j 10 k hk (e ▸ b'10))) (.inl (c4 j k hk).1)
    have hes : ∀ m, (BT.cellsL (t.kids.set i z))[m]? = if m = i then some z.cells else es[m]? := by
      intro m
      rw [cellsL_get, List.getElem?_set, ← hcs]
      by_cases e : i = m
      · subst e; simp [hil]
      · rw [if_neg e, if_neg (Ne.symm e), cellsL_get]
    refine ⟨fun j k => if j = 10 then (G 10 k ∨ F2 k) else G j k, cur, T, by rw [k1 b hbb (.inr rfl)]; exact c1, by rw [hlz]; exact c2, ?_, ?_, ?_⟩
    · intro j x' hx'
      by_cases hj : j = 10
      · subst hj
        rw [cells10, kids_with] at hx'
        simp only [Option.some.injEq] at hx'
        subst hx'
        refine ⟨_, hv, ?_⟩
        have hl2 : es.length = (BT.cellsL (t.kids.set i z)).length := by simp [BT.cellsL_eq, hlen]
        have ef : (fun k => if (10 : Nat) = 10 then (G 10 k ∨ F2 k) else G 10 k) = (fun k => G 10 k ∨ F2 k) := by simp
        show FRep w' (fun k => if (10 : Nat) = 10 then (G 10 k ∨ F2 k) else G 10 k) _ _
        rw [ef, hl2]
        refine .lst (G := fun m j k => if m = i then Gz j k else G1 m j k) (g := fun m j => (curz[m * 11 + j]?).getD undef) (.inl h1) z1 (by rw [← hl2, m2]; exact h3) (by rw [← hl2]; exact h4) ?_ ?_ ?_ ?_ ?_
        · intro e he
          obtain ⟨m, hm⟩ := List.getElem?_of_mem he
          rw [cellsL_get] at hm
          cases hk : (t.kids.set i z)[m]? with
          | none => rw [hk] at hm; cases hm
          | some y => rw [hk] at hm; cases hm; exact y.cells_len
        · intro m j e x2 e1 e2
          rw [hes] at e1
          by_cases hm : m = i
          · subst hm
            rw [if_pos rfl] at e1
            cases e1
            obtain ⟨v2, g1, _⟩ := z3 j x2 e2
            simp [g1]
          · rw [if_neg hm] at e1
            have hj11 : j < 11 := by
              have := (List.getElem?_eq_some_iff.1 e2).1
              rw [h5 e (List.mem_of_getElem? e1)] at this
              exact this
            have := h6 m j e x2 e1 e2
            rw [m3 (m * 11 + j) (by
              rcases Nat.lt_or_gt_of_ne hm with h | h
              · left; have : (m + 1) * 11 ≤ i * 11 := Nat.mul_le_mul_right 11 h; omega
              · right; have : (i + 1) * 11 ≤ m * 11 := Nat.mul_le_mul_right 11 h; omega), this]
            rfl
        · intro m j e x2 e1 e2
          rw [hes] at e1
          by_cases hm : m = i
          · subst hm
            rw [if_pos rfl] at e1
            cases e1
            obtain ⟨v2, g1, g2⟩ := z3 j x2 e2
            simp only [g1, Option.getD_some, if_true]
            exact g2
          · rw [if_neg hm] at e1
            have hj11 : j < 11 := by
              have := (List.getElem?_eq_some_iff.1 e2).1
              rw [h5 e (List.mem_of_getElem? e1)] at this
              exact this
            have g1 := h6 m j e x2 e1 e2
            have g2 := h7 m j e x2 e1 e2
            rw [m3 (m * 11 + j) (by
              rcases Nat.lt_or_gt_of_ne hm with h | h
              · left; have : (m + 1) * 11 ≤ i * 11 := Nat.mul_le_mul_right 11 h; omega
              · right; have : (i + 1) * 11 ≤ m * 11 := Nat.mul_le_mul_right 11 h; omega), g1]
            simp only [if_neg hm, Option.getD_some]
            refine g2.keep (fun _ h => h) (fun k hk => k1 k (fun e => ?_) (.inl (c4 10 k (h8 m j k hk).1).1))
            subst e
            rcases l4 with ⟨rfl, _⟩ | ⟨j', hj'⟩
            · exact (h8 m j _ hk).2 rfl
            · exact hm (h9 m j i j' _ hk hj').1
        · intro m j k hk
          by_cases hm : m = i
          · rw [if_pos hm] at hk
            obtain ⟨g1, g2⟩ := z4 j k hk
            refine ⟨g1.imp (fun ⟨j', hj'⟩ => (h8 i j' k hj').1) id, g2⟩
          · rw [if_neg hm] at hk
            exact ⟨.inl (h8 m j k hk).1, (h8 m j k hk).2⟩
        · intro m j m' j' k hk hk'
          by_cases hm : m = i <;> by_cases hm' : m' = i
          · rw [if_pos hm] at hk; rw [if_pos hm'] at hk'
            exact ⟨by omega, z5 j j' k hk hk'⟩
          · rw [if_pos hm] at hk; rw [if_neg hm'] at hk'
            rcases (z4 j k hk).1 with ⟨j2, h⟩ | h
            · exact absurd (h9 i j2 m' j' k h hk').1.symm hm'
            · exact absurd (c4 10 k (h8 m' j' k hk').1).1 (k4 k h).1
          · rw [if_neg hm] at hk; rw [if_pos hm'] at hk'
            rcases (z4 j' k hk').1 with ⟨j2, h⟩ | h
            · exact absurd (h9 i j2 m j k h hk).1.symm hm
            · exact absurd (c4 10 k (h8 m j k hk).1).1 (k4 k h).1
          · rw [if_neg hm] at hk; rw [if_neg hm'] at hk'
            exact h9 m j m' j' k hk hk'
      · rw [cells_with _ _ _ hj] at hx'
        obtain ⟨v2, g1, g2⟩ := c3 j x' hx'
        refine ⟨v2, g1, ?_⟩
        simp only [if_neg hj]
        exact g2.keep (fun _ h => h) (other j hj)
    · intro j k hk
      by_cases hj : j = 10
      · rw [if_pos hj] at hk
        rcases hk with hk | hk
        · exact ⟨.inl (c4 10 k hk).1, (c4 10 k hk).2⟩
        · exact ⟨.inr hk, (k4 k hk).2⟩
      · rw [if_neg hj] at hk
        exact ⟨.inl (c4 j k hk).1, (c4 j k hk).2⟩
    · intro j j' k hk hk'
      by_cases hj : j = 10 <;> by_cases hj' : j' = 10
      · omega
      · rw [if_pos hj] at hk; rw [if_neg hj'] at hk'
        rcases hk with hk | hk
        · exact absurd (c5 10 j' k hk hk').symm hj'
        · exact absurd (c4 j' k hk').1 (k4 k hk).1
      · rw [if_neg hj] at hk; rw [if_pos hj'] at hk'
        rcases hk' with hk' | hk'
        · exact absurd (c5 10 j k hk' hk).symm hj
        · exact absurd (c4 j k hk).1 (k4 k hk').1
      · rw [if_neg hj] at hk; rw [if_neg hj'] at hk'
        exact c5 j j' k hk hk'
end Go.Proofs.Ytdfhakhapblhgaa
