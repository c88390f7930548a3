/-
  A reading of Go code as plain functions: a run over virtual values, and that what it tells is what the code does.
-/
import Derived.Test.YtdfhakhapblhgaaPwA
set_option linter.all false
namespace Go.Pv
open Go Go.RowKit

def isLk : Lk → Bool
  | .lst _ => true
  | _ => false
def norm1 : Lk → DV → DV
  | .lst sz, .val (.slice none 0 0) => .lst sz []
  | _, d => d
def normL : List Lk → List DV → List DV
  | k :: ks, d :: ds => norm1 k d :: normL ks ds
  | _, ds => ds
/-- A settled value of a type: nil slices as empty lists. -/
def normT (P : Program) (T : TypeId) (d : DV) : DV := match leavesK P 8 T with
  | some ks => bif ks.any isLk then (match d with
    | .agg cs => .agg (normL ks cs)
    | .val (.agg vs) => .agg (normL ks (vs.toList.map DV.val))
    | .val (.slice none 0 0) => (match ks with | [.lst sz] => .lst sz [] | _ => .val (.slice none 0 0))
    | d => d) else d
  | none => d
theorem norm1_rep {U : Nat → Prop} {w : World} {l : Lk} {d : DV} {v : Value} (h : DRep U w d v) : DRep U w (norm1 l d) v := by
  unfold norm1
  split
  · have := val_eq h; subst this; exact .nil
  · exact h
theorem normL_rep {U : Nat → Prop} {w : World} : ∀ (ks : List Lk) (ds : List DV), (normL ks ds).length = ds.length ∧ ∀ (vs : List Value), (∀ (i : Nat) (x : DV) (v : Value), ds[i]? = some x → vs[i]? = some v → DRep U w x v) → ∀ (i : Nat) (x : DV) (v : Value), (normL ks ds)[i]? = some x → vs[i]? = some v → DRep U w x v
  | [], ds => by cases ds <;> exact ⟨rfl, fun vs h => h⟩
  | k :: ks, [] => ⟨rfl, fun vs h => h⟩
  | k :: ks, d :: ds => by
    obtain ⟨r1, r2⟩ := normL_rep (U := U) (w := w) ks ds
    refine ⟨by simp [normL, r1], fun vs h i x v e1 e2 => ?_⟩
    match vs with
    | [] => simp at e2
    | u :: us =>
      cases i with
      | zero =>
        simp [normL] at e1 e2
        subst e1; subst e2
        exact norm1_rep (h 0 d u rfl rfl)
      | succ i => exact r2 us (fun j y z a b => h (j + 1) y z (by simpa using a) (by simpa using b)) i x v (by simpa [normL] using e1) (by simpa using e2)
theorem normT_rep {P : Program} {T : TypeId} {U : Nat → Prop} {w : World} {d : DV} {v : Value} (h : DRep U w d v) : DRep U w (normT P T d) v := by
  unfold normT
  split
  · rename_i ks _
    cases ks.any isLk with
    | false => exact h
    | true =>
      simp only [cond_true]
      split
      · rename_i cs
        cases h with
        | agg h1 h2 =>
          rename_i vs
          obtain ⟨r1, r2⟩ := normL_rep (U := U) (w := w) ks cs
          exact .agg (by omega) fun i x v e1 e2 => r2 vs.toList (fun i x v a b => h2 i x v a (by simpa using b)) i x v e1 (by simpa using e2)
      · rename_i vs
        have := val_eq h
        subst this
        obtain ⟨r1, r2⟩ := normL_rep (U := U) (w := w) ks (vs.toList.map DV.val)
        refine .agg (by rw [r1]; simp) fun i x v e1 e2 => r2 vs.toList (fun i x v a b => ?_) i x v e1 (by simpa using e2)
        obtain ⟨y, hy, rfl⟩ := map_get a
        rw [hy] at b; cases b
        exact .val _
      · split
        · have := val_eq h; subst this; exact .nil
        · exact h
      · exact h
  · exact h
/-- The cells of a value. -/
def cellsV : VV → Option (List VV)
  | .dv d => some (d.cells.map VV.dv)
  | .ptr b o => some [.ptr b o]
  | .osl e sz b o n => some [.osl e sz b o n]
  | .eptr cs => some [.eptr cs]
  | .vagg cs => some cs
  | .dead => none
  | .vtup _ => none
theorem crep_one {U : Nat → Prop} {w : World} {D : Nat → Option Nat} {x : VV} {v : Value} (hx : CRep U w D x v) : (#[v] : Array Value).size = [x].length ∧ ∀ (i : Nat) (y : VV) (u : Value), [x][i]? = some y → (#[v] : Array Value)[i]? = some u → CRep U w D y u := by
  refine ⟨rfl, fun i y u h1 h2 => ?_⟩
  match i with
  | 0 => simp at h1 h2; subst h1; subst h2; exact hx
  | i + 1 => simp at h1
theorem cellsV_rep {U : Nat → Prop} {w : World} {D : Nat → Option Nat} {x : VV} {ys : List VV} (h : cellsV x = some ys) {v : Value} (hx : VRep U w D x v) : v.cells.size = ys.length ∧ ∀ (i : Nat) (y : VV) (u : Value), ys[i]? = some y → v.cells[i]? = some u → CRep U w D y u := by
  cases x with
  | dv d =>
    simp only [cellsV, Option.some.injEq] at h
    subst h
    obtain ⟨c1, c2⟩ := DV.cells_rep (show DRep U w d v from hx)
    refine ⟨by simpa using c1, fun i y u h1 h2 => ?_⟩
    obtain ⟨z, hz, rfl⟩ := map_get h1
    exact c2 i z u hz h2
  | dead => cases h
  | vtup cs => cases h
  | vagg cs =>
    simp only [cellsV, Option.some.injEq] at h
    subst h
    obtain ⟨vs, rfl, h1, h2⟩ := hx
    exact ⟨h1, h2⟩
  | ptr b o =>
    simp only [cellsV, Option.some.injEq] at h
    subst h
    obtain ⟨k, hk, rfl⟩ := hx
    exact crep_one (x := .ptr b o) ⟨k, hk, rfl⟩
  | osl e sz b o n =>
    simp only [cellsV, Option.some.injEq] at h
    subst h
    obtain ⟨k, c, cur, hk, hc, hh, hs, rfl⟩ := hx
    exact crep_one (x := .osl e sz b o n) ⟨k, c, cur, hk, hc, hh, hs, rfl⟩
  | eptr cs =>
    simp only [cellsV, Option.some.injEq] at h
    subst h
    obtain ⟨k, off, rfl, hU, hc⟩ := hx
    exact crep_one (x := .eptr cs) ⟨k, off, rfl, hU, hc⟩
/-- All cells of them settled. -/
def allD : List VV → Option (List DV)
  | [] => some []
  | .dv d :: l => match allD l with | some ds => some (d :: ds) | none => none
  | _ :: _ => none
theorem allD_map : ∀ {xs : List VV} {ds : List DV}, allD xs = some ds → xs = ds.map VV.dv
  | [], ds, h => by simp [allD] at h; subst h; rfl
  | x :: xs, ds, h => by
    cases x <;> simp [allD] at h
    rename_i d
    cases hf : allD xs with
    | none => simp [hf] at h
    | some l => simp [hf] at h; subst h; simp [allD_map hf]
/-- A struct of these cells. -/
def mkV (cs : List VV) : VV := match allD cs with | some ds => .dv (mkAgg ds) | none => .vagg cs
theorem mkV_rep {U : Nat → Prop} {w : World} {D : Nat → Option Nat} {cs : List VV} {vs : Array Value} (h1 : vs.size = cs.length) (h2 : ∀ (i : Nat) (x : VV) (v : Value), cs[i]? = some x → vs[i]? = some v → CRep U w D x v) : VRep U w D (mkV cs) (.agg vs) := by
  unfold mkV
  cases h : allD cs with
  | none => exact ⟨vs, rfl, h1, h2⟩
  | some ds =>
    have := allD_map h
    subst this
    exact mkAgg_rep (by simpa using h1) fun i x v e1 e2 => h2 i (.dv x) v (by simp [e1]) e2
theorem crep_vrep {U : Nat → Prop} {w : World} {D : Nat → Option Nat} {x : VV} {v : Value} (h : CRep U w D x v) : VRep U w D x v := vrep_of_arep (arep_of_crep h)

theorem addM_same (id : Nat) (H : List (Option Blk)) (B : Blk) (h : id ≤ H.length) : (addM id H B)[id]? = some (some B) := by
  simp only [addM]
  cases hb : Nat.blt id H.length with
  | true =>
    have : id < H.length := by simp [Nat.blt] at hb; omega
    simp [List.getElem?_set, this]
  | false =>
    have : ¬ id < H.length := by intro h'; have h2 : Nat.blt id H.length = true := Nat.ble_eq_true_of_le h'; rw [h2] at hb; cases hb
    have : id = H.length := by omega
    subst this
    simp
theorem addM_other (id : Nat) (H : List (Option Blk)) (B : Blk) (h : id ≤ H.length) (b : Nat) (hb : b ≠ id) : (addM id H B)[b]? = H[b]? := by
  simp only [addM]
  cases hc : Nat.blt id H.length with
  | true => simp [List.getElem?_set, Ne.symm hb]
  | false =>
    have : ¬ id < H.length := by intro h'; have h2 : Nat.blt id H.length = true := Nat.ble_eq_true_of_le h'; rw [h2] at hc; cases hc
    have : id = H.length := by omega
    subst this
    simp only [cond_false]
    by_cases hlt : b < H.length
    · rw [List.getElem?_append_left hlt]
    · rw [List.getElem?_eq_none (by simp; omega), List.getElem?_eq_none (by omega)]
/-- A mixed block more. -/
theorem WRel.newm {D : Nat → Option Nat} {U : Nat → Prop} {N : Nat → Prop} {w0 w : World} {H : List (Option Blk)} {id : Nat} {cs : List VV} {vs : Array Value} {T : TypeId}
    (hW : WRel D U N w0 H w) (hN : Lt N w) (hid : D id = none) (hl : id ≤ H.length) (h1 : cs.length ≤ vs.size) (h2 : ∀ (i : Nat) (x : VV) (v : Value), cs[i]? = some x → vs[i]? = some v → CRep U w D x v) :
    WRel (updD D id w.heap.size) U N w0 ((Eff.newm cs).app id H) (w.alloc (.cells vs T)) := by
  have ho := onward_alloc (N := N) (o := .cells vs T) hW.old hid
  have hnew : ¬ U w.heap.size := fun h => Nat.lt_irrefl _ (hW.old _ h)
  have hk := heap_alloc_new w (.cells vs T)
  have keep : ∀ b j, D b = some j → j ≠ w.heap.size ∧ (w.alloc (.cells vs T)).heap[j]? = w.heap[j]? := by
    intro b j hb
    obtain ⟨_, g2, _⟩ := hW.own b j hb
    exact ⟨by omega, Below.heap_alloc _ _ _ g2⟩
  have hne' : ∀ {b j}, b ≠ id → updD D id w.heap.size b = some j → D b = some j := by
    intro b j hne hb; simpa only [updD, hne, if_false] using hb
  have hsm : ∀ {j}, updD D id w.heap.size id = some j → j = w.heap.size := by
    intro j hb; simp only [updD, if_true, Option.some.injEq] at hb; exact hb.symm
  refine ⟨hW.below.alloc hN _, fun k h => Nat.lt_of_lt_of_le (hW.old k h) ho.size, ?_, ?_, ?_, ?_, ?_⟩
  · intro b j hb
    by_cases hne : b = id
    · subst hne
      rw [hsm hb]
      exact ⟨hN.new, lt_of_heap hk, _, addM_same _ _ _ hl⟩
    · obtain ⟨g1, g2, B, g3⟩ := hW.own b j (hne' hne hb)
      exact ⟨g1, Nat.lt_of_lt_of_le g2 ho.size, B, (addM_other _ _ _ hl _ hne).trans g3⟩
  · intro b j us hb hH
    by_cases hne : b = id
    · subst hne
      simp only [Eff.app, addM_same _ _ _ hl] at hH
      cases hH
    · simp only [Eff.app, addM_other _ _ _ hl _ hne] at hH
      obtain ⟨g1, cs', T', g2, g3, g4⟩ := hW.hold b j us (hne' hne hb) hH
      exact ⟨g1, cs', T', by rw [(keep b j (hne' hne hb)).2]; exact g2, g3, fun i x v p q => (g4 i x v p q).keep ho.set ho.keep ho.size⟩
  · intro b j us hb hH
    by_cases hne : b = id
    · subst hne
      simp only [Eff.app, addM_same _ _ _ hl, Option.some.injEq, Blk.mix.injEq] at hH
      subst hH
      rw [hsm hb]
      exact ⟨hnew, vs, T, hk, h1, fun i x v p q => (h2 i x v p q).onward ho⟩
    · simp only [Eff.app, addM_other _ _ _ hl _ hne] at hH
      obtain ⟨g1, cs', T', g2, g3, g4⟩ := hW.holdm b j us (hne' hne hb) hH
      exact ⟨g1, cs', T', by rw [(keep b j (hne' hne hb)).2]; exact g2, g3, fun i x v p q => (g4 i x v p q).onward ho⟩
  · intro b B hb
    by_cases hne : b = id
    · subst hne; exact ⟨w.heap.size, by simp [updD]⟩
    · simp only [Eff.app, addM_other _ _ _ hl _ hne] at hb
      obtain ⟨j, hj⟩ := hW.all b B hb
      exact ⟨j, by simp [updD, hne, hj]⟩
  · intro b b' j us us' hb hb' hv hv' hd hd'
    by_cases hne : b = id <;> by_cases hne2 : b' = id
    · rw [hne, hne2]
    · subst hne
      rw [hsm hd] at hd'
      exact absurd rfl (keep b' _ (hne' hne2 hd')).1
    · subst hne2
      rw [hsm hd'] at hd
      exact absurd rfl (keep b _ (hne' hne hd)).1
    · simp only [Eff.app, addM_other _ _ _ hl _ hne] at hb
      simp only [Eff.app, addM_other _ _ _ hl _ hne2] at hb'
      exact hW.inj b b' j us us' hb hb' hv hv' (hne' hne hd) (hne' hne2 hd')
/-- A block written, to one that is mixed. -/
theorem WRel.updm {D : Nat → Option Nat} {U : Nat → Prop} {N : Nat → Prop} {w0 w : World} {H : List (Option Blk)} {b k : Nat} {ds : List VV} {B0 : Blk} {vs : Array Value} {cur : Array Value} {T : TypeId}
    (hW : WRel D U N w0 H w) (hb : D b = some k) (hbH : H[b]? = some (some B0)) (hlv : B0.live = true) (n2 : ¬ U k) (hk : w.heap[k]? = some (.cells cur T (0, 0))) (hsz : vs.size = cur.size) (h1 : ds.length ≤ vs.size) (h2 : ∀ (i : Nat) (x : VV) (v : Value), ds[i]? = some x → vs[i]? = some v → CRep U w D x v) :
    WRel D U N w0 (H.set b (some (.mix ds))) (w.setRow k vs) := by
  obtain ⟨n1, n3, _⟩ := hW.own b k hb
  have ho := onward_setRow (N := N) (D := D) (w := w) n2 vs (fun c T' f h => by rw [hk] at h; cases h; exact hsz)
  have hbl : b < H.length := (List.getElem?_eq_some_iff.1 hbH).1
  refine ⟨below_setRow hW.below n1 _, fun j h => by simpa using hW.old j h, ?_, ?_, ?_, ?_, ?_⟩
  · intro b' k' hb'
    obtain ⟨g1, g2, B, g3⟩ := hW.own b' k' hb'
    refine ⟨g1, by simpa using g2, ?_⟩
    by_cases e : b' = b
    · subst e; exact ⟨_, by simp [List.getElem?_set, hbl]; rfl⟩
    · exact ⟨B, by rw [List.getElem?_set_ne (Ne.symm e)]; exact g3⟩
  · intro b' k' us hb' hH'
    by_cases e : b' = b
    · subst e; simp [List.getElem?_set, hbl] at hH'
    · rw [List.getElem?_set_ne (Ne.symm e)] at hH'
      obtain ⟨g2, cs', T', g3, g5, g6⟩ := hW.hold b' k' us hb' hH'
      have hne : k' ≠ k := fun e' => e (hW.inj b' b k _ _ hH' hbH rfl hlv (e' ▸ hb') hb)
      exact ⟨g2, cs', T', by rw [setRow_other w k k' vs hne]; exact g3, g5, fun i x v e1 e2 => (g6 i x v e1 e2).keep ho.set ho.keep ho.size⟩
  · intro b' k' us hb' hH'
    by_cases e : b' = b
    · subst e
      rw [hb] at hb'; cases hb'
      simp only [List.getElem?_set, hbl, if_true, Option.some.injEq, Blk.mix.injEq] at hH'
      subst hH'
      exact ⟨n2, vs, T, setRow_heap w k cur vs T _ hk, h1, fun i x v e1 e2 => (h2 i x v e1 e2).onward ho⟩
    · rw [List.getElem?_set_ne (Ne.symm e)] at hH'
      obtain ⟨g2, cs', T', g3, g5, g6⟩ := hW.holdm b' k' us hb' hH'
      have hne : k' ≠ k := fun e' => e (hW.inj b' b k _ _ hH' hbH rfl hlv (e' ▸ hb') hb)
      exact ⟨g2, cs', T', by rw [setRow_other w k k' vs hne]; exact g3, g5, fun i x v e1 e2 => (g6 i x v e1 e2).onward ho⟩
  · intro b' B hb'
    by_cases e : b' = b
    · subst e; exact ⟨k, hb⟩
    · rw [List.getElem?_set_ne (Ne.symm e)] at hb'
      exact hW.all b' B hb'
  · intro b' b'' j us us' h1' h2' v1 v2 d1 d2
    by_cases e : b' = b <;> by_cases e' : b'' = b
    · rw [e, e']
    · subst e
      rw [List.getElem?_set_ne (Ne.symm e')] at h2'
      exact hW.inj b' b'' j _ us' hbH h2' hlv v2 d1 d2
    · subst e'
      rw [List.getElem?_set_ne (Ne.symm e)] at h1'
      exact hW.inj b' b'' j us _ h1' hbH v1 hlv d1 d2
    · rw [List.getElem?_set_ne (Ne.symm e)] at h1'
      rw [List.getElem?_set_ne (Ne.symm e')] at h2'
      exact hW.inj b' b'' j us us' h1' h2' v1 v2 d1 d2

/-- A block's cells, whichever it is. -/
def blkV : Blk → Option (List VV)
  | .cells cs => some (cs.map VV.dv)
  | .mix cs => some cs
  | .gone => none
theorem holdV {D : Nat → Option Nat} {U : Nat → Prop} {N : Nat → Prop} {w0 w : World} {H : List (Option Blk)} (hW : WRel D U N w0 H w) {b k : Nat} {B : Blk} {cs : List VV} (hb : D b = some k) (hH : H[b]? = some (some B)) (hB : blkV B = some cs) :
    B.live = true ∧ ¬ U k ∧ ∃ cur T, w.heap[k]? = some (.cells cur T (0, 0)) ∧ cs.length ≤ cur.size ∧ ∀ (i : Nat) (x : VV) (v : Value), cs[i]? = some x → cur[i]? = some v → CRep U w D x v := by
  cases B with
  | gone => cases hB
  | cells ds =>
    simp only [blkV, Option.some.injEq] at hB
    subst hB
    obtain ⟨g1, cur, T, g2, g3, g4⟩ := hW.hold b k ds hb hH
    refine ⟨rfl, g1, cur, T, g2, by simpa using g3, fun i x v e1 e2 => ?_⟩
    obtain ⟨y, hy, rfl⟩ := map_get e1
    exact g4 i y v hy e2
  | mix ds =>
    simp only [blkV, Option.some.injEq] at hB
    subst hB
    exact ⟨rfl, hW.holdm b k ds hb hH⟩
end Go.Pv
namespace Go.Pv
open Go Go.RowKit

def oneV : VV → Bool
  | .dv d => oneCellD d
  | .ptr _ _ => true
  | .osl _ _ _ _ _ => true
  | .eptr _ => true
  | _ => false
theorem oneV_rep {U : Nat → Prop} {w : World} {D : Nat → Option Nat} {x : VV} {v : Value} (h : oneV x = true) (hr : CRep U w D x v) : v.oneCell' = true := by
  cases x with
  | dv d => exact oneCellD_rep h hr
  | ptr b o => obtain ⟨k, _, rfl⟩ := hr; rfl
  | osl e sz b o n => obtain ⟨k, c, cur, _, _, _, _, rfl⟩ := hr; rfl
  | eptr cs => obtain ⟨k, off, rfl, _⟩ := hr; rfl
  | dead => cases h
  | vagg cs => cases h
  | vtup cs => cases h
def storeM (P : Program) (T : TypeId) (cs : List VV) (o : Nat) (ds : List VV) : Option (List VV) :=
  match P.info? T with
  | some i => bif Nat.beq ds.length i.size && Nat.ble (o + ds.length) cs.length && ds.all oneV then some (cs.take o ++ ds ++ cs.drop (o + ds.length)) else none
  | none => none
/-- A store that leaves the block mixed. -/
def storeX (P : Program) (ρ : Operand → VV) (H : OH) (t : TypeId) (x y : Operand) (k : KK) : Option DV :=
  match ρ x with
  | .ptr b of => match H[b]? with
    | some (some B) => match blkV B, cellsV (ρ y) with
      | some cs, some ys => match storeM P t cs of ys with | some cs' => k (.dv (.val undef)) (.updm b cs') | none => none
      | _, _ => none
    | _ => none
  | _ => none
theorem storeX_good {P : Program} {I : World → Prop} {ρ : Operand → VV} {o : Oper} {t : TypeId} {x y : Operand} {H : OH} {id : Nat} (ho : o.op = .store t x y) : Good P I o ρ H id (storeX P ρ H t x y) := by
  intro kk r h
  unfold storeX at h
  split at h <;> try (cases h; done)
  rename_i b of hx
  split at h <;> try (cases h; done)
  rename_i B hB
  split at h <;> try (cases h; done)
  rename_i cs ys hcs hys
  split at h <;> try (cases h; done)
  rename_i cs' hs
  refine ⟨_, _, h, fun k' => by simp only [storeX, hx, hB, hcs, hys, hs], ?_⟩
  intro D U N w0 H' w a next Q hI hC hW _ _ _ hops hn
  have h1 := hops x (by simp [ho, Op.operands])
  have h2 := hops y (by simp [ho, Op.operands])
  rw [hx] at h1
  obtain ⟨k, hk, hax⟩ := h1
  obtain ⟨n1, n3, B', g4⟩ := hW.own b k hk
  have e := hC b _ _ hB g4
  subst e
  obtain ⟨hlv, n2, cur, T, g3, g5, g6⟩ := holdV hW hk g4 hcs
  unfold storeM at hs
  cases hi : P.info? t with
  | none => simp [hi] at hs
  | some i =>
    simp only [hi] at hs
    cases hq : Nat.beq ys.length i.size && Nat.ble (of + ys.length) cs.length && ys.all oneV with
    | false => simp [hq] at hs
    | true =>
      simp only [hq, cond_true, Option.some.injEq] at hs
      simp only [Bool.and_eq_true] at hq
      obtain ⟨⟨q1, q2⟩, q3⟩ := hq
      have q1' := Nat.eq_of_beq_eq_true q1
      have q2' := Nat.le_of_ble_eq_true q2
      obtain ⟨c1, c2⟩ := cellsV_rep hys h2
      have one : ∀ u ∈ (a.eval y).cells.toList, u.oneCell' = true := by
        intro u hu
        obtain ⟨j, hj⟩ := List.mem_iff_getElem?.1 hu
        have hj' : (a.eval y).cells[j]? = some u := by simpa using hj
        have hlt : j < ys.length := by rw [← c1]; exact (Array.getElem?_eq_some_iff.1 hj').1
        exact oneV_rep (List.all_eq_true.1 q3 _ (List.getElem_mem hlt)) (c2 j _ u (List.getElem?_eq_getElem hlt) hj')
      have hrun := run_storeVar hi (v := a.eval y) (by rw [c1]; exact q1') k of g3 (by rw [c1]; omega) one
      unfold Oper.wp
      simp only [execOp, ho, hax, Sem.run_bind, hrun, Result.andThen_ok, Sem.run_pure, Oper.upon_skip]
      have hsz : (cur.toList.take of ++ (a.eval y).cells.toList ++ cur.toList.drop (of + (a.eval y).cells.size)).toArray.size = cur.size := by simp [c1]; omega
      refine hn _ _ D U (onward_setRow n2 _ (fun c T' f h => by rw [g3] at h; cases h; exact hsz)) ?_ (fun _ h _ => h) (.val undef)
      refine hW.updm hk g4 hlv n2 g3 hsz (by rw [hsz, ← hs]; simp; omega) ?_
      intro j x' v' e1 e2
      rw [← hs] at e1
      simp only [List.getElem?_toArray] at e2
      rw [List.append_assoc, List.getElem?_append] at e1 e2
      have l1 : (cs.take of).length = of := by simp; omega
      have l2 : (cur.toList.take of).length = of := by simp; omega
      rw [l1] at e1
      rw [l2] at e2
      split at e1
      · rename_i hlt
        simp only [hlt, if_true] at e2
        rw [List.getElem?_take] at e1 e2
        simp only [hlt, if_true] at e1 e2
        exact g6 j x' v' e1 (by simpa using e2)
      · rename_i hlt
        simp only [hlt, if_false] at e2
        rw [List.getElem?_append] at e1 e2
        simp only [Array.length_toList, c1] at e2
        split at e1
        · rename_i hl2
          simp only [hl2, if_true] at e2
          exact c2 (j - of) x' v' e1 (by simpa using e2)
        · rename_i hl2
          simp only [hl2, if_false] at e2
          simp only [List.getElem?_drop] at e1 e2
          exact g6 _ x' v' e1 (by simpa using e2)
/-- Boxed: a struct whose cells point at the call's own. -/
def boxX (ρ : Operand → VV) (id : Nat) (x : Operand) (k : KK) : Option DV := match cellsV (ρ x) with | some ys => k (.ptr id 0) (.newm ys) | none => none
theorem boxX_good {P : Program} {I : World → Prop} {ρ : Operand → VV} {o : Oper} {t : TypeId} {x : Operand} {H : OH} {id : Nat} (ho : o.op = .box t x) : Good P I o ρ H id (boxX ρ id x) := by
  intro k r h
  unfold boxX at h
  split at h <;> try (cases h; done)
  rename_i ys hys
  refine ⟨_, _, h, fun k' => by simp only [boxX, hys], ?_⟩
  intro D U N w0 H' w a next Q hI _ hW hN hid hl hops hn
  obtain ⟨c1, c2⟩ := cellsV_rep hys (hops x (by simp [ho, Op.operands]))
  unfold Oper.wp
  rw [show (execOp a.eval o).run P w = .ok (.value (.pointer (some ⟨w.heap.size, 0, none⟩))) (w.alloc (.cells (a.eval x).cells t)) by simp [execOp, ho, Instr.box, newVar, newRow, newObj, Sem.run]]
  exact hn _ _ _ _ (onward_alloc hW.old hid _) (hW.newm hN hid hl (by omega) c2) (fun b hb hne => by simp [updD, hne, hb]) ⟨w.heap.size, by simp [updD], rfl⟩
/-- Loaded: cells of a mixed block. -/
def loadX (P : Program) (t : TypeId) (cs : List VV) (of : Nat) : Option VV :=
  match P.underlying t, P.info? t with
  | some td, some i => bif aggD td then (bif Nat.ble (of + i.size) cs.length then some (mkV ((cs.drop of).take i.size)) else none) else cs[of]?
  | _, _ => none
theorem loadX_ok {P : Program} {t : TypeId} {cs : List VV} {of : Nat} {x : VV} (h : loadX P t cs of = some x) {U : Nat → Prop} {w : World} {D : Nat → Option Nat} {k : Nat} {cur : Array Value} {T : TypeId} (hk : w.heap[k]? = some (.cells cur T (0, 0))) (hl : cs.length ≤ cur.size)
    (hc : ∀ (i : Nat) (x : VV) (v : Value), cs[i]? = some x → cur[i]? = some v → CRep U w D x v) : ∃ v, (loadVar t ⟨k, of, none⟩).run P w = .ok v w ∧ VRep U w D x v := by
  unfold loadX at h
  split at h <;> try (cases h; done)
  rename_i td i hu hi
  have hia : ∀ b, aggD td = b → (isAgg t).run P w = .ok b w := by
    intro b hb
    simp only [isAgg, Sem.run_bind, run_underlying hu, Result.andThen_ok]
    subst hb
    cases td <;> rfl
  have hcell : ∀ j, j < cs.length → ∃ v, cur[j]? = some v ∧ w.cell? ⟨k, j, none⟩ = some v := by
    intro j hj
    have hlt : j < cur.size := by omega
    exact ⟨cur[j], Array.getElem?_eq_getElem hlt, by simp [World.cell?, hk, hlt]⟩
  cases ha : aggD td with
  | true =>
    rw [ha] at h
    simp only [cond_true] at h
    cases hb : Nat.ble (of + i.size) cs.length with
    | false => rw [hb] at h; cases h
    | true =>
      rw [hb] at h
      simp only [cond_true, Option.some.injEq] at h
      have hb' := Nat.le_of_ble_eq_true hb
      subst h
      let g : Nat → Value := fun j => (w.cell? ⟨k, of + j, none⟩).getD undef
      refine ⟨.agg ((List.range i.size).map g).toArray, ?_, mkV_rep (by simp; omega) ?_⟩
      · have hs : (sizeOf t).run P w = .ok i.size w := by simp [sizeOf, typeInfo, program, Sem.run, hi, bind, pure, Sem.bind]
        simp only [loadVar, Sem.run_bind, hia _ ha, Result.andThen_ok, if_true, hs]
        rw [run_loadCells (P := P) w ⟨k, of, none⟩ i.size g (fun j hj => by
          obtain ⟨v, _, hv⟩ := hcell (of + j) (by omega)
          rw [add_flat]; simp [g, hv])]
        rfl
      · intro j x v e1 e2
        simp only [List.getElem?_toArray, List.getElem?_map] at e2
        have hj : j < i.size := by
          rcases Nat.lt_or_ge j i.size with hj | hj
          · exact hj
          · rw [List.getElem?_eq_none (by simpa using hj)] at e2; cases e2
        rw [List.getElem?_range hj] at e2
        simp only [Option.map_some, Option.some.injEq] at e2
        subst e2
        rw [List.getElem?_take, if_pos hj, List.getElem?_drop] at e1
        obtain ⟨v, hv, hw⟩ := hcell (of + j) (by omega)
        simp only [g, hw, Option.getD_some]
        exact hc _ x v e1 hv
  | false =>
    rw [ha] at h
    simp only [cond_false] at h
    have hlt := (List.getElem?_eq_some_iff.1 h).1
    obtain ⟨v, hv, hw⟩ := hcell of hlt
    refine ⟨v, ?_, crep_vrep (hc of x v h hv)⟩
    simp only [loadVar, Sem.run_bind, hia _ ha, Result.andThen_ok, Bool.false_eq_true, if_false]
    simp [load, Sem.run, hw]
def loadM (P : Program) (ρ : Operand → VV) (H : OH) (t : TypeId) (x : Operand) (k : KK) : Option DV :=
  match ρ x with
  | .ptr b of => match H[b]? with
    | some (some (.mix cs)) => match loadX P t cs of with | some y => k y .none | none => none
    | _ => loadQ P ρ H t x k
  | _ => loadQ P ρ H t x k
theorem loadM_good {P : Program} {I : World → Prop} {ρ : Operand → VV} {o : Oper} {t : TypeId} {x : Operand} {H : OH} {id : Nat} (ho : o.op = .load t x) : Good P I o ρ H id (loadM P ρ H t x) := by
  intro k r h
  unfold loadM at h
  split at h
  · rename_i b of hx
    split at h
    · rename_i cs hb
      split at h <;> try (cases h; done)
      rename_i y hy
      refine ⟨_, _, h, fun k' => by simp only [loadM, hx, hb, hy], ?_⟩
      intro D U N w0 H' w a next Q hI hC hW _ _ _ hops hn
      have h1 := hops x (by simp [ho, Op.operands])
      rw [hx] at h1
      obtain ⟨kk, hk, hax⟩ := h1
      obtain ⟨n1, n3, B, g4⟩ := hW.own b kk hk
      have e := hC b _ _ hb g4
      subst e
      obtain ⟨_, _, cur, T, g3, g5, g6⟩ := holdV hW hk g4 rfl
      obtain ⟨v, hv, hr⟩ := loadX_ok hy g3 g5 g6
      unfold Oper.wp
      simp only [execOp, ho, hax, Instr.loadAt, Instr.sureAddr, Sem.run_bind, Sem.run_pure, Result.andThen_ok, hv]
      exact hn v w D U Onward.refl hW (fun _ h _ => h) hr
    · rename_i n1
      obtain ⟨x', y', h1, h2, h3⟩ := loadQ_good (I := I) (id := id) ho k r h
      refine ⟨x', y', h1, fun k' => ?_, h3⟩
      simp only [loadM, hx]
      exact h2 k'
  · rename_i n1
    obtain ⟨x', y', h1, h2, h3⟩ := loadQ_good (I := I) (id := id) ho k r h
    refine ⟨x', y', h1, fun k' => ?_, h3⟩
    unfold loadM
    split
    · rename_i b of hx; exact (n1 _ _ hx).elim
    · exact h2 k'
end Go.Pv
namespace Go.Pv
open Go Go.RowKit

/-- The places of a struct's fields. -/
def placesK (P : Program) : List Field → Option (List (Nat × Nat))
  | [] => some []
  | f :: fs => match P.info? f.type, placesK P fs with
    | some i, some l => some ((f.offset, i.size) :: l)
    | _, _ => none
def fillV (ρ : Operand → VV) (pl : List (Nat × Nat)) : List (Nat × Operand) → List VV → Option (List VV)
  | [], cs => some cs
  | (i, x) :: rest, cs => match pl[i]?, cellsV (ρ x) with
    | some (off, size), some ys => bif Nat.beq ys.length size && Nat.ble (off + ys.length) cs.length then fillV ρ pl rest (cs.take off ++ ys ++ cs.drop (off + ys.length)) else none
    | _, _ => none
theorem places_run {P : Program} : ∀ (fs : List Field) (l : List (Nat × Nat)), placesK P fs = some l → ∀ w, (fs.mapM fun f => (do pure (f.offset, ← sizeOf f.type) : Sem (Nat × Nat))).run P w = .ok l w
  | [], l, h, w => by simp [placesK] at h; subst h; rfl
  | f :: fs, l, h, w => by
    simp only [placesK] at h
    split at h <;> try (cases h; done)
    rename_i i l' hi hl
    simp only [Option.some.injEq] at h
    subst h
    have hs : (sizeOf f.type).run P w = .ok i.size w := by simp [sizeOf, typeInfo, program, Sem.run, hi, bind, pure, Sem.bind]
    have ih := places_run fs l' hl w
    simp only [List.mapM_cons, Sem.run_bind, Sem.run_pure, hs, Result.andThen_ok]
    rw [ih]
    rfl
theorem foldl_set (off : Nat) : ∀ (us : List Value) (j : Nat) (cs : Array Value), off + j + us.length ≤ cs.size →
    ((us.zipIdx j).foldl (fun cs (x : Value × Nat) => cs.setIfInBounds (off + x.2) x.1) cs).toList = cs.toList.take (off + j) ++ us ++ cs.toList.drop (off + j + us.length)
  | [], j, cs, h => by simp
  | u :: us, j, cs, h => by
    simp only [List.zipIdx_cons, List.foldl_cons]
    simp only [List.length_cons] at h
    rw [foldl_set off us (j + 1) _ (by simp; omega)]
    apply List.ext_getElem?
    intro n
    simp only [List.append_assoc, List.getElem?_append, List.length_take, Array.length_toList, Array.size_setIfInBounds, List.getElem?_take, List.getElem?_drop, List.length_cons, Array.toList_setIfInBounds, List.getElem?_set, List.length_set]
    by_cases h1 : n < off + j
    · have : n < off + (j + 1) := by omega
      have h3 : ¬ off + j = n := by omega
      simp [h1, this, h3, show n < cs.size by omega, show min (off + j) cs.size = off + j by omega, show min (off + (j + 1)) cs.size = off + (j + 1) by omega]
    · by_cases h2 : n = off + j
      · subst h2
        simp [show off + j < off + (j + 1) by omega, show min (off + j) cs.size = off + j by omega, show min (off + (j + 1)) cs.size = off + (j + 1) by omega, show off + j < cs.size by omega]
      · have g1 : ¬ n < off + (j + 1) := by omega
        simp only [show min (off + j) cs.size = off + j by omega, show min (off + (j + 1)) cs.size = off + (j + 1) by omega, h1, g1, if_false]
        by_cases h4 : n - (off + (j + 1)) < us.length
        · have h5 : n - (off + j) < us.length + 1 := by omega
          simp only [h4, h5, if_true]
          rw [show n - (off + j) = (n - (off + (j + 1))) + 1 by omega, List.getElem?_cons_succ]
        · have h5 : ¬ n - (off + j) < us.length + 1 := by omega
          simp only [h4, h5, if_false]
          rw [show off + j + (us.length + 1) + (n - (off + j) - (us.length + 1)) = n by omega, show off + (j + 1) + us.length + (n - (off + (j + 1)) - us.length) = n by omega]
          rw [if_neg (by omega)]
theorem fillV_ok {U : Nat → Prop} {w : World} {D : Nat → Option Nat} {a : Act} {ρ : Operand → VV} {pl : List (Nat × Nat)} : ∀ (ps : List (Nat × Operand)) (cs cs' : List VV) (vs : Array Value), fillV ρ pl ps cs = some cs' → (∀ p ∈ ps, VRep U w D (ρ p.2) (a.eval p.2)) →
    vs.size = cs.length → (∀ (i : Nat) (x : VV) (v : Value), cs[i]? = some x → vs[i]? = some v → CRep U w D x v) →
    ∃ vs', Instr.fill (pl[·]?) vs (ps.map fun p => (p.1, a.eval p.2)) = some vs' ∧ vs'.size = cs'.length ∧ ∀ (i : Nat) (x : VV) (v : Value), cs'[i]? = some x → vs'[i]? = some v → CRep U w D x v
  | [], cs, cs', vs, h, _, h1, h2 => by
    simp only [fillV, Option.some.injEq] at h
    subst h
    exact ⟨vs, rfl, h1, h2⟩
  | (i, x) :: rest, cs, cs', vs, h, hr, h1, h2 => by
    simp only [fillV] at h
    split at h <;> try (cases h; done)
    rename_i off size ys hp hys
    cases hq : Nat.beq ys.length size && Nat.ble (off + ys.length) cs.length with
    | false => rw [hq] at h; cases h
    | true =>
      rw [hq] at h
      simp only [cond_true] at h
      simp only [Bool.and_eq_true] at hq
      have q1 := Nat.eq_of_beq_eq_true hq.1
      have q2 := Nat.le_of_ble_eq_true hq.2
      have hx1 : VRep U w D (ρ x) (a.eval x) := hr (i, x) (by simp)
      obtain ⟨c1, c2⟩ := cellsV_rep hys hx1
      have hfold := foldl_set off (a.eval x).cells.toList 0 vs (by simp; omega)
      have hfold2 : ((a.eval x).cells.zipIdx.foldl (fun cs (x : Value × Nat) => cs.setIfInBounds (off + x.2) x.1) vs).toList = vs.toList.take off ++ (a.eval x).cells.toList ++ vs.toList.drop (off + (a.eval x).cells.size) := by
        have : (a.eval x).cells.zipIdx.foldl (fun cs (x : Value × Nat) => cs.setIfInBounds (off + x.2) x.1) vs = ((a.eval x).cells.toList.zipIdx 0).foldl (fun cs (x : Value × Nat) => cs.setIfInBounds (off + x.2) x.1) vs := by
          rw [← Array.foldl_toList]; simp
        rw [this, hfold]
        simp
      obtain ⟨vs', g1, g2, g3⟩ := fillV_ok rest _ cs' ((a.eval x).cells.zipIdx.foldl (fun cs (x : Value × Nat) => cs.setIfInBounds (off + x.2) x.1) vs) h (fun p hp => hr p (by simp [hp])) (by
        rw [← Array.length_toList, hfold2]
        simp; omega) (by
        intro j y v e1 e2
        rw [← Array.getElem?_toList, hfold2] at e2
        rw [List.append_assoc, List.getElem?_append] at e1 e2
        have l1 : (cs.take off).length = off := by simp; omega
        have l2 : (vs.toList.take off).length = off := by simp; omega
        rw [l1] at e1
        rw [l2] at e2
        split at e1
        · rename_i hlt
          simp only [hlt, if_true] at e2
          rw [List.getElem?_take] at e1 e2
          simp only [hlt, if_true] at e1 e2
          exact h2 j y v e1 (by simpa using e2)
        · rename_i hlt
          simp only [hlt, if_false] at e2
          rw [List.getElem?_append] at e1 e2
          simp only [Array.length_toList, c1] at e2
          split at e1
          · rename_i hl2
            simp only [hl2, if_true] at e2
            exact c2 (j - off) y v e1 (by simpa using e2)
          · rename_i hl2
            simp only [hl2, if_false] at e2
            simp only [List.getElem?_drop] at e1 e2
            exact h2 _ y v e1 (by simpa using e2))
      refine ⟨vs', ?_, g2, g3⟩
      simp only [List.map_cons, Instr.fill, hp]
      rw [if_neg (by simp [c1, q1]; omega)]
      exact g1
/-- A struct's literal. -/
def buildK (P : Program) (ρ : Operand → VV) (o : Oper) (t : TypeId) (ps : Array (Nat × Operand)) (k : KK) : Option DV :=
  bif allFlat ρ o then flatK P ρ o k else
  match P.underlying t, prun P (zeroValue t) with
  | some (.struct fs), some z => match placesK P fs.toList with
    | some pl => match fillV ρ pl ps.toList ((DV.cells (.val z)).map VV.dv) with
      | some cs => k (mkV cs) .none
      | none => none
    | none => none
  | _, _ => none
theorem buildK_good {P : Program} {I : World → Prop} {ρ : Operand → VV} {o : Oper} {t : TypeId} {ps : Array (Nat × Operand)} {H : OH} {id : Nat} (ho : o.op = .build t ps) : Good P I o ρ H id (buildK P ρ o t ps) := by
  intro k r h
  unfold buildK at h
  cases hf : allFlat ρ o with
  | true =>
    rw [hf] at h
    simp only [cond_true] at h
    obtain ⟨x', y', h1, h2, h3⟩ := flatK_good (I := I) (H := H) (id := id) k r h
    exact ⟨x', y', h1, fun k' => by unfold buildK; rw [hf]; exact h2 k', h3⟩
  | false =>
    rw [hf] at h
    simp only [cond_false] at h
    split at h <;> try (cases h; done)
    rename_i fs z hu hz
    split at h <;> try (cases h; done)
    rename_i pl hpl
    split at h <;> try (cases h; done)
    rename_i cs hcs
    refine ⟨_, _, h, fun k' => by unfold buildK; rw [hf]; simp only [cond_false, hu, hz, hpl, hcs], opOk_same fun D U w a hops => ?_⟩
    obtain ⟨z1, z2⟩ := DV.cells_rep (U := U) (w := w) (.val z)
    obtain ⟨vs', g1, g2, g3⟩ := fillV_ok (U := U) (w := w) (D := D) (a := a) ps.toList _ cs z.cells hcs (fun p hp => hops p.2 (by
      rw [ho]; simp only [Op.operands]
      exact List.mem_toArray.2 (List.mem_map.2 ⟨p, hp, rfl⟩))) (by simpa using z1) (fun i x v e1 e2 => by
      obtain ⟨y, hy, rfl⟩ := map_get e1
      exact z2 i y v hy e2)
    refine ⟨.agg vs', ?_, mkV_rep g2 g3⟩
    have hp := places_run (P := P) fs.toList pl hpl w
    have hps : (ps.map fun (x : Nat × Operand) => (x.1, a.eval x.2)).toList = ps.toList.map fun p => (p.1, a.eval p.2) := by simp
    have hpa : (fs.mapM fun f => (do pure (f.offset, ← sizeOf f.type) : Sem (Nat × Nat))).run P w = .ok pl.toArray w := by
      rw [Array.mapM_eq_mapM_toList]
      simp only [← bind_pure_comp, Sem.run_bind]
      rw [hp]
      rfl
    simp only [execOp, ho, Instr.build, Sem.run_bind, prun_run _ hz w, Result.andThen_ok, run_underlying hu, hpa, hps]
    have : (fun (x : Nat) => (pl.toArray)[x]?) = (fun x => pl[x]?) := by funext x; simp
    simp only [this, g1, Sem.run_pure, Result.andThen_ok]
/-- A field of a struct that is no variable. -/
def fieldV (P : Program) (ρ : Operand → VV) (o : Oper) (t : TypeId) (x : Operand) (f : Nat) (k : KK) : Option DV :=
  bif allFlat ρ o then flatK P ρ o k else
  match P.underlying t, cellsV (ρ x), ρ x with
  | some (.struct fs), some cs, .dv (.agg _) => match fs[f]? with
    | some fd => match loadX P fd.type cs fd.offset with | some y => k y .none | none => none
    | none => none
  | some (.struct fs), some cs, .vagg _ => match fs[f]? with
    | some fd => match loadX P fd.type cs fd.offset with | some y => k y .none | none => none
    | none => none
  | _, _, _ => none
theorem run_partX {P : Program} {t : TypeId} {cs : List VV} {of : Nat} {x : VV} (h : loadX P t cs of = some x) {U : Nat → Prop} {w : World} {D : Nat → Option Nat} {vs : Array Value} (hl : vs.size = cs.length)
    (hc : ∀ (i : Nat) (x : VV) (v : Value), cs[i]? = some x → vs[i]? = some v → CRep U w D x v) : ∃ v, (part t vs of).run P w = .ok v w ∧ VRep U w D x v := by
  unfold loadX at h
  split at h <;> try (cases h; done)
  rename_i td i hu hi
  have hia : ∀ b, aggD td = b → (isAgg t).run P w = .ok b w := by
    intro b hb
    simp only [isAgg, Sem.run_bind, run_underlying hu, Result.andThen_ok]
    subst hb
    cases td <;> rfl
  cases ha : aggD td with
  | true =>
    rw [ha] at h
    simp only [cond_true] at h
    cases hb : Nat.ble (of + i.size) cs.length with
    | false => rw [hb] at h; cases h
    | true =>
      rw [hb] at h
      simp only [cond_true, Option.some.injEq] at h
      have hb' := Nat.le_of_ble_eq_true hb
      subst h
      have hs : (sizeOf t).run P w = .ok i.size w := by simp [sizeOf, typeInfo, program, Sem.run, hi, bind, pure, Sem.bind]
      refine ⟨.agg (vs.extract of (of + i.size)), by simp only [part, Sem.run_bind, hia _ ha, Result.andThen_ok, if_true, hs, Sem.run_pure], mkV_rep (by simp; omega) ?_⟩
      intro j x v e1 e2
      rw [List.getElem?_take] at e1
      split at e1 <;> try (cases e1; done)
      rename_i hj
      rw [List.getElem?_drop] at e1
      rw [Array.getElem?_extract, if_pos (by omega)] at e2
      exact hc _ x v e1 e2
  | false =>
    rw [ha] at h
    simp only [cond_false] at h
    have hlt := (List.getElem?_eq_some_iff.1 h).1
    have hlt' : of < vs.size := by omega
    refine ⟨vs[of], ?_, crep_vrep (hc of x _ h (Array.getElem?_eq_getElem hlt'))⟩
    simp only [part, Sem.run_bind, hia _ ha, Result.andThen_ok, Bool.false_eq_true, if_false, Array.getElem?_eq_getElem hlt', Sem.run_pure]
theorem fieldV_good {P : Program} {I : World → Prop} {ρ : Operand → VV} {o : Oper} {t : TypeId} {x : Operand} {f : Nat} {H : OH} {id : Nat} (ho : o.op = .field t x f) : Good P I o ρ H id (fieldV P ρ o t x f) := by
  intro k r h
  unfold fieldV at h
  cases hf : allFlat ρ o with
  | true =>
    rw [hf] at h
    simp only [cond_true] at h
    obtain ⟨x', y', h1, h2, h3⟩ := flatK_good (I := I) (H := H) (id := id) k r h
    exact ⟨x', y', h1, fun k' => by unfold fieldV; rw [hf]; exact h2 k', h3⟩
  | false =>
    rw [hf] at h
    simp only [cond_false] at h
    have fin : ∀ (fs : Array Field) (cs : List VV) (fd : Field) (y : VV), P.underlying t = some (.struct fs) → cellsV (ρ x) = some cs → fs[f]? = some fd → loadX P fd.type cs fd.offset = some y → (∀ (U : Nat → Prop) (w : World) (D : Nat → Option Nat) (v : Value), VRep U w D (ρ x) v → ∃ vs, v = .agg vs) → OpOk P I o ρ H id y .none := by
      intro fs cs fd y hu hcs hfd hy hag
      refine opOk_same fun D U w a hops => ?_
      have h1 := hops x (by simp [ho, Op.operands])
      obtain ⟨vs, hv⟩ := hag U w D _ h1
      obtain ⟨c1, c2⟩ := cellsV_rep hcs h1
      rw [hv] at c1 c2
      obtain ⟨u, hu1, hu2⟩ := run_partX (P := P) hy (U := U) (w := w) (D := D) (vs := vs) c1 c2
      refine ⟨u, ?_, hu2⟩
      simp only [execOp, ho, Instr.field, Sem.run_bind, run_underlying hu, Result.andThen_ok, hfd, hv, asAgg, Sem.run_pure, hu1]
    split at h <;> try (cases h; done)
    · rename_i fs cs ds hu hcs hx
      split at h <;> try (cases h; done)
      rename_i fd hfd
      split at h <;> try (cases h; done)
      rename_i y hy
      refine ⟨_, _, h, fun k' => by
        have hcs' := hcs
        rw [hx] at hcs'
        unfold fieldV; rw [hf]; simp only [cond_false, hu, hx, hcs', hfd, hy], fin fs cs fd y hu hcs hfd hy fun U w D v hv => ?_⟩
      rw [hx] at hv
      have hv' : DRep U w (.agg ds) v := hv
      cases hv' with
      | agg g1 g2 => exact ⟨_, rfl⟩
    · rename_i fs cs ds hu hcs hx
      split at h <;> try (cases h; done)
      rename_i fd hfd
      split at h <;> try (cases h; done)
      rename_i y hy
      refine ⟨_, _, h, fun k' => by
        have hcs' := hcs
        rw [hx] at hcs'
        unfold fieldV; rw [hf]; simp only [cond_false, hu, hx, hcs', hfd, hy], fin fs cs fd y hu hcs hfd hy fun U w D v hv => ?_⟩
      rw [hx] at hv
      obtain ⟨vs, rfl, _⟩ := hv
      exact ⟨vs, rfl⟩
/-- One of several results. -/
def extractX (P : Program) (ρ : Operand → VV) (o : Oper) (x : Operand) (i : Nat) (k : KK) : Option DV :=
  match ρ x with
  | .vtup cs => match cs[i]? with | some y => k y .none | none => none
  | _ => extractQ P ρ o x i k
theorem extractX_good {P : Program} {I : World → Prop} {ρ : Operand → VV} {o : Oper} {x : Operand} {i : Nat} {H : OH} {id : Nat} (ho : o.op = .extract x i) : Good P I o ρ H id (extractX P ρ o x i) := by
  intro k r h
  unfold extractX at h
  split at h
  · rename_i cs hx
    split at h <;> try (cases h; done)
    rename_i d hd
    refine ⟨_, _, h, fun k' => by simp only [extractX, hx, hd], opOk_same fun D U w a hops => ?_⟩
    have h1 := hops x (by simp [ho, Op.operands])
    rw [hx] at h1
    obtain ⟨vs, hv, g1, g2⟩ := h1
    have hlt : i < vs.size := by rw [g1]; exact (List.getElem?_eq_some_iff.1 hd).1
    exact ⟨vs[i], by simp [execOp, ho, hv, Instr.extract, hlt], vrep_of_arep (g2 i d _ hd (Array.getElem?_eq_getElem hlt))⟩
  · rename_i hne
    obtain ⟨x', y', h1, h2, h3⟩ := extractQ_good (I := I) (H := H) (id := id) ho k r h
    refine ⟨x', y', h1, fun k' => ?_, h3⟩
    unfold extractX
    split
    · rename_i cs hx; exact (hne cs hx).elim
    · exact h2 k'
end Go.Pv
namespace Go.Pv
open Go Go.RowKit

/-- A function's reading over values that may point at blocks. -/
abbrev HRead := List VV → OH → (VV → OH → Option DV) → Option DV
def MeetsH (P : Program) (I : World → Prop) (g : FuncId) (G : HRead) : Prop :=
  ∀ (xs : List VV) (H : OH) (k : VV → OH → Option DV) (r : DV), G xs H k = some r → okCall P g = true ∧ ∃ d H', k d H' = some r ∧ (∀ k', G xs H k' = k' d H') ∧
    ∀ (D : Nat → Option Nat) (U : Nat → Prop) (N : Nat → Prop) (w0 w : World) (args : Array Value), (∀ w', Keeps N w0 w' → I w') → WRel D U N w0 H w → Lt N w → args.size = xs.length →
      (∀ (i : Nat) (x : VV) (v : Value), xs[i]? = some x → args[i]? = some v → VRep U w D x v) →
      Calls P g args w fun e w' => ∃ v D' U', e = .returned v ∧ Onward N D U w D' U' w' ∧ WRel D' U' N w0 H' w' ∧ VRep U' w' D' d v

/-- The caller's numbers behind a call. -/
def callD (D D' : Nat → Option Nat) (n : Nat) (ids : List Nat) : Nat → Option Nat := fun b => match posOf b ids 0 with
  | some j => D' j
  | none => if b < n then D b else D' (ids.length + (b - n))
theorem posOf_none {b : Nat} : ∀ {l : List Nat} {i : Nat}, posOf b l i = none → b ∉ l
  | [], _, _ => by simp
  | x :: l, i, h => by
    simp only [posOf] at h
    cases hb : Nat.beq b x with
    | true => rw [hb] at h; cases h
    | false =>
      rw [hb] at h
      simp only [cond_false] at h
      have := posOf_none h
      simp only [List.mem_cons, not_or]
      exact ⟨(fun e => by subst e; rw [Nat.beq_refl] at hb; cases hb), this⟩
theorem posOf_of {ids : List Nat} (hnd : ids.Nodup) {j b : Nat} (h : ids[j]? = some b) : posOf b ids 0 = some j := by
  cases hp : posOf b ids 0 with
  | none => exact absurd (List.mem_of_getElem? h) (posOf_none hp)
  | some m =>
    obtain ⟨q, h1, h2⟩ := posOf_get b ids 0 m hp
    have : m = q := by omega
    subst this
    rcases Nat.lt_trichotomy m j with hlt | he | hlt
    · exact absurd rfl (nodup_ne hnd h2 h hlt)
    · rw [he]
    · exact absurd rfl (nodup_ne hnd h h2 hlt)
section call
variable {D D' : Nat → Option Nat} {U U' : Nat → Prop} {N : Nat → Prop} {w0 w w' : World} {H Hc : List (Option Blk)} {ids : List Nat}
theorem callD_unpack (hnd : ids.Nodup) (hlt : ∀ b ∈ ids, b < H.length) {j k : Nat} (h : D' j = some k) : callD D D' H.length ids (unpackI ids H.length j) = some k := by
  unfold unpackI
  cases hj : ids[j]? with
  | some b => simp only [callD, posOf_of hnd hj]; exact h
  | none =>
    have hge : ids.length ≤ j := by
      rcases Nat.lt_or_ge j ids.length with h' | h'
      · rw [List.getElem?_eq_getElem h'] at hj; cases hj
      · exact h'
    have hn : posOf (H.length + (j - ids.length)) ids 0 = none := by
      cases hp : posOf (H.length + (j - ids.length)) ids 0 with
      | none => rfl
      | some m =>
        obtain ⟨q, _, h2⟩ := posOf_get _ ids 0 m hp
        have := hlt _ (List.mem_of_getElem? h2)
        omega
    simp only [callD, hn]
    rw [if_neg (by omega), show ids.length + (H.length + (j - ids.length) - H.length) = j by omega]
    exact h
theorem unpackC_rep (hnd : ids.Nodup) (hlt : ∀ b ∈ ids, b < H.length) {x : VV} {v : Value} (h : CRep U' w' D' x v) : CRep U' w' (callD D D' H.length ids) (unpackC ids H.length x) v := by
  cases x with
  | dv d => exact h
  | dead => trivial
  | eptr cs => exact h
  | vagg cs => trivial
  | vtup cs => trivial
  | ptr b o => obtain ⟨k, hk, e⟩ := h; exact ⟨k, callD_unpack hnd hlt hk, e⟩
  | osl e sz b o n => obtain ⟨k, c, cur, hk, hc, hh, hs, e⟩ := h; exact ⟨k, c, cur, callD_unpack hnd hlt hk, hc, hh, hs, e⟩
theorem unpackA_rep (hnd : ids.Nodup) (hlt : ∀ b ∈ ids, b < H.length) {x : VV} {v : Value} (h : ARep U' w' D' x v) : ARep U' w' (callD D D' H.length ids) (unpackA ids H.length x) v := by
  cases x with
  | vagg cs =>
    obtain ⟨vs, rfl, h1, h2⟩ := h
    refine ⟨vs, rfl, by simpa using h1, fun i x u e1 e2 => ?_⟩
    obtain ⟨y, hy, rfl⟩ := map_get e1
    exact unpackC_rep hnd hlt (h2 i y u hy e2)
  | vtup cs => cases h
  | dv d => exact h
  | dead => trivial
  | eptr cs => exact h
  | ptr b o => exact arep_of_crep (unpackC_rep (x := .ptr b o) hnd hlt h)
  | osl e sz b o n => exact arep_of_crep (unpackC_rep (x := .osl e sz b o n) hnd hlt h)
theorem unpackV_rep (hnd : ids.Nodup) (hlt : ∀ b ∈ ids, b < H.length) {x : VV} {v : Value} (h : VRep U' w' D' x v) : VRep U' w' (callD D D' H.length ids) (unpackV ids H.length x) v := by
  cases x with
  | vtup cs =>
    obtain ⟨vs, rfl, h1, h2⟩ := h
    refine ⟨vs, rfl, by simpa using h1, fun i x u e1 e2 => ?_⟩
    obtain ⟨y, hy, rfl⟩ := map_get e1
    exact unpackA_rep hnd hlt (h2 i y u hy e2)
  | vagg cs => exact unpackA_rep (x := .vagg cs) hnd hlt h
  | dv d => exact h
  | dead => trivial
  | eptr cs => exact h
  | ptr b o => exact vrep_of_arep (unpackA_rep (x := .ptr b o) hnd hlt h)
  | osl e sz b o n => exact vrep_of_arep (unpackA_rep (x := .osl e sz b o n) hnd hlt h)
theorem setAll_length : ∀ (H : List (Option Blk)) (ids : List Nat) (xs : List (Option Blk)), (setAll H ids xs).length = H.length
  | H, [], xs => by cases xs <;> rfl
  | H, b :: ids, [] => rfl
  | H, b :: ids, x :: xs => by simp only [setAll]; rw [setAll_length]; simp
theorem setAll_other : ∀ (ids : List Nat) (H xs : List (Option Blk)) (b : Nat), b ∉ ids → (setAll H ids xs)[b]? = H[b]?
  | [], H, xs, b, _ => by cases xs <;> rfl
  | c :: ids, H, [], b, _ => rfl
  | c :: ids, H, x :: xs, b, hb => by
    simp only [List.mem_cons, not_or] at hb
    simp only [setAll]
    rw [setAll_other ids _ xs b hb.2, List.getElem?_set_ne (Ne.symm hb.1)]
theorem setAll_at : ∀ (ids : List Nat) (H xs : List (Option Blk)) (j b : Nat), ids.Nodup → (∀ b ∈ ids, b < H.length) → ids[j]? = some b → j < xs.length → (setAll H ids xs)[b]? = xs[j]?
  | [], H, xs, j, b, _, _, hj, _ => by simp at hj
  | c :: ids, H, [], j, b, _, _, _, hx => by simp at hx
  | c :: ids, H, x :: xs, j, b, hnd, hlt, hj, hx => by
    obtain ⟨h1, h2⟩ := List.nodup_cons.1 hnd
    simp only [setAll]
    cases j with
    | zero =>
      simp only [List.getElem?_cons_zero, Option.some.injEq] at hj
      subst hj
      rw [setAll_other ids _ xs c h1]
      simp [List.getElem?_set, hlt c (by simp)]
    | succ j =>
      simp only [List.getElem?_cons_succ] at hj ⊢
      exact setAll_at ids _ xs j b h2 (fun b hb => by simpa using hlt b (by simp [hb])) hj (by simpa using hx)
theorem unpackO_get {ids : List Nat} {base : Nat} {x : Option Blk} {B : Blk} (h : unpackO ids base x = some B) : ∃ B', x = some B' ∧ B'.live = B.live ∧ (∀ cs, B = .cells cs → B' = .cells cs) ∧ (∀ cs, B = .mix cs → ∃ cs', B' = .mix cs' ∧ cs = cs'.map (unpackC ids base)) := by
  cases x with
  | none => cases h
  | some B' =>
    cases B' with
    | cells cs => simp only [unpackO, Option.some.injEq] at h; subst h; exact ⟨_, rfl, rfl, fun _ e => e, fun _ e => by cases e⟩
    | gone => simp only [unpackO, Option.some.injEq] at h; subst h; exact ⟨_, rfl, rfl, fun _ e => e, fun _ e => by cases e⟩
    | mix cs => simp only [unpackO, Option.some.injEq] at h; subst h; exact ⟨_, rfl, rfl, (fun _ e => by cases e), (fun _ e => ⟨cs, rfl, (by cases e; rfl)⟩)⟩
/-- A number of the caller's behind the call: the callee's, or as it was. -/
theorem callApp_get (hnd : ids.Nodup) (hlt : ∀ b ∈ ids, b < H.length) (hlen : ids.length ≤ Hc.length) {b : Nat} {B : Blk} (h : (callApp H ids Hc)[b]? = some (some B)) :
    (b ∉ ids ∧ b < H.length ∧ H[b]? = some (some B)) ∨ ∃ j, b = unpackI ids H.length j ∧ (callD D D' H.length ids) b = D' j ∧ ∃ B', Hc[j]? = some (some B') ∧ B'.live = B.live ∧ (∀ cs, B = .cells cs → B' = .cells cs) ∧ (∀ cs, B = .mix cs → ∃ cs', B' = .mix cs' ∧ cs = cs'.map (unpackC ids H.length)) := by
  unfold callApp at h
  rw [List.getElem?_append, setAll_length] at h
  split at h
  · rename_i hb
    by_cases hm : b ∈ ids
    · right
      obtain ⟨j, hj⟩ := List.mem_iff_getElem?.1 hm
      have hjl : j < ids.length := (List.getElem?_eq_some_iff.1 hj).1
      rw [setAll_at ids H _ j b hnd hlt hj (by simp; omega)] at h
      rw [List.getElem?_map, List.getElem?_take, if_pos hjl] at h
      cases hx : Hc[j]? with
      | none => rw [hx] at h; cases h
      | some x =>
        rw [hx] at h
        simp only [Option.map_some, Option.some.injEq] at h
        obtain ⟨B', rfl, h2⟩ := unpackO_get h
        exact ⟨j, by simp only [unpackI, hj], by simp only [callD, posOf_of hnd hj], B', hx, h2⟩
    · left
      rw [setAll_other ids H _ b hm] at h
      exact ⟨hm, hb, h⟩
  · rename_i hb
    right
    rw [List.getElem?_map, List.getElem?_drop] at h
    cases hx : Hc[ids.length + (b - H.length)]? with
    | none => rw [hx] at h; cases h
    | some x =>
      rw [hx] at h
      simp only [Option.map_some, Option.some.injEq] at h
      obtain ⟨B', rfl, h2⟩ := unpackO_get h
      refine ⟨ids.length + (b - H.length), ?_, ?_, B', hx, h2⟩
      · simp only [unpackI]
        rw [List.getElem?_eq_none (by omega)]
        simp only []
        omega
      · have hn : posOf b ids 0 = none := by
          cases hp : posOf b ids 0 with
          | none => rfl
          | some m =>
            obtain ⟨q, _, h2⟩ := posOf_get _ ids 0 m hp
            exact absurd (hlt _ (List.mem_of_getElem? h2)) hb
        simp only [callD, hn, if_neg hb]
theorem callApp_set (hnd : ids.Nodup) (hlt : ∀ b ∈ ids, b < H.length) (hlen : ids.length ≤ Hc.length) {j : Nat} {B : Blk} (h : Hc[j]? = some (some B)) : ∃ B', (callApp H ids Hc)[unpackI ids H.length j]? = some (some B') := by
  unfold callApp unpackI
  rw [List.getElem?_append, setAll_length]
  cases hj : ids[j]? with
  | some b =>
    have hm := List.mem_of_getElem? hj
    have hjl : j < ids.length := (List.getElem?_eq_some_iff.1 hj).1
    simp only []
    rw [if_pos (hlt b hm), setAll_at ids H _ j b hnd hlt hj (by simp; omega), List.getElem?_map, List.getElem?_take, if_pos hjl, h]
    cases B <;> exact ⟨_, rfl⟩
  | none =>
    have hge : ids.length ≤ j := by
      rcases Nat.lt_or_ge j ids.length with h' | h'
      · rw [List.getElem?_eq_getElem h'] at hj; cases hj
      · exact h'
    simp only []
    rw [if_neg (by omega), List.getElem?_map, List.getElem?_drop, show ids.length + (H.length + (j - ids.length) - H.length) = j by omega, h]
    cases B <;> exact ⟨_, rfl⟩
/-- What must stay as it is while a callee runs: all but what it was lent. -/
def Nc (D : Nat → Option Nat) (ids : List Nat) (w : World) : Nat → Prop := fun k => k < w.heap.size ∧ ∀ j, packD D ids j ≠ some k
theorem nc_sub (hW : WRel D U N w0 H w) (hN : Lt N w) (k : Nat) (hk : N k) : Nc D ids w k := by
  refine ⟨hN k hk, fun j hj => ?_⟩
  unfold packD at hj
  split at hj <;> try (cases hj; done)
  exact (hW.own _ _ hj).1 hk
/-- A live block of the caller's that was not lent. -/
theorem nc_other (hW : WRel D U N w0 H w) (hlive : ∀ b ∈ ids, liveAt H b = true) {b k : Nat} {B : Blk} (hb : D b = some k) (hH : H[b]? = some (some B)) (hB : B.live = true) (hm : b ∉ ids) : Nc D ids w k := by
  refine ⟨(hW.own b k hb).2.1, fun j hj => ?_⟩
  unfold packD at hj
  split at hj <;> try (cases hj; done)
  rename_i c hc
  have hl := hlive c (List.mem_of_getElem? hc)
  unfold liveAt at hl
  split at hl <;> try (cases hl; done)
  rename_i B' hB'
  have := hW.inj b c k B B' hH hB' hB hl hb hj
  subst this
  exact hm (List.mem_of_getElem? hc)
theorem lent_ok (hW : WRel D U N w0 H w) (hN : Lt N w) (hnd : ids.Nodup) : WRel (packD D ids) U (Nc D ids w) w (packH H ids) w := by
  have h := hW.pack hnd
  exact ⟨Keeps.refl, h.old, fun b k hb => ⟨fun hk => hk.2 b hb, (h.own b k hb).2⟩, h.hold, h.holdm, h.all, h.inj⟩
theorem back_ok (hW : WRel D U N w0 H w) (hN : Lt N w) (hnd : ids.Nodup) (hlive : ∀ b ∈ ids, liveAt H b = true) (hlen : ids.length ≤ Hc.length) (hC : WRel D' U' (Nc D ids w) w Hc w') (ho : Onward (Nc D ids w) (packD D ids) U w D' U' w') :
    Onward N D U w (callD D D' H.length ids) U' w' ∧ WRel (callD D D' H.length ids) U' N w0 (callApp H ids Hc) w' := by
  have hlt : ∀ b ∈ ids, b < H.length := by
    intro b hb
    have := hlive b hb
    unfold liveAt at this
    split at this <;> try (cases this; done)
    rename_i B hB
    exact (List.getElem?_eq_some_iff.1 hB).1
  have hids : ∀ b k, D b = some k → callD D D' H.length ids b = some k := by
    intro b k hb
    have hbl : b < H.length := by
      obtain ⟨_, _, B, hB⟩ := hW.own b k hb
      exact (List.getElem?_eq_some_iff.1 hB).1
    unfold callD
    cases hp : posOf b ids 0 with
    | some j =>
      obtain ⟨m, h1, h2⟩ := posOf_get b ids 0 j hp
      have : j = m := by omega
      subst this
      exact ho.ids j k (by simp only [packD, h2, hb])
    | none => simp only [if_pos hbl]; exact hb
  have hon : Onward N D U w (callD D D' H.length ids) U' w' := by
    refine ⟨hids, ho.set, ho.keep, ho.size, fun k hk => (ho.back k hk).imp id (fun h hN' => h (nc_sub hW hN k hN')), ?_⟩
    intro b k cur T f hb hc
    by_cases hm : ∃ j, packD D ids j = some k
    · obtain ⟨j, hj⟩ := hm
      exact ho.siz j k cur T f hj hc
    · refine ⟨cur, ?_, rfl⟩
      rw [hC.below.block k ⟨(hW.own b k hb).2.1, fun j hj => hm ⟨j, hj⟩⟩]
      exact hc
  have other : ∀ b k, b ∉ ids → b < H.length → callD D D' H.length ids b = some k → D b = some k := by
    intro b k hm hb h
    unfold callD at h
    cases hp : posOf b ids 0 with
    | some j =>
      obtain ⟨m, h1, h2⟩ := posOf_get b ids 0 j hp
      exact absurd (List.mem_of_getElem? h2) hm
    | none => simp only [hp, if_pos hb] at h; exact h
  refine ⟨hon, hW.below.trans (hC.below.sub fun k hk => nc_sub hW hN k hk), hC.old, ?_, ?_, ?_, ?_, ?_⟩
  · intro b k hb
    have callee : ∀ j, D' j = some k → b = unpackI ids H.length j → ¬ N k ∧ k < w'.heap.size ∧ ∃ B, (callApp H ids Hc)[b]? = some (some B) := by
      intro j hj hbj
      obtain ⟨g1, g2, B, g3⟩ := hC.own j k hj
      refine ⟨fun h => g1 (nc_sub hW hN k h), g2, ?_⟩
      rw [hbj]
      exact callApp_set hnd hlt hlen g3
    have hb0 := hb
    unfold callD at hb
    cases hp : posOf b ids 0 with
    | some j =>
      simp only [hp] at hb
      obtain ⟨m, h1, h2⟩ := posOf_get b ids 0 j hp
      have : j = m := by omega
      subst this
      exact callee j hb (by simp only [unpackI, h2])
    | none =>
      simp only [hp] at hb
      split at hb
      · rename_i hbl
        obtain ⟨g1, g2, B, g3⟩ := hW.own b k hb
        refine ⟨g1, Nat.lt_of_lt_of_le g2 ho.size, B, ?_⟩
        unfold callApp
        rw [List.getElem?_append_left (by rw [setAll_length]; exact hbl), setAll_other ids H _ b (posOf_none hp)]
        exact g3
      · rename_i hbl
        refine callee _ hb ?_
        simp only [unpackI]
        rw [List.getElem?_eq_none (by omega)]
        simp only []
        omega
  · intro b k vs hb hH
    rcases callApp_get (D := D) (D' := D') hnd hlt hlen hH with ⟨hm, hbl, hH0⟩ | ⟨j, hbj, hD, B', hB', _, g3, _⟩
    · have hDb := other b k hm hbl hb
      obtain ⟨g1, cs, T, g2, g3, g4⟩ := hW.hold b k vs hDb hH0
      have hnc := nc_other hW hlive hDb hH0 rfl hm
      refine ⟨fun hu => (ho.back k hu).elim g1 fun h => h hnc, cs, T, by rw [hC.below.block k hnc]; exact g2, g3, fun i x v e1 e2 => (g4 i x v e1 e2).keep ho.set ho.keep ho.size⟩
    · rw [g3 vs rfl] at hB'
      rw [hD] at hb
      exact hC.hold j k vs hb hB'
  · intro b k vs hb hH
    rcases callApp_get (D := D) (D' := D') hnd hlt hlen hH with ⟨hm, hbl, hH0⟩ | ⟨j, hbj, hD, B', hB', _, _, g4⟩
    · have hDb := other b k hm hbl hb
      obtain ⟨g1, cs, T, g2, g3, g4⟩ := hW.holdm b k vs hDb hH0
      have hnc := nc_other hW hlive hDb hH0 rfl hm
      exact ⟨fun hu => (ho.back k hu).elim g1 fun h => h hnc, cs, T, by rw [hC.below.block k hnc]; exact g2, g3, fun i x v e1 e2 => (g4 i x v e1 e2).onward hon⟩
    · obtain ⟨cs', rfl, rfl⟩ := g4 vs rfl
      rw [hD] at hb
      obtain ⟨g1, cs, T, g2, g3, g4⟩ := hC.holdm j k cs' hb hB'
      refine ⟨g1, cs, T, g2, by simpa using g3, fun i x v e1 e2 => ?_⟩
      obtain ⟨y, hy, rfl⟩ := map_get e1
      exact unpackC_rep hnd hlt (g4 i y v hy e2)
  · intro b B hH
    rcases callApp_get (D := D) (D' := D') hnd hlt hlen hH with ⟨hm, hbl, hH0⟩ | ⟨j, hbj, hD, B', hB', _⟩
    · obtain ⟨k, hk⟩ := hW.all b B hH0
      exact ⟨k, hids b k hk⟩
    · obtain ⟨k, hk⟩ := hC.all j B' hB'
      exact ⟨k, by rw [hD]; exact hk⟩
  · intro b b' k B B' hH hH' l1 l2 hb hb'
    rcases callApp_get (D := D) (D' := D') hnd hlt hlen hH with ⟨hm, hbl, hH0⟩ | ⟨j, hbj, hD, C, hC1, hC2, _⟩ <;>
      rcases callApp_get (D := D) (D' := D') hnd hlt hlen hH' with ⟨hm', hbl', hH0'⟩ | ⟨j', hbj', hD', C', hC1', hC2', _⟩
    · exact hW.inj b b' k B B' hH0 hH0' l1 l2 (other b k hm hbl hb) (other b' k hm' hbl' hb')
    · have hnc := nc_other hW hlive (other b k hm hbl hb) hH0 l1 hm
      rw [hD'] at hb'
      exact absurd hnc (hC.own j' k hb').1
    · have hnc := nc_other hW hlive (other b' k hm' hbl' hb') hH0' l2 hm'
      rw [hD] at hb
      exact absurd hnc (hC.own j k hb).1
    · rw [hD] at hb
      rw [hD'] at hb'
      have := hC.inj j j' k C C' hC1 hC1' (hC2.trans l1) (hC2'.trans l2) hb hb'
      rw [hbj, hbj', this]
end call
end Go.Pv
namespace Go.Pv
open Go Go.RowKit

/-- The same list, written out. -/
noncomputable def frc {α : Type} (l : List α) : (List α → Option DV) → Option DV :=
  List.rec (motive := fun _ => (List α → Option DV) → Option DV) (fun k => k []) (fun x _ ih k => ih fun ys => k (x :: ys)) l
theorem frc_eq {α : Type} : ∀ (l : List α) (k : List α → Option DV), frc l k = k l
  | [], _ => rfl
  | x :: xs, k => frc_eq xs (fun ys => k (x :: ys))

/-- That the call may be anywhere, in memory that stays. -/
def Stab (I : World → Prop) : Prop := ∀ w w', I w → Below w.heap.size w w' → I w'
def callFin (n : Nat) (k : KK) : List Nat → VV → OH → Option DV
  | [], d, [] => k d .none
  | [], d, x :: Hc => k (unpackV [] n d) (.call [] (x :: Hc))
  | b :: ids, d, Hc => bif Nat.ble (b :: ids).length Hc.length then k (unpackV (b :: ids) n d) (.call (b :: ids) Hc) else none
noncomputable def callX (G : HRead) (H : OH) (xs : List VV) (k : KK) : Option DV :=
  frc (reachIds H xs) fun ids => frc (xs.map (packV ids)) fun ys => frc (packH H ids) fun Hp => G ys Hp fun d Hc => callFin H.length k ids d Hc
theorem callX_eq (G : HRead) (H : OH) (xs : List VV) (k : KK) : callX G H xs k = G (xs.map (packV (reachIds H xs))) (packH H (reachIds H xs)) fun d Hc => callFin H.length k (reachIds H xs) d Hc := by
  simp only [callX, frc_eq]
theorem reachIds_live (H : OH) (xs : List VV) : ∀ b ∈ reachIds H xs, liveAt H b = true := fun b hb => (liveIds_mem hb).2
/-- The operands of a call. -/
theorem call_args {U : Nat → Prop} {w : World} {D : Nat → Option Nat} {ρ : Operand → VV} {a : Act} {fi ca : Array Value} {args : Array Operand} (h : ∀ y ∈ args, VRep U w D (ρ y) (a.eval y)) :
    (fi ++ args.map a.eval ++ ca).size = (fi.toList.map (fun v => VV.dv (.val v)) ++ args.toList.map ρ ++ ca.toList.map (fun v => VV.dv (.val v))).length ∧
    ∀ (i : Nat) (x : VV) (v : Value), (fi.toList.map (fun v => VV.dv (.val v)) ++ args.toList.map ρ ++ ca.toList.map (fun v => VV.dv (.val v)))[i]? = some x → (fi ++ args.map a.eval ++ ca)[i]? = some v → VRep U w D x v := by
  refine ⟨by simp, fun i x v h1 h2 => ?_⟩
  rw [← Array.getElem?_toList] at h2
  simp only [Array.toList_append, Array.toList_map] at h2
  rw [List.append_assoc, List.getElem?_append] at h1 h2
  simp only [List.length_map, Array.length_toList] at h1 h2
  split at h1
  · simp only [*, if_true] at h2
    obtain ⟨u, hu, rfl⟩ := map_get h1
    rw [hu] at h2; cases h2
    exact DRep.val _
  · rename_i hni
    simp only [hni, if_false] at h2
    rw [List.getElem?_append] at h1 h2
    simp only [List.length_map, Array.length_toList] at h1 h2
    split at h1
    · rename_i hlt
      simp only [hlt, if_true] at h2
      obtain ⟨y, hy, rfl⟩ := map_get h1
      obtain ⟨y', hy', rfl⟩ := map_get h2
      rw [hy] at hy'; cases hy'
      exact h y (by have := List.mem_of_getElem? hy; simpa using this)
    · rename_i hlt
      simp only [hlt, if_false] at h2
      obtain ⟨u, hu, rfl⟩ := map_get h1
      rw [hu] at h2; cases h2
      exact DRep.val _
theorem pack_args {U : Nat → Prop} {w : World} {D : Nat → Option Nat} {xs : List VV} {args : Array Value} (ids : List Nat) (h : ∀ (i : Nat) (x : VV) (v : Value), xs[i]? = some x → args[i]? = some v → VRep U w D x v) :
    ∀ (i : Nat) (x : VV) (v : Value), (xs.map (packV ids))[i]? = some x → args[i]? = some v → VRep U w (packD D ids) x v := by
  intro i x v h1 h2
  obtain ⟨y, hy, rfl⟩ := map_get h1
  exact packV_rep ids (h i y v hy h2)
theorem callX_good {P : Program} {I : World → Prop} (hst : Stab I) {G : HRead} {g : FuncId} (HG : MeetsH P I g G) {ρ : Operand → VV} {o : Oper} {c : Call} {H : OH} {id : Nat} {first captured : Array Value} (ho : o.op = .call c) (hc : calleeOf ρ c = some (g, first, captured)) :
    Good P I o ρ H id (callX G H (first.toList.map (fun v => VV.dv (.val v)) ++ c.args.toList.map ρ ++ captured.toList.map (fun v => VV.dv (.val v)))) := by
  intro k r h
  generalize hxs : first.toList.map (fun v => VV.dv (.val v)) ++ c.args.toList.map ρ ++ captured.toList.map (fun v => VV.dv (.val v)) = xs at h ⊢
  rw [callX_eq] at h
  obtain ⟨hg, d, Hc, hk, hnat, hm⟩ := HG _ _ _ _ h
  have hall : ∀ k', callX G H xs k' = callFin H.length k' (reachIds H xs) d Hc := fun k' => by rw [callX_eq, hnat]
  -- how the call is entered
  have hrun : ∀ (D : Nat → Option Nat) (U : Nat → Prop) (w : World) (a : Act), (∀ y ∈ o.op.operands, VRep U w D (ρ y) (a.eval y)) →
      (execOp a.eval o).run P w = .ok (.enter g (first ++ c.args.map a.eval ++ captured)) w := by
    intro D U w a hops
    unfold calleeOf at hc
    cases hcal : c.callee with
    | invoke r m => simp [hcal] at hc
    | builtin b => simp [hcal] at hc
    | value f =>
      simp only [hcal] at hc
      have hfop : f ∈ o.op.operands := by simp [ho, Op.operands, Call.operands, hcal]
      have hrf := hops f hfop
      cases hfl : (ρ f).flat with
      | none => simp [hfl] at hc
      | some fv =>
        have hev := VV.flat_rep hfl hrf
        simp only [hfl] at hc
        cases fv <;> try (simp at hc; done)
        rename_i fn fi ca
        cases fn <;> simp at hc
        rename_i g'
        obtain ⟨rfl, rfl, rfl⟩ := hc
        simp [execOp, ho, resolve, hcal, hev, Deferred.ofValue, invoke, run_callFunc hg, Array.append_assoc]
  have hargs : ∀ y ∈ c.args, y ∈ o.op.operands := by
    intro y hy
    rw [ho]; simp only [Op.operands, Call.operands]
    exact Array.mem_append.2 (.inr hy)
  have seq : ∀ Hc', Hc' = Hc → (reachIds H xs).length ≤ Hc.length → OpSeq P I o ρ H (unpackV (reachIds H xs) H.length d) (.call (reachIds H xs) Hc') := by
    rintro _ rfl hlen D U N w0 w a next Q hI hW hN hops hn
    obtain ⟨a1, a2⟩ := call_args (fi := first) (ca := captured) (fun y hy => hops y (hargs y hy))
    rw [hxs] at a1 a2
    unfold Oper.wp
    rw [hrun D U w a hops]
    have hnd := reachIds_nodup H xs
    refine Calls.mono (hm (packD D (reachIds H xs)) U (Nc D (reachIds H xs) w) w w _ (fun w' h' => hI w' (hW.below.trans (h'.sub fun k hk => nc_sub hW hN k hk))) (lent_ok hW hN hnd) (fun k hk => hk.1) (by simpa using a1) (pack_args _ a2)) ?_
    rintro e w' ⟨v, D', U', rfl, h1, h2, h3⟩
    obtain ⟨b1, b2⟩ := back_ok hW hN hnd (reachIds_live H xs) hlen h2 h1
    exact hn v w' _ U' b1 b2 (unpackV_rep hnd (fun b hb => by
      have := reachIds_live H xs b hb
      unfold liveAt at this
      split at this <;> try (cases this; done)
      rename_i B hB
      exact (List.getElem?_eq_some_iff.1 hB).1) h3)
  cases hi : reachIds H xs with
  | cons b ids =>
    rw [hi] at hk
    simp only [callFin] at hk
    cases hb : Nat.ble (b :: ids).length Hc.length with
    | false => rw [hb] at hk; cases hk
    | true =>
      rw [hb] at hk
      refine ⟨_, _, hk, fun k' => by rw [hall, hi]; simp only [callFin, hb, cond_true], fun hid => ?_⟩
      rw [← hi]
      exact seq Hc rfl (by rw [hi]; exact Nat.le_of_ble_eq_true hb)
  | nil =>
    rw [hi] at hk
    cases hHc : Hc with
    | cons x Hc0 =>
      rw [hHc] at hk
      refine ⟨_, _, hk, fun k' => by rw [hall, hi, hHc]; rfl, fun hid => ?_⟩
      have := seq (x :: Hc0) hHc.symm (by rw [hi]; simp)
      rw [hi] at this
      exact this
    | nil =>
      rw [hHc] at hk
      refine ⟨_, _, hk, fun k' => by rw [hall, hi, hHc]; rfl, ?_⟩
      intro D U N w0 H' w a next Q hI hC hW hN _ _ hops hn
      obtain ⟨a1, a2⟩ := call_args (fi := first) (ca := captured) (fun y hy => hops y (hargs y hy))
      rw [hxs] at a1 a2
      unfold Oper.wp
      rw [hrun D U w a hops]
      have hp : packH H (reachIds H xs) = packH H' [] := by rw [hi]; rfl
      refine Calls.mono (hm (packD D []) U (Nc D [] w) w w _ (fun w' h' => ?_) (by rw [hp]; exact lent_ok hW hN (by simp)) (fun k hk => hk.1) (by simpa using a1) (by have := pack_args (D := D) [] a2; rw [hi]; exact this)) ?_
      · exact hst w w' hI ⟨h'.os, h'.tape, h'.output, h'.size, fun k hk => h'.block k ⟨hk, fun j hj => by simp [packD] at hj⟩⟩
      · rintro e w' ⟨v, D', U', rfl, h1, h2, h3⟩
        rw [hHc] at h2
        have hD' : D' = fun _ => none := by
          funext j
          cases hj : D' j with
          | none => rfl
          | some k => obtain ⟨_, _, B, hB⟩ := h2.own j k hj; simp at hB
        obtain ⟨b1, b2⟩ := back_ok (H := H') hW hN (by simp) (by simp) (by simp) h2 h1
        have hcd : callD D D' H'.length [] = D := by
          funext b
          simp only [callD, posOf, hD']
          split
          · rfl
          · rename_i hb
            exact (hW.fresh (Nat.le_of_not_lt hb)).symm
        have hca : callApp H' [] [] = H' := by simp [callApp, setAll]
        rw [hcd] at b1 b2
        rw [hca] at b2
        refine hn v w' D U' b1 b2 (fun _ h _ => h) ?_
        rw [hD'] at h3
        exact h3.onward (N := N) (D' := D) ⟨(fun _ _ h => by cases h), (fun _ h => h), (fun _ _ => rfl), Nat.le_refl _, (fun _ h => .inl h), (fun _ _ cur _ _ h _ => by cases h)⟩
end Go.Pv
namespace Go.Pv
open Go Go.RowKit

/-- What an argument is read as; which blocks of the caller's own it stands in. -/
def argD (P : Program) (H : OH) (x : VV) (t : TypeId) : Option (DV × List Nat) :=
  match x with
  | .dv d => some (normT P t d, [])
  | .osl _ _ b of n => match P.underlying t with
    | some (.slice e) => match P.info? e with
      | some i => match H[b]? with
        | some (some (.cells cs)) => bif Nat.ble (of + n * i.size) cs.length then some (.lst i.size (chunks i.size n (cs.drop of)), [b]) else none
        | _ => none
      | none => none
    | _ => none
  | _ => none
def argsD (P : Program) (H : OH) : List VV → List TypeId → Option (List DV × List Nat)
  | [], _ => some ([], [])
  | x :: xs, t :: ts => match argD P H x t, argsD P H xs ts with
    | some (d, a), some (l, b) => some (d :: l, a ++ b)
    | _, _ => none
  | _ :: _, [] => none
/-- The same, handed on. -/
def argsK (P : Program) (H : OH) : List VV → List TypeId → (List DV → List Nat → Option DV) → Option DV
  | [], _, k => k [] []
  | .dv d :: xs, t :: ts, k => argsK P H xs ts fun l b => k (normT P t d :: l) b
  | .osl _ _ b of n :: xs, t :: ts, k => match P.underlying t with
    | some (.slice e) => match P.info? e with
      | some i => match H[b]? with
        | some (some (.cells cs)) => bif Nat.ble (of + n * i.size) cs.length then argsK P H xs ts fun l bs => k (.lst i.size (chunks i.size n (cs.drop of)) :: l) (b :: bs) else none
        | _ => none
      | none => none
    | _ => none
  | _, _, _ => none
theorem argsK_eq (P : Program) (H : OH) : ∀ (xs : List VV) (ts : List TypeId) (k : List DV → List Nat → Option DV), argsK P H xs ts k = match argsD P H xs ts with | some (ds, bs) => k ds bs | none => none
  | [], ts, k => by simp only [argsK, argsD]
  | x :: xs, [], k => by cases x <;> simp only [argsK, argsD]
  | x :: xs, t :: ts, k => by
    cases x with
    | dv d =>
      simp only [argsK, argsD, argD, argsK_eq P H xs ts]
      cases argsD P H xs ts with
      | none => rfl
      | some p => obtain ⟨l, b⟩ := p; simp
    | osl e sz b o n =>
      have ih := argsK_eq P H xs ts
      simp only [argsK, argsD, argD]
      cases hA : argsD P H xs ts with
      | none =>
        rw [hA] at ih
        cases P.underlying t with
        | none => rfl
        | some td =>
          cases td <;> try rfl
          rename_i e2
          dsimp only
          cases P.info? e2 with
          | none => rfl
          | some i =>
            simp only []
            cases hb : H[b]? with
            | none => rfl
            | some y =>
              cases y with
              | none => rfl
              | some B =>
                cases B with
                | gone => rfl
                | mix cs => rfl
                | cells cs =>
                  simp only []
                  cases hl : Nat.ble (o + n * i.size) cs.length with
                  | false => rfl
                  | true => simp only [cond_true, ih]
      | some p =>
        obtain ⟨l, bs⟩ := p
        rw [hA] at ih
        cases P.underlying t with
        | none => rfl
        | some td =>
          cases td <;> try rfl
          rename_i e2
          dsimp only
          cases P.info? e2 with
          | none => rfl
          | some i =>
            simp only []
            cases hb : H[b]? with
            | none => rfl
            | some y =>
              cases y with
              | none => rfl
              | some B =>
                cases B with
                | gone => rfl
                | mix cs => rfl
                | cells cs =>
                  simp only []
                  cases hl : Nat.ble (o + n * i.size) cs.length with
                  | false => rfl
                  | true => simp only [cond_true, ih, List.singleton_append]
    | _ => simp only [argsK, argsD, argD] <;> (cases argsD P H xs ts <;> rfl)
/-- What nobody writes during a call: what was settled, and the caller's own. -/
def U3 (U : Nat → Prop) (D : Nat → Option Nat) : Nat → Prop := fun k => U k ∨ ∃ b, D b = some k
/-- What was settled, and some of the caller's own. -/
def U4 (U : Nat → Prop) (D : Nat → Option Nat) (bs : List Nat) : Nat → Prop := fun k => U k ∨ ∃ b, b ∈ bs ∧ D b = some k
/-- A slice of the call's own, as it stands. -/
theorem osl_rep0 {H : OH} {D : Nat → Option Nat} {U : Nat → Prop} {N : Nat → Prop} {w0 w : World} (hW : WRel D U N w0 H w) {sz b of n k c : Nat} {cs : List DV} (hk : D b = some k) (hc : n ≤ c) (hb : H[b]? = some (some (.cells cs))) (hl' : of + n * sz ≤ cs.length) {V : Nat → Prop} (hV1 : ∀ k, U k → V k) (hV2 : V k) : DRep V w (.lst sz (chunks sz n (cs.drop of))) (.slice (some ⟨k, of, none⟩) n c) := by
  obtain ⟨n2, cur, T, g3, g5, g6⟩ := hW.hold b k cs hk hb
  have hcell : ∀ m x, cs[m]? = some x → ∃ u, w.cell? ⟨k, m, none⟩ = some u ∧ DRep U w x u := by
    intro m x hm
    have hlt : m < cur.size := by have := (List.getElem?_eq_some_iff.1 hm).1; omega
    exact ⟨cur[m], by simp [World.cell?, g3, hlt], g6 m x _ hm (Array.getElem?_eq_getElem hlt)⟩
  have hat : ∀ (p j : Nat) (el : List DV) (x : DV), (chunks sz n (cs.drop of))[p]? = some el → el[j]? = some x → ∃ u, w.cell? ⟨k, of + p * sz + j, none⟩ = some u ∧ DRep U w x u := by
    intro p j el x h1 h2
    have := chunks_get sz n (cs.drop of) p j el x h1 h2
    rw [List.getElem?_drop] at this
    obtain ⟨u, h3, h4⟩ := hcell _ x this
    exact ⟨u, by rw [show of + p * sz + j = of + (p * sz + j) by omega]; exact h3, h4⟩
  have := DRep.lst (U := V) (w := w) (sz := sz) (b := k) (off := of) (c := c) (es := chunks sz n (cs.drop of)) (g := fun p j => (w.cell? ⟨k, of + p * sz + j, none⟩).getD undef)
    hV2 (lt_of_heap g3) (by rw [chunks_length]; exact hc) (chunks_size sz n (cs.drop of) (by simp; omega))
    (fun p j el x h1 h2 => by obtain ⟨u, h3, _⟩ := hat p j el x h1 h2; rw [h3]; rfl)
    (fun p j el x h1 h2 => by
      obtain ⟨u, h3, h4⟩ := hat p j el x h1 h2
      rw [h3]
      exact DRep.keep (U := U) (U' := V) (w := w) (w' := w) hV1 (fun _ _ => rfl) (Nat.le_refl _) h4)
  rw [chunks_length] at this
  exact this
theorem osl_rep {H : OH} {D : Nat → Option Nat} {U : Nat → Prop} {N : Nat → Prop} {w0 w : World} (hW : WRel D U N w0 H w) {e : TypeId} {sz b of n : Nat} {cs : List DV} (hb : H[b]? = some (some (.cells cs))) (hl' : of + n * sz ≤ cs.length) {v : Value} (hv : VRep U w D (.osl e sz b of n) v) {V : Nat → Prop} (hV1 : ∀ k, U k → V k) (hV2 : ∀ k, D b = some k → V k) : DRep V w (.lst sz (chunks sz n (cs.drop of))) v := by
  obtain ⟨k, c, cur0, hk, hc, _, _, rfl⟩ := hv
  exact osl_rep0 hW hk hc hb hl' hV1 (hV2 k hk)
theorem argD_ok {P : Program} {H H' : OH} {x : VV} {t : TypeId} {d : DV} {bs : List Nat} (h : argD P H x t = some (d, bs)) {D : Nat → Option Nat} {U : Nat → Prop} {N : Nat → Prop} {w0 w : World} (hW : WRel D U N w0 H' w) (hC : Compat H H') {v : Value} (hv : VRep U w D x v) :
    DRep (U4 U D bs) w d v ∧ ∀ b ∈ bs, liveAt H b = true := by
  unfold argD at h
  split at h <;> try (cases h; done)
  · simp only [Option.some.injEq, Prod.mk.injEq] at h
    obtain ⟨rfl, rfl⟩ := h
    exact ⟨normT_rep (DRep.keep (U := U) (w := w) (w' := w) (fun _ h => .inl h) (fun _ _ => rfl) (Nat.le_refl _) hv), by simp⟩
  · rename_i e2 sz2 b of n
    split at h <;> try (cases h; done)
    rename_i e hu
    split at h <;> try (cases h; done)
    rename_i i hi
    split at h <;> try (cases h; done)
    rename_i cs hb
    cases hl : Nat.ble (of + n * i.size) cs.length with
    | false => simp [hl] at h
    | true =>
      simp only [hl, cond_true, Option.some.injEq, Prod.mk.injEq] at h
      obtain ⟨rfl, rfl⟩ := h
      have hl' := Nat.le_of_ble_eq_true hl
      obtain ⟨k, c, cur0, hk, hc, hh, hs, rfl⟩ := hv
      obtain ⟨n1, n3, B, g4⟩ := hW.own b k hk
      have e := hC b _ _ hb g4
      subst e
      refine ⟨osl_rep0 hW hk hc g4 hl' (fun _ h => .inl h) (.inr ⟨b, by simp, hk⟩), fun b' hb' => ?_⟩
      simp at hb'
      subst hb'
      simp only [liveAt, hb]
      rfl
theorem U4_mono {U : Nat → Prop} {D : Nat → Option Nat} {w : World} {bs cs : List Nat} (h : ∀ b, b ∈ bs → b ∈ cs) {d : DV} {v : Value} (hd : DRep (U4 U D bs) w d v) : DRep (U4 U D cs) w d v :=
  DRep.keep (w := w) (w' := w) (fun k hk => hk.imp id fun ⟨b, h1, h2⟩ => ⟨b, h b h1, h2⟩) (fun _ _ => rfl) (Nat.le_refl _) hd
theorem argsD_ok {P : Program} {H H' : OH} {D : Nat → Option Nat} {U : Nat → Prop} {N : Nat → Prop} {w0 w : World} (hW : WRel D U N w0 H' w) (hC : Compat H H') : ∀ (xs : List VV) (ts : List TypeId) (ds : List DV) (bs : List Nat) (vs : List Value), argsD P H xs ts = some (ds, bs) → vs.length = xs.length →
    (∀ (i : Nat) (x : VV) (v : Value), xs[i]? = some x → vs[i]? = some v → VRep U w D x v) →
    ds.length = xs.length ∧ (∀ (i : Nat) (d : DV) (v : Value), ds[i]? = some d → vs[i]? = some v → DRep (U4 U D bs) w d v) ∧ ∀ b ∈ bs, liveAt H b = true
  | [], _, ds, bs, vs, h, hl, _ => by
    simp only [argsD, Option.some.injEq, Prod.mk.injEq] at h
    obtain ⟨rfl, rfl⟩ := h
    exact ⟨rfl, by simp, by simp⟩
  | x :: xs, [], ds, bs, vs, h, _, _ => by simp [argsD] at h
  | x :: xs, t :: ts, ds, bs, vs, h, hl, hr => by
    simp only [argsD] at h
    split at h <;> try (cases h; done)
    rename_i d a l b h1 h2
    simp only [Option.some.injEq, Prod.mk.injEq] at h
    obtain ⟨rfl, rfl⟩ := h
    match vs, hl with
    | v :: vs, hl =>
      obtain ⟨g1, g2⟩ := argD_ok h1 hW hC (hr 0 x v rfl rfl)
      obtain ⟨r1, r2, r3⟩ := argsD_ok hW hC xs ts l b vs h2 (by simpa using hl) (fun i x v e1 e2 => hr (i + 1) x v (by simpa using e1) (by simpa using e2))
      refine ⟨by simp [r1], ?_, ?_⟩
      · intro i y u e1 e2
        cases i with
        | zero => simp at e1 e2; subst e1; subst e2; exact U4_mono (fun b hb => List.mem_append_left _ hb) g1
        | succ i => exact U4_mono (fun b hb => List.mem_append_right _ hb) (r2 i y u (by simpa using e1) (by simpa using e2))
      · intro b' hb'
        rcases List.mem_append.1 hb' with h | h
        · exact g2 b' h
        · exact r3 b' h

/-- What is gone on with behind a call that read some of the caller's own. -/
def ownFin (k : KK) : List Nat → DV → Option DV
  | [], d => k (.dv d) .none
  | _ :: _, .val v => k (.dv (.val v)) .none
  | b :: bs, d => k (.dv d) (.ice (b :: bs))
theorem goneAll_get : ∀ (bs : List Nat) (H : OH) (b : Nat) (B : Blk), (goneAll H bs)[b]? = some (some B) → B.live = true → b ∉ bs ∧ H[b]? = some (some B)
  | [], H, b, B, h, _ => ⟨by simp, h⟩
  | c :: bs, H, b, B, h, hl => by
    simp only [goneAll] at h
    obtain ⟨h1, h2⟩ := goneAll_get bs _ b B h hl
    by_cases e : b = c
    · subst e
      rw [List.getElem?_set] at h2
      simp only [if_true] at h2
      split at h2
      · simp only [Option.some.injEq] at h2; subst h2; cases hl
      · cases h2
    · rw [List.getElem?_set_ne (Ne.symm e)] at h2
      exact ⟨by simp [e, h1], h2⟩
theorem goneAll_set : ∀ (bs : List Nat) (H : OH) (b : Nat) (B : Blk), H[b]? = some (some B) → ∃ B', (goneAll H bs)[b]? = some (some B')
  | [], H, b, B, h => ⟨B, h⟩
  | c :: bs, H, b, B, h => by
    simp only [goneAll]
    by_cases e : b = c
    · subst e
      exact goneAll_set bs _ b .gone (by simp [List.getElem?_set, (List.getElem?_eq_some_iff.1 h).1])
    · exact goneAll_set bs _ b B (by rw [List.getElem?_set_ne (Ne.symm e)]; exact h)
theorem goneAll_back : ∀ (bs : List Nat) (H : OH) (b : Nat) (B : Blk), (∀ b ∈ bs, ∃ B, H[b]? = some (some B)) → (goneAll H bs)[b]? = some (some B) → ∃ B', H[b]? = some (some B')
  | [], H, b, B, _, h => ⟨B, h⟩
  | c :: bs, H, b, B, hb, h => by
    simp only [goneAll] at h
    obtain ⟨B0, h0⟩ := hb c (by simp)
    have hcl := (List.getElem?_eq_some_iff.1 h0).1
    obtain ⟨B', h'⟩ := goneAll_back bs _ b B (fun x hx => by
      by_cases e : x = c
      · subst e; exact ⟨.gone, by simp [List.getElem?_set, hcl]⟩
      · obtain ⟨B1, h1⟩ := hb x (by simp [hx]); exact ⟨B1, by rw [List.getElem?_set_ne (Ne.symm e)]; exact h1⟩) h
    by_cases e : b = c
    · subst e; exact ⟨B0, h0⟩
    · rw [List.getElem?_set_ne (Ne.symm e)] at h'; exact ⟨B', h'⟩
/-- Some blocks given up: nobody writes them from now on. -/
theorem WRel.ice {D : Nat → Option Nat} {U : Nat → Prop} {N : Nat → Prop} {w0 w : World} {H : OH} (hW : WRel D U N w0 H w) (bs : List Nat) (hbs : ∀ b ∈ bs, liveAt H b = true) : WRel D (U4 U D bs) N w0 (goneAll H bs) w ∧ Onward N D U w D (U4 U D bs) w := by
  have hlive : ∀ b ∈ bs, ∃ B, H[b]? = some (some B) ∧ B.live = true := by
    intro b hb
    have := hbs b hb
    unfold liveAt at this
    split at this <;> try (cases this; done)
    rename_i B hB
    exact ⟨B, hB, this⟩
  have ho : Onward N D U w D (U4 U D bs) w := ⟨fun _ _ h => h, fun _ h => .inl h, fun _ _ => rfl, Nat.le_refl _, fun k hk => hk.imp id (fun ⟨b, _, hb⟩ => (hW.own b k hb).1), fun _ _ cur _ _ _ h => ⟨cur, h, rfl⟩⟩
  have hnot : ∀ b k B, D b = some k → H[b]? = some (some B) → B.live = true → b ∉ bs → ¬ U k → ¬ U4 U D bs k := by
    intro b k B hb hH hB hm hu h
    rcases h with h | ⟨c, hc, hck⟩
    · exact hu h
    · obtain ⟨B', hB', hl'⟩ := hlive c hc
      have := hW.inj b c k B B' hH hB' hB hl' hb hck
      subst this
      exact hm hc
  refine ⟨⟨hW.below, fun k hk => hk.elim (hW.old k) (fun ⟨b, _, hb⟩ => (hW.own b k hb).2.1), ?_, ?_, ?_, ?_, ?_⟩, ho⟩
  · intro b k hb
    obtain ⟨g1, g2, B, g3⟩ := hW.own b k hb
    exact ⟨g1, g2, goneAll_set bs H b B g3⟩
  · intro b k vs hb hH
    obtain ⟨hm, hH0⟩ := goneAll_get bs H b _ hH rfl
    obtain ⟨g1, cs, T, g2, g3, g4⟩ := hW.hold b k vs hb hH0
    exact ⟨hnot b k _ hb hH0 rfl hm g1, cs, T, g2, g3, fun i x v e1 e2 => (g4 i x v e1 e2).keep ho.set ho.keep ho.size⟩
  · intro b k vs hb hH
    obtain ⟨hm, hH0⟩ := goneAll_get bs H b _ hH rfl
    obtain ⟨g1, cs, T, g2, g3, g4⟩ := hW.holdm b k vs hb hH0
    exact ⟨hnot b k _ hb hH0 rfl hm g1, cs, T, g2, g3, fun i x v e1 e2 => (g4 i x v e1 e2).onward ho⟩
  · intro b B hH
    obtain ⟨B', hB'⟩ := goneAll_back bs H b B (fun b hb => (hlive b hb).imp fun _ h => h.1) hH
    exact hW.all b B' hB'
  · intro b b' k B B' h1 h2 l1 l2 d1 d2
    exact hW.inj b b' k B B' (goneAll_get bs H b _ h1 l1).2 (goneAll_get bs H b' _ h2 l2).2 l1 l2 d1 d2
/-- That all readings are right. -/
structure KGood (P : Program) (I : World → Prop) (K : Tab) : Prop where
  st : Stab I
  f : ∀ g, Meets P I g (K.f g)
  h : ∀ g G, K.h g = some G → MeetsH P I g G
noncomputable def callQ (P : Program) (K : Tab) (ρ : Operand → VV) (H : OH) (id : Nat) (o : Oper) (c : Call) (k : KK) : Option DV :=
  match calleeOf ρ c with
  | some (g, first, captured) => match K.h g with
    | some G => callX G H (first.toList.map (fun v => VV.dv (.val v)) ++ c.args.toList.map ρ ++ captured.toList.map (fun v => VV.dv (.val v))) k
    | none => argsK P H (c.args.toList.map ρ) c.argTypes.toList fun ds bs => K.f g (first.toList.map DV.val ++ ds ++ captured.toList.map DV.val) fun d => ownFin k bs d
  | none => match c.callee with
    | .builtin .len => lenQ P ρ o c k
    | .builtin .append => appendQ P ρ H id c k
    | .builtin .copy => copyQ P ρ H c k
    | _ => flatK P ρ o k
theorem ownFin_inv {k : KK} {bs : List Nat} {d : DV} {r : DV} (h : ownFin k bs d = some r) : (k (.dv d) .none = some r ∧ (∀ k', ownFin k' bs d = k' (.dv d) .none) ∧ (bs = [] ∨ ∃ v, d = .val v)) ∨ (k (.dv d) (.ice bs) = some r ∧ ∀ k', ownFin k' bs d = k' (.dv d) (.ice bs)) := by
  cases bs with
  | nil => exact .inl ⟨h, fun _ => rfl, .inl rfl⟩
  | cons b bs =>
    cases d with
    | val v => exact .inl ⟨h, fun _ => rfl, .inr ⟨v, rfl⟩⟩
    | agg cs => exact .inr ⟨h, fun _ => rfl⟩
    | tup cs => exact .inr ⟨h, fun _ => rfl⟩
    | lst sz es => exact .inr ⟨h, fun _ => rfl⟩
    | err => exact .inr ⟨h, fun _ => rfl⟩
theorem callQ_good {P : Program} {I : World → Prop} {K : Tab} (HK : KGood P I K) {ρ : Operand → VV} {o : Oper} {c : Call} {H : OH} {id : Nat} (ho : o.op = .call c) : Good P I o ρ H id (callQ P K ρ H id o c) := by
  intro k r h
  unfold callQ at h
  split at h
  · rename_i g first captured hc
    split at h
    · rename_i G hG
      obtain ⟨x', y', h1, h2, h3⟩ := callX_good (H := H) (id := id) HK.st (HK.h g G hG) ho hc k r h
      exact ⟨x', y', h1, fun k' => by simp only [callQ, hc, hG]; exact h2 k', h3⟩
    · rename_i hG
      rw [argsK_eq] at h
      split at h <;> try (cases h; done)
      rename_i ds bs hd
      obtain ⟨hg, d, hk, hnat, hm⟩ := HK.f g _ _ _ h
      -- how the call goes, over what it reads
      have run : ∀ (D : Nat → Option Nat) (U : Nat → Prop) (N : Nat → Prop) (w0 : World) (H' : OH) (w : World) (a : Act), I w → Compat H H' → WRel D U N w0 H' w → (∀ y ∈ o.op.operands, VRep U w D (ρ y) (a.eval y)) →
          ∃ args, (execOp a.eval o).run P w = .ok (.enter g args) w ∧ (∀ b ∈ bs, liveAt H b = true) ∧ Calls P g args w fun e w' => ∃ v, e = .returned v ∧ Below w.heap.size w w' ∧ DRep (U2 (U4 U D bs) w w') w' d v := by
        intro D U N w0 H' w a hI hC hW hops
        have hc0 := hc
        unfold calleeOf at hc
        cases hcal : c.callee with
        | invoke r m => simp [hcal] at hc
        | builtin b => simp [hcal] at hc
        | value f =>
          simp only [hcal] at hc
          have hfop : f ∈ o.op.operands := by simp [ho, Op.operands, Call.operands, hcal]
          have hrf := hops f hfop
          cases hfl : (ρ f).flat with
          | none => simp [hfl] at hc
          | some fv =>
            have hev := VV.flat_rep hfl hrf
            simp only [hfl] at hc
            cases fv <;> try (simp at hc; done)
            rename_i fn fi ca
            cases fn <;> simp at hc
            rename_i g'
            obtain ⟨rfl, rfl, rfl⟩ := hc
            have hrun : (execOp a.eval o).run P w = .ok (.enter g' (fi ++ c.args.map a.eval ++ ca)) w := by
              simp [execOp, ho, resolve, hcal, hev, Deferred.ofValue, invoke, run_callFunc hg, Array.append_assoc]
            obtain ⟨r1, r2, r3⟩ := argsD_ok (P := P) hW hC (c.args.toList.map ρ) c.argTypes.toList ds bs (c.args.toList.map a.eval) hd (by simp) (by
              intro i x v e1 e2
              simp only [List.getElem?_map, Option.map_eq_some_iff] at e1 e2
              obtain ⟨y, hy, rfl⟩ := e1
              obtain ⟨y', hy', rfl⟩ := e2
              rw [hy] at hy'; cases hy'
              refine hops y ?_
              simp only [ho, Op.operands, Call.operands, hcal]
              exact Array.mem_append.2 (.inr (by have := List.mem_of_getElem? hy; simpa using this)))
            have hlen : ds.length = c.args.size := by rw [r1]; simp
            refine ⟨_, hrun, r3, hm (U4 U D bs) w _ hI ?_ (by simp [hlen]) ?_⟩
            · intro k hk
              rcases hk with hk | ⟨b, _, hb⟩
              · exact hW.old k hk
              · exact (hW.own b k hb).2.1
            · intro i x v h1 h2
              rw [← Array.getElem?_toList] at h2
              simp only [Array.toList_append, Array.toList_map] at h2
              rw [List.append_assoc, List.getElem?_append] at h1 h2
              simp only [List.length_map, Array.length_toList] at h1 h2
              split at h1
              · simp only [*, if_true] at h2
                simp at h1 h2
                obtain ⟨u, hu, rfl⟩ := h1
                rw [hu] at h2; cases h2; exact .val _
              · rename_i hni
                simp only [hni, if_false] at h2
                rw [List.getElem?_append] at h1 h2
                simp only [List.length_map, Array.length_toList] at h1 h2
                rw [← hlen] at h2
                split at h1
                · rename_i hlt
                  simp only [hlt, if_true] at h2
                  exact r2 _ x v h1 h2
                · rename_i hlt
                  simp only [hlt, if_false] at h2
                  simp at h1 h2
                  obtain ⟨u, hu, rfl⟩ := h1
                  rw [hu] at h2; cases h2; exact .val _
      rcases ownFin_inv hk with ⟨hk1, hk2, hk3⟩ | ⟨hk1, hk2⟩
      · refine ⟨_, _, hk1, fun k' => by simp only [callQ, hc, hG, argsK_eq, hd]; rw [hnat]; exact hk2 k', ?_⟩
        intro D U N w0 H' w a next Q hI hC hW hN _ _ hops hn
        obtain ⟨args, hrun, _, hcalls⟩ := run D U N w0 H' w a hI hC hW hops
        unfold Oper.wp
        rw [hrun]
        refine Calls.mono hcalls ?_
        rintro e w' ⟨v, rfl, hb, hr⟩
        refine hn v w' D (U2 U w w') (onward_below hN hW.old hb) (hW.below' hN hb) (fun _ h _ => h) ?_
        rcases hk3 with rfl | ⟨v', rfl⟩
        · exact DRep.keep (w := w') (w' := w') (fun k hk => hk.imp (fun h => h.elim (fun h => h) (fun ⟨_, h, _⟩ => by cases h)) (fun h => h)) (fun _ _ => rfl) (Nat.le_refl _) hr
        · have := val_eq hr
          subst this
          exact .val _
      · refine ⟨_, _, hk1, fun k' => by simp only [callQ, hc, hG, argsK_eq, hd]; rw [hnat]; exact hk2 k', fun _ => ?_⟩
        intro D U N w0 w a next Q hI hW hN hops hn
        obtain ⟨args, hrun, hbs, hcalls⟩ := run D U N w0 H w a (hI w hW.below) (Compat.refl H) hW hops
        obtain ⟨i1, i2⟩ := hW.ice bs hbs
        unfold Oper.wp
        rw [hrun]
        refine Calls.mono hcalls ?_
        rintro e w' ⟨v, rfl, hb, hr⟩
        exact hn v w' D (U2 (U4 U D bs) w w') (i2.trans (onward_below hN i1.old hb)) (i1.below' hN hb) hr
  · rename_i hc
    cases hcal : c.callee with
    | builtin b =>
      simp only [hcal] at h
      cases b <;> first
        | (simp only [] at h
           obtain ⟨x', y', h1, h2, h3⟩ := lenQ_good (I := I) (H := H) (id := id) ho hcal k r h
           exact ⟨x', y', h1, fun k' => by simp only [callQ, hc, hcal]; exact h2 k', h3⟩)
        | (simp only [] at h
           obtain ⟨x', y', h1, h2, h3⟩ := appendQ_good (P := P) (I := I) (ρ := ρ) (H := H) (id := id) ho hcal k r h
           exact ⟨x', y', h1, fun k' => by simp only [callQ, hc, hcal]; exact h2 k', h3⟩)
        | (simp only [] at h
           obtain ⟨x', y', h1, h2, h3⟩ := copyQ_good (P := P) (I := I) (ρ := ρ) (H := H) (id := id) ho hcal k r h
           exact ⟨x', y', h1, fun k' => by simp only [callQ, hc, hcal]; exact h2 k', h3⟩)
        | (simp only [] at h
           obtain ⟨x', y', h1, h2, h3⟩ := flatK_good (I := I) (H := H) (id := id) k r h
           exact ⟨x', y', h1, fun k' => by simp only [callQ, hc, hcal]; exact h2 k', h3⟩)
    | value f =>
      simp only [hcal] at h
      obtain ⟨x', y', h1, h2, h3⟩ := flatK_good (I := I) (H := H) (id := id) k r h
      exact ⟨x', y', h1, fun k' => by simp only [callQ, hc, hcal]; exact h2 k', h3⟩
    | invoke r m =>
      simp only [hcal] at h
      obtain ⟨x', y', h1, h2, h3⟩ := flatK_good (I := I) (H := H) (id := id) k _ h
      exact ⟨x', y', h1, fun k' => by simp only [callQ, hc, hcal]; exact h2 k', h3⟩

def storeQ (P : Program) (ρ : Operand → VV) (H : OH) (t : TypeId) (x y : Operand) (k : KK) : Option DV :=
  match ρ x, ρ y with
  | .ptr b of, .dv d => match H[b]? with
    | some (some (.cells cs)) => match P.info? t with
      | some i => bif Nat.beq d.cells.length i.size && Nat.ble (of + d.cells.length) cs.length && d.cells.all oneCellD then k (.dv (.val undef)) (.upd b (cs.take of ++ d.cells ++ cs.drop (of + d.cells.length))) else none
      | none => none
    | _ => none
  | _, _ => none
def allocQ (P : Program) (id : Nat) (t : TypeId) (k : KK) : Option DV := match prun P (zeroValue t) with | some z => k (.ptr id 0) (.new (DV.cells (.val z))) | none => none
def boxQ (ρ : Operand → VV) (id : Nat) (x : Operand) (k : KK) : Option DV := match ρ x with | .dv d => k (.ptr id 0) (.new d.cells) | _ => none
/-- A store: the block stays settled, or is mixed. -/
def storeS (P : Program) (ρ : Operand → VV) (H : OH) (t : TypeId) (x y : Operand) (k : KK) : Option DV :=
  match ρ x, ρ y with
  | .ptr b _, .dv _ => match H[b]? with
    | some (some (.cells _)) => storeQ P ρ H t x y k
    | _ => storeX P ρ H t x y k
  | _, _ => storeX P ρ H t x y k
/-- Whether a type's cells may point at memory. -/
def slicy (P : Program) (t : TypeId) : Bool := match leavesK P 8 t with
  | some ks => ks.any fun l => match l with | .lst _ => true | _ => false
  | none => true
def boxS (P : Program) (ρ : Operand → VV) (id : Nat) (t : TypeId) (x : Operand) (k : KK) : Option DV := bif slicy P t then boxX ρ id x k else match ρ x with | .dv _ => boxQ ρ id x k | _ => boxX ρ id x k
def allocS (P : Program) (id : Nat) (t : TypeId) (k : KK) : Option DV := bif slicy P t then (match prun P (zeroValue t) with | some z => k (.ptr id 0) (.newm ((DV.cells (.val z)).map VV.dv)) | none => none) else allocQ P id t k
def makeMapK (r : Option Operand) (k : KK) : Option DV := match r with | none => k .dead .none | some _ => none
noncomputable def opk (P : Program) (K : Tab) (ρ : Operand → VV) (H : OH) (id : Nat) (o : Oper) (k : KK) : Option DV :=
  match o.op with
  | .move x => k (ρ x) .none
  | .assign x => k (ρ x) .none
  | .alloc t => allocS P id t k
  | .makeMap _ r => makeMapK r k
  | .box t x => boxS P ρ id t x k
  | .load t x => loadM P ρ H t x k
  | .store t x y => storeS P ρ H t x y k
  | .build t ps => buildK P ρ o t ps k
  | .field t x f => fieldV P ρ o t x f k
  | .fieldAddr T x f => fieldQ P ρ T x f k
  | .nilCheck x => nilQ P ρ o x k
  | .binOp b T x y _ => binE P ρ o b T x y k
  | .extract x i => extractX P ρ o x i k
  | .index T x i => indexK P ρ o T x i k
  | .pick c a b => pickK ρ c a b k
  | .call c => callQ P K ρ H id o c k
  | .buildSlice t n ps => buildSK P ρ id t n ps k
  | .makeSlice t l c => makeK P ρ id t l c k
  | .indexAddr t x i => indexAK P ρ t x i k
  | .slice t x lo hi mx => match ρ x with
    | .dv (.val (.string _)) => sliceQ P ρ o t x lo hi mx k
    | _ => bif allFlat ρ o && (match prun P (execOp (ρF ρ) o) with | some _ => true | none => false) then flatK P ρ o k else sliceQ P ρ o t x lo hi mx k
  | .convert S T x => bif (match P.underlying T with | some (.slice _) => true | _ => false) then convQ P ρ S T x k else flatK P ρ o k
  | _ => flatK P ρ o k
theorem boxQ_good {P : Program} {I : World → Prop} {ρ : Operand → VV} {o : Oper} {t : TypeId} {x : Operand} {H : OH} {id : Nat} (ho : o.op = .box t x) : Good P I o ρ H id (boxQ ρ id x) := by
  intro k r h
  unfold boxQ at h
  split at h <;> try (cases h; done)
  rename_i d hx
  refine ⟨_, _, h, fun k' => by simp only [boxQ, hx], opOk_new fun D U w a hops => ⟨(a.eval x).cells, t, ?_, ?_⟩⟩
  · simp [execOp, ho, Instr.box, newVar, newRow, newObj, Sem.run]
  · have := hops x (by simp [ho, Op.operands])
    rw [hx] at this
    exact DV.cells_rep this
theorem storeQ_good {P : Program} {I : World → Prop} {ρ : Operand → VV} {o : Oper} {t : TypeId} {x y : Operand} {H : OH} {id : Nat} (ho : o.op = .store t x y) : Good P I o ρ H id (storeQ P ρ H t x y) := by
  intro k r h
  unfold storeQ at h
  split at h <;> try (cases h; done)
  rename_i b of d hx hy
  split at h <;> try (cases h; done)
  rename_i cs hb
  split at h <;> try (cases h; done)
  rename_i i hi
  cases hq : Nat.beq d.cells.length i.size && Nat.ble (of + d.cells.length) cs.length && d.cells.all oneCellD with
  | false => rw [hq] at h; cases h
  | true =>
    have hq0 := hq
    rw [hq] at h
    simp only [cond_true] at h
    exact ⟨_, _, h, fun k' => by simp only [storeQ, hx, hy, hb, hi, hq0, cond_true], opOk_store ho hx hy hb (by simp only [storeK, hi, hq0, cond_true])⟩
theorem boxS_good {P : Program} {I : World → Prop} {ρ : Operand → VV} {o : Oper} {t : TypeId} {x : Operand} {H : OH} {id : Nat} (ho : o.op = .box t x) : Good P I o ρ H id (boxS P ρ id t x) := by
  have lift : ∀ (f : KK → Option DV), (∀ k, boxS P ρ id t x k = f k) → Good P I o ρ H id f → Good P I o ρ H id (boxS P ρ id t x) := by
    intro f he hf k r h
    rw [he] at h
    obtain ⟨x', y', h1, h2, h3⟩ := hf k r h
    exact ⟨x', y', h1, fun k' => by rw [he]; exact h2 k', h3⟩
  cases hs : slicy P t with
  | true => exact lift (boxX ρ id x) (fun k => by simp only [boxS, hs, cond_true]) (boxX_good ho)
  | false =>
    cases hx : ρ x with
    | dv d => exact lift (boxQ ρ id x) (fun k => by simp only [boxS, hs, cond_false, hx]) (boxQ_good ho)
    | _ => exact lift (boxX ρ id x) (fun k => by simp only [boxS, hs, cond_false, hx]) (boxX_good ho)
theorem allocS_good {P : Program} {I : World → Prop} {ρ : Operand → VV} {o : Oper} {t : TypeId} {H : OH} {id : Nat} (ho : o.op = .alloc t) : Good P I o ρ H id (allocS P id t) := by
  intro k r h
  unfold allocS at h
  cases hs : slicy P t with
  | true =>
    rw [hs] at h
    simp only [cond_true] at h
    split at h <;> try (cases h; done)
    rename_i z hz
    refine ⟨_, _, h, fun k' => by simp only [allocS, hs, cond_true, hz], ?_⟩
    intro D U N w0 H' w a next Q hI _ hW hN hid hl hops hn
    obtain ⟨c1, c2⟩ := DV.cells_rep (U := U) (w := w) (.val z)
    unfold Oper.wp
    rw [show (execOp a.eval o).run P w = .ok (.value (.pointer (some ⟨w.heap.size, 0, none⟩))) (w.alloc (.cells z.cells t)) by simp [execOp, ho, Instr.alloc, prun_run _ hz w, newVar, newRow, newObj, Sem.run]]
    refine hn _ _ _ _ (onward_alloc hW.old hid _) (hW.newm hN hid hl (by simp [c1]) fun i x v e1 e2 => ?_) (fun b hb hne => by simp [updD, hne, hb]) ⟨w.heap.size, by simp [updD], rfl⟩
    obtain ⟨y, hy, rfl⟩ := map_get e1
    exact c2 i y v hy e2
  | false =>
    rw [hs] at h
    simp only [cond_false] at h
    unfold allocQ at h
    split at h <;> try (cases h; done)
    rename_i z hz
    refine ⟨_, _, h, fun k' => by simp only [allocS, hs, cond_false, allocQ, hz], opOk_new fun D U w a hops => ⟨z.cells, t, ?_, (DV.cells_rep (U := U) (w := w) (.val z)).1, (DV.cells_rep (.val z)).2⟩⟩
    simp [execOp, ho, Instr.alloc, prun_run _ hz w, newVar, newRow, newObj, Sem.run]
theorem makeMapK_good {P : Program} {I : World → Prop} {ρ : Operand → VV} {o : Oper} {t : TypeId} {r : Option Operand} {H : OH} {id : Nat} (ho : o.op = .makeMap t r) : Good P I o ρ H id (makeMapK r) := by
  intro k res h
  unfold makeMapK at h
  split at h <;> try (cases h; done)
  refine ⟨_, _, h, fun k' => rfl, ?_⟩
  intro D U N w0 H' w a next Q hI _ hW hN hid hl hops hn
  have hb : Below w.heap.size w (w.alloc (.map #[] 0)) := (Below.refl _ w).alloc (Nat.le_refl _) _
  unfold Oper.wp
  rw [show (execOp a.eval o).run P w = .ok (.value (.map (some w.heap.size))) (w.alloc (.map #[] 0)) by simp [execOp, ho, Instr.makeMap, newObj, Sem.run]]
  exact hn _ _ D _ (onward_below hN hW.old hb) (hW.below' hN hb) (fun _ h _ => h) trivial
theorem storeS_good {P : Program} {I : World → Prop} {ρ : Operand → VV} {o : Oper} {t : TypeId} {x y : Operand} {H : OH} {id : Nat} (ho : o.op = .store t x y) : Good P I o ρ H id (storeS P ρ H t x y) := by
  intro k r h
  unfold storeS at h
  split at h
  · rename_i b of d hx hy
    split at h
    · rename_i cs hb
      obtain ⟨x', y', h1, h2, h3⟩ := storeQ_good (I := I) (id := id) ho k r h
      exact ⟨x', y', h1, fun k' => by simp only [storeS, hx, hy, hb]; exact h2 k', h3⟩
    · rename_i n1
      obtain ⟨x', y', h1, h2, h3⟩ := storeX_good (I := I) (id := id) ho k r h
      refine ⟨x', y', h1, fun k' => ?_, h3⟩
      simp only [storeS, hx, hy]
      exact h2 k'
  · rename_i n1
    obtain ⟨x', y', h1, h2, h3⟩ := storeX_good (I := I) (id := id) ho k r h
    refine ⟨x', y', h1, fun k' => ?_, h3⟩
    unfold storeS
    split
    · rename_i b of d hx hy; exact (n1 _ _ _ hx hy).elim
    · exact h2 k'
theorem opk_good {P : Program} {I : World → Prop} {K : Tab} (HK : KGood P I K) (ρ : Operand → VV) (H : OH) (id : Nat) (o : Oper) : Good P I o ρ H id (opk P K ρ H id o) := by
  have lift : ∀ (f : KK → Option DV), (∀ k, opk P K ρ H id o k = f k) → Good P I o ρ H id f → Good P I o ρ H id (opk P K ρ H id o) := by
    intro f he hf k r h
    rw [he] at h
    obtain ⟨x, y, h1, h2, h3⟩ := hf k r h
    exact ⟨x, y, h1, fun k' => by rw [he]; exact h2 k', h3⟩
  cases ho : o.op with
  | move x => exact lift (fun k => k (ρ x) .none) (fun k => by simp only [opk, ho]) (fun k r h => ⟨_, _, h, fun _ => rfl, opOk_same fun D U w a hops => ⟨a.eval x, by simp [execOp, ho], hops x (by simp [ho, Op.operands])⟩⟩)
  | assign x => exact lift (fun k => k (ρ x) .none) (fun k => by simp only [opk, ho]) (fun k r h => ⟨_, _, h, fun _ => rfl, opOk_same fun D U w a hops => ⟨a.eval x, by simp [execOp, ho], hops x (by simp [ho, Op.operands])⟩⟩)
  | alloc t => exact lift _ (fun k => by simp only [opk, ho]) (allocS_good ho)
  | makeMap t r => exact lift _ (fun k => by simp only [opk, ho]) (makeMapK_good ho)
  | box t x => exact lift _ (fun k => by simp only [opk, ho]) (boxS_good ho)
  | load t x => exact lift _ (fun k => by simp only [opk, ho]) (loadM_good ho)
  | build t ps => exact lift _ (fun k => by simp only [opk, ho]) (buildK_good ho)
  | field t x f => exact lift _ (fun k => by simp only [opk, ho]) (fieldV_good ho)
  | store t x y => exact lift _ (fun k => by simp only [opk, ho]) (storeS_good ho)
  | fieldAddr T x f => exact lift _ (fun k => by simp only [opk, ho]) (fieldQ_good ho)
  | nilCheck x => exact lift _ (fun k => by simp only [opk, ho]) (nilQ_good ho)
  | binOp b T x y ty => exact lift _ (fun k => by simp only [opk, ho]) (binE_good ho)
  | extract x i => exact lift _ (fun k => by simp only [opk, ho]) (extractX_good ho)
  | index T x i => exact lift _ (fun k => by simp only [opk, ho]) (indexK_good ho)
  | pick c a b => exact lift _ (fun k => by simp only [opk, ho]) (pickK_good ho)
  | call c => exact lift _ (fun k => by simp only [opk, ho]) (callQ_good HK ho)
  | buildSlice t n ps => exact lift (buildSK P ρ id t n ps) (fun k => by simp only [opk, ho]) (fun k r h => buildSK_ok ho h)
  | makeSlice t l c => exact lift _ (fun k => by simp only [opk, ho]) (makeK_ok ho)
  | indexAddr t x i => exact lift _ (fun k => by simp only [opk, ho]) (indexAK_ok ho)
  | slice t x lo hi mx =>
    by_cases hstr : ∃ b, ρ x = .dv (.val (.string b))
    · obtain ⟨b, hstr⟩ := hstr
      exact lift (sliceQ P ρ o t x lo hi mx) (fun k => by simp only [opk, ho, hstr]) (sliceQ_good ho)
    · have he : ∀ k, opk P K ρ H id o k = bif allFlat ρ o && (match prun P (execOp (ρF ρ) o) with | some _ => true | none => false) then flatK P ρ o k else sliceQ P ρ o t x lo hi mx k := by
        intro k
        simp only [opk, ho]
        split
        · rename_i b hx; exact absurd ⟨b, hx⟩ hstr
        · rfl
      cases hb : (allFlat ρ o && (match prun P (execOp (ρF ρ) o) with | some _ => true | none => false)) with
      | true => exact lift (flatK P ρ o) (fun k => by rw [he, hb]; rfl) flatK_good
      | false => exact lift (sliceQ P ρ o t x lo hi mx) (fun k => by rw [he, hb]; rfl) (sliceQ_good ho)
  | convert S T x =>
    cases hb : (match P.underlying T with | some (.slice _) => true | _ => false) with
    | true => exact lift (convQ P ρ S T x) (fun k => by simp only [opk, ho]; rw [hb]; rfl) (convQ_good ho)
    | false => exact lift (flatK P ρ o) (fun k => by simp only [opk, ho]; rw [hb]; rfl) flatK_good
  | _ => exact lift (flatK P ρ o) (fun k => by simp only [opk, ho]) flatK_good
theorem opk_ok {P : Program} {I : World → Prop} {K : Tab} (HK : KGood P I K) {ρ : Operand → VV} {H : OH} {id : Nat} {o : Oper} {k : KK} {r : DV} (h : opk P K ρ H id o k = some r) : OpGood P I o ρ H id k r := by
  obtain ⟨x, y, h1, _, h3⟩ := opk_good (I := I) HK ρ H id o k r h
  exact ⟨x, y, h1, h3⟩
theorem opk_nat {P : Program} {I : World → Prop} {K : Tab} (HK : KGood P I K) (ρ : Operand → VV) (H : OH) (id : Nat) (o : Oper) (k : KK) (r : DV) (h : opk P K ρ H id o k = some r) : ∃ x y, k x y = some r ∧ ∀ k', opk P K ρ H id o k' = k' x y := by
  obtain ⟨x, y, h1, h2, _⟩ := opk_good (I := I) HK ρ H id o k r h
  exact ⟨x, y, h1, h2⟩
end Go.Pv
namespace Go.Pv
open Go Go.RowKit

/-- Whether an operation is wanted, by its guard; what the guard gave is known from then on. -/
noncomputable def guardK (ops : Array Oper) (ts : Tr) (n : Nat) (o : Oper) (yes no : Tr → Option DV) : Option DV :=
  match o.guard with
  | none => yes ts
  | some (j, want) => match (ops[j]?).bind (·.dst) with
    | none => none
    | some d => bif Nat.blt d n then (match (ts.get d).flat with
        | some (.bool b) => bif (bif want then b else !b) then putC 12 ts d (.dv (.val (.bool want))) yes else putC 12 ts d (.dv (.val (.bool (!want)))) no
        | some (.tuple _) => no ts
        | _ => none)
      else none
theorem flat_bool {x : VV} {b : Bool} (h : x.flat = some (.bool b)) : x = .dv (.val (.bool b)) := by
  cases x with
  | dv d =>
    cases d with
    | val v => simp only [VV.flat, DV.flat, Option.some.injEq] at h; rw [h]
    | agg cs => simp only [VV.flat, DV.flat] at h; split at h <;> simp at h
    | tup cs => simp only [VV.flat, DV.flat] at h; split at h <;> simp at h
    | lst _ _ => simp [VV.flat, DV.flat] at h
    | err => simp [VV.flat, DV.flat] at h
  | ptr _ _ => simp [VV.flat] at h
  | osl _ _ _ _ _ => simp [VV.flat] at h
  | eptr _ => simp [VV.flat] at h
  | dead => simp [VV.flat] at h
  | vagg _ => simp [VV.flat] at h
  | vtup _ => simp [VV.flat] at h
theorem put_same {ts : Tr} {d : Nat} {x : VV} (h : ts.get d = x) : Le ts (ts.put d x) := by
  intro t
  rcases Tr.get_put ts d x t with e | e
  · left; rw [e]; split
    · rename_i e; rw [e, h]
    · rfl
  · exact .inr e
/-- What the guard of an operation says, as far as it is known. -/
def GuardIs (ops : Array Oper) (ts : Tr) (n : Nat) (o : Oper) (b : Bool) : Prop :=
  match o.guard with
  | none => b = true
  | some (j, want) => ∃ d v, (ops[j]?).bind (·.dst) = some d ∧ d < n ∧ (ts.get d).flat = some v ∧ ((∃ c, v = .bool c ∧ b = (c == want)) ∨ ((∃ vs, v = .tuple vs) ∧ b = false))
theorem guardK_inv {ops : Array Oper} {ts : Tr} {n : Nat} {o : Oper} {yes no : Tr → Option DV} {r : DV} (h : guardK ops ts n o yes no = some r) : ∃ b ts', GuardIs ops ts n o b ∧ Le ts ts' ∧ (if b = true then yes ts' else no ts') = some r ∧ ∀ yes' no', guardK ops ts n o yes' no' = if b = true then yes' ts' else no' ts' := by
  unfold guardK at h ⊢
  unfold GuardIs
  split at h
  · exact ⟨true, ts, rfl, Le.refl ts, by simpa using h, fun _ _ => by simp⟩
  · rename_i j want hg
    split at h <;> try (cases h; done)
    rename_i d hd
    cases hb : Nat.blt d n with
    | false => simp [hb] at h
    | true =>
      simp only [hb, cond_true] at h ⊢
      have hlt : d < n := Nat.le_of_ble_eq_true hb
      split at h <;> try (cases h; done)
      · rename_i b hb'
        have hxe := flat_bool hb'
        cases b <;> cases want <;> simp only [cond_true, cond_false, Bool.not_true, Bool.not_false] at h ⊢ <;> rw [putC_eq] at h
        · exact ⟨true, ts.put d (.dv (.val (.bool false))), ⟨d, _, hd, hlt, hb', .inl ⟨false, rfl, rfl⟩⟩, put_same hxe, (by first | (rw [if_pos rfl]; exact h) | (rw [if_neg (by simp)]; exact h)), fun yes' no' => by rw [putC_eq]; rfl⟩
        · exact ⟨false, ts.put d (.dv (.val (.bool false))), ⟨d, _, hd, hlt, hb', .inl ⟨false, rfl, rfl⟩⟩, put_same hxe, (by first | (rw [if_pos rfl]; exact h) | (rw [if_neg (by simp)]; exact h)), fun yes' no' => by rw [putC_eq]; rfl⟩
        · exact ⟨false, ts.put d (.dv (.val (.bool true))), ⟨d, _, hd, hlt, hb', .inl ⟨true, rfl, rfl⟩⟩, put_same hxe, (by first | (rw [if_pos rfl]; exact h) | (rw [if_neg (by simp)]; exact h)), fun yes' no' => by rw [putC_eq]; rfl⟩
        · exact ⟨true, ts.put d (.dv (.val (.bool true))), ⟨d, _, hd, hlt, hb', .inl ⟨true, rfl, rfl⟩⟩, put_same hxe, (by first | (rw [if_pos rfl]; exact h) | (rw [if_neg (by simp)]; exact h)), fun yes' no' => by rw [putC_eq]; rfl⟩
      · rename_i vs hb'
        exact ⟨false, ts, ⟨d, _, hd, hlt, hb', .inr ⟨⟨vs, rfl⟩, rfl⟩⟩, Le.refl ts, by simpa using h, fun yes' no' => by simp⟩
theorem GuardIs.real {ops : Array Oper} {ts : Tr} {n : Nat} {o : Oper} {b : Bool} (h : GuardIs ops ts n o b) {U : Nat → Prop} {w : World} {D : Nat → Option Nat} {a : Act} (hl : a.tmps.size = n)
    (ht : ∀ d ∈ o.looksAt ops, ∀ v, a.tmps[d]? = some v → VRep U w D (ts.get d) v) : Region.wanted o (yielded ops a.tmps) = b := by
  unfold GuardIs at h
  unfold Region.wanted
  cases hg : o.guard with
  | none => rw [hg] at h; simp at h; rw [h]
  | some p =>
    obtain ⟨j, want⟩ := p
    rw [hg] at h
    obtain ⟨d, v, hd, hlt', hf, hv⟩ := h
    have hlt : d < a.tmps.size := by rw [hl]; exact hlt'
    have hm : d ∈ o.looksAt ops := by unfold Oper.looksAt; rw [hg]; simp only [hd]; simp
    have hr := VV.flat_rep hf (ht d hm _ (Array.getElem?_eq_getElem hlt))
    rcases hv with ⟨c, rfl, rfl⟩ | ⟨⟨vs, rfl⟩, rfl⟩
    · have hy : yielded ops a.tmps j = some c := by simp [yielded, hd, Array.getElem?_eq_getElem hlt, hr]
      simp only [hy]
      cases c <;> cases want <;> rfl
    · have hy : yielded ops a.tmps j = none := by simp [yielded, hd, Array.getElem?_eq_getElem hlt, hr]
      simp only [hy]
      rfl
theorem guardK_ok {ops : Array Oper} {ts : Tr} {n : Nat} {o : Oper} {yes no : Tr → Option DV} {r : DV} (h : guardK ops ts n o yes no = some r) {U : Nat → Prop} {w : World} {D : Nat → Option Nat} {a : Act} (ht : TRel U w D ts n a) :
    ∃ ts', Le ts ts' ∧ ((Region.wanted o (yielded ops a.tmps) = true ∧ yes ts' = some r) ∨ (Region.wanted o (yielded ops a.tmps) = false ∧ no ts' = some r)) := by
  obtain ⟨b, ts', hg, hle, hb, _⟩ := guardK_inv h
  have := hg.real (a := a) ht.2.1 (fun d _ v h2 => ht.2.2 d v h2)
  cases b with
  | true => exact ⟨ts', hle, .inl ⟨this, by simpa using hb⟩⟩
  | false => exact ⟨ts', hle, .inr ⟨this, by simpa using hb⟩⟩

noncomputable def appK (id : Nat) (H : List (Option Blk)) (eff : Eff) (k : List (Option Blk) → Option DV) : Option DV :=
  match eff with
  | .none => k H
  | e => frc (e.app id H) k
theorem appK_eq (id : Nat) (H : List (Option Blk)) (eff : Eff) (k : List (Option Blk) → Option DV) : appK id H eff k = k (eff.app id H) := by
  cases eff <;> simp only [appK, frc_eq] <;> rfl
noncomputable def pevOps (P : Program) (K : Tab) (ops : Array Oper) : List Nat → St → (St → Option DV) → Option DV
  | [], s, k => k s
  | i :: rest, ⟨ts, n, h⟩, k => match ops[i]? with
    | none => none
    | some o => guardK ops ts n o
      (fun ts => opk P K (evalV ts n) h h.length o fun x eff => putK ts o.dst x fun ts' => appK h.length h eff fun h' => pevOps P K ops rest ⟨ts', n, h'⟩ k)
      (fun ts => putK ts o.dst (.dv (.val undef)) fun ts' => pevOps P K ops rest ⟨ts', n, h⟩ k)
theorem pevOps_cons (P : Program) (K : Tab) (ops : Array Oper) (i : Nat) (rest : List Nat) (s : St) (k : St → Option DV) : pevOps P K ops (i :: rest) s k = match ops[i]? with
    | none => none
    | some o => guardK ops s.tmps s.n o
      (fun ts => opk P K (evalV ts s.n) s.heap s.heap.length o fun x eff => pevOps P K ops rest ⟨putV ts o.dst x, s.n, eff.app s.heap.length s.heap⟩ k)
      (fun ts => pevOps P K ops rest ⟨putV ts o.dst (.dv (.val undef)), s.n, s.heap⟩ k) := by
  cases s
  simp only [pevOps, putK_eq, appK_eq]

/-- Where a call stands: frame, blocks, world. -/
structure Rel (I : World → Prop) (D : Nat → Option Nat) (U : Nat → Prop) (N : Nat → Prop) (w0 : World) (s : St) (a : Act) (w : World) : Prop where
  t : TRel U w D s.tmps s.n a
  wr : WRel D U N w0 s.heap w
  n : Lt N w
  i0 : ∀ w', Keeps N w0 w' → I w'
theorem Rel.inv {I : World → Prop} {D : Nat → Option Nat} {U : Nat → Prop} {N : Nat → Prop} {w0 : World} {s : St} {a : Act} {w : World} (h : Rel I D U N w0 s a w) : I w := h.i0 w h.wr.below
theorem pevOps_ok {P : Program} {I : World → Prop} {K : Tab} (HK : KGood P I K) {ops : Array Oper} : ∀ (l : List Nat) (s : St) (k : St → Option DV) (r : DV), pevOps P K ops l s k = some r →
    ∀ (D : Nat → Option Nat) (U : Nat → Prop) (N : Nat → Prop) (w0 : World) (a : Act) (w : World) (Q : Exit → Act → World → Prop), Rel I D U N w0 s a w →
    (∀ s' D' U' a' w', k s' = some r → Rel I D' U' N w0 s' a' w' → Onward N D U w D' U' w' → Q .normal a' w') → wpOps P ops Q l a w
  | [], s, k, r, h, D, U, N, w0, a, w, Q, hR, hQ => hQ s D U a w h hR Onward.refl
  | i :: rest, s, k, r, h, D, U, N, w0, a, w, Q, hR, hQ => by
    simp only [pevOps_cons] at h
    simp only [wpOps]
    cases ho : ops[i]? with
    | none => simp [ho] at h
    | some o =>
      simp only [ho] at h
      obtain ⟨ts1, hle, hcase⟩ := guardK_ok h hR.t
      have ht1 := hR.t.le hle
      rcases hcase with ⟨hw, h⟩ | ⟨hw, h⟩
      · simp only [hw, if_true]
        left
        obtain ⟨x, eff, hk, hok⟩ := opk_ok HK h
        refine hok.seq D U N w0 w a _ Q hR.i0 hR.wr hR.n (fun y _ => ht1.eval y) ?_
        intro v w' D' U' hon hW' hx
        refine pevOps_ok HK rest _ k r hk D' U' N w0 _ w' Q ⟨(ht1.onward hon).put o.dst hx, hW', hR.n.mono hon.size, hR.i0⟩ ?_
        intro s' D'' U'' a' w'' hk' hR' hon'
        exact hQ s' D'' U'' a' w'' hk' hR' (hon.trans hon')
      · simp only [hw, Bool.false_eq_true, if_false]
        exact pevOps_ok HK rest _ k r h D U N w0 _ w Q ⟨ht1.put o.dst (.val _), hR.wr, hR.n, hR.i0⟩ hQ
end Go.Pv
namespace Go.Pv
open Go Go.RowKit

inductive PX where
  | normal
  | exit (id : Nat)
  | ret
def PX.out : PX → Exit
  | .normal => .normal
  | .exit id => .exit id
  | .ret => .ret
abbrev KC := PX → St → Option DV

/-- What is kept at a loop's head: these slots, and the blocks that were there before the loop. -/
def cutV (h0 : Nat) : VV → VV
  | .ptr b o => bif Nat.blt b h0 then .ptr b o else .dead
  | .osl e sz b o n => bif Nat.blt b h0 then .osl e sz b o n else .dead
  | .vagg _ => .dead
  | .vtup _ => .dead
  | x => x
noncomputable def keepT (ts : Tr) (h0 : Nat) : List Nat → Tr → (Tr → Option DV) → Option DV
  | [], acc, k => k acc
  | i :: is, acc, k => putC 12 acc i (cutV h0 (ts.get i)) fun acc' => keepT ts h0 is acc' k
noncomputable def keepV (ts : Tr) (h0 : Nat) : List Nat → Tr → Tr
  | [], acc => acc
  | i :: is, acc => keepV ts h0 is (acc.put i (cutV h0 (ts.get i)))
theorem keepT_eq (ts : Tr) (h0 : Nat) : ∀ (is : List Nat) (acc : Tr) (k : Tr → Option DV), keepT ts h0 is acc k = k (keepV ts h0 is acc)
  | [], _, _ => rfl
  | i :: is, acc, k => by
    simp only [keepT, keepV]
    rw [putC_eq]
    exact keepT_eq ts h0 is _ k
theorem keepV_get (ts : Tr) (h0 : Nat) : ∀ (is : List Nat) (acc : Tr), (∀ t, acc.get t = .dead ∨ acc.get t = cutV h0 (ts.get t)) → ∀ t, (keepV ts h0 is acc).get t = .dead ∨ (keepV ts h0 is acc).get t = cutV h0 (ts.get t)
  | [], acc, h, t => h t
  | i :: is, acc, h, t => by
    refine keepV_get ts h0 is _ (fun t => ?_) t
    rcases Tr.get_put acc i (cutV h0 (ts.get i)) t with e | e
    · rw [e]; split
      · rename_i e; rw [e]; exact .inr rfl
      · exact h t
    · exact .inl e
/-- A block, as it is kept: what its cells point at goes where it is not kept. -/
def cutO (h0 : Nat) : Option Blk → Option Blk
  | some (.mix cs) => some (.mix (cs.map (cutV h0)))
  | x => x
noncomputable def trimS (live : List Nat) (h0 : Nat) (s : St) : St := ⟨keepV s.tmps h0 live (.leaf .dead), s.n, (s.heap.take h0).map (cutO h0)⟩
noncomputable def trimK (live : List Nat) (h0 : Nat) (s : St) (k : St → Option DV) : Option DV := match s with
  | ⟨ts, n, h⟩ => keepT ts h0 live (.leaf .dead) fun ts => frc ((h.take h0).map (cutO h0)) fun h => k ⟨ts, n, h⟩
theorem trimK_eq (live : List Nat) (h0 : Nat) (s : St) (k : St → Option DV) : trimK live h0 s k = k (trimS live h0 s) := by
  cases s
  unfold trimK trimS
  simp only [keepT_eq, frc_eq]
def cutD (D : Nat → Option Nat) (h0 : Nat) : Nat → Option Nat := fun b => if b < h0 then D b else none
theorem cutC_rep {U : Nat → Prop} {w : World} {D : Nat → Option Nat} (h0 : Nat) {x : VV} {v : Value} (h : CRep U w D x v) : CRep U w (cutD D h0) (cutV h0 x) v := by
  cases x with
  | dv d => exact h
  | dead => trivial
  | ptr b o =>
    simp only [cutV]
    cases hb : Nat.blt b h0 with
    | false => trivial
    | true =>
      obtain ⟨k, hk, e⟩ := h
      have : b < h0 := Nat.le_of_ble_eq_true hb
      exact ⟨k, by simp [cutD, this, hk], e⟩
  | osl e sz b o n =>
    simp only [cutV]
    cases hb : Nat.blt b h0 with
    | false => trivial
    | true =>
      obtain ⟨k, c, cur, hk, hc, hh, hs, e⟩ := h
      have : b < h0 := Nat.le_of_ble_eq_true hb
      exact ⟨k, c, cur, by simp [cutD, this, hk], hc, hh, hs, e⟩
  | eptr cs => exact h
  | vagg cs => trivial
  | vtup cs => trivial
theorem cutV_rep {U : Nat → Prop} {w : World} {D : Nat → Option Nat} (h0 : Nat) {x : VV} {v : Value} (h : VRep U w D x v) : VRep U w (cutD D h0) (cutV h0 x) v := by
  cases x with
  | dv d => exact h
  | dead => trivial
  | ptr b o => have := cutC_rep (U := U) (w := w) (x := .ptr b o) h0 h; simp only [cutV] at this ⊢; cases hb : Nat.blt b h0 <;> rw [hb] at this <;> exact this
  | osl e sz b o n => have := cutC_rep (U := U) (w := w) (x := .osl e sz b o n) h0 h; simp only [cutV] at this ⊢; cases hb : Nat.blt b h0 <;> rw [hb] at this <;> exact this
  | eptr cs => exact h
  | vagg cs => trivial
  | vtup cs => trivial
theorem cutO_get {H : List (Option Blk)} {h0 b : Nat} {B : Blk} (h : ((H.take h0).map (cutO h0))[b]? = some (some B)) : b < h0 ∧ ∃ B', H[b]? = some (some B') ∧ B'.live = B.live ∧ (∀ cs, B = .cells cs → B' = .cells cs) ∧ (∀ cs, B = .mix cs → ∃ cs', B' = .mix cs' ∧ cs = cs'.map (cutV h0)) := by
  rw [List.getElem?_map, List.getElem?_take] at h
  split at h
  · rename_i hlt
    refine ⟨hlt, ?_⟩
    cases hH : H[b]? with
    | none => rw [hH] at h; cases h
    | some x =>
      rw [hH] at h
      simp only [Option.map_some, Option.some.injEq] at h
      cases x with
      | none => cases h
      | some B' =>
        cases B' with
        | cells cs => simp only [cutO, Option.some.injEq] at h; subst h; exact ⟨_, rfl, rfl, fun _ e => e, fun _ e => by cases e⟩
        | gone => simp only [cutO, Option.some.injEq] at h; subst h; exact ⟨_, rfl, rfl, fun _ e => e, fun _ e => by cases e⟩
        | mix cs => simp only [cutO, Option.some.injEq] at h; subst h; exact ⟨_, rfl, rfl, (fun _ e => by cases e), (fun _ e => ⟨cs, rfl, (by cases e; rfl)⟩)⟩
  · cases h
theorem cutO_set {H : List (Option Blk)} {h0 b : Nat} {B : Blk} (hb : b < h0) (h : H[b]? = some (some B)) : ∃ B', ((H.take h0).map (cutO h0))[b]? = some (some B') := by
  rw [List.getElem?_map, List.getElem?_take, if_pos hb, h]
  cases B <;> exact ⟨_, rfl⟩
theorem Rel.trim {I : World → Prop} {D : Nat → Option Nat} {U : Nat → Prop} {N : Nat → Prop} {w0 : World} {s : St} {a : Act} {w : World} (h : Rel I D U N w0 s a w) (live : List Nat) (h0 : Nat) : Rel I (cutD D h0) U N w0 (trimS live h0 s) a w := by
  refine ⟨⟨h.t.1, h.t.2.1, fun t v h2 => ?_⟩, ⟨h.wr.below, h.wr.old, ?_, ?_, ?_, ?_, ?_⟩, h.n, h.i0⟩
  · rcases keepV_get s.tmps h0 live (.leaf .dead) (fun t => .inl rfl) t with e | e
    · simp only [trimS]; rw [e]; trivial
    · simp only [trimS]; rw [e]; exact cutV_rep h0 (h.t.2.2 t v h2)
  · intro b k hb
    unfold cutD at hb
    split at hb <;> try (cases hb; done)
    rename_i hlt
    obtain ⟨g1, g2, B, g3⟩ := h.wr.own b k hb
    exact ⟨g1, g2, cutO_set hlt g3⟩
  · intro b k vs hb hH
    unfold cutD at hb
    split at hb <;> try (cases hb; done)
    rename_i hlt
    obtain ⟨_, B', g1, _, g3, _⟩ := cutO_get hH
    rw [g3 vs rfl] at g1
    exact h.wr.hold b k vs hb g1
  · intro b k vs hb hH
    unfold cutD at hb
    split at hb <;> try (cases hb; done)
    rename_i hlt
    obtain ⟨_, B', g1, _, _, g4⟩ := cutO_get hH
    obtain ⟨cs', rfl, rfl⟩ := g4 vs rfl
    obtain ⟨g2, cs, T, g3, g5, g6⟩ := h.wr.holdm b k cs' hb g1
    refine ⟨g2, cs, T, g3, by simpa using g5, fun i x v e1 e2 => ?_⟩
    rw [List.getElem?_map] at e1
    cases hx : cs'[i]? with
    | none => rw [hx] at e1; cases e1
    | some y => rw [hx] at e1; simp at e1; subst e1; exact cutC_rep h0 (g6 i y v hx e2)
  · intro b vs hb
    obtain ⟨hlt, B', g1, _⟩ := cutO_get hb
    obtain ⟨k, hk⟩ := h.wr.all b B' g1
    exact ⟨k, by simp [cutD, hlt, hk]⟩
  · intro b b' k B B' hH hH' l1 l2 hb hb'
    unfold cutD at hb hb'
    split at hb <;> try (cases hb; done)
    split at hb' <;> try (cases hb'; done)
    obtain ⟨_, C, g1, g2, _⟩ := cutO_get hH
    obtain ⟨_, C', g1', g2', _⟩ := cutO_get hH'
    exact h.wr.inj b b' k C C' g1 g1' (g2.trans l1) (g2'.trans l2) hb hb'

noncomputable def loopK (body : St → KC → Option DV) (live : List Nat) (h0 : Nat) : Nat → St → KC → Option DV
  | 0, _, _ => none
  | n + 1, s, k => trimK live h0 s fun s => body s fun e s' => match e with
    | .normal => loopK body live h0 n s' k
    | e => k e s'

/-- The first region in a code: the loop's name. -/
def firstReg : Code → Option Nat
  | .region id _ _ => some id
  | .seq a b => match firstReg a with | some i => some i | none => firstReg b
  | .cond _ a b => match firstReg a with | some i => some i | none => firstReg b
  | .block _ b => firstReg b
  | .loop b => firstReg b
  | .scope b => firstReg b
  | _ => none
/-- How many blocks more a loop may keep (the first row); at which regions nothing is said (the second row). -/
def roomOf : List (Nat × List Nat) → Nat
  | (0, r :: _) :: _ => r
  | _ => 0
/-- How many blocks were lent. -/
def mOf : List (Nat × List Nat) → Nat
  | (0, _ :: m :: _) :: _ => m
  | _ => 0
def stopsOf : List (Nat × List Nat) → List Nat
  | _ :: (0, l) :: _ => l
  | _ => []
def liveOf (lv : List (Nat × List Nat)) (c : Code) (n : Nat) : List Nat :=
  match firstReg c with
  | some i => match lv.find? (fun p => Nat.beq p.1 i) with | some p => p.2 | none => List.range n
  | none => List.range n

/-- What has turned, of what is settled. -/
structure OnwardW (M : Nat) (N : Nat → Prop) (D : Nat → Option Nat) (U : Nat → Prop) (w : World) (D' : Nat → Option Nat) (U' : Nat → Prop) (w' : World) : Prop where
  set : ∀ k, U k → U' k
  keep : ∀ k, U k → w'.heap[k]? = w.heap[k]?
  size : w.heap.size ≤ w'.heap.size
  back : ∀ k, U' k → U k ∨ ¬ N k
  lent : ∀ b k, b < M → D b = some k → D' b = some k
  siz : ∀ b k cur T f, b < M → D b = some k → w.heap[k]? = some (.cells cur T f) → ∃ cur', w'.heap[k]? = some (.cells cur' T f) ∧ cur'.size = cur.size
theorem Onward.weak {M : Nat} {N : Nat → Prop} {D D' : Nat → Option Nat} {U U' : Nat → Prop} {w w' : World} (h : Onward N D U w D' U' w') : OnwardW M N D U w D' U' w' := ⟨h.set, h.keep, h.size, h.back, fun b k _ hb => h.ids b k hb, fun b k cur T f _ hb hc => h.siz b k cur T f hb hc⟩
theorem OnwardW.refl {M : Nat} {N : Nat → Prop} {D : Nat → Option Nat} {U : Nat → Prop} {w : World} : OnwardW M N D U w D U w := ⟨fun _ h => h, fun _ _ => rfl, Nat.le_refl _, fun _ h => .inl h, fun _ _ _ h => h, fun _ _ cur _ _ _ _ h => ⟨cur, h, rfl⟩⟩
theorem OnwardW.trans {M : Nat} {N : Nat → Prop} {D D' D'' : Nat → Option Nat} {U U' U'' : Nat → Prop} {w w' w'' : World} (h : OnwardW M N D U w D' U' w') (h' : OnwardW M N D' U' w' D'' U'' w'') : OnwardW M N D U w D'' U'' w'' :=
  ⟨fun k hk => h'.set k (h.set k hk), fun k hk => (h'.keep k (h.set k hk)).trans (h.keep k hk), Nat.le_trans h.size h'.size, fun k hk => (h'.back k hk).elim (h.back k) .inr, fun b k hb hk => h'.lent b k hb (h.lent b k hb hk), fun b k cur T f hb hk hc => by
    obtain ⟨c1, g1, s1⟩ := h.siz b k cur T f hb hk hc
    obtain ⟨c2, g2, s2⟩ := h'.siz b k c1 T f hb (h.lent b k hb hk) g1
    exact ⟨c2, g2, s2.trans s1⟩⟩
/-- The same, over other numbers of the same blocks. -/
theorem OnwardW.from {M : Nat} {N : Nat → Prop} {D E D' : Nat → Option Nat} {U U' : Nat → Prop} {w w' : World} (h : OnwardW M N E U w D' U' w') (he : ∀ b k, b < M → D b = some k → E b = some k) : OnwardW M N D U w D' U' w' := ⟨h.set, h.keep, h.size, h.back, fun b k hb hk => h.lent b k hb (he b k hb hk), fun b k cur T f hb hk hc => h.siz b k cur T f hb (he b k hb hk) hc⟩
theorem OnwardW.from' {M : Nat} {N : Nat → Prop} {D E D' : Nat → Option Nat} {U U' : Nat → Prop} {w w' : World} (h : OnwardW M N D U w D' U' w') (he : ∀ b k, b < M → D' b = some k → E b = some k) : OnwardW M N D U w E U' w' := ⟨h.set, h.keep, h.size, h.back, fun b k hb hk => he b k hb (h.lent b k hb hk), h.siz⟩
/-- Soundness of one piece of code. -/
def Sound (M : Nat) (P : Program) (I : World → Prop) (c : Code) (s : St) (k : KC) (r : DV) : Prop :=
  ∀ (D : Nat → Option Nat) (U : Nat → Prop) (N : Nat → Prop) (w0 : World) (a : Act) (w : World) (Q : Exit → Act → World → Prop), Rel I D U N w0 s a w →
    (∀ e s' D' U' a' w', k e s' = some r → Rel I D' U' N w0 s' a' w' → OnwardW M N D U w D' U' w' → Q e.out a' w') → c.wp P Q a w

theorem loopK_ok {M : Nat} {P : Program} {I : World → Prop} {c : Code} {body : St → KC → Option DV} (hb : ∀ s k r, body s k = some r → Sound M P I c s k r) (live : List Nat) (h0 : Nat) (n : Nat) (s : St) (k : KC) (r : DV) (hM : M ≤ h0)
    (h : loopK body live h0 n s k = some r) : Sound M P I (.loop c) s k r := by
  intro D U N w0 a w Q hR hQ b kk cs
  have key : ∀ (n : Nat) (s : St) (D1 : Nat → Option Nat) (U1 : Nat → Prop) (a1 : Act) (w1 : World), loopK body live h0 n s k = some r → Rel I D1 U1 N w0 s a1 w1 → OnwardW M N D U w D1 U1 w1 →
      ∃ e a' w', Q e a' w' ∧ Arrives P (lone (b.at a1 (.code c :: .inLoop c :: kk)) cs w1) b kk cs e a' w' := by
    intro n
    induction n with
    | zero => intro s D1 U1 a1 w1 h; simp [loopK] at h
    | succ n ih =>
      intro s D1 U1 a1 w1 h hR1 hon
      simp only [loopK, trimK_eq] at h
      obtain ⟨e, a2, w2, hq, harr⟩ := hb _ _ r h _ U1 N w0 a1 w1
        (fun e a' w' => match e with
          | .normal => ∃ s' D' U', loopK body live h0 n s' k = some r ∧ Rel I D' U' N w0 s' a' w' ∧ OnwardW M N D U w D' U' w'
          | e => Q e a' w') (hR1.trim live h0)
        (fun e s' D' U' a' w' hk hR' hon' => by
          cases e with
          | normal => exact ⟨s', D', U', hk, hR', hon.trans (hon'.from fun b k hb hk => by simp only [cutD, if_pos (Nat.lt_of_lt_of_le hb hM)]; exact hk)⟩
          | exit i => exact hQ (.exit i) s' D' U' a' w' hk hR' (hon.trans (hon'.from fun b k hb hk => by simp only [cutD, if_pos (Nat.lt_of_lt_of_le hb hM)]; exact hk))
          | ret => exact hQ .ret s' D' U' a' w' hk hR' (hon.trans (hon'.from fun b k hb hk => by simp only [cutD, if_pos (Nat.lt_of_lt_of_le hb hM)]; exact hk))) b (.inLoop c :: kk) cs
      cases e with
      | normal =>
        obtain ⟨s', D', U', hl, hR', hon'⟩ := hq
        obtain ⟨e3, a3, w3, hq3, harr3⟩ := ih s' D' U' a2 w2 hl hR' hon'
        exact ⟨e3, a3, w3, hq3, .of_steps (Steps.trans harr (.one step_inLoop)) harr3⟩
      | exit id => exact ⟨_, a2, w2, hq, .pass (x := .inLoop c) rfl (fun _ _ => .inl (by simp)) harr⟩
      | goto l => exact ⟨_, a2, w2, hq, .pass (x := .inLoop c) rfl (fun _ _ => .inl (by simp)) harr⟩
      | ret => exact ⟨_, a2, w2, hq, .pass (x := .inLoop c) rfl (fun _ _ => .inl (by simp)) harr⟩
      | panic ch => exact ⟨_, a2, w2, hq, .pass (x := .inLoop c) rfl (fun _ _ => .inl (by simp)) harr⟩
      | outgrown => exact ⟨_, a2, w2, hq, .pass (x := .inLoop c) rfl (fun _ _ => .inl (by simp)) harr⟩
  obtain ⟨e, a', w', hq, harr⟩ := key n s D U a w h hR OnwardW.refl
  exact ⟨e, a', w', hq, .of_steps (.one step_loop) harr⟩
end Go.Pv
namespace Go.Pv
open Go Go.RowKit

/-- What an operation waits for, at whatever distance. -/
inductive Anc (ops : Array Oper) : Nat → Nat → Prop
  | one {j : Nat} {o : Oper} {e : Edge} : ops[j]? = some o → e ∈ o.after → Region.binds .any e = true → Anc ops j e.on
  | more {j i : Nat} {o : Oper} {e : Edge} : ops[j]? = some o → e ∈ o.after → Region.binds .any e = true → Anc ops e.on i → Anc ops j i

def addAll : List Nat → List Nat → List Nat
  | [], acc => acc
  | x :: xs, acc => bif acc.any (Nat.beq x) then addAll xs acc else addAll xs (x :: acc)
theorem addAll_mem : ∀ (xs acc : List Nat) (i : Nat), i ∈ addAll xs acc → i ∈ xs ∨ i ∈ acc
  | [], acc, i, h => .inr h
  | x :: xs, acc, i, h => by
    simp only [addAll] at h
    cases hx : acc.any (Nat.beq x) with
    | true => simp [hx] at h; rcases addAll_mem xs acc i h with h | h; exact .inl (by simp [h]); exact .inr h
    | false =>
      simp [hx] at h
      rcases addAll_mem xs (x :: acc) i h with h | h
      · exact .inl (by simp [h])
      · simp at h; rcases h with rfl | h; exact .inl (by simp); exact .inr h
def ancOf (acc : List (List Nat)) : List Edge → List Nat
  | [] => []
  | e :: es => bif Region.binds .any e then addAll [e.on] (addAll (acc.getD e.on []) (ancOf acc es)) else ancOf acc es
def ancGo : List Oper → List (List Nat) → List (List Nat)
  | [], acc => acc
  | o :: os, acc => ancGo os (acc ++ [ancOf acc o.after.toList])
def ancT (ops : Array Oper) : List (List Nat) := ancGo ops.toList []
theorem ancOf_sound (ops : Array Oper) (acc : List (List Nat)) (h : ∀ (j i : Nat), i ∈ acc.getD j [] → Anc ops j i) (j : Nat) (o : Oper) (ho : ops[j]? = some o) : ∀ (es : List Edge), (∀ e ∈ es, e ∈ o.after) → ∀ i, i ∈ ancOf acc es → Anc ops j i
  | [], _, i, hi => by simp [ancOf] at hi
  | e :: es, hes, i, hi => by
    simp only [ancOf] at hi
    cases hb : Region.binds .any e with
    | false => simp [hb] at hi; exact ancOf_sound ops acc h j o ho es (fun x hx => hes x (by simp [hx])) i hi
    | true =>
      simp only [hb, cond_true] at hi
      rcases addAll_mem _ _ _ hi with hi | hi
      · simp at hi; subst hi; exact .one ho (hes e (by simp)) hb
      · rcases addAll_mem _ _ _ hi with hi | hi
        · exact .more ho (hes e (by simp)) hb (h _ _ hi)
        · exact ancOf_sound ops acc h j o ho es (fun x hx => hes x (by simp [hx])) i hi
theorem ancGo_sound (ops : Array Oper) : ∀ (os : List Oper) (acc : List (List Nat)), (∀ k, os[k]? = ops[acc.length + k]?) → (∀ (j i : Nat), i ∈ acc.getD j [] → Anc ops j i) → ∀ (j i : Nat), i ∈ (ancGo os acc).getD j [] → Anc ops j i
  | [], acc, _, h, j, i, hi => h j i hi
  | o :: os, acc, hos, h, j, i, hi => by
    refine ancGo_sound ops os _ (fun k => ?_) ?_ j i hi
    · have := hos (k + 1)
      simp only [List.getElem?_cons_succ] at this
      rw [this]; congr 1; simp; omega
    · intro j i hi
      have ho : ops[acc.length]? = some o := by have := hos 0; simpa using this.symm
      rw [List.getD_eq_getElem?_getD, List.getElem?_append] at hi
      split at hi
      · exact h j i (by rw [List.getD_eq_getElem?_getD]; exact hi)
      · rename_i hge
        by_cases e : j = acc.length
        · subst e; simp at hi
          exact ancOf_sound ops acc h _ o ho o.after.toList (fun e he => by simpa using he) i hi
        · rw [List.getElem?_eq_none (by simp; omega)] at hi; simp at hi
theorem ancT_sound (ops : Array Oper) (j i : Nat) (h : i ∈ (ancT ops).getD j []) : Anc ops j i :=
  ancGo_sound ops ops.toList [] (fun k => by simp) (fun j i h => by simp at h) j i h

def Listed (l : Array Bool) (i : Nat) : Prop := l.getD i false = true
def Closed (ops : Array Oper) (l : Array Bool) : Prop := ∀ (j : Nat) (o : Oper), ops[j]? = some o → Listed l j → ∀ e ∈ o.after, Region.binds .any e = true → Listed l e.on
theorem Anc.listed {ops : Array Oper} {l : Array Bool} (hc : Closed ops l) {j i : Nat} (h : Anc ops j i) : Listed l j → Listed l i := by
  induction h with
  | one ho he hb => exact fun hl => hc _ _ ho hl _ he hb
  | more ho he hb _ ih => exact fun hl => ih (hc _ _ ho hl _ he hb)
theorem getD_tf {l : Array Bool} {i : Nat} (hi : i < l.size) : l.getD i true = l.getD i false := by simp [Array.getD, hi]
theorem mem_ready {ops : Array Oper} {l : Array Bool} {i : Nat} (hs : l.size = ops.size) : i ∈ Region.ready .any ops l ↔ ¬ Listed l i ∧ ∃ o, ops[i]? = some o ∧ ∀ e ∈ o.after, Region.binds .any e = true → Listed l e.on := by
  unfold Region.ready Listed
  rw [List.mem_filter]
  have key : ∀ o : Oper, (o.after.all fun e => !Region.binds .any e || l.getD e.on false) = true ↔ ∀ e ∈ o.after, Region.binds .any e = true → l.getD e.on false = true := by
    intro o
    rw [Array.all_eq_true']
    constructor
    · intro h e he hb
      have := h e he
      rw [hb] at this
      simpa using this
    · intro h e he
      cases hb : Region.binds .any e with
      | false => rfl
      | true => rw [h e he hb]; rfl
  constructor
  · rintro ⟨h1, h2⟩
    have hi : i < ops.size := by simpa using h1
    rw [Array.getElem?_eq_getElem hi] at h2 ⊢
    rw [getD_tf (by omega), Option.map_some, Option.getD_some, Bool.and_eq_true] at h2
    have h21 := h2.1
    refine ⟨(by intro h; rw [h] at h21; cases h21), _, rfl, (key _).1 h2.2⟩
  · rintro ⟨h1, o, h2, h3⟩
    have hi : i < ops.size := (Array.getElem?_eq_some_iff.1 h2).1
    refine ⟨by simpa using hi, ?_⟩
    rw [h2, getD_tf (by omega), Option.map_some, Option.getD_some, (key o).2 h3]
    simpa using h1
theorem Anc.ready {ops : Array Oper} {l : Array Bool} (hs : l.size = ops.size) (hc : Closed ops l) {j i : Nat} (h : Anc ops j i) (hr : j ∈ Region.ready .any ops l) : Listed l i := by
  obtain ⟨_, o, ho, he⟩ := (mem_ready hs).1 hr
  cases h with
  | one ho' he' hb => rw [ho] at ho'; cases ho'; exact he _ he' hb
  | more ho' he' hb h2 => rw [ho] at ho'; cases ho'; exact h2.listed hc (he _ he' hb)
theorem listed_set {l : Array Bool} {i j : Nat} (hi : i < l.size) : Listed (l.setIfInBounds i true) j ↔ j = i ∨ Listed l j := by
  unfold Listed
  simp only [Array.getD_eq_getD_getElem?, Array.getElem?_setIfInBounds]
  by_cases h : i = j
  · subst h; simp [hi]
  · simp [h, Ne.symm h]
theorem Closed.set {ops : Array Oper} {l : Array Bool} (hs : l.size = ops.size) (hc : Closed ops l) {i : Nat} (hr : i ∈ Region.ready .any ops l) : Closed ops (l.setIfInBounds i true) := by
  obtain ⟨_, o, ho, he⟩ := (mem_ready hs).1 hr
  have hi : i < l.size := by rw [hs]; exact (Array.getElem?_eq_some_iff.1 ho).1
  intro j oj hoj hl e hem hb
  rw [listed_set hi] at hl ⊢
  rcases hl with rfl | hl
  · rw [ho] at hoj; cases hoj; exact .inr (he e hem hb)
  · exact .inr (hc j oj hoj hl e hem hb)

/-- How many are to come. -/
def left (n : Nat) (l : Array Bool) : Nat := (List.range n).countP fun i => !(l.getD i false)
theorem countP_lt {p q : Nat → Bool} (h : ∀ i, q i = true → p i = true) : ∀ (l : List Nat) (i : Nat), i ∈ l → p i = true → q i = false → l.countP q < l.countP p
  | [], i, hi, _, _ => by simp at hi
  | x :: xs, i, hi, hp, hq => by
    have mono : ∀ l : List Nat, l.countP q ≤ l.countP p := fun l => List.countP_mono_left (fun x _ => h x)
    simp only [List.countP_cons]
    simp at hi
    rcases hi with rfl | hi
    · have := mono xs; simp [hp, hq]; omega
    · have := countP_lt h xs i hi hp hq
      have : (if q x = true then 1 else 0) ≤ (if p x = true then 1 else 0) := by
        by_cases hx : q x = true
        · simp [hx, h x hx]
        · simp [hx]
      omega
theorem left_set {n : Nat} {l : Array Bool} {i : Nat} (hi : i < n) (hs : l.size = n) (hl : ¬ Listed l i) : left n (l.setIfInBounds i true) < left n l := by
  refine countP_lt (fun j hj => ?_) _ i (by simpa using hi) (by unfold Listed at hl; simpa using hl) ?_
  · by_cases h : l.getD j false = true
    · have : Listed (l.setIfInBounds i true) j := (listed_set (by omega)).2 (.inr h)
      unfold Listed at this
      rw [this] at hj; simp at hj
    · simpa using h
  · have : Listed (l.setIfInBounds i true) i := (listed_set (by omega)).2 (.inl rfl)
    unfold Listed at this
    rw [this]; rfl
theorem all_of_left {n : Nat} {l : Array Bool} (h : left n l = 0) : ∀ i, i < n → Listed l i := by
  intro i hi
  have := List.countP_eq_zero.1 h i (by simpa using hi)
  unfold Listed
  simpa using this
/-- Edges lead back in the text. -/
def edgesBack : Nat → List Oper → Bool
  | _, [] => true
  | i, o :: os => (o.after.toList.all fun e => !(Region.binds .any e) || Nat.blt e.on i) && edgesBack (i + 1) os
theorem edgesBack_spec : ∀ (i : Nat) (os : List Oper), edgesBack i os = true → ∀ (k : Nat) (o : Oper), os[k]? = some o → ∀ e ∈ o.after, Region.binds .any e = true → e.on < i + k
  | _, [], _, k, o, h => by simp at h
  | i, o' :: os, hb, 0, o, h => by
    simp at h; subst h
    simp only [edgesBack, Bool.and_eq_true] at hb
    intro e he hbe
    have := List.all_eq_true.1 hb.1 e (by simpa using he)
    rw [hbe] at this
    have h2 : Nat.blt e.on i = true := by simpa using this
    exact Nat.le_of_ble_eq_true h2
  | i, o' :: os, hb, k + 1, o, h => by
    simp only [edgesBack, Bool.and_eq_true] at hb
    have := edgesBack_spec (i + 1) os hb.2 k o (by simpa using h)
    intro e he hbe
    have := this e he hbe
    omega
theorem all_of_stuck {ops : Array Oper} {l : Array Bool} (hs : l.size = ops.size) (he : edgesBack 0 ops.toList = true) (hr : Region.ready .any ops l = []) : ∀ i, i < ops.size → Listed l i := by
  intro i
  induction i using Nat.strongRecOn with
  | _ i ih =>
    intro hi
    by_cases hl : Listed l i
    · exact hl
    · have : i ∈ Region.ready .any ops l := (mem_ready hs).2 ⟨hl, ops[i], Array.getElem?_eq_getElem hi, fun e hem hb => by
        have := edgesBack_spec 0 ops.toList he i ops[i] (by simp [hi]) e hem hb
        exact ih e.on (by omega) (by omega)⟩
      rw [hr] at this; simp at this
end Go.Pv
namespace Go.Pv
open Go Go.RowKit

/-- The operations that come in any order, in the text's order: none of them writes. -/
noncomputable def parK (P : Program) (K : Tab) (ops : Array Oper) (base : Nat) : List Nat → St → (St → Option DV) → Option DV
  | [], s, k => k s
  | i :: rest, ⟨ts, n, h⟩, k => match ops[i]? with
    | none => none
    | some o => guardK ops ts n o
      (fun ts => opk P K (evalV ts n) h (base + i) o fun x eff => match eff with
        | .none => putK ts o.dst x fun ts' => parK P K ops base rest ⟨ts', n, h⟩ k
        | .new cs => putK ts o.dst x fun ts' => appK (base + i) h (.new cs) fun h' => parK P K ops base rest ⟨ts', n, h'⟩ k
        | .newm cs => putK ts o.dst x fun ts' => appK (base + i) h (.newm cs) fun h' => parK P K ops base rest ⟨ts', n, h'⟩ k
        | _ => none)
      (fun ts => putK ts o.dst (.dv (.val undef)) fun ts' => parK P K ops base rest ⟨ts', n, h⟩ k)
theorem parK_cons (P : Program) (K : Tab) (ops : Array Oper) (base : Nat) (i : Nat) (rest : List Nat) (s : St) (k : St → Option DV) : parK P K ops base (i :: rest) s k = match ops[i]? with
    | none => none
    | some o => guardK ops s.tmps s.n o
      (fun ts => opk P K (evalV ts s.n) s.heap (base + i) o fun x eff => match eff with
        | .none => parK P K ops base rest ⟨putV ts o.dst x, s.n, s.heap⟩ k
        | .new cs => parK P K ops base rest ⟨putV ts o.dst x, s.n, (Eff.new cs).app (base + i) s.heap⟩ k
        | .newm cs => parK P K ops base rest ⟨putV ts o.dst x, s.n, (Eff.newm cs).app (base + i) s.heap⟩ k
        | _ => none)
      (fun ts => parK P K ops base rest ⟨putV ts o.dst (.dv (.val undef)), s.n, s.heap⟩ k) := by
  cases s
  simp only [parK, putK_eq, appK_eq]

def Eff.quiet : Eff → Bool
  | .none => true
  | .new _ => true
  | .newm _ => true
  | _ => false
structure Stp (P : Program) (I : World → Prop) (ops : Array Oper) (base i : Nat) (s s' : St) (x : VV) (eff : Eff) : Prop where
  quiet : eff.quiet = true
  ok : ∃ o ts, ops[i]? = some o ∧ Le s.tmps ts ∧ s' = ⟨putV ts o.dst x, s.n, eff.app (base + i) s.heap⟩ ∧
    ((GuardIs ops s.tmps s.n o true ∧ OpOk P I o (evalV ts s.n) s.heap (base + i) x eff) ∨ (GuardIs ops s.tmps s.n o false ∧ x = .dv (.val undef) ∧ eff = .none))

theorem parK_trace {P : Program} {I : World → Prop} {K : Tab} (HK : KGood P I K) {ops : Array Oper} {base : Nat} {k : St → Option DV} {r : DV} : ∀ (m i : Nat) (s : St), parK P K ops base (List.range' i m) s k = some r →
    ∃ (σ : Nat → St) (xs : Nat → VV) (es : Nat → Eff), σ i = s ∧ k (σ (i + m)) = some r ∧ ∀ j, i ≤ j → j < i + m → Stp P I ops base j (σ j) (σ (j + 1)) (xs j) (es j)
  | 0, i, s, h => ⟨fun _ => s, fun _ => default, fun _ => .none, rfl, by simpa [parK] using h, fun j h1 h2 => by omega⟩
  | m + 1, i, s, h => by
    rw [List.range'_succ] at h
    simp only [parK_cons] at h
    cases ho : ops[i]? with
    | none => simp [ho] at h
    | some o =>
      simp only [ho] at h
      have done : ∀ (s' : St) (x : VV) (eff : Eff), Stp P I ops base i s s' x eff → parK P K ops base (List.range' (i + 1) m) s' k = some r →
          ∃ (σ : Nat → St) (xs : Nat → VV) (es : Nat → Eff), σ i = s ∧ k (σ (i + (m + 1))) = some r ∧ ∀ j, i ≤ j → j < i + (m + 1) → Stp P I ops base j (σ j) (σ (j + 1)) (xs j) (es j) := by
        intro s' x eff hst h
        obtain ⟨σ, xs, es, h1, h2, h3⟩ := parK_trace HK m (i + 1) s' h
        refine ⟨fun j => if j = i then s else σ j, fun j => if j = i then x else xs j, fun j => if j = i then eff else es j, by simp, ?_, ?_⟩
        · have : ¬ i + (m + 1) = i := by omega
          simp only [this, if_false]
          rw [show i + (m + 1) = i + 1 + m by omega]; exact h2
        · intro j hj1 hj2
          by_cases e : j = i
          · subst e
            simp only [if_true, show ¬ j + 1 = j by omega, if_false, h1]
            exact hst
          · simp only [e, if_false, show ¬ j + 1 = i by omega]
            exact h3 j (by omega) (by omega)
      obtain ⟨b, ts1, hg, hle, hb, _⟩ := guardK_inv h
      cases b with
      | false =>
        simp at hb
        exact done _ _ _ ⟨rfl, o, ts1, ho, hle, rfl, .inr ⟨hg, rfl, rfl⟩⟩ hb
      | true =>
        simp at hb
        obtain ⟨x, eff, hk, hok⟩ := opk_ok HK hb
        cases eff with
        | none => exact done _ _ _ ⟨rfl, o, ts1, ho, hle, rfl, .inl ⟨hg, hok⟩⟩ hk
        | new cs => exact done _ _ _ ⟨rfl, o, ts1, ho, hle, rfl, .inl ⟨hg, hok⟩⟩ hk
        | newm cs => exact done _ _ _ ⟨rfl, o, ts1, ho, hle, rfl, .inl ⟨hg, hok⟩⟩ hk
        | upd b cs => simp at hk
        | move b cs => simp at hk
        | updm b cs => simp at hk
        | call ids Hc => simp at hk
        | ice bs => simp at hk

theorem app_quiet {eff : Eff} (hq : eff.quiet = true) (id : Nat) (H : List (Option Blk)) (hid : id < H.length) : (eff.app id H).length = H.length ∧ ∀ b, b ≠ id → (eff.app id H)[b]? = H[b]? := by
  have hb : Nat.blt id H.length = true := Nat.ble_eq_true_of_le hid
  cases eff with
  | none => exact ⟨rfl, fun _ _ => rfl⟩
  | new cs => exact ⟨by simp [Eff.app, addB, hb], fun b hb => addB_other id H cs (by omega) b hb⟩
  | newm cs => exact ⟨by simp [Eff.app, addM, hb], fun b hb => addM_other id H _ (by omega) b hb⟩
  | upd b cs => cases hq
  | move b cs => cases hq
  | updm b cs => cases hq
  | call ids Hc => cases hq
  | ice bs => cases hq
section par
variable {P : Program} {I : World → Prop} {K : Tab} {ops : Array Oper} {base p : Nat} {σ : Nat → St} {xs : Nat → VV} {es : Nat → Eff} {H0 : List (Option Blk)}
/-- The two checks on the operations. -/
structure Chk (ops : Array Oper) (p : Nat) : Prop where
  back : edgesBack 0 ops.toList = true
  le : p ≤ ops.size
  pair : ∀ i j oi oj, i < j → ops[i]? = some oi → ops[j]? = some oj → (j < p ∧ oi.apart ops oj = true) ∨ Anc ops j i
def Trail (P : Program) (I : World → Prop) (ops : Array Oper) (base p : Nat) (σ : Nat → St) (xs : Nat → VV) (es : Nat → Eff) : Prop := ∀ j, j < p → Stp P I ops base j (σ j) (σ (j + 1)) (xs j) (es j)
theorem Trail.heap_len (h : Trail P I ops base p σ xs es) (h0 : (σ 0).heap.length = base + ops.size) (hp : p ≤ ops.size) : ∀ i, i ≤ p → (σ i).heap.length = base + ops.size := by
  intro i
  induction i with
  | zero => intro _; exact h0
  | succ i ih =>
    intro hi
    have hst := h i (by omega)
    obtain ⟨o, ts1, ho, _, e, _⟩ := hst.ok
    rw [e]
    have := ih (by omega)
    exact ((app_quiet hst.quiet (base + i) (σ i).heap (by omega)).1).trans this
theorem Trail.heap_at (h : Trail P I ops base p σ xs es) (h0 : (σ 0).heap.length = base + ops.size) (hp : p ≤ ops.size) (b : Nat) : ∀ m i, i + m ≤ p → (∀ j, i ≤ j → j < i + m → b ≠ base + j) → (σ (i + m)).heap[b]? = (σ i).heap[b]? := by
  intro m
  induction m with
  | zero => intro i _ _; rfl
  | succ m ih =>
    intro i hi hb
    have hst := h (i + m) (by omega)
    obtain ⟨o, ts1, ho, _, e, _⟩ := hst.ok
    rw [← Nat.add_assoc, e]
    have := h.heap_len h0 hp (i + m) (by omega)
    exact ((app_quiet hst.quiet (base + (i + m)) (σ (i + m)).heap (by omega)).2 b (hb _ (by omega) (by omega))).trans (ih i (by omega) (fun j h1 h2 => hb j h1 (by omega)))
theorem Trail.n_same (h : Trail P I ops base p σ xs es) : ∀ i, i ≤ p → (σ i).n = (σ 0).n := by
  intro i
  induction i with
  | zero => intro _; rfl
  | succ i ih =>
    intro hi
    obtain ⟨o, ts1, ho, _, e, _⟩ := (h i (by omega)).ok
    rw [e, ← ih (by omega)]
theorem Trail.tmps_at (h : Trail P I ops base p σ xs es) (t : Nat) {U : Nat → Prop} {w : World} {D : Nat → Option Nat} {v : Value} : ∀ m i, i + m ≤ p → (∀ j o, i ≤ j → j < i + m → ops[j]? = some o → o.dst ≠ some t) → VRep U w D ((σ i).tmps.get t) v → VRep U w D ((σ (i + m)).tmps.get t) v := by
  intro m
  induction m with
  | zero => intro i _ _ hv; exact hv
  | succ m ih =>
    intro i hi hb hv
    obtain ⟨o, ts1, ho, hle, e, _⟩ := (h (i + m) (by omega)).ok
    have h1 := ih i (by omega) (fun j o h1 h2 => hb j o h1 (by omega)) hv
    have hne := hb (i + m) o (by omega) (by omega) ho
    rw [← Nat.add_assoc, e]
    rcases get_putV ts1 o.dst (xs (i + m)) t with g | g
    · simp only []; rw [g, if_neg hne]; exact hle.rep h1
    · simp only []; rw [g]; trivial

/-- Where a region stands when some of its first operations are done. -/
structure Inv (I : World → Prop) (ops : Array Oper) (base p : Nat) (σ : Nat → St) (H0 : List (Option Blk)) (N : Nat → Prop) (w0 : World) (l : Array Bool) (D : Nat → Option Nat) (U : Nat → Prop) (H' : List (Option Blk)) (a : Act) (w : World) : Prop where
  defers : a.defers = []
  size : a.tmps.size = (σ 0).n
  tmps : ∀ t, ∃ i, i ≤ p ∧ (∀ v, a.tmps[t]? = some v → VRep U w D ((σ i).tmps.get t) v) ∧ (∀ j o, Listed l j → ops[j]? = some o → o.dst = some t → j < i) ∧
    (∀ i', i = i' + 1 → Listed l i' ∧ ∃ o, ops[i']? = some o ∧ o.dst = some t)
  len : H'.length = base + ops.size
  heap : ∀ b, (b < base → H'[b]? = H0[b]?) ∧ (base ≤ b → Listed l (b - base) → H'[b]? = (σ p).heap[b]?) ∧ (base ≤ b → ¬ Listed l (b - base) → b < base + ops.size → H'[b]? = some none)
  wr : WRel D U N w0 H' w
  n : Lt N w
  lsize : l.size = ops.size
  first : ∀ j, Listed l j → j < p
  i0 : ∀ w', Keeps N w0 w' → I w'
end par
end Go.Pv
namespace Go.Pv
open Go Go.RowKit

section any
variable {P : Program} {I : World → Prop} {K : Tab} {ops : Array Oper} {base p : Nat} {σ : Nat → St} {xs : Nat → VV} {es : Nat → Eff} {H0 : List (Option Blk)}

theorem dst_looks {oi oj : Oper} (h : oi.apart ops oj = true) : (∀ d, oi.dst = some d → d ∉ oj.looksAt ops) ∧ (∀ d, oi.dst = some d → oj.dst ≠ some d) ∧ (∀ d, oj.dst = some d → d ∉ oi.looksAt ops) := Oper.apart_spec h

theorem Inv.operand (hT : Trail P I ops base p σ xs es) (hC : Chk ops p) {N : Nat → Prop} {w0 : World} {l : Array Bool} {D : Nat → Option Nat} {U : Nat → Prop} {H' : List (Option Blk)} {a : Act} {w : World} (hI : Inv I ops base p σ H0 N w0 l D U H' a w) (hc : Closed ops l)
    {i0 : Nat} (hr : i0 ∈ Region.ready .any ops l) (hi0 : i0 < p) {o : Oper} (ho : ops[i0]? = some o) (t : Nat) (ht : t ∈ o.looksAt ops) : ∀ v, a.tmps[t]? = some v → VRep U w D ((σ i0).tmps.get t) v := by
  obtain ⟨i, hip, hv, hlast, hfst⟩ := hI.tmps t
  have hnl : ¬ Listed l i0 := ((mem_ready hI.lsize).1 hr).1
  have hii : i ≤ i0 := by
    rcases Nat.eq_zero_or_pos i with h | h
    · omega
    · obtain ⟨i', rfl⟩ : ∃ i', i = i' + 1 := ⟨i - 1, by omega⟩
      obtain ⟨hl', o', ho', hd'⟩ := hfst i' rfl
      rcases Nat.lt_trichotomy i' i0 with h1 | h1 | h1
      · omega
      · subst h1; exact absurd hl' hnl
      · rcases hC.pair i0 i' o o' h1 ho ho' with ⟨_, hap⟩ | hanc
        · exact absurd ht ((dst_looks hap).2.2 t hd')
        · exact absurd (hanc.listed hc hl') hnl
  intro v hav
  obtain ⟨m, rfl⟩ : ∃ m, i0 = i + m := ⟨i0 - i, by omega⟩
  refine hT.tmps_at t m i (by omega) (fun j oj h1 h2 hoj hd => ?_) (hv v hav)
  rcases hC.pair j (i + m) oj o h2 hoj ho with ⟨_, hap⟩ | hanc
  · exact (dst_looks hap).1 t hd ht
  · have := hlast j oj (hanc.ready hI.lsize hc hr) hoj hd
    omega

theorem Inv.next (hT : Trail P I ops base p σ xs es) (hC : Chk ops p) (h0 : (σ 0).heap.length = base + ops.size) (hz : ∀ j, j < ops.size → (σ 0).heap[base + j]? = some none) {N : Nat → Prop} {w0 : World} {l : Array Bool} {D : Nat → Option Nat} {U : Nat → Prop} {H' : List (Option Blk)} {a : Act} {w : World} (hI : Inv I ops base p σ H0 N w0 l D U H' a w) (hc : Closed ops l)
    {i0 : Nat} (hr : i0 ∈ Region.ready .any ops l) (hi0 : i0 < p) {o : Oper} (ho : ops[i0]? = some o) {ts1 : Tr} (he : σ (i0 + 1) = ⟨putV ts1 o.dst (xs i0), (σ i0).n, (es i0).app (base + i0) (σ i0).heap⟩)
    {v : Value} {w' : World} {D' : Nat → Option Nat} {U' : Nat → Prop} (hon : Onward N D U w D' U' w') (hW : WRel D' U' N w0 ((es i0).app (base + i0) H') w') (hx : VRep U' w' D' (xs i0) v) :
    Inv I ops base p σ H0 N w0 (l.setIfInBounds i0 true) D' U' ((es i0).app (base + i0) H') (a.put o.dst v) w' := by
  have hnl : ¬ Listed l i0 := ((mem_ready hI.lsize).1 hr).1
  have hls : i0 < l.size := by rw [hI.lsize]; have := hC.le; omega
  have hq := (hT i0 hi0).quiet
  have hlen : base + i0 < H'.length := by rw [hI.len]; have := hC.le; omega
  have haq := app_quiet hq (base + i0) H' hlen
  refine ⟨?_, ?_, ?_, haq.1.trans hI.len, ?_, hW, hI.n.mono hon.size, by simpa using hI.lsize, ?_, hI.i0⟩
  · simp only [Act.put]; split <;> exact hI.defers
  · have : (a.put o.dst v).tmps.size = a.tmps.size := by simp only [Act.put]; split <;> simp
    rw [this]; exact hI.size
  · intro t
    by_cases hd : o.dst = some t
    · refine ⟨i0 + 1, by omega, ?_, ?_, ?_⟩
      · intro u h2
        rw [he]
        simp only [hd, Act.put] at h2 ⊢
        rw [Array.getElem?_setIfInBounds] at h2
        simp at h2
        rcases get_putV ts1 (some t) (xs i0) t with g | g
        · rw [g, if_pos rfl, ← h2.2]; exact hx
        · rw [g]; trivial
      · intro j oj hl hoj hdj
        rcases (listed_set hls).1 hl with rfl | hl
        · omega
        · rcases Nat.lt_or_ge j (i0 + 1) with h | h
          · exact h
          · rcases hC.pair i0 j o oj (by omega) ho hoj with ⟨_, hap⟩ | hanc
            · exact absurd hdj ((dst_looks hap).2.1 t hd)
            · exact absurd (hanc.listed hc hl) hnl
      · intro i' hi'
        obtain rfl : i' = i0 := by omega
        exact ⟨(listed_set hls).2 (.inl rfl), o, ho, hd⟩
    · obtain ⟨i, hip, hv, hlast, hfst⟩ := hI.tmps t
      refine ⟨i, hip, ?_, ?_, ?_⟩
      · intro u h2
        have h3 : a.tmps[t]? = some u := by
          simp only [Act.put] at h2
          split at h2
          · rename_i d hd'
            rw [Array.getElem?_setIfInBounds_ne (fun e => hd (by rw [hd', e]))] at h2
            exact h2
          · exact h2
        exact (hv u h3).onward hon
      · intro j oj hl hoj hdj
        rcases (listed_set hls).1 hl with rfl | hl
        · rw [ho] at hoj; cases hoj; exact absurd hdj hd
        · exact hlast j oj hl hoj hdj
      · intro i' hi'
        obtain ⟨h1, h2⟩ := hfst i' hi'
        exact ⟨(listed_set hls).2 (.inr h1), h2⟩
  · intro b
    obtain ⟨hb1, hb2, hb3⟩ := hI.heap b
    by_cases hb : b = base + i0
    · subst hb
      refine ⟨fun h => by omega, fun _ _ => ?_, fun _ h => absurd ((listed_set hls).2 (.inl (by omega))) h⟩
      have hfin : (σ p).heap[base + i0]? = (σ (i0 + 1)).heap[base + i0]? := by
        obtain ⟨m, hm⟩ : ∃ m, p = i0 + 1 + m := ⟨p - (i0 + 1), by omega⟩
        have := hT.heap_at h0 hC.le (base + i0) m (i0 + 1) (by omega) (fun j h1 h2 => by omega)
        rw [← hm] at this
        exact this
      have hbef : (σ i0).heap[base + i0]? = some none := by
        have := hT.heap_at h0 hC.le (base + i0) i0 0 (by omega) (fun j h1 h2 => by omega)
        rw [Nat.zero_add] at this
        rw [this]
        exact hz i0 (by have := hC.le; omega)
      rw [hfin, he]
      have hH' : H'[base + i0]? = some none := hb3 (by omega) (by rw [Nat.add_sub_cancel_left]; exact hnl) (by have := hC.le; omega)
      cases hes : es i0 with
      | none => simp only [Eff.app]; rw [hH', hbef]
      | upd b cs => rw [hes] at hq; cases hq
      | move b cs => rw [hes] at hq; cases hq
      | updm b cs => rw [hes] at hq; cases hq
      | call ids Hc => rw [hes] at hq; cases hq
      | ice bs => rw [hes] at hq; cases hq
      | newm cs =>
        simp only [Eff.app]
        rw [addM_same _ _ _ (by omega), addM_same _ _ _ (by rw [hT.heap_len h0 hC.le i0 (by omega)]; have := hC.le; omega)]
      | new cs =>
        simp only [Eff.app]
        rw [addB_same _ _ _ (by omega), addB_same _ _ _ (by rw [hT.heap_len h0 hC.le i0 (by omega)]; have := hC.le; omega)]
    · rw [haq.2 b hb]
      refine ⟨hb1, fun h1 h2 => ?_, fun h1 h2 => hb3 h1 (fun h => h2 ((listed_set hls).2 (.inr h)))⟩
      rcases (listed_set hls).1 h2 with h | h
      · omega
      · exact hb2 h1 h
  · intro j hl
    rcases (listed_set hls).1 hl with rfl | hl
    · exact hi0
    · exact hI.first j hl

theorem Inv.last (hT : Trail P I ops base p σ xs es) (hC : Chk ops p) (h0 : (σ 0).heap.length = base + ops.size) (hz0 : ∀ b, b < base → (σ 0).heap[b]? = H0[b]?) (hz : ∀ j, j < ops.size → (σ 0).heap[base + j]? = some none) {N : Nat → Prop} {w0 : World} {l : Array Bool} {D : Nat → Option Nat} {U : Nat → Prop} {H' : List (Option Blk)} {a : Act} {w : World}
    (hI : Inv I ops base p σ H0 N w0 l D U H' a w) (hall : ∀ j, j < p → Listed l j) : Rel I D U N w0 (σ p) a w := by
  have hH : H' = (σ p).heap := by
    apply List.ext_getElem?
    intro b
    obtain ⟨hb1, hb2, hb3⟩ := hI.heap b
    rcases Nat.lt_or_ge b base with h | h
    · rw [hb1 h, ← hz0 b h]
      have := hT.heap_at h0 hC.le b p 0 (by omega) (fun j h1 h2 => by omega)
      rw [Nat.zero_add] at this
      exact this.symm
    · by_cases hl : Listed l (b - base)
      · exact hb2 h hl
      · have hp : p ≤ b - base := by
          rcases Nat.lt_or_ge (b - base) p with h' | h'
          · exact absurd (hall _ h') hl
          · exact h'
        have := hT.heap_at h0 hC.le b p 0 (by omega) (fun j h1 h2 => by omega)
        rw [Nat.zero_add] at this
        rcases Nat.lt_or_ge b (base + ops.size) with h2 | h2
        · rw [hb3 h hl h2, this]
          have := hz (b - base) (by omega)
          rw [show base + (b - base) = b by omega] at this
          exact this.symm
        · rw [List.getElem?_eq_none (by rw [hI.len]; exact h2), List.getElem?_eq_none (by rw [hT.heap_len h0 hC.le p (Nat.le_refl _)]; exact h2)]
  refine ⟨⟨hI.defers, ?_, ?_⟩, hH ▸ hI.wr, hI.n, hI.i0⟩
  · rw [hI.size, hT.n_same p (Nat.le_refl _)]
  · intro t v h2
    obtain ⟨i, hip, hv, hlast, hfst⟩ := hI.tmps t
    obtain ⟨m, hm⟩ : ∃ m, p = i + m := ⟨p - i, by omega⟩
    have := hT.tmps_at t m i (by omega) (fun j o h1 h2 hj hd => by have := hlast j o (hall j (by omega)) hj hd; omega) (hv v h2)
    rw [← hm] at this
    exact this

/-- The last operations come one after another. -/
theorem tail_ok (HK : KGood P I K) (hC : Chk ops p) {Q : Exit → Act → World → Prop} {k : St → Option DV} {r : DV} {N : Nat → Prop} {w0 : World} : ∀ (m q : Nat), p ≤ q → q + m = ops.size → ∀ (fuel : Nat), m ≤ fuel → ∀ (l : Array Bool), l.size = ops.size → (∀ j, j < ops.size → (Listed l j ↔ j < q)) →
    ∀ (s : St) (D : Nat → Option Nat) (U : Nat → Prop) (a : Act) (w : World), pevOps P K ops (List.range' q m) s k = some r → Rel I D U N w0 s a w →
    (∀ s' D' U' a' w', k s' = some r → Rel I D' U' N w0 s' a' w' → Onward N D U w D' U' w' → Q .normal a' w') → wpAny P .any ops Q fuel l a w
  | 0, q, hpq, hqm, fuel, hf, l, hs, hl, s, D, U, a, w, h, hR, hQ => by
    have hnil : Region.ready .any ops l = [] := by
      cases hr : Region.ready .any ops l with
      | nil => rfl
      | cons i rest =>
        have hi : i ∈ Region.ready .any ops l := by rw [hr]; simp
        obtain ⟨h1, o, ho, _⟩ := (mem_ready hs).1 hi
        have hlt := (Array.getElem?_eq_some_iff.1 ho).1
        exact absurd ((hl i hlt).2 (by omega)) h1
    have hq := hQ s D U a w (by simpa [pevOps] using h) hR Onward.refl
    cases fuel with
    | zero => exact ⟨hnil, hq⟩
    | succ fuel => exact ⟨fun _ => hq, fun i hi => by rw [hnil] at hi; simp at hi⟩
  | m + 1, q, hpq, hqm, 0, hf, l, hs, hl, s, D, U, a, w, h, hR, hQ => by omega
  | m + 1, q, hpq, hqm, fuel + 1, hf, l, hs, hl, s, D, U, a, w, h, hR, hQ => by
    rw [List.range'_succ] at h
    simp only [pevOps_cons] at h
    have hqs : q < ops.size := by omega
    have hoq : ops[q]? = some ops[q] := Array.getElem?_eq_getElem hqs
    have hcl : Closed ops l := by
      intro j o ho hlj e he hb
      have hj := (Array.getElem?_eq_some_iff.1 ho).1
      have := edgesBack_spec 0 ops.toList hC.back j o (by simpa using ho) e he hb
      exact (hl e.on (by omega)).2 (by have := (hl j hj).1 hlj; omega)
    have only : ∀ i, i ∈ Region.ready .any ops l → i = q := by
      intro i hi
      obtain ⟨h1, o, ho, _⟩ := (mem_ready hs).1 hi
      have hlt := (Array.getElem?_eq_some_iff.1 ho).1
      have hge : q ≤ i := by
        rcases Nat.lt_or_ge i q with h' | h'
        · exact absurd ((hl i hlt).2 h') h1
        · exact h'
      rcases Nat.lt_or_ge q i with h' | h'
      · rcases hC.pair q i _ o h' hoq ho with ⟨hp, _⟩ | hanc
        · omega
        · have := (hl q hqs).1 (hanc.ready hs hcl hi)
          omega
      · omega
    have hqr : q ∈ Region.ready .any ops l := by
      refine (mem_ready hs).2 ⟨fun h => by have := (hl q hqs).1 h; omega, _, hoq, fun e he hb => ?_⟩
      have := edgesBack_spec 0 ops.toList hC.back q _ (by simp) e he hb
      exact (hl e.on (by omega)).2 (by omega)
    refine ⟨fun h0 => by rw [h0] at hqr; simp at hqr, fun i hi => ?_⟩
    obtain rfl := only i hi
    have hl' : ∀ j, j < ops.size → (Listed (l.setIfInBounds i true) j ↔ j < i + 1) := by
      intro j hj
      rw [listed_set (by omega), hl j hj]
      omega
    unfold wpOp
    rw [hoq] at h ⊢
    simp only [] at h ⊢
    obtain ⟨ts1, hle, hcase⟩ := guardK_ok h hR.t
    have ht1 := hR.t.le hle
    rcases hcase with ⟨hw, h⟩ | ⟨hw, h⟩
    · simp only [hw, if_true]
      left
      obtain ⟨x, eff, hk, hok⟩ := opk_ok HK h
      refine hok.seq D U N w0 w a _ Q hR.i0 hR.wr hR.n (fun y _ => ht1.eval y) ?_
      intro v w' D' U' hon hW' hx
      refine tail_ok HK hC m (i + 1) (by omega) (by omega) fuel (by omega) _ (by simpa using hs) hl' _ D' U' _ w' hk ⟨(ht1.onward hon).put _ hx, hW', hR.n.mono hon.size, hR.i0⟩ ?_
      intro s' D'' U'' a' w'' hk' hR' hon'
      exact hQ s' D'' U'' a' w'' hk' hR' (hon.trans hon')
    · simp only [hw, Bool.false_eq_true, if_false]
      exact tail_ok HK hC m (i + 1) (by omega) (by omega) fuel (by omega) _ (by simpa using hs) hl' _ D U _ w h ⟨ht1.put _ (.val _), hR.wr, hR.n, hR.i0⟩ hQ

theorem left_ge {n p : Nat} {l : Array Bool} (hf : ∀ j, Listed l j → j < p) (hp : p ≤ n) : n - p ≤ left n l := by
  unfold left
  have e : List.range n = List.range' 0 p ++ List.range' p (n - p) := by
    rw [List.range_eq_range', show n = p + (n - p) by omega, ← List.range'_append_1]
    simp
  rw [e, List.countP_append]
  have : (List.range' p (n - p)).countP (fun i => !(l.getD i false)) = (List.range' p (n - p)).length := by
    rw [List.countP_eq_length]
    intro j hj
    have hj' : p ≤ j := by have := List.mem_range'_1.1 hj; omega
    cases h : l.getD j false with
    | false => rfl
    | true => have := hf j h; omega
  rw [this, List.length_range']
  omega
theorem any_ok (HK : KGood P I K) (hT : Trail P I ops base p σ xs es) (hC : Chk ops p) (h0 : (σ 0).heap.length = base + ops.size) (hz0 : ∀ b, b < base → (σ 0).heap[b]? = H0[b]?) (hz : ∀ j, j < ops.size → (σ 0).heap[base + j]? = some none)
    {Q : Exit → Act → World → Prop} {k : St → Option DV} {r : DV} {N : Nat → Prop} {w0 : World} (hk : pevOps P K ops (List.range' p (ops.size - p)) (σ p) k = some r) : ∀ (fuel : Nat) (l : Array Bool) (D : Nat → Option Nat) (U : Nat → Prop) (H' : List (Option Blk)) (a : Act) (w : World),
    Inv I ops base p σ H0 N w0 l D U H' a w → Closed ops l → left ops.size l ≤ fuel →
    (∀ s' D' U' a' w', k s' = some r → Rel I D' U' N w0 s' a' w' → Onward N D U w D' U' w' → Q .normal a' w') → wpAny P .any ops Q fuel l a w := by
  intro fuel
  induction fuel with
  | zero =>
    intro l D U H' a w hI hc hf hQ
    have hall := all_of_left (Nat.le_zero.1 hf)
    have hp : p = ops.size := by have := left_ge hI.first hC.le; have := hC.le; omega
    refine tail_ok HK hC 0 p (Nat.le_refl _) (by omega) 0 (by omega) l hI.lsize (fun j hj => ⟨fun h => hI.first j h, fun _ => hall j hj⟩) (σ p) D U a w ?_ (hI.last hT hC h0 hz0 hz (fun j hj => hall j (by omega))) hQ
    rw [show ops.size - p = 0 by omega] at hk
    exact hk
  | succ fuel ih =>
    intro l D U H' a w hI hc hf hQ
    by_cases hall : ∀ j, j < p → Listed l j
    · exact tail_ok HK hC (ops.size - p) p (Nat.le_refl _) (by have := hC.le; omega) (fuel + 1) (Nat.le_trans (left_ge hI.first hC.le) hf) l hI.lsize (fun j hj => ⟨fun h => hI.first j h, fun h => hall j h⟩) (σ p) D U a w hk (hI.last hT hC h0 hz0 hz hall) hQ
    · have hle := hC.le
      refine ⟨fun hr => absurd (fun j hj => all_of_stuck hI.lsize hC.back hr j (by omega)) hall, fun i hi => ?_⟩
      obtain ⟨hnl, o, ho, _⟩ := (mem_ready hI.lsize).1 hi
      have his := (Array.getElem?_eq_some_iff.1 ho).1
      have hip : i < p := by
        rcases Nat.lt_or_ge i p with h | h
        · exact h
        · refine absurd (fun j hj => ?_) hall
          rcases hC.pair j i _ o (by omega) (Array.getElem?_eq_getElem (show j < ops.size by omega)) ho with ⟨h', _⟩ | hanc
          · omega
          · exact hanc.ready hI.lsize hc hi
      obtain ⟨o', ts1, ho', hle, he, hcase⟩ := (hT i hip).ok
      rw [ho] at ho'; cases ho'
      have hlen : base + i < H'.length := by rw [hI.len]; omega
      have hdn : D (base + i) = none := by
        cases hd : D (base + i) with
        | none => rfl
        | some kk =>
          obtain ⟨_, _, vs, g⟩ := hI.wr.own _ kk hd
          have := (hI.heap (base + i)).2.2 (by omega) (by rw [Nat.add_sub_cancel_left]; exact hnl) (by omega)
          rw [this] at g; cases g
      have hop := hI.operand hT hC hc hi hip ho
      have hlft : left ops.size (l.setIfInBounds i true) ≤ fuel := by have := left_set his hI.lsize hnl; omega
      have hc' := hc.set hI.lsize hi
      have hsz : a.tmps.size = (σ i).n := by rw [hI.size, hT.n_same i (by omega)]
      unfold wpOp
      rw [ho]
      simp only []
      rcases hcase with ⟨hg, hok⟩ | ⟨hg, hx, heff⟩
      · have hw := hg.real (D := D) (U := U) (w := w) (a := a) hsz hop
        simp only [hw, if_true]
        left
        have hcompat : Compat (σ i).heap H' := by
          intro b cs cs' h1 h2
          obtain ⟨hb1, hb2, hb3⟩ := hI.heap b
          rcases Nat.lt_or_ge b base with h | h
          · rw [hb1 h, ← hz0 b h] at h2
            have := hT.heap_at h0 hC.le b i 0 (by omega) (fun j h1 h2 => by omega)
            rw [Nat.zero_add] at this
            rw [this, h2] at h1
            simpa using h1.symm
          · by_cases hl : Listed l (b - base)
            · rw [hb2 h hl] at h2
              have hlt : b - base < i := by
                rcases Nat.lt_or_ge (b - base) i with h' | h'
                · exact h'
                · exfalso
                  have := hT.heap_at h0 hC.le b i 0 (by omega) (fun j h1 h2 => by omega)
                  rw [Nat.zero_add] at this
                  rw [this] at h1
                  have hbl : b < base + ops.size := by have := hI.first _ hl; omega
                  have := hz (b - base) (by omega)
                  rw [show base + (b - base) = b by omega] at this
                  rw [this] at h1; cases h1
              obtain ⟨m, hm⟩ : ∃ m, p = i + m := ⟨p - i, by omega⟩
              have := hT.heap_at h0 hC.le b m i (by omega) (fun j h1 h2 => by omega)
              rw [← hm] at this
              rw [this, h1] at h2
              simpa using h2
            · have hbl : b < base + ops.size := by
                have := (List.getElem?_eq_some_iff.1 h2).1
                rw [hI.len] at this; exact this
              rw [hb3 h hl hbl] at h2; cases h2
        refine hok D U N w0 H' w a _ Q (hI.i0 w hI.wr.below) hcompat hI.wr hI.n hdn (by omega) (fun y hy => evalV_rep hsz y fun t ht v h2 => hle.rep (hop t ?_ v h2)) ?_
        · unfold Oper.looksAt
          exact List.mem_append_left _ (List.mem_filterMap.2 ⟨.tmp t, by rw [← ht]; simpa using hy, rfl⟩)
        · intro v w' D' U' hon hW' _ hx
          refine ih _ D' U' _ _ w' (hI.next hT hC h0 hz hc hi hip ho he hon hW' hx) hc' hlft ?_
          intro s' D'' U'' a' w'' hk' hR' hon'
          exact hQ s' D'' U'' a' w'' hk' hR' (hon.trans hon')
      · have hw := hg.real (D := D) (U := U) (w := w) (a := a) hsz hop
        simp only [hw, Bool.false_eq_true, if_false]
        have hn := hI.next hT hC h0 hz hc hi hip ho he (v := undef) (w' := w) Onward.refl (by rw [heff]; exact hI.wr) (by rw [hx]; exact .val _)
        rw [heff] at hn
        exact ih _ D U _ _ w hn hc' hlft hQ
end any
end Go.Pv
