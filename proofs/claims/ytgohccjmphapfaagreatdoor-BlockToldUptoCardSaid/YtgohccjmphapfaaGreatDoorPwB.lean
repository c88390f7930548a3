import Derived.Test.YtgohccjmphapfaaGreatDoorPwA
import Derived.LaidEqlPtr
import Derived.Lib.Builder
import Derived.Lib.AppendStr
import Derived.Laws.StandIn
set_option linter.all false
noncomputable section
namespace Go.Pv
open Go Go.RowKit
def isLk : Lk → Bool
 | .lst _ => true
 | _ => false
def Wz7 : Lk → DV → DV
 | .lst sz, .val (.slice none 0 0) => .lst sz []
 | _, d => d
def Wng : List Lk → List DV → List DV
 | k :: ks, d :: ds => Wz7 k d :: Wng ks ds
 | _, ds => ds
def Wpk (P : Program) (T : TypeId) (d : DV) : DV := match K71 P 8 T with
 | some ks => bif ks.any isLk then (match d with
  | .agg cs => .agg (Wng ks cs)
  | .val (.agg vs) => .agg (Wng ks (vs.toList.map DV.val))
  | .val (.slice none 0 0) => (match ks with | [.lst sz] => .lst sz [] | _ => .val (.slice none 0 0))
  | d => d) else d
 | none => d
theorem Wvk {U : W42} {w : World} {l : Lk} {d : DV} {v : Value} (h : DRep U w d v) : DRep U w (Wz7 l d) v := by
 unfold Wz7
 split
 ·have := Ksd h; subst this; exact .nil
 ·exact h
theorem Wh0 {U : W42} {w : World} : ∀ (ks : List Lk) (ds : W5j), (Wng ks ds).length = ds.length ∧ ∀ (vs : List Value), (∀ (i : Nat) (x : DV) (v : Value), ds[i]? = some x → vs[i]? = some v → DRep U w x v) → ∀ (i : Nat) (x : DV) (v : Value), (Wng ks ds)[i]? = some x → vs[i]? = some v → DRep U w x v
 | [], ds => by cases ds <;> exact ⟨rfl, fun vs h => h⟩
 | k :: ks, [] => ⟨rfl, fun vs h => h⟩
 | k :: ks, d :: ds => by
  obtain ⟨r1, r2⟩ := Wh0 (U := U) (w := w) ks ds
  refine ⟨by simp [Wng, r1], fun vs h i x v e1 e2 => ?_⟩
  match vs with
  | [] => simp at e2
  | u :: us =>
   cases i with
   | zero =>
    simp [Wng] at e1 e2
    subst e1; subst e2
    exact Wvk (h 0 d u rfl rfl)
   | succ i => exact r2 us (fun j y z a b => h (j + 1) y z (by simpa using a) (by simpa using b)) i x v (by simpa [Wng] using e1) (by simpa using e2)
theorem Wh1 {P : Program} {T : TypeId} {U : W42} {w : World} {d : DV} {v : Value} (h : DRep U w d v) : DRep U w (Wpk P T d) v := by
 unfold Wpk
 split
 ·rename_i ks _
  cases ks.any isLk with
  | false => exact h
  | true =>
   simp only [cond_true]
   split
   ·rename_i cs
    cases h with
    | agg h1 h2 =>
     rename_i vs
     obtain ⟨r1, r2⟩ := Wh0 (U := U) (w := w) ks cs
     exact .agg (by omega) fun i x v e1 e2 => r2 vs.toList (fun i x v a b => h2 i x v a (by simpa using b)) i x v e1 (by simpa using e2)
   ·rename_i vs
    have := Ksd h
    subst this
    obtain ⟨r1, r2⟩ := Wh0 (U := U) (w := w) ks (vs.toList.map DV.val)
    refine .agg (by rw [r1]; simp) fun i x v e1 e2 => r2 vs.toList (fun i x v a b => ?_) i x v e1 (by simpa using e2)
    obtain ⟨y, hy, rfl⟩ := Ktf a
    rw [hy] at b; cases b
    exact .val _
   ·split
    ·have := Ksd h; subst this; exact .nil
    ·exact h
   ·exact h
 ·exact h
def K6j : VV → Option (List VV)
 | .dv d => some (d.cells.map VV.dv)
 | .ptr b o => some [.ptr b o]
 | .osl e sz b o n => some [.osl e sz b o n]
 | .eptr cs => some [.eptr cs]
 | .vagg cs => some cs
 | .dead => none
 | .vtup _ => none
 | .mp b => some [.mp b]
 | .tp T sz b => some [.tp T sz b]
theorem Wdj {U : W42} {w : World} {D : W41} {x : VV} {v : Value} (hx : CRep U w D x v) : (#[v] : Array Value).size = [x].length ∧ ∀ (i : Nat) (y : VV) (u : Value), [x][i]? = some y → (#[v] : Array Value)[i]? = some u → CRep U w D y u := by
 refine ⟨rfl, fun i y u h1 h2 => ?_⟩
 match i with
 | 0 => simp at h1 h2; subst h1; subst h2; exact hx
 | i + 1 => simp at h1
theorem Wa2 {U : W42} {w : World} {D : W41} {x : VV} {ys : W49} (h : K6j x = some ys) {v : Value} (hx : VRep U w D x v) : v.cells.size = ys.length ∧ ∀ (i : Nat) (y : VV) (u : Value), ys[i]? = some y → v.cells[i]? = some u → CRep U w D y u := by
 cases x with
 | dv d =>
  simp only [K6j, Option.some.injEq] at h
  subst h
  obtain ⟨c1, c2⟩ := DV.cells_rep (show DRep U w d v from hx)
  refine ⟨by simpa using c1, fun i y u h1 h2 => ?_⟩
  obtain ⟨z, hz, rfl⟩ := Ktf h1
  exact c2 i z u hz h2
 | dead => cases h
 | vtup cs => cases h
 | vagg cs =>
  simp only [K6j, Option.some.injEq] at h
  subst h
  obtain ⟨vs, rfl, h1, h2⟩ := hx
  exact ⟨h1, h2⟩
 | ptr b o =>
  simp only [K6j, Option.some.injEq] at h
  subst h
  obtain ⟨k, hk, rfl⟩ := hx
  exact Wdj (x := .ptr b o) ⟨k, hk, rfl⟩
 | osl e sz b o n =>
  simp only [K6j, Option.some.injEq] at h
  subst h
  obtain ⟨k, c, cur, hk, hc, hh, hs, rfl⟩ := hx
  exact Wdj (x := .osl e sz b o n) ⟨k, c, cur, hk, hc, hh, hs, rfl⟩
 | eptr cs =>
  simp only [K6j, Option.some.injEq] at h
  subst h
  obtain ⟨k, off, rfl, hU, hc⟩ := hx
  exact Wdj (x := .eptr cs) ⟨k, off, rfl, hU, hc⟩
 | mp b =>
  simp only [K6j, Option.some.injEq] at h
  subst h
  obtain ⟨k, hk, rfl⟩ := hx
  exact Wdj (x := .mp b) ⟨k, hk, rfl⟩
 | tp T sz b =>
  simp only [K6j, Option.some.injEq] at h
  subst h
  obtain ⟨k, cur, hk, hh, hs, rfl⟩ := hx
  exact Wdj (x := .tp T sz b) ⟨k, cur, hk, hh, hs, rfl⟩
def allD : List VV → Option (List DV)
 | [] => some []
 | .dv d :: l => match allD l with | some ds => some (d :: ds) | none => none
 | _ :: _ => none
theorem Wla : ∀ {xs : W49} {ds : W5j}, allD xs = some ds → xs = ds.map VV.dv
 | [], ds, h => by simp [allD] at h; subst h; rfl
 | x :: xs, ds, h => by
  cases x <;> simp [allD] at h
  rename_i d
  cases hf : allD xs with
  | none => simp [hf] at h
  | some l => simp [hf] at h; subst h; simp [Wla hf]
def mkV (cs : W49) : VV := match allD cs with | some ds => .dv (Wk2 ds) | none => .vagg cs
theorem Wpl {U : W42} {w : World} {D : W41} {cs : W49} {vs : Array Value} (h1 : vs.size = cs.length) (h2 : ∀ (i : Nat) (x : VV) (v : Value), cs[i]? = some x → vs[i]? = some v → CRep U w D x v) : VRep U w D (mkV cs) (.agg vs) := by
 unfold mkV
 cases h : allD cs with
 | none => exact ⟨vs, rfl, h1, h2⟩
 | some ds =>
  have := Wla h
  subst this
  exact Wdd (by simpa using h1) fun i x v e1 e2 => h2 i (.dv x) v (by simp [e1]) e2
theorem Wnh {U : W42} {w : World} {D : W41} {x : VV} {v : Value} (h : CRep U w D x v) : VRep U w D x v := Kmo (Kn0 h)
theorem Kn1 (id : Nat) (H : W43) (B : Blk) (h : id ≤ H.length) : (addM id H B)[id]? = some (some B) := by
 simp only [addM]
 cases hb : Nat.blt id H.length with
 | true =>
  have : id < H.length := by simp [Nat.blt] at hb; omega
  simp [List.getElem?_set, this]
 | false =>
  have : ¬ id < H.length := by intro h'; have h2 : Nat.blt id H.length = true := Nat.ble_eq_true_of_le h'; rw [h2] at hb; cases hb
  have : id = H.length := by omega
  subst this
  simp
theorem Kif (id : Nat) (H : W43) (B : Blk) (h : id ≤ H.length) (b : Nat) (hb : b ≠ id) : (addM id H B)[b]? = H[b]? := by
 simp only [addM]
 cases hc : Nat.blt id H.length with
 | true => simp [List.getElem?_set, Ne.symm hb]
 | false =>
  have : ¬ id < H.length := by intro h'; have h2 : Nat.blt id H.length = true := Nat.ble_eq_true_of_le h'; rw [h2] at hc; cases hc
  have : id = H.length := by omega
  subst this
  simp only [cond_false]
  by_cases hlt : b < H.length
  ·rw [List.getElem?_append_left hlt]
  ·rw [List.getElem?_eq_none (by simp; omega), List.getElem?_eq_none (by omega)]
theorem WRel.newm {D : W41} {U : W42} {N : W42} {w0 w : World} {H : W43} {id : Nat} {cs : W49} {vs : Array Value} {T : TypeId}
  (hW : WRel D U N w0 H w) (hN : Lt N w) (hid : D id = none) (hl : id ≤ H.length) (h1 : cs.length ≤ vs.size) (h2 : ∀ (i : Nat) (x : VV) (v : Value), cs[i]? = some x → vs[i]? = some v → CRep U w D x v) :
  WRel (updD D id w.heap.size) U N w0 ((Eff.newm cs).app id H) (w.alloc (.cells vs T)) := by
 have ho := Knz (N := N) (o := .cells vs T) hW.old hid
 have hnew : ¬ U w.heap.size := fun h => Nat.lt_irrefl _ (hW.old _ h)
 have hk := Kol w (.cells vs T)
 have keep : ∀ b j, D b = some j → j ≠ w.heap.size ∧ (w.alloc (.cells vs T)).heap[j]? = w.heap[j]? := by
  intro b j hb
  obtain ⟨_, g2, _⟩ := hW.own b j hb
  exact ⟨by omega, Below.heap_alloc _ _ _ g2⟩
 have hne' : ∀ {b j}, b ≠ id → updD D id w.heap.size b = some j → D b = some j := by
  intro b j hne hb; simpa only [updD, hne, if_false] using hb
 have hsm : ∀ {j}, updD D id w.heap.size id = some j → j = w.heap.size := by
  intro j hb; simp only [updD, if_true, Option.some.injEq] at hb; exact hb.symm
 refine ⟨hW.below.alloc hN _, fun k h => Nat.lt_of_lt_of_le (hW.old k h) ho.size, ?_, ?_, ?_, ?_, ?_, ?_⟩
 ·intro b j hb
  by_cases hne : b = id
  ·subst hne
   rw [hsm hb]
   exact ⟨hN.new, Kxf hk, _, Kn1 _ _ _ hl⟩
  ·obtain ⟨g1, g2, B, g3⟩ := hW.own b j (hne' hne hb)
   exact ⟨g1, Nat.lt_of_lt_of_le g2 ho.size, B, (Kif _ _ _ hl _ hne).trans g3⟩
 ·intro b j us hb hH
  by_cases hne : b = id
  ·subst hne
   simp only [Eff.app, Kn1 _ _ _ hl] at hH
   cases hH
  ·simp only [Eff.app, Kif _ _ _ hl _ hne] at hH
   obtain ⟨g1, cs', T', g2, g3, g4⟩ := hW.hold b j us (hne' hne hb) hH
   exact ⟨g1, cs', T', by rw [(keep b j (hne' hne hb)).2]; exact g2, g3, fun i x v p q => (g4 i x v p q).keep ho.set ho.keep ho.size⟩
 ·intro b j us hb hH
  by_cases hne : b = id
  ·subst hne
   simp only [Eff.app, Kn1 _ _ _ hl, Option.some.injEq, Blk.mix.injEq] at hH
   subst hH
   rw [hsm hb]
   exact ⟨hnew, vs, T, hk, h1, fun i x v p q => (h2 i x v p q).onward ho⟩
  ·simp only [Eff.app, Kif _ _ _ hl _ hne] at hH
   obtain ⟨g1, cs', T', g2, g3, g4⟩ := hW.holdm b j us (hne' hne hb) hH
   exact ⟨g1, cs', T', by rw [(keep b j (hne' hne hb)).2]; exact g2, g3, fun i x v p q => (g4 i x v p q).onward ho⟩
 ·intro b j us hb hH
  by_cases hne : b = id
  ·subst hne
   simp only [Eff.app, Kn1 _ _ _ hl] at hH
   cases hH
  ·simp only [Eff.app, Kif _ _ _ hl _ hne] at hH
   obtain ⟨g1, es, cl, g2, g4⟩ := hW.holdp b j us (hne' hne hb) hH
   exact ⟨g1, es, cl, by rw [(keep b j (hne' hne hb)).2]; exact g2, g4.keep ho.set ho.keep ho.size⟩
 ·intro b B hb
  by_cases hne : b = id
  ·subst hne; exact ⟨w.heap.size, by simp [updD]⟩
  ·simp only [Eff.app, Kif _ _ _ hl _ hne] at hb
   obtain ⟨j, hj⟩ := hW.all b B hb
   exact ⟨j, by simp [updD, hne, hj]⟩
 ·intro b b' j us us' hb hb' hv hv' hd hd'
  by_cases hne : b = id <;> by_cases hne2 : b' = id
  ·rw [hne, hne2]
  ·subst hne
   rw [hsm hd] at hd'
   exact absurd rfl (keep b' _ (hne' hne2 hd')).1
  ·subst hne2
   rw [hsm hd'] at hd
   exact absurd rfl (keep b _ (hne' hne hd)).1
  ·simp only [Eff.app, Kif _ _ _ hl _ hne] at hb
   simp only [Eff.app, Kif _ _ _ hl _ hne2] at hb'
   exact hW.inj b b' j us us' hb hb' hv hv' (hne' hne hd) (hne' hne2 hd')
theorem WRel.updm {D : W41} {U : W42} {N : W42} {w0 w : World} {H : W43} {b k : Nat} {ds : W49} {B0 : Blk} {vs : Array Value} {cur : Array Value} {T : TypeId}
  (hW : WRel D U N w0 H w) (hb : D b = some k) (hbH : H[b]? = some (some B0)) (hlv : B0.live = true) (n2 : ¬ U k) (hk : w.heap[k]? = some (.cells cur T (0, 0))) (hsz : vs.size = cur.size) (h1 : ds.length ≤ vs.size) (h2 : ∀ (i : Nat) (x : VV) (v : Value), ds[i]? = some x → vs[i]? = some v → CRep U w D x v) :
  WRel D U N w0 (H.set b (some (.mix ds))) (w.setRow k vs) := by
 obtain ⟨n1, n3, _⟩ := hW.own b k hb
 have ho := Kqm (N := N) (D := D) (w := w) n2 vs (fun c T' f h => by rw [hk] at h; cases h; exact hsz)
 have hbl : b < H.length := (List.getElem?_eq_some_iff.1 hbH).1
 refine ⟨K4r hW.below n1 _, fun j h => by simpa using hW.old j h, ?_, ?_, ?_, ?_, ?_, ?_⟩
 ·intro b' k' hb'
  obtain ⟨g1, g2, B, g3⟩ := hW.own b' k' hb'
  refine ⟨g1, by simpa using g2, ?_⟩
  by_cases e : b' = b
  ·subst e; exact ⟨_, by simp [List.getElem?_set, hbl]; rfl⟩
  ·exact ⟨B, by rw [List.getElem?_set_ne (Ne.symm e)]; exact g3⟩
 ·intro b' k' us hb' hH'
  by_cases e : b' = b
  ·subst e; simp [List.getElem?_set, hbl] at hH'
  ·rw [List.getElem?_set_ne (Ne.symm e)] at hH'
   obtain ⟨g2, cs', T', g3, g5, g6⟩ := hW.hold b' k' us hb' hH'
   have hne : k' ≠ k := fun e' => e (hW.inj b' b k _ _ hH' hbH rfl hlv (e' ▸ hb') hb)
   exact ⟨g2, cs', T', by rw [setRow_other w k k' vs hne]; exact g3, g5, fun i x v e1 e2 => (g6 i x v e1 e2).keep ho.set ho.keep ho.size⟩
 ·intro b' k' us hb' hH'
  by_cases e : b' = b
  ·subst e
   rw [hb] at hb'; cases hb'
   simp only [List.getElem?_set, hbl, if_true, Option.some.injEq, Blk.mix.injEq] at hH'
   subst hH'
   exact ⟨n2, vs, T, setRow_heap w k cur vs T _ hk, h1, fun i x v e1 e2 => (h2 i x v e1 e2).onward ho⟩
  ·rw [List.getElem?_set_ne (Ne.symm e)] at hH'
   obtain ⟨g2, cs', T', g3, g5, g6⟩ := hW.holdm b' k' us hb' hH'
   have hne : k' ≠ k := fun e' => e (hW.inj b' b k _ _ hH' hbH rfl hlv (e' ▸ hb') hb)
   exact ⟨g2, cs', T', by rw [setRow_other w k k' vs hne]; exact g3, g5, fun i x v e1 e2 => (g6 i x v e1 e2).onward ho⟩
 ·intro b' k' us hb' hH'
  by_cases e : b' = b
  ·subst e; simp [List.getElem?_set, hbl] at hH'
  ·rw [List.getElem?_set_ne (Ne.symm e)] at hH'
   obtain ⟨g2, es, cl, g3, g6⟩ := hW.holdp b' k' us hb' hH'
   have hne : k' ≠ k := fun e' => e (hW.inj b' b k _ _ hH' hbH rfl hlv (e' ▸ hb') hb)
   exact ⟨g2, es, cl, by rw [setRow_other w k k' vs hne]; exact g3, g6.keep ho.set ho.keep ho.size⟩
 ·intro b' B hb'
  by_cases e : b' = b
  ·subst e; exact ⟨k, hb⟩
  ·rw [List.getElem?_set_ne (Ne.symm e)] at hb'
   exact hW.all b' B hb'
 ·intro b' b'' j us us' h1' h2' v1 v2 d1 d2
  by_cases e : b' = b <;> by_cases e' : b'' = b
  ·rw [e, e']
  ·subst e
   rw [List.getElem?_set_ne (Ne.symm e')] at h2'
   exact hW.inj b' b'' j _ us' hbH h2' hlv v2 d1 d2
  ·subst e'
   rw [List.getElem?_set_ne (Ne.symm e)] at h1'
   exact hW.inj b' b'' j us _ h1' hbH v1 hlv d1 d2
  ·rw [List.getElem?_set_ne (Ne.symm e)] at h1'
   rw [List.getElem?_set_ne (Ne.symm e')] at h2'
   exact hW.inj b' b'' j us us' h1' h2' v1 v2 d1 d2
def blkV : Blk → Option (List VV)
 | .cells cs => some (cs.map VV.dv)
 | .mix cs => some cs
 | .gone => none
 | .dict _ => none
theorem W1x {D : W41} {U : W42} {N : W42} {w0 w : World} {H : W43} (hW : WRel D U N w0 H w) {b k : Nat} {B : Blk} {cs : W49} (hb : D b = some k) (hH : H[b]? = some (some B)) (hB : blkV B = some cs) :
  B.live = true ∧ ¬ U k ∧ ∃ cur T, w.heap[k]? = some (.cells cur T (0, 0)) ∧ cs.length ≤ cur.size ∧ ∀ (i : Nat) (x : VV) (v : Value), cs[i]? = some x → cur[i]? = some v → CRep U w D x v := by
 cases B with
 | gone => cases hB
 | cells ds =>
  simp only [blkV, Option.some.injEq] at hB
  subst hB
  obtain ⟨g1, cur, T, g2, g3, g4⟩ := hW.hold b k ds hb hH
  refine ⟨rfl, g1, cur, T, g2, by simpa using g3, fun i x v e1 e2 => ?_⟩
  obtain ⟨y, hy, rfl⟩ := Ktf e1
  exact g4 i y v hy e2
 | dict kvs => cases hB
 | mix ds =>
  simp only [blkV, Option.some.injEq] at hB
  subst hB
  exact ⟨rfl, hW.holdm b k ds hb hH⟩
end Go.Pv
namespace Go.Pv
open Go Go.RowKit
def oneV : VV → Bool
 | .dv d => Kh0 d
 | .ptr _ _ => true
 | .osl _ _ _ _ _ => true
 | .eptr _ => true
 | .mp _ => true
 | .tp _ _ _ => true
 | _ => false
theorem Wxm {U : W42} {w : World} {D : W41} {x : VV} {v : Value} (h : oneV x = true) (hr : CRep U w D x v) : v.oneCell' = true := by
 cases x with
 | dv d => exact K95 h hr
 | ptr b o => obtain ⟨k, _, rfl⟩ := hr; rfl
 | osl e sz b o n => obtain ⟨k, c, cur, _, _, _, _, rfl⟩ := hr; rfl
 | eptr cs => obtain ⟨k, off, rfl, _⟩ := hr; rfl
 | mp b => obtain ⟨k, _, rfl⟩ := hr; rfl
 | tp T sz b => obtain ⟨k, cur, _, _, _, rfl⟩ := hr; rfl
 | dead => cases h
 | vagg cs => cases h
 | vtup cs => cases h
def Wy4 (P : Program) (T : TypeId) (cs : W49) (o : Nat) (ds : W49) : Option (List VV) :=
 match P.info? T with
 | some i => bif Nat.beq ds.length i.size && Nat.ble (o + ds.length) cs.length && ds.all oneV then some (cs.take o ++ ds ++ cs.drop (o + ds.length)) else none
 | none => none
def Wni (P : Program) (ρ : W44) (H : OH) (t : TypeId) (x y : Operand) (k : KK) : Option DV :=
 match ρ x with
 | .ptr b of => match H[b]? with
  | some (some B) => match blkV B, K6j (ρ y) with
   | some cs, some ys => match Wy4 P t cs of ys with | some cs' => k (.dv (.val undef)) (.updm b cs') | none => none
   | _, _ => none
  | _ => none
 | _ => none
theorem Wh2 {P : Program} {I : W40} {ρ : W44} {o : Oper} {t : TypeId} {x y : Operand} {H : OH} {id : Nat} (ho : o.op = .store t x y) : Good P I o ρ H id (Wni P ρ H t x y) := by
 intro kk r h
 unfold Wni at h
 split at h <;> try (cases h; done)
 rename_i b of hx
 split at h <;> try (cases h; done)
 rename_i B hB
 split at h <;> try (cases h; done)
 rename_i cs ys hcs hys
 split at h <;> try (cases h; done)
 rename_i cs' hs
 refine ⟨_, _, h, fun k' => by simp only [Wni, hx, hB, hcs, hys, hs], ?_⟩
 intro D U N w0 H' w a next Q hI hC hW _ _ _ hops hn
 have h1 := hops x (by simp [ho, Op.operands])
 have h2 := hops y (by simp [ho, Op.operands])
 rw [hx] at h1
 obtain ⟨k, hk, hax⟩ := h1
 obtain ⟨n1, n3, B', g4⟩ := hW.own b k hk
 have e := hC b _ _ hB g4
 subst e
 obtain ⟨hlv, n2, cur, T, g3, g5, g6⟩ := W1x hW hk g4 hcs
 unfold Wy4 at hs
 cases hi : P.info? t with
 | none => simp [hi] at hs
 | some i =>
  simp only [hi] at hs
  cases hq : Nat.beq ys.length i.size && Nat.ble (of + ys.length) cs.length && ys.all oneV with
  | false => simp [hq] at hs
  | true =>
   simp only [hq, cond_true, Option.some.injEq] at hs
   simp only [Bool.and_eq_true] at hq
   obtain ⟨⟨q1, q2⟩, q3⟩ := hq
   have q1' := Nat.eq_of_beq_eq_true q1
   have q2' := Nat.le_of_ble_eq_true q2
   obtain ⟨c1, c2⟩ := Wa2 hys h2
   have one : ∀ u ∈ (a.eval y).cells.toList, u.oneCell' = true := by
    intro u hu
    obtain ⟨j, hj⟩ := List.mem_iff_getElem?.1 hu
    have hj' : (a.eval y).cells[j]? = some u := by simpa using hj
    have hlt : j < ys.length := by rw [← c1]; exact (Array.getElem?_eq_some_iff.1 hj').1
    exact Wxm (List.all_eq_true.1 q3 _ (List.getElem_mem hlt)) (c2 j _ u (List.getElem?_eq_getElem hlt) hj')
   have hrun := Wfp hi (v := a.eval y) (by rw [c1]; exact q1') k of g3 (by rw [c1]; omega) one
   unfold Oper.wp
   simp only [execOp, ho, hax, Sem.run_bind, hrun, Result.andThen_ok, Sem.run_pure, Oper.upon_skip]
   have hsz : (cur.toList.take of ++ (a.eval y).cells.toList ++ cur.toList.drop (of + (a.eval y).cells.size)).toArray.size = cur.size := by simp [c1]; omega
   refine hn _ _ D U (Kqm n2 _ (fun c T' f h => by rw [g3] at h; cases h; exact hsz)) ?_ (fun _ h _ => h) (.val undef)
   refine hW.updm hk g4 hlv n2 g3 hsz (by rw [hsz, ← hs]; simp; omega) ?_
   intro j x' v' e1 e2
   rw [← hs] at e1
   simp only [List.getElem?_toArray] at e2
   rw [List.append_assoc, List.getElem?_append] at e1 e2
   have l1 : (cs.take of).length = of := by simp; omega
   have l2 : (cur.toList.take of).length = of := by simp; omega
   rw [l1] at e1
   rw [l2] at e2
   split at e1
   ·rename_i hlt
    simp only [hlt, if_true] at e2
    rw [List.getElem?_take] at e1 e2
    simp only [hlt, if_true] at e1 e2
    exact g6 j x' v' e1 (by simpa using e2)
   ·rename_i hlt
    simp only [hlt, if_false] at e2
    rw [List.getElem?_append] at e1 e2
    simp only [Array.length_toList, c1] at e2
    split at e1
    ·rename_i hl2
     simp only [hl2, if_true] at e2
     exact c2 (j - of) x' v' e1 (by simpa using e2)
    ·rename_i hl2
     simp only [hl2, if_false] at e2
     simp only [List.getElem?_drop] at e1 e2
     exact g6 _ x' v' e1 (by simpa using e2)
def boxX (ρ : W44) (id : Nat) (x : Operand) (k : KK) : Option DV := match K6j (ρ x) with | some ys => k (.ptr id 0) (.newm ys) | none => none
theorem Wnj {P : Program} {I : W40} {ρ : W44} {o : Oper} {t : TypeId} {x : Operand} {H : OH} {id : Nat} (ho : o.op = .box t x) : Good P I o ρ H id (boxX ρ id x) := by
 intro k r h
 unfold boxX at h
 split at h <;> try (cases h; done)
 rename_i ys hys
 refine ⟨_, _, h, fun k' => by simp only [boxX, hys], ?_⟩
 intro D U N w0 H' w a next Q hI _ hW hN hid hl hops hn
 obtain ⟨c1, c2⟩ := Wa2 hys (hops x (by simp [ho, Op.operands]))
 unfold Oper.wp
 rw [show (execOp a.eval o).run P w = .ok (.value (.pointer (some ⟨w.heap.size, 0, none⟩))) (w.alloc (.cells (a.eval x).cells t)) by simp [execOp, ho, Instr.box, newVar, newRow, newObj, Sem.run]]
 exact hn _ _ _ _ (Knz hW.old hid _) (hW.newm hN hid hl (by omega) c2) (fun b hb hne => by simp [updD, hne, hb]) ⟨w.heap.size, by simp [updD], rfl⟩
def Wlb (P : Program) (t : TypeId) (cs : W49) (of : Nat) : Option VV :=
 match P.underlying t, P.info? t with
 | some td, some i => bif aggD td then (bif Nat.ble (of + i.size) cs.length then some (mkV ((cs.drop of).take i.size)) else none) else cs[of]?
 | _, _ => none
theorem Wra {P : Program} {t : TypeId} {cs : W49} {of : Nat} {x : VV} (h : Wlb P t cs of = some x) {U : W42} {w : World} {D : W41} {k : Nat} {cur : Array Value} {T : TypeId} (hk : w.heap[k]? = some (.cells cur T (0, 0))) (hl : cs.length ≤ cur.size)
  (hc : ∀ (i : Nat) (x : VV) (v : Value), cs[i]? = some x → cur[i]? = some v → CRep U w D x v) : ∃ v, (loadVar t ⟨k, of, none⟩).run P w = .ok v w ∧ VRep U w D x v := by
 unfold Wlb at h
 split at h <;> try (cases h; done)
 rename_i td i hu hi
 have hia : ∀ b, aggD td = b → (isAgg t).run P w = .ok b w := by
  intro b hb
  simp only [isAgg, Sem.run_bind, run_underlying hu, Result.andThen_ok]
  subst hb
  cases td <;> rfl
 have hcell : ∀ j, j < cs.length → ∃ v, cur[j]? = some v ∧ w.cell? ⟨k, j, none⟩ = some v := by
  intro j hj
  have hlt : j < cur.size := by omega
  exact ⟨cur[j], Array.getElem?_eq_getElem hlt, by simp [World.cell?, hk, hlt]⟩
 cases ha : aggD td with
 | true =>
  rw [ha] at h
  simp only [cond_true] at h
  cases hb : Nat.ble (of + i.size) cs.length with
  | false => rw [hb] at h; cases h
  | true =>
   rw [hb] at h
   simp only [cond_true, Option.some.injEq] at h
   have hb' := Nat.le_of_ble_eq_true hb
   subst h
   let g : Nat → Value := fun j => (w.cell? ⟨k, of + j, none⟩).getD undef
   refine ⟨.agg ((List.range i.size).map g).toArray, ?_, Wpl (by simp; omega) ?_⟩
   ·have hs : (sizeOf t).run P w = .ok i.size w := by simp [sizeOf, typeInfo, program, Sem.run, hi, bind, pure, Sem.bind]
    simp only [loadVar, Sem.run_bind, hia _ ha, Result.andThen_ok, if_true, hs]
    rw [run_loadCells (P := P) w ⟨k, of, none⟩ i.size g (fun j hj => by
     obtain ⟨v, _, hv⟩ := hcell (of + j) (by omega)
     rw [Kql]; simp [g, hv])]
    rfl
   ·intro j x v e1 e2
    simp only [List.getElem?_toArray, List.getElem?_map] at e2
    have hj : j < i.size := by
     rcases Nat.lt_or_ge j i.size with hj | hj
     ·exact hj
     ·rw [List.getElem?_eq_none (by simpa using hj)] at e2; cases e2
    rw [List.getElem?_range hj] at e2
    simp only [Option.map_some, Option.some.injEq] at e2
    subst e2
    rw [List.getElem?_take, if_pos hj, List.getElem?_drop] at e1
    obtain ⟨v, hv, hw⟩ := hcell (of + j) (by omega)
    simp only [g, hw, Option.getD_some]
    exact hc _ x v e1 hv
 | false =>
  rw [ha] at h
  simp only [cond_false] at h
  have hlt := (List.getElem?_eq_some_iff.1 h).1
  obtain ⟨v, hv, hw⟩ := hcell of hlt
  refine ⟨v, ?_, Wnh (hc of x v h hv)⟩
  simp only [loadVar, Sem.run_bind, hia _ ha, Result.andThen_ok, Bool.false_eq_true, if_false]
  simp [load, Sem.run, hw]
def Wsw (P : Program) (ρ : W44) (H : OH) (t : TypeId) (x : Operand) (k : KK) : Option DV :=
 match ρ x with
 | .ptr b of => match H[b]? with
  | some (some (.mix cs)) => match Wlb P t cs of with | some y => k y .none | none => none
  | _ => Wsp P ρ H t x k
 | _ => Wsp P ρ H t x k
theorem Wsx {P : Program} {I : W40} {ρ : W44} {o : Oper} {t : TypeId} {x : Operand} {H : OH} {id : Nat} (ho : o.op = .load t x) : Good P I o ρ H id (Wsw P ρ H t x) := by
 intro k r h
 unfold Wsw at h
 split at h
 ·rename_i b of hx
  split at h
  ·rename_i cs hb
   split at h <;> try (cases h; done)
   rename_i y hy
   refine ⟨_, _, h, fun k' => by simp only [Wsw, hx, hb, hy], ?_⟩
   intro D U N w0 H' w a next Q hI hC hW _ _ _ hops hn
   have h1 := hops x (by simp [ho, Op.operands])
   rw [hx] at h1
   obtain ⟨kk, hk, hax⟩ := h1
   obtain ⟨n1, n3, B, g4⟩ := hW.own b kk hk
   have e := hC b _ _ hb g4
   subst e
   obtain ⟨_, _, cur, T, g3, g5, g6⟩ := W1x hW hk g4 rfl
   obtain ⟨v, hv, hr⟩ := Wra hy g3 g5 g6
   unfold Oper.wp
   simp only [execOp, ho, hax, Instr.loadAt, Instr.sureAddr, Sem.run_bind, Sem.run_pure, Result.andThen_ok, hv]
   exact hn v w D U Kei.refl hW (fun _ h _ => h) hr
  ·rename_i n1
   obtain ⟨x', y', h1, h2, h3⟩ := Wkc (I := I) (id := id) ho k r h
   refine ⟨x', y', h1, fun k' => ?_, h3⟩
   simp only [Wsw, hx]
   exact h2 k'
 ·rename_i n1
  obtain ⟨x', y', h1, h2, h3⟩ := Wkc (I := I) (id := id) ho k r h
  refine ⟨x', y', h1, fun k' => ?_, h3⟩
  unfold Wsw
  split
  ·rename_i b of hx; exact (n1 _ _ hx).elim
  ·exact h2 k'
end Go.Pv
namespace Go.Pv
open Go Go.RowKit
def Wh3 (P : Program) : List Field → Option (List (Nat × Nat))
 | [] => some []
 | f :: fs => match P.info? f.type, Wh3 P fs with
  | some i, some l => some ((f.offset, i.size) :: l)
  | _, _ => none
def Wvl (ρ : W44) (pl : W47) : List (Nat × Operand) → List VV → Option (List VV)
 | [], cs => some cs
 | (i, x) :: rest, cs => match pl[i]?, K6j (ρ x) with
  | some (off, size), some ys => bif Nat.beq ys.length size && Nat.ble (off + ys.length) cs.length then Wvl ρ pl rest (cs.take off ++ ys ++ cs.drop (off + ys.length)) else none
  | _, _ => none
theorem Wke {P : Program} : ∀ (fs : List Field) (l : W47), Wh3 P fs = some l → ∀ w, (fs.mapM fun f => (do pure (f.offset, ← sizeOf f.type) : Sem (Nat × Nat))).run P w = .ok l w
 | [], l, h, w => by simp [Wh3] at h; subst h; rfl
 | f :: fs, l, h, w => by
  simp only [Wh3] at h
  split at h <;> try (cases h; done)
  rename_i i l' hi hl
  simp only [Option.some.injEq] at h
  subst h
  have hs : (sizeOf f.type).run P w = .ok i.size w := by simp [sizeOf, typeInfo, program, Sem.run, hi, bind, pure, Sem.bind]
  have ih := Wke fs l' hl w
  simp only [List.mapM_cons, Sem.run_bind, Sem.run_pure, hs, Result.andThen_ok]
  rw [ih]
  rfl
theorem Wnk (off : Nat) : ∀ (us : List Value) (j : Nat) (cs : Array Value), off + j + us.length ≤ cs.size →
  ((us.zipIdx j).foldl (fun cs (x : Value × Nat) => cs.setIfInBounds (off + x.2) x.1) cs).toList = cs.toList.take (off + j) ++ us ++ cs.toList.drop (off + j + us.length)
 | [], j, cs, h => by simp
 | u :: us, j, cs, h => by
  simp only [List.zipIdx_cons, List.foldl_cons]
  simp only [List.length_cons] at h
  rw [Wnk off us (j + 1) _ (by simp; omega)]
  apply List.ext_getElem?
  intro n
  simp only [List.append_assoc, List.getElem?_append, List.length_take, Array.length_toList, Array.size_setIfInBounds, List.getElem?_take, List.getElem?_drop, List.length_cons, Array.toList_setIfInBounds, List.getElem?_set, List.length_set]
  by_cases h1 : n < off + j
  ·have : n < off + (j + 1) := by omega
   have h3 : ¬ off + j = n := by omega
   simp [h1, this, h3, show n < cs.size by omega, show min (off + j) cs.size = off + j by omega, show min (off + (j + 1)) cs.size = off + (j + 1) by omega]
  ·by_cases h2 : n = off + j
   ·subst h2
    simp [show off + j < off + (j + 1) by omega, show min (off + j) cs.size = off + j by omega, show min (off + (j + 1)) cs.size = off + (j + 1) by omega, show off + j < cs.size by omega]
   ·have g1 : ¬ n < off + (j + 1) := by omega
    simp only [show min (off + j) cs.size = off + j by omega, show min (off + (j + 1)) cs.size = off + (j + 1) by omega, h1, g1, if_false]
    by_cases h4 : n - (off + (j + 1)) < us.length
    ·have h5 : n - (off + j) < us.length + 1 := by omega
     simp only [h4, h5, if_true]
     rw [show n - (off + j) = (n - (off + (j + 1))) + 1 by omega, List.getElem?_cons_succ]
    ·have h5 : ¬ n - (off + j) < us.length + 1 := by omega
     simp only [h4, h5, if_false]
     rw [show off + j + (us.length + 1) + (n - (off + j) - (us.length + 1)) = n by omega, show off + (j + 1) + us.length + (n - (off + (j + 1)) - us.length) = n by omega]
     rw [if_neg (by omega)]
theorem Wrb {U : W42} {w : World} {D : W41} {a : Act} {ρ : W44} {pl : W47} : ∀ (ps : List (Nat × Operand)) (cs cs' : W49) (vs : Array Value), Wvl ρ pl ps cs = some cs' → (∀ p ∈ ps, VRep U w D (ρ p.2) (a.eval p.2)) →
  vs.size = cs.length → (∀ (i : Nat) (x : VV) (v : Value), cs[i]? = some x → vs[i]? = some v → CRep U w D x v) →
  ∃ vs', Instr.fill (pl[·]?) vs (ps.map fun p => (p.1, a.eval p.2)) = some vs' ∧ vs'.size = cs'.length ∧ ∀ (i : Nat) (x : VV) (v : Value), cs'[i]? = some x → vs'[i]? = some v → CRep U w D x v
 | [], cs, cs', vs, h, _, h1, h2 => by
  simp only [Wvl, Option.some.injEq] at h
  subst h
  exact ⟨vs, rfl, h1, h2⟩
 | (i, x) :: rest, cs, cs', vs, h, hr, h1, h2 => by
  simp only [Wvl] at h
  split at h <;> try (cases h; done)
  rename_i off size ys hp hys
  cases hq : Nat.beq ys.length size && Nat.ble (off + ys.length) cs.length with
  | false => rw [hq] at h; cases h
  | true =>
   rw [hq] at h
   simp only [cond_true] at h
   simp only [Bool.and_eq_true] at hq
   have q1 := Nat.eq_of_beq_eq_true hq.1
   have q2 := Nat.le_of_ble_eq_true hq.2
   have hx1 : VRep U w D (ρ x) (a.eval x) := hr (i, x) (by simp)
   obtain ⟨c1, c2⟩ := Wa2 hys hx1
   have hfold := Wnk off (a.eval x).cells.toList 0 vs (by simp; omega)
   have hfold2 : ((a.eval x).cells.zipIdx.foldl (fun cs (x : Value × Nat) => cs.setIfInBounds (off + x.2) x.1) vs).toList = vs.toList.take off ++ (a.eval x).cells.toList ++ vs.toList.drop (off + (a.eval x).cells.size) := by
    have : (a.eval x).cells.zipIdx.foldl (fun cs (x : Value × Nat) => cs.setIfInBounds (off + x.2) x.1) vs = ((a.eval x).cells.toList.zipIdx 0).foldl (fun cs (x : Value × Nat) => cs.setIfInBounds (off + x.2) x.1) vs := by
     rw [← Array.foldl_toList]; simp
    rw [this, hfold]
    simp
   obtain ⟨vs', g1, g2, g3⟩ := Wrb rest _ cs' ((a.eval x).cells.zipIdx.foldl (fun cs (x : Value × Nat) => cs.setIfInBounds (off + x.2) x.1) vs) h (fun p hp => hr p (by simp [hp])) (by
    rw [← Array.length_toList, hfold2]
    simp; omega) (by
    intro j y v e1 e2
    rw [← Array.getElem?_toList, hfold2] at e2
    rw [List.append_assoc, List.getElem?_append] at e1 e2
    have l1 : (cs.take off).length = off := by simp; omega
    have l2 : (vs.toList.take off).length = off := by simp; omega
    rw [l1] at e1
    rw [l2] at e2
    split at e1
    ·rename_i hlt
     simp only [hlt, if_true] at e2
     rw [List.getElem?_take] at e1 e2
     simp only [hlt, if_true] at e1 e2
     exact h2 j y v e1 (by simpa using e2)
    ·rename_i hlt
     simp only [hlt, if_false] at e2
     rw [List.getElem?_append] at e1 e2
     simp only [Array.length_toList, c1] at e2
     split at e1
     ·rename_i hl2
      simp only [hl2, if_true] at e2
      exact c2 (j - off) y v e1 (by simpa using e2)
     ·rename_i hl2
      simp only [hl2, if_false] at e2
      simp only [List.getElem?_drop] at e1 e2
      exact h2 _ y v e1 (by simpa using e2))
   refine ⟨vs', ?_, g2, g3⟩
   simp only [List.map_cons, Instr.fill, hp]
   rw [if_neg (by simp [c1, q1]; omega)]
   exact g1
def Wnl (P : Program) (ρ : W44) (o : Oper) (t : TypeId) (ps : Array (Nat × Operand)) (k : KK) : Option DV :=
 bif K1k ρ o then K6h P ρ o k else
 match P.underlying t, prun P (zeroValue t) with
 | some (.struct fs), some z => match Wh3 P fs.toList with
  | some pl => match Wvl ρ pl ps.toList ((DV.cells (.val z)).map VV.dv) with
   | some cs => k (mkV cs) .none
   | none => none
  | none => none
 | _, _ => none
theorem Wpm {P : Program} {I : W40} {ρ : W44} {o : Oper} {t : TypeId} {ps : Array (Nat × Operand)} {H : OH} {id : Nat} (ho : o.op = .build t ps) : Good P I o ρ H id (Wnl P ρ o t ps) := by
 intro k r h
 unfold Wnl at h
 cases hf : K1k ρ o with
 | true =>
  rw [hf] at h
  simp only [cond_true] at h
  obtain ⟨x', y', h1, h2, h3⟩ := Kle (I := I) (H := H) (id := id) k r h
  exact ⟨x', y', h1, fun k' => by unfold Wnl; rw [hf]; exact h2 k', h3⟩
 | false =>
  rw [hf] at h
  simp only [cond_false] at h
  split at h <;> try (cases h; done)
  rename_i fs z hu hz
  split at h <;> try (cases h; done)
  rename_i pl hpl
  split at h <;> try (cases h; done)
  rename_i cs hcs
  refine ⟨_, _, h, fun k' => by unfold Wnl; rw [hf]; simp only [cond_false, hu, hz, hpl, hcs], Kd4 fun D U w a hops => ?_⟩
  obtain ⟨z1, z2⟩ := DV.cells_rep (U := U) (w := w) (.val z)
  obtain ⟨vs', g1, g2, g3⟩ := Wrb (U := U) (w := w) (D := D) (a := a) ps.toList _ cs z.cells hcs (fun p hp => hops p.2 (by
   rw [ho]; simp only [Op.operands]
   exact List.mem_toArray.2 (List.mem_map.2 ⟨p, hp, rfl⟩))) (by simpa using z1) (fun i x v e1 e2 => by
   obtain ⟨y, hy, rfl⟩ := Ktf e1
   exact z2 i y v hy e2)
  refine ⟨.agg vs', ?_, Wpl g2 g3⟩
  have hp := Wke (P := P) fs.toList pl hpl w
  have hps : (ps.map fun (x : Nat × Operand) => (x.1, a.eval x.2)).toList = ps.toList.map fun p => (p.1, a.eval p.2) := by simp
  have hpa : (fs.mapM fun f => (do pure (f.offset, ← sizeOf f.type) : Sem (Nat × Nat))).run P w = .ok pl.toArray w := by
   rw [Array.mapM_eq_mapM_toList]
   simp only [← bind_pure_comp, Sem.run_bind]
   rw [hp]
   rfl
  simp only [execOp, ho, Instr.build, Sem.run_bind, K7w _ hz w, Result.andThen_ok, run_underlying hu, hpa, hps]
  have : (fun (x : Nat) => (pl.toArray)[x]?) = (fun x => pl[x]?) := by funext x; simp
  simp only [this, g1, Sem.run_pure, Result.andThen_ok]
def Wkf (P : Program) (ρ : W44) (o : Oper) (t : TypeId) (x : Operand) (f : Nat) (k : KK) : Option DV :=
 bif K1k ρ o then K6h P ρ o k else
 match P.underlying t, K6j (ρ x), ρ x with
 | some (.struct fs), some cs, .dv (.agg _) => match fs[f]? with
  | some fd => match Wlb P fd.type cs fd.offset with | some y => k y .none | none => none
  | none => none
 | some (.struct fs), some cs, .vagg _ => match fs[f]? with
  | some fd => match Wlb P fd.type cs fd.offset with | some y => k y .none | none => none
  | none => none
 | _, _, _ => none
theorem Wvm {P : Program} {t : TypeId} {cs : W49} {of : Nat} {x : VV} (h : Wlb P t cs of = some x) {U : W42} {w : World} {D : W41} {vs : Array Value} (hl : vs.size = cs.length)
  (hc : ∀ (i : Nat) (x : VV) (v : Value), cs[i]? = some x → vs[i]? = some v → CRep U w D x v) : ∃ v, (part t vs of).run P w = .ok v w ∧ VRep U w D x v := by
 unfold Wlb at h
 split at h <;> try (cases h; done)
 rename_i td i hu hi
 have hia : ∀ b, aggD td = b → (isAgg t).run P w = .ok b w := by
  intro b hb
  simp only [isAgg, Sem.run_bind, run_underlying hu, Result.andThen_ok]
  subst hb
  cases td <;> rfl
 cases ha : aggD td with
 | true =>
  rw [ha] at h
  simp only [cond_true] at h
  cases hb : Nat.ble (of + i.size) cs.length with
  | false => rw [hb] at h; cases h
  | true =>
   rw [hb] at h
   simp only [cond_true, Option.some.injEq] at h
   have hb' := Nat.le_of_ble_eq_true hb
   subst h
   have hs : (sizeOf t).run P w = .ok i.size w := by simp [sizeOf, typeInfo, program, Sem.run, hi, bind, pure, Sem.bind]
   refine ⟨.agg (vs.extract of (of + i.size)), by simp only [part, Sem.run_bind, hia _ ha, Result.andThen_ok, if_true, hs, Sem.run_pure], Wpl (by simp; omega) ?_⟩
   intro j x v e1 e2
   rw [List.getElem?_take] at e1
   split at e1 <;> try (cases e1; done)
   rename_i hj
   rw [List.getElem?_drop] at e1
   rw [Array.getElem?_extract, if_pos (by omega)] at e2
   exact hc _ x v e1 e2
 | false =>
  rw [ha] at h
  simp only [cond_false] at h
  have hlt := (List.getElem?_eq_some_iff.1 h).1
  have hlt' : of < vs.size := by omega
  refine ⟨vs[of], ?_, Wnh (hc of x _ h (Array.getElem?_eq_getElem hlt'))⟩
  simp only [part, Sem.run_bind, hia _ ha, Result.andThen_ok, Bool.false_eq_true, if_false, Array.getElem?_eq_getElem hlt', Sem.run_pure]
theorem Wpn {P : Program} {I : W40} {ρ : W44} {o : Oper} {t : TypeId} {x : Operand} {f : Nat} {H : OH} {id : Nat} (ho : o.op = .field t x f) : Good P I o ρ H id (Wkf P ρ o t x f) := by
 intro k r h
 unfold Wkf at h
 cases hf : K1k ρ o with
 | true =>
  rw [hf] at h
  simp only [cond_true] at h
  obtain ⟨x', y', h1, h2, h3⟩ := Kle (I := I) (H := H) (id := id) k r h
  exact ⟨x', y', h1, fun k' => by unfold Wkf; rw [hf]; exact h2 k', h3⟩
 | false =>
  rw [hf] at h
  simp only [cond_false] at h
  have fin : ∀ (fs : Array Field) (cs : W49) (fd : Field) (y : VV), P.underlying t = some (.struct fs) → K6j (ρ x) = some cs → fs[f]? = some fd → Wlb P fd.type cs fd.offset = some y → (∀ (U : W42) (w : World) (D : W41) (v : Value), VRep U w D (ρ x) v → ∃ vs, v = .agg vs) → OpOk P I o ρ H id y .none := by
   intro fs cs fd y hu hcs hfd hy hag
   refine Kd4 fun D U w a hops => ?_
   have h1 := hops x (by simp [ho, Op.operands])
   obtain ⟨vs, hv⟩ := hag U w D _ h1
   obtain ⟨c1, c2⟩ := Wa2 hcs h1
   rw [hv] at c1 c2
   obtain ⟨u, hu1, hu2⟩ := Wvm (P := P) hy (U := U) (w := w) (D := D) (vs := vs) c1 c2
   refine ⟨u, ?_, hu2⟩
   simp only [execOp, ho, Instr.field, Sem.run_bind, run_underlying hu, Result.andThen_ok, hfd, hv, asAgg, Sem.run_pure, hu1]
  split at h <;> try (cases h; done)
  ·rename_i fs cs ds hu hcs hx
   split at h <;> try (cases h; done)
   rename_i fd hfd
   split at h <;> try (cases h; done)
   rename_i y hy
   refine ⟨_, _, h, fun k' => by
    have hcs' := hcs
    rw [hx] at hcs'
    unfold Wkf; rw [hf]; simp only [cond_false, hu, hx, hcs', hfd, hy], fin fs cs fd y hu hcs hfd hy fun U w D v hv => ?_⟩
   rw [hx] at hv
   have hv' : DRep U w (.agg ds) v := hv
   cases hv' with
   | agg g1 g2 => exact ⟨_, rfl⟩
  ·rename_i fs cs ds hu hcs hx
   split at h <;> try (cases h; done)
   rename_i fd hfd
   split at h <;> try (cases h; done)
   rename_i y hy
   refine ⟨_, _, h, fun k' => by
    have hcs' := hcs
    rw [hx] at hcs'
    unfold Wkf; rw [hf]; simp only [cond_false, hu, hx, hcs', hfd, hy], fin fs cs fd y hu hcs hfd hy fun U w D v hv => ?_⟩
   rw [hx] at hv
   obtain ⟨vs, rfl, _⟩ := hv
   exact ⟨vs, rfl⟩
def Wdk (P : Program) (ρ : W44) (o : Oper) (x : Operand) (i : Nat) (k : KK) : Option DV :=
 match ρ x with
 | .vtup cs => match cs[i]? with | some y => k y .none | none => none
 | _ => Wdh P ρ o x i k
theorem Wlc {P : Program} {I : W40} {ρ : W44} {o : Oper} {x : Operand} {i : Nat} {H : OH} {id : Nat} (ho : o.op = .extract x i) : Good P I o ρ H id (Wdk P ρ o x i) := by
 intro k r h
 unfold Wdk at h
 split at h
 ·rename_i cs hx
  split at h <;> try (cases h; done)
  rename_i d hd
  refine ⟨_, _, h, fun k' => by simp only [Wdk, hx, hd], Kd4 fun D U w a hops => ?_⟩
  have h1 := hops x (by simp [ho, Op.operands])
  rw [hx] at h1
  obtain ⟨vs, hv, g1, g2⟩ := h1
  have hlt : i < vs.size := by rw [g1]; exact (List.getElem?_eq_some_iff.1 hd).1
  exact ⟨vs[i], by simp [execOp, ho, hv, Instr.extract, hlt], Kmo (g2 i d _ hd (Array.getElem?_eq_getElem hlt))⟩
 ·rename_i hne
  obtain ⟨x', y', h1, h2, h3⟩ := Wk9 (I := I) (H := H) (id := id) ho k r h
  refine ⟨x', y', h1, fun k' => ?_, h3⟩
  unfold Wdk
  split
  ·rename_i cs hx; exact (hne cs hx).elim
  ·exact h2 k'
end Go.Pv
namespace Go.Pv
open Go Go.RowKit
abbrev K72 := List VV → OH → (VV → OH → Option DV) → Option DV
def Kk0 (P : Program) (I : W40) (g : FuncId) (G : K72) : Prop :=
 ∀ (xs : W49) (H : OH) (k : W5h) (r : DV), G xs H k = some r → K0j P g = true ∧ ∃ d H', k d H' = some r ∧ (∀ k', G xs H k' = k' d H') ∧
  ∀ (D : W41) (U N : W42) (w0 w : World) (args : Array Value), (∀ w', Ktd N w0 w' → I w') → WRel D U N w0 H w → Lt N w → args.size = xs.length →
   (∀ (i : Nat) (x : VV) (v : Value), xs[i]? = some x → args[i]? = some v → VRep U w D x v) →
   Calls P g args w fun e w' => ∃ v D' U', e = .returned v ∧ Kei N D U w D' U' w' ∧ WRel D' U' N w0 H' w' ∧ VRep U' w' D' d v
def K5e (D D' : W41) (n : Nat) (ids : List Nat) : Nat → Option Nat := fun b => match K0k b ids 0 with
 | some j => D' j
 | none => if b < n then D b else D' (ids.length + (b - n))
theorem Wep {b : Nat} : ∀ {l : List Nat} {i : Nat}, K0k b l i = none → b ∉ l
 | [], _, _ => by simp
 | x :: l, i, h => by
  simp only [K0k] at h
  cases hb : Nat.beq b x with
  | true => rw [hb] at h; cases h
  | false =>
   rw [hb] at h
   simp only [cond_false] at h
   have := Wep h
   simp only [List.mem_cons, not_or]
   exact ⟨(fun e => by subst e; rw [Nat.beq_refl] at hb; cases hb), this⟩
theorem Wrc {ids : List Nat} (hnd : ids.Nodup) {j b : Nat} (h : ids[j]? = some b) : K0k b ids 0 = some j := by
 cases hp : K0k b ids 0 with
 | none => exact absurd (List.mem_of_getElem? h) (Wep hp)
 | some m =>
  obtain ⟨q, h1, h2⟩ := Kte b ids 0 m hp
  have : m = q := by omega
  subst this
  rcases Nat.lt_trichotomy m j with hlt | he | hlt
  ·exact absurd rfl (Wdf hnd h2 h hlt)
  ·rw [he]
  ·exact absurd rfl (Wdf hnd h h2 hlt)
section call
variable {D D' : W41} {U U' : W42} {N : W42} {w0 w w' : World} {H Hc : W43} {ids : List Nat}
theorem K4s (hnd : ids.Nodup) (hlt : ∀ b ∈ ids, b < H.length) {j k : Nat} (h : D' j = some k) : K5e D D' H.length ids (Kx0 ids H.length j) = some k := by
 unfold Kx0
 cases hj : ids[j]? with
 | some b => simp only [K5e, Wrc hnd hj]; exact h
 | none =>
  have hge : ids.length ≤ j := by
   rcases Nat.lt_or_ge j ids.length with h' | h'
   ·rw [List.getElem?_eq_getElem h'] at hj; cases hj
   ·exact h'
  have hn : K0k (H.length + (j - ids.length)) ids 0 = none := by
   cases hp : K0k (H.length + (j - ids.length)) ids 0 with
   | none => rfl
   | some m =>
    obtain ⟨q, _, h2⟩ := Kte _ ids 0 m hp
    have := hlt _ (List.mem_of_getElem? h2)
    omega
  simp only [K5e, hn]
  rw [if_neg (by omega), show ids.length + (H.length + (j - ids.length) - H.length) = j by omega]
  exact h
theorem Kzs (hnd : ids.Nodup) (hlt : ∀ b ∈ ids, b < H.length) {x : VV} {v : Value} (h : CRep U' w' D' x v) : CRep U' w' (K5e D D' H.length ids) (Wen ids H.length x) v := by
 cases x with
 | dv d => exact h
 | dead => trivial
 | eptr cs => exact h
 | vagg cs => trivial
 | vtup cs => trivial
 | ptr b o => obtain ⟨k, hk, e⟩ := h; exact ⟨k, K4s hnd hlt hk, e⟩
 | osl e sz b o n => obtain ⟨k, c, cur, hk, hc, hh, hs, e⟩ := h; exact ⟨k, c, cur, K4s hnd hlt hk, hc, hh, hs, e⟩
 | mp b => obtain ⟨k, hk, e⟩ := h; exact ⟨k, K4s hnd hlt hk, e⟩
 | tp T sz b => obtain ⟨k, cur, hk, hh, hs, e⟩ := h; exact ⟨k, cur, K4s hnd hlt hk, hh, hs, e⟩
theorem Kzt (hnd : ids.Nodup) (hlt : ∀ b ∈ ids, b < H.length) {x : VV} {v : Value} (h : ARep U' w' D' x v) : ARep U' w' (K5e D D' H.length ids) (Wpb ids H.length x) v := by
 cases x with
 | vagg cs =>
  obtain ⟨vs, rfl, h1, h2⟩ := h
  refine ⟨vs, rfl, by simpa using h1, fun i x u e1 e2 => ?_⟩
  obtain ⟨y, hy, rfl⟩ := Ktf e1
  exact Kzs hnd hlt (h2 i y u hy e2)
 | vtup cs => cases h
 | dv d => exact h
 | dead => trivial
 | eptr cs => exact h
 | ptr b o => exact Kn0 (Kzs (x := .ptr b o) hnd hlt h)
 | osl e sz b o n => exact Kn0 (Kzs (x := .osl e sz b o n) hnd hlt h)
 | mp b => exact Kn0 (Kzs (x := .mp b) hnd hlt h)
 | tp T sz b => exact Kn0 (Kzs (x := .tp T sz b) hnd hlt h)
theorem Wpo (hnd : ids.Nodup) (hlt : ∀ b ∈ ids, b < H.length) {x : VV} {v : Value} (h : VRep U' w' D' x v) : VRep U' w' (K5e D D' H.length ids) (Wk3 ids H.length x) v := by
 cases x with
 | vtup cs =>
  obtain ⟨vs, rfl, h1, h2⟩ := h
  refine ⟨vs, rfl, by simpa using h1, fun i x u e1 e2 => ?_⟩
  obtain ⟨y, hy, rfl⟩ := Ktf e1
  exact Kzt hnd hlt (h2 i y u hy e2)
 | vagg cs => exact Kzt (x := .vagg cs) hnd hlt h
 | dv d => exact h
 | dead => trivial
 | eptr cs => exact h
 | ptr b o => exact Kmo (Kzt (x := .ptr b o) hnd hlt h)
 | osl e sz b o n => exact Kmo (Kzt (x := .osl e sz b o n) hnd hlt h)
 | mp b => exact Kmo (Kzt (x := .mp b) hnd hlt h)
 | tp T sz b => exact Kmo (Kzt (x := .tp T sz b) hnd hlt h)
theorem K2c : ∀ (H : W43) (ids : List Nat) (xs : W43), (Wbu H ids xs).length = H.length
 | H, [], xs => by cases xs <;> rfl
 | H, b :: ids, [] => rfl
 | H, b :: ids, x :: xs => by simp only [Wbu]; rw [K2c]; simp
theorem K4t : ∀ (ids : List Nat) (H xs : W43) (b : Nat), b ∉ ids → (Wbu H ids xs)[b]? = H[b]?
 | [], H, xs, b, _ => by cases xs <;> rfl
 | c :: ids, H, [], b, _ => rfl
 | c :: ids, H, x :: xs, b, hb => by
  simp only [List.mem_cons, not_or] at hb
  simp only [Wbu]
  rw [K4t ids _ xs b hb.2, List.getElem?_set_ne (Ne.symm hb.1)]
theorem Wh4 : ∀ (ids : List Nat) (H xs : W43) (j b : Nat), ids.Nodup → (∀ b ∈ ids, b < H.length) → ids[j]? = some b → j < xs.length → (Wbu H ids xs)[b]? = xs[j]?
 | [], H, xs, j, b, _, _, hj, _ => by simp at hj
 | c :: ids, H, [], j, b, _, _, _, hx => by simp at hx
 | c :: ids, H, x :: xs, j, b, hnd, hlt, hj, hx => by
  obtain ⟨h1, h2⟩ := List.nodup_cons.1 hnd
  simp only [Wbu]
  cases j with
  | zero =>
   simp only [List.getElem?_cons_zero, Option.some.injEq] at hj
   subst hj
   rw [K4t ids _ xs c h1]
   simp [List.getElem?_set, hlt c (by simp)]
  | succ j =>
   simp only [List.getElem?_cons_succ] at hj ⊢
   exact Wh4 ids _ xs j b h2 (fun b hb => by simpa using hlt b (by simp [hb])) hj (by simpa using hx)
theorem Wh5 {ids : List Nat} {base : Nat} {x : Option Blk} {B : Blk} (h : K91 ids base x = some B) : ∃ B', x = some B' ∧ B'.live = B.live ∧ (∀ cs, B = .cells cs → B' = .cells cs) ∧ (∀ cs, B = .mix cs → ∃ cs', B' = .mix cs' ∧ cs = cs'.map (Wen ids base)) ∧ (∀ kvs, B = .dict kvs → B' = .dict kvs) := by
 cases x with
 | none => cases h
 | some B' =>
  cases B' with
  | cells cs => simp only [K91, Option.some.injEq] at h; subst h; exact ⟨_, rfl, rfl, fun _ e => e, (fun _ e => by cases e), fun _ e => e⟩
  | gone => simp only [K91, Option.some.injEq] at h; subst h; exact ⟨_, rfl, rfl, fun _ e => e, (fun _ e => by cases e), fun _ e => e⟩
  | dict kvs => simp only [K91, Option.some.injEq] at h; subst h; exact ⟨_, rfl, rfl, fun _ e => e, (fun _ e => by cases e), fun _ e => e⟩
  | mix cs => simp only [K91, Option.some.injEq] at h; subst h; exact ⟨_, rfl, rfl, (fun _ e => by cases e), (fun _ e => ⟨cs, rfl, (by cases e; rfl)⟩), (fun _ e => by cases e)⟩
theorem Kzu (hnd : ids.Nodup) (hlt : ∀ b ∈ ids, b < H.length) (hlen : ids.length ≤ Hc.length) {b : Nat} {B : Blk} (h : (K1j H ids Hc)[b]? = some (some B)) :
  (b ∉ ids ∧ b < H.length ∧ H[b]? = some (some B)) ∨ ∃ j, b = Kx0 ids H.length j ∧ (K5e D D' H.length ids) b = D' j ∧ ∃ B', Hc[j]? = some (some B') ∧ B'.live = B.live ∧ (∀ cs, B = .cells cs → B' = .cells cs) ∧ (∀ cs, B = .mix cs → ∃ cs', B' = .mix cs' ∧ cs = cs'.map (Wen ids H.length)) ∧ (∀ kvs, B = .dict kvs → B' = .dict kvs) := by
 unfold K1j at h
 rw [List.getElem?_append, K2c] at h
 split at h
 ·rename_i hb
  by_cases hm : b ∈ ids
  ·right
   obtain ⟨j, hj⟩ := List.mem_iff_getElem?.1 hm
   have hjl : j < ids.length := (List.getElem?_eq_some_iff.1 hj).1
   rw [Wh4 ids H _ j b hnd hlt hj (by simp; omega)] at h
   rw [List.getElem?_map, List.getElem?_take, if_pos hjl] at h
   cases hx : Hc[j]? with
   | none => rw [hx] at h; cases h
   | some x =>
    rw [hx] at h
    simp only [Option.map_some, Option.some.injEq] at h
    obtain ⟨B', rfl, h2⟩ := Wh5 h
    exact ⟨j, by simp only [Kx0, hj], by simp only [K5e, Wrc hnd hj], B', hx, h2⟩
  ·left
   rw [K4t ids H _ b hm] at h
   exact ⟨hm, hb, h⟩
 ·rename_i hb
  right
  rw [List.getElem?_map, List.getElem?_drop] at h
  cases hx : Hc[ids.length + (b - H.length)]? with
  | none => rw [hx] at h; cases h
  | some x =>
   rw [hx] at h
   simp only [Option.map_some, Option.some.injEq] at h
   obtain ⟨B', rfl, h2⟩ := Wh5 h
   refine ⟨ids.length + (b - H.length), ?_, ?_, B', hx, h2⟩
   ·simp only [Kx0]
    rw [List.getElem?_eq_none (by omega)]
    simp only []
    omega
   ·have hn : K0k b ids 0 = none := by
     cases hp : K0k b ids 0 with
     | none => rfl
     | some m =>
      obtain ⟨q, _, h2⟩ := Kte _ ids 0 m hp
      exact absurd (hlt _ (List.mem_of_getElem? h2)) hb
    simp only [K5e, hn, if_neg hb]
theorem Wpp (hnd : ids.Nodup) (hlt : ∀ b ∈ ids, b < H.length) (hlen : ids.length ≤ Hc.length) {j : Nat} {B : Blk} (h : Hc[j]? = some (some B)) : ∃ B', (K1j H ids Hc)[Kx0 ids H.length j]? = some (some B') := by
 unfold K1j Kx0
 rw [List.getElem?_append, K2c]
 cases hj : ids[j]? with
 | some b =>
  have hm := List.mem_of_getElem? hj
  have hjl : j < ids.length := (List.getElem?_eq_some_iff.1 hj).1
  simp only []
  rw [if_pos (hlt b hm), Wh4 ids H _ j b hnd hlt hj (by simp; omega), List.getElem?_map, List.getElem?_take, if_pos hjl, h]
  cases B <;> exact ⟨_, rfl⟩
 | none =>
  have hge : ids.length ≤ j := by
   rcases Nat.lt_or_ge j ids.length with h' | h'
   ·rw [List.getElem?_eq_getElem h'] at hj; cases hj
   ·exact h'
  simp only []
  rw [if_neg (by omega), List.getElem?_map, List.getElem?_drop, show ids.length + (H.length + (j - ids.length) - H.length) = j by omega, h]
  cases B <;> exact ⟨_, rfl⟩
def Nc (D : W41) (ids : List Nat) (w : World) : Nat → Prop := fun k => k < w.heap.size ∧ ∀ j, Kvx D ids j ≠ some k
theorem Wnm (hW : WRel D U N w0 H w) (hN : Lt N w) (k : Nat) (hk : N k) : Nc D ids w k := by
 refine ⟨hN k hk, fun j hj => ?_⟩
 unfold Kvx at hj
 split at hj <;> try (cases hj; done)
 exact (hW.own _ _ hj).1 hk
theorem Wdl (hW : WRel D U N w0 H w) (hlive : ∀ b ∈ ids, Kxg H b = true) {b k : Nat} {B : Blk} (hb : D b = some k) (hH : H[b]? = some (some B)) (hB : B.live = true) (hm : b ∉ ids) : Nc D ids w k := by
 refine ⟨(hW.own b k hb).2.1, fun j hj => ?_⟩
 unfold Kvx at hj
 split at hj <;> try (cases hj; done)
 rename_i c hc
 have hl := hlive c (List.mem_of_getElem? hc)
 unfold Kxg at hl
 split at hl <;> try (cases hl; done)
 rename_i B' hB'
 have := hW.inj b c k B B' hH hB' hB hl hb hj
 subst this
 exact hm (List.mem_of_getElem? hc)
theorem Wpq (hW : WRel D U N w0 H w) (hN : Lt N w) (hnd : ids.Nodup) : WRel (Kvx D ids) U (Nc D ids w) w (K1m H ids) w := by
 have h := hW.pack hnd
 exact ⟨Ktd.refl, h.old, fun b k hb => ⟨fun hk => hk.2 b hb, (h.own b k hb).2⟩, h.hold, h.holdm, h.holdp, h.all, h.inj⟩
theorem Wpr (hW : WRel D U N w0 H w) (hN : Lt N w) (hnd : ids.Nodup) (hlive : ∀ b ∈ ids, Kxg H b = true) (hlen : ids.length ≤ Hc.length) (hC : WRel D' U' (Nc D ids w) w Hc w') (ho : Kei (Nc D ids w) (Kvx D ids) U w D' U' w') :
  Kei N D U w (K5e D D' H.length ids) U' w' ∧ WRel (K5e D D' H.length ids) U' N w0 (K1j H ids Hc) w' := by
 have hlt : ∀ b ∈ ids, b < H.length := by
  intro b hb
  have := hlive b hb
  unfold Kxg at this
  split at this <;> try (cases this; done)
  rename_i B hB
  exact (List.getElem?_eq_some_iff.1 hB).1
 have hids : ∀ b k, D b = some k → K5e D D' H.length ids b = some k := by
  intro b k hb
  have hbl : b < H.length := by
   obtain ⟨_, _, B, hB⟩ := hW.own b k hb
   exact (List.getElem?_eq_some_iff.1 hB).1
  unfold K5e
  cases hp : K0k b ids 0 with
  | some j =>
   obtain ⟨m, h1, h2⟩ := Kte b ids 0 j hp
   have : j = m := by omega
   subst this
   exact ho.ids j k (by simp only [Kvx, h2, hb])
  | none => simp only [if_pos hbl]; exact hb
 have hon : Kei N D U w (K5e D D' H.length ids) U' w' := by
  refine ⟨hids, ho.set, ho.keep, ho.size, fun k hk => (ho.back k hk).imp id (fun h hN' => h (Wnm hW hN k hN')), ?_⟩
  intro b k cur T f hb hc
  by_cases hm : ∃ j, Kvx D ids j = some k
  ·obtain ⟨j, hj⟩ := hm
   exact ho.siz j k cur T f hj hc
  ·refine ⟨cur, ⟨f, ?_⟩, rfl⟩
   rw [hC.below.block k ⟨(hW.own b k hb).2.1, fun j hj => hm ⟨j, hj⟩⟩]
   exact hc
 have other : ∀ b k, b ∉ ids → b < H.length → K5e D D' H.length ids b = some k → D b = some k := by
  intro b k hm hb h
  unfold K5e at h
  cases hp : K0k b ids 0 with
  | some j =>
   obtain ⟨m, h1, h2⟩ := Kte b ids 0 j hp
   exact absurd (List.mem_of_getElem? h2) hm
  | none => simp only [hp, if_pos hb] at h; exact h
 refine ⟨hon, hW.below.trans (hC.below.sub fun k hk => Wnm hW hN k hk), hC.old, ?_, ?_, ?_, ?_, ?_, ?_⟩
 ·intro b k hb
  have callee : ∀ j, D' j = some k → b = Kx0 ids H.length j → ¬ N k ∧ k < w'.heap.size ∧ ∃ B, (K1j H ids Hc)[b]? = some (some B) := by
   intro j hj hbj
   obtain ⟨g1, g2, B, g3⟩ := hC.own j k hj
   refine ⟨fun h => g1 (Wnm hW hN k h), g2, ?_⟩
   rw [hbj]
   exact Wpp hnd hlt hlen g3
  have hb0 := hb
  unfold K5e at hb
  cases hp : K0k b ids 0 with
  | some j =>
   simp only [hp] at hb
   obtain ⟨m, h1, h2⟩ := Kte b ids 0 j hp
   have : j = m := by omega
   subst this
   exact callee j hb (by simp only [Kx0, h2])
  | none =>
   simp only [hp] at hb
   split at hb
   ·rename_i hbl
    obtain ⟨g1, g2, B, g3⟩ := hW.own b k hb
    refine ⟨g1, Nat.lt_of_lt_of_le g2 ho.size, B, ?_⟩
    unfold K1j
    rw [List.getElem?_append_left (by rw [K2c]; exact hbl), K4t ids H _ b (Wep hp)]
    exact g3
   ·rename_i hbl
    refine callee _ hb ?_
    simp only [Kx0]
    rw [List.getElem?_eq_none (by omega)]
    simp only []
    omega
 ·intro b k vs hb hH
  rcases Kzu (D := D) (D' := D') hnd hlt hlen hH with ⟨hm, hbl, hH0⟩ | ⟨j, hbj, hD, B', hB', _, g3, _⟩
  ·have hDb := other b k hm hbl hb
   obtain ⟨g1, cs, T, g2, g3, g4⟩ := hW.hold b k vs hDb hH0
   have hnc := Wdl hW hlive hDb hH0 rfl hm
   refine ⟨fun hu => (ho.back k hu).elim g1 fun h => h hnc, cs, T, by rw [hC.below.block k hnc]; exact g2, g3, fun i x v e1 e2 => (g4 i x v e1 e2).keep ho.set ho.keep ho.size⟩
  ·rw [g3 vs rfl] at hB'
   rw [hD] at hb
   exact hC.hold j k vs hb hB'
 ·intro b k vs hb hH
  rcases Kzu (D := D) (D' := D') hnd hlt hlen hH with ⟨hm, hbl, hH0⟩ | ⟨j, hbj, hD, B', hB', _, _, g4, _⟩
  ·have hDb := other b k hm hbl hb
   obtain ⟨g1, cs, T, g2, g3, g4⟩ := hW.holdm b k vs hDb hH0
   have hnc := Wdl hW hlive hDb hH0 rfl hm
   exact ⟨fun hu => (ho.back k hu).elim g1 fun h => h hnc, cs, T, by rw [hC.below.block k hnc]; exact g2, g3, fun i x v e1 e2 => (g4 i x v e1 e2).onward hon⟩
  ·obtain ⟨cs', rfl, rfl⟩ := g4 vs rfl
   rw [hD] at hb
   obtain ⟨g1, cs, T, g2, g3, g4⟩ := hC.holdm j k cs' hb hB'
   refine ⟨g1, cs, T, g2, by simpa using g3, fun i x v e1 e2 => ?_⟩
   obtain ⟨y, hy, rfl⟩ := Ktf e1
   exact Kzs hnd hlt (g4 i y v hy e2)
 ·intro b k kvs hb hH
  rcases Kzu (D := D) (D' := D') hnd hlt hlen hH with ⟨hm, hbl, hH0⟩ | ⟨j, hbj, hD, B', hB', _, _, _, g5⟩
  ·have hDb := other b k hm hbl hb
   obtain ⟨g1, es, cl, g2, g4⟩ := hW.holdp b k kvs hDb hH0
   have hnc := Wdl hW hlive hDb hH0 rfl hm
   exact ⟨fun hu => (ho.back k hu).elim g1 fun h => h hnc, es, cl, by rw [hC.below.block k hnc]; exact g2, g4.keep ho.set ho.keep ho.size⟩
  ·rw [g5 kvs rfl] at hB'
   rw [hD] at hb
   exact hC.holdp j k kvs hb hB'
 ·intro b B hH
  rcases Kzu (D := D) (D' := D') hnd hlt hlen hH with ⟨hm, hbl, hH0⟩ | ⟨j, hbj, hD, B', hB', _⟩
  ·obtain ⟨k, hk⟩ := hW.all b B hH0
   exact ⟨k, hids b k hk⟩
  ·obtain ⟨k, hk⟩ := hC.all j B' hB'
   exact ⟨k, by rw [hD]; exact hk⟩
 ·intro b b' k B B' hH hH' l1 l2 hb hb'
  rcases Kzu (D := D) (D' := D') hnd hlt hlen hH with ⟨hm, hbl, hH0⟩ | ⟨j, hbj, hD, C, hC1, hC2, _⟩ <;>
   rcases Kzu (D := D) (D' := D') hnd hlt hlen hH' with ⟨hm', hbl', hH0'⟩ | ⟨j', hbj', hD', C', hC1', hC2', _⟩
  ·exact hW.inj b b' k B B' hH0 hH0' l1 l2 (other b k hm hbl hb) (other b' k hm' hbl' hb')
  ·have hnc := Wdl hW hlive (other b k hm hbl hb) hH0 l1 hm
   rw [hD'] at hb'
   exact absurd hnc (hC.own j' k hb').1
  ·have hnc := Wdl hW hlive (other b' k hm' hbl' hb') hH0' l2 hm'
   rw [hD] at hb
   exact absurd hnc (hC.own j k hb).1
  ·rw [hD] at hb
   rw [hD'] at hb'
   have := hC.inj j j' k C C' hC1 hC1' (hC2.trans l1) (hC2'.trans l2) hb hb'
   rw [hbj, hbj', this]
end call
end Go.Pv
namespace Go.Pv
open Go Go.RowKit
def frc {α : Type} (l : List α) : (List α → Option DV) → Option DV :=
 List.rec (motive := fun _ => (List α → Option DV) → Option DV) (fun k => k []) (fun x _ ih k => ih fun ys => k (x :: ys)) l
theorem K23 {α : Type} : ∀ (l : List α) (k : List α → Option DV), frc l k = k l
 | [], _ => rfl
 | x :: xs, k => K23 xs (fun ys => k (x :: ys))
def Stab (I : W40) : Prop := ∀ w w', I w → Below w.heap.size w w' → I w'
def Wdm (b : Nat) : List VV → Bool
 | [] => false
 | .ptr c _ :: l => bif Nat.beq c b then true else Wdm b l
 | .tp _ _ c :: l => bif Nat.beq c b then true else Wdm b l
 | _ :: l => Wdm b l
theorem Wa3 {b : Nat} : ∀ {l : W49}, Wdm b l = true → ∃ (i : Nat) (x : VV), l[i]? = some x ∧ ((∃ o, x = .ptr b o) ∨ ∃ T sz, x = .tp T sz b)
 | [], h => by cases h
 | x :: l, h => by
  cases x with
  | ptr c o =>
   simp only [Wdm] at h
   cases hc : Nat.beq c b with
   | true => exact ⟨0, _, by rw [Nat.eq_of_beq_eq_true hc]; rfl, .inl ⟨o, rfl⟩⟩
   | false => rw [hc] at h; obtain ⟨i, y, e, g⟩ := Wa3 (l := l) h; exact ⟨i + 1, y, by simpa using e, g⟩
  | tp T sz c =>
   simp only [Wdm] at h
   cases hc : Nat.beq c b with
   | true => exact ⟨0, _, by rw [Nat.eq_of_beq_eq_true hc]; rfl, .inr ⟨T, sz, rfl⟩⟩
   | false => rw [hc] at h; obtain ⟨i, y, e, g⟩ := Wa3 (l := l) h; exact ⟨i + 1, y, by simpa using e, g⟩
  | _ => obtain ⟨i, y, e, g⟩ := Wa3 (l := l) (by simpa only [Wdm] using h); exact ⟨i + 1, y, by simpa using e, g⟩
def Wxn : List Nat → VV → OH → Option (Nat × DV × List DV)
 | [b], .dv d, [some (.cells cs)] => some (b, d, cs)
 | _, _, _ => none
theorem Wsy {ids : List Nat} {d : VV} {Hc : OH} {b : Nat} {d0 : DV} {cs : W5j} (h : Wxn ids d Hc = some (b, d0, cs)) : ids = [b] ∧ d = .dv d0 ∧ Hc = [some (.cells cs)] := by
 unfold Wxn at h
 split at h <;> try (cases h; done)
 simp only [Option.some.injEq, Prod.mk.injEq] at h
 obtain ⟨rfl, rfl, rfl⟩ := h
 exact ⟨rfl, rfl, rfl⟩
def Wgw (n : Nat) (k : KK) : List Nat → VV → OH → Option DV
 | [], d, [] => k d .none
 | [], d, x :: Hc => k (Wk3 [] n d) (.call [] (x :: Hc))
 | b :: ids, d, Hc => bif Nat.ble (b :: ids).length Hc.length then k (Wk3 (b :: ids) n d) (.call (b :: ids) Hc) else none
def Wb7 (n : Nat) (xs : W49) (k : KK) (ids : List Nat) (d : VV) (Hc : OH) : Option DV :=
 match Wxn ids d Hc with
 | some (b, d0, cs) => bif Wdm b xs then k (.dv d0) (.upd b cs) else none
 | none => Wgw n k ids d Hc
def Wsz (G : K72) (H : OH) (xs : W49) (k : KK) : Option DV :=
 frc (Knd H xs) fun ids => frc (xs.map (K92 ids)) fun ys => frc (K1m H ids) fun Hp => G ys Hp fun d Hc => Wb7 H.length xs k ids d Hc
theorem Wrd (G : K72) (H : OH) (xs : W49) (k : KK) : Wsz G H xs k = G (xs.map (K92 (Knd H xs))) (K1m H (Knd H xs)) fun d Hc => Wb7 H.length xs k (Knd H xs) d Hc := by
 simp only [Wsz, K23]
theorem K73 (H : OH) (xs : W49) : ∀ b ∈ Knd H xs, Kxg H b = true := fun b hb => (Kwz hb).2
theorem Wh6 {U : W42} {w : World} {D : W41} {ρ : W44} {a : Act} {fi ca : Array Value} {args : Array Operand} (h : ∀ y ∈ args, VRep U w D (ρ y) (a.eval y)) :
  (fi ++ args.map a.eval ++ ca).size = (fi.toList.map (fun v => VV.dv (.val v)) ++ args.toList.map ρ ++ ca.toList.map (fun v => VV.dv (.val v))).length ∧
  ∀ (i : Nat) (x : VV) (v : Value), (fi.toList.map (fun v => VV.dv (.val v)) ++ args.toList.map ρ ++ ca.toList.map (fun v => VV.dv (.val v)))[i]? = some x → (fi ++ args.map a.eval ++ ca)[i]? = some v → VRep U w D x v := by
 refine ⟨by simp, fun i x v h1 h2 => ?_⟩
 rw [← Array.getElem?_toList] at h2
 simp only [Array.toList_append, Array.toList_map] at h2
 rw [List.append_assoc, List.getElem?_append] at h1 h2
 simp only [List.length_map, Array.length_toList] at h1 h2
 split at h1
 ·simp only [*, if_true] at h2
  obtain ⟨u, hu, rfl⟩ := Ktf h1
  rw [hu] at h2; cases h2
  exact DRep.val _
 ·rename_i hni
  simp only [hni, if_false] at h2
  rw [List.getElem?_append] at h1 h2
  simp only [List.length_map, Array.length_toList] at h1 h2
  split at h1
  ·rename_i hlt
   simp only [hlt, if_true] at h2
   obtain ⟨y, hy, rfl⟩ := Ktf h1
   obtain ⟨y', hy', rfl⟩ := Ktf h2
   rw [hy] at hy'; cases hy'
   exact h y (by have := List.mem_of_getElem? hy; simpa using this)
  ·rename_i hlt
   simp only [hlt, if_false] at h2
   obtain ⟨u, hu, rfl⟩ := Ktf h1
   rw [hu] at h2; cases h2
   exact DRep.val _
theorem Wh7 {U : W42} {w : World} {D : W41} {xs : W49} {args : Array Value} (ids : List Nat) (h : ∀ (i : Nat) (x : VV) (v : Value), xs[i]? = some x → args[i]? = some v → VRep U w D x v) :
  ∀ (i : Nat) (x : VV) (v : Value), (xs.map (K92 ids))[i]? = some x → args[i]? = some v → VRep U w (Kvx D ids) x v := by
 intro i x v h1 h2
 obtain ⟨y, hy, rfl⟩ := Ktf h1
 exact Whq ids (h i y v hy h2)
theorem Ws0 {P : Program} {I : W40} (hst : Stab I) {G : K72} {g : FuncId} (HG : Kk0 P I g G) {ρ : W44} {o : Oper} {c : Call} {H : OH} {id : Nat} {first captured : Array Value} (ho : o.op = .call c) (hc : Wa1 ρ c = some (g, first, captured)) :
  Good P I o ρ H id (Wsz G H (first.toList.map (fun v => VV.dv (.val v)) ++ c.args.toList.map ρ ++ captured.toList.map (fun v => VV.dv (.val v)))) := by
 intro k r h
 generalize hxs : first.toList.map (fun v => VV.dv (.val v)) ++ c.args.toList.map ρ ++ captured.toList.map (fun v => VV.dv (.val v)) = xs at h ⊢
 rw [Wrd] at h
 obtain ⟨hg, d, Hc, hk, hnat, hm⟩ := HG _ _ _ _ h
 have hall : ∀ k', Wsz G H xs k' = Wb7 H.length xs k' (Knd H xs) d Hc := fun k' => by rw [Wrd, hnat]
 have hrun : ∀ (D : W41) (U : W42) (w : World) (a : Act), (∀ y ∈ o.op.operands, VRep U w D (ρ y) (a.eval y)) →
   (execOp a.eval o).run P w = .ok (.enter g (first ++ c.args.map a.eval ++ captured)) w := by
  intro D U w a hops
  unfold Wa1 at hc
  cases hcal : c.callee with
  | invoke r m => simp [hcal] at hc
  | builtin b => simp [hcal] at hc
  | value f =>
   simp only [hcal] at hc
   have hfop : f ∈ o.op.operands := by simp [ho, Op.operands, Call.operands, hcal]
   have hrf := hops f hfop
   cases hfl : (ρ f).flat with
   | none => simp [hfl] at hc
   | some fv =>
    have hev := VV.flat_rep hfl hrf
    simp only [hfl] at hc
    cases fv <;> try (simp at hc; done)
    rename_i fn fi ca
    cases fn <;> simp at hc
    rename_i g'
    obtain ⟨rfl, rfl, rfl⟩ := hc
    simp [execOp, ho, resolve, hcal, hev, Deferred.ofValue, invoke, Wfo hg, Array.append_assoc]
 have hargs : ∀ y ∈ c.args, y ∈ o.op.operands := by
  intro y hy
  rw [ho]; simp only [Op.operands, Call.operands]
  exact Array.mem_append.2 (.inr hy)
 have seq : ∀ Hc', Hc' = Hc → (Knd H xs).length ≤ Hc.length → Wpc P I o ρ H (Wk3 (Knd H xs) H.length d) (.call (Knd H xs) Hc') := by
  rintro _ rfl hlen D U N w0 w a next Q hI hW hN hops hn
  obtain ⟨a1, a2⟩ := Wh6 (fi := first) (ca := captured) (fun y hy => hops y (hargs y hy))
  rw [hxs] at a1 a2
  unfold Oper.wp
  rw [hrun D U w a hops]
  have hnd := Wjb H xs
  refine Calls.mono (hm (Kvx D (Knd H xs)) U (Nc D (Knd H xs) w) w w _ (fun w' h' => hI w' (hW.below.trans (h'.sub fun k hk => Wnm hW hN k hk))) (Wpq hW hN hnd) (fun k hk => hk.1) (by simpa using a1) (Wh7 _ a2)) ?_
  rintro e w' ⟨v, D', U', rfl, h1, h2, h3⟩
  obtain ⟨b1, b2⟩ := Wpr hW hN hnd (K73 H xs) hlen h2 h1
  exact hn v w' _ U' b1 b2 (Wpo hnd (fun b hb => by
   have := K73 H xs b hb
   unfold Kxg at this
   split at this <;> try (cases this; done)
   rename_i B hB
   exact (List.getElem?_eq_some_iff.1 hB).1) h3)
 cases hu : Wxn (Knd H xs) d Hc with
 | some p =>
  obtain ⟨b, d0, cs⟩ := p
  obtain ⟨hi, rfl, rfl⟩ := Wsy hu
  simp only [Wb7, hu] at hk
  cases hp : Wdm b xs with
  | false => rw [hp] at hk; cases hk
  | true =>
   rw [hp] at hk
   refine ⟨_, _, hk, fun k' => by rw [hall]; simp only [Wb7, hu, hp, cond_true], ?_⟩
   intro D U N w0 H' w a next Q hI hC hW hN hD hid hops hn
   obtain ⟨a1, a2⟩ := Wh6 (fi := first) (ca := captured) (fun y hy => hops y (hargs y hy))
   rw [hxs] at a1 a2
   have hbr : b ∈ Knd H xs := by rw [hi]; simp
   have hlv := K73 H xs b hbr
   unfold Kxg at hlv
   split at hlv <;> try (cases hlv; done)
   rename_i B hB
   obtain ⟨i, x', hx, hxp⟩ := Wa3 hp
   have his : i < (first ++ c.args.map a.eval ++ captured).size := by rw [a1]; exact (List.getElem?_eq_some_iff.1 hx).1
   obtain ⟨kk, hkk⟩ : ∃ k, D b = some k := by
    have := a2 i _ _ hx (Array.getElem?_eq_getElem his)
    rcases hxp with ⟨o', rfl⟩ | ⟨T, sz, rfl⟩
    ·obtain ⟨k, hk, _⟩ := this; exact ⟨k, hk⟩
    ·obtain ⟨k, _, hk, _⟩ := this; exact ⟨k, hk⟩
   obtain ⟨_, _, B', hB'⟩ := hW.own b kk hkk
   have hBB := hC b B B' hB hB'
   subst hBB
   have hlt : b < H'.length := (List.getElem?_eq_some_iff.1 hB').1
   have hpk : K1m H (Knd H xs) = K1m H' [b] := by rw [hi]; simp [K1m, hB, hB']
   have hnd : [b].Nodup := by simp
   have hlive' : ∀ b' ∈ [b], Kxg H' b' = true := by intro b' h'; simp at h'; subst h'; simp only [Kxg, hB']; exact hlv
   unfold Oper.wp
   rw [hrun D U w a hops]
   refine Calls.mono (hm (Kvx D [b]) U (Nc D [b] w) w w _ (fun w' h' => hI w' (hW.below.trans (h'.sub fun k hk => Wnm hW hN k hk))) (by rw [hpk]; exact Wpq hW hN hnd) (fun k hk => hk.1) (by simpa using a1) (by rw [hi]; exact Wh7 _ a2)) ?_
   rintro e w' ⟨v, D', U', rfl, h1, h2, h3⟩
   obtain ⟨b1, b2⟩ := Wpr hW hN hnd hlive' (by simp) h2 h1
   have hout : ∀ j, j ≠ 0 → D' j = none := by
    intro j hj
    cases hd : D' j with
    | none => rfl
    | some k =>
     obtain ⟨_, _, B2, g⟩ := h2.own j k hd
     rw [List.getElem?_eq_none (by simp; omega)] at g; cases g
   have hcd : K5e D D' H'.length [b] = D := by
    funext b'
    by_cases e : b' = b
    ·subst e
     rw [b1.ids _ _ hkk, hkk]
    ·have hpn : K0k b' [b] 0 = none := by
      have : Nat.beq b' b = false := by
       cases hb : Nat.beq b' b with
       | false => rfl
       | true => exact absurd (Nat.eq_of_beq_eq_true hb) e
      simp [K0k, this]
     simp only [K5e, hpn]
     split
     ·rfl
     ·rename_i hb
      rw [hout _ (by simp)]
      exact (hW.fresh (Nat.le_of_not_lt hb)).symm
   have hca : K1j H' [b] [some (.cells cs)] = H'.set b (some (.cells cs)) := by simp [K1j, Wbu, K91]
   rw [hcd] at b1 b2
   rw [hca] at b2
   exact hn v w' D U' b1 b2 (fun _ h _ => h) h3
 | none =>
 simp only [Wb7, hu] at hk
 have hall : ∀ k', Wsz G H xs k' = Wgw H.length k' (Knd H xs) d Hc := fun k' => by rw [hall]; simp only [Wb7, hu]
 cases hi : Knd H xs with
 | cons b ids =>
  rw [hi] at hk
  simp only [Wgw] at hk
  cases hb : Nat.ble (b :: ids).length Hc.length with
  | false => rw [hb] at hk; cases hk
  | true =>
   rw [hb] at hk
   refine ⟨_, _, hk, fun k' => by rw [hall, hi]; simp only [Wgw, hb, cond_true], fun hid => ?_⟩
   rw [← hi]
   exact seq Hc rfl (by rw [hi]; exact Nat.le_of_ble_eq_true hb)
 | nil =>
  rw [hi] at hk
  cases hHc : Hc with
  | cons x Hc0 =>
   rw [hHc] at hk
   refine ⟨_, _, hk, fun k' => by rw [hall, hi, hHc]; rfl, fun hid => ?_⟩
   have := seq (x :: Hc0) hHc.symm (by rw [hi]; simp)
   rw [hi] at this
   exact this
  | nil =>
   rw [hHc] at hk
   refine ⟨_, _, hk, fun k' => by rw [hall, hi, hHc]; rfl, ?_⟩
   intro D U N w0 H' w a next Q hI hC hW hN _ _ hops hn
   obtain ⟨a1, a2⟩ := Wh6 (fi := first) (ca := captured) (fun y hy => hops y (hargs y hy))
   rw [hxs] at a1 a2
   unfold Oper.wp
   rw [hrun D U w a hops]
   have hp : K1m H (Knd H xs) = K1m H' [] := by rw [hi]; rfl
   refine Calls.mono (hm (Kvx D []) U (Nc D [] w) w w _ (fun w' h' => ?_) (by rw [hp]; exact Wpq hW hN (by simp)) (fun k hk => hk.1) (by simpa using a1) (by have := Wh7 (D := D) [] a2; rw [hi]; exact this)) ?_
   ·exact hst w w' (hI w hW.below) ⟨h'.os, h'.tape, h'.output, h'.size, fun k hk => h'.block k ⟨hk, fun j hj => by simp [Kvx] at hj⟩⟩
   ·rintro e w' ⟨v, D', U', rfl, h1, h2, h3⟩
    rw [hHc] at h2
    have hD' : D' = fun _ => none := by
     funext j
     cases hj : D' j with
     | none => rfl
     | some k => obtain ⟨_, _, B, hB⟩ := h2.own j k hj; simp at hB
    obtain ⟨b1, b2⟩ := Wpr (H := H') hW hN (by simp) (by simp) (by simp) h2 h1
    have hcd : K5e D D' H'.length [] = D := by
     funext b
     simp only [K5e, K0k, hD']
     split
     ·rfl
     ·rename_i hb
      exact (hW.fresh (Nat.le_of_not_lt hb)).symm
    have hca : K1j H' [] [] = H' := by simp [K1j, Wbu]
    rw [hcd] at b1 b2
    rw [hca] at b2
    refine hn v w' D U' b1 b2 (fun _ h _ => h) ?_
    rw [hD'] at h3
    exact h3.onward (N := N) (D' := D) ⟨(fun _ _ h => by cases h), (fun _ h => h), (fun _ _ => rfl), Nat.le_refl _, (fun _ h => .inl h), (fun _ _ cur _ _ h _ => by cases h)⟩
end Go.Pv
namespace Go.Pv
open Go Go.RowKit
def unT : VV → VV
 | .tp _ _ b => .ptr b 0
 | x => x
theorem Wvn {U : W42} {w : World} {D : W41} {x : VV} {v : Value} (h : VRep U w D x v) : VRep U w D (unT x) v := by
 cases x with
 | tp T sz b => obtain ⟨k, cur, hk, _, _, rfl⟩ := h; exact ⟨k, hk, rfl⟩
 | _ => exact h
theorem Wre {P : Program} {I : W40} {o : Oper} {ρ : W44} {H : OH} {id : Nat} {f : KK → Option DV} (h : Good P I o (fun y => unT (ρ y)) H id f) : Good P I o ρ H id f := by
 intro k r hk
 obtain ⟨x, eff, h1, h2, h3⟩ := h k r hk
 refine ⟨x, eff, h1, h2, ?_⟩
 have ok : OpOk P I o (fun y => unT (ρ y)) H id x eff → OpOk P I o ρ H id x eff := fun g D U N w0 H' w a next Q a1 a2 a3 a4 a5 a6 hops hn => g D U N w0 H' w a next Q a1 a2 a3 a4 a5 a6 (fun y hy => Wvn (hops y hy)) hn
 have sq : Wpc P I o (fun y => unT (ρ y)) H x eff → Wpc P I o ρ H x eff := fun g D U N w0 w a next Q a1 a2 a3 hops hn => g D U N w0 w a next Q a1 a2 a3 (fun y hy => Wvn (hops y hy)) hn
 cases eff with
 | call ids Hc => exact fun e => sq (h3 e)
 | ice bs => exact fun e => sq (h3 e)
 | none => exact ok h3
 | new cs => exact ok h3
 | upd b cs => exact ok h3
 | move b cs => exact ok h3
 | newm cs => exact ok h3
 | updm b cs => exact ok h3
 | newB B => exact ok h3
 | setB b B => exact ok h3
def Wxo : VV → VV → Option Bool
 | .dv (.val (.pointer none)), .tp _ _ _ => some false
 | .dv (.val (.pointer none)), .ptr _ _ => some false
 | .tp _ _ _, .dv (.val (.pointer none)) => some false
 | .ptr _ _, .dv (.val (.pointer none)) => some false
 | .tp _ _ b, .tp _ _ c => bif Nat.beq b c then some true else none
 | .tp _ _ b, .ptr c o => bif Nat.beq b c && Nat.beq o 0 then some true else none
 | .ptr c o, .tp _ _ b => bif Nat.beq b c && Nat.beq o 0 then some true else none
 | .ptr b o, .ptr c q => bif Nat.beq b c && Nat.beq o q then some true else none
 | _, _ => none
theorem Wvo {x y : VV} {c : Bool} (h : Wxo x y = some c) {U : W42} {w : World} {D : W41} {u v : Value} (hx : VRep U w D x u) (hy : VRep U w D y v) :
  (c = false ∧ ∃ p q, u = .pointer p ∧ v = .pointer q ∧ (p = none ∧ q.isSome = true ∨ p.isSome = true ∧ q = none)) ∨ (c = true ∧ ∃ a, u = .pointer (some a) ∧ v = .pointer (some a)) := by
 unfold Wxo at h
 split at h
 ·cases h
  obtain ⟨k, cur, _, _, _, rfl⟩ := hy
  have := Ksd hx; subst this
  exact .inl ⟨rfl, _, _, rfl, rfl, .inl ⟨rfl, rfl⟩⟩
 ·cases h
  obtain ⟨k, _, rfl⟩ := hy
  have := Ksd hx; subst this
  exact .inl ⟨rfl, _, _, rfl, rfl, .inl ⟨rfl, rfl⟩⟩
 ·cases h
  obtain ⟨k, cur, _, _, _, rfl⟩ := hx
  have := Ksd hy; subst this
  exact .inl ⟨rfl, _, _, rfl, rfl, .inr ⟨rfl, rfl⟩⟩
 ·cases h
  obtain ⟨k, _, rfl⟩ := hx
  have := Ksd hy; subst this
  exact .inl ⟨rfl, _, _, rfl, rfl, .inr ⟨rfl, rfl⟩⟩
 ·rename_i b _ _ c'
  cases hb : Nat.beq b c' with
  | false => rw [hb] at h; cases h
  | true =>
   rw [hb] at h; cases h
   obtain rfl := Nat.eq_of_beq_eq_true hb
   obtain ⟨k, cur, hk, _, _, rfl⟩ := hx
   obtain ⟨k', cur', hk', _, _, rfl⟩ := hy
   rw [hk] at hk'; cases hk'
   exact .inr ⟨rfl, _, rfl, rfl⟩
 ·rename_i b c' q
  cases hb : Nat.beq b c' && Nat.beq q 0 with
  | false => rw [hb] at h; cases h
  | true =>
   rw [hb] at h; cases h
   rw [Bool.and_eq_true] at hb
   obtain rfl := Nat.eq_of_beq_eq_true hb.1
   obtain rfl := Nat.eq_of_beq_eq_true hb.2
   obtain ⟨k, cur, hk, _, _, rfl⟩ := hx
   obtain ⟨k', hk', rfl⟩ := hy
   rw [hk] at hk'; cases hk'
   exact .inr ⟨rfl, _, rfl, rfl⟩
 ·rename_i c' q _ _ b
  cases hb : Nat.beq b c' && Nat.beq q 0 with
  | false => rw [hb] at h; cases h
  | true =>
   rw [hb] at h; cases h
   rw [Bool.and_eq_true] at hb
   obtain rfl := Nat.eq_of_beq_eq_true hb.1
   obtain rfl := Nat.eq_of_beq_eq_true hb.2
   obtain ⟨k', hk', rfl⟩ := hx
   obtain ⟨k, cur, hk, _, _, rfl⟩ := hy
   rw [hk] at hk'; cases hk'
   exact .inr ⟨rfl, _, rfl, rfl⟩
 ·rename_i b q c' q'
  cases hb : Nat.beq b c' && Nat.beq q q' with
  | false => rw [hb] at h; cases h
  | true =>
   rw [hb] at h; cases h
   rw [Bool.and_eq_true] at hb
   obtain rfl := Nat.eq_of_beq_eq_true hb.1
   obtain rfl := Nat.eq_of_beq_eq_true hb.2
   obtain ⟨k, hk, rfl⟩ := hx
   obtain ⟨k', hk', rfl⟩ := hy
   rw [hk] at hk'; cases hk'
   exact .inr ⟨rfl, _, rfl, rfl⟩
 ·cases h
def Wvp : VV → Bool
 | .dv (.val (.pointer none)) => true
 | _ => false
def binP (P : Program) (ρ : W44) (o : Oper) (b : BinOp) (T : TypeId) (x y : Operand) (k : KK) : Option DV :=
 match Wxo (ρ x) (ρ y) with
 | some c => match P.underlying T with
  | some (.pointer te) => match P.info? te with
   | some _ => bif Wvp (ρ x) then none else match b with
    | .eql => k (.dv (.val (.bool c))) .none
    | .neq => k (.dv (.val (.bool (!c)))) .none
    | _ => none
   | none => none
  | _ => none
 | none => binE P ρ o b T x y k
theorem Wvq {P : Program} {I : W40} {ρ : W44} {o : Oper} {b : BinOp} {T ty : TypeId} {x y : Operand} {H : OH} {id : Nat} (ho : o.op = .binOp b T x y ty) : Good P I o ρ H id (binP P ρ o b T x y) := by
 intro k r h
 unfold binP at h
 split at h
 case h_2 hp =>
  obtain ⟨x', e', h1, h2, h3⟩ := Wvi (P := P) (I := I) (ρ := ρ) (H := H) (id := id) ho k r h
  exact ⟨x', e', h1, fun k' => by simp only [binP, hp]; exact h2 k', h3⟩
 case h_1 c hp =>
 split at h <;> try (cases h; done)
 rename_i te hT
 split at h <;> try (cases h; done)
 rename_i j hj
 cases hn : Wvp (ρ x) with
 | true => rw [hn] at h; cases h
 | false =>
  rw [hn] at h
  simp only [cond_false] at h
  have key : ∀ (w : World) (U : W42) (D : W41) (a : Act), (∀ y ∈ o.op.operands, VRep U w D (ρ y) (a.eval y)) →
    (binOp .eql T (a.eval x) (a.eval y)).run P w = .ok (.bool c) w ∧ (binOp .neq T (a.eval x) (a.eval y)).run P w = .ok (.bool (!c)) w ∧ ∃ p q, a.eval x = .pointer p ∧ a.eval y = .pointer q := by
   intro w U D a hops
   have hx := hops x (by simp [ho, Op.operands])
   have hy := hops y (by simp [ho, Op.operands])
   have hpt : P.pointee T = te := by simp [Program.pointee, hT]
   rcases Wvo hp hx hy with ⟨rfl, p, q, e1, e2, h3⟩ | ⟨rfl, ad, e1, e2⟩
   ·rcases h3 with ⟨rfl, _⟩ | ⟨hs, rfl⟩
    ·exfalso
     rw [e1] at hx
     unfold Wxo at hp
     split at hp <;> simp_all [Wvp]
     all_goals (obtain ⟨k, _, h⟩ := hx; simp at h)
    ·have r1 := run_eql_pointer_nil (P := P) w T p (by rw [hpt]; exact hT)
     have r2 := run_neq_pointer_nil (P := P) w T p (by rw [hpt]; exact hT)
     have : p.isNone = false := by cases p <;> simp_all
     rw [this] at r1 r2
     exact ⟨by rw [e1, e2]; exact r1, by rw [e1, e2]; exact r2, _, _, e1, e2⟩
   ·exact ⟨by rw [e1, e2]; exact run_eql_ptr_same w ad hT hj, by rw [e1, e2]; exact Lib.run_neq_ptr_same w ad hT hj, _, _, e1, e2⟩
  have fin : ∀ (v : Bool), (∀ (w : World) (U : W42) (D : W41) (a : Act), (∀ y ∈ o.op.operands, VRep U w D (ρ y) (a.eval y)) → (binOp b T (a.eval x) (a.eval y)).run P w = .ok (.bool v) w ∧ ∃ p q, a.eval x = .pointer p ∧ a.eval y = .pointer q) → OpOk P I o ρ H id (.dv (.val (.bool v))) .none := by
   intro v hv
   refine Kd4 fun D U w a hops => ⟨.bool v, ?_, .val _⟩
   obtain ⟨h1, p, q, e1, e2⟩ := hv w U D a hops
   rw [e1, e2] at h1
   simp only [execOp, ho, e1, e2, Sem.run_bind, h1, Result.andThen_ok, Sem.run_pure, eqGuard]
   cases b <;> simp_all
  split at h <;> try (cases h; done)
  ·exact ⟨_, _, h, fun k' => by simp only [binP, hp, hT, hj, hn, cond_false], fin _ fun w U D a hops => ⟨(key w U D a hops).1, (key w U D a hops).2.2⟩⟩
  ·exact ⟨_, _, h, fun k' => by simp only [binP, hp, hT, hj, hn, cond_false], fin _ fun w U D a hops => ⟨(key w U D a hops).2.1, (key w U D a hops).2.2⟩⟩
def Ws1 (P : Program) (ρ : W44) (S T : TypeId) (x : Operand) (k : KK) : Option DV :=
 match ρ x with
 | .tp T0 sz b => match P.underlying S, P.underlying T with
  | some (.pointer t), some .unsafePointer => match P.info? t with
   | some j => bif !(Nat.beq j.size 0) && Nat.blt 0 sz then k (.tp T0 sz b) .none else none
   | none => none
  | some .unsafePointer, some (.pointer u) => match P.info? u with
   | some _ => bif liesAt P P.depth T0 (sz / P.cellsOf T0) 0 u 1 then k (.tp T0 sz b) .none else none
   | none => none
  | _, _ => none
 | _ => none
theorem Wrf {w : World} {k : Nat} {cur : Array Value} {T : TypeId} {f : Nat × Nat} (h : w.heap[k]? = some (.cells cur T f)) : w.shape? k = some (T, cur.size) := by simp [World.shape?, h]
theorem Ws2 {P : Program} {I : W40} {ρ : W44} {o : Oper} {S T : TypeId} {x : Operand} {H : OH} {id : Nat} (ho : o.op = .convert S T x) : Good P I o ρ H id (Ws1 P ρ S T x) := by
 intro k r h
 unfold Ws1 at h
 split at h <;> try (cases h; done)
 rename_i T0 sz b hx
 split at h <;> try (cases h; done)
 ·rename_i t hS hT
  split at h <;> try (cases h; done)
  rename_i j hj
  cases hq : !(Nat.beq j.size 0) && Nat.blt 0 sz with
  | false => rw [hq] at h; cases h
  | true =>
   rw [hq] at h
   simp only [cond_true] at h
   refine ⟨_, _, h, fun k' => by simp only [Ws1, hx, hS, hT, hj, hq, cond_true], Kd4 fun D U w a hops => ?_⟩
   have h1 := hops x (by simp [ho, Op.operands])
   rw [hx] at h1
   obtain ⟨kk, cur, hk, hh, hs, hax⟩ := h1
   obtain ⟨f0, hh0⟩ := hh
   rw [Bool.and_eq_true] at hq
   have hj0 : j.size ≠ 0 := fun e => by have := hq.1; rw [e] at this; simp at this
   have hz : 0 < sz := Nat.le_of_ble_eq_true hq.2
   have hr := Lib.run_to_unsafe (P := P) w (src := S) (dst := T) ⟨kk, 0, none⟩ hS hT hj hj0 (Wrf hh0) (by simpa [hs] using hz)
   exact ⟨_, by simp [execOp, ho, hax, hr], kk, cur, hk, ⟨f0, hh0⟩, hs, rfl⟩
 ·rename_i u hS hT
  split at h <;> try (cases h; done)
  rename_i j hj
  cases hq : liesAt P P.depth T0 (sz / P.cellsOf T0) 0 u 1 with
  | false => rw [hq] at h; cases h
  | true =>
   rw [hq] at h
   simp only [cond_true] at h
   refine ⟨_, _, h, fun k' => by simp only [Ws1, hx, hS, hT, hj, hq, cond_true], Kd4 fun D U w a hops => ?_⟩
   have h1 := hops x (by simp [ho, Op.operands])
   rw [hx] at h1
   obtain ⟨kk, cur, hk, hh, hs, hax⟩ := h1
   obtain ⟨f0, hh0⟩ := hh
   have hr := Lib.run_from_unsafe (P := P) w (src := S) (dst := T) ⟨kk, 0, none⟩ hS hT hj (Wrf hh0) (by rw [hs]; exact hq)
   exact ⟨_, by simp [execOp, ho, hax, hr], kk, cur, hk, ⟨f0, hh0⟩, hs, rfl⟩
theorem Wvr : (Extern.allNextRows.lookup "internal/abi.NoEscape").isNone = true := by kernel_rfl
theorem Wxp : (Extern.allNextRows.lookup "").isNone = true := by kernel_rfl
theorem Wxq : (Extern.allGenericRows.lookup "internal/abi.NoEscape").isNone = true := by kernel_rfl
theorem Wxr : (Extern.allTypedRows.lookup "internal/abi.NoEscape").isNone = true := by kernel_rfl
theorem Wxs : Extern.allRows.lookup "internal/abi.NoEscape" = some Extern.AbiNoEscape.same := by kernel_rfl
def isTp : VV → Bool
 | .tp _ _ _ => true
 | _ => false
def Wy5 (P : Program) (ρ : W44) (c : Call) : Bool := match Wa1 ρ c with
 | some (g, first, captured) => Nat.beq first.size 0 && Nat.beq captured.size 0 && (match P.funcs[g]? with
  | some fn => fn.body.isNone && fn.name == "internal/abi.NoEscape" && (fn.origin == fn.name || fn.origin == "")
  | none => false)
 | none => false
def Wxt (P : Program) (ρ : W44) (c : Call) : Bool := match c.args.toList with
 | [x] => isTp (ρ x) && Wy5 P ρ c
 | _ => false
def Wnn (ρ : W44) (c : Call) (k : KK) : Option DV := match c.args.toList with
 | [x] => k (ρ x) .none
 | _ => none
theorem Ws3 {P : Program} {I : W40} {ρ : W44} {o : Oper} {c : Call} {H : OH} {id : Nat} (ho : o.op = .call c) (hn : Wxt P ρ c = true) : Good P I o ρ H id (Wnn ρ c) := by
 intro k r h
 unfold Wnn at h
 split at h <;> try (cases h; done)
 rename_i x hx
 have hxm : x ∈ o.op.operands := by
  rw [ho]; simp only [Op.operands, Call.operands]
  refine Array.mem_append.2 (.inr ?_)
  have : x ∈ c.args.toList := by rw [hx]; simp
  simpa using this
 refine ⟨_, _, h, fun k' => by simp only [Wnn, hx], Kd4 fun D U w a hops => ⟨a.eval x, ?_, hops x hxm⟩⟩
 simp only [Wxt, hx, Bool.and_eq_true] at hn
 have hn := hn.2
 unfold Wy5 at hn
 split at hn <;> try (cases hn; done)
 rename_i g first captured hc
 simp only [Bool.and_eq_true] at hn
 obtain ⟨⟨h1, h2⟩, h4⟩ := hn
 split at h4 <;> try (cases h4; done)
 rename_i fn hfn
 simp only [Bool.and_eq_true] at h4
 obtain ⟨h4, h5⟩ := h4
 have hname : fn.name = "internal/abi.NoEscape" := by simpa using h4.2
 have hb := h4.1
 have horig : fn.origin = "internal/abi.NoEscape" ∨ fn.origin = "" := by
  rw [Bool.or_eq_true] at h5
  rcases h5 with h | h
  ·left; rw [← hname]; simpa using h
  ·right; simpa using h
 have hfirst : first = #[] := Array.eq_empty_of_size_eq_zero (Nat.eq_of_beq_eq_true h1)
 have hcap : captured = #[] := Array.eq_empty_of_size_eq_zero (Nat.eq_of_beq_eq_true h2)
 subst hfirst
 subst hcap
 have hargs : c.args = #[x] := by have : c.args = c.args.toList.toArray := by simp
                                  rw [this, hx]
 have hfind : Extern.find fn = some Extern.AbiNoEscape.same := by
  simp only [Extern.find, hname, Wxs, Option.isNone_iff_eq_none.1 Wxq, Option.isNone_iff_eq_none.1 Wxr]
  rfl
 have hnext : Extern.findNext fn = none := by
  rcases horig with e | e
  ·simp only [Extern.findNext, hname, e, Option.isNone_iff_eq_none.1 Wvr]; rfl
  ·simp only [Extern.findNext, hname, e, Option.isNone_iff_eq_none.1 Wvr, Option.isNone_iff_eq_none.1 Wxp]; rfl
 have hrun := run_callFunc_standIn (P := P) hfn (by rw [hname]; decide) hb hnext hfind #[a.eval x] w
 unfold Wa1 at hc
 cases hcal : c.callee with
 | invoke r m => simp [hcal] at hc
 | builtin b => simp [hcal] at hc
 | value f =>
  simp only [hcal] at hc
  have hfop : f ∈ o.op.operands := by simp [ho, Op.operands, Call.operands, hcal]
  have hrf := hops f hfop
  cases hfl : (ρ f).flat with
  | none => simp [hfl] at hc
  | some fv =>
   have hev := VV.flat_rep hfl hrf
   simp only [hfl] at hc
   cases fv <;> try (simp at hc; done)
   rename_i fn' fi ca
   cases fn' <;> simp at hc
   rename_i g'
   obtain ⟨rfl, rfl, rfl⟩ := hc
   simp [execOp, ho, resolve, hcal, hev, Deferred.ofValue, invoke, hargs, hrun, Lib.run_noEscape]
end Go.Pv
namespace Go.Pv
open Go Go.RowKit
def Kjh (s : ByteArray) : List DV := s.data.toList.map fun b => .val (.int .u8 b.toNat)
theorem Kzv (s : ByteArray) : (Kjh s).length = s.size := by simp [Kjh]
theorem Weq (s : ByteArray) {U : W42} {w : World} (i : Nat) (x : DV) (v : Value) (h1 : (Kjh s)[i]? = some x) (h2 : (Lib.strCells s)[i]? = some v) : DRep U w x v := by
 simp only [Kjh, Lib.strCells, List.getElem?_map, Option.map_eq_some_iff] at h1 h2
 obtain ⟨b, hb, rfl⟩ := h1
 obtain ⟨b', hb', rfl⟩ := h2
 rw [hb] at hb'; cases hb'
 exact .val _
def K2d (P : Program) (ρ : W44) (H : OH) (id : Nat) (c : Call) (k : KK) : Option DV :=
 match c.args.toList, c.argTypes.toList with
 | [s, x], [t, u] => match P.underlying t, P.underlying u with
  | some (.slice e), some .string => match P.info? e with
   | some i => match i.zero with
    | some (.int .u8 0) => bif Nat.beq i.size 1 && Nat.beq i.bytes 1 then match (ρ x).flat with
     | some (.string str) => bif Nat.beq str.size 0 then (match ρ s with | .osl e0 sz0 b of n => k (.osl e0 sz0 b of n) .none | .dv (.val (.slice none 0 0)) => k (.dv (.val (.slice none 0 0))) .none | _ => none) else match ρ s with
      | .osl e0 sz0 b 0 n => match H[b]? with
       | some (some (.cells cs)) => bif Nat.beq e0 e && Nat.beq sz0 1 && Nat.ble n cs.length && Nat.ble (n + str.size) 140737488355328 then k (.osl e 1 id 0 (n + str.size)) (.move b (cs.take n ++ Kjh str)) else none
       | _ => none
      | .dv (.val (.slice none 0 0)) => bif Nat.ble str.size 140737488355328 then k (.osl e 1 id 0 str.size) (.new (Kjh str)) else none
      | _ => none
     | _ => none
     else none
    | _ => none
   | none => none
  | _, _ => none
 | _, _ => none
theorem K0c {P : Program} {o : Oper} {c : Call} (ho : o.op = .call c) (hc : c.callee = .builtin .append) {s x : Operand} {t u : TypeId} (ha : c.args.toList = [s, x]) (ht : c.argTypes.toList = [t, u]) (a : Act) (w w' : World) {v : Value} (h : (Builtin.append_ #[t, u] o.type #[a.eval s, a.eval x]).run P w = .ok v w') :
  (execOp a.eval o).run P w = .ok (.value v) w' := by
 have h1 : c.args = #[s, x] := by have : c.args = c.args.toList.toArray := by simp
                                  rw [this, ha]
 have h2 : c.argTypes = #[t, u] := by have : c.argTypes = c.argTypes.toList.toArray := by simp
                                      rw [this, ht]
 simp [execOp, ho, resolve, hc, invoke, builtin, h1, h2, h]
theorem Wld {P : Program} {I : W40} {ρ : W44} {o : Oper} {c : Call} {H : OH} {id : Nat} (ho : o.op = .call c) (hc : c.callee = .builtin .append) : Good P I o ρ H id (K2d P ρ H id c) := by
 intro k r h
 unfold K2d at h
 split at h <;> try (cases h; done)
 rename_i s x t u ha htl
 split at h <;> try (cases h; done)
 rename_i e hu hu2
 split at h <;> try (cases h; done)
 rename_i i hi
 split at h <;> try (cases h; done)
 rename_i hz
 cases hq : Nat.beq i.size 1 && Nat.beq i.bytes 1 with
 | false => rw [hq] at h; cases h
 | true =>
 rw [hq] at h
 simp only [cond_true] at h
 split at h <;> try (cases h; done)
 rename_i str hstr
 rw [Bool.and_eq_true] at hq
 have hs1 := Nat.eq_of_beq_eq_true hq.1
 have hb1 := Nat.eq_of_beq_eq_true hq.2
 have hqq : (Nat.beq i.size 1 && Nat.beq i.bytes 1) = true := by rw [hq.1, hq.2]; rfl
 have hms : s ∈ o.op.operands := by
  rw [ho]; simp only [Op.operands, Call.operands]
  refine Array.mem_append.2 (.inr ?_)
  have : s ∈ c.args.toList := by rw [ha]; simp
  simpa using this
 have hmx : x ∈ o.op.operands := by
  rw [ho]; simp only [Op.operands, Call.operands]
  refine Array.mem_append.2 (.inr ?_)
  have : x ∈ c.args.toList := by rw [ha]; simp
  simpa using this
 cases hm0 : Nat.beq str.size 0 with
 | true =>
  have hm0' := Nat.eq_of_beq_eq_true hm0
  rw [hm0] at h
  simp only [cond_true] at h
  have zero : ∀ (y : VV), k y .none = some r → (∀ k', K2d P ρ H id c k' = k' y .none) → ρ s = y → (∀ (U : W42) (w : World) (D : W41) (v : Value), VRep U w D y v → ∃ base n cp, v = .slice base n cp ∧ n ≤ cp) → ∃ x eff, k x eff = some r ∧ (∀ k', K2d P ρ H id c k' = k' x eff) ∧ Wk4 P I o ρ H id x eff := by
   intro y hk hk' hs hsl
   refine ⟨y, .none, hk, hk', Kd4 fun D U w a hops => ?_⟩
   have h1 := hops s hms
   rw [hs] at h1
   obtain ⟨base, n, cp, hv, hn⟩ := hsl U w D _ h1
   have hvx := VV.flat_rep hstr (hops x hmx)
   refine ⟨a.eval s, ?_, h1⟩
   refine K0c ho hc ha htl a w w ?_
   rw [hv, hvx]
   have hf := Lib.run_firstCells_string (P := P) w 1 str
   have hsc : Lib.strCells str = [] := List.eq_nil_of_length_eq_zero (by rw [Lib.strCells_length]; exact hm0')
   rw [hm0', hsc] at hf
   cases base with
   | none => simp [Builtin.append_, run_underlying hu, run_underlying hu2, sizeOf, typeInfo, hi, hs1, Builtin.lenOf, hm0', hn, hf]
   | some b => simp [Builtin.append_, run_underlying hu, run_underlying hu2, sizeOf, typeInfo, hi, hs1, Builtin.lenOf, hm0', hn, hf, storeCells]
  split at h <;> try (cases h; done)
  ·rename_i e0 sz0 b of n hs
   exact zero _ h (fun k' => by simp only [K2d, ha, htl, hu, hu2, hi, hz, hqq, cond_true, hstr, hm0, hs]) hs (fun U w D v hv => by
    obtain ⟨kk, cap, cur, _, hcap, _, _, rfl⟩ := hv
    exact ⟨_, _, _, rfl, hcap⟩)
  ·rename_i hs
   exact zero _ h (fun k' => by simp only [K2d, ha, htl, hu, hu2, hi, hz, hqq, cond_true, hstr, hm0, hs]) hs (fun U w D v hv => by
    have := Ksd hv
    exact ⟨_, _, _, this, Nat.le_refl _⟩)
 | false =>
 have hm1 : 1 ≤ str.size := by
  rcases Nat.eq_zero_or_pos str.size with e0 | e0
  ·rw [e0] at hm0; cases hm0
  ·exact e0
 rw [hm0] at h
 simp only [cond_false] at h
 have hsl : (Lib.strCells str).length = str.size := Lib.strCells_length str
 split at h <;> try (cases h; done)
 ·rename_i e0 sz0 b n hs
  split at h <;> try (cases h; done)
  rename_i cs hb
  cases hq3 : Nat.beq e0 e && Nat.beq sz0 1 && Nat.ble n cs.length && Nat.ble (n + str.size) 140737488355328 with
  | false => rw [hq3] at h; cases h
  | true =>
  have hq3' := hq3
  rw [hq3] at h
  simp only [cond_true] at h
  refine ⟨_, _, h, fun k' => by simp only [K2d, ha, htl, hu, hu2, hi, hz, hqq, cond_true, hstr, hm0, cond_false, hs, hb, hq3], ?_⟩
  simp only [Bool.and_eq_true] at hq3'
  obtain ⟨⟨⟨q1, q2⟩, q3⟩, q5⟩ := hq3'
  have q1' := Nat.eq_of_beq_eq_true q1
  have q2' := Nat.eq_of_beq_eq_true q2
  have q3' := Nat.le_of_ble_eq_true q3
  have q5' := Nat.le_of_ble_eq_true q5
  subst q1'
  subst q2'
  intro D U N w0 H' w a next Q hI hC hW hN hid hl hops hn
  have hvs := hops s hms
  rw [hs] at hvs
  obtain ⟨kk, cap, cur, hk, hcap, hh0, hs0, hvs⟩ := hvs
  obtain ⟨n1, n3, B, g4⟩ := hW.own b kk hk
  have eB := hC b _ _ hb g4
  subst eB
  obtain ⟨n2, cur1, T, g3, g5, g6⟩ := hW.hold b kk cs hk g4
  obtain ⟨f0, hh0⟩ := hh0
  rw [hh0] at g3
  cases g3
  have hvx := VV.flat_rep hstr (hops x hmx)
  have hbl : b < H'.length := (List.getElem?_eq_some_iff.1 g4).1
  have hgive := hW.give b ⟨_, g4⟩
  have hsetl : (H'.set b (some Blk.gone)).length = H'.length := by simp
  have htk : ∀ (j : Nat) (x : DV), (cs.take n)[j]? = some x → ∃ u, cur[j]? = some u ∧ DRep U w x u := by
   intro j x hx
   rw [List.getElem?_take] at hx
   split at hx <;> try (cases hx; done)
   have hlt : j < cur.size := by have := (List.getElem?_eq_some_iff.1 hx).1; omega
   exact ⟨cur[j], Array.getElem?_eq_getElem hlt, g6 j x _ hx (Array.getElem?_eq_getElem hlt)⟩
  unfold Oper.wp
  by_cases hroom : n + str.size ≤ cap
  ·have hr := Lib.run_append_room_string (P := P) w t u o.type e0 i hu hu2 hi hs1 kk n cap cur hh0 str hroom (by omega)
   rw [K0c ho hc ha htl a w _ (by rw [hvs, hvx]; exact hr)]
   generalize hrow : (cur.toList.take n ++ Lib.strCells str ++ cur.toList.drop (n + str.size)).toArray = row
   have hrs : row.size = cur.size := by rw [← hrow]; simp [hsl]; omega
   have hon0 := Kqm (N := N) (D := D) (w := w) n2 row (fun c T' f h => by rw [hh0] at h; cases h; exact hrs)
   have hon : Kei N D U w (updD D id kk) U (w.setRow kk row) :=
    ⟨fun b' k' hb' => by simp only [updD]; split; · subst_vars; rw [hid] at hb'; cases hb'
                         ·exact hb', hon0.set, hon0.keep, hon0.size, hon0.back, hon0.siz⟩
   refine hn _ _ _ _ hon ?_ (fun b' hb' hne => by simp [updD, hne, hb']) ⟨kk, cap, row, by simp [updD], hroom, ⟨_, setRow_heap w kk cur row e0 _ hh0⟩, by rw [hrs]; exact hs0, rfl⟩
   refine WRel.add (H1 := H'.set b (some .gone)) hgive hon (K4r hW.below n1 _) n1 hid (by rw [hsetl]; exact hl) (setRow_heap w kk cur row e0 _ hh0) n2 (fun b' _ => .inl rfl) ?_ ?_ ?_
   ·intro b' j us hb' hH' hv'
    have hne : b' ≠ b := by
     intro e; subst e; simp [List.getElem?_set, hbl] at hH'; subst hH'; cases hv'
    rw [List.getElem?_set_ne (Ne.symm hne)] at hH'
    have hjk : j ≠ kk := fun e => hne (hW.inj b' b kk us _ hH' g4 hv' rfl (e ▸ hb') hk)
    exact ⟨hjk, setRow_other w kk j row hjk⟩
   ·rw [hrs]; simp [Kzv]; omega
   ·intro j x v e1 e2
    rw [← hrow] at e2
    simp only [List.getElem?_toArray] at e2
    have lt1 : (cs.take n).length = n := by simp; omega
    have lt2 : (cur.toList.take n).length = n := by simp; omega
    rw [List.append_assoc, List.getElem?_append, lt2] at e2
    rw [List.getElem?_append, lt1] at e1
    split at e1
    ·rename_i hlt
     rw [if_pos hlt] at e2
     obtain ⟨u, hu', hr'⟩ := htk j x e1
     rw [List.getElem?_take, if_pos hlt] at e2
     have : u = v := by
      have e3 : cur[j]? = some v := by simpa using e2
      rw [hu'] at e3; simpa using e3
     rw [← this]
     exact hr'.keep hon.set hon.keep hon.size
    ·rename_i hlt
     rw [if_neg hlt] at e2
     have hj : j - n < (Lib.strCells str).length := by have := (List.getElem?_eq_some_iff.1 e1).1; rw [Kzv] at this; omega
     rw [List.getElem?_append_left hj] at e2
     exact Weq str _ x v e1 e2
  ·have holds : ∀ j u, (cur.toList.take n)[j]? = some u → w.cell? ((⟨kk, 0, none⟩ : Addr).add j) = some u := by
    intro j u hu'
    rw [List.getElem?_take] at hu'
    split at hu' <;> try (cases hu'; done)
    have e3 : cur[j]? = some u := by simpa using hu'
    rw [Kql, Nat.zero_add]
    simp [World.cell?, hh0, e3]
   have hlo : (cur.toList.take n).length = n * i.size := by rw [hs1]; simp; omega
   have hge := grownCap_ge w (n + str.size) cap e0
   have hr := Lib.run_append_grow_string (P := P) w t u o.type e0 i (.int .u8 0) hu hu2 hi hz ⟨kk, 0, none⟩ n cap _ hlo holds str (by omega) (by omega) (growslice_fits (by omega) (by rw [hb1]; omega))
   rw [K0c ho hc ha htl a w _ (by rw [hvs, hvx]; exact hr)]
   generalize hrow : ((cur.toList.take n).toArray ++ (Lib.strCells str).toArray ++ Builtin.zeroCells (Value.int .u8 0).cells (grownCap w (n + str.size) cap e0 - (n + str.size))) = row
   have hlo' : (cur.toList.take n).length = n := by rw [hlo, hs1]; omega
   have hrs : row.size = grownCap w (n + str.size) cap e0 := by
    rw [← hrow]
    simp only [Array.size_append, List.size_toArray, size_zeroCells, hlo', hsl]
    simp [Value.cells]; omega
   obtain ⟨r1, r2, r3⟩ := Wgv (P := P) (I := I) (id := id) (n := n + str.size) (cap := grownCap w (n + str.size) cap e0) (sz := 1) (e := e0) (cs := cs.take n ++ Kjh str) (vs := row) hgive hN hid (by rw [hsetl]; exact hl) hge (by rw [hrs]; omega) (by rw [hrs]; simp [Kzv]; omega) (by
    intro j x v e1 e2
    rw [← hrow, ← Array.getElem?_toList] at e2
    simp only [Array.toList_append, List.append_assoc] at e2
    have lt1 : (cs.take n).length = n := by simp; omega
    rw [List.getElem?_append, hlo'] at e2
    rw [List.getElem?_append, lt1] at e1
    split at e1
    ·rename_i hlt
     rw [if_pos hlt] at e2
     obtain ⟨u, hu', hr'⟩ := htk j x e1
     rw [List.getElem?_take, if_pos hlt] at e2
     have : u = v := by
      have e3 : cur[j]? = some v := by simpa using e2
      rw [hu'] at e3; simpa using e3
     rw [← this]
     exact hr'
    ·rename_i hlt
     rw [if_neg hlt] at e2
     have hj : j - n < (Lib.strCells str).length := by have := (List.getElem?_eq_some_iff.1 e1).1; rw [Kzv] at this; omega
     rw [List.getElem?_append_left (by simpa using hj)] at e2
     exact Weq str _ x v e1 (by simpa using e2))
   exact hn _ _ _ _ r1 r2 (fun b' hb' hne => by simp [updD, hne, hb']) r3
 ·rename_i hs
  cases hq3 : Nat.ble str.size 140737488355328 with
  | false => rw [hq3] at h; cases h
  | true =>
  rw [hq3] at h
  simp only [cond_true] at h
  refine ⟨_, _, h, fun k' => by simp only [K2d, ha, htl, hu, hu2, hi, hz, hqq, cond_true, hstr, hm0, cond_false, hs, hq3], ?_⟩
  have q5' := Nat.le_of_ble_eq_true hq3
  intro D U N w0 H' w a next Q hI hC hW hN hid hl hops hn
  have hvs := hops s hms
  rw [hs] at hvs
  have hvs' := Ksd hvs
  have hvx := VV.flat_rep hstr (hops x hmx)
  have hge := grownCap_ge w str.size 0 e
  have hr := run_append_nil_string (P := P) w t u o.type e i (.int .u8 0) hu hu2 hi hz str (by omega) (by omega) (by rw [hb1]; omega)
  unfold Oper.wp
  rw [K0c ho hc ha htl a w _ (by rw [hvs', hvx]; exact hr)]
  generalize hrow : (str.data.map (fun b => Value.int .u8 b.toNat) ++ Builtin.zeroCells (Value.int .u8 0).cells (grownCap w str.size 0 e - str.size)) = row
  have hdl : (str.data.map (fun b => Value.int .u8 b.toNat)).size = str.size := by simp
  have hrs : row.size = grownCap w str.size 0 e := by
   rw [← hrow]
   simp only [Array.size_append, size_zeroCells, hdl]
   simp [Value.cells]; omega
  obtain ⟨r1, r2, r3⟩ := Wgv (P := P) (I := I) (id := id) (n := str.size) (cap := grownCap w str.size 0 e) (sz := 1) (e := e) (cs := Kjh str) (vs := row) hW hN hid hl hge (by rw [hrs]; omega) (by rw [hrs]; simp [Kzv]; omega) (by
   intro j x v e1 e2
   rw [← hrow, ← Array.getElem?_toList] at e2
   simp only [Array.toList_append] at e2
   have hj : j < str.size := by have := (List.getElem?_eq_some_iff.1 e1).1; rw [Kzv] at this; exact this
   rw [List.getElem?_append_left (by simpa using hj)] at e2
   exact Weq str _ x v e1 (by simpa [Lib.strCells] using e2))
  exact hn _ _ _ _ r1 r2 (fun b' hb' hne => by simp [updD, hne, hb']) r3
end Go.Pv
namespace Go.Pv
open Go Go.RowKit
def Krz (a b : ByteArray) : Bool := a.data.toList == b.data.toList
theorem Wvs (a b : ByteArray) : (a == b) = (a.data == b.data) := by cases a; cases b; rfl
theorem Wno {a b : ByteArray} : Krz a b = (a == b) := by
 rw [Wvs]
 unfold Krz
 by_cases h : a.data = b.data
 ·rw [h]; simp
 ·have : ¬ a.data.toList = b.data.toList := fun e => h (by apply Array.ext'; exact e)
  have h1 : (a.data.toList == b.data.toList) = false := by simpa using this
  have h2 : (a.data == b.data) = false := by simpa using h
  rw [h1, h2]
theorem Wa4 {a b : ByteArray} (h : Krz a b = true) : a = b := by
 unfold Krz at h
 cases a; cases b
 simp only [beq_iff_eq] at h
 simp only [ByteArray.mk.injEq]
 exact Array.ext' h
def dget : List (ByteArray × DV) → ByteArray → Option DV
 | [], _ => none
 | (a, d) :: l, s => bif Krz s a then some d else dget l s
def dset : List (ByteArray × DV) → ByteArray → DV → List (ByteArray × DV)
 | [], s, x => [(s, x)]
 | (a, d) :: l, s, x => bif Krz s a then (s, x) :: l else (a, d) :: dset l s x
def optV (o : Option DV) (f : W5g) (g : Option DV) : Option DV := match o with | some d => f d | none => g
theorem Wh8 {U : W42} {w : World} {s : ByteArray} : ∀ (kvs : List (ByteArray × DV)) (es : List MapEntry) (i : Nat), es.length = kvs.length → (∀ (j : Nat) (x : ByteArray × DV) (e : MapEntry), kvs[j]? = some x → es[j]? = some e → e.key = .string x.1 ∧ DRep U w x.2 e.val) →
  (dget kvs s = none ∧ Instr.findNow .string (.string s) es i = some none ∧ ∀ x, dset kvs s x = kvs ++ [(s, x)]) ∨
  ∃ p d e, dget kvs s = some d ∧ es[p]? = some e ∧ e.key = .string s ∧ Instr.findNow .string (.string s) es i = some (some (i + p, e.val)) ∧ DRep U w d e.val ∧ p < kvs.length ∧ ∀ x, dset kvs s x = kvs.set p (s, x)
 | [], [], i, _, _ => .inl ⟨rfl, rfl, fun _ => rfl⟩
 | [], e :: es, i, h, _ => by simp at h
 | x :: kvs, [], i, h, _ => by simp at h
 | (a, d) :: kvs, e :: es, i, h, hr => by
  obtain ⟨h1, h2⟩ := hr 0 (a, d) e rfl rfl
  have hs : Instr.sameNow .string (.string s) e.key = some (Krz s a) := by rw [h1, Wno]; rfl
  cases hk : Krz s a with
  | true =>
   right
   have hsa : s = a := Wa4 hk
   refine ⟨0, d, e, by simp only [dget, hk, cond_true], rfl, by rw [h1, hsa], ?_, h2, by simp, fun x => by simp only [dset, hk, cond_true, List.set_cons_zero]⟩
   simp only [Instr.findNow, hs, hk, Nat.add_zero]
  | false =>
   rcases Wh8 (s := s) kvs es (i + 1) (by simpa using h) (fun j x e' e1 e2 => hr (j + 1) x e' (by simpa using e1) (by simpa using e2)) with ⟨g1, g2, g3⟩ | ⟨p, d', e', g1, g2, g3, g4, g5, g6, g7⟩
   ·left
    refine ⟨by simp only [dget, hk, cond_false, g1], ?_, fun x => by simp only [dset, hk, cond_false, g3, List.cons_append]⟩
    simp only [Instr.findNow, hs, hk, g2]
   ·right
    refine ⟨p + 1, d', e', by simp only [dget, hk, cond_false, g1], by simpa using g2, g3, ?_, g5, by simp; omega, fun x => by simp only [dset, hk, cond_false, g7, List.set_cons_succ]⟩
    simp only [Instr.findNow, hs, hk, g4]
    rw [show i + 1 + p = i + (p + 1) by omega]
theorem Kx2 {P : Program} {kt : TypeId} (h : P.underlying kt = some .string) (e : Bool) (s : ByteArray) (w : World) : (Instr.checkKey e 10000 kt (.string s)).run P w = .ok () w := by
 rw [show (10000 : Nat) = 9999 + 1 from rfl, Instr.checkKey]
 simp only [Sem.run_bind, run_underlying h, Result.andThen_ok]
 rfl
theorem K74 {P : Program} {kt : TypeId} (h : P.underlying kt = some .string) {s : ByteArray} {l : List MapEntry} {r : Option (Nat × Value)} (hf : Instr.findNow .string (.string s) l 0 = some r) (w : World) : (Instr.findKey kt (.string s) l).run P w = .ok r w := by
 unfold Instr.findKey
 simp only [Sem.run_bind, run_underlying h, Result.andThen_ok, hf]
 rfl
theorem Wa5 {P : Program} {k : Nat} {es : Array MapEntry} {cl : Nat} {w : World} (h : w.heap[k]? = some (.map es cl)) : (getObj k).run P w = .ok (.map es cl) w := by
 simp [getObj, Sem.run, h]
def Ws4 (l : Lk) (d : DV) (k : W5g) : Option DV := Wdg [l] 0 [d] fun ds => match ds with | [x] => k x | _ => none
theorem Wxu {l : Lk} {d : DV} {k : W5g} {r : DV} (h : Ws4 l d k = some r) : ∃ x, k x = some r ∧ (∀ k', Ws4 l d k' = k' x) ∧ ∀ (U : W42) (w : World) (v : Value), DRep U w d v → DRep U w x v := by
 unfold Ws4 at h
 obtain ⟨ds, h1, h2, h3⟩ := Wk7 [l] 0 [d] _ r h
 split at h1 <;> try (cases h1; done)
 rename_i x
 refine ⟨x, h1, fun k' => by unfold Ws4; rw [h2], fun U w v hr => ?_⟩
 obtain ⟨y, hy, hh⟩ := h3 0 x rfl
 simp at hy
 subst hy
 exact hh U w v hr
def Wb8 (ok b : Bool) (k : KK) (x : DV) : Option DV := bif ok then k (.dv (Wpa [x, .val (.bool b)])) .none else k (.dv x) .none
def K97 (P : Program) (ρ : W44) (H : OH) (t : TypeId) (m i : Operand) (ok : Bool) (k : KK) : Option DV :=
 match P.underlying t with
 | some (.map kt et) => match P.underlying kt, K71 P 8 et, prun P (zeroValue et) with
  | some .string, some [l], some z => match ρ m with
   | .mp b => match H[b]? with
    | some (some (.dict kvs)) => match ρ i with
     | .dv (.val (.string s)) => optV (dget kvs s) (fun d => Ws4 l d (Wb8 ok true k)) (Wb8 ok false k (.val z))
     | _ => none
    | _ => none
   | _ => none
  | _, _, _ => none
 | _ => none
theorem Wxv {U : W42} {w : World} {x : DV} {v : Value} {b : Bool} (h : DRep U w x v) : DRep U w (Wpa [x, .val (.bool b)]) (.tuple #[v, .bool b]) := by
 refine Whp rfl fun i d u e1 e2 => ?_
 match i, e1, e2 with
 | 0, e1, e2 => simp at e1 e2; subst e1; subst e2; exact h
 | 1, e1, e2 => simp at e1 e2; subst e1; subst e2; exact .val _
 | i + 2, e1, e2 => simp at e1
theorem Wnp {P : Program} {I : W40} {ρ : W44} {o : Oper} {t : TypeId} {m i : Operand} {ok : Bool} {H : OH} {id : Nat} (ho : o.op = .lookup t m i ok) : Good P I o ρ H id (K97 P ρ H t m i ok) := by
 intro k r h
 unfold K97 at h
 split at h <;> try (cases h; done)
 rename_i kt et hu
 split at h <;> try (cases h; done)
 rename_i l z hkt hlv hz
 split at h <;> try (cases h; done)
 rename_i b hm
 split at h <;> try (cases h; done)
 rename_i kvs hb
 split at h <;> try (cases h; done)
 rename_i s hi
 have base : ∀ k', K97 P ρ H t m i ok k' = optV (dget kvs s) (fun d => Ws4 l d (Wb8 ok true k')) (Wb8 ok false k' (.val z)) := fun k' => by simp only [K97, hu, hkt, hlv, hz, hm, hb, hi]
 have key : ∀ (x : DV) (bb : Bool), Wb8 ok bb k x = some r → (∀ k', K97 P ρ H t m i ok k' = Wb8 ok bb k' x) →
   (∀ (U : W42) (w : World) (es : Array MapEntry) (cl kk : Nat), w.heap[kk]? = some (.map es cl) → K9z U w kvs es → ∃ v, (Instr.lookup t (.map (some kk)) (.string s) ok).run P w = .ok (if ok then .tuple #[v, .bool bb] else v) w ∧ DRep U w x v) →
   ∃ x' eff, k x' eff = some r ∧ (∀ k', K97 P ρ H t m i ok k' = k' x' eff) ∧ Wk4 P I o ρ H id x' eff := by
  intro x bb hx hall hsem
  have fin : ∀ (y : DV), (∀ k', Wb8 ok bb k' x = k' (.dv y) .none) → (∀ (U : W42) (w : World) (v : Value), DRep U w x v → DRep U w y (if ok then .tuple #[v, .bool bb] else v)) → ∃ x' eff, k x' eff = some r ∧ (∀ k', K97 P ρ H t m i ok k' = k' x' eff) ∧ Wk4 P I o ρ H id x' eff := by
   intro y hy hr
   refine ⟨_, _, by rw [hy] at hx; exact hx, fun k' => by rw [hall, hy], ?_⟩
   intro D U N w0 H' w a next Q hI hC hW hN hid hl hops hn
   have h1 := hops m (by simp [ho, Op.operands])
   have h2 := hops i (by simp [ho, Op.operands])
   rw [hm] at h1
   rw [hi] at h2
   obtain ⟨kk, hk, hmv⟩ := h1
   have hiv := Ksd h2
   obtain ⟨_, _, B, hB⟩ := hW.own b kk hk
   have := hC b _ B hb hB
   subst this
   obtain ⟨_, es, cl, g2, g3⟩ := hW.holdp b kk kvs hk hB
   obtain ⟨v, hv, hrv⟩ := hsem U w es cl kk g2 g3
   unfold Oper.wp
   rw [show (execOp a.eval o).run P w = .ok (.value (if ok then .tuple #[v, .bool bb] else v)) w by simp [execOp, ho, hmv, hiv, hv]]
   exact hn _ w D U Kei.refl hW (fun _ h _ => h) (hr U w v hrv)
  cases ok with
  | true => exact fin _ (fun k' => rfl) (fun U w v hv => by simpa using Wxv hv)
  | false => exact fin x (fun k' => rfl) (fun U w v hv => by simpa using hv)
 have sem : ∀ (U : W42) (w : World) (es : Array MapEntry) (cl kk : Nat), w.heap[kk]? = some (.map es cl) → K9z U w kvs es →
   (dget kvs s = none ∧ (Instr.lookup t (.map (some kk)) (.string s) ok).run P w = .ok (if ok then .tuple #[z, .bool false] else z) w) ∨ ∃ d v, dget kvs s = some d ∧ DRep U w d v ∧ (Instr.lookup t (.map (some kk)) (.string s) ok).run P w = .ok (if ok then .tuple #[v, .bool true] else v) w := by
  intro U w es cl kk hh hd
  have hzr := K7w (zeroValue et) hz w
  rcases Wh8 (U := U) (w := w) (s := s) kvs es.toList 0 (by simpa using hd.1) (fun j x e e1 e2 => hd.2 j x e e1 (by simpa using e2)) with ⟨g1, g2, _⟩ | ⟨p, d, e, g1, _, _, g4, g5, _⟩
  ·left
   refine ⟨g1, ?_⟩
   simp only [Instr.lookup, Sem.run_bind, run_underlying hu, Result.andThen_ok, Wa5 hh, Kx2 hkt, K74 hkt g2, hzr, Sem.run_pure]
  ·right
   refine ⟨d, e.val, g1, g5, ?_⟩
   simp only [Instr.lookup, Sem.run_bind, run_underlying hu, Result.andThen_ok, Wa5 hh, Kx2 hkt, K74 hkt g4, Sem.run_pure]
 cases hg : dget kvs s with
 | none =>
  rw [hg] at h
  refine key (.val z) false h (fun k' => by rw [base, hg]; rfl) (fun U w es cl kk hh hd => ?_)
  rcases sem U w es cl kk hh hd with ⟨_, g⟩ | ⟨d, v, g1, _⟩
  ·exact ⟨z, g, .val z⟩
  ·rw [hg] at g1; cases g1
 | some d =>
  rw [hg] at h
  obtain ⟨x, h1, h2, h3⟩ := Wxu h
  refine key x true h1 (fun k' => by rw [base, hg]; exact h2 _) (fun U w es cl kk hh hd => ?_)
  rcases sem U w es cl kk hh hd with ⟨g, _⟩ | ⟨d', v, g1, g2, g3⟩
  ·rw [hg] at g; cases g
  ·rw [hg] at g1; cases g1
   exact ⟨v, g3, h3 U w v g2⟩
end Go.Pv
namespace Go.Pv
open Go Go.RowKit
theorem WRel.newp {D : W41} {U : W42} {N : W42} {w0 w : World} {H : W43} {id : Nat}
  (hW : WRel D U N w0 H w) (hN : Lt N w) (hid : D id = none) (hl : id ≤ H.length) :
  WRel (updD D id w.heap.size) U N w0 ((Eff.newB (.dict [])).app id H) (w.alloc (.map #[] 0)) := by
 have ho := Knz (N := N) (o := .map #[] 0) hW.old hid
 have hnew : ¬ U w.heap.size := fun h => Nat.lt_irrefl _ (hW.old _ h)
 have hk := Kol w (.map #[] 0)
 have keep : ∀ b j, D b = some j → j ≠ w.heap.size ∧ (w.alloc (.map #[] 0)).heap[j]? = w.heap[j]? := by
  intro b j hb
  obtain ⟨_, g2, _⟩ := hW.own b j hb
  exact ⟨by omega, Below.heap_alloc _ _ _ g2⟩
 have hne' : ∀ {b j}, b ≠ id → updD D id w.heap.size b = some j → D b = some j := by
  intro b j hne hb; simpa only [updD, hne, if_false] using hb
 have hsm : ∀ {j}, updD D id w.heap.size id = some j → j = w.heap.size := by
  intro j hb; simp only [updD, if_true, Option.some.injEq] at hb; exact hb.symm
 refine ⟨hW.below.alloc hN _, fun k h => Nat.lt_of_lt_of_le (hW.old k h) ho.size, ?_, ?_, ?_, ?_, ?_, ?_⟩
 ·intro b j hb
  by_cases hne : b = id
  ·subst hne
   rw [hsm hb]
   exact ⟨hN.new, Kxf hk, _, Kn1 _ _ _ hl⟩
  ·obtain ⟨g1, g2, B, g3⟩ := hW.own b j (hne' hne hb)
   exact ⟨g1, Nat.lt_of_lt_of_le g2 ho.size, B, (Kif _ _ _ hl _ hne).trans g3⟩
 ·intro b j us hb hH
  by_cases hne : b = id
  ·subst hne
   simp only [Eff.app, Kn1 _ _ _ hl] at hH
   cases hH
  ·simp only [Eff.app, Kif _ _ _ hl _ hne] at hH
   obtain ⟨g1, cs', T', g2, g3, g4⟩ := hW.hold b j us (hne' hne hb) hH
   exact ⟨g1, cs', T', by rw [(keep b j (hne' hne hb)).2]; exact g2, g3, fun i x v p q => (g4 i x v p q).keep ho.set ho.keep ho.size⟩
 ·intro b j us hb hH
  by_cases hne : b = id
  ·subst hne
   simp only [Eff.app, Kn1 _ _ _ hl] at hH
   cases hH
  ·simp only [Eff.app, Kif _ _ _ hl _ hne] at hH
   obtain ⟨g1, cs', T', g2, g3, g4⟩ := hW.holdm b j us (hne' hne hb) hH
   exact ⟨g1, cs', T', by rw [(keep b j (hne' hne hb)).2]; exact g2, g3, fun i x v p q => (g4 i x v p q).onward ho⟩
 ·intro b j us hb hH
  by_cases hne : b = id
  ·subst hne
   simp only [Eff.app, Kn1 _ _ _ hl, Option.some.injEq, Blk.dict.injEq] at hH
   subst hH
   rw [hsm hb]
   exact ⟨hnew, #[], 0, hk, by simp, fun i x e e1 => by simp at e1⟩
  ·simp only [Eff.app, Kif _ _ _ hl _ hne] at hH
   obtain ⟨g1, es, cl, g2, g4⟩ := hW.holdp b j us (hne' hne hb) hH
   exact ⟨g1, es, cl, by rw [(keep b j (hne' hne hb)).2]; exact g2, g4.keep ho.set ho.keep ho.size⟩
 ·intro b B hb
  by_cases hne : b = id
  ·subst hne; exact ⟨w.heap.size, by simp [updD]⟩
  ·simp only [Eff.app, Kif _ _ _ hl _ hne] at hb
   obtain ⟨j, hj⟩ := hW.all b B hb
   exact ⟨j, by simp [updD, hne, hj]⟩
 ·intro b b' j us us' hb hb' hv hv' hd hd'
  by_cases hne : b = id <;> by_cases hne2 : b' = id
  ·rw [hne, hne2]
  ·subst hne
   rw [hsm hd] at hd'
   exact absurd rfl (keep b' _ (hne' hne2 hd')).1
  ·subst hne2
   rw [hsm hd'] at hd
   exact absurd rfl (keep b _ (hne' hne hd)).1
  ·simp only [Eff.app, Kif _ _ _ hl _ hne] at hb
   simp only [Eff.app, Kif _ _ _ hl _ hne2] at hb'
   exact hW.inj b b' j us us' hb hb' hv hv' (hne' hne hd) (hne' hne2 hd')
def K4u (w : World) (k : Nat) (o : Obj) : World := { w with heap := w.heap.setIfInBounds k o }
theorem Wps (w : World) {k : Nat} (o : Obj) (h : k < w.heap.size) : (K4u w k o).heap[k]? = some o := by simp [K4u, h]
theorem K4v (w : World) {k j : Nat} (o : Obj) (h : j ≠ k) : (K4u w k o).heap[j]? = w.heap[j]? := by simp [K4u, Array.getElem?_setIfInBounds, Ne.symm h]
theorem K75 {N : W42} {D : W41} {U : W42} {w : World} {k : Nat} {es : Array MapEntry} {cl : Nat} (hk : ¬ U k) (hm : w.heap[k]? = some (.map es cl)) (o : Obj) : Kei N D U w D U (K4u w k o) :=
 ⟨fun _ _ h => h, fun _ h => h, fun j hj => K4v w o (fun e => hk (e ▸ hj)), by simp [K4u], fun _ h => .inl h, fun b j cur T f _ h => by
  have : j ≠ k := fun e => by subst e; rw [hm] at h; cases h
  exact ⟨cur, ⟨_, by rw [K4v w o this]; exact h⟩, rfl⟩⟩
theorem WRel.setp {D : W41} {U : W42} {N : W42} {w0 w : World} {H : W43} {b k : Nat} {kvs kvs' : List (ByteArray × DV)} {es es' : Array MapEntry} {cl cl' : Nat}
  (hW : WRel D U N w0 H w) (hb : D b = some k) (hbH : H[b]? = some (some (.dict kvs))) (hk : w.heap[k]? = some (.map es cl)) (hr : K9z U w kvs' es') :
  WRel D U N w0 (H.set b (some (.dict kvs'))) (K4u w k (.map es' cl')) := by
 obtain ⟨n1, n3, _⟩ := hW.own b k hb
 obtain ⟨n2, _⟩ := hW.holdp b k kvs hb hbH
 have ho := K75 (N := N) (D := D) n2 hk (.map es' cl')
 have hbl : b < H.length := (List.getElem?_eq_some_iff.1 hbH).1
 have other : ∀ {b' k' B}, b' ≠ b → H[b']? = some (some B) → B.live = true → D b' = some k' → (K4u w k (.map es' cl')).heap[k']? = w.heap[k']? := fun {b' k' B} e hB hl hd =>
  K4v w _ (fun e' => e (hW.inj b' b k _ _ hB hbH hl rfl (e' ▸ hd) hb))
 refine ⟨hW.below.trans ⟨rfl, rfl, rfl, ho.size, fun j hj => K4v w _ (fun e => n1 (e ▸ hj))⟩, fun j h => by simpa [K4u] using hW.old j h, ?_, ?_, ?_, ?_, ?_, ?_⟩
 ·intro b' k' hb'
  obtain ⟨g1, g2, B, g3⟩ := hW.own b' k' hb'
  refine ⟨g1, by simpa [K4u] using g2, ?_⟩
  by_cases e : b' = b
  ·subst e; exact ⟨_, by simp [List.getElem?_set, hbl]; rfl⟩
  ·exact ⟨B, by rw [List.getElem?_set_ne (Ne.symm e)]; exact g3⟩
 ·intro b' k' us hb' hH'
  by_cases e : b' = b
  ·subst e; simp [List.getElem?_set, hbl] at hH'
  ·rw [List.getElem?_set_ne (Ne.symm e)] at hH'
   obtain ⟨g2, cs', T', g3, g5, g6⟩ := hW.hold b' k' us hb' hH'
   exact ⟨g2, cs', T', by rw [other e hH' rfl hb']; exact g3, g5, fun i x v e1 e2 => (g6 i x v e1 e2).keep ho.set ho.keep ho.size⟩
 ·intro b' k' us hb' hH'
  by_cases e : b' = b
  ·subst e; simp [List.getElem?_set, hbl] at hH'
  ·rw [List.getElem?_set_ne (Ne.symm e)] at hH'
   obtain ⟨g2, cs', T', g3, g5, g6⟩ := hW.holdm b' k' us hb' hH'
   exact ⟨g2, cs', T', by rw [other e hH' rfl hb']; exact g3, g5, fun i x v e1 e2 => (g6 i x v e1 e2).onward ho⟩
 ·intro b' k' us hb' hH'
  by_cases e : b' = b
  ·subst e
   rw [hb] at hb'; cases hb'
   simp only [List.getElem?_set, hbl, if_true, Option.some.injEq, Blk.dict.injEq] at hH'
   subst hH'
   exact ⟨n2, es', cl', Wps w _ n3, hr.keep ho.set ho.keep ho.size⟩
  ·rw [List.getElem?_set_ne (Ne.symm e)] at hH'
   obtain ⟨g2, es1, cl1, g3, g6⟩ := hW.holdp b' k' us hb' hH'
   exact ⟨g2, es1, cl1, by rw [other e hH' rfl hb']; exact g3, g6.keep ho.set ho.keep ho.size⟩
 ·intro b' B hb'
  by_cases e : b' = b
  ·subst e; exact ⟨k, hb⟩
  ·rw [List.getElem?_set_ne (Ne.symm e)] at hb'
   exact hW.all b' B hb'
 ·intro b' b'' j us us' h1' h2' v1 v2 d1 d2
  by_cases e : b' = b <;> by_cases e' : b'' = b
  ·rw [e, e']
  ·subst e
   rw [List.getElem?_set_ne (Ne.symm e')] at h2'
   exact hW.inj b' b'' j _ us' hbH h2' rfl v2 d1 d2
  ·subst e'
   rw [List.getElem?_set_ne (Ne.symm e)] at h1'
   exact hW.inj b' b'' j us _ h1' hbH v1 rfl d1 d2
  ·rw [List.getElem?_set_ne (Ne.symm e)] at h1'
   rw [List.getElem?_set_ne (Ne.symm e')] at h2'
   exact hW.inj b' b'' j us us' h1' h2' v1 v2 d1 d2
def Wle (r : Option Operand) (id : Nat) (k : KK) : Option DV := match r with | none => k (.mp id) (.newB (.dict [])) | some _ => none
theorem Wlf {P : Program} {I : W40} {ρ : W44} {o : Oper} {t : TypeId} {r : Option Operand} {H : OH} {id : Nat} (ho : o.op = .makeMap t r) : Good P I o ρ H id (Wle r id) := by
 intro k r' h
 unfold Wle at h
 split at h <;> try (cases h; done)
 refine ⟨_, _, h, fun k' => rfl, ?_⟩
 intro D U N w0 H' w a next Q hI _ hW hN hid hl hops hn
 unfold Oper.wp
 rw [show (execOp a.eval o).run P w = .ok (.value (.map (some w.heap.size))) (w.alloc (.map #[] 0)) by simp [execOp, ho, Instr.makeMap, newObj, Sem.run]]
 exact hn _ _ _ _ (Knz hW.old hid _) (hW.newp hN hid hl) (fun b hb hne => by simp [updD, hne, hb]) ⟨w.heap.size, by simp [updD], rfl⟩
def Wlg (P : Program) (ρ : W44) (H : OH) (t : TypeId) (m key x : Operand) (k : KK) : Option DV :=
 match P.underlying t with
 | some (.map kt _) => match P.underlying kt with
  | some .string => match ρ m with
   | .mp b => match H[b]? with
    | some (some (.dict kvs)) => match ρ key, ρ x with
     | .dv (.val (.string s)), .dv d => bif Kh0 d then k (.dv (.val undef)) (.setB b (.dict (dset kvs s d))) else none
     | _, _ => none
    | _ => none
   | _ => none
  | _ => none
 | _ => none
theorem Wkg {P : Program} {k : Nat} {es : Array MapEntry} {cl : Nat} {w : World} (h : w.heap[k]? = some (.map es cl)) (o : Obj) : (setObj k o).run P w = .ok () (K4u w k o) := by
 simp [setObj, Sem.run, h, K4u]
theorem Wxw {P : Program} {s : ByteArray} (w : World) : (Instr.keyThatStays (.string s) (.string s)).run P w = .ok (.string s) w := by
 unfold Instr.keyThatStays
 have : Instr.sameBits 10000 (.string s) (.string s) = true := by simp only [Instr.sameBits]; rw [← Wno]; simp [Krz]
 rw [if_pos this]
 rfl
theorem Wnq {P : Program} {I : W40} {ρ : W44} {o : Oper} {t : TypeId} {m key x : Operand} {H : OH} {id : Nat} (ho : o.op = .mapUpdate t m key x) : Good P I o ρ H id (Wlg P ρ H t m key x) := by
 intro k r h
 unfold Wlg at h
 split at h <;> try (cases h; done)
 rename_i kt et hu
 split at h <;> try (cases h; done)
 rename_i hkt
 split at h <;> try (cases h; done)
 rename_i b hm
 split at h <;> try (cases h; done)
 rename_i kvs hb
 split at h <;> try (cases h; done)
 rename_i s d hs hx
 cases h1c : Kh0 d with
 | false => rw [h1c] at h; cases h
 | true =>
 have h1c0 := h1c
 rw [h1c] at h
 simp only [cond_true] at h
 refine ⟨_, _, h, fun k' => by simp only [Wlg, hu, hkt, hm, hb, hs, hx, h1c0, cond_true], ?_⟩
 intro D U N w0 H' w a next Q hI hC hW hN hid hl hops hn
 have g1 := hops m (by simp [ho, Op.operands])
 have g2 := hops key (by simp [ho, Op.operands])
 have g3 := hops x (by simp [ho, Op.operands])
 rw [hm] at g1
 rw [hs] at g2
 rw [hx] at g3
 obtain ⟨kk, hk, hmv⟩ := g1
 have hsv := Ksd g2
 have hxr : DRep U w d (a.eval x) := g3
 obtain ⟨_, _, B, hB⟩ := hW.own b kk hk
 have := hC b _ B hb hB
 subst this
 obtain ⟨n2, es, cl, q2, q3⟩ := hW.holdp b kk kvs hk hB
 unfold Oper.wp
 rcases Wh8 (U := U) (w := w) (s := s) kvs es.toList 0 (by simpa using q3.1) (fun j x e e1 e2 => q3.2 j x e e1 (by simpa using e2)) with ⟨_, f2, f3⟩ | ⟨p, d', e, _, f2, f3, f4, _, f6, f7⟩
 ·have hrun : (execOp a.eval o).run P w = .ok .skip (K4u w kk (.map (es.push { key := .string s, val := a.eval x, born := cl }) (cl + 1))) := by
   simp [execOp, ho, hmv, hsv, Instr.mapUpdate, run_underlying hu, Wa5 q2, Kx2 hkt, K74 hkt f2, Wkg q2]
  rw [hrun, Oper.upon_skip]
  refine hn _ _ D U (K75 n2 q2 _) ?_ (fun _ h _ => h) (DRep.val undef)
  have := hW.setp (cl' := cl + 1) (kvs' := dset kvs s d) (es' := es.push { key := .string s, val := a.eval x, born := cl }) hk hB q2 ?_
  ·exact this
  ·rw [f3]
   refine ⟨by simp [q3.1], fun i y e e1 e2 => ?_⟩
   rw [Array.getElem?_push] at e2
   rw [List.getElem?_append] at e1
   split at e2
   ·rename_i hi
    rw [if_neg (by rw [← q3.1]; omega)] at e1
    have : i - kvs.length = 0 := by rw [← q3.1]; omega
    rw [this] at e1
    simp at e1 e2
    subst e1; subst e2
    exact ⟨rfl, hxr⟩
   ·have hi : i < es.size := (Array.getElem?_eq_some_iff.1 e2).1
    rw [if_pos (by rw [← q3.1]; exact hi)] at e1
    exact q3.2 i y e e1 e2
 ·have hp : p < es.size := by rw [q3.1]; exact f6
  have hge : es[p]? = some e := by simpa using f2
  have hrun : (execOp a.eval o).run P w = .ok .skip (K4u w kk (.map (es.modify p fun e => { e with key := .string s, val := a.eval x }) cl)) := by
   simp [execOp, ho, hmv, hsv, Instr.mapUpdate, run_underlying hu, Wa5 q2, Kx2 hkt, K74 hkt f4, Wkg q2, hge, f3, Wxw]
  rw [hrun, Oper.upon_skip]
  refine hn _ _ D U (K75 n2 q2 _) ?_ (fun _ h _ => h) (DRep.val undef)
  have := hW.setp (cl' := cl) (kvs' := dset kvs s d) (es' := es.modify p fun e => { e with key := .string s, val := a.eval x }) hk hB q2 ?_
  ·exact this
  ·rw [f7]
   refine ⟨by simp [q3.1], fun i y e' e1 e2 => ?_⟩
   rw [Array.getElem?_modify] at e2
   rw [List.getElem?_set] at e1
   by_cases hpi : p = i
   ·subst hpi
    rw [if_pos rfl] at e1 e2
    rw [hge] at e2
    simp [f6] at e1 e2
    subst e1; subst e2
    exact ⟨rfl, hxr⟩
   ·rw [if_neg hpi] at e1 e2
    exact q3.2 i y e' e1 e2
end Go.Pv
namespace Go.Pv
open Go Go.RowKit
def argD (P : Program) (H : OH) (x : VV) (t : TypeId) : Option (DV × List Nat) :=
 match x with
 | .dv d => some (Wpk P t d, [])
 | .osl _ _ b of n => match P.underlying t with
  | some (.slice e) => match P.info? e with
   | some i => match H[b]? with
    | some (some (.cells cs)) => bif Nat.ble (of + n * i.size) cs.length then some (.lst i.size (Kcy i.size n (cs.drop of)), [b]) else none
    | _ => none
   | none => none
  | _ => none
 | _ => none
def Wdn (P : Program) (H : OH) : List VV → List TypeId → Option (List DV × List Nat)
 | [], _ => some ([], [])
 | x :: xs, t :: ts => match argD P H x t, Wdn P H xs ts with
  | some (d, a), some (l, b) => some (d :: l, a ++ b)
  | _, _ => none
 | _ :: _, [] => none
def Wlh (P : Program) (H : OH) : List VV → List TypeId → (List DV → List Nat → Option DV) → Option DV
 | [], _, k => k [] []
 | .dv d :: xs, t :: ts, k => Wlh P H xs ts fun l b => k (Wpk P t d :: l) b
 | .osl _ _ b of n :: xs, t :: ts, k => match P.underlying t with
  | some (.slice e) => match P.info? e with
   | some i => match H[b]? with
    | some (some (.cells cs)) => bif Nat.ble (of + n * i.size) cs.length then Wlh P H xs ts fun l bs => k (.lst i.size (Kcy i.size n (cs.drop of)) :: l) (b :: bs) else none
    | _ => none
   | none => none
  | _ => none
 | _, _, _ => none
theorem Wdo (P : Program) (H : OH) : ∀ (xs : W49) (ts : List TypeId) (k : List DV → List Nat → Option DV), Wlh P H xs ts k = match Wdn P H xs ts with | some (ds, bs) => k ds bs | none => none
 | [], ts, k => by simp only [Wlh, Wdn]
 | x :: xs, [], k => by cases x <;> simp only [Wlh, Wdn]
 | x :: xs, t :: ts, k => by
  cases x with
  | dv d =>
   simp only [Wlh, Wdn, argD, Wdo P H xs ts]
   cases Wdn P H xs ts with
   | none => rfl
   | some p => obtain ⟨l, b⟩ := p; simp
  | osl e sz b o n =>
   have ih := Wdo P H xs ts
   simp only [Wlh, Wdn, argD]
   cases hA : Wdn P H xs ts with
   | none =>
    rw [hA] at ih
    cases P.underlying t with
    | none => rfl
    | some td =>
     cases td <;> try rfl
     rename_i e2
     dsimp only
     cases P.info? e2 with
     | none => rfl
     | some i =>
      simp only []
      cases hb : H[b]? with
      | none => rfl
      | some y =>
       cases y with
       | none => rfl
       | some B =>
        cases B with
        | gone => rfl
        | mix cs => rfl
        | dict kvs => rfl
        | cells cs =>
         simp only []
         cases hl : Nat.ble (o + n * i.size) cs.length with
         | false => rfl
         | true => simp only [cond_true, ih]
   | some p =>
    obtain ⟨l, bs⟩ := p
    rw [hA] at ih
    cases P.underlying t with
    | none => rfl
    | some td =>
     cases td <;> try rfl
     rename_i e2
     dsimp only
     cases P.info? e2 with
     | none => rfl
     | some i =>
      simp only []
      cases hb : H[b]? with
      | none => rfl
      | some y =>
       cases y with
       | none => rfl
       | some B =>
        cases B with
        | gone => rfl
        | mix cs => rfl
        | dict kvs => rfl
        | cells cs =>
         simp only []
         cases hl : Nat.ble (o + n * i.size) cs.length with
         | false => rfl
         | true => simp only [cond_true, ih, List.singleton_append]
  | _ => simp only [Wlh, Wdn, argD] <;> (cases Wdn P H xs ts <;> rfl)
def U3 (U : W42) (D : W41) : Nat → Prop := fun k => U k ∨ ∃ b, D b = some k
def U4 (U : W42) (D : W41) (bs : List Nat) : Nat → Prop := fun k => U k ∨ ∃ b, b ∈ bs ∧ D b = some k
theorem Wrg {H : OH} {D : W41} {U : W42} {N : W42} {w0 w : World} (hW : WRel D U N w0 H w) {sz b of n k c : Nat} {cs : W5j} (hk : D b = some k) (hc : n ≤ c) (hb : H[b]? = some (some (.cells cs))) (hl' : of + n * sz ≤ cs.length) {V : W42} (hV1 : ∀ k, U k → V k) (hV2 : V k) : DRep V w (.lst sz (Kcy sz n (cs.drop of))) (.slice (some ⟨k, of, none⟩) n c) := by
 obtain ⟨n2, cur, T, g3, g5, g6⟩ := hW.hold b k cs hk hb
 have hcell : ∀ m x, cs[m]? = some x → ∃ u, w.cell? ⟨k, m, none⟩ = some u ∧ DRep U w x u := by
  intro m x hm
  have hlt : m < cur.size := by have := (List.getElem?_eq_some_iff.1 hm).1; omega
  exact ⟨cur[m], by simp [World.cell?, g3, hlt], g6 m x _ hm (Array.getElem?_eq_getElem hlt)⟩
 have hat : ∀ (p j : Nat) (el : W5j) (x : DV), (Kcy sz n (cs.drop of))[p]? = some el → el[j]? = some x → ∃ u, w.cell? ⟨k, of + p * sz + j, none⟩ = some u ∧ DRep U w x u := by
  intro p j el x h1 h2
  have := Wka sz n (cs.drop of) p j el x h1 h2
  rw [List.getElem?_drop] at this
  obtain ⟨u, h3, h4⟩ := hcell _ x this
  exact ⟨u, by rw [show of + p * sz + j = of + (p * sz + j) by omega]; exact h3, h4⟩
 have := DRep.lst (U := V) (w := w) (sz := sz) (b := k) (off := of) (c := c) (es := Kcy sz n (cs.drop of)) (g := fun p j => (w.cell? ⟨k, of + p * sz + j, none⟩).getD undef)
  hV2 (Kxf g3) (by rw [K7z]; exact hc) (Wht sz n (cs.drop of) (by simp; omega))
  (fun p j el x h1 h2 => by obtain ⟨u, h3, _⟩ := hat p j el x h1 h2; rw [h3]; rfl)
  (fun p j el x h1 h2 => by
   obtain ⟨u, h3, h4⟩ := hat p j el x h1 h2
   rw [h3]
   exact DRep.keep (U := U) (U' := V) (w := w) (w' := w) hV1 (fun _ _ => rfl) (Nat.le_refl _) h4)
 rw [K7z] at this
 exact this
theorem Wvt {H : OH} {D : W41} {U : W42} {N : W42} {w0 w : World} (hW : WRel D U N w0 H w) {e : TypeId} {sz b of n : Nat} {cs : W5j} (hb : H[b]? = some (some (.cells cs))) (hl' : of + n * sz ≤ cs.length) {v : Value} (hv : VRep U w D (.osl e sz b of n) v) {V : W42} (hV1 : ∀ k, U k → V k) (hV2 : ∀ k, D b = some k → V k) : DRep V w (.lst sz (Kcy sz n (cs.drop of))) v := by
 obtain ⟨k, c, cur0, hk, hc, _, _, rfl⟩ := hv
 exact Wrg hW hk hc hb hl' hV1 (hV2 k hk)
theorem Wz8 {P : Program} {H H' : OH} {x : VV} {t : TypeId} {d : DV} {bs : List Nat} (h : argD P H x t = some (d, bs)) {D : W41} {U : W42} {N : W42} {w0 w : World} (hW : WRel D U N w0 H' w) (hC : K6c H H') {v : Value} (hv : VRep U w D x v) :
  DRep (U4 U D bs) w d v ∧ ∀ b ∈ bs, Kxg H b = true := by
 unfold argD at h
 split at h <;> try (cases h; done)
 ·simp only [Option.some.injEq, Prod.mk.injEq] at h
  obtain ⟨rfl, rfl⟩ := h
  exact ⟨Wh1 (DRep.keep (U := U) (w := w) (w' := w) (fun _ h => .inl h) (fun _ _ => rfl) (Nat.le_refl _) hv), by simp⟩
 ·rename_i e2 sz2 b of n
  split at h <;> try (cases h; done)
  rename_i e hu
  split at h <;> try (cases h; done)
  rename_i i hi
  split at h <;> try (cases h; done)
  rename_i cs hb
  cases hl : Nat.ble (of + n * i.size) cs.length with
  | false => simp [hl] at h
  | true =>
   simp only [hl, cond_true, Option.some.injEq, Prod.mk.injEq] at h
   obtain ⟨rfl, rfl⟩ := h
   have hl' := Nat.le_of_ble_eq_true hl
   obtain ⟨k, c, cur0, hk, hc, hh, hs, rfl⟩ := hv
   obtain ⟨n1, n3, B, g4⟩ := hW.own b k hk
   have e := hC b _ _ hb g4
   subst e
   refine ⟨Wrg hW hk hc g4 hl' (fun _ h => .inl h) (.inr ⟨b, by simp, hk⟩), fun b' hb' => ?_⟩
   simp at hb'
   subst hb'
   simp only [Kxg, hb]
   rfl
theorem Wvu {U : W42} {D : W41} {w : World} {bs cs : List Nat} (h : ∀ b, b ∈ bs → b ∈ cs) {d : DV} {v : Value} (hd : DRep (U4 U D bs) w d v) : DRep (U4 U D cs) w d v :=
 DRep.keep (w := w) (w' := w) (fun k hk => hk.imp id fun ⟨b, h1, h2⟩ => ⟨b, h b h1, h2⟩) (fun _ _ => rfl) (Nat.le_refl _) hd
theorem Wrh {P : Program} {H H' : OH} {D : W41} {U : W42} {N : W42} {w0 w : World} (hW : WRel D U N w0 H' w) (hC : K6c H H') : ∀ (xs : W49) (ts : List TypeId) (ds : W5j) (bs : List Nat) (vs : List Value), Wdn P H xs ts = some (ds, bs) → vs.length = xs.length →
  (∀ (i : Nat) (x : VV) (v : Value), xs[i]? = some x → vs[i]? = some v → VRep U w D x v) →
  ds.length = xs.length ∧ (∀ (i : Nat) (d : DV) (v : Value), ds[i]? = some d → vs[i]? = some v → DRep (U4 U D bs) w d v) ∧ ∀ b ∈ bs, Kxg H b = true
 | [], _, ds, bs, vs, h, hl, _ => by
  simp only [Wdn, Option.some.injEq, Prod.mk.injEq] at h
  obtain ⟨rfl, rfl⟩ := h
  exact ⟨rfl, by simp, by simp⟩
 | x :: xs, [], ds, bs, vs, h, _, _ => by simp [Wdn] at h
 | x :: xs, t :: ts, ds, bs, vs, h, hl, hr => by
  simp only [Wdn] at h
  split at h <;> try (cases h; done)
  rename_i d a l b h1 h2
  simp only [Option.some.injEq, Prod.mk.injEq] at h
  obtain ⟨rfl, rfl⟩ := h
  match vs, hl with
  | v :: vs, hl =>
   obtain ⟨g1, g2⟩ := Wz8 h1 hW hC (hr 0 x v rfl rfl)
   obtain ⟨r1, r2, r3⟩ := Wrh hW hC xs ts l b vs h2 (by simpa using hl) (fun i x v e1 e2 => hr (i + 1) x v (by simpa using e1) (by simpa using e2))
   refine ⟨by simp [r1], ?_, ?_⟩
   ·intro i y u e1 e2
    cases i with
    | zero => simp at e1 e2; subst e1; subst e2; exact Wvu (fun b hb => List.mem_append_left _ hb) g1
    | succ i => exact Wvu (fun b hb => List.mem_append_right _ hb) (r2 i y u (by simpa using e1) (by simpa using e2))
   ·intro b' hb'
    rcases List.mem_append.1 hb' with h | h
    ·exact g2 b' h
    ·exact r3 b' h
def Wri (k : KK) : List Nat → DV → Option DV
 | [], d => k (.dv d) .none
 | _ :: _, .val v => k (.dv (.val v)) .none
 | b :: bs, d => k (.dv d) (.ice (b :: bs))
theorem Kw0 : ∀ (bs : List Nat) (H : OH) (b : Nat) (B : Blk), (K7x H bs)[b]? = some (some B) → B.live = true → b ∉ bs ∧ H[b]? = some (some B)
 | [], H, b, B, h, _ => ⟨by simp, h⟩
 | c :: bs, H, b, B, h, hl => by
  simp only [K7x] at h
  obtain ⟨h1, h2⟩ := Kw0 bs _ b B h hl
  by_cases e : b = c
  ·subst e
   rw [List.getElem?_set] at h2
   simp only [if_true] at h2
   split at h2
   ·simp only [Option.some.injEq] at h2; subst h2; cases hl
   ·cases h2
  ·rw [List.getElem?_set_ne (Ne.symm e)] at h2
   exact ⟨by simp [e, h1], h2⟩
theorem Wb9 : ∀ (bs : List Nat) (H : OH) (b : Nat) (B : Blk), H[b]? = some (some B) → ∃ B', (K7x H bs)[b]? = some (some B')
 | [], H, b, B, h => ⟨B, h⟩
 | c :: bs, H, b, B, h => by
  simp only [K7x]
  by_cases e : b = c
  ·subst e
   exact Wb9 bs _ b .gone (by simp [List.getElem?_set, (List.getElem?_eq_some_iff.1 h).1])
  ·exact Wb9 bs _ b B (by rw [List.getElem?_set_ne (Ne.symm e)]; exact h)
theorem Wfq : ∀ (bs : List Nat) (H : OH) (b : Nat) (B : Blk), (∀ b ∈ bs, ∃ B, H[b]? = some (some B)) → (K7x H bs)[b]? = some (some B) → ∃ B', H[b]? = some (some B')
 | [], H, b, B, _, h => ⟨B, h⟩
 | c :: bs, H, b, B, hb, h => by
  simp only [K7x] at h
  obtain ⟨B0, h0⟩ := hb c (by simp)
  have hcl := (List.getElem?_eq_some_iff.1 h0).1
  obtain ⟨B', h'⟩ := Wfq bs _ b B (fun x hx => by
   by_cases e : x = c
   ·subst e; exact ⟨.gone, by simp [List.getElem?_set, hcl]⟩
   ·obtain ⟨B1, h1⟩ := hb x (by simp [hx]); exact ⟨B1, by rw [List.getElem?_set_ne (Ne.symm e)]; exact h1⟩) h
  by_cases e : b = c
  ·subst e; exact ⟨B0, h0⟩
  ·rw [List.getElem?_set_ne (Ne.symm e)] at h'; exact ⟨B', h'⟩
theorem WRel.ice {D : W41} {U : W42} {N : W42} {w0 w : World} {H : OH} (hW : WRel D U N w0 H w) (bs : List Nat) (hbs : ∀ b ∈ bs, Kxg H b = true) : WRel D (U4 U D bs) N w0 (K7x H bs) w ∧ Kei N D U w D (U4 U D bs) w := by
 have hlive : ∀ b ∈ bs, ∃ B, H[b]? = some (some B) ∧ B.live = true := by
  intro b hb
  have := hbs b hb
  unfold Kxg at this
  split at this <;> try (cases this; done)
  rename_i B hB
  exact ⟨B, hB, this⟩
 have ho : Kei N D U w D (U4 U D bs) w := ⟨fun _ _ h => h, fun _ h => .inl h, fun _ _ => rfl, Nat.le_refl _, fun k hk => hk.imp id (fun ⟨b, _, hb⟩ => (hW.own b k hb).1), fun _ _ cur _ _ _ h => ⟨cur, ⟨_, h⟩, rfl⟩⟩
 have hnot : ∀ b k B, D b = some k → H[b]? = some (some B) → B.live = true → b ∉ bs → ¬ U k → ¬ U4 U D bs k := by
  intro b k B hb hH hB hm hu h
  rcases h with h | ⟨c, hc, hck⟩
  ·exact hu h
  ·obtain ⟨B', hB', hl'⟩ := hlive c hc
   have := hW.inj b c k B B' hH hB' hB hl' hb hck
   subst this
   exact hm hc
 refine ⟨⟨hW.below, fun k hk => hk.elim (hW.old k) (fun ⟨b, _, hb⟩ => (hW.own b k hb).2.1), ?_, ?_, ?_, ?_, ?_, ?_⟩, ho⟩
 ·intro b k hb
  obtain ⟨g1, g2, B, g3⟩ := hW.own b k hb
  exact ⟨g1, g2, Wb9 bs H b B g3⟩
 ·intro b k vs hb hH
  obtain ⟨hm, hH0⟩ := Kw0 bs H b _ hH rfl
  obtain ⟨g1, cs, T, g2, g3, g4⟩ := hW.hold b k vs hb hH0
  exact ⟨hnot b k _ hb hH0 rfl hm g1, cs, T, g2, g3, fun i x v e1 e2 => (g4 i x v e1 e2).keep ho.set ho.keep ho.size⟩
 ·intro b k vs hb hH
  obtain ⟨hm, hH0⟩ := Kw0 bs H b _ hH rfl
  obtain ⟨g1, cs, T, g2, g3, g4⟩ := hW.holdm b k vs hb hH0
  exact ⟨hnot b k _ hb hH0 rfl hm g1, cs, T, g2, g3, fun i x v e1 e2 => (g4 i x v e1 e2).onward ho⟩
 ·intro b k kvs hb hH
  obtain ⟨hm, hH0⟩ := Kw0 bs H b _ hH rfl
  obtain ⟨g1, es, cl, g2, g4⟩ := hW.holdp b k kvs hb hH0
  exact ⟨hnot b k _ hb hH0 rfl hm g1, es, cl, g2, g4.keep ho.set ho.keep ho.size⟩
 ·intro b B hH
  obtain ⟨B', hB'⟩ := Wfq bs H b B (fun b hb => (hlive b hb).imp fun _ h => h.1) hH
  exact hW.all b B' hB'
 ·intro b b' k B B' h1 h2 l1 l2 d1 d2
  exact hW.inj b b' k B B' (Kw0 bs H b _ h1 l1).2 (Kw0 bs H b' _ h2 l2).2 l1 l2 d1 d2
structure Kfv (P : Program) (I : W40) (K : Tab) : Prop where
 st : Stab I
 f : ∀ g, Kce P I g (K.f g)
 h : ∀ g G, K.h g = some G → Kk0 P I g G
def Wrj (P : Program) (c : Call) : Bool := match c.argTypes.toList with
 | [_, u] => (match P.underlying u with | some .string => true | _ => false)
 | _ => false
def Wpt (P : Program) (ρ : W44) (H : OH) (id : Nat) (c : Call) (k : KK) : Option DV := bif Wrj P c then K2d P ρ H id c k else K5d P ρ H id c k
theorem Wnr {P : Program} {I : W40} {ρ : W44} {o : Oper} {c : Call} {H : OH} {id : Nat} (ho : o.op = .call c) (hc : c.callee = .builtin .append) : Good P I o ρ H id (Wpt P ρ H id c) := by
 intro k r h
 unfold Wpt at h ⊢
 cases hs : Wrj P c with
 | true => rw [hs] at h; exact Wld ho hc k r h
 | false => rw [hs] at h; exact Wne ho hc k r h
def Wer (P : Program) (K : Tab) (ρ : W44) (H : OH) (id : Nat) (o : Oper) (c : Call) (k : KK) : Option DV :=
 match Wa1 ρ c with
 | some (g, first, captured) => match K.h g with
  | some G => Wsz G H (first.toList.map (fun v => VV.dv (.val v)) ++ c.args.toList.map ρ ++ captured.toList.map (fun v => VV.dv (.val v))) k
  | none => Wlh P H (c.args.toList.map ρ) c.argTypes.toList fun ds bs => K.f g (first.toList.map DV.val ++ ds ++ captured.toList.map DV.val) fun d => Wri k bs d
 | none => match c.callee with
  | .builtin .len => lenQ P ρ o c k
  | .builtin .append => Wpt P ρ H id c k
  | .builtin .copy => Wxl P ρ H c k
  | _ => K6h P ρ o k
theorem Ws5 {k : KK} {bs : List Nat} {d : DV} {r : DV} (h : Wri k bs d = some r) : (k (.dv d) .none = some r ∧ (∀ k', Wri k' bs d = k' (.dv d) .none) ∧ (bs = [] ∨ ∃ v, d = .val v)) ∨ (k (.dv d) (.ice bs) = some r ∧ ∀ k', Wri k' bs d = k' (.dv d) (.ice bs)) := by
 cases bs with
 | nil => exact .inl ⟨h, fun _ => rfl, .inl rfl⟩
 | cons b bs =>
  cases d with
  | val v => exact .inl ⟨h, fun _ => rfl, .inr ⟨v, rfl⟩⟩
  | agg cs => exact .inr ⟨h, fun _ => rfl⟩
  | tup cs => exact .inr ⟨h, fun _ => rfl⟩
  | lst sz es => exact .inr ⟨h, fun _ => rfl⟩
  | err => exact .inr ⟨h, fun _ => rfl⟩
theorem Ws6 {P : Program} {I : W40} {K : Tab} (HK : Kfv P I K) {ρ : W44} {o : Oper} {c : Call} {H : OH} {id : Nat} (ho : o.op = .call c) : Good P I o ρ H id (Wer P K ρ H id o c) := by
 intro k r h
 unfold Wer at h
 split at h
 ·rename_i g first captured hc
  split at h
  ·rename_i G hG
   obtain ⟨x', y', h1, h2, h3⟩ := Ws0 (H := H) (id := id) HK.st (HK.h g G hG) ho hc k r h
   exact ⟨x', y', h1, fun k' => by simp only [Wer, hc, hG]; exact h2 k', h3⟩
  ·rename_i hG
   rw [Wdo] at h
   split at h <;> try (cases h; done)
   rename_i ds bs hd
   obtain ⟨hg, d, hk, hnat, hm⟩ := HK.f g _ _ _ h
   have run : ∀ (D : W41) (U N : W42) (w0 : World) (H' : OH) (w : World) (a : Act), I w → K6c H H' → WRel D U N w0 H' w → (∀ y ∈ o.op.operands, VRep U w D (ρ y) (a.eval y)) →
     ∃ args, (execOp a.eval o).run P w = .ok (.enter g args) w ∧ (∀ b ∈ bs, Kxg H b = true) ∧ Calls P g args w fun e w' => ∃ v, e = .returned v ∧ Below w.heap.size w w' ∧ DRep (U2 (U4 U D bs) w w') w' d v := by
    intro D U N w0 H' w a hI hC hW hops
    have hc0 := hc
    unfold Wa1 at hc
    cases hcal : c.callee with
    | invoke r m => simp [hcal] at hc
    | builtin b => simp [hcal] at hc
    | value f =>
     simp only [hcal] at hc
     have hfop : f ∈ o.op.operands := by simp [ho, Op.operands, Call.operands, hcal]
     have hrf := hops f hfop
     cases hfl : (ρ f).flat with
     | none => simp [hfl] at hc
     | some fv =>
      have hev := VV.flat_rep hfl hrf
      simp only [hfl] at hc
      cases fv <;> try (simp at hc; done)
      rename_i fn fi ca
      cases fn <;> simp at hc
      rename_i g'
      obtain ⟨rfl, rfl, rfl⟩ := hc
      have hrun : (execOp a.eval o).run P w = .ok (.enter g' (fi ++ c.args.map a.eval ++ ca)) w := by
       simp [execOp, ho, resolve, hcal, hev, Deferred.ofValue, invoke, Wfo hg, Array.append_assoc]
      obtain ⟨r1, r2, r3⟩ := Wrh (P := P) hW hC (c.args.toList.map ρ) c.argTypes.toList ds bs (c.args.toList.map a.eval) hd (by simp) (by
       intro i x v e1 e2
       simp only [List.getElem?_map, Option.map_eq_some_iff] at e1 e2
       obtain ⟨y, hy, rfl⟩ := e1
       obtain ⟨y', hy', rfl⟩ := e2
       rw [hy] at hy'; cases hy'
       refine hops y ?_
       simp only [ho, Op.operands, Call.operands, hcal]
       exact Array.mem_append.2 (.inr (by have := List.mem_of_getElem? hy; simpa using this)))
      have hlen : ds.length = c.args.size := by rw [r1]; simp
      refine ⟨_, hrun, r3, hm (U4 U D bs) w _ hI ?_ (by simp [hlen]) ?_⟩
      ·intro k hk
       rcases hk with hk | ⟨b, _, hb⟩
       ·exact hW.old k hk
       ·exact (hW.own b k hb).2.1
      ·intro i x v h1 h2
       rw [← Array.getElem?_toList] at h2
       simp only [Array.toList_append, Array.toList_map] at h2
       rw [List.append_assoc, List.getElem?_append] at h1 h2
       simp only [List.length_map, Array.length_toList] at h1 h2
       split at h1
       ·simp only [*, if_true] at h2
        simp at h1 h2
        obtain ⟨u, hu, rfl⟩ := h1
        rw [hu] at h2; cases h2; exact .val _
       ·rename_i hni
        simp only [hni, if_false] at h2
        rw [List.getElem?_append] at h1 h2
        simp only [List.length_map, Array.length_toList] at h1 h2
        rw [← hlen] at h2
        split at h1
        ·rename_i hlt
         simp only [hlt, if_true] at h2
         exact r2 _ x v h1 h2
        ·rename_i hlt
         simp only [hlt, if_false] at h2
         simp at h1 h2
         obtain ⟨u, hu, rfl⟩ := h1
         rw [hu] at h2; cases h2; exact .val _
   rcases Ws5 hk with ⟨hk1, hk2, hk3⟩ | ⟨hk1, hk2⟩
   ·refine ⟨_, _, hk1, fun k' => by simp only [Wer, hc, hG, Wdo, hd]; rw [hnat]; exact hk2 k', ?_⟩
    intro D U N w0 H' w a next Q hI hC hW hN _ _ hops hn
    obtain ⟨args, hrun, _, hcalls⟩ := run D U N w0 H' w a (hI w hW.below) hC hW hops
    unfold Oper.wp
    rw [hrun]
    refine Calls.mono hcalls ?_
    rintro e w' ⟨v, rfl, hb, hr⟩
    refine hn v w' D (U2 U w w') (K4q hN hW.old hb) (hW.below' hN hb) (fun _ h _ => h) ?_
    rcases hk3 with rfl | ⟨v', rfl⟩
    ·exact DRep.keep (w := w') (w' := w') (fun k hk => hk.imp (fun h => h.elim (fun h => h) (fun ⟨_, h, _⟩ => by cases h)) (fun h => h)) (fun _ _ => rfl) (Nat.le_refl _) hr
    ·have := Ksd hr
     subst this
     exact .val _
   ·refine ⟨_, _, hk1, fun k' => by simp only [Wer, hc, hG, Wdo, hd]; rw [hnat]; exact hk2 k', fun _ => ?_⟩
    intro D U N w0 w a next Q hI hW hN hops hn
    obtain ⟨args, hrun, hbs, hcalls⟩ := run D U N w0 H w a (hI w hW.below) (K6c.refl H) hW hops
    obtain ⟨i1, i2⟩ := hW.ice bs hbs
    unfold Oper.wp
    rw [hrun]
    refine Calls.mono hcalls ?_
    rintro e w' ⟨v, rfl, hb, hr⟩
    exact hn v w' D (U2 (U4 U D bs) w w') (i2.trans (K4q hN i1.old hb)) (i1.below' hN hb) hr
 ·rename_i hc
  cases hcal : c.callee with
  | builtin b =>
   simp only [hcal] at h
   cases b <;> first
    | (simp only [] at h
       obtain ⟨x', y', h1, h2, h3⟩ := Wvh (I := I) (H := H) (id := id) ho hcal k r h
       exact ⟨x', y', h1, fun k' => by simp only [Wer, hc, hcal]; exact h2 k', h3⟩)
    | (simp only [] at h
       obtain ⟨x', y', h1, h2, h3⟩ := Wnr (P := P) (I := I) (ρ := ρ) (H := H) (id := id) ho hcal k r h
       exact ⟨x', y', h1, fun k' => by simp only [Wer, hc, hcal]; exact h2 k', h3⟩)
    | (simp only [] at h
       obtain ⟨x', y', h1, h2, h3⟩ := Wsv (P := P) (I := I) (ρ := ρ) (H := H) (id := id) ho hcal k r h
       exact ⟨x', y', h1, fun k' => by simp only [Wer, hc, hcal]; exact h2 k', h3⟩)
    | (simp only [] at h
       obtain ⟨x', y', h1, h2, h3⟩ := Kle (I := I) (H := H) (id := id) k r h
       exact ⟨x', y', h1, fun k' => by simp only [Wer, hc, hcal]; exact h2 k', h3⟩)
  | value f =>
   simp only [hcal] at h
   obtain ⟨x', y', h1, h2, h3⟩ := Kle (I := I) (H := H) (id := id) k r h
   exact ⟨x', y', h1, fun k' => by simp only [Wer, hc, hcal]; exact h2 k', h3⟩
  | invoke r m =>
   simp only [hcal] at h
   obtain ⟨x', y', h1, h2, h3⟩ := Kle (I := I) (H := H) (id := id) k _ h
   exact ⟨x', y', h1, fun k' => by simp only [Wer, hc, hcal]; exact h2 k', h3⟩
def Wrk (P : Program) (ρ : W44) (H : OH) (t : TypeId) (x y : Operand) (k : KK) : Option DV :=
 match ρ x, ρ y with
 | .ptr b of, .dv d => match H[b]? with
  | some (some (.cells cs)) => match P.info? t with
   | some i => bif Nat.beq d.cells.length i.size && Nat.ble (of + d.cells.length) cs.length && d.cells.all Kh0 then k (.dv (.val undef)) (.upd b (cs.take of ++ d.cells ++ cs.drop (of + d.cells.length))) else none
   | none => none
  | _ => none
 | _, _ => none
def Wvv (P : Program) (id : Nat) (t : TypeId) (k : KK) : Option DV := match prun P (zeroValue t) with | some z => k (.ptr id 0) (.new (DV.cells (.val z))) | none => none
def boxQ (ρ : W44) (id : Nat) (x : Operand) (k : KK) : Option DV := match ρ x with | .dv d => k (.ptr id 0) (.new d.cells) | _ => none
def Wkh (P : Program) (ρ : W44) (H : OH) (t : TypeId) (x y : Operand) (k : KK) : Option DV :=
 match ρ x, ρ y with
 | .ptr b _, .dv _ => match H[b]? with
  | some (some (.cells _)) => Wrk P ρ H t x y k
  | _ => Wni P ρ H t x y k
 | _, _ => Wni P ρ H t x y k
def Wxx (P : Program) (t : TypeId) : Bool := match K71 P 8 t with
 | some ks => ks.any fun l => match l with | .lst _ => true | _ => false
 | none => true
def boxS (P : Program) (ρ : W44) (id : Nat) (t : TypeId) (x : Operand) (k : KK) : Option DV := bif Wxx P t then boxX ρ id x k else match ρ x with | .dv _ => boxQ ρ id x k | _ => boxX ρ id x k
def Wz9 (P : Program) : Nat → TypeId → Bool
 | 0, _ => false
 | n + 1, t => match P.underlying t with
  | some (.struct fs) => match fs[0]? with
   | some f => (match P.underlying f.type with
    | some (.pointer u) => Nat.beq u t
    | some (.struct _) => Wz9 P n f.type
    | _ => false)
   | none => false
  | _ => false
def Wns (P : Program) (id : Nat) (t : TypeId) (k : KK) : Option DV := bif Wxx P t then (match prun P (zeroValue t) with | some z => k (bif Wz9 P 3 t then .tp t z.cells.size id else .ptr id 0) (.newm ((DV.cells (.val z)).map VV.dv)) | none => none) else Wvv P id t k
def opk (P : Program) (K : Tab) (ρ : W44) (H : OH) (id : Nat) (o : Oper) (k : KK) : Option DV :=
 match o.op with
 | .move x => k (ρ x) .none
 | .assign x => k (ρ x) .none
 | .alloc t => Wns P id t k
 | .makeMap _ r => Wle r id k
 | .lookup t m i ok => K97 P ρ H t m i ok k
 | .mapUpdate t m key x => Wlg P ρ H t m key x k
 | .box t x => boxS P ρ id t x k
 | .load t x => Wsw P (fun y => unT (ρ y)) H t x k
 | .store t x y => Wkh P (fun y => unT (ρ y)) H t x y k
 | .build t ps => Wnl P ρ o t ps k
 | .field t x f => Wkf P ρ o t x f k
 | .fieldAddr T x f => Whw P ρ T x f k
 | .nilCheck x => nilQ P ρ o x k
 | .binOp b T x y _ => binP P ρ o b T x y k
 | .extract x i => Wdk P ρ o x i k
 | .index T x i => Wnb P ρ o T x i k
 | .pick c a b => Wnc ρ c a b k
 | .call c => bif Wxt P ρ c then Wnn ρ c k else Wer P K ρ H id o c k
 | .buildSlice t n ps => Weo P ρ id t n ps k
 | .makeSlice t l c => Wxj P ρ id t l c k
 | .indexAddr t x i => Whv P ρ t x i k
 | .slice t x lo hi mx => match ρ x with
  | .dv (.val (.string _)) => K96 P ρ o t x lo hi mx k
  | _ => bif K1k ρ o && (match prun P (execOp (ρF ρ) o) with | some _ => true | none => false) then K6h P ρ o k else K96 P ρ o t x lo hi mx k
 | .convert S T x => bif isTp (ρ x) then Ws1 P ρ S T x k else bif (match P.underlying T with | some (.slice _) => true | _ => false) then Wvj P ρ S T x k else bif (match P.underlying S, P.underlying T with | some (.slice _), some .string => true | _, _ => false) then Wss P ρ H S T x k else K6h P ρ o k
 | _ => K6h P ρ o k
theorem Wvw {P : Program} {I : W40} {ρ : W44} {o : Oper} {t : TypeId} {x : Operand} {H : OH} {id : Nat} (ho : o.op = .box t x) : Good P I o ρ H id (boxQ ρ id x) := by
 intro k r h
 unfold boxQ at h
 split at h <;> try (cases h; done)
 rename_i d hx
 refine ⟨_, _, h, fun k' => by simp only [boxQ, hx], Wq8 fun D U w a hops => ⟨(a.eval x).cells, t, ?_, ?_⟩⟩
 ·simp [execOp, ho, Instr.box, newVar, newRow, newObj, Sem.run]
 ·have := hops x (by simp [ho, Op.operands])
  rw [hx] at this
  exact DV.cells_rep this
theorem Wpu {P : Program} {I : W40} {ρ : W44} {o : Oper} {t : TypeId} {x y : Operand} {H : OH} {id : Nat} (ho : o.op = .store t x y) : Good P I o ρ H id (Wrk P ρ H t x y) := by
 intro k r h
 unfold Wrk at h
 split at h <;> try (cases h; done)
 rename_i b of d hx hy
 split at h <;> try (cases h; done)
 rename_i cs hb
 split at h <;> try (cases h; done)
 rename_i i hi
 cases hq : Nat.beq d.cells.length i.size && Nat.ble (of + d.cells.length) cs.length && d.cells.all Kh0 with
 | false => rw [hq] at h; cases h
 | true =>
  have hq0 := hq
  rw [hq] at h
  simp only [cond_true] at h
  exact ⟨_, _, h, fun k' => by simp only [Wrk, hx, hy, hb, hi, hq0, cond_true], Wsm ho hx hy hb (by simp only [Wvd, hi, hq0, cond_true])⟩
theorem Wvx {P : Program} {I : W40} {ρ : W44} {o : Oper} {t : TypeId} {x : Operand} {H : OH} {id : Nat} (ho : o.op = .box t x) : Good P I o ρ H id (boxS P ρ id t x) := by
 have lift : ∀ (f : KK → Option DV), (∀ k, boxS P ρ id t x k = f k) → Good P I o ρ H id f → Good P I o ρ H id (boxS P ρ id t x) := by
  intro f he hf k r h
  rw [he] at h
  obtain ⟨x', y', h1, h2, h3⟩ := hf k r h
  exact ⟨x', y', h1, fun k' => by rw [he]; exact h2 k', h3⟩
 cases hs : Wxx P t with
 | true => exact lift (boxX ρ id x) (fun k => by simp only [boxS, hs, cond_true]) (Wnj ho)
 | false =>
  cases hx : ρ x with
  | dv d => exact lift (boxQ ρ id x) (fun k => by simp only [boxS, hs, cond_false, hx]) (Wvw ho)
  | _ => exact lift (boxX ρ id x) (fun k => by simp only [boxS, hs, cond_false, hx]) (Wnj ho)
theorem Wpv {P : Program} {I : W40} {ρ : W44} {o : Oper} {t : TypeId} {H : OH} {id : Nat} (ho : o.op = .alloc t) : Good P I o ρ H id (Wns P id t) := by
 intro k r h
 unfold Wns at h
 cases hs : Wxx P t with
 | true =>
  rw [hs] at h
  simp only [cond_true] at h
  split at h <;> try (cases h; done)
  rename_i z hz
  refine ⟨_, _, h, fun k' => by simp only [Wns, hs, cond_true, hz], ?_⟩
  intro D U N w0 H' w a next Q hI _ hW hN hid hl hops hn
  obtain ⟨c1, c2⟩ := DV.cells_rep (U := U) (w := w) (.val z)
  unfold Oper.wp
  rw [show (execOp a.eval o).run P w = .ok (.value (.pointer (some ⟨w.heap.size, 0, none⟩))) (w.alloc (.cells z.cells t)) by simp [execOp, ho, Instr.alloc, K7w _ hz w, newVar, newRow, newObj, Sem.run]]
  refine hn _ _ _ _ (Knz hW.old hid _) (hW.newm hN hid hl (by simp [c1]) fun i x v e1 e2 => ?_) (fun b hb hne => by simp [updD, hne, hb]) ?_
  ·obtain ⟨y, hy, rfl⟩ := Ktf e1
   exact c2 i y v hy e2
  ·cases Wz9 P 3 t with
   | true => exact ⟨w.heap.size, z.cells, by simp [updD], ⟨_, Kol w _⟩, rfl, rfl⟩
   | false => exact ⟨w.heap.size, by simp [updD], rfl⟩
 | false =>
  rw [hs] at h
  simp only [cond_false] at h
  unfold Wvv at h
  split at h <;> try (cases h; done)
  rename_i z hz
  refine ⟨_, _, h, fun k' => by simp only [Wns, hs, cond_false, Wvv, hz], Wq8 fun D U w a hops => ⟨z.cells, t, ?_, (DV.cells_rep (U := U) (w := w) (.val z)).1, (DV.cells_rep (.val z)).2⟩⟩
  simp [execOp, ho, Instr.alloc, K7w _ hz w, newVar, newRow, newObj, Sem.run]
theorem Wpw {P : Program} {I : W40} {ρ : W44} {o : Oper} {t : TypeId} {x y : Operand} {H : OH} {id : Nat} (ho : o.op = .store t x y) : Good P I o ρ H id (Wkh P ρ H t x y) := by
 intro k r h
 unfold Wkh at h
 split at h
 ·rename_i b of d hx hy
  split at h
  ·rename_i cs hb
   obtain ⟨x', y', h1, h2, h3⟩ := Wpu (I := I) (id := id) ho k r h
   exact ⟨x', y', h1, fun k' => by simp only [Wkh, hx, hy, hb]; exact h2 k', h3⟩
  ·rename_i n1
   obtain ⟨x', y', h1, h2, h3⟩ := Wh2 (I := I) (id := id) ho k r h
   refine ⟨x', y', h1, fun k' => ?_, h3⟩
   simp only [Wkh, hx, hy]
   exact h2 k'
 ·rename_i n1
  obtain ⟨x', y', h1, h2, h3⟩ := Wh2 (I := I) (id := id) ho k r h
  refine ⟨x', y', h1, fun k' => ?_, h3⟩
  unfold Wkh
  split
  ·rename_i b of d hx hy; exact (n1 _ _ _ hx hy).elim
  ·exact h2 k'
theorem Wrl {P : Program} {I : W40} {K : Tab} (HK : Kfv P I K) (ρ : W44) (H : OH) (id : Nat) (o : Oper) : Good P I o ρ H id (opk P K ρ H id o) := by
 have lift : ∀ (f : KK → Option DV), (∀ k, opk P K ρ H id o k = f k) → Good P I o ρ H id f → Good P I o ρ H id (opk P K ρ H id o) := by
  intro f he hf k r h
  rw [he] at h
  obtain ⟨x, y, h1, h2, h3⟩ := hf k r h
  exact ⟨x, y, h1, fun k' => by rw [he]; exact h2 k', h3⟩
 cases ho : o.op with
 | move x => exact lift (fun k => k (ρ x) .none) (fun k => by simp only [opk, ho]) (fun k r h => ⟨_, _, h, fun _ => rfl, Kd4 fun D U w a hops => ⟨a.eval x, by simp [execOp, ho], hops x (by simp [ho, Op.operands])⟩⟩)
 | assign x => exact lift (fun k => k (ρ x) .none) (fun k => by simp only [opk, ho]) (fun k r h => ⟨_, _, h, fun _ => rfl, Kd4 fun D U w a hops => ⟨a.eval x, by simp [execOp, ho], hops x (by simp [ho, Op.operands])⟩⟩)
 | alloc t => exact lift _ (fun k => by simp only [opk, ho]) (Wpv ho)
 | makeMap t r => exact lift _ (fun k => by simp only [opk, ho]) (Wlf ho)
 | lookup t m i ok => exact lift _ (fun k => by simp only [opk, ho]) (Wnp ho)
 | mapUpdate t m key x => exact lift _ (fun k => by simp only [opk, ho]) (Wnq ho)
 | box t x => exact lift _ (fun k => by simp only [opk, ho]) (Wvx ho)
 | load t x => exact lift _ (fun k => by simp only [opk, ho]) (Wre (Wsx ho))
 | build t ps => exact lift _ (fun k => by simp only [opk, ho]) (Wpm ho)
 | field t x f => exact lift _ (fun k => by simp only [opk, ho]) (Wpn ho)
 | store t x y => exact lift _ (fun k => by simp only [opk, ho]) (Wre (Wpw ho))
 | fieldAddr T x f => exact lift _ (fun k => by simp only [opk, ho]) (Wpg ho)
 | nilCheck x => exact lift _ (fun k => by simp only [opk, ho]) (Wvg ho)
 | binOp b T x y ty => exact lift _ (fun k => by simp only [opk, ho]) (Wvq ho)
 | extract x i => exact lift _ (fun k => by simp only [opk, ho]) (Wlc ho)
 | index T x i => exact lift _ (fun k => by simp only [opk, ho]) (Wpj ho)
 | pick c a b => exact lift _ (fun k => by simp only [opk, ho]) (Wsq ho)
 | call c =>
  cases hn : Wxt P ρ c with
  | true => exact lift (Wnn ρ c) (fun k => by simp only [opk, ho]; rw [hn]; rfl) (Ws3 ho hn)
  | false => exact lift (Wer P K ρ H id o c) (fun k => by simp only [opk, ho]; rw [hn]; rfl) (Ws6 HK ho)
 | buildSlice t n ps => exact lift (Weo P ρ id t n ps) (fun k => by simp only [opk, ho]) (fun k r h => Wsn ho h)
 | makeSlice t l c => exact lift _ (fun k => by simp only [opk, ho]) (Wxk ho)
 | indexAddr t x i => exact lift _ (fun k => by simp only [opk, ho]) (Wso ho)
 | slice t x lo hi mx =>
  by_cases hstr : ∃ b, ρ x = .dv (.val (.string b))
  ·obtain ⟨b, hstr⟩ := hstr
   exact lift (K96 P ρ o t x lo hi mx) (fun k => by simp only [opk, ho, hstr]) (Whx ho)
  ·have he : ∀ k, opk P K ρ H id o k = bif K1k ρ o && (match prun P (execOp (ρF ρ) o) with | some _ => true | none => false) then K6h P ρ o k else K96 P ρ o t x lo hi mx k := by
    intro k
    simp only [opk, ho]
    split
    ·rename_i b hx; exact absurd ⟨b, hx⟩ hstr
    ·rfl
   cases hb : (K1k ρ o && (match prun P (execOp (ρF ρ) o) with | some _ => true | none => false)) with
   | true => exact lift (K6h P ρ o) (fun k => by rw [he, hb]; rfl) Kle
   | false => exact lift (K96 P ρ o t x lo hi mx) (fun k => by rw [he, hb]; rfl) (Whx ho)
 | convert S T x =>
  cases h0 : isTp (ρ x) with
  | true => exact lift (Ws1 P ρ S T x) (fun k => by simp only [opk, ho]; rw [h0]; rfl) (Ws2 ho)
  | false =>
  cases hb : (match P.underlying T with | some (.slice _) => true | _ => false) with
  | true => exact lift (Wvj P ρ S T x) (fun k => by simp only [opk, ho]; rw [h0, hb]; rfl) (Wsr ho)
  | false =>
   cases hb2 : (match P.underlying S, P.underlying T with | some (.slice _), some .string => true | _, _ => false) with
   | true => exact lift (Wss P ρ H S T x) (fun k => by simp only [opk, ho]; rw [h0, hb, hb2]; rfl) (Wst ho)
   | false => exact lift (K6h P ρ o) (fun k => by simp only [opk, ho]; rw [h0, hb, hb2]; rfl) Kle
 | _ => exact lift (K6h P ρ o) (fun k => by simp only [opk, ho]) Kle
theorem Wh9 {P : Program} {I : W40} {K : Tab} (HK : Kfv P I K) {ρ : W44} {H : OH} {id : Nat} {o : Oper} {k : KK} {r : DV} (h : opk P K ρ H id o k = some r) : W1u P I o ρ H id k r := by
 obtain ⟨x, y, h1, _, h3⟩ := Wrl (I := I) HK ρ H id o k r h
 exact ⟨x, y, h1, h3⟩
theorem Wia {P : Program} {I : W40} {K : Tab} (HK : Kfv P I K) (ρ : W44) (H : OH) (id : Nat) (o : Oper) (k : KK) (r : DV) (h : opk P K ρ H id o k = some r) : ∃ x y, k x y = some r ∧ ∀ k', opk P K ρ H id o k' = k' x y := by
 obtain ⟨x, y, h1, h2, _⟩ := Wrl (I := I) HK ρ H id o k r h
 exact ⟨x, y, h1, h2⟩
end Go.Pv
namespace Go.Pv
open Go Go.RowKit
def K24 (ops : W48) (ts : Tr) (n : Nat) (o : Oper) (yes no : Tr → Option DV) : Option DV :=
 match o.guard with
 | none => yes ts
 | some (j, want) => match (ops[j]?).bind (·.dst) with
  | none => none
  | some d => bif Nat.blt d n then (match (ts.get d).flat with
    | some (.bool b) => bif (bif want then b else !b) then putC 12 ts d (.dv (.val (.bool want))) yes else putC 12 ts d (.dv (.val (.bool (!want)))) no
    | some (.tuple _) => no ts
    | _ => none)
   else none
theorem Wnt {x : VV} {b : Bool} (h : x.flat = some (.bool b)) : x = .dv (.val (.bool b)) := by
 cases x with
 | dv d =>
  cases d with
  | val v => simp only [VV.flat, DV.flat, Option.some.injEq] at h; rw [h]
  | agg cs => simp only [VV.flat, DV.flat] at h; split at h <;> simp at h
  | tup cs => simp only [VV.flat, DV.flat] at h; split at h <;> simp at h
  | lst _ _ => simp [VV.flat, DV.flat] at h
  | err => simp [VV.flat, DV.flat] at h
 | ptr _ _ => simp [VV.flat] at h
 | osl _ _ _ _ _ => simp [VV.flat] at h
 | eptr _ => simp [VV.flat] at h
 | mp _ => simp [VV.flat] at h
 | tp _ _ _ => simp [VV.flat] at h
 | dead => simp [VV.flat] at h
 | vagg _ => simp [VV.flat] at h
 | vtup _ => simp [VV.flat] at h
theorem Wdp {ts : Tr} {d : Nat} {x : VV} (h : ts.get d = x) : Le ts (ts.put d x) := by
 intro t
 rcases Tr.get_put ts d x t with e | e
 ·left; rw [e]; split
  ·rename_i e; rw [e, h]
  ·rfl
 ·exact .inr e
def Kqn (ops : W48) (ts : Tr) (n : Nat) (o : Oper) (b : Bool) : Prop :=
 match o.guard with
 | none => b = true
 | some (j, want) => ∃ d v, (ops[j]?).bind (·.dst) = some d ∧ d < n ∧ (ts.get d).flat = some v ∧ ((∃ c, v = .bool c ∧ b = (c == want)) ∨ ((∃ vs, v = .tuple vs) ∧ b = false))
theorem K20 {ops : W48} {ts : Tr} {n : Nat} {o : Oper} {yes no : Tr → Option DV} {r : DV} (h : K24 ops ts n o yes no = some r) : ∃ b ts', Kqn ops ts n o b ∧ Le ts ts' ∧ (if b = true then yes ts' else no ts') = some r ∧ ∀ yes' no', K24 ops ts n o yes' no' = if b = true then yes' ts' else no' ts' := by
 unfold K24 at h ⊢
 unfold Kqn
 split at h
 ·exact ⟨true, ts, rfl, Le.refl ts, by simpa using h, fun _ _ => by simp⟩
 ·rename_i j want hg
  split at h <;> try (cases h; done)
  rename_i d hd
  cases hb : Nat.blt d n with
  | false => simp [hb] at h
  | true =>
   simp only [hb, cond_true] at h ⊢
   have hlt : d < n := Nat.le_of_ble_eq_true hb
   split at h <;> try (cases h; done)
   ·rename_i b hb'
    have hxe := Wnt hb'
    cases b <;> cases want <;> simp only [cond_true, cond_false, Bool.not_true, Bool.not_false] at h ⊢ <;> rw [Knt] at h
    ·exact ⟨true, ts.put d (.dv (.val (.bool false))), ⟨d, _, hd, hlt, hb', .inl ⟨false, rfl, rfl⟩⟩, Wdp hxe, (by first | (rw [if_pos rfl]; exact h) | (rw [if_neg (by simp)]; exact h)), fun yes' no' => by rw [Knt]; rfl⟩
    ·exact ⟨false, ts.put d (.dv (.val (.bool false))), ⟨d, _, hd, hlt, hb', .inl ⟨false, rfl, rfl⟩⟩, Wdp hxe, (by first | (rw [if_pos rfl]; exact h) | (rw [if_neg (by simp)]; exact h)), fun yes' no' => by rw [Knt]; rfl⟩
    ·exact ⟨false, ts.put d (.dv (.val (.bool true))), ⟨d, _, hd, hlt, hb', .inl ⟨true, rfl, rfl⟩⟩, Wdp hxe, (by first | (rw [if_pos rfl]; exact h) | (rw [if_neg (by simp)]; exact h)), fun yes' no' => by rw [Knt]; rfl⟩
    ·exact ⟨true, ts.put d (.dv (.val (.bool true))), ⟨d, _, hd, hlt, hb', .inl ⟨true, rfl, rfl⟩⟩, Wdp hxe, (by first | (rw [if_pos rfl]; exact h) | (rw [if_neg (by simp)]; exact h)), fun yes' no' => by rw [Knt]; rfl⟩
   ·rename_i vs hb'
    exact ⟨false, ts, ⟨d, _, hd, hlt, hb', .inr ⟨⟨vs, rfl⟩, rfl⟩⟩, Le.refl ts, by simpa using h, fun yes' no' => by simp⟩
theorem Kqn.real {ops : W48} {ts : Tr} {n : Nat} {o : Oper} {b : Bool} (h : Kqn ops ts n o b) {U : W42} {w : World} {D : W41} {a : Act} (hl : a.tmps.size = n)
  (ht : ∀ d ∈ o.looksAt ops, ∀ v, a.tmps[d]? = some v → VRep U w D (ts.get d) v) : Region.wanted o (yielded ops a.tmps) = b := by
 unfold Kqn at h
 unfold Region.wanted
 cases hg : o.guard with
 | none => rw [hg] at h; simp at h; rw [h]
 | some p =>
  obtain ⟨j, want⟩ := p
  rw [hg] at h
  obtain ⟨d, v, hd, hlt', hf, hv⟩ := h
  have hlt : d < a.tmps.size := by rw [hl]; exact hlt'
  have hm : d ∈ o.looksAt ops := by unfold Oper.looksAt; rw [hg]; simp only [hd]; simp
  have hr := VV.flat_rep hf (ht d hm _ (Array.getElem?_eq_getElem hlt))
  rcases hv with ⟨c, rfl, rfl⟩ | ⟨⟨vs, rfl⟩, rfl⟩
  ·have hy : yielded ops a.tmps j = some c := by simp [yielded, hd, Array.getElem?_eq_getElem hlt, hr]
   simp only [hy]
   cases c <;> cases want <;> rfl
  ·have hy : yielded ops a.tmps j = none := by simp [yielded, hd, Array.getElem?_eq_getElem hlt, hr]
   simp only [hy]
   rfl
theorem Wib {ops : W48} {ts : Tr} {n : Nat} {o : Oper} {yes no : Tr → Option DV} {r : DV} (h : K24 ops ts n o yes no = some r) {U : W42} {w : World} {D : W41} {a : Act} (ht : TRel U w D ts n a) :
  ∃ ts', Le ts ts' ∧ ((Region.wanted o (yielded ops a.tmps) = true ∧ yes ts' = some r) ∨ (Region.wanted o (yielded ops a.tmps) = false ∧ no ts' = some r)) := by
 obtain ⟨b, ts', hg, hle, hb, _⟩ := K20 h
 have := hg.real (a := a) ht.2.1 (fun d _ v h2 => ht.2.2 d v h2)
 cases b with
 | true => exact ⟨ts', hle, .inl ⟨this, by simpa using hb⟩⟩
 | false => exact ⟨ts', hle, .inr ⟨this, by simpa using hb⟩⟩
def appK (id : Nat) (H : W43) (eff : Eff) (k : List (Option Blk) → Option DV) : Option DV :=
 match eff with
 | .none => k H
 | e => frc (e.app id H) k
theorem Wpx (id : Nat) (H : W43) (eff : Eff) (k : List (Option Blk) → Option DV) : appK id H eff k = k (eff.app id H) := by
 cases eff <;> simp only [appK, K23] <;> rfl
def Kvy (P : Program) (K : Tab) (ops : W48) : List Nat → St → (St → Option DV) → Option DV
 | [], s, k => k s
 | i :: rest, ⟨ts, n, h⟩, k => match ops[i]? with
  | none => none
  | some o => K24 ops ts n o
   (fun ts => opk P K (Kry ts n) h h.length o fun x eff => putK ts o.dst x fun ts' => appK h.length h eff fun h' => Kvy P K ops rest ⟨ts', n, h'⟩ k)
   (fun ts => putK ts o.dst (.dv (.val undef)) fun ts' => Kvy P K ops rest ⟨ts', n, h⟩ k)
theorem K76 (P : Program) (K : Tab) (ops : W48) (i : Nat) (rest : List Nat) (s : St) (k : W46) : Kvy P K ops (i :: rest) s k = match ops[i]? with
  | none => none
  | some o => K24 ops s.tmps s.n o
   (fun ts => opk P K (Kry ts s.n) s.heap s.heap.length o fun x eff => Kvy P K ops rest ⟨putV ts o.dst x, s.n, eff.app s.heap.length s.heap⟩ k)
   (fun ts => Kvy P K ops rest ⟨putV ts o.dst (.dv (.val undef)), s.n, s.heap⟩ k) := by
 cases s
 simp only [Kvy, Wo9, Wpx]
structure Rel (I : W40) (D : W41) (U N : W42) (w0 : World) (s : St) (a : Act) (w : World) : Prop where
 t : TRel U w D s.tmps s.n a
 wr : WRel D U N w0 s.heap w
 n : Lt N w
 i0 : ∀ w', Ktd N w0 w' → I w'
theorem Wic {P : Program} {I : W40} {K : Tab} (HK : Kfv P I K) {ops : W48} : ∀ (l : List Nat) (s : St) (k : W46) (r : DV), Kvy P K ops l s k = some r →
  ∀ (D : W41) (U N : W42) (w0 : World) (a : Act) (w : World) (Q : W5b), Rel I D U N w0 s a w →
  (∀ s' D' U' a' w', k s' = some r → Rel I D' U' N w0 s' a' w' → Kei N D U w D' U' w' → Q .normal a' w') → wpOps P ops Q l a w
 | [], s, k, r, h, D, U, N, w0, a, w, Q, hR, hQ => hQ s D U a w h hR Kei.refl
 | i :: rest, s, k, r, h, D, U, N, w0, a, w, Q, hR, hQ => by
  simp only [K76] at h
  simp only [wpOps]
  cases ho : ops[i]? with
  | none => simp [ho] at h
  | some o =>
   simp only [ho] at h
   obtain ⟨ts1, hle, hcase⟩ := Wib h hR.t
   have ht1 := hR.t.le hle
   rcases hcase with ⟨hw, h⟩ | ⟨hw, h⟩
   ·simp only [hw, if_true]
    left
    obtain ⟨x, eff, hk, hok⟩ := Wh9 HK h
    refine hok.seq D U N w0 w a _ Q hR.i0 hR.wr hR.n (fun y _ => ht1.eval y) ?_
    intro v w' D' U' hon hW' hx
    refine Wic HK rest _ k r hk D' U' N w0 _ w' Q ⟨(ht1.onward hon).put o.dst hx, hW', hR.n.mono hon.size, hR.i0⟩ ?_
    intro s' D'' U'' a' w'' hk' hR' hon'
    exact hQ s' D'' U'' a' w'' hk' hR' (hon.trans hon')
   ·simp only [hw, Bool.false_eq_true, if_false]
    exact Wic HK rest _ k r h D U N w0 _ w Q ⟨ht1.put o.dst (.val _), hR.wr, hR.n, hR.i0⟩ hQ
end Go.Pv
namespace Go.Pv
open Go Go.RowKit
inductive PX where
 | normal
 | exit (id : Nat)
 | ret
def PX.out : PX → Exit
 | .normal => .normal
 | .exit id => .exit id
 | .ret => .ret
abbrev KC := PX → St → Option DV
def cutV (h0 : Nat) : VV → VV
 | .ptr b o => bif Nat.blt b h0 then .ptr b o else .dead
 | .osl e sz b o n => bif Nat.blt b h0 then .osl e sz b o n else .dead
 | .mp b => bif Nat.blt b h0 then .mp b else .dead
 | .tp T sz b => bif Nat.blt b h0 then .tp T sz b else .dead
 | .vagg _ => .dead
 | .vtup _ => .dead
 | x => x
def Wxy (ts : Tr) (h0 : Nat) : List Nat → Tr → (Tr → Option DV) → Option DV
 | [], acc, k => k acc
 | i :: is, acc, k => putC 12 acc i (cutV h0 (ts.get i)) fun acc' => Wxy ts h0 is acc' k
def Ws7 (ts : Tr) (h0 : Nat) : List Nat → Tr → Tr
 | [], acc => acc
 | i :: is, acc => Ws7 ts h0 is (acc.put i (cutV h0 (ts.get i)))
theorem Wrm (ts : Tr) (h0 : Nat) : ∀ (is : List Nat) (acc : Tr) (k : Tr → Option DV), Wxy ts h0 is acc k = k (Ws7 ts h0 is acc)
 | [], _, _ => rfl
 | i :: is, acc, k => by
  simp only [Wxy, Ws7]
  rw [Knt]
  exact Wrm ts h0 is _ k
theorem Wnu (ts : Tr) (h0 : Nat) : ∀ (is : List Nat) (acc : Tr), (∀ t, acc.get t = .dead ∨ acc.get t = cutV h0 (ts.get t)) → ∀ t, (Ws7 ts h0 is acc).get t = .dead ∨ (Ws7 ts h0 is acc).get t = cutV h0 (ts.get t)
 | [], acc, h, t => h t
 | i :: is, acc, h, t => by
  refine Wnu ts h0 is _ (fun t => ?_) t
  rcases Tr.get_put acc i (cutV h0 (ts.get i)) t with e | e
  ·rw [e]; split
   ·rename_i e; rw [e]; exact .inr rfl
   ·exact h t
  ·exact .inl e
def cutO (h0 : Nat) : Option Blk → Option Blk
 | some (.mix cs) => some (.mix (cs.map (cutV h0)))
 | x => x
def Wvy (live : List Nat) (h0 : Nat) (s : St) : St := ⟨Ws7 s.tmps h0 live (.leaf .dead), s.n, (s.heap.take h0).map (cutO h0)⟩
def W0a (live : List Nat) (h0 : Nat) (s : St) (k : W46) : Option DV := match s with
 | ⟨ts, n, h⟩ => Wxy ts h0 live (.leaf .dead) fun ts => frc ((h.take h0).map (cutO h0)) fun h => k ⟨ts, n, h⟩
theorem Wrn (live : List Nat) (h0 : Nat) (s : St) (k : W46) : W0a live h0 s k = k (Wvy live h0 s) := by
 cases s
 unfold W0a Wvy
 simp only [Wrm, K23]
def cutD (D : W41) (h0 : Nat) : Nat → Option Nat := fun b => if b < h0 then D b else none
theorem Wdq {U : W42} {w : World} {D : W41} (h0 : Nat) {x : VV} {v : Value} (h : CRep U w D x v) : CRep U w (cutD D h0) (cutV h0 x) v := by
 cases x with
 | dv d => exact h
 | dead => trivial
 | ptr b o =>
  simp only [cutV]
  cases hb : Nat.blt b h0 with
  | false => trivial
  | true =>
   obtain ⟨k, hk, e⟩ := h
   have : b < h0 := Nat.le_of_ble_eq_true hb
   exact ⟨k, by simp [cutD, this, hk], e⟩
 | osl e sz b o n =>
  simp only [cutV]
  cases hb : Nat.blt b h0 with
  | false => trivial
  | true =>
   obtain ⟨k, c, cur, hk, hc, hh, hs, e⟩ := h
   have : b < h0 := Nat.le_of_ble_eq_true hb
   exact ⟨k, c, cur, by simp [cutD, this, hk], hc, hh, hs, e⟩
 | mp b =>
  simp only [cutV]
  cases hb : Nat.blt b h0 with
  | false => trivial
  | true =>
   obtain ⟨k, hk, e⟩ := h
   have : b < h0 := Nat.le_of_ble_eq_true hb
   exact ⟨k, by simp [cutD, this, hk], e⟩
 | tp T sz b =>
  simp only [cutV]
  cases hb : Nat.blt b h0 with
  | false => trivial
  | true =>
   obtain ⟨k, cur, hk, hh, hs, e⟩ := h
   have : b < h0 := Nat.le_of_ble_eq_true hb
   exact ⟨k, cur, by simp [cutD, this, hk], hh, hs, e⟩
 | eptr cs => exact h
 | vagg cs => trivial
 | vtup cs => trivial
theorem Wxz {U : W42} {w : World} {D : W41} (h0 : Nat) {x : VV} {v : Value} (h : VRep U w D x v) : VRep U w (cutD D h0) (cutV h0 x) v := by
 cases x with
 | dv d => exact h
 | dead => trivial
 | ptr b o => have := Wdq (U := U) (w := w) (x := .ptr b o) h0 h; simp only [cutV] at this ⊢; cases hb : Nat.blt b h0 <;> rw [hb] at this <;> exact this
 | osl e sz b o n => have := Wdq (U := U) (w := w) (x := .osl e sz b o n) h0 h; simp only [cutV] at this ⊢; cases hb : Nat.blt b h0 <;> rw [hb] at this <;> exact this
 | mp b => have := Wdq (U := U) (w := w) (x := .mp b) h0 h; simp only [cutV] at this ⊢; cases hb : Nat.blt b h0 <;> rw [hb] at this <;> exact this
 | tp T sz b => have := Wdq (U := U) (w := w) (x := .tp T sz b) h0 h; simp only [cutV] at this ⊢; cases hb : Nat.blt b h0 <;> rw [hb] at this <;> exact this
 | eptr cs => exact h
 | vagg cs => trivial
 | vtup cs => trivial
theorem Wa6 {H : W43} {h0 b : Nat} {B : Blk} (h : ((H.take h0).map (cutO h0))[b]? = some (some B)) : b < h0 ∧ ∃ B', H[b]? = some (some B') ∧ B'.live = B.live ∧ (∀ cs, B = .cells cs → B' = .cells cs) ∧ (∀ cs, B = .mix cs → ∃ cs', B' = .mix cs' ∧ cs = cs'.map (cutV h0)) ∧ (∀ kvs, B = .dict kvs → B' = .dict kvs) := by
 rw [List.getElem?_map, List.getElem?_take] at h
 split at h
 ·rename_i hlt
  refine ⟨hlt, ?_⟩
  cases hH : H[b]? with
  | none => rw [hH] at h; cases h
  | some x =>
   rw [hH] at h
   simp only [Option.map_some, Option.some.injEq] at h
   cases x with
   | none => cases h
   | some B' =>
    cases B' with
    | cells cs => simp only [cutO, Option.some.injEq] at h; subst h; exact ⟨_, rfl, rfl, fun _ e => e, (fun _ e => by cases e), (fun _ e => by cases e)⟩
    | gone => simp only [cutO, Option.some.injEq] at h; subst h; exact ⟨_, rfl, rfl, fun _ e => e, (fun _ e => by cases e), (fun _ e => by cases e)⟩
    | dict kvs => simp only [cutO, Option.some.injEq] at h; subst h; exact ⟨_, rfl, rfl, fun _ e => e, (fun _ e => by cases e), fun _ e => e⟩
    | mix cs => simp only [cutO, Option.some.injEq] at h; subst h; exact ⟨_, rfl, rfl, (fun _ e => by cases e), (fun _ e => ⟨cs, rfl, (by cases e; rfl)⟩), (fun _ e => by cases e)⟩
 ·cases h
theorem Wx0 {H : W43} {h0 b : Nat} {B : Blk} (hb : b < h0) (h : H[b]? = some (some B)) : ∃ B', ((H.take h0).map (cutO h0))[b]? = some (some B') := by
 rw [List.getElem?_map, List.getElem?_take, if_pos hb, h]
 cases B <;> exact ⟨_, rfl⟩
theorem Rel.trim {I : W40} {D : W41} {U : W42} {N : W42} {w0 : World} {s : St} {a : Act} {w : World} (h : Rel I D U N w0 s a w) (live : List Nat) (h0 : Nat) : Rel I (cutD D h0) U N w0 (Wvy live h0 s) a w := by
 refine ⟨⟨h.t.1, h.t.2.1, fun t v h2 => ?_⟩, ⟨h.wr.below, h.wr.old, ?_, ?_, ?_, ?_, ?_, ?_⟩, h.n, h.i0⟩
 ·rcases Wnu s.tmps h0 live (.leaf .dead) (fun t => .inl rfl) t with e | e
  ·simp only [Wvy]; rw [e]; trivial
  ·simp only [Wvy]; rw [e]; exact Wxz h0 (h.t.2.2 t v h2)
 ·intro b k hb
  unfold cutD at hb
  split at hb <;> try (cases hb; done)
  rename_i hlt
  obtain ⟨g1, g2, B, g3⟩ := h.wr.own b k hb
  exact ⟨g1, g2, Wx0 hlt g3⟩
 ·intro b k vs hb hH
  unfold cutD at hb
  split at hb <;> try (cases hb; done)
  rename_i hlt
  obtain ⟨_, B', g1, _, g3, _⟩ := Wa6 hH
  rw [g3 vs rfl] at g1
  exact h.wr.hold b k vs hb g1
 ·intro b k vs hb hH
  unfold cutD at hb
  split at hb <;> try (cases hb; done)
  rename_i hlt
  obtain ⟨_, B', g1, _, _, g4, _⟩ := Wa6 hH
  obtain ⟨cs', rfl, rfl⟩ := g4 vs rfl
  obtain ⟨g2, cs, T, g3, g5, g6⟩ := h.wr.holdm b k cs' hb g1
  refine ⟨g2, cs, T, g3, by simpa using g5, fun i x v e1 e2 => ?_⟩
  rw [List.getElem?_map] at e1
  cases hx : cs'[i]? with
  | none => rw [hx] at e1; cases e1
  | some y => rw [hx] at e1; simp at e1; subst e1; exact Wdq h0 (g6 i y v hx e2)
 ·intro b k kvs hb hH
  unfold cutD at hb
  split at hb <;> try (cases hb; done)
  obtain ⟨_, B', g1, _, _, _, g5⟩ := Wa6 hH
  rw [g5 kvs rfl] at g1
  exact h.wr.holdp b k kvs hb g1
 ·intro b vs hb
  obtain ⟨hlt, B', g1, _⟩ := Wa6 hb
  obtain ⟨k, hk⟩ := h.wr.all b B' g1
  exact ⟨k, by simp [cutD, hlt, hk]⟩
 ·intro b b' k B B' hH hH' l1 l2 hb hb'
  unfold cutD at hb hb'
  split at hb <;> try (cases hb; done)
  split at hb' <;> try (cases hb'; done)
  obtain ⟨_, C, g1, g2, _⟩ := Wa6 hH
  obtain ⟨_, C', g1', g2', _⟩ := Wa6 hH'
  exact h.wr.inj b b' k C C' g1 g1' (g2.trans l1) (g2'.trans l2) hb hb'
def Wjc (body : St → KC → Option DV) (live : List Nat) (h0 : Nat) : Nat → St → KC → Option DV
 | 0, _, _ => none
 | n + 1, s, k => W0a live h0 s fun s => body s fun e s' => match e with
  | .normal => Wjc body live h0 n s' k
  | e => k e s'
def K2e : Code → Option Nat
 | .region id _ _ => some id
 | .seq a b => match K2e a with | some i => some i | none => K2e b
 | .cond _ a b => match K2e a with | some i => some i | none => K2e b
 | .block _ b => K2e b
 | .loop b => K2e b
 | .scope b => K2e b
 | _ => none
def Wro : List (Nat × List Nat) → Nat
 | (0, r :: _) :: _ => r
 | _ => 0
def mOf : List (Nat × List Nat) → Nat
 | (0, _ :: m :: _) :: _ => m
 | _ => 0
def Wpy : List (Nat × List Nat) → List Nat
 | _ :: (0, l) :: _ => l
 | _ => []
def Wy6 (lv : W45) (c : Code) (n : Nat) : List Nat :=
 match K2e c with
 | some i => match lv.find? (fun p => Nat.beq p.1 i) with | some p => p.2 | none => List.range n
 | none => List.range n
structure Kkc (M : Nat) (N : W42) (D : W41) (U : W42) (w : World) (D' : W41) (U' : W42) (w' : World) : Prop where
 set : ∀ k, U k → U' k
 keep : ∀ k, U k → w'.heap[k]? = w.heap[k]?
 size : w.heap.size ≤ w'.heap.size
 back : ∀ k, U' k → U k ∨ ¬ N k
 lent : ∀ b k, b < M → D b = some k → D' b = some k
 siz : ∀ b k cur T f, b < M → D b = some k → w.heap[k]? = some (.cells cur T f) → ∃ cur', (∃ f', w'.heap[k]? = some (.cells cur' T f')) ∧ cur'.size = cur.size
theorem Kei.weak {M : Nat} {N : W42} {D D' : W41} {U U' : W42} {w w' : World} (h : Kei N D U w D' U' w') : Kkc M N D U w D' U' w' := ⟨h.set, h.keep, h.size, h.back, fun b k _ hb => h.ids b k hb, fun b k cur T f _ hb hc => h.siz b k cur T f hb hc⟩
theorem Kkc.refl {M : Nat} {N : W42} {D : W41} {U : W42} {w : World} : Kkc M N D U w D U w := ⟨fun _ h => h, fun _ _ => rfl, Nat.le_refl _, fun _ h => .inl h, fun _ _ _ h => h, fun _ _ cur _ _ _ _ h => ⟨cur, ⟨_, h⟩, rfl⟩⟩
theorem Kkc.trans {M : Nat} {N : W42} {D D' D'' : W41} {U U' U'' : W42} {w w' w'' : World} (h : Kkc M N D U w D' U' w') (h' : Kkc M N D' U' w' D'' U'' w'') : Kkc M N D U w D'' U'' w'' :=
 ⟨fun k hk => h'.set k (h.set k hk), fun k hk => (h'.keep k (h.set k hk)).trans (h.keep k hk), Nat.le_trans h.size h'.size, fun k hk => (h'.back k hk).elim (h.back k) .inr, fun b k hb hk => h'.lent b k hb (h.lent b k hb hk), fun b k cur T f hb hk hc => by
  obtain ⟨c1, ⟨f1, g1⟩, s1⟩ := h.siz b k cur T f hb hk hc
  obtain ⟨c2, g2, s2⟩ := h'.siz b k c1 T f1 hb (h.lent b k hb hk) g1
  exact ⟨c2, g2, s2.trans s1⟩⟩
theorem Kkc.from {M : Nat} {N : W42} {D E D' : W41} {U U' : W42} {w w' : World} (h : Kkc M N E U w D' U' w') (he : ∀ b k, b < M → D b = some k → E b = some k) : Kkc M N D U w D' U' w' := ⟨h.set, h.keep, h.size, h.back, fun b k hb hk => h.lent b k hb (he b k hb hk), fun b k cur T f hb hk hc => h.siz b k cur T f hb (he b k hb hk) hc⟩
theorem Kkc.from' {M : Nat} {N : W42} {D E D' : W41} {U U' : W42} {w w' : World} (h : Kkc M N D U w D' U' w') (he : ∀ b k, b < M → D' b = some k → E b = some k) : Kkc M N D U w E U' w' := ⟨h.set, h.keep, h.size, h.back, fun b k hb hk => he b k hb (h.lent b k hb hk), h.siz⟩
def Wbd (M : Nat) (P : Program) (I : W40) (c : Code) (s : St) (k : KC) (r : DV) : Prop :=
 ∀ (D : W41) (U N : W42) (w0 : World) (a : Act) (w : World) (Q : W5b), Rel I D U N w0 s a w →
  (∀ e s' D' U' a' w', k e s' = some r → Rel I D' U' N w0 s' a' w' → Kkc M N D U w D' U' w' → Q e.out a' w') → c.wp P Q a w
theorem Wx1 {M : Nat} {P : Program} {I : W40} {c : Code} {body : St → KC → Option DV} (hb : ∀ s k r, body s k = some r → Wbd M P I c s k r) (live : List Nat) (h0 n : Nat) (s : St) (k : KC) (r : DV) (hM : M ≤ h0)
  (h : Wjc body live h0 n s k = some r) : Wbd M P I (.loop c) s k r := by
 intro D U N w0 a w Q hR hQ b kk cs
 have key : ∀ (n : Nat) (s : St) (D1 : W41) (U1 : W42) (a1 : Act) (w1 : World), Wjc body live h0 n s k = some r → Rel I D1 U1 N w0 s a1 w1 → Kkc M N D U w D1 U1 w1 →
   ∃ e a' w', Q e a' w' ∧ Arrives P (lone (b.at a1 (.code c :: .inLoop c :: kk)) cs w1) b kk cs e a' w' := by
  intro n
  induction n with
  | zero => intro s D1 U1 a1 w1 h; simp [Wjc] at h
  | succ n ih =>
   intro s D1 U1 a1 w1 h hR1 hon
   simp only [Wjc, Wrn] at h
   obtain ⟨e, a2, w2, hq, harr⟩ := hb _ _ r h _ U1 N w0 a1 w1
    (fun e a' w' => match e with
     | .normal => ∃ s' D' U', Wjc body live h0 n s' k = some r ∧ Rel I D' U' N w0 s' a' w' ∧ Kkc M N D U w D' U' w'
     | e => Q e a' w') (hR1.trim live h0)
    (fun e s' D' U' a' w' hk hR' hon' => by
     cases e with
     | normal => exact ⟨s', D', U', hk, hR', hon.trans (hon'.from fun b k hb hk => by simp only [cutD, if_pos (Nat.lt_of_lt_of_le hb hM)]; exact hk)⟩
     | exit i => exact hQ (.exit i) s' D' U' a' w' hk hR' (hon.trans (hon'.from fun b k hb hk => by simp only [cutD, if_pos (Nat.lt_of_lt_of_le hb hM)]; exact hk))
     | ret => exact hQ .ret s' D' U' a' w' hk hR' (hon.trans (hon'.from fun b k hb hk => by simp only [cutD, if_pos (Nat.lt_of_lt_of_le hb hM)]; exact hk))) b (.inLoop c :: kk) cs
   cases e with
   | normal =>
    obtain ⟨s', D', U', hl, hR', hon'⟩ := hq
    obtain ⟨e3, a3, w3, hq3, harr3⟩ := ih s' D' U' a2 w2 hl hR' hon'
    exact ⟨e3, a3, w3, hq3, .of_steps (Steps.trans harr (.one step_inLoop)) harr3⟩
   | exit id => exact ⟨_, a2, w2, hq, .pass (x := .inLoop c) rfl (fun _ _ => .inl (by simp)) harr⟩
   | goto l => exact ⟨_, a2, w2, hq, .pass (x := .inLoop c) rfl (fun _ _ => .inl (by simp)) harr⟩
   | ret => exact ⟨_, a2, w2, hq, .pass (x := .inLoop c) rfl (fun _ _ => .inl (by simp)) harr⟩
   | panic ch => exact ⟨_, a2, w2, hq, .pass (x := .inLoop c) rfl (fun _ _ => .inl (by simp)) harr⟩
   | outgrown => exact ⟨_, a2, w2, hq, .pass (x := .inLoop c) rfl (fun _ _ => .inl (by simp)) harr⟩
 obtain ⟨e, a', w', hq, harr⟩ := key n s D U a w h hR Kkc.refl
 exact ⟨e, a', w', hq, .of_steps (.one step_loop) harr⟩
end Go.Pv
namespace Go.Pv
open Go Go.RowKit
inductive Anc (ops : W48) : Nat → Nat → Prop
 | one {j : Nat} {o : Oper} {e : Edge} : ops[j]? = some o → e ∈ o.after → Region.binds .any e = true → Anc ops j e.on
 | more {j i : Nat} {o : Oper} {e : Edge} : ops[j]? = some o → e ∈ o.after → Region.binds .any e = true → Anc ops e.on i → Anc ops j i
def Wki : List Nat → List Nat → List Nat
 | [], acc => acc
 | x :: xs, acc => bif acc.any (Nat.beq x) then Wki xs acc else Wki xs (x :: acc)
theorem Wa7 : ∀ (xs acc : List Nat) (i : Nat), i ∈ Wki xs acc → i ∈ xs ∨ i ∈ acc
 | [], acc, i, h => .inr h
 | x :: xs, acc, i, h => by
  simp only [Wki] at h
  cases hx : acc.any (Nat.beq x) with
  | true => simp [hx] at h; rcases Wa7 xs acc i h with h | h; exact .inl (by simp [h]); exact .inr h
  | false =>
   simp [hx] at h
   rcases Wa7 xs (x :: acc) i h with h | h
   ·exact .inl (by simp [h])
   ·simp at h; rcases h with rfl | h; exact .inl (by simp); exact .inr h
def Ws8 (acc : List (List Nat)) : List Edge → List Nat
 | [] => []
 | e :: es => bif Region.binds .any e then Wki [e.on] (Wki (acc.getD e.on []) (Ws8 acc es)) else Ws8 acc es
def W0b : List Oper → List (List Nat) → List (List Nat)
 | [], acc => acc
 | o :: os, acc => W0b os (acc ++ [Ws8 acc o.after.toList])
def ancT (ops : W48) : List (List Nat) := W0b ops.toList []
theorem Wca (ops : W48) (acc : List (List Nat)) (h : ∀ (j i : Nat), i ∈ acc.getD j [] → Anc ops j i) (j : Nat) (o : Oper) (ho : ops[j]? = some o) : ∀ (es : List Edge), (∀ e ∈ es, e ∈ o.after) → ∀ i, i ∈ Ws8 acc es → Anc ops j i
 | [], _, i, hi => by simp [Ws8] at hi
 | e :: es, hes, i, hi => by
  simp only [Ws8] at hi
  cases hb : Region.binds .any e with
  | false => simp [hb] at hi; exact Wca ops acc h j o ho es (fun x hx => hes x (by simp [hx])) i hi
  | true =>
   simp only [hb, cond_true] at hi
   rcases Wa7 _ _ _ hi with hi | hi
   ·simp at hi; subst hi; exact .one ho (hes e (by simp)) hb
   ·rcases Wa7 _ _ _ hi with hi | hi
    ·exact .more ho (hes e (by simp)) hb (h _ _ hi)
    ·exact Wca ops acc h j o ho es (fun x hx => hes x (by simp [hx])) i hi
theorem Wid (ops : W48) : ∀ (os : List Oper) (acc : List (List Nat)), (∀ k, os[k]? = ops[acc.length + k]?) → (∀ (j i : Nat), i ∈ acc.getD j [] → Anc ops j i) → ∀ (j i : Nat), i ∈ (W0b os acc).getD j [] → Anc ops j i
 | [], acc, _, h, j, i, hi => h j i hi
 | o :: os, acc, hos, h, j, i, hi => by
  refine Wid ops os _ (fun k => ?_) ?_ j i hi
  ·have := hos (k + 1)
   simp only [List.getElem?_cons_succ] at this
   rw [this]; congr 1; simp; omega
  ·intro j i hi
   have ho : ops[acc.length]? = some o := by have := hos 0; simpa using this.symm
   rw [List.getD_eq_getElem?_getD, List.getElem?_append] at hi
   split at hi
   ·exact h j i (by rw [List.getD_eq_getElem?_getD]; exact hi)
   ·rename_i hge
    by_cases e : j = acc.length
    ·subst e; simp at hi
     exact Wca ops acc h _ o ho o.after.toList (fun e he => by simpa using he) i hi
    ·rw [List.getElem?_eq_none (by simp; omega)] at hi; simp at hi
theorem Wa8 (ops : W48) (j i : Nat) (h : i ∈ (ancT ops).getD j []) : Anc ops j i :=
 Wid ops ops.toList [] (fun k => by simp) (fun j i h => by simp at h) j i h
def Kcz (l : Array Bool) (i : Nat) : Prop := l.getD i false = true
def K25 (ops : W48) (l : Array Bool) : Prop := ∀ (j : Nat) (o : Oper), ops[j]? = some o → Kcz l j → ∀ e ∈ o.after, Region.binds .any e = true → Kcz l e.on
theorem Anc.listed {ops : W48} {l : Array Bool} (hc : K25 ops l) {j i : Nat} (h : Anc ops j i) : Kcz l j → Kcz l i := by
 induction h with
 | one ho he hb => exact fun hl => hc _ _ ho hl _ he hb
 | more ho he hb _ ih => exact fun hl => ih (hc _ _ ho hl _ he hb)
theorem Wvz {l : Array Bool} {i : Nat} (hi : i < l.size) : l.getD i true = l.getD i false := by simp [Array.getD, hi]
theorem Km2 {ops : W48} {l : Array Bool} {i : Nat} (hs : l.size = ops.size) : i ∈ Region.ready .any ops l ↔ ¬ Kcz l i ∧ ∃ o, ops[i]? = some o ∧ ∀ e ∈ o.after, Region.binds .any e = true → Kcz l e.on := by
 unfold Region.ready Kcz
 rw [List.mem_filter]
 have key : ∀ o : Oper, (o.after.all fun e => !Region.binds .any e || l.getD e.on false) = true ↔ ∀ e ∈ o.after, Region.binds .any e = true → l.getD e.on false = true := by
  intro o
  rw [Array.all_eq_true']
  constructor
  ·intro h e he hb
   have := h e he
   rw [hb] at this
   simpa using this
  ·intro h e he
   cases hb : Region.binds .any e with
   | false => rfl
   | true => rw [h e he hb]; rfl
 constructor
 ·rintro ⟨h1, h2⟩
  have hi : i < ops.size := by simpa using h1
  rw [Array.getElem?_eq_getElem hi] at h2 ⊢
  rw [Wvz (by omega), Option.map_some, Option.getD_some, Bool.and_eq_true] at h2
  have h21 := h2.1
  refine ⟨(by intro h; rw [h] at h21; cases h21), _, rfl, (key _).1 h2.2⟩
 ·rintro ⟨h1, o, h2, h3⟩
  have hi : i < ops.size := (Array.getElem?_eq_some_iff.1 h2).1
  refine ⟨by simpa using hi, ?_⟩
  rw [h2, Wvz (by omega), Option.map_some, Option.getD_some, (key o).2 h3]
  simpa using h1
theorem Anc.ready {ops : W48} {l : Array Bool} (hs : l.size = ops.size) (hc : K25 ops l) {j i : Nat} (h : Anc ops j i) (hr : j ∈ Region.ready .any ops l) : Kcz l i := by
 obtain ⟨_, o, ho, he⟩ := (Km2 hs).1 hr
 cases h with
 | one ho' he' hb => rw [ho] at ho'; cases ho'; exact he _ he' hb
 | more ho' he' hb h2 => rw [ho] at ho'; cases ho'; exact h2.listed hc (he _ he' hb)
theorem Khb {l : Array Bool} {i j : Nat} (hi : i < l.size) : Kcz (l.setIfInBounds i true) j ↔ j = i ∨ Kcz l j := by
 unfold Kcz
 simp only [Array.getD_eq_getD_getElem?, Array.getElem?_setIfInBounds]
 by_cases h : i = j
 ·subst h; simp [hi]
 ·simp [h, Ne.symm h]
theorem K25.set {ops : W48} {l : Array Bool} (hs : l.size = ops.size) (hc : K25 ops l) {i : Nat} (hr : i ∈ Region.ready .any ops l) : K25 ops (l.setIfInBounds i true) := by
 obtain ⟨_, o, ho, he⟩ := (Km2 hs).1 hr
 have hi : i < l.size := by rw [hs]; exact (Array.getElem?_eq_some_iff.1 ho).1
 intro j oj hoj hl e hem hb
 rw [Khb hi] at hl ⊢
 rcases hl with rfl | hl
 ·rw [ho] at hoj; cases hoj; exact .inr (he e hem hb)
 ·exact .inr (hc j oj hoj hl e hem hb)
def left (n : Nat) (l : Array Bool) : Nat := (List.range n).countP fun i => !(l.getD i false)
theorem Wnv {p q : Nat → Bool} (h : ∀ i, q i = true → p i = true) : ∀ (l : List Nat) (i : Nat), i ∈ l → p i = true → q i = false → l.countP q < l.countP p
 | [], i, hi, _, _ => by simp at hi
 | x :: xs, i, hi, hp, hq => by
  have mono : ∀ l : List Nat, l.countP q ≤ l.countP p := fun l => List.countP_mono_left (fun x _ => h x)
  simp only [List.countP_cons]
  simp at hi
  rcases hi with rfl | hi
  ·have := mono xs; simp [hp, hq]; omega
  ·have := Wnv h xs i hi hp hq
   have : (if q x = true then 1 else 0) ≤ (if p x = true then 1 else 0) := by
    by_cases hx : q x = true
    ·simp [hx, h x hx]
    ·simp [hx]
   omega
theorem Wrp {n : Nat} {l : Array Bool} {i : Nat} (hi : i < n) (hs : l.size = n) (hl : ¬ Kcz l i) : left n (l.setIfInBounds i true) < left n l := by
 refine Wnv (fun j hj => ?_) _ i (by simpa using hi) (by unfold Kcz at hl; simpa using hl) ?_
 ·by_cases h : l.getD j false = true
  ·have : Kcz (l.setIfInBounds i true) j := (Khb (by omega)).2 (.inr h)
   unfold Kcz at this
   rw [this] at hj; simp at hj
  ·simpa using h
 ·have : Kcz (l.setIfInBounds i true) i := (Khb (by omega)).2 (.inl rfl)
  unfold Kcz at this
  rw [this]; rfl
theorem Wie {n : Nat} {l : Array Bool} (h : left n l = 0) : ∀ i, i < n → Kcz l i := by
 intro i hi
 have := List.countP_eq_zero.1 h i (by simpa using hi)
 unfold Kcz
 simpa using this
def Kth : Nat → List Oper → Bool
 | _, [] => true
 | i, o :: os => (o.after.toList.all fun e => !(Region.binds .any e) || Nat.blt e.on i) && Kth (i + 1) os
theorem Kom : ∀ (i : Nat) (os : List Oper), Kth i os = true → ∀ (k : Nat) (o : Oper), os[k]? = some o → ∀ e ∈ o.after, Region.binds .any e = true → e.on < i + k
 | _, [], _, k, o, h => by simp at h
 | i, o' :: os, hb, 0, o, h => by
  simp at h; subst h
  simp only [Kth, Bool.and_eq_true] at hb
  intro e he hbe
  have := List.all_eq_true.1 hb.1 e (by simpa using he)
  rw [hbe] at this
  have h2 : Nat.blt e.on i = true := by simpa using this
  exact Nat.le_of_ble_eq_true h2
 | i, o' :: os, hb, k + 1, o, h => by
  simp only [Kth, Bool.and_eq_true] at hb
  have := Kom (i + 1) os hb.2 k o (by simpa using h)
  intro e he hbe
  have := this e he hbe
  omega
theorem Wfr {ops : W48} {l : Array Bool} (hs : l.size = ops.size) (he : Kth 0 ops.toList = true) (hr : Region.ready .any ops l = []) : ∀ i, i < ops.size → Kcz l i := by
 intro i
 induction i using Nat.strongRecOn with
 | _ i ih =>
  intro hi
  by_cases hl : Kcz l i
  ·exact hl
  ·have : i ∈ Region.ready .any ops l := (Km2 hs).2 ⟨hl, ops[i], Array.getElem?_eq_getElem hi, fun e hem hb => by
    have := Kom 0 ops.toList he i ops[i] (by simp [hi]) e hem hb
    exact ih e.on (by omega) (by omega)⟩
   rw [hr] at this; simp at this
end Go.Pv
namespace Go.Pv
open Go Go.RowKit
def parK (P : Program) (K : Tab) (ops : W48) (base : Nat) : List Nat → St → (St → Option DV) → Option DV
 | [], s, k => k s
 | i :: rest, ⟨ts, n, h⟩, k => match ops[i]? with
  | none => none
  | some o => K24 ops ts n o
   (fun ts => opk P K (Kry ts n) h (base + i) o fun x eff => match eff with
    | .none => putK ts o.dst x fun ts' => parK P K ops base rest ⟨ts', n, h⟩ k
    | .new cs => putK ts o.dst x fun ts' => appK (base + i) h (.new cs) fun h' => parK P K ops base rest ⟨ts', n, h'⟩ k
    | .newm cs => putK ts o.dst x fun ts' => appK (base + i) h (.newm cs) fun h' => parK P K ops base rest ⟨ts', n, h'⟩ k
    | _ => none)
   (fun ts => putK ts o.dst (.dv (.val undef)) fun ts' => parK P K ops base rest ⟨ts', n, h⟩ k)
theorem Wnw (P : Program) (K : Tab) (ops : W48) (base i : Nat) (rest : List Nat) (s : St) (k : W46) : parK P K ops base (i :: rest) s k = match ops[i]? with
  | none => none
  | some o => K24 ops s.tmps s.n o
   (fun ts => opk P K (Kry ts s.n) s.heap (base + i) o fun x eff => match eff with
    | .none => parK P K ops base rest ⟨putV ts o.dst x, s.n, s.heap⟩ k
    | .new cs => parK P K ops base rest ⟨putV ts o.dst x, s.n, (Eff.new cs).app (base + i) s.heap⟩ k
    | .newm cs => parK P K ops base rest ⟨putV ts o.dst x, s.n, (Eff.newm cs).app (base + i) s.heap⟩ k
    | _ => none)
   (fun ts => parK P K ops base rest ⟨putV ts o.dst (.dv (.val undef)), s.n, s.heap⟩ k) := by
 cases s
 simp only [parK, Wo9, Wpx]
def Eff.quiet : Eff → Bool
 | .none => true
 | .new _ => true
 | .newm _ => true
 | _ => false
structure Stp (P : Program) (I : W40) (ops : W48) (base i : Nat) (s s' : St) (x : VV) (eff : Eff) : Prop where
 quiet : eff.quiet = true
 ok : ∃ o ts, ops[i]? = some o ∧ Le s.tmps ts ∧ s' = ⟨putV ts o.dst x, s.n, eff.app (base + i) s.heap⟩ ∧
  ((Kqn ops s.tmps s.n o true ∧ OpOk P I o (Kry ts s.n) s.heap (base + i) x eff) ∨ (Kqn ops s.tmps s.n o false ∧ x = .dv (.val undef) ∧ eff = .none))
theorem Wes {P : Program} {I : W40} {K : Tab} (HK : Kfv P I K) {ops : W48} {base : Nat} {k : W46} {r : DV} : ∀ (m i : Nat) (s : St), parK P K ops base (List.range' i m) s k = some r →
  ∃ (σ : W5c) (xs : W5e) (es : W5f), σ i = s ∧ k (σ (i + m)) = some r ∧ ∀ j, i ≤ j → j < i + m → Stp P I ops base j (σ j) (σ (j + 1)) (xs j) (es j)
 | 0, i, s, h => ⟨fun _ => s, fun _ => default, fun _ => .none, rfl, by simpa [parK] using h, fun j h1 h2 => by omega⟩
 | m + 1, i, s, h => by
  rw [List.range'_succ] at h
  simp only [Wnw] at h
  cases ho : ops[i]? with
  | none => simp [ho] at h
  | some o =>
   simp only [ho] at h
   have done : ∀ (s' : St) (x : VV) (eff : Eff), Stp P I ops base i s s' x eff → parK P K ops base (List.range' (i + 1) m) s' k = some r →
     ∃ (σ : W5c) (xs : W5e) (es : W5f), σ i = s ∧ k (σ (i + (m + 1))) = some r ∧ ∀ j, i ≤ j → j < i + (m + 1) → Stp P I ops base j (σ j) (σ (j + 1)) (xs j) (es j) := by
    intro s' x eff hst h
    obtain ⟨σ, xs, es, h1, h2, h3⟩ := Wes HK m (i + 1) s' h
    refine ⟨fun j => if j = i then s else σ j, fun j => if j = i then x else xs j, fun j => if j = i then eff else es j, by simp, ?_, ?_⟩
    ·have : ¬ i + (m + 1) = i := by omega
     simp only [this, if_false]
     rw [show i + (m + 1) = i + 1 + m by omega]; exact h2
    ·intro j hj1 hj2
     by_cases e : j = i
     ·subst e
      simp only [if_true, show ¬ j + 1 = j by omega, if_false, h1]
      exact hst
     ·simp only [e, if_false, show ¬ j + 1 = i by omega]
      exact h3 j (by omega) (by omega)
   obtain ⟨b, ts1, hg, hle, hb, _⟩ := K20 h
   cases b with
   | false =>
    simp at hb
    exact done _ _ _ ⟨rfl, o, ts1, ho, hle, rfl, .inr ⟨hg, rfl, rfl⟩⟩ hb
   | true =>
    simp at hb
    obtain ⟨x, eff, hk, hok⟩ := Wh9 HK hb
    cases eff with
    | none => exact done _ _ _ ⟨rfl, o, ts1, ho, hle, rfl, .inl ⟨hg, hok⟩⟩ hk
    | new cs => exact done _ _ _ ⟨rfl, o, ts1, ho, hle, rfl, .inl ⟨hg, hok⟩⟩ hk
    | newm cs => exact done _ _ _ ⟨rfl, o, ts1, ho, hle, rfl, .inl ⟨hg, hok⟩⟩ hk
    | upd b cs => simp at hk
    | move b cs => simp at hk
    | updm b cs => simp at hk
    | call ids Hc => simp at hk
    | ice bs => simp at hk
    | newB B => simp at hk
    | setB b B => simp at hk
theorem K6k {eff : Eff} (hq : eff.quiet = true) (id : Nat) (H : W43) (hid : id < H.length) : (eff.app id H).length = H.length ∧ ∀ b, b ≠ id → (eff.app id H)[b]? = H[b]? := by
 have hb : Nat.blt id H.length = true := Nat.ble_eq_true_of_le hid
 cases eff with
 | none => exact ⟨rfl, fun _ _ => rfl⟩
 | new cs => exact ⟨by simp [Eff.app, addB, hb], fun b hb => Kmv id H cs (by omega) b hb⟩
 | newm cs => exact ⟨by simp [Eff.app, addM, hb], fun b hb => Kif id H _ (by omega) b hb⟩
 | upd b cs => cases hq
 | move b cs => cases hq
 | updm b cs => cases hq
 | call ids Hc => cases hq
 | ice bs => cases hq
 | newB B => cases hq
 | setB b B => cases hq
section par
variable {P : Program} {I : W40} {K : Tab} {ops : W48} {base p : Nat} {σ : W5c} {xs : W5e} {es : W5f} {H0 : W43}
structure Chk (ops : W48) (p : Nat) : Prop where
 back : Kth 0 ops.toList = true
 le : p ≤ ops.size
 pair : ∀ i j oi oj, i < j → ops[i]? = some oi → ops[j]? = some oj → (j < p ∧ oi.apart ops oj = true) ∨ Anc ops j i
def Wdr (P : Program) (I : W40) (ops : W48) (base p : Nat) (σ : W5c) (xs : W5e) (es : W5f) : Prop := ∀ j, j < p → Stp P I ops base j (σ j) (σ (j + 1)) (xs j) (es j)
theorem Wdr.heap_len (h : Wdr P I ops base p σ xs es) (h0 : (σ 0).heap.length = base + ops.size) (hp : p ≤ ops.size) : ∀ i, i ≤ p → (σ i).heap.length = base + ops.size := by
 intro i
 induction i with
 | zero => intro _; exact h0
 | succ i ih =>
  intro hi
  have hst := h i (by omega)
  obtain ⟨o, ts1, ho, _, e, _⟩ := hst.ok
  rw [e]
  have := ih (by omega)
  exact ((K6k hst.quiet (base + i) (σ i).heap (by omega)).1).trans this
theorem Wdr.heap_at (h : Wdr P I ops base p σ xs es) (h0 : (σ 0).heap.length = base + ops.size) (hp : p ≤ ops.size) (b : Nat) : ∀ m i, i + m ≤ p → (∀ j, i ≤ j → j < i + m → b ≠ base + j) → (σ (i + m)).heap[b]? = (σ i).heap[b]? := by
 intro m
 induction m with
 | zero => intro i _ _; rfl
 | succ m ih =>
  intro i hi hb
  have hst := h (i + m) (by omega)
  obtain ⟨o, ts1, ho, _, e, _⟩ := hst.ok
  rw [← Nat.add_assoc, e]
  have := h.heap_len h0 hp (i + m) (by omega)
  exact ((K6k hst.quiet (base + (i + m)) (σ (i + m)).heap (by omega)).2 b (hb _ (by omega) (by omega))).trans (ih i (by omega) (fun j h1 h2 => hb j h1 (by omega)))
theorem Wdr.n_same (h : Wdr P I ops base p σ xs es) : ∀ i, i ≤ p → (σ i).n = (σ 0).n := by
 intro i
 induction i with
 | zero => intro _; rfl
 | succ i ih =>
  intro hi
  obtain ⟨o, ts1, ho, _, e, _⟩ := (h i (by omega)).ok
  rw [e, ← ih (by omega)]
theorem Wdr.tmps_at (h : Wdr P I ops base p σ xs es) (t : Nat) {U : W42} {w : World} {D : W41} {v : Value} : ∀ m i, i + m ≤ p → (∀ j o, i ≤ j → j < i + m → ops[j]? = some o → o.dst ≠ some t) → VRep U w D ((σ i).tmps.get t) v → VRep U w D ((σ (i + m)).tmps.get t) v := by
 intro m
 induction m with
 | zero => intro i _ _ hv; exact hv
 | succ m ih =>
  intro i hi hb hv
  obtain ⟨o, ts1, ho, hle, e, _⟩ := (h (i + m) (by omega)).ok
  have h1 := ih i (by omega) (fun j o h1 h2 => hb j o h1 (by omega)) hv
  have hne := hb (i + m) o (by omega) (by omega) ho
  rw [← Nat.add_assoc, e]
  rcases Wdc ts1 o.dst (xs (i + m)) t with g | g
  ·simp only []; rw [g, if_neg hne]; exact hle.rep h1
  ·simp only []; rw [g]; trivial
structure Inv (I : W40) (ops : W48) (base p : Nat) (σ : W5c) (H0 : W43) (N : W42) (w0 : World) (l : Array Bool) (D : W41) (U : W42) (H' : W43) (a : Act) (w : World) : Prop where
 defers : a.defers = []
 size : a.tmps.size = (σ 0).n
 tmps : ∀ t, ∃ i, i ≤ p ∧ (∀ v, a.tmps[t]? = some v → VRep U w D ((σ i).tmps.get t) v) ∧ (∀ j o, Kcz l j → ops[j]? = some o → o.dst = some t → j < i) ∧
  (∀ i', i = i' + 1 → Kcz l i' ∧ ∃ o, ops[i']? = some o ∧ o.dst = some t)
 len : H'.length = base + ops.size
 heap : ∀ b, (b < base → H'[b]? = H0[b]?) ∧ (base ≤ b → Kcz l (b - base) → H'[b]? = (σ p).heap[b]?) ∧ (base ≤ b → ¬ Kcz l (b - base) → b < base + ops.size → H'[b]? = some none)
 wr : WRel D U N w0 H' w
 n : Lt N w
 lsize : l.size = ops.size
 first : ∀ j, Kcz l j → j < p
 i0 : ∀ w', Ktd N w0 w' → I w'
end par
end Go.Pv
namespace Go.Pv
open Go Go.RowKit
section any
variable {P : Program} {I : W40} {K : Tab} {ops : W48} {base p : Nat} {σ : W5c} {xs : W5e} {es : W5f} {H0 : W43}
theorem K6l {oi oj : Oper} (h : oi.apart ops oj = true) : (∀ d, oi.dst = some d → d ∉ oj.looksAt ops) ∧ (∀ d, oi.dst = some d → oj.dst ≠ some d) ∧ (∀ d, oj.dst = some d → d ∉ oi.looksAt ops) := Oper.apart_spec h
theorem Inv.operand (hT : Wdr P I ops base p σ xs es) (hC : Chk ops p) {N : W42} {w0 : World} {l : Array Bool} {D : W41} {U : W42} {H' : W43} {a : Act} {w : World} (hI : Inv I ops base p σ H0 N w0 l D U H' a w) (hc : K25 ops l)
  {i0 : Nat} (hr : i0 ∈ Region.ready .any ops l) (hi0 : i0 < p) {o : Oper} (ho : ops[i0]? = some o) (t : Nat) (ht : t ∈ o.looksAt ops) : ∀ v, a.tmps[t]? = some v → VRep U w D ((σ i0).tmps.get t) v := by
 obtain ⟨i, hip, hv, hlast, hfst⟩ := hI.tmps t
 have hnl : ¬ Kcz l i0 := ((Km2 hI.lsize).1 hr).1
 have hii : i ≤ i0 := by
  rcases Nat.eq_zero_or_pos i with h | h
  ·omega
  ·obtain ⟨i', rfl⟩ : ∃ i', i = i' + 1 := ⟨i - 1, by omega⟩
   obtain ⟨hl', o', ho', hd'⟩ := hfst i' rfl
   rcases Nat.lt_trichotomy i' i0 with h1 | h1 | h1
   ·omega
   ·subst h1; exact absurd hl' hnl
   ·rcases hC.pair i0 i' o o' h1 ho ho' with ⟨_, hap⟩ | hanc
    ·exact absurd ht ((K6l hap).2.2 t hd')
    ·exact absurd (hanc.listed hc hl') hnl
 intro v hav
 obtain ⟨m, rfl⟩ : ∃ m, i0 = i + m := ⟨i0 - i, by omega⟩
 refine hT.tmps_at t m i (by omega) (fun j oj h1 h2 hoj hd => ?_) (hv v hav)
 rcases hC.pair j (i + m) oj o h2 hoj ho with ⟨_, hap⟩ | hanc
 ·exact (K6l hap).1 t hd ht
 ·have := hlast j oj (hanc.ready hI.lsize hc hr) hoj hd
  omega
theorem Inv.next (hT : Wdr P I ops base p σ xs es) (hC : Chk ops p) (h0 : (σ 0).heap.length = base + ops.size) (hz : ∀ j, j < ops.size → (σ 0).heap[base + j]? = some none) {N : W42} {w0 : World} {l : Array Bool} {D : W41} {U : W42} {H' : W43} {a : Act} {w : World} (hI : Inv I ops base p σ H0 N w0 l D U H' a w) (hc : K25 ops l)
  {i0 : Nat} (hr : i0 ∈ Region.ready .any ops l) (hi0 : i0 < p) {o : Oper} (ho : ops[i0]? = some o) {ts1 : Tr} (he : σ (i0 + 1) = ⟨putV ts1 o.dst (xs i0), (σ i0).n, (es i0).app (base + i0) (σ i0).heap⟩)
  {v : Value} {w' : World} {D' : W41} {U' : W42} (hon : Kei N D U w D' U' w') (hW : WRel D' U' N w0 ((es i0).app (base + i0) H') w') (hx : VRep U' w' D' (xs i0) v) :
  Inv I ops base p σ H0 N w0 (l.setIfInBounds i0 true) D' U' ((es i0).app (base + i0) H') (a.put o.dst v) w' := by
 have hnl : ¬ Kcz l i0 := ((Km2 hI.lsize).1 hr).1
 have hls : i0 < l.size := by rw [hI.lsize]; have := hC.le; omega
 have hq := (hT i0 hi0).quiet
 have hlen : base + i0 < H'.length := by rw [hI.len]; have := hC.le; omega
 have haq := K6k hq (base + i0) H' hlen
 refine ⟨?_, ?_, ?_, haq.1.trans hI.len, ?_, hW, hI.n.mono hon.size, by simpa using hI.lsize, ?_, hI.i0⟩
 ·simp only [Act.put]; split <;> exact hI.defers
 ·have : (a.put o.dst v).tmps.size = a.tmps.size := by simp only [Act.put]; split <;> simp
  rw [this]; exact hI.size
 ·intro t
  by_cases hd : o.dst = some t
  ·refine ⟨i0 + 1, by omega, ?_, ?_, ?_⟩
   ·intro u h2
    rw [he]
    simp only [hd, Act.put] at h2 ⊢
    rw [Array.getElem?_setIfInBounds] at h2
    simp at h2
    rcases Wdc ts1 (some t) (xs i0) t with g | g
    ·rw [g, if_pos rfl, ← h2.2]; exact hx
    ·rw [g]; trivial
   ·intro j oj hl hoj hdj
    rcases (Khb hls).1 hl with rfl | hl
    ·omega
    ·rcases Nat.lt_or_ge j (i0 + 1) with h | h
     ·exact h
     ·rcases hC.pair i0 j o oj (by omega) ho hoj with ⟨_, hap⟩ | hanc
      ·exact absurd hdj ((K6l hap).2.1 t hd)
      ·exact absurd (hanc.listed hc hl) hnl
   ·intro i' hi'
    obtain rfl : i' = i0 := by omega
    exact ⟨(Khb hls).2 (.inl rfl), o, ho, hd⟩
  ·obtain ⟨i, hip, hv, hlast, hfst⟩ := hI.tmps t
   refine ⟨i, hip, ?_, ?_, ?_⟩
   ·intro u h2
    have h3 : a.tmps[t]? = some u := by
     simp only [Act.put] at h2
     split at h2
     ·rename_i d hd'
      rw [Array.getElem?_setIfInBounds_ne (fun e => hd (by rw [hd', e]))] at h2
      exact h2
     ·exact h2
    exact (hv u h3).onward hon
   ·intro j oj hl hoj hdj
    rcases (Khb hls).1 hl with rfl | hl
    ·rw [ho] at hoj; cases hoj; exact absurd hdj hd
    ·exact hlast j oj hl hoj hdj
   ·intro i' hi'
    obtain ⟨h1, h2⟩ := hfst i' hi'
    exact ⟨(Khb hls).2 (.inr h1), h2⟩
 ·intro b
  obtain ⟨hb1, hb2, hb3⟩ := hI.heap b
  by_cases hb : b = base + i0
  ·subst hb
   refine ⟨fun h => by omega, fun _ _ => ?_, fun _ h => absurd ((Khb hls).2 (.inl (by omega))) h⟩
   have hfin : (σ p).heap[base + i0]? = (σ (i0 + 1)).heap[base + i0]? := by
    obtain ⟨m, hm⟩ : ∃ m, p = i0 + 1 + m := ⟨p - (i0 + 1), by omega⟩
    have := hT.heap_at h0 hC.le (base + i0) m (i0 + 1) (by omega) (fun j h1 h2 => by omega)
    rw [← hm] at this
    exact this
   have hbef : (σ i0).heap[base + i0]? = some none := by
    have := hT.heap_at h0 hC.le (base + i0) i0 0 (by omega) (fun j h1 h2 => by omega)
    rw [Nat.zero_add] at this
    rw [this]
    exact hz i0 (by have := hC.le; omega)
   rw [hfin, he]
   have hH' : H'[base + i0]? = some none := hb3 (by omega) (by rw [Nat.add_sub_cancel_left]; exact hnl) (by have := hC.le; omega)
   cases hes : es i0 with
   | none => simp only [Eff.app]; rw [hH', hbef]
   | upd b cs => rw [hes] at hq; cases hq
   | move b cs => rw [hes] at hq; cases hq
   | updm b cs => rw [hes] at hq; cases hq
   | call ids Hc => rw [hes] at hq; cases hq
   | ice bs => rw [hes] at hq; cases hq
   | newB B => rw [hes] at hq; cases hq
   | setB b B => rw [hes] at hq; cases hq
   | newm cs =>
    simp only [Eff.app]
    rw [Kn1 _ _ _ (by omega), Kn1 _ _ _ (by rw [hT.heap_len h0 hC.le i0 (by omega)]; have := hC.le; omega)]
   | new cs =>
    simp only [Eff.app]
    rw [Kvw _ _ _ (by omega), Kvw _ _ _ (by rw [hT.heap_len h0 hC.le i0 (by omega)]; have := hC.le; omega)]
  ·rw [haq.2 b hb]
   refine ⟨hb1, fun h1 h2 => ?_, fun h1 h2 => hb3 h1 (fun h => h2 ((Khb hls).2 (.inr h)))⟩
   rcases (Khb hls).1 h2 with h | h
   ·omega
   ·exact hb2 h1 h
 ·intro j hl
  rcases (Khb hls).1 hl with rfl | hl
  ·exact hi0
  ·exact hI.first j hl
theorem Inv.last (hT : Wdr P I ops base p σ xs es) (hC : Chk ops p) (h0 : (σ 0).heap.length = base + ops.size) (hz0 : ∀ b, b < base → (σ 0).heap[b]? = H0[b]?) (hz : ∀ j, j < ops.size → (σ 0).heap[base + j]? = some none) {N : W42} {w0 : World} {l : Array Bool} {D : W41} {U : W42} {H' : W43} {a : Act} {w : World}
  (hI : Inv I ops base p σ H0 N w0 l D U H' a w) (hall : ∀ j, j < p → Kcz l j) : Rel I D U N w0 (σ p) a w := by
 have hH : H' = (σ p).heap := by
  apply List.ext_getElem?
  intro b
  obtain ⟨hb1, hb2, hb3⟩ := hI.heap b
  rcases Nat.lt_or_ge b base with h | h
  ·rw [hb1 h, ← hz0 b h]
   have := hT.heap_at h0 hC.le b p 0 (by omega) (fun j h1 h2 => by omega)
   rw [Nat.zero_add] at this
   exact this.symm
  ·by_cases hl : Kcz l (b - base)
   ·exact hb2 h hl
   ·have hp : p ≤ b - base := by
     rcases Nat.lt_or_ge (b - base) p with h' | h'
     ·exact absurd (hall _ h') hl
     ·exact h'
    have := hT.heap_at h0 hC.le b p 0 (by omega) (fun j h1 h2 => by omega)
    rw [Nat.zero_add] at this
    rcases Nat.lt_or_ge b (base + ops.size) with h2 | h2
    ·rw [hb3 h hl h2, this]
     have := hz (b - base) (by omega)
     rw [show base + (b - base) = b by omega] at this
     exact this.symm
    ·rw [List.getElem?_eq_none (by rw [hI.len]; exact h2), List.getElem?_eq_none (by rw [hT.heap_len h0 hC.le p (Nat.le_refl _)]; exact h2)]
 refine ⟨⟨hI.defers, ?_, ?_⟩, hH ▸ hI.wr, hI.n, hI.i0⟩
 ·rw [hI.size, hT.n_same p (Nat.le_refl _)]
 ·intro t v h2
  obtain ⟨i, hip, hv, hlast, hfst⟩ := hI.tmps t
  obtain ⟨m, hm⟩ : ∃ m, p = i + m := ⟨p - i, by omega⟩
  have := hT.tmps_at t m i (by omega) (fun j o h1 h2 hj hd => by have := hlast j o (hall j (by omega)) hj hd; omega) (hv v h2)
  rw [← hm] at this
  exact this
structure ChkT (ops : W48) (p : Nat) : Prop where
 back : Kth 0 ops.toList = true
 pair : ∀ i j oi oj, p ≤ i → i < j → ops[i]? = some oi → ops[j]? = some oj → Anc ops j i
theorem Chk.tail (h : Chk ops p) : ChkT ops p := ⟨h.back, fun i j oi oj h1 h2 h3 h4 => by
 rcases h.pair i j oi oj h2 h3 h4 with ⟨h5, _⟩ | h5
 ·omega
 ·exact h5⟩
theorem Wif (HK : Kfv P I K) (hC : ChkT ops p) {Q : W5b} {k : W46} {r : DV} {N : W42} {w0 : World} : ∀ (m q : Nat), p ≤ q → q + m = ops.size → ∀ (fuel : Nat), m ≤ fuel → ∀ (l : Array Bool), l.size = ops.size → (∀ j, j < ops.size → (Kcz l j ↔ j < q)) →
  ∀ (s : St) (D : W41) (U : W42) (a : Act) (w : World), Kvy P K ops (List.range' q m) s k = some r → Rel I D U N w0 s a w →
  (∀ s' D' U' a' w', k s' = some r → Rel I D' U' N w0 s' a' w' → Kei N D U w D' U' w' → Q .normal a' w') → wpAny P .any ops Q fuel l a w
 | 0, q, hpq, hqm, fuel, hf, l, hs, hl, s, D, U, a, w, h, hR, hQ => by
  have hnil : Region.ready .any ops l = [] := by
   cases hr : Region.ready .any ops l with
   | nil => rfl
   | cons i rest =>
    have hi : i ∈ Region.ready .any ops l := by rw [hr]; simp
    obtain ⟨h1, o, ho, _⟩ := (Km2 hs).1 hi
    have hlt := (Array.getElem?_eq_some_iff.1 ho).1
    exact absurd ((hl i hlt).2 (by omega)) h1
  have hq := hQ s D U a w (by simpa [Kvy] using h) hR Kei.refl
  cases fuel with
  | zero => exact ⟨hnil, hq⟩
  | succ fuel => exact ⟨fun _ => hq, fun i hi => by rw [hnil] at hi; simp at hi⟩
 | m + 1, q, hpq, hqm, 0, hf, l, hs, hl, s, D, U, a, w, h, hR, hQ => by omega
 | m + 1, q, hpq, hqm, fuel + 1, hf, l, hs, hl, s, D, U, a, w, h, hR, hQ => by
  rw [List.range'_succ] at h
  simp only [K76] at h
  have hqs : q < ops.size := by omega
  have hoq : ops[q]? = some ops[q] := Array.getElem?_eq_getElem hqs
  have hcl : K25 ops l := by
   intro j o ho hlj e he hb
   have hj := (Array.getElem?_eq_some_iff.1 ho).1
   have := Kom 0 ops.toList hC.back j o (by simpa using ho) e he hb
   exact (hl e.on (by omega)).2 (by have := (hl j hj).1 hlj; omega)
  have only : ∀ i, i ∈ Region.ready .any ops l → i = q := by
   intro i hi
   obtain ⟨h1, o, ho, _⟩ := (Km2 hs).1 hi
   have hlt := (Array.getElem?_eq_some_iff.1 ho).1
   have hge : q ≤ i := by
    rcases Nat.lt_or_ge i q with h' | h'
    ·exact absurd ((hl i hlt).2 h') h1
    ·exact h'
   rcases Nat.lt_or_ge q i with h' | h'
   ·have hanc := hC.pair q i _ o hpq h' hoq ho
    have := (hl q hqs).1 (hanc.ready hs hcl hi)
    omega
   ·omega
  have hqr : q ∈ Region.ready .any ops l := by
   refine (Km2 hs).2 ⟨fun h => by have := (hl q hqs).1 h; omega, _, hoq, fun e he hb => ?_⟩
   have := Kom 0 ops.toList hC.back q _ (by simp) e he hb
   exact (hl e.on (by omega)).2 (by omega)
  refine ⟨fun h0 => by rw [h0] at hqr; simp at hqr, fun i hi => ?_⟩
  obtain rfl := only i hi
  have hl' : ∀ j, j < ops.size → (Kcz (l.setIfInBounds i true) j ↔ j < i + 1) := by
   intro j hj
   rw [Khb (by omega), hl j hj]
   omega
  unfold wpOp
  rw [hoq] at h ⊢
  simp only [] at h ⊢
  obtain ⟨ts1, hle, hcase⟩ := Wib h hR.t
  have ht1 := hR.t.le hle
  rcases hcase with ⟨hw, h⟩ | ⟨hw, h⟩
  ·simp only [hw, if_true]
   left
   obtain ⟨x, eff, hk, hok⟩ := Wh9 HK h
   refine hok.seq D U N w0 w a _ Q hR.i0 hR.wr hR.n (fun y _ => ht1.eval y) ?_
   intro v w' D' U' hon hW' hx
   refine Wif HK hC m (i + 1) (by omega) (by omega) fuel (by omega) _ (by simpa using hs) hl' _ D' U' _ w' hk ⟨(ht1.onward hon).put _ hx, hW', hR.n.mono hon.size, hR.i0⟩ ?_
   intro s' D'' U'' a' w'' hk' hR' hon'
   exact hQ s' D'' U'' a' w'' hk' hR' (hon.trans hon')
  ·simp only [hw, Bool.false_eq_true, if_false]
   exact Wif HK hC m (i + 1) (by omega) (by omega) fuel (by omega) _ (by simpa using hs) hl' _ D U _ w h ⟨ht1.put _ (.val _), hR.wr, hR.n, hR.i0⟩ hQ
theorem Wli {n p : Nat} {l : Array Bool} (hf : ∀ j, Kcz l j → j < p) (hp : p ≤ n) : n - p ≤ left n l := by
 unfold left
 have e : List.range n = List.range' 0 p ++ List.range' p (n - p) := by
  rw [List.range_eq_range', show n = p + (n - p) by omega, ← List.range'_append_1]
  simp
 rw [e, List.countP_append]
 have : (List.range' p (n - p)).countP (fun i => !(l.getD i false)) = (List.range' p (n - p)).length := by
  rw [List.countP_eq_length]
  intro j hj
  have hj' : p ≤ j := by have := List.mem_range'_1.1 hj; omega
  cases h : l.getD j false with
  | false => rfl
  | true => have := hf j h; omega
 rw [this, List.length_range']
 omega
theorem Wy7 (HK : Kfv P I K) (hT : Wdr P I ops base p σ xs es) (hC : Chk ops p) (h0 : (σ 0).heap.length = base + ops.size) (hz0 : ∀ b, b < base → (σ 0).heap[b]? = H0[b]?) (hz : ∀ j, j < ops.size → (σ 0).heap[base + j]? = some none)
  {Q : W5b} {k : W46} {r : DV} {N : W42} {w0 : World} (hk : Kvy P K ops (List.range' p (ops.size - p)) (σ p) k = some r) : ∀ (fuel : Nat) (l : Array Bool) (D : W41) (U : W42) (H' : W43) (a : Act) (w : World),
  Inv I ops base p σ H0 N w0 l D U H' a w → K25 ops l → left ops.size l ≤ fuel →
  (∀ s' D' U' a' w', k s' = some r → Rel I D' U' N w0 s' a' w' → Kei N D U w D' U' w' → Q .normal a' w') → wpAny P .any ops Q fuel l a w := by
 intro fuel
 induction fuel with
 | zero =>
  intro l D U H' a w hI hc hf hQ
  have hall := Wie (Nat.le_zero.1 hf)
  have hp : p = ops.size := by have := Wli hI.first hC.le; have := hC.le; omega
  refine Wif HK hC.tail 0 p (Nat.le_refl _) (by omega) 0 (by omega) l hI.lsize (fun j hj => ⟨fun h => hI.first j h, fun _ => hall j hj⟩) (σ p) D U a w ?_ (hI.last hT hC h0 hz0 hz (fun j hj => hall j (by omega))) hQ
  rw [show ops.size - p = 0 by omega] at hk
  exact hk
 | succ fuel ih =>
  intro l D U H' a w hI hc hf hQ
  by_cases hall : ∀ j, j < p → Kcz l j
  ·exact Wif HK hC.tail (ops.size - p) p (Nat.le_refl _) (by have := hC.le; omega) (fuel + 1) (Nat.le_trans (Wli hI.first hC.le) hf) l hI.lsize (fun j hj => ⟨fun h => hI.first j h, fun h => hall j h⟩) (σ p) D U a w hk (hI.last hT hC h0 hz0 hz hall) hQ
  ·have hle := hC.le
   refine ⟨fun hr => absurd (fun j hj => Wfr hI.lsize hC.back hr j (by omega)) hall, fun i hi => ?_⟩
   obtain ⟨hnl, o, ho, _⟩ := (Km2 hI.lsize).1 hi
   have his := (Array.getElem?_eq_some_iff.1 ho).1
   have hip : i < p := by
    rcases Nat.lt_or_ge i p with h | h
    ·exact h
    ·refine absurd (fun j hj => ?_) hall
     rcases hC.pair j i _ o (by omega) (Array.getElem?_eq_getElem (show j < ops.size by omega)) ho with ⟨h', _⟩ | hanc
     ·omega
     ·exact hanc.ready hI.lsize hc hi
   obtain ⟨o', ts1, ho', hle, he, hcase⟩ := (hT i hip).ok
   rw [ho] at ho'; cases ho'
   have hlen : base + i < H'.length := by rw [hI.len]; omega
   have hdn : D (base + i) = none := by
    cases hd : D (base + i) with
    | none => rfl
    | some kk =>
     obtain ⟨_, _, vs, g⟩ := hI.wr.own _ kk hd
     have := (hI.heap (base + i)).2.2 (by omega) (by rw [Nat.add_sub_cancel_left]; exact hnl) (by omega)
     rw [this] at g; cases g
   have hop := hI.operand hT hC hc hi hip ho
   have hlft : left ops.size (l.setIfInBounds i true) ≤ fuel := by have := Wrp his hI.lsize hnl; omega
   have hc' := hc.set hI.lsize hi
   have hsz : a.tmps.size = (σ i).n := by rw [hI.size, hT.n_same i (by omega)]
   unfold wpOp
   rw [ho]
   simp only []
   rcases hcase with ⟨hg, hok⟩ | ⟨hg, hx, heff⟩
   ·have hw := hg.real (D := D) (U := U) (w := w) (a := a) hsz hop
    simp only [hw, if_true]
    left
    have hcompat : K6c (σ i).heap H' := by
     intro b cs cs' h1 h2
     obtain ⟨hb1, hb2, hb3⟩ := hI.heap b
     rcases Nat.lt_or_ge b base with h | h
     ·rw [hb1 h, ← hz0 b h] at h2
      have := hT.heap_at h0 hC.le b i 0 (by omega) (fun j h1 h2 => by omega)
      rw [Nat.zero_add] at this
      rw [this, h2] at h1
      simpa using h1.symm
     ·by_cases hl : Kcz l (b - base)
      ·rw [hb2 h hl] at h2
       have hlt : b - base < i := by
        rcases Nat.lt_or_ge (b - base) i with h' | h'
        ·exact h'
        ·exfalso
         have := hT.heap_at h0 hC.le b i 0 (by omega) (fun j h1 h2 => by omega)
         rw [Nat.zero_add] at this
         rw [this] at h1
         have hbl : b < base + ops.size := by have := hI.first _ hl; omega
         have := hz (b - base) (by omega)
         rw [show base + (b - base) = b by omega] at this
         rw [this] at h1; cases h1
       obtain ⟨m, hm⟩ : ∃ m, p = i + m := ⟨p - i, by omega⟩
       have := hT.heap_at h0 hC.le b m i (by omega) (fun j h1 h2 => by omega)
       rw [← hm] at this
       rw [this, h1] at h2
       simpa using h2
      ·have hbl : b < base + ops.size := by
        have := (List.getElem?_eq_some_iff.1 h2).1
        rw [hI.len] at this; exact this
       rw [hb3 h hl hbl] at h2; cases h2
    refine hok D U N w0 H' w a _ Q hI.i0 hcompat hI.wr hI.n hdn (by omega) (fun y hy => Who hsz y fun t ht v h2 => hle.rep (hop t ?_ v h2)) ?_
    ·unfold Oper.looksAt
     exact List.mem_append_left _ (List.mem_filterMap.2 ⟨.tmp t, by rw [← ht]; simpa using hy, rfl⟩)
    ·intro v w' D' U' hon hW' _ hx
     refine ih _ D' U' _ _ w' (hI.next hT hC h0 hz hc hi hip ho he hon hW' hx) hc' hlft ?_
     intro s' D'' U'' a' w'' hk' hR' hon'
     exact hQ s' D'' U'' a' w'' hk' hR' (hon.trans hon')
   ·have hw := hg.real (D := D) (U := U) (w := w) (a := a) hsz hop
    simp only [hw, Bool.false_eq_true, if_false]
    have hn := hI.next hT hC h0 hz hc hi hip ho he (v := undef) (w' := w) Kei.refl (by rw [heff]; exact hI.wr) (by rw [hx]; exact .val _)
    rw [heff] at hn
    exact ih _ D U _ _ w hn hc' hlft hQ
end any
end Go.Pv
end
