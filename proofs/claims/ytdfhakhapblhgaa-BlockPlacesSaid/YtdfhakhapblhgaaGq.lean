/-
  BlockPlaces comes out true, whatever the trees and the place.
-/
import Derived.Test.YtdfhakhapblhgaaGp
set_option linter.all false
namespace Go.Proofs.Ytdfhakhapblhgaa
open Go Go.Pv Go.RowKit
mutual
theorem BT.cells_inj : ∀ (a b : BT), a.cells = b.cells → a = b
  | .mk op nm nn m nums fk fi ff fr fo kids, .mk op' nm' nn' m' nums' fk' fi' ff' fr' fo' kids', h => by
    simp only [BT.cells, List.cons.injEq, DV.val.injEq, DV.lst.injEq, Value.string.injEq, Value.int.injEq, true_and, and_true] at h
    obtain ⟨rfl, rfl, rfl, rfl, hn, rfl, rfl, rfl, rfl, rfl, hk⟩ := h
    have e1 : nums = nums' := by
      refine List.map_inj_right ?_ |>.1 hn
      intro x y hxy
      simp only [qpc, List.cons.injEq, DV.val.injEq, Value.int.injEq, true_and, and_true] at hxy
      exact Prod.ext hxy.1 hxy.2
    have e2 : kids = kids' := BT.cellsL_inj kids kids' hk
    rw [e1, e2]
theorem BT.cellsL_inj : ∀ (a b : List BT), BT.cellsL a = BT.cellsL b → a = b
  | [], [], _ => rfl
  | [], b :: bs, h => by simp [BT.cellsL] at h
  | a :: l, [], h => by simp [BT.cellsL] at h
  | a :: l, b :: bs, h => by
    simp only [BT.cellsL, List.cons.injEq] at h
    rw [BT.cells_inj a b h.1, BT.cellsL_inj l bs h.2]
end
theorem intsL_inj {a b : List Int} (h : intsL a = intsL b) : a = b := by
  refine List.map_inj_right ?_ |>.1 h
  intro x y hxy
  simpa using hxy
theorem at_prog (t : BT) (L : List Int) (ht : t.ok) (hL : L.length ≤ 9223372036854775807) (k : (ByteArray → ByteArray → Int → Int → List (List DV) → ByteArray → Int → Int → ByteArray → ByteArray → List (List DV) → Int → Option DV)) : t.call block_At (intsL L) k = atK L t k := by
  have hex : ∃ q, AtOf t.cells (intsL L) q := ⟨(t, L), rfl, rfl, ht, hL⟩
  have h : t.call block_At (intsL L) k = atK hex.choose.2 hex.choose.1 k := by
    obtain ⟨op, nm, nn, m, nums, fk, fi, ff, fr, fo, kids⟩ := t
    show block_At op nm nn m (nums.map qpc) fk fi ff fr fo (BT.cellsL kids) (intsL L) k = _
    unfold block_At
    exact dif_pos hex
  rw [h]
  obtain ⟨h1, h2, _, _⟩ := hex.choose_spec
  rw [BT.cells_inj _ _ h1, ← intsL_inj h2]
theorem put_prog (t x : BT) (L : List Int) (ht : t.ok) (hx : x.ok) (hL : L.length ≤ 9223372036854775807) (k : (ByteArray → ByteArray → Int → Int → List (List DV) → ByteArray → Int → Int → ByteArray → ByteArray → List (List DV) → Int → Option DV)) : x.call (t.call block_Put (intsL L)) k = putK L t x k := by
  have hex : ∃ q, PutOf t.cells (intsL L) x.cells q := ⟨(t, L, x), rfl, rfl, ht, hL, rfl, hx⟩
  have h : x.call (t.call block_Put (intsL L)) k = putK hex.choose.2.1 hex.choose.1 hex.choose.2.2 k := by
    obtain ⟨op, nm, nn, m, nums, fk, fi, ff, fr, fo, kids⟩ := t
    obtain ⟨op', nm', nn', m', nums', fk', fi', ff', fr', fo', kids'⟩ := x
    show block_Put op nm nn m (nums.map qpc) fk fi ff fr fo (BT.cellsL kids) (intsL L) op' nm' nn' m' (nums'.map qpc) fk' fi' ff' fr' fo' (BT.cellsL kids') k = _
    unfold block_Put
    exact dif_pos hex
  rw [h]
  obtain ⟨h1, h2, _, _, h5, _⟩ := hex.choose_spec
  rw [BT.cells_inj _ _ h1, ← intsL_inj h2, BT.cells_inj _ _ h5]
theorem at_depth : ∀ (L : List Int) (t s : BT), BT.at L t = some s → s.depth ≤ t.depth
  | [], t, s, e => by simp only [BT.at, Option.some.injEq] at e; rw [e]; exact Nat.le_refl _
  | q :: L, t, s, e => by
    simp only [BT.at] at e
    by_cases hq : q < 0
    · rw [if_pos hq] at e; cases e
    rw [if_neg hq] at e
    cases hu : t.kids[q.toNat]? with
    | none => rw [hu] at e; cases e
    | some u =>
      rw [hu] at e
      have h1 := at_depth L u s e
      obtain ⟨op, nm, nn, m, nums, fk, fi, ff, fr, fo, kids⟩ := t
      have h2 := BT.depthL_mem u (List.mem_of_getElem? hu)
      simp only [BT.depth, BT.kids] at *
      omega
theorem depthL_set : ∀ (l : List BT) (i : Nat) (z : BT), BT.depthL (l.set i z) ≤ max (BT.depthL l) z.depth
  | [], i, z => by simp [BT.depthL]
  | b :: l, 0, z => by simp only [List.set_cons_zero, BT.depthL]; omega
  | b :: l, i + 1, z => by have := depthL_set l i z; simp only [List.set_cons_succ, BT.depthL]; omega
theorem okL_set : ∀ (l : List BT) (i : Nat) (z : BT), BT.okL l → z.ok → BT.okL (l.set i z)
  | [], i, z, h, _ => by simpa using h
  | b :: l, 0, z, h, hz => ⟨hz, h.2⟩
  | b :: l, i + 1, z, h, hz => ⟨h.1, okL_set l i z h.2 hz⟩
theorem put_good : ∀ (L : List Int) (t x y : BT), t.ok → x.ok → BT.put L t x = some y → y.ok ∧ y.depth ≤ t.depth + x.depth
  | [], t, x, y, ht, hx, e => by simp only [BT.put, Option.some.injEq] at e; rw [← e]; exact ⟨hx, by omega⟩
  | q :: L, t, x, y, ht, hx, e => by
    simp only [BT.put] at e
    by_cases hq : q < 0
    · rw [if_pos hq] at e; cases e
    rw [if_neg hq] at e
    cases hu : t.kids[q.toNat]? with
    | none => rw [hu] at e; cases e
    | some u =>
      rw [hu] at e
      simp only [] at e
      cases hz : BT.put L u x with
      | none => rw [hz] at e; cases e
      | some z =>
        rw [hz] at e
        simp only [Option.map_some, Option.some.injEq] at e
        subst e
        obtain ⟨op, nm, nn, m, nums, fk, fi, ff, fr, fo, kids⟩ := t
        have hum := List.mem_of_getElem? hu
        obtain ⟨h1, h2⟩ := put_good L u x z (ok_mem ht.2.2.2.2.2.2.2 u hum) hx hz
        have h3 := BT.depthL_mem u hum
        have h4 := depthL_set kids q.toNat z
        obtain ⟨a1, a2, a3, a4, a5, a6, a7, a8⟩ := ht
        refine ⟨⟨a1, a2, a3, a4, a5, a6, by rw [List.length_set]; exact a7, okL_set kids _ z a8 h1⟩, ?_⟩
        simp only [BT.depth, BT.withKids, BT.kids] at *
        omega
theorem put_self : ∀ (L : List Int) (t s : BT), BT.at L t = some s → BT.put L t s = some t
  | [], t, s, e => by simp only [BT.at, Option.some.injEq] at e; simp only [BT.put, e]
  | q :: L, t, s, e => by
    simp only [BT.at] at e
    simp only [BT.put]
    by_cases hq : q < 0
    · rw [if_pos hq] at e; cases e
    rw [if_neg hq] at e ⊢
    cases hu : t.kids[q.toNat]? with
    | none => rw [hu] at e; cases e
    | some u =>
      rw [hu] at e
      simp only [put_self L u s e, Option.map_some]
      have : t.kids.set q.toNat u = t.kids := by
        apply List.ext_getElem?
        intro i
        rw [List.getElem?_set]
        by_cases hi : q.toNat = i
        · subst hi; rw [if_pos rfl, hu]; simp [(List.getElem?_eq_some_iff.1 hu).1]
        · rw [if_neg hi]
      rw [this]
      cases t; rfl
theorem gi0 : i64 0 := by unfold i64; omega
theorem zero_ok : BT.zero.ok := ⟨gi0, gi0, gi0, gi0, by show 0 * 16 ≤ reachBytes; omega, (fun q hq => by cases hq), by show 0 * 160 ≤ reachBytes; omega, trivial⟩
theorem places_true (n N : Nat) (hN : N = n + 64) (t x : BT) (L : List Int) (ht : t.ok) (hx : x.ok) (hd : t.depth + x.depth + L.length + 1 ≤ N) (hL : L.length ≤ 9223372036854775807) (k : KB) :
    x.call (t.call (serinettelaw05_BlockPlaces N)) (intsL L) k = k true := by
  have hw : ∀ k : KB, serinettelaw05_awake N k = k true := fun k => by subst hN; exact awake_tree n k
  have hself : ∀ (A : BT), A.ok → A.depth ≤ N → ∀ K : KB, BT.call2 (serinetteref05_Same N) A A K = K true := fun A h1 h2 K => by rw [same_r N A A h1 h1 h2, BT.same_self]
  have hz1 : BT.zero.depth ≤ N := by show 0 + 1 ≤ N; omega
  have f1 := few_tree N t ht (by omega)
  have f2 := few_tree N x hx (by omega)
  have a1 := fun k => at_ref N L N t k (by omega)
  have a2 := fun k => at_prog t L ht hL k
  have p1 := fun k => put_ref N L N t x k ht (by omega)
  have p2 := fun k => put_prog t x L ht hx hL k
  have p3 : ∀ s k, s.ok → s.call (t.call block_Put (intsL L)) k = putK L t s k := fun s k hs => put_prog t s L ht hs hL k
  have hso := hself t ht (by omega)
  have hzo := hself BT.zero zero_ok hz1
  have hsn : ∀ s, BT.at L t = some s → s.ok ∧ s.depth ≤ N := fun s hs => ⟨at_ok L t s ht hs, by have := at_depth L t s hs; omega⟩
  have hyn : ∀ y, BT.put L t x = some y → y.ok ∧ y.depth ≤ N := fun y hy => by have := put_good L t x y ht hx hy; exact ⟨this.1, by omega⟩
  have hps : ∀ s, BT.at L t = some s → BT.put L t s = some t := fun s hs => put_self L t s hs
  obtain ⟨op, nm, nn, m, nums, fk, fi, ff, fr, fo, kids⟩ := t
  obtain ⟨op', nm', nn', m', nums', fk', fi', ff', fr', fo', kids'⟩ := x
  show serinettelaw05_BlockPlaces N op nm nn m (nums.map qpc) fk fi ff fr fo (BT.cellsL kids) op' nm' nn' m' (nums'.map qpc) fk' fi' ff' fr' fo' (BT.cellsL kids') (intsL L) k = k true
  unfold serinettelaw05_BlockPlaces B_serinettelaw05_BlockPlaces
  refine Eq.trans (f1 _) ?_
  cases BT.few (.mk op nm nn m nums fk fi ff fr fo kids) with
  | false => simp only [Bool.not_false, Bool.not_true, bx_f]; exact hw _
  | true =>
  simp only [Bool.not_true, Bool.not_false, bx_t]
  refine Eq.trans (f2 _) ?_
  cases BT.few (.mk op' nm' nn' m' nums' fk' fi' ff' fr' fo' kids') with
  | false => simp only [Bool.not_false, bx_t]; exact hw _
  | true =>
  simp only [Bool.not_true, bx_f]
  refine Eq.trans (a1 _) ?_
  cases hat : BT.at L (.mk op nm nn m nums fk fi ff fr fo kids) with
  | none =>
    have hpn := (put_none L _ (.mk op' nm' nn' m' nums' fk' fi' ff' fr' fo' kids')).1 hat
    simp only [atK, hat, BT.callA, BT.zero]
    refine Eq.trans (a2 _) ?_
    simp only [atK, hat, BT.callA, BT.zero]
    refine Eq.trans (p1 _) ?_
    simp only [putK, hpn, BT.callA, BT.zero]
    refine Eq.trans (p2 _) ?_
    simp only [putK, hpn, BT.callA, BT.zero]
    simp only [show ((2 : Int) != 2) = false from rfl, Bool.not_false, bx_t]
    refine Eq.trans (hzo _) ?_
    simp only [Bool.not_true, Bool.not_false, bx_t]
    refine Eq.trans (hzo _) ?_
    simp only [Bool.not_true, bx_f, show ((2 : Int) != 0) = true from rfl, bx_t]
    exact hw _
  | some s =>
    obtain ⟨y, hy⟩ := put_some L _ s (.mk op' nm' nn' m' nums' fk' fi' ff' fr' fo' kids') hat
    obtain ⟨hs1, hs2⟩ := hsn s hat
    obtain ⟨hy1, hy2⟩ := hyn y hy
    have hpp := hps s hat
    have hss := hself s hs1 hs2
    have hyy := hself y hy1 hy2
    have p4 := fun k => p3 s k hs1
    obtain ⟨sop, snm, sn, sm, snums, sfk, sfi, sff, sfr, sfo, skids⟩ := s
    obtain ⟨yop, ynm, yn, ym, ynums, yfk, yfi, yff, yfr, yfo, ykids⟩ := y
    simp only [atK, hat, BT.callA]
    refine Eq.trans (a2 _) ?_
    simp only [atK, hat, BT.callA]
    refine Eq.trans (p1 _) ?_
    simp only [putK, hy, BT.callA]
    refine Eq.trans (p2 _) ?_
    simp only [putK, hy, BT.callA]
    simp only [show ((0 : Int) != 0) = false from rfl, Bool.not_false, bx_t]
    refine Eq.trans (hss _) ?_
    simp only [Bool.not_true, Bool.not_false, bx_t]
    refine Eq.trans (hyy _) ?_
    simp only [Bool.not_true, bx_f]
    refine Eq.trans (p4 _) ?_
    simp only [putK, hpp, BT.callA]
    simp only [show ((0 : Int) == 0) = true from rfl, bx_t]
    refine Eq.trans (hso _) ?_
    simp only [bx_t]
    exact hw _
end Go.Proofs.Ytdfhakhapblhgaa
