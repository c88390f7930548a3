/-
  block.At and block.Put as plain functions.
-/
import Derived.Test.YtdfhakhapblhgaaCn
set_option linter.all false
namespace Go.Proofs.Ytdfhakhapblhgaa
open Go Go.Pv Go.RowKit
def BT.callA {α : Type} (f : ByteArray → ByteArray → Int → Int → List (List DV) → ByteArray → Int → Int → ByteArray → ByteArray → List (List DV) → α) : BT → α
  | .mk op name n m nums fk fi ff fr fo kids => f op name n m (nums.map qpc) fk fi ff fr fo (BT.cellsL kids)
def intsL (L : List Int) : List (List DV) := L.map fun i => [.val (.int .i64 i)]
theorem at_ok : ∀ (L : List Int) (t s : BT), t.ok → BT.at L t = some s → s.ok
  | [], t, s, h, e => by simp only [BT.at, Option.some.injEq] at e; exact e ▸ h
  | q :: L, t, s, h, e => by
    simp only [BT.at] at e
    by_cases hq : q < 0
    · rw [if_pos hq] at e; cases e
    rw [if_neg hq] at e
    cases hu : t.kids[q.toNat]? with
    | none => rw [hu] at e; cases e
    | some u =>
      rw [hu] at e
      refine at_ok L u s ?_ e
      obtain ⟨op, name, n, m, nums, fk, fi, ff, fr, fo, kids⟩ := t
      exact ok_mem h.2.2.2.2.2.2.2 u (List.mem_of_getElem? hu)
/-- What comes of At. -/
def atK (L : List Int) (t : BT) (k : (ByteArray → ByteArray → Int → Int → List (List DV) → ByteArray → Int → Int → ByteArray → ByteArray → List (List DV) → Int → Option DV)) : Option DV := match BT.at L t with
  | some s => s.callA fun r0 r1 r2 r3 r4 r5 r6 r7 r8 r9 r10 => k r0 r1 r2 r3 r4 r5 r6 r7 r8 r9 r10 0
  | none => BT.zero.callA fun r0 r1 r2 r3 r4 r5 r6 r7 r8 r9 r10 => k r0 r1 r2 r3 r4 r5 r6 r7 r8 r9 r10 2
def putK (L : List Int) (t x : BT) (k : (ByteArray → ByteArray → Int → Int → List (List DV) → ByteArray → Int → Int → ByteArray → ByteArray → List (List DV) → Int → Option DV)) : Option DV := match BT.put L t x with
  | some s => s.callA fun r0 r1 r2 r3 r4 r5 r6 r7 r8 r9 r10 => k r0 r1 r2 r3 r4 r5 r6 r7 r8 r9 r10 0
  | none => BT.zero.callA fun r0 r1 r2 r3 r4 r5 r6 r7 r8 r9 r10 => k r0 r1 r2 r3 r4 r5 r6 r7 r8 r9 r10 2
def AtOf (cs : List DV) (a1 : List (List DV)) (p : BT × List Int) : Prop := p.1.cells = cs ∧ a1 = intsL p.2 ∧ p.1.ok ∧ p.2.length ≤ 9223372036854775807
def PutOf (cs : List DV) (a1 : List (List DV)) (xs : List DV) (p : BT × List Int × BT) : Prop := p.1.cells = cs ∧ a1 = intsL p.2.1 ∧ p.1.ok ∧ p.2.1.length ≤ 9223372036854775807 ∧ p.2.2.cells = xs ∧ p.2.2.ok
open Classical in
noncomputable def block_At (a0 a1 : ByteArray) (a2 a3 : Int) (a4 : List (List DV)) (a5 : ByteArray) (a6 a7 : Int) (a8 a9 : ByteArray) (a10 : List (List DV)) (p : List (List DV)) (k : (ByteArray → ByteArray → Int → Int → List (List DV) → ByteArray → Int → Int → ByteArray → ByteArray → List (List DV) → Int → Option DV)) : Option DV :=
  if h : ∃ q, AtOf [.val (.string a0), .val (.string a1), .val (.int .i64 a2), .val (.int .i64 a3), .lst 2 a4, .val (.string a5), .val (.int .i64 a6), .val (.int .i64 a7), .val (.string a8), .val (.string a9), .lst 11 a10] p q then atK h.choose.2 h.choose.1 k else none
open Classical in
noncomputable def block_Put (a0 a1 : ByteArray) (a2 a3 : Int) (a4 : List (List DV)) (a5 : ByteArray) (a6 a7 : Int) (a8 a9 : ByteArray) (a10 : List (List DV)) (p : List (List DV)) (x0 x1 : ByteArray) (x2 x3 : Int) (x4 : List (List DV)) (x5 : ByteArray) (x6 x7 : Int) (x8 x9 : ByteArray) (x10 : List (List DV)) (k : (ByteArray → ByteArray → Int → Int → List (List DV) → ByteArray → Int → Int → ByteArray → ByteArray → List (List DV) → Int → Option DV)) : Option DV :=
  if h : ∃ q, PutOf [.val (.string a0), .val (.string a1), .val (.int .i64 a2), .val (.int .i64 a3), .lst 2 a4, .val (.string a5), .val (.int .i64 a6), .val (.int .i64 a7), .val (.string a8), .val (.string a9), .lst 11 a10] p [.val (.string x0), .val (.string x1), .val (.int .i64 x2), .val (.int .i64 x3), .lst 2 x4, .val (.string x5), .val (.int .i64 x6), .val (.int .i64 x7), .val (.string x8), .val (.string x9), .lst 11 x10] q then putK h.choose.2.1 h.choose.1 h.choose.2.2 k else none
noncomputable def KK_block_At (f0 : ByteArray → ByteArray → Int → Int → List (List DV) → ByteArray → Int → Int → ByteArray → ByteArray → List (List DV) → List (List DV) → (ByteArray → ByteArray → Int → Int → List (List DV) → ByteArray → Int → Int → ByteArray → ByteArray → List (List DV) → Int → Option DV) → Option DV) (ds : List DV) (k : DV → Option DV) : Option DV :=
  match ds with
  | [.agg [.val (.string a0_0), .val (.string a0_1), .val (.int .i64 a0_2), .val (.int .i64 a0_3), .lst 2 a0_4, .val (.string a0_5), .val (.int .i64 a0_6), .val (.int .i64 a0_7), .val (.string a0_8), .val (.string a0_9), .lst 11 a0_10], .lst 1 a1] => f0 a0_0 a0_1 a0_2 a0_3 a0_4 a0_5 a0_6 a0_7 a0_8 a0_9 a0_10 a1 (fun r0_0 r0_1 r0_2 r0_3 r0_4 r0_5 r0_6 r0_7 r0_8 r0_9 r0_10 r1_0 => k (.tup [.agg [.val (.string r0_0), .val (.string r0_1), .val (.int .i64 r0_2), .val (.int .i64 r0_3), .lst 2 r0_4, .val (.string r0_5), .val (.int .i64 r0_6), .val (.int .i64 r0_7), .val (.string r0_8), .val (.string r0_9), .lst 11 r0_10], .val (.int .i64 r1_0)]))
  | _ => none
noncomputable def KK_block_Put (f0 : ByteArray → ByteArray → Int → Int → List (List DV) → ByteArray → Int → Int → ByteArray → ByteArray → List (List DV) → List (List DV) → ByteArray → ByteArray → Int → Int → List (List DV) → ByteArray → Int → Int → ByteArray → ByteArray → List (List DV) → (ByteArray → ByteArray → Int → Int → List (List DV) → ByteArray → Int → Int → ByteArray → ByteArray → List (List DV) → Int → Option DV) → Option DV) (ds : List DV) (k : DV → Option DV) : Option DV :=
  match ds with
  | [.agg [.val (.string a0_0), .val (.string a0_1), .val (.int .i64 a0_2), .val (.int .i64 a0_3), .lst 2 a0_4, .val (.string a0_5), .val (.int .i64 a0_6), .val (.int .i64 a0_7), .val (.string a0_8), .val (.string a0_9), .lst 11 a0_10], .lst 1 a1, .agg [.val (.string a2_0), .val (.string a2_1), .val (.int .i64 a2_2), .val (.int .i64 a2_3), .lst 2 a2_4, .val (.string a2_5), .val (.int .i64 a2_6), .val (.int .i64 a2_7), .val (.string a2_8), .val (.string a2_9), .lst 11 a2_10]] => f0 a0_0 a0_1 a0_2 a0_3 a0_4 a0_5 a0_6 a0_7 a0_8 a0_9 a0_10 a1 a2_0 a2_1 a2_2 a2_3 a2_4 a2_5 a2_6 a2_7 a2_8 a2_9 a2_10 (fun r0_0 r0_1 r0_2 r0_3 r0_4 r0_5 r0_6 r0_7 r0_8 r0_9 r0_10 r1_0 => k (.tup [.agg [.val (.string r0_0), .val (.string r0_1), .val (.int .i64 r0_2), .val (.int .i64 r0_3), .lst 2 r0_4, .val (.string r0_5), .val (.int .i64 r0_6), .val (.int .i64 r0_7), .val (.string r0_8), .val (.string r0_9), .lst 11 r0_10], .val (.int .i64 r1_0)]))
  | _ => none
theorem agg_cr {U : Nat → Prop} {w : World} {cs : List DV} {v : Value} (h : DRep U w (.agg cs) v) : ∃ vs : List Value, v = .agg vs.toArray ∧ CR U w cs vs := by
  cases h with
  | agg h1 h2 =>
    rename_i vs
    exact ⟨vs.toList, by simp, by simpa using h1, fun i d u e1 e2 => h2 i d u e1 (by simpa using e2)⟩
theorem cr_agg {U : Nat → Prop} {w : World} {cs : List DV} {vs : List Value} (h : CR U w cs vs) : DRep U w (.agg cs) (.agg vs.toArray) := .agg (by simpa using h.1) (fun i x v e1 e2 => h.2 i x v e1 (by simpa using e2))
theorem two_rep {U : Nat → Prop} {w : World} {d : DV} {v : Value} {c : Int} (h : DRep U w d v) : DRep U w (.tup [d, .val (.int .i64 c)]) (.tuple #[v, .int .i64 c]) := by
  refine .tup rfl (fun i x u e1 e2 => ?_)
  match i, e1, e2 with
  | 0, e1, e2 => simp at e1 e2; subst e1; subst e2; exact h
  | 1, e1, e2 => simp at e1 e2; subst e1; subst e2; exact .val _
  | i + 2, e1, e2 => simp at e1
theorem callA_k (s : BT) (c : Int) (k : DV → Option DV) : (s.callA fun r0 r1 r2 r3 r4 r5 r6 r7 r8 r9 r10 => k (.tup [.agg [.val (.string r0), .val (.string r1), .val (.int .i64 r2), .val (.int .i64 r3), .lst 2 r4, .val (.string r5), .val (.int .i64 r6), .val (.int .i64 r7), .val (.string r8), .val (.string r9), .lst 11 r10], .val (.int .i64 c)])) = k (.tup [.agg s.cells, .val (.int .i64 c)]) := by cases s; rfl
theorem m_block_At : Meets Try.prog Inv 8 (KK_block_At block_At) := by
  intro ds k r h
  unfold KK_block_At at h
  split at h
  case h_2 => cases h
  rename_i a0 a1 a2 a3 a4 a5 a6 a7 a8 a9 a10 p
  unfold block_At at h
  split at h
  case isFalse => cases h
  rename_i hex
  have hG : ∀ k', KK_block_At block_At [.agg [.val (.string a0), .val (.string a1), .val (.int .i64 a2), .val (.int .i64 a3), .lst 2 a4, .val (.string a5), .val (.int .i64 a6), .val (.int .i64 a7), .val (.string a8), .val (.string a9), .lst 11 a10], .lst 1 p] k' = atK hex.choose.2 hex.choose.1 fun r0 r1 r2 r3 r4 r5 r6 r7 r8 r9 r10 e => k' (.tup [.agg [.val (.string r0), .val (.string r1), .val (.int .i64 r2), .val (.int .i64 r3), .lst 2 r4, .val (.string r5), .val (.int .i64 r6), .val (.int .i64 r7), .val (.string r8), .val (.string r9), .lst 11 r10], .val (.int .i64 e)]) := fun k' => by
    simp only [KK_block_At, block_At]; rw [dif_pos hex]
  obtain ⟨h1, h2, h3, h4⟩ := hex.choose_spec
  generalize hex.choose.1 = t at *
  generalize hex.choose.2 = L at *
  have key : ∃ s c, ((BT.at L t = some s ∧ c = 0) ∨ (BT.at L t = none ∧ s = BT.zero ∧ c = 2)) ∧ ∀ k' : DV → Option DV, (atK L t fun r0 r1 r2 r3 r4 r5 r6 r7 r8 r9 r10 e => k' (.tup [.agg [.val (.string r0), .val (.string r1), .val (.int .i64 r2), .val (.int .i64 r3), .lst 2 r4, .val (.string r5), .val (.int .i64 r6), .val (.int .i64 r7), .val (.string r8), .val (.string r9), .lst 11 r10], .val (.int .i64 e)])) = k' (.tup [.agg s.cells, .val (.int .i64 c)]) := by
    unfold atK
    cases ha : BT.at L t with
    | some s => exact ⟨s, 0, .inl ⟨rfl, rfl⟩, fun k' => callA_k s 0 k'⟩
    | none => exact ⟨_, 2, .inr ⟨rfl, rfl, rfl⟩, fun k' => callA_k _ 2 k'⟩
  obtain ⟨s, c, hsc, hk⟩ := key
  refine ⟨by kernel_rfl, .tup [.agg s.cells, .val (.int .i64 c)], by rw [hk] at h; exact h, fun k' => by rw [hG, hk], fun U w args _ hU hlen hargs => ?_⟩
  obtain ⟨al⟩ := args
  match al, hlen with
  | [va, vp], _ =>
    have g0 := hargs 0 _ va rfl rfl
    have g1 := hargs 1 _ vp rfl rfl
    rw [← h1] at g0
    obtain ⟨vs, rfl, hcr⟩ := agg_cr g0
    rw [h2] at g1
    refine (At_any t L h4 (fun s hs => at_ok L t s h3 hs) U w vs vp hU hcr g1).mono ?_
    rintro e w' ⟨us, c', s', rfl, hb, hcr', hor⟩
    have : s' = s ∧ c' = c := by
      rcases hor with ⟨e1, rfl⟩ | ⟨e1, rfl, rfl⟩ <;> rcases hsc with ⟨e2, rfl⟩ | ⟨e2, rfl, rfl⟩
      · rw [e1] at e2; cases e2; exact ⟨rfl, rfl⟩
      · rw [e1] at e2; cases e2
      · rw [e1] at e2; cases e2
      · exact ⟨rfl, rfl⟩
    obtain ⟨rfl, rfl⟩ := this
    exact ⟨_, rfl, hb, two_rep (cr_agg hcr')⟩
theorem put_none : ∀ (L : List Int) (t x : BT), BT.at L t = none ↔ BT.put L t x = none
  | [], t, x => by simp [BT.at, BT.put]
  | q :: L, t, x => by
    simp only [BT.at, BT.put]
    by_cases hq : q < 0
    · simp [hq]
    rw [if_neg hq, if_neg hq]
    cases hu : t.kids[q.toNat]? with
    | none => simp
    | some u => simp only [put_none L u x, Option.map_eq_none_iff]
theorem m_block_Put : Meets Try.prog Inv 10 (KK_block_Put block_Put) := by
  intro ds k r h
  unfold KK_block_Put at h
  split at h
  case h_2 => cases h
  rename_i a0 a1 a2 a3 a4 a5 a6 a7 a8 a9 a10 p x0 x1 x2 x3 x4 x5 x6 x7 x8 x9 x10
  unfold block_Put at h
  split at h
  case isFalse => cases h
  rename_i hex
  have hG : ∀ k', KK_block_Put block_Put [.agg [.val (.string a0), .val (.string a1), .val (.int .i64 a2), .val (.int .i64 a3), .lst 2 a4, .val (.string a5), .val (.int .i64 a6), .val (.int .i64 a7), .val (.string a8), .val (.string a9), .lst 11 a10], .lst 1 p, .agg [.val (.string x0), .val (.string x1), .val (.int .i64 x2), .val (.int .i64 x3), .lst 2 x4, .val (.string x5), .val (.int .i64 x6), .val (.int .i64 x7), .val (.string x8), .val (.string x9), .lst 11 x10]] k' = putK hex.choose.2.1 hex.choose.1 hex.choose.2.2 fun r0 r1 r2 r3 r4 r5 r6 r7 r8 r9 r10 e => k' (.tup [.agg [.val (.string r0), .val (.string r1), .val (.int .i64 r2), .val (.int .i64 r3), .lst 2 r4, .val (.string r5), .val (.int .i64 r6), .val (.int .i64 r7), .val (.string r8), .val (.string r9), .lst 11 r10], .val (.int .i64 e)]) := fun k' => by
    simp only [KK_block_Put, block_Put]; rw [dif_pos hex]
  obtain ⟨h1, h2, h3, h4, h5, h6⟩ := hex.choose_spec
  generalize hex.choose.1 = t at *
  generalize hex.choose.2.1 = L at *
  generalize hex.choose.2.2 = x at *
  have key : ∃ s c, ((BT.put L t x = some s ∧ c = 0) ∨ (BT.put L t x = none ∧ s = BT.zero ∧ c = 2)) ∧ ∀ k' : DV → Option DV, (putK L t x fun r0 r1 r2 r3 r4 r5 r6 r7 r8 r9 r10 e => k' (.tup [.agg [.val (.string r0), .val (.string r1), .val (.int .i64 r2), .val (.int .i64 r3), .lst 2 r4, .val (.string r5), .val (.int .i64 r6), .val (.int .i64 r7), .val (.string r8), .val (.string r9), .lst 11 r10], .val (.int .i64 e)])) = k' (.tup [.agg s.cells, .val (.int .i64 c)]) := by
    unfold putK
    cases ha : BT.put L t x with
    | some s => exact ⟨s, 0, .inl ⟨rfl, rfl⟩, fun k' => callA_k s 0 k'⟩
    | none => exact ⟨_, 2, .inr ⟨rfl, rfl, rfl⟩, fun k' => callA_k _ 2 k'⟩
  obtain ⟨s, c, hsc, hk⟩ := key
  refine ⟨by kernel_rfl, .tup [.agg s.cells, .val (.int .i64 c)], by rw [hk] at h; exact h, fun k' => by rw [hG, hk], fun U w args _ hU hlen hargs => ?_⟩
  obtain ⟨al⟩ := args
  match al, hlen with
  | [va, vp, vx], _ =>
    have g0 := hargs 0 _ va rfl rfl
    have g1 := hargs 1 _ vp rfl rfl
    have g2 := hargs 2 _ vx rfl rfl
    rw [← h1] at g0
    rw [← h5] at g2
    obtain ⟨vs, rfl, hcr⟩ := agg_cr g0
    obtain ⟨xs, rfl, hcx⟩ := agg_cr g2
    rw [h2] at g1
    refine (Put_any t x L h4 h3 h6 U w vs xs vp hU hcr hcx g1).mono ?_
    rintro e w' ⟨us, c', s', rfl, hb, hcr', hor⟩
    have : s' = s ∧ c' = c := by
      rcases hor with ⟨e1, rfl⟩ | ⟨e1, rfl, rfl⟩ <;> rcases hsc with ⟨e2, rfl⟩ | ⟨e2, rfl, rfl⟩
      · rw [e1] at e2; cases e2; exact ⟨rfl, rfl⟩
      · rw [e1] at e2; cases e2
      · rw [(put_none L t x).1 e1] at e2; cases e2
      · exact ⟨rfl, rfl⟩
    obtain ⟨rfl, rfl⟩ := this
    exact ⟨_, rfl, hb, two_rep (cr_agg hcr')⟩
end Go.Proofs.Ytdfhakhapblhgaa
