import Derived.Below
import Derived.Orders
import Derived.Laws.CopyRow
import Derived.Laws.Cells
import Derived.WalkKit
import Derived.Laws.StructEq
import Derived.Great.FillDense
import Derived.Laws.MakeOwn
import Derived.WideLaws
import Derived.Laws.AppendOwn
set_option linter.all false
/-
  A reading of Go code as plain functions: a run over virtual values, and that what it tells is what the code does.
-/
namespace Go.Pv
open Go Go.RowKit

def prun (P : Program) {α : Type} : Sem α → Option α
  | .pure a => some a
  | .program k => prun P (k P)
  | .mark _ k => prun P k
  | _ => none

theorem prun_run {P : Program} {α : Type} (s : Sem α) : ∀ {x : α}, prun P s = some x → ∀ w, s.run P w = .ok x w := by
  induction s with
  | pure a => intro x h w; simp [prun] at h; subst h; rfl
  | program k ih => intro x h w; simp only [prun] at h; simpa [Sem.run] using ih P h w
  | mark m k ih => intro x h w; simp only [prun] at h; simpa [Sem.run] using ih h w
  | _ => intro x h; simp [prun] at h

inductive DV where
  | val (v : Value)
  | agg (cs : List DV)
  | tup (cs : List DV)
  | lst (sz : Nat) (es : List (List DV))
  | err
  deriving Inhabited

inductive DRep (U : Nat → Prop) (w : World) : DV → Value → Prop
  | val (v : Value) : DRep U w (.val v) v
  | agg {cs : List DV} {vs : Array Value} : vs.size = cs.length → (∀ (i : Nat) (x : DV) (v : Value), cs[i]? = some x → vs[i]? = some v → DRep U w x v) → DRep U w (.agg cs) (.agg vs)
  | tup {cs : List DV} {vs : Array Value} : vs.size = cs.length → (∀ (i : Nat) (x : DV) (v : Value), cs[i]? = some x → vs[i]? = some v → DRep U w x v) → DRep U w (.tup cs) (.tuple vs)
  | nil {sz c : Nat} {a : Option Addr} : DRep U w (.lst sz []) (.slice a 0 c)
  | err {t : TypeId} {v : Value} : DRep U w .err (.iface t v)
  | lst {sz b off c : Nat} {es : List (List DV)} {g : Nat → Nat → Value} : U b → b < w.heap.size → es.length ≤ c → (∀ e, e ∈ es → e.length = sz) →
      (∀ (i j : Nat) (e : List DV) (x : DV), es[i]? = some e → e[j]? = some x → w.cell? ⟨b, off + i * sz + j, none⟩ = some (g i j)) →
      (∀ (i j : Nat) (e : List DV) (x : DV), es[i]? = some e → e[j]? = some x → DRep U w x (g i j)) → DRep U w (.lst sz es) (.slice (some ⟨b, off, none⟩) es.length c)

theorem cell_keep {w w' : World} {a : Addr} (h : w'.heap[a.block]? = w.heap[a.block]?) : w'.cell? a = w.cell? a := World.cell?_of_block h

theorem DRep.keep {U U' : Nat → Prop} {w w' : World} (hU : ∀ k, U k → U' k) (hw : ∀ k, U k → w'.heap[k]? = w.heap[k]?) (hs : w.heap.size ≤ w'.heap.size) {x : DV} {v : Value} (h : DRep U w x v) : DRep U' w' x v := by
  induction h with
  | val v => exact .val v
  | agg h1 _ ih => exact .agg h1 ih
  | tup h1 _ ih => exact .tup h1 ih
  | nil => exact .nil
  | err => exact .err
  | lst hb hlt hcap hl hc _ ih => exact .lst (hU _ hb) (Nat.lt_of_lt_of_le hlt hs) hcap hl (fun i j e x hi hx => by rw [cell_keep (hw _ hb)]; exact hc i j e x hi hx) ih

inductive VV where
  | dv (d : DV)
  | ptr (b o : Nat)
  | osl (e : TypeId) (sz b o n : Nat)
  | eptr (cs : List DV)
  | dead
  deriving Inhabited

def CellsAt (U : Nat → Prop) (w : World) (k o : Nat) (cs : List DV) : Prop := ∀ (i : Nat) (x : DV), cs[i]? = some x → ∃ v, w.cell? ⟨k, o + i, none⟩ = some v ∧ DRep U w x v

def VRep (U : Nat → Prop) (w : World) (D : Nat → Option Nat) : VV → Value → Prop
  | .dv d, v => DRep U w d v
  | .ptr b o, v => ∃ k, D b = some k ∧ v = .pointer (some ⟨k, o, none⟩)
  | .osl e sz b o n, v => ∃ k c cur, D b = some k ∧ n ≤ c ∧ w.heap[k]? = some (.cells cur e (0, 0)) ∧ o + c * sz ≤ cur.size ∧ v = .slice (some ⟨k, o, none⟩) n c
  | .eptr cs, v => ∃ k off, v = .pointer (some ⟨k, off, none⟩) ∧ U k ∧ CellsAt U w k off cs
  | .dead, _ => True

inductive Tr where
  | leaf (d : VV)
  | node (v : VV) (l r : Tr)
  deriving Inhabited
noncomputable def Tr.get (t : Tr) : Nat → VV :=
  Tr.rec (motive := fun _ => Nat → VV) (fun d _ => d) (fun v _ _ il ir n => cond (Nat.beq n 0) v (cond (Nat.beq (n % 2) 1) (il (n / 2)) (ir (n / 2 - 1)))) t
theorem Tr.get_leaf (d : VV) (n : Nat) : (Tr.leaf d).get n = d := rfl
theorem Tr.get_node (v : VV) (l r : Tr) (n : Nat) : (Tr.node v l r).get n = cond (Nat.beq n 0) v (cond (Nat.beq (n % 2) 1) (l.get (n / 2)) (r.get (n / 2 - 1))) := rfl
noncomputable def putC {R : Type} (f : Nat) : Tr → Nat → VV → (Tr → R) → R :=
  Nat.rec (motive := fun _ => Tr → Nat → VV → (Tr → R) → R) (fun _ _ _ k => k (.leaf .dead))
    (fun _ ih t n x k => Tr.casesOn (motive := fun _ => R) t
      (fun d => cond (Nat.beq n 0) (k (.node x (.leaf d) (.leaf d))) (cond (Nat.beq (n % 2) 1) (ih (.leaf d) (n / 2) x fun t' => k (.node d t' (.leaf d))) (ih (.leaf d) (n / 2 - 1) x fun t' => k (.node d (.leaf d) t'))))
      (fun v l r => cond (Nat.beq n 0) (k (.node x l r)) (cond (Nat.beq (n % 2) 1) (ih l (n / 2) x fun t' => k (.node v t' r)) (ih r (n / 2 - 1) x fun t' => k (.node v l t'))))) f
noncomputable def Tr.put (t : Tr) (n : Nat) (x : VV) : Tr := putC 12 t n x fun t' => t'
theorem putC_eq {R : Type} : ∀ (f : Nat) (t : Tr) (n : Nat) (x : VV) (k : Tr → R), putC f t n x k = k (putC f t n x fun t' => t')
  | 0, _, _, _, _ => rfl
  | f + 1, .leaf d, n, x, k => by
    show cond _ _ (cond _ (putC f _ _ _ _) (putC f _ _ _ _)) = k (cond _ _ (cond _ (putC f _ _ _ _) (putC f _ _ _ _)))
    cases Nat.beq n 0 <;> cases Nat.beq (n % 2) 1 <;> simp only [cond_true, cond_false]
    · rw [putC_eq f (.leaf d) (n / 2 - 1) x (fun t' => k (.node d (.leaf d) t')), putC_eq f (.leaf d) (n / 2 - 1) x (fun t' => Tr.node d (.leaf d) t')]
    · rw [putC_eq f (.leaf d) (n / 2) x (fun t' => k (.node d t' (.leaf d))), putC_eq f (.leaf d) (n / 2) x (fun t' => Tr.node d t' (.leaf d))]
  | f + 1, .node v l r, n, x, k => by
    show cond _ _ (cond _ (putC f _ _ _ _) (putC f _ _ _ _)) = k (cond _ _ (cond _ (putC f _ _ _ _) (putC f _ _ _ _)))
    cases Nat.beq n 0 <;> cases Nat.beq (n % 2) 1 <;> simp only [cond_true, cond_false]
    · rw [putC_eq f r (n / 2 - 1) x (fun t' => k (.node v l t')), putC_eq f r (n / 2 - 1) x (fun t' => Tr.node v l t')]
    · rw [putC_eq f l (n / 2) x (fun t' => k (.node v t' r)), putC_eq f l (n / 2) x (fun t' => Tr.node v t' r)]
theorem half_odd {m n : Nat} (hm : m % 2 = 1) (hn : n % 2 = 1) : m / 2 = n / 2 ↔ m = n := by omega
theorem half_even {m n : Nat} (hm : m % 2 ≠ 1) (hn : n % 2 ≠ 1) (m0 : m ≠ 0) (n0 : n ≠ 0) : m / 2 - 1 = n / 2 - 1 ↔ m = n := by omega
theorem get_putC : ∀ (f : Nat) (t : Tr) (n : Nat) (x : VV) (m : Nat), (putC f t n x fun t' => t').get m = (if m = n then x else t.get m) ∨ (putC f t n x fun t' => t').get m = .dead
  | 0, _, _, _, _ => .inr rfl
  | f + 1, t, n, x, m => by
    have key : ∀ (v : VV) (l r : Tr), (∀ k, t.get k = (Tr.node v l r).get k) → (putC (f + 1) t n x fun t' => t') = cond (Nat.beq n 0) (.node x l r) (cond (Nat.beq (n % 2) 1) (.node v (putC f l (n / 2) x fun t' => t') r) (.node v l (putC f r (n / 2 - 1) x fun t' => t'))) →
        (putC (f + 1) t n x fun t' => t').get m = (if m = n then x else t.get m) ∨ (putC (f + 1) t n x fun t' => t').get m = .dead := by
      intro v l r ht hp
      rw [hp, ht]
      cases hn0 : Nat.beq n 0 with
      | true =>
        have n0 := Nat.eq_of_beq_eq_true hn0
        subst n0
        left
        simp only [cond_true, Tr.get_node]
        cases hm0 : Nat.beq m 0 with
        | true => have := Nat.eq_of_beq_eq_true hm0; simp [this]
        | false => have : ¬ m = 0 := fun e => by subst e; simp at hm0
                   simp [this]
      | false =>
        have n0 : n ≠ 0 := fun e => by subst e; simp at hn0
        cases hn1 : Nat.beq (n % 2) 1 with
        | true =>
          have n1 := Nat.eq_of_beq_eq_true hn1
          simp only [cond_true, cond_false, Tr.get_node]
          cases hm0 : Nat.beq m 0 with
          | true =>
            have m0 := Nat.eq_of_beq_eq_true hm0
            subst m0
            left; rw [if_neg (Ne.symm n0)]; rfl
          | false =>
            cases hm1 : Nat.beq (m % 2) 1 with
            | true =>
              have m1 := Nat.eq_of_beq_eq_true hm1
              simp only [cond_true, cond_false]
              rcases get_putC f l (n / 2) x (m / 2) with h | h
              · left; rw [h]; simp only [half_odd m1 n1]
              · exact .inr h
            | false =>
              left
              have m1 : m % 2 ≠ 1 := fun e => by rw [e] at hm1; simp at hm1
              rw [if_neg (fun e : m = n => m1 (by rw [e]; exact n1))]
              rfl
        | false =>
          have n1 : n % 2 ≠ 1 := fun e => by rw [e] at hn1; simp at hn1
          simp only [cond_false, Tr.get_node]
          cases hm0 : Nat.beq m 0 with
          | true =>
            have m0 := Nat.eq_of_beq_eq_true hm0
            subst m0
            left; rw [if_neg (Ne.symm n0)]; rfl
          | false =>
            have m0 : m ≠ 0 := fun e => by subst e; simp at hm0
            cases hm1 : Nat.beq (m % 2) 1 with
            | true =>
              left
              have m1 := Nat.eq_of_beq_eq_true hm1
              rw [if_neg (fun e : m = n => n1 (by rw [← e]; exact m1))]
              rfl
            | false =>
              have m1 : m % 2 ≠ 1 := fun e => by rw [e] at hm1; simp at hm1
              simp only [cond_false]
              rcases get_putC f r (n / 2 - 1) x (m / 2 - 1) with h | h
              · left; rw [h]; simp only [half_even m1 n1 m0 n0]
              · exact .inr h
    cases t with
    | leaf d =>
      refine key d (.leaf d) (.leaf d) (fun k => ?_) ?_
      · rw [Tr.get_node]; cases Nat.beq k 0 <;> cases Nat.beq (k % 2) 1 <;> rfl
      · show cond _ _ (cond _ (putC f _ _ _ _) (putC f _ _ _ _)) = _
        rw [putC_eq f (.leaf d) (n / 2) x (fun t' => Tr.node d t' (.leaf d)), putC_eq f (.leaf d) (n / 2 - 1) x (fun t' => Tr.node d (.leaf d) t')]
    | node v l r =>
      refine key v l r (fun k => rfl) ?_
      show cond _ _ (cond _ (putC f _ _ _ _) (putC f _ _ _ _)) = _
      rw [putC_eq f l (n / 2) x (fun t' => Tr.node v t' r), putC_eq f r (n / 2 - 1) x (fun t' => Tr.node v l t')]
theorem Tr.get_put (t : Tr) (n : Nat) (x : VV) (m : Nat) : (t.put n x).get m = (if m = n then x else t.get m) ∨ (t.put n x).get m = .dead := get_putC 12 t n x m

inductive Blk where
  | cells (cs : List DV)
  | gone
  deriving Inhabited

structure St where
  tmps : Tr
  n : Nat
  heap : List (Option Blk)
  deriving Inhabited

structure WRel (D : Nat → Option Nat) (U : Nat → Prop) (N : Nat) (w0 : World) (H : List (Option Blk)) (w : World) : Prop where
  below : Below N w0 w
  old : ∀ k, U k → k < w.heap.size
  own : ∀ b k, D b = some k → N ≤ k ∧ k < w.heap.size ∧ ∃ B, H[b]? = some (some B)
  hold : ∀ b k vs, D b = some k → H[b]? = some (some (.cells vs)) → ¬ U k ∧ ∃ cs T, w.heap[k]? = some (.cells cs T (0, 0)) ∧ vs.length ≤ cs.size ∧ ∀ (i : Nat) (x : DV) (v : Value), vs[i]? = some x → cs[i]? = some v → DRep U w x v
  all : ∀ b B, H[b]? = some (some B) → ∃ k, D b = some k
  inj : ∀ b b' k vs vs', H[b]? = some (some (.cells vs)) → H[b']? = some (some (.cells vs')) → D b = some k → D b' = some k → b = b'

def TRel (U : Nat → Prop) (w : World) (D : Nat → Option Nat) (ts : Tr) (n : Nat) (a : Act) : Prop :=
  a.defers = [] ∧ a.tmps.size = n ∧ ∀ (t : Nat) (v : Value), a.tmps[t]? = some v → VRep U w D (ts.get t) v

structure Onward (D : Nat → Option Nat) (U : Nat → Prop) (w : World) (D' : Nat → Option Nat) (U' : Nat → Prop) (w' : World) : Prop where
  ids : ∀ b k, D b = some k → D' b = some k
  set : ∀ k, U k → U' k
  keep : ∀ k, U k → w'.heap[k]? = w.heap[k]?
  size : w.heap.size ≤ w'.heap.size
  back : ∀ k, U' k → U k ∨ w.heap.size ≤ k
  siz : ∀ b k cur T f, D b = some k → w.heap[k]? = some (.cells cur T f) → ∃ cur', w'.heap[k]? = some (.cells cur' T f) ∧ cur'.size = cur.size

theorem Onward.refl {D : Nat → Option Nat} {U : Nat → Prop} {w : World} : Onward D U w D U w := ⟨fun _ _ h => h, fun _ h => h, fun _ _ => rfl, Nat.le_refl _, fun _ h => .inl h, fun _ _ cur _ _ _ h => ⟨cur, h, rfl⟩⟩
theorem Onward.trans {D D' D'' : Nat → Option Nat} {U U' U'' : Nat → Prop} {w w' w'' : World} (h : Onward D U w D' U' w') (h' : Onward D' U' w' D'' U'' w'') : Onward D U w D'' U'' w'' :=
  ⟨fun b k hb => h'.ids b k (h.ids b k hb), fun k hk => h'.set k (h.set k hk), fun k hk => (h'.keep k (h.set k hk)).trans (h.keep k hk), Nat.le_trans h.size h'.size, fun k hk => (h'.back k hk).elim (h.back k) (fun h2 => .inr (Nat.le_trans h.size h2)), fun b k cur T f hb hc => by
    obtain ⟨c1, g1, s1⟩ := h.siz b k cur T f hb hc
    obtain ⟨c2, g2, s2⟩ := h'.siz b k c1 T f (h.ids b k hb) g1
    exact ⟨c2, g2, s2.trans s1⟩⟩
theorem VRep.onward {D D' : Nat → Option Nat} {U U' : Nat → Prop} {w w' : World} (h : Onward D U w D' U' w') {x : VV} {v : Value} (hx : VRep U w D x v) : VRep U' w' D' x v := by
  cases x with
  | dv d => exact DRep.keep h.set h.keep h.size hx
  | ptr b o => obtain ⟨k, hk, rfl⟩ := hx; exact ⟨k, h.ids _ _ hk, rfl⟩
  | osl e sz b o n =>
    obtain ⟨k, c, cur, hk, hc, hh, hs, rfl⟩ := hx
    obtain ⟨cur', hh', hs'⟩ := h.siz _ _ _ _ _ hk hh
    exact ⟨k, c, cur', h.ids _ _ hk, hc, hh', hs' ▸ hs, rfl⟩
  | eptr cs =>
    obtain ⟨k, off, rfl, hU, hc⟩ := hx
    refine ⟨k, off, rfl, h.set k hU, fun i x hi => ?_⟩
    obtain ⟨v, hv, hr⟩ := hc i x hi
    exact ⟨v, by rw [cell_keep (h.keep k hU)]; exact hv, hr.keep h.set h.keep h.size⟩
  | dead => trivial
theorem TRel.onward {D D' : Nat → Option Nat} {U U' : Nat → Prop} {w w' : World} (h : Onward D U w D' U' w') {ts : Tr} {n : Nat} {a : Act} (ht : TRel U w D ts n a) : TRel U' w' D' ts n a :=
  ⟨ht.1, ht.2.1, fun t v h2 => (ht.2.2 t v h2).onward h⟩

def Le (ts ts' : Tr) : Prop := ∀ t, ts'.get t = ts.get t ∨ ts'.get t = .dead
theorem Le.refl (ts : Tr) : Le ts ts := fun _ => .inl rfl
theorem Le.rep {ts ts' : Tr} (h : Le ts ts') {U : Nat → Prop} {w : World} {D : Nat → Option Nat} {t : Nat} {v : Value} (hv : VRep U w D (ts.get t) v) : VRep U w D (ts'.get t) v := by
  rcases h t with e | e
  · rw [e]; exact hv
  · rw [e]; trivial
theorem TRel.le {U : Nat → Prop} {w : World} {D : Nat → Option Nat} {ts ts' : Tr} {n : Nat} {a : Act} (ht : TRel U w D ts n a) (h : Le ts ts') : TRel U w D ts' n a := ⟨ht.1, ht.2.1, fun t v h2 => h.rep (ht.2.2 t v h2)⟩

noncomputable def putV (ts : Tr) (dst : Option Tmp) (x : VV) : Tr :=
  match dst with
  | some d => ts.put d x
  | none => ts
noncomputable def putK (ts : Tr) (dst : Option Tmp) (x : VV) (k : Tr → Option DV) : Option DV :=
  match dst with
  | some d => putC 12 ts d x k
  | none => k ts
theorem putK_eq (ts : Tr) (dst : Option Tmp) (x : VV) (k : Tr → Option DV) : putK ts dst x k = k (putV ts dst x) := by
  cases dst with
  | none => rfl
  | some d => exact putC_eq 12 ts d x k
theorem get_putV (ts : Tr) (dst : Option Tmp) (x : VV) (t : Nat) : (putV ts dst x).get t = (if dst = some t then x else ts.get t) ∨ (putV ts dst x).get t = .dead := by
  cases dst with
  | none => left; simp [putV]
  | some d =>
    rcases Tr.get_put ts d x t with h | h
    · left; simp only [putV, Option.some.injEq]; rw [h]; simp only [eq_comm]
    · exact .inr h
theorem TRel.put {U : Nat → Prop} {w : World} {D : Nat → Option Nat} {ts : Tr} {n : Nat} {a : Act} (ht : TRel U w D ts n a) (dst : Option Tmp) {x : VV} {v : Value} (hx : VRep U w D x v) : TRel U w D (putV ts dst x) n (a.put dst v) := by
  refine ⟨by cases dst <;> exact ht.1, by cases dst <;> simp [Act.put, ht.2.1], fun t u h2 => ?_⟩
  rcases get_putV ts dst x t with h | h
  · rw [h]
    cases dst with
    | none => simpa using ht.2.2 t u h2
    | some d =>
      simp only [Act.put] at h2
      by_cases hd : d = t
      · subst hd
        rw [Array.getElem?_setIfInBounds] at h2
        simp at h2
        simp only [if_true]
        rw [← h2.2]; exact hx
      · rw [Array.getElem?_setIfInBounds_ne hd] at h2
        rw [if_neg (by simpa using hd)]
        exact ht.2.2 t u h2
  · rw [h]; trivial

noncomputable def evalV (ts : Tr) (n : Nat) : Operand → VV
  | .tmp t => bif Nat.blt t n then ts.get t else .dv (.val undef)
  | .const v => .dv (.val v)
  | .global g => .dv (.val (.pointer (some ⟨g, 0, none⟩)))
  | .func f => .dv (.val (.func (.func f) #[] #[]))
theorem evalV_rep {U : Nat → Prop} {w : World} {D : Nat → Option Nat} {ts : Tr} {n : Nat} {a : Act} (hl : a.tmps.size = n) (x : Operand) (h : ∀ t, x = .tmp t → ∀ v, a.tmps[t]? = some v → VRep U w D (ts.get t) v) : VRep U w D (evalV ts n x) (a.eval x) := by
  cases x with
  | tmp t =>
    simp only [evalV, Act.eval]
    cases hb : Nat.blt t n with
    | true =>
      have hlt : t < a.tmps.size := by rw [hl]; exact Nat.le_of_ble_eq_true hb
      rw [Array.getD_eq_getD_getElem?, Array.getElem?_eq_getElem hlt]
      exact h t rfl _ (Array.getElem?_eq_getElem hlt)
    | false =>
      have hlt : ¬ t < a.tmps.size := by rw [hl]; intro h'; have : Nat.blt t n = true := Nat.ble_eq_true_of_le h'; rw [this] at hb; cases hb
      rw [Array.getD_eq_getD_getElem?, Array.getElem?_eq_none (Nat.le_of_not_lt hlt)]
      exact .val _
  | const v => exact .val _
  | global g => exact .val _
  | func f => exact .val _
theorem TRel.eval {U : Nat → Prop} {w : World} {D : Nat → Option Nat} {ts : Tr} {n : Nat} {a : Act} (ht : TRel U w D ts n a) (x : Operand) : VRep U w D (evalV ts n x) (a.eval x) :=
  evalV_rep ht.2.1 x fun t _ v hv => ht.2.2 t v hv
end Go.Pv
namespace Go.Pv
open Go Go.RowKit

theorem val_eq {U : Nat → Prop} {w : World} {v u : Value} (h : DRep U w (.val v) u) : u = v := by cases h; rfl
def flats : List DV → Option (List Value)
  | [] => some []
  | .val v :: r => match flats r with | some l => some (v :: l) | none => none
  | _ :: _ => none
def DV.flat : DV → Option Value
  | .val v => some v
  | .agg cs => match flats cs with | some l => some (.agg l.toArray) | none => none
  | .tup cs => match flats cs with | some l => some (.tuple l.toArray) | none => none
  | .lst _ _ => none
  | .err => none
def VV.flat : VV → Option Value
  | .dv d => d.flat
  | _ => none
theorem flats_rep {U : Nat → Prop} {w : World} : ∀ (cs : List DV) (l : List Value), flats cs = some l → ∀ vs : List Value, vs.length = cs.length → (∀ (i : Nat) (x : DV) (v : Value), cs[i]? = some x → vs[i]? = some v → DRep U w x v) → vs = l
  | [], l, h, vs, hl, _ => by simp [flats] at h; subst h; simpa using hl
  | c :: cs, l, h, vs, hl, hr => by
    cases c <;> simp [flats] at h
    rename_i u
    cases hf : flats cs with
    | none => simp [hf] at h
    | some l' =>
      simp [hf] at h
      subst h
      match vs, hl with
      | v :: vs, hl =>
        have h0 := hr 0 _ v rfl rfl
        cases h0
        rw [flats_rep cs l' hf vs (by simpa using hl) (fun i x v h1 h2 => hr (i + 1) x v (by simpa using h1) (by simpa using h2))]
theorem DV.flat_rep {U : Nat → Prop} {w : World} {d : DV} {u v : Value} (hf : d.flat = some u) (h : DRep U w d v) : v = u := by
  cases h with
  | val v => simp [DV.flat] at hf; exact hf
  | agg h1 h2 =>
    rename_i cs vs
    simp only [DV.flat] at hf
    cases hl : flats cs with
    | none => simp [hl] at hf
    | some l =>
      simp [hl] at hf
      rw [← hf, ← flats_rep cs l hl vs.toList (by simpa using h1) (fun i x v e1 e2 => h2 i x v e1 (by simpa using e2))]
  | tup h1 h2 =>
    rename_i cs vs
    simp only [DV.flat] at hf
    cases hl : flats cs with
    | none => simp [hl] at hf
    | some l =>
      simp [hl] at hf
      rw [← hf, ← flats_rep cs l hl vs.toList (by simpa using h1) (fun i x v e1 e2 => h2 i x v e1 (by simpa using e2))]
  | nil => simp [DV.flat] at hf
  | err => simp [DV.flat] at hf
  | lst => simp [DV.flat] at hf
theorem VV.flat_rep {U : Nat → Prop} {w : World} {D : Nat → Option Nat} {x : VV} {u v : Value} (hf : x.flat = some u) (h : VRep U w D x v) : v = u := by
  cases x <;> simp [VV.flat] at hf
  exact DV.flat_rep hf h

def DV.cells : DV → List DV
  | .val (.agg cs) => cs.toList.map .val
  | .agg cs => cs
  | d => [d]
theorem DV.cells_rep {U : Nat → Prop} {w : World} {d : DV} {v : Value} (h : DRep U w d v) : v.cells.size = d.cells.length ∧ ∀ (i : Nat) (x : DV) (u : Value), d.cells[i]? = some x → v.cells[i]? = some u → DRep U w x u := by
  have one : ∀ (d : DV) (v : Value), DRep U w d v → (#[v] : Array Value).size = [d].length ∧ ∀ (i : Nat) (x : DV) (u : Value), [d][i]? = some x → (#[v] : Array Value)[i]? = some u → DRep U w x u := by
    intro d v h
    refine ⟨rfl, fun i x u h1 h2 => ?_⟩
    match i with
    | 0 => simp at h1 h2; rw [← h1, ← h2]; exact h
    | i + 1 => simp at h1
  cases h with
  | val v =>
    cases v with
    | agg cs =>
      refine ⟨by simp [DV.cells, Value.cells], fun i x u h1 h2 => ?_⟩
      simp only [DV.cells, Value.cells] at h1 h2
      simp [h2] at h1
      rw [← h1]; exact .val _
    | _ => exact one _ _ (.val _)
  | agg h1 h2 => exact ⟨by simpa [DV.cells, Value.cells] using h1, h2⟩
  | tup h1 h2 => exact one _ _ (.tup h1 h2)
  | nil => exact one _ _ .nil
  | err => exact one _ _ .err
  | lst a1 a2 a3 a4 a5 a6 => exact one _ _ (.lst a1 a2 a3 a4 a5 a6)

def mkAgg (cs : List DV) : DV := match flats cs with | some l => .val (.agg l.toArray) | none => .agg cs
theorem mkAgg_rep {U : Nat → Prop} {w : World} {cs : List DV} {vs : Array Value} (h1 : vs.size = cs.length) (h2 : ∀ (i : Nat) (x : DV) (v : Value), cs[i]? = some x → vs[i]? = some v → DRep U w x v) : DRep U w (mkAgg cs) (.agg vs) := by
  unfold mkAgg
  cases hl : flats cs with
  | none => exact .agg h1 h2
  | some l =>
    have := flats_rep cs l hl vs.toList (by simpa using h1) (fun i x v e1 e2 => h2 i x v e1 (by simpa using e2))
    simp only []
    rw [← this]
    exact .val _
def mkTup (cs : List DV) : DV := match flats cs with | some l => .val (.tuple l.toArray) | none => .tup cs
theorem mkTup_rep {U : Nat → Prop} {w : World} {cs : List DV} {vs : Array Value} (h1 : vs.size = cs.length) (h2 : ∀ (i : Nat) (x : DV) (v : Value), cs[i]? = some x → vs[i]? = some v → DRep U w x v) : DRep U w (mkTup cs) (.tuple vs) := by
  unfold mkTup
  cases hl : flats cs with
  | none => exact .tup h1 h2
  | some l =>
    have := flats_rep cs l hl vs.toList (by simpa using h1) (fun i x v e1 e2 => h2 i x v e1 (by simpa using e2))
    simp only []
    rw [← this]
    exact .val _

inductive Eff where
  | none
  | new (cs : List DV)
  | upd (b : Nat) (cs : List DV)
  | move (b : Nat) (cs : List DV)
def addB (id : Nat) (H : List (Option Blk)) (cs : List DV) : List (Option Blk) := bif Nat.blt id H.length then H.set id (some (.cells cs)) else H ++ [some (.cells cs)]
def Eff.app (id : Nat) (H : List (Option Blk)) : Eff → List (Option Blk)
  | .none => H
  | .new cs => addB id H cs
  | .upd b cs => H.set b (some (.cells cs))
  | .move b cs => addB id (H.set b (some .gone)) cs

def Compat (H H' : List (Option Blk)) : Prop := ∀ (b : Nat) (cs cs' : Blk), H[b]? = some (some cs) → H'[b]? = some (some cs') → cs = cs'
theorem Compat.refl (H : List (Option Blk)) : Compat H H := fun _ _ _ h h' => by rw [h] at h'; simpa using h'

def OpOk (P : Program) (I : World → Prop) (o : Oper) (ρ : Operand → VV) (H : List (Option Blk)) (id : Nat) (x : VV) (eff : Eff) : Prop :=
  ∀ (D : Nat → Option Nat) (U : Nat → Prop) (N : Nat) (w0 : World) (H' : List (Option Blk)) (w : World) (a : Act) (next : Act → World → Prop) (Q : Exit → Act → World → Prop),
    I w → Compat H H' → WRel D U N w0 H' w → N ≤ w.heap.size → D id = none → id ≤ H'.length → (∀ y ∈ o.op.operands, VRep U w D (ρ y) (a.eval y)) →
    (∀ v w' D' U', Onward D U w D' U' w' → WRel D' U' N w0 (eff.app id H') w' → (∀ b, D b = Option.none → b ≠ id → D' b = Option.none) → VRep U' w' D' x v → next (a.put o.dst v) w') → o.wp P a w next Q

theorem opOk_same {P : Program} {I : World → Prop} {o : Oper} {ρ : Operand → VV} {H : List (Option Blk)} {id : Nat} {x : VV}
    (h : ∀ (D : Nat → Option Nat) (U : Nat → Prop) (w : World) (a : Act), (∀ y ∈ o.op.operands, VRep U w D (ρ y) (a.eval y)) → ∃ v, (execOp a.eval o).run P w = .ok (.value v) w ∧ VRep U w D x v) : OpOk P I o ρ H id x .none := by
  intro D U N w0 H' w a next Q hI _ hW _ _ _ hops hn
  obtain ⟨v, hv, hx⟩ := h D U w a hops
  unfold Oper.wp
  rw [hv]
  exact hn v w D U Onward.refl hW (fun _ h _ => h) hx

def noSel : Op → Bool
  | .select _ _ => false
  | _ => true
def ρF (ρ : Operand → VV) : Operand → Value := fun x => match (ρ x).flat with | some v => v | none => undef
def allFlat (ρ : Operand → VV) (o : Oper) : Bool := o.op.operands.toList.all fun x => (ρ x).flat.isSome
theorem flat_ops {P : Program} {o : Oper} {ρ : Operand → VV} (hf : allFlat ρ o = true) (hs : noSel o.op = true) {D : Nat → Option Nat} {U : Nat → Prop} {w : World} {a : Act} (hops : ∀ y ∈ o.op.operands, VRep U w D (ρ y) (a.eval y)) : execOp a.eval o = execOp (ρF ρ) o := by
  refine execOp_congr o (fun cs b h => by rw [h] at hs; simp [noSel] at hs) fun x hx => ?_
  have h1 := hops x hx
  have h2 : (ρ x).flat.isSome = true := by
    have := List.all_eq_true.1 hf x (by simpa using hx)
    exact this
  obtain ⟨u, hu⟩ := Option.isSome_iff_exists.1 h2
  rw [VV.flat_rep hu h1]
  simp [ρF, hu]
theorem opOk_flat {P : Program} {I : World → Prop} {o : Oper} {ρ : Operand → VV} {H : List (Option Blk)} {id : Nat} {v : Value} (hf : allFlat ρ o = true) (hs : noSel o.op = true)
    (h : ∀ w, (execOp (ρF ρ) o).run P w = .ok (.value v) w) : OpOk P I o ρ H id (.dv (.val v)) .none :=
  opOk_same fun D U w a hops => ⟨v, by rw [flat_ops (P := P) hf hs hops]; exact h w, .val v⟩
theorem opOk_flat_skip {P : Program} {I : World → Prop} {o : Oper} {ρ : Operand → VV} {H : List (Option Blk)} {id : Nat} (hf : allFlat ρ o = true) (hs : noSel o.op = true)
    (h : ∀ w, (execOp (ρF ρ) o).run P w = .ok .skip w) : OpOk P I o ρ H id (.dv (.val undef)) .none := by
  intro D U N w0 H' w a next Q hI _ hW _ _ _ hops hn
  unfold Oper.wp
  rw [flat_ops (P := P) hf hs hops, h w]
  exact hn undef w D U Onward.refl hW (fun _ h _ => h) (.val undef)
end Go.Pv
namespace Go.Pv
open Go Go.RowKit

theorem lt_of_heap {w : World} {k : Nat} {o : Obj} (h : w.heap[k]? = some o) : k < w.heap.size := (Array.getElem?_eq_some_iff.1 h).1

def updD (D : Nat → Option Nat) (id k : Nat) : Nat → Option Nat := fun b => if b = id then some k else D b
theorem addB_same (id : Nat) (H : List (Option Blk)) (cs : List DV) (h : id ≤ H.length) : (addB id H cs)[id]? = some (some (.cells cs)) := by
  simp only [addB]
  cases hb : Nat.blt id H.length with
  | true =>
    have : id < H.length := by simp [Nat.blt] at hb; omega
    simp [List.getElem?_set, this]
  | false =>
    have : ¬ id < H.length := by intro h'; have h2 : Nat.blt id H.length = true := Nat.ble_eq_true_of_le h'; rw [h2] at hb; cases hb
    have : id = H.length := by omega
    subst this
    simp
theorem addB_other (id : Nat) (H : List (Option Blk)) (cs : List DV) (h : id ≤ H.length) (b : Nat) (hb : b ≠ id) : (addB id H cs)[b]? = H[b]? := by
  simp only [addB]
  cases hc : Nat.blt id H.length with
  | true => simp [List.getElem?_set, Ne.symm hb]
  | false =>
    have : ¬ id < H.length := by intro h'; have h2 : Nat.blt id H.length = true := Nat.ble_eq_true_of_le h'; rw [h2] at hc; cases hc
    have : id = H.length := by omega
    subst this
    simp only [cond_false]
    by_cases hlt : b < H.length
    · rw [List.getElem?_append_left hlt]
    · rw [List.getElem?_eq_none (by simp; omega), List.getElem?_eq_none (by omega)]
theorem heap_alloc_new (w : World) (o : Obj) : (w.alloc o).heap[w.heap.size]? = some o := by show (w.heap.push o)[w.heap.size]? = some o; simp
theorem onward_alloc {D : Nat → Option Nat} {U : Nat → Prop} {w : World} {id : Nat} (hU : ∀ k, U k → k < w.heap.size) (hid : D id = none) (o : Obj) : Onward D U w (updD D id w.heap.size) U (w.alloc o) :=
  ⟨fun b k h => by unfold updD; split; · subst_vars; rw [hid] at h; cases h
                   · exact h, fun _ h => h, fun k h => Below.heap_alloc _ _ _ (hU k h), by simp, fun _ h => .inl h, fun b k cur T f _ h => ⟨cur, by rw [Below.heap_alloc _ _ _ (lt_of_heap h)]; exact h, rfl⟩⟩
theorem WRel.add {D : Nat → Option Nat} {U : Nat → Prop} {N : Nat} {w0 w w' : World} {H H1 : List (Option Blk)} {id k : Nat} {cs : List DV} {vs : Array Value} {T : TypeId}
    (hW : WRel D U N w0 H w) (hon : Onward D U w (updD D id k) U w') (hbl : Below N w0 w') (hNk : N ≤ k) (hid : D id = none) (hl : id ≤ H1.length) (hk : w'.heap[k]? = some (.cells vs T (0, 0))) (hUk : ¬ U k)
    (hsame : ∀ b, b ≠ id → (H1[b]? = H[b]? ∨ (H1[b]? = some (some .gone) ∧ ∃ B, H[b]? = some (some B))))
    (hlive : ∀ b j vs, D b = some j → H1[b]? = some (some (.cells vs)) → j ≠ k ∧ w'.heap[j]? = w.heap[j]?)
    (h1 : cs.length ≤ vs.size) (h2 : ∀ (i : Nat) (x : DV) (v : Value), cs[i]? = some x → vs[i]? = some v → DRep U w' x v) :
    WRel (updD D id k) U N w0 (addB id H1 cs) w' := by
  have ho := hon
  have back : ∀ b B, b ≠ id → H1[b]? = some (some (.cells B)) → H[b]? = some (some (.cells B)) := by
    intro b B hne hb
    rcases hsame b hne with h | ⟨h, _⟩
    · rw [← h]; exact hb
    · rw [hb] at h; cases h
  refine ⟨hbl, fun k h => Nat.lt_of_lt_of_le (hW.old k h) ho.size, ?_, ?_, ?_, ?_⟩
  · intro b j hb
    by_cases hne : b = id
    · subst hne
      simp only [updD, if_true, Option.some.injEq] at hb
      subst hb
      exact ⟨hNk, lt_of_heap hk, _, addB_same _ _ _ hl⟩
    · have hb' := hb
      simp only [updD, hne, if_false] at hb'
      obtain ⟨g1, g2, B, g3⟩ := hW.own b j hb'
      refine ⟨g1, Nat.lt_of_lt_of_le g2 ho.size, ?_⟩
      rw [addB_other _ _ _ hl _ hne]
      rcases hsame b hne with h | ⟨h, _⟩
      · exact ⟨B, h.trans g3⟩
      · exact ⟨_, h⟩
  · intro b j us hb hH
    by_cases hne : b = id
    · subst hne
      simp only [updD, if_true, Option.some.injEq] at hb
      subst hb
      rw [addB_same _ _ _ hl] at hH
      simp only [Option.some.injEq, Blk.cells.injEq] at hH
      subst hH
      exact ⟨hUk, vs, T, hk, h1, h2⟩
    · rw [addB_other _ _ _ hl _ hne] at hH
      simp only [updD, hne, if_false] at hb
      obtain ⟨g1, cs', T', g2, g3, g4⟩ := hW.hold b j us hb (back b us hne hH)
      obtain ⟨e1, e2⟩ := hlive b j us hb hH
      exact ⟨g1, cs', T', by rw [e2]; exact g2, g3, fun i x v p q => (g4 i x v p q).keep ho.set ho.keep ho.size⟩
  · intro b B hb
    by_cases hne : b = id
    · subst hne; exact ⟨k, by simp [updD]⟩
    · rw [addB_other _ _ _ hl _ hne] at hb
      rcases hsame b hne with h | ⟨_, B', h⟩
      · rw [h] at hb
        obtain ⟨j, hj⟩ := hW.all b B hb
        exact ⟨j, by simp [updD, hne, hj]⟩
      · obtain ⟨j, hj⟩ := hW.all b B' h
        exact ⟨j, by simp [updD, hne, hj]⟩
  · intro b b' j us us' hb hb' hd hd'
    by_cases hne : b = id <;> by_cases hne' : b' = id
    · rw [hne, hne']
    · subst hne
      simp only [updD, if_true, Option.some.injEq] at hd
      subst hd
      rw [addB_other _ _ _ hl _ hne'] at hb'
      simp only [updD, hne', if_false] at hd'
      exact absurd rfl (hlive b' _ us' hd' hb').1
    · subst hne'
      simp only [updD, if_true, Option.some.injEq] at hd'
      subst hd'
      rw [addB_other _ _ _ hl _ hne] at hb
      simp only [updD, hne, if_false] at hd
      exact absurd rfl (hlive b _ us hd hb).1
    · rw [addB_other _ _ _ hl _ hne] at hb
      rw [addB_other _ _ _ hl _ hne'] at hb'
      simp only [updD, hne, hne', if_false] at hd hd'
      exact hW.inj b b' j us us' (back b us hne hb) (back b' us' hne' hb') hd hd'
theorem WRel.new {D : Nat → Option Nat} {U : Nat → Prop} {N : Nat} {w0 w : World} {H : List (Option Blk)} {id : Nat} {cs : List DV} {vs : Array Value} {T : TypeId}
    (hW : WRel D U N w0 H w) (hN : N ≤ w.heap.size) (hid : D id = none) (hl : id ≤ H.length) (h1 : cs.length ≤ vs.size) (h2 : ∀ (i : Nat) (x : DV) (v : Value), cs[i]? = some x → vs[i]? = some v → DRep U w x v) :
    WRel (updD D id w.heap.size) U N w0 ((Eff.new cs).app id H) (w.alloc (.cells vs T)) := by
  have ho := onward_alloc (o := .cells vs T) hW.old hid
  refine hW.add ho (hW.below.alloc hN _) hN hid hl (heap_alloc_new _ _) (fun h => Nat.lt_irrefl _ (hW.old _ h)) (fun b _ => .inl rfl) (fun b j us hb _ => ?_) h1 (fun i x v e1 e2 => (h2 i x v e1 e2).keep ho.set ho.keep ho.size)
  obtain ⟨_, g2, _⟩ := hW.own b j hb
  exact ⟨by omega, Below.heap_alloc _ _ _ g2⟩

theorem opOk_new {P : Program} {I : World → Prop} {o : Oper} {ρ : Operand → VV} {H : List (Option Blk)} {id : Nat} {cs : List DV}
    (h : ∀ (D : Nat → Option Nat) (U : Nat → Prop) (w : World) (a : Act), (∀ y ∈ o.op.operands, VRep U w D (ρ y) (a.eval y)) →
      ∃ vs T, (execOp a.eval o).run P w = .ok (.value (.pointer (some ⟨w.heap.size, 0, none⟩))) (w.alloc (.cells vs T)) ∧ vs.size = cs.length ∧ ∀ (i : Nat) (x : DV) (v : Value), cs[i]? = some x → vs[i]? = some v → DRep U w x v) :
    OpOk P I o ρ H id (.ptr id 0) (.new cs) := by
  intro D U N w0 H' w a next Q hI _ hW hN hid hl hops hn
  obtain ⟨vs, T, hr, h1, h2⟩ := h D U w a hops
  unfold Oper.wp
  rw [hr]
  refine hn _ _ _ _ (onward_alloc hW.old hid _) (hW.new hN hid hl (by omega) h2) (fun b hb hne => by simp [updD, hne, hb]) ⟨w.heap.size, by simp [updD], rfl⟩

def U2 (U : Nat → Prop) (w w' : World) : Nat → Prop := fun k => U k ∨ (w.heap.size ≤ k ∧ k < w'.heap.size)
theorem onward_below {D : Nat → Option Nat} {U : Nat → Prop} {w w' : World} (hU : ∀ k, U k → k < w.heap.size) (hb : Below w.heap.size w w') : Onward D U w D (U2 U w w') w' :=
  ⟨fun _ _ h => h, fun _ h => .inl h, fun k h => hb.block k (hU k h), hb.size, fun k h => h.imp id (fun h => h.1), fun _ k cur T f _ h => ⟨cur, by rw [hb.block k (lt_of_heap h)]; exact h, rfl⟩⟩
theorem WRel.below' {D : Nat → Option Nat} {U : Nat → Prop} {N : Nat} {w0 w w' : World} {H : List (Option Blk)} (hW : WRel D U N w0 H w) (hN : N ≤ w.heap.size) (hb : Below w.heap.size w w') : WRel D (U2 U w w') N w0 H w' := by
  have ho := onward_below (D := D) hW.old hb
  refine ⟨hW.below.trans (hb.mono hN), ?_, ?_, ?_, hW.all, hW.inj⟩
  · intro k h
    rcases h with h | h
    · exact Nat.lt_of_lt_of_le (hW.old k h) hb.size
    · exact h.2
  · intro b k h
    obtain ⟨g1, g2, g3⟩ := hW.own b k h
    exact ⟨g1, Nat.lt_of_lt_of_le g2 hb.size, g3⟩
  · intro b k vs h hH
    obtain ⟨_, g2, _⟩ := hW.own b k h
    obtain ⟨g1, cs', T', g3, g5, g6⟩ := hW.hold b k vs h hH
    refine ⟨?_, cs', T', ?_, g5, fun i x v e1 e2 => (g6 i x v e1 e2).keep ho.set ho.keep ho.size⟩
    · intro hu
      rcases hu with hu | hu
      · exact g1 hu
      · omega
    · rw [hb.block k g2]; exact g3

def okCall (P : Program) (g : FuncId) : Bool := match P.funcs[g]? with | some fn => !(fn.name == "runtime.NumGoroutine") && !fn.body.isNone | none => false
def Meets (P : Program) (I : World → Prop) (g : FuncId) (G : List DV → (DV → Option DV) → Option DV) : Prop :=
  ∀ (ds : List DV) (k : DV → Option DV) (r : DV), G ds k = some r → okCall P g = true ∧ ∃ d, k d = some r ∧ (∀ k', G ds k' = k' d) ∧ ∀ (U : Nat → Prop) (w : World) (args : Array Value), I w → (∀ k, U k → k < w.heap.size) → args.size = ds.length →
    (∀ (i : Nat) (x : DV) (v : Value), ds[i]? = some x → args[i]? = some v → DRep U w x v) →
    Calls P g args w fun e w' => ∃ v, e = .returned v ∧ Below w.heap.size w w' ∧ DRep (U2 U w w') w' d v

def dvs : List VV → Option (List DV)
  | [] => some []
  | .dv d :: r => match dvs r with | some l => some (d :: l) | none => none
  | _ => none
theorem dvs_map : ∀ {xs : List VV} {ds : List DV}, dvs xs = some ds → xs = ds.map .dv
  | [], ds, h => by simp [dvs] at h; subst h; rfl
  | x :: xs, ds, h => by
    cases x <;> simp [dvs] at h
    rename_i d
    cases hf : dvs xs with
    | none => simp [hf] at h
    | some l => simp [hf] at h; subst h; simp [dvs_map hf]
theorem run_callFunc {P : Program} {g : FuncId} (h : okCall P g = true) (args : Array Value) (w : World) : (callFunc g args).run P w = .ok (.enter g args) w := by
  unfold okCall at h
  cases hf : P.funcs[g]? with
  | none => simp [hf] at h
  | some fn =>
    simp [hf] at h
    obtain ⟨h1, h2⟩ := h
    unfold callFunc
    have hb : fn.body.isNone = false := by cases hh : fn.body <;> simp_all
    simp [program, Sem.run, hf, h1, hb, pure]
    intro he; rw [he] at h2; simp at h2
def calleeOf (ρ : Operand → VV) (c : Call) : Option (FuncId × Array Value × Array Value) :=
  match c.callee with
  | .value f => match (ρ f).flat with
    | some (.func (.func g) first captured) => some (g, first, captured)
    | _ => none
  | _ => none
theorem opOk_call {P : Program} {I : World → Prop} {o : Oper} {ρ : Operand → VV} {H : List (Option Blk)} {id : Nat} {c : Call} {g : FuncId} {first captured : Array Value} {ds : List DV} {d : DV}
    (ho : o.op = .call c) (hc : calleeOf ρ c = some (g, first, captured)) (hd : dvs (c.args.toList.map ρ) = some ds) (hg : okCall P g = true)
    (hk : ∀ (U : Nat → Prop) (w : World) (args : Array Value), I w → (∀ k, U k → k < w.heap.size) → args.size = (first.toList.map DV.val ++ ds ++ captured.toList.map DV.val).length →
      (∀ (i : Nat) (x : DV) (v : Value), (first.toList.map DV.val ++ ds ++ captured.toList.map DV.val)[i]? = some x → args[i]? = some v → DRep U w x v) →
      Calls P g args w fun e w' => ∃ v, e = .returned v ∧ Below w.heap.size w w' ∧ DRep (U2 U w w') w' d v) : OpOk P I o ρ H id (.dv d) .none := by
  intro D U N w0 H' w a next Q hI _ hW hN _ _ hops hn
  unfold calleeOf at hc
  cases hcal : c.callee with
  | invoke r m => simp [hcal] at hc
  | builtin b => simp [hcal] at hc
  | value f =>
    simp only [hcal] at hc
    have hfop : f ∈ o.op.operands := by simp [ho, Op.operands, Call.operands, hcal]
    have hrf := hops f hfop
    cases hfl : (ρ f).flat with
    | none => simp [hfl] at hc
    | some fv =>
      have hev := VV.flat_rep hfl hrf
      simp only [hfl] at hc
      cases fv <;> try (simp at hc; done)
      rename_i fn fi ca
      cases fn <;> simp at hc
      rename_i g'
      obtain ⟨rfl, rfl, rfl⟩ := hc
      have hargs := dvs_map hd
      have hrun : (execOp a.eval o).run P w = .ok (.enter g' (fi ++ c.args.map a.eval ++ ca)) w := by
        simp [execOp, ho, resolve, hcal, hev, Deferred.ofValue, invoke, run_callFunc hg, Array.append_assoc]
      unfold Oper.wp
      rw [hrun]
      refine Calls.mono (hk U w _ hI hW.old ?_ ?_) ?_
      · have : (c.args.toList.map ρ).length = ds.length := by rw [hargs]; simp
        simp at this
        simp [this]
      · intro i x v h1 h2
        have hlen : c.args.size = ds.length := by have : (c.args.toList.map ρ).length = ds.length := by rw [hargs]; simp
                                                  simpa using this
        rw [← Array.getElem?_toList] at h2
        simp only [Array.toList_append, Array.toList_map] at h2
        rw [List.append_assoc, List.getElem?_append] at h1 h2
        simp only [List.length_map, Array.length_toList] at h1 h2
        split at h1
        · simp only [*, if_true] at h2
          simp at h1 h2
          obtain ⟨u, hu, rfl⟩ := h1
          rw [hu] at h2; cases h2; exact .val _
        · rename_i hni
          simp only [hni, if_false] at h2
          rw [List.getElem?_append] at h1 h2
          simp only [List.length_map, Array.length_toList] at h1 h2
          rw [hlen] at h2
          split at h1
          · rename_i hlt
            simp only [hlt, if_true] at h2
            have e1 : (c.args.toList.map ρ)[i - fi.size]? = some (.dv x) := by rw [hargs]; simp [h1]
            simp at e1 h2
            obtain ⟨y, hy, hxy⟩ := e1
            obtain ⟨y', hy', hvy⟩ := h2
            rw [hy] at hy'; cases hy'
            have hm : y ∈ o.op.operands := by
              simp only [ho, Op.operands, Call.operands, hcal]
              exact Array.mem_append.2 (.inr (Array.mem_of_getElem? hy))
            have := hops y hm
            rw [hxy, hvy] at this
            exact this
          · rename_i hlt
            simp only [hlt, if_false] at h2
            simp at h1 h2
            obtain ⟨u, hu, rfl⟩ := h1
            rw [hu] at h2; cases h2; exact .val _
      · rintro e w' ⟨v, rfl, hb, hr⟩
        exact hn v w' D (U2 U w w') (onward_below hW.old hb) (hW.below' hN hb) (fun _ h _ => h) hr
end Go.Pv
namespace Go.Pv
open Go Go.RowKit

def eqList (P : Program) (eq : TypeId → Value → Value → Option Bool) (xs ys : Array Value) : List Field → Option Bool
  | [] => some true
  | f :: fs => bif f.name == "_" then none else
    match prun P (part f.type xs f.offset), prun P (part f.type ys f.offset) with
    | some a, some b => match eq f.type a b, eqList P eq xs ys fs with
      | some p, some q => some (p && q)
      | _, _ => none
    | _, _ => none
def eqK (P : Program) : Nat → TypeId → Value → Value → Option Bool
  | 0, _, _, _ => none
  | d + 1, t, x, y => match P.underlying t, x, y with
    | some .bool, .bool a, .bool b => some (a == b)
    | some (.int _), .int k a, .int k' b => bif decide (k = k') then some (a == b) else none
    | some .string, .string a, .string b => some (a.toList == b.toList)
    | some (.struct fs), .agg xs, .agg ys => bif P.stoodInHeld t then none else eqList P (eqK P d) xs ys fs.toList
    | _, _, _ => none
theorem eqList_run {P : Program} {d : Nat} {eq : TypeId → Value → Value → Option Bool} (h : ∀ t x y b, eq t x y = some b → ∀ w, (Op.equalIn d t x y).run P w = .ok b w) (xs ys : Array Value) :
    ∀ (fs : List Field) (b : Bool), eqList P eq xs ys fs = some b → ∀ w, (Op.eqFields d xs ys fs).run P w = .ok b w
  | [], b, hb, w => by simp [eqList] at hb; subst hb; rfl
  | f :: fs, b, hb, w => by
    simp only [eqList] at hb
    cases hn : f.name == "_" with
    | true => simp [hn] at hb
    | false =>
      simp only [hn, cond_false] at hb
      cases ha : prun P (part f.type xs f.offset) with
      | none => simp [ha] at hb
      | some a =>
        cases hc : prun P (part f.type ys f.offset) with
        | none => simp [ha, hc] at hb
        | some c =>
          simp only [ha, hc] at hb
          cases hp : eq f.type a c with
          | none => simp [hp] at hb
          | some p =>
            cases hq : eqList P eq xs ys fs with
            | none => simp [hp, hq] at hb
            | some q =>
              simp [hp, hq] at hb
              have hn' : f.name ≠ "_" := by simpa using hn
              simp only [Op.eqFields, hn', ne_eq, not_false_eq_true, if_true, Sem.run_bind, prun_run _ ha w, prun_run _ hc w, h _ _ _ _ hp w, Result.andThen_ok]
              cases p
              · simp at hb; subst hb; rfl
              · simp at hb; subst hb; simpa using eqList_run h xs ys fs q hq w
theorem eqK_run {P : Program} : ∀ (d : Nat) (d' : Nat), d ≤ d' → ∀ t x y b, eqK P d t x y = some b → ∀ w, (Op.equalIn d' t x y).run P w = .ok b w
  | 0, d', _, t, x, y, b, h, w => by simp [eqK] at h
  | d + 1, 0, hd, t, x, y, b, h, w => by omega
  | d + 1, d' + 1, hd, t, x, y, b, h, w => by
    simp only [eqK] at h
    split at h
    · rename_i u a c hu; simp at h; subst h; exact run_equalIn_bool' w d' t _ _ hu
    · rename_i u kk k a k' c hu
      cases hk : decide (k = k') with
      | false => simp [hk] at h
      | true =>
        simp [hk] at h; subst h
        have : k = k' := by simpa using hk
        subst this
        exact run_equalIn_int w d' t _ _ _ _ hu
    · rename_i u a c hu; simp at h; subst h; exact run_equalIn_string w d' t _ _ hu
    · rename_i u fs xs ys hu
      cases hs : P.stoodInHeld t with
      | true => simp [hs] at h
      | false =>
        simp only [hs, cond_false] at h
        have hf : P.fieldsOf t = fs := by simp [Program.fieldsOf, hu]
        rw [run_equalIn_agg w d' t xs ys (by rw [hf]; exact hu) hs, hf]
        exact eqList_run (fun t x y b hb w => eqK_run d d' (by omega) t x y b hb w) xs ys fs.toList b h w
    · simp at h

abbrev KK := VV → Eff → Option DV
def valK (k : KK) (v : Value) : Option DV := k (.dv (.val v)) .none

def flatK (P : Program) (ρ : Operand → VV) (o : Oper) (k : KK) : Option DV :=
  bif allFlat ρ o && noSel o.op then
    match prun P (execOp (ρF ρ) o) with
    | some (.value v) => valK k v
    | some .skip => valK k undef
    | _ => none
  else none

def OpGood (P : Program) (I : World → Prop) (o : Oper) (ρ : Operand → VV) (H : List (Option Blk)) (id : Nat) (k : KK) (r : DV) : Prop := ∃ x eff, k x eff = some r ∧ OpOk P I o ρ H id x eff

theorem flatK_ok {P : Program} {I : World → Prop} {ρ : Operand → VV} {o : Oper} {k : KK} {r : DV} {H : List (Option Blk)} {id : Nat} (h : flatK P ρ o k = some r) : OpGood P I o ρ H id k r := by
  unfold flatK at h
  cases hf : allFlat ρ o with
  | false => simp [hf] at h
  | true =>
    cases hs : noSel o.op with
    | false => simp [hs] at h
    | true =>
      simp only [hf, hs, Bool.and_self, cond_true] at h
      cases hp : prun P (execOp (ρF ρ) o) with
      | none => simp [hp] at h
      | some n =>
        rw [hp] at h
        have hr := prun_run _ hp
        cases n <;> simp at h
        · exact ⟨_, _, h, opOk_flat hf hs hr⟩
        · exact ⟨_, _, h, opOk_flat_skip hf hs hr⟩

def binK (P : Program) (ρ : Operand → VV) (o : Oper) (b : BinOp) (T : TypeId) (x y : Operand) (k : KK) : Option DV :=
  match b, (ρ x).flat, (ρ y).flat with
  | .quo, some (.int ka a), some (.int kb c) => bif decide (ka = kb) then (bif c == 0 then none else valK k (.int ka (ka.wrap (a.tdiv c)))) else none
  | .rem, some (.int ka a), some (.int kb c) => bif decide (ka = kb) then (bif c == 0 then none else valK k (.int ka (a.tmod c))) else none
  | .shl, some (.int ka a), some (.int kb c) => bif decide (c < 0) then none else valK k (.int ka (ka.wrap (a * 2 ^ (min c.toNat ka.bits))))
  | .shr, some (.int ka a), some (.int kb c) => bif decide (c < 0) then none else valK k (.int ka (a.fdiv (2 ^ (min c.toNat ka.bits))))
  | .add, some (.string a), some (.string c) => bif decide (((a.size + c.size : Nat) : Int) > IntKind.i64.max) then none else valK k (.string (a ++ c))
  | .eql, some (.agg xs), some (.agg ys) => bif P.eqGuardType P.depth T then none else match eqK P 12 T (.agg xs) (.agg ys) with | some p => valK k (.bool p) | none => none
  | .neq, some (.agg xs), some (.agg ys) => bif P.eqGuardType P.depth T then none else match eqK P 12 T (.agg xs) (.agg ys) with | some p => valK k (.bool (!p)) | none => none
  | _, _, _ => flatK P ρ o k

theorem bin_ok {P : Program} {I : World → Prop} {ρ : Operand → VV} {o : Oper} {H : List (Option Blk)} {id : Nat} {b : BinOp} {T ty : TypeId} {x y : Operand} {u v r : Value} (ho : o.op = .binOp b T x y ty)
    (hx : (ρ x).flat = some u) (hy : (ρ y).flat = some v) (h : ∀ w, (do eqGuard b T x y u v; binOp b T u v : Sem Value).run P w = .ok r w) : OpOk P I o ρ H id (.dv (.val r)) .none := by
  refine opOk_same fun D U w a hops => ⟨r, ?_, .val r⟩
  have h1 := VV.flat_rep hx (hops x (by simp [ho, Op.operands]))
  have h2 := VV.flat_rep hy (hops y (by simp [ho, Op.operands]))
  have := h w
  simp only [execOp, ho, h1, h2, Sem.run_bind] at this ⊢
  rw [this]
  rfl

theorem binK_ok {P : Program} {I : World → Prop} {ρ : Operand → VV} {o : Oper} {b : BinOp} {T ty : TypeId} {x y : Operand} {k : KK} {r : DV} {H : List (Option Blk)} {id : Nat} (ho : o.op = .binOp b T x y ty) (h : binK P ρ o b T x y k = some r) : OpGood P I o ρ H id k r := by
  unfold binK at h
  split at h
  · rename_i ka a kb c hx hy
    cases hk : decide (ka = kb) <;> simp only [hk, cond_false, cond_true] at h <;> try (cases h; done)
    cases hc : c == 0 <;> simp only [hc, cond_false, cond_true] at h <;> try (cases h; done)
    have e : ka = kb := by simpa using hk
    have e2 : ¬ c = 0 := by simpa using hc
    subst e
    exact ⟨_, _, h, bin_ok ho hx hy fun w => by simp [eqGuard, binOp, Op.intDiv, e2]⟩
  · rename_i ka a kb c hx hy
    cases hk : decide (ka = kb) <;> simp only [hk, cond_false, cond_true] at h <;> try (cases h; done)
    cases hc : c == 0 <;> simp only [hc, cond_false, cond_true] at h <;> try (cases h; done)
    have e : ka = kb := by simpa using hk
    have e2 : ¬ c = 0 := by simpa using hc
    subst e
    exact ⟨_, _, h, bin_ok ho hx hy fun w => by simp [eqGuard, binOp, Op.intDiv, e2]⟩
  · rename_i ka a kb c hx hy
    cases hc : decide (c < 0) <;> simp only [hc, cond_false, cond_true] at h <;> try (cases h; done)
    have e2 : ¬ c < 0 := by simpa using hc
    exact ⟨_, _, h, bin_ok ho hx hy fun w => by simp [eqGuard, binOp, Op.shift, e2]⟩
  · rename_i ka a kb c hx hy
    cases hc : decide (c < 0) <;> simp only [hc, cond_false, cond_true] at h <;> try (cases h; done)
    have e2 : ¬ c < 0 := by simpa using hc
    exact ⟨_, _, h, bin_ok ho hx hy fun w => by simp [eqGuard, binOp, Op.shift, e2]⟩
  · rename_i a c hx hy
    cases hc : decide (((a.size + c.size : Nat) : Int) > IntKind.i64.max) <;> simp only [hc, cond_false, cond_true] at h <;> try (cases h; done)
    have e2 : ¬ ((a.size + c.size : Nat) : Int) > IntKind.i64.max := by simpa using hc
    exact ⟨_, _, h, bin_ok ho hx hy fun w => by simp only [eqGuard, binOp, Op.stringOp, e2]; rfl⟩
  · rename_i xs ys hx hy
    cases hg : P.eqGuardType P.depth T <;> simp only [hg, cond_false, cond_true] at h <;> try (cases h; done)
    cases he : eqK P 12 T (.agg xs) (.agg ys) <;> simp only [he] at h <;> try (cases h; done)
    exact ⟨_, _, h, bin_ok ho hx hy fun w => by rw [Sem.run_bind, run_eqGuard_agg w _ T x y xs ys hg, Result.andThen_ok, run_eql_struct, eqK_run 12 10000 (by omega) T _ _ _ he w]; rfl⟩
  · rename_i xs ys hx hy
    cases hg : P.eqGuardType P.depth T <;> simp only [hg, cond_false, cond_true] at h <;> try (cases h; done)
    cases he : eqK P 12 T (.agg xs) (.agg ys) <;> simp only [he] at h <;> try (cases h; done)
    exact ⟨_, _, h, bin_ok ho hx hy fun w => by rw [Sem.run_bind, run_eqGuard_agg w _ T x y xs ys hg, Result.andThen_ok, run_neq_struct, eqK_run 12 10000 (by omega) T _ _ _ he w]; rfl⟩
  · exact flatK_ok h
end Go.Pv
namespace Go.Pv
open Go Go.RowKit

def fieldOff (P : Program) (T : TypeId) (f : Nat) : Option Nat :=
  match P.underlying T with
  | some (.struct fields) => match fields[f]? with
    | some fd => match P.info? fd.type with
      | some i => bif Nat.beq i.size 0 then none else some fd.offset
      | none => none
    | none => none
  | _ => none
theorem run_fieldAt {P : Program} {T : TypeId} {f off : Nat} (h : fieldOff P T f = some off) (a : Addr) (w : World) : (Instr.fieldAt T (.pointer (some a)) f).run P w = .ok (.pointer (some (a.add off))) w := by
  unfold fieldOff at h
  split at h <;> try (cases h; done)
  rename_i fields hu
  split at h <;> try (cases h; done)
  rename_i fd hf
  split at h <;> try (cases h; done)
  rename_i i hi
  cases hb : Nat.beq i.size 0 with
  | true => simp [hb] at h
  | false =>
    simp [hb] at h
    have hs : ¬ i.size = 0 := by intro e; rw [e] at hb; simp at hb
    simp [Instr.fieldAt, run_underlying hu, hf, Instr.sureAddr, fieldPlace, sizeOf, typeInfo, program, Sem.run, hi, hs, h, bind, pure, Sem.bind, underlying, hu]

def aggD : TypeDesc → Bool
  | .struct _ | .array _ _ => true
  | _ => false
def loadK (P : Program) (T : TypeId) (cs : List DV) (o : Nat) : Option DV :=
  match P.underlying T with
  | some (.struct _) | some (.array _ _) => match P.info? T with
    | some i => bif Nat.ble (o + i.size) cs.length then some (mkAgg ((cs.drop o).take i.size)) else none
    | none => none
  | some _ => cs[o]?
  | none => none
theorem add_flat (k o j : Nat) : (⟨k, o, none⟩ : Addr).add j = ⟨k, o + j, none⟩ := by unfold Addr.add; split <;> simp_all
theorem loadK_ok {P : Program} {T : TypeId} {cs : List DV} {o : Nat} {d : DV} (h : loadK P T cs o = some d) {U : Nat → Prop} {w : World} {k base : Nat} (hc : CellsAt U w k base cs) : ∃ v, (loadVar T ⟨k, base + o, none⟩).run P w = .ok v w ∧ DRep U w d v := by
  have agg : (∃ b, (isAgg T).run P w = .ok b w ∧ b = true) → (match P.info? T with
    | some i => bif Nat.ble (o + i.size) cs.length then some (mkAgg ((cs.drop o).take i.size)) else none
    | none => none) = some d → ∃ v, (loadVar T ⟨k, base + o, none⟩).run P w = .ok v w ∧ DRep U w d v := by
    rintro ⟨b, hb, rfl⟩ h
    split at h <;> try (cases h; done)
    rename_i i hi
    cases hl : Nat.ble (o + i.size) cs.length with
    | false => simp [hl] at h
    | true =>
      simp [hl] at h
      have hl' : o + i.size ≤ cs.length := Nat.le_of_ble_eq_true hl
      have hget : ∀ j, j < i.size → ∃ v, w.cell? ⟨k, base + o + j, none⟩ = some v ∧ ∃ x, ((cs.drop o).take i.size)[j]? = some x ∧ DRep U w x v := by
        intro j hj
        have : o + j < cs.length := by omega
        obtain ⟨v, hv, hr⟩ := hc (o + j) _ (List.getElem?_eq_getElem this)
        exact ⟨v, by rw [Nat.add_assoc]; exact hv, _, by simp [List.getElem?_take, hj, this], hr⟩
      let g : Nat → Value := fun j => (w.cell? ⟨k, base + o + j, none⟩).getD undef
      refine ⟨.agg ((List.range i.size).map g).toArray, ?_, ?_⟩
      · have hs : (sizeOf T).run P w = .ok i.size w := by simp [sizeOf, typeInfo, program, Sem.run, hi, bind, pure, Sem.bind]
        simp only [loadVar, Sem.run_bind, hb, Result.andThen_ok, if_true, hs]
        rw [run_loadCells (P := P) w ⟨k, base + o, none⟩ i.size g (fun j hj => by obtain ⟨v, hv, _⟩ := hget j hj; rw [add_flat]; simp [g, hv])]
        rfl
      · rw [← h]
        refine mkAgg_rep (by simp; omega) fun j x v h1 h2 => ?_
        simp only [List.getElem?_toArray, List.getElem?_map] at h2
        have hj : j < i.size := by
          rcases Nat.lt_or_ge j i.size with hj | hj
          · exact hj
          · rw [List.getElem?_eq_none (by simpa using hj)] at h2; cases h2
        rw [List.getElem?_range hj] at h2
        simp at h2
        subst h2
        obtain ⟨v, hv, x', hx', hr⟩ := hget j hj
        rw [hx'] at h1; cases h1
        simpa [g, hv] using hr
  unfold loadK at h
  cases hu : P.underlying T with
  | none => simp [hu] at h
  | some td =>
    have hia : ∀ b, aggD td = b → (isAgg T).run P w = .ok b w := by
      intro b hb
      simp only [isAgg, Sem.run_bind, run_underlying hu, Result.andThen_ok]
      subst hb
      cases td <;> rfl
    have one : aggD td = false → cs[o]? = some d → ∃ v, (loadVar T ⟨k, base + o, none⟩).run P w = .ok v w ∧ DRep U w d v := by
      intro hf h
      obtain ⟨v, hv, hr⟩ := hc o _ h
      refine ⟨v, ?_, hr⟩
      simp only [loadVar, Sem.run_bind, hia _ hf, Result.andThen_ok, Bool.false_eq_true, if_false]
      simp [load, Sem.run, hv]
    rw [hu] at h
    cases td <;> first
      | exact agg ⟨true, hia _ rfl, rfl⟩ h
      | exact one rfl h

def oneCellD : DV → Bool
  | .val (.agg _) => false
  | .val (.tuple _) => false
  | .val _ => true
  | .lst _ _ => true
  | .err => true
  | _ => false
def storeK (P : Program) (T : TypeId) (cs : List DV) (o : Nat) (ds : List DV) : Option (List DV) :=
  match P.info? T with
  | some i => bif Nat.beq ds.length i.size && Nat.ble (o + ds.length) cs.length && ds.all oneCellD then some (cs.take o ++ ds ++ cs.drop (o + ds.length)) else none
  | none => none
theorem oneCellD_rep {U : Nat → Prop} {w : World} {d : DV} {v : Value} (h : oneCellD d = true) (hr : DRep U w d v) : v.oneCell' = true := by
  cases hr with
  | val v => cases v <;> simp [oneCellD] at h <;> rfl
  | agg => simp [oneCellD] at h
  | tup => simp [oneCellD] at h
  | nil => rfl
  | err => rfl
  | lst => rfl
theorem onward_setRow {D : Nat → Option Nat} {U : Nat → Prop} {w : World} {k : Nat} (hk : ¬ U k) (cs : Array Value) (hsz : ∀ cur T f, w.heap[k]? = some (.cells cur T f) → cs.size = cur.size) : Onward D U w D U (w.setRow k cs) :=
  ⟨fun _ _ h => h, fun _ h => h, fun j h => setRow_other w k j cs (fun e => hk (e ▸ h)), by simp, fun _ h => .inl h, fun b j cur T f _ h => by
    by_cases e : j = k
    · subst e; exact ⟨cs, setRow_heap w j cur cs T f h, hsz cur T f h⟩
    · exact ⟨cur, by rw [setRow_other w k j cs e]; exact h, rfl⟩⟩
theorem below_setRow {B : Nat} {a w : World} (h : Below B a w) {k : Nat} (hk : B ≤ k) (cs : Array Value) : Below B a (w.setRow k cs) :=
  h.trans ⟨rfl, rfl, rfl, by simp, fun j hj => setRow_other w k j cs (by omega)⟩
theorem WRel.upd {D : Nat → Option Nat} {U : Nat → Prop} {N : Nat} {w0 w : World} {H : List (Option Blk)} {b k : Nat} {ds old : List DV} {vs : Array Value} {cur : Array Value} {T : TypeId}
    (hW : WRel D U N w0 H w) (hb : D b = some k) (hbH : H[b]? = some (some (.cells old))) (hk : w.heap[k]? = some (.cells cur T (0, 0))) (hsz : vs.size = cur.size) (h1 : ds.length ≤ vs.size) (h2 : ∀ (i : Nat) (x : DV) (v : Value), ds[i]? = some x → vs[i]? = some v → DRep U w x v) :
    WRel D U N w0 (H.set b (some (.cells ds))) (w.setRow k vs) := by
  obtain ⟨n1, n3, _⟩ := hW.own b k hb
  obtain ⟨n2, _⟩ := hW.hold b k old hb hbH
  have ho := onward_setRow (D := D) (w := w) n2 vs (fun c T' f h => by rw [hk] at h; cases h; exact hsz)
  have hbl : b < H.length := (List.getElem?_eq_some_iff.1 hbH).1
  refine ⟨below_setRow hW.below n1 _, fun j h => by simpa using hW.old j h, ?_, ?_, ?_, ?_⟩
  · intro b' k' hb'
    obtain ⟨g1, g2, B, g3⟩ := hW.own b' k' hb'
    refine ⟨g1, by simpa using g2, ?_⟩
    by_cases e : b' = b
    · subst e; exact ⟨_, by simp [List.getElem?_set, hbl]; rfl⟩
    · exact ⟨B, by rw [List.getElem?_set_ne (Ne.symm e)]; exact g3⟩
  · intro b' k' us hb' hH'
    by_cases e : b' = b
    · subst e
      rw [hb] at hb'; cases hb'
      simp only [List.getElem?_set, hbl, if_true, Option.some.injEq, Blk.cells.injEq] at hH'
      subst hH'
      exact ⟨n2, vs, T, setRow_heap w k cur vs T _ hk, h1, fun i x v e1 e2 => (h2 i x v e1 e2).keep ho.set ho.keep ho.size⟩
    · rw [List.getElem?_set_ne (Ne.symm e)] at hH'
      obtain ⟨g2, cs', T', g3, g5, g6⟩ := hW.hold b' k' us hb' hH'
      have hne : k' ≠ k := fun e' => e (hW.inj b' b k us old hH' hbH (e' ▸ hb') hb)
      exact ⟨g2, cs', T', by rw [setRow_other w k k' vs hne]; exact g3, g5, fun i x v e1 e2 => (g6 i x v e1 e2).keep ho.set ho.keep ho.size⟩
  · intro b' B hb'
    by_cases e : b' = b
    · subst e; exact ⟨k, hb⟩
    · rw [List.getElem?_set_ne (Ne.symm e)] at hb'
      exact hW.all b' B hb'
  · intro b' b'' j us us' h1' h2' d1 d2
    by_cases e : b' = b <;> by_cases e' : b'' = b
    · rw [e, e']
    · subst e
      rw [List.getElem?_set_ne (Ne.symm e')] at h2'
      exact hW.inj b' b'' j old us' hbH h2' d1 d2
    · subst e'
      rw [List.getElem?_set_ne (Ne.symm e)] at h1'
      exact hW.inj b' b'' j us old h1' hbH d1 d2
    · rw [List.getElem?_set_ne (Ne.symm e)] at h1'
      rw [List.getElem?_set_ne (Ne.symm e')] at h2'
      exact hW.inj b' b'' j us us' h1' h2' d1 d2
theorem run_storeVar {P : Program} {T : TypeId} {i : TypeInfo} (hi : P.info? T = some i) {v : Value} (hs : v.cells.size = i.size) (k o : Nat) {cur : Array Value} {t : TypeId} {w : World} (hk : w.heap[k]? = some (.cells cur t (0, 0)))
    (hl : o + v.cells.size ≤ cur.size) (h1 : ∀ u ∈ v.cells.toList, u.oneCell' = true) : (Instr.storeAt T (.pointer (some ⟨k, o, none⟩)) v).run P w = .ok () (w.setRow k (cur.toList.take o ++ v.cells.toList ++ cur.toList.drop (o + v.cells.size)).toArray) := by
  have hz : (sizeOf T).run P w = .ok i.size w := by simp [sizeOf, typeInfo, program, Sem.run, hi, bind, pure, Sem.bind]
  have := run_storeCells_at (P := P) k o t v.cells.toList 0 cur w hk (by simpa using hl) h1
  simp only [Instr.storeAt, Instr.sureAddr, storeVar, Sem.run_bind, Sem.run_pure, Result.andThen_ok, hz, hs, ne_eq, not_true_eq_false, if_false]
  simpa [hs] using this

theorem opOk_store {P : Program} {I : World → Prop} {o : Oper} {ρ : Operand → VV} {H : List (Option Blk)} {id : Nat} {T : TypeId} {x y : Operand} {b of : Nat} {d : DV} {cs cs' : List DV} (ho : o.op = .store T x y)
    (hx : ρ x = .ptr b of) (hy : ρ y = .dv d) (hb : H[b]? = some (some (.cells cs))) (hs : storeK P T cs of d.cells = some cs') : OpOk P I o ρ H id (.dv (.val undef)) (.upd b cs') := by
  intro D U N w0 H' w a next Q hI hC hW _ _ _ hops hn
  have h1 := hops x (by simp [ho, Op.operands])
  have h2 := hops y (by simp [ho, Op.operands])
  rw [hx] at h1
  rw [hy] at h2
  obtain ⟨k, hk, hax⟩ := h1
  obtain ⟨n1, n3, B, g4⟩ := hW.own b k hk
  have e := hC b _ _ hb g4
  subst e
  obtain ⟨n2, cur, t, g3, g5, g6⟩ := hW.hold b k cs hk g4
  unfold storeK at hs
  cases hi : P.info? T with
  | none => simp [hi] at hs
  | some i =>
    simp only [hi] at hs
    cases hq : Nat.beq d.cells.length i.size && Nat.ble (of + d.cells.length) cs.length && d.cells.all oneCellD with
    | false => simp [hq] at hs
    | true =>
      simp only [hq, cond_true, Option.some.injEq] at hs
      simp only [Bool.and_eq_true] at hq
      obtain ⟨⟨q1, q2⟩, q3⟩ := hq
      have q1' := Nat.eq_of_beq_eq_true q1
      have q2' := Nat.le_of_ble_eq_true q2
      obtain ⟨c1, c2⟩ := DV.cells_rep h2
      have one : ∀ u ∈ (a.eval y).cells.toList, u.oneCell' = true := by
        intro u hu
        obtain ⟨j, hj⟩ := List.mem_iff_getElem?.1 hu
        have hj' : (a.eval y).cells[j]? = some u := by simpa using hj
        have hlt : j < d.cells.length := by rw [← c1]; exact (Array.getElem?_eq_some_iff.1 hj').1
        exact oneCellD_rep (List.all_eq_true.1 q3 _ (List.getElem_mem hlt)) (c2 j _ u (List.getElem?_eq_getElem hlt) hj')
      have hrun := run_storeVar hi (v := a.eval y) (by rw [c1]; exact q1') k of g3 (by rw [c1]; omega) one
      unfold Oper.wp
      simp only [execOp, ho, hax, Sem.run_bind, hrun, Result.andThen_ok, Sem.run_pure, Oper.upon_skip]
      have hsz : (cur.toList.take of ++ (a.eval y).cells.toList ++ cur.toList.drop (of + (a.eval y).cells.size)).toArray.size = cur.size := by simp [c1]; omega
      refine hn _ _ D U (onward_setRow n2 _ (fun c T' f h => by rw [g3] at h; cases h; exact hsz)) ?_ (fun _ h _ => h) (.val undef)
      refine hW.upd hk g4 g3 hsz (by rw [hsz, ← hs]; simp; omega) ?_
      intro j x' v' e1 e2
      rw [← hs] at e1
      simp only [List.getElem?_toArray] at e2
      rw [List.append_assoc, List.getElem?_append] at e1 e2
      have l1 : (cs.take of).length = of := by simp; omega
      have l2 : (cur.toList.take of).length = of := by simp; omega
      rw [l1] at e1
      rw [l2] at e2
      split at e1
      · rename_i hlt
        simp only [hlt, if_true] at e2
        rw [List.getElem?_take] at e1 e2
        simp only [hlt, if_true] at e1 e2
        exact g6 j x' v' e1 (by simpa using e2)
      · rename_i hlt
        simp only [hlt, if_false] at e2
        rw [List.getElem?_append] at e1 e2
        simp only [Array.length_toList, c1] at e2
        split at e1
        · rename_i hl2
          simp only [hl2, if_true] at e2
          exact c2 (j - of) x' v' e1 (by simpa using e2)
        · rename_i hl2
          simp only [hl2, if_false] at e2
          simp only [List.getElem?_drop] at e1 e2
          exact g6 _ x' v' e1 (by simpa using e2)
end Go.Pv
namespace Go.Pv
open Go Go.RowKit

abbrev OH := List (Option Blk)
def chunks (sz : Nat) : Nat → List DV → List (List DV)
  | 0, _ => []
  | n + 1, cs => cs.take sz :: chunks sz n (cs.drop sz)
theorem chunks_length (sz : Nat) : ∀ (n : Nat) (cs : List DV), (chunks sz n cs).length = n
  | 0, _ => rfl
  | n + 1, cs => by simp [chunks, chunks_length sz n]
theorem chunks_get (sz : Nat) : ∀ (n : Nat) (cs : List DV) (i j : Nat) (e : List DV) (x : DV), (chunks sz n cs)[i]? = some e → e[j]? = some x → cs[i * sz + j]? = some x
  | 0, _, i, j, e, x, h, _ => by simp [chunks] at h
  | n + 1, cs, 0, j, e, x, h, hx => by
    simp only [chunks, List.getElem?_cons_zero, Option.some.injEq] at h
    subst h
    rw [List.getElem?_take] at hx
    split at hx
    · simpa using hx
    · cases hx
  | n + 1, cs, i + 1, j, e, x, h, hx => by
    simp only [chunks, List.getElem?_cons_succ] at h
    have := chunks_get sz n (cs.drop sz) i j e x h hx
    rw [List.getElem?_drop] at this
    rw [show (i + 1) * sz + j = sz + (i * sz + j) by rw [Nat.add_mul]; omega]
    exact this
theorem chunks_size (sz : Nat) : ∀ (n : Nat) (cs : List DV), n * sz ≤ cs.length → ∀ e, e ∈ chunks sz n cs → e.length = sz
  | 0, _, _, e, h => by simp [chunks] at h
  | n + 1, cs, hl, e, h => by
    have hm : (n + 1) * sz = n * sz + sz := by rw [Nat.add_mul]; omega
    simp only [chunks, List.mem_cons] at h
    rcases h with rfl | h
    · simp; omega
    · exact chunks_size sz n (cs.drop sz) (by simp; omega) e h

theorem opOk_newS {P : Program} {I : World → Prop} {o : Oper} {ρ : Operand → VV} {H : OH} {id n sz : Nat} {T : TypeId} {cs : List DV}
    (h : ∀ (D : Nat → Option Nat) (U : Nat → Prop) (w : World) (a : Act), (∀ y ∈ o.op.operands, VRep U w D (ρ y) (a.eval y)) →
      ∃ c vs, n ≤ c ∧ (execOp a.eval o).run P w = .ok (.value (.slice (some ⟨w.heap.size, 0, none⟩) n c)) (w.alloc (.cells vs T)) ∧ c * sz ≤ vs.size ∧ vs.size = cs.length ∧ ∀ (i : Nat) (x : DV) (v : Value), cs[i]? = some x → vs[i]? = some v → DRep U w x v) :
    OpOk P I o ρ H id (.osl T sz id 0 n) (.new cs) := by
  intro D U N w0 H' w a next Q _ _ hW hN hid hl hops hn
  obtain ⟨c, vs, hc, hr, h0, h1, h2⟩ := h D U w a hops
  unfold Oper.wp
  rw [hr]
  refine hn _ _ _ _ (onward_alloc hW.old hid _) (hW.new hN hid hl (by omega) h2) (fun b hb hne => by simp [updD, hne, hb]) ⟨w.heap.size, c, vs, by simp [updD], hc, heap_alloc_new _ _, by omega, rfl⟩

def partsD (ρ : Operand → VV) (sz : Nat) : Nat → List (Nat × Operand) → Option (List DV)
  | _, [] => some []
  | i, (j, x) :: rest => bif Nat.beq i j then (match ρ x with
    | .dv d => bif Nat.beq d.cells.length sz then (match partsD ρ sz (i + 1) rest with | some l => some (d.cells ++ l) | none => none) else none
    | _ => none) else none
def buildSK (P : Program) (ρ : Operand → VV) (id : Nat) (t : TypeId) (len : Nat) (ps : Array (Nat × Operand)) (k : VV → Eff → Option DV) : Option DV :=
  match P.underlying t with
  | some (.slice e) => match P.info? e with
    | some i => bif Nat.ble 1 i.size && Nat.beq ps.size len && Nat.ble (len * i.size) 16777216 && (Nat.ble 1 len) && i.zero.isSome then (match partsD ρ i.size 0 ps.toList with | some cs => k (.osl e i.size id 0 len) (.new cs) | none => none) else none
    | none => none
  | _ => none
theorem partsD_ok {ρ : Operand → VV} {sz : Nat} {U : Nat → Prop} {w : World} {D : Nat → Option Nat} {a : Act} : ∀ (i : Nat) (ps : List (Nat × Operand)) (cs : List DV), partsD ρ sz i ps = some cs → (∀ p ∈ ps, VRep U w D (ρ p.2) (a.eval p.2)) →
    (∀ v ∈ ps.map (fun p => a.eval p.2), v.cells.size = sz) ∧ ps.map (fun p => (p.1, a.eval p.2)) = ((ps.map (fun p => a.eval p.2)).zipIdx i).map (fun x => (x.2, x.1)) ∧
    cs.length = ps.length * sz ∧ ∀ (n : Nat) (x : DV) (v : Value), cs[n]? = some x → ((ps.map (fun p => a.eval p.2)).flatMap fun v => v.cells.toList)[n]? = some v → DRep U w x v
  | i, [], cs, h, _ => by simp [partsD] at h; subst h; exact ⟨by simp, by simp, by simp, by simp⟩
  | i, (j, x) :: rest, cs, h, hr => by
    simp only [partsD] at h
    cases hb : Nat.beq i j with
    | false => simp [hb] at h
    | true =>
      have hij := Nat.eq_of_beq_eq_true hb
      subst hij
      simp only [hb, cond_true] at h
      split at h <;> try (cases h; done)
      rename_i d hx
      cases hs : Nat.beq d.cells.length sz with
      | false => simp [hs] at h
      | true =>
        have hs' := Nat.eq_of_beq_eq_true hs
        simp only [hs, cond_true] at h
        split at h <;> try (cases h; done)
        rename_i l hl
        simp only [Option.some.injEq] at h
        have h0 := hr (i, x) (by simp)
        rw [hx] at h0
        obtain ⟨c1, c2⟩ := DV.cells_rep h0
        obtain ⟨r1, r2, r3, r4⟩ := partsD_ok (i + 1) rest l hl (fun p hp => hr p (by simp [hp]))
        refine ⟨?_, ?_, ?_, ?_⟩
        · intro v hv
          simp only [List.map_cons, List.mem_cons] at hv
          rcases hv with rfl | hv
          · rw [c1, hs']
          · exact r1 v hv
        · simp only [List.map_cons, List.zipIdx_cons]
          rw [r2]
        · rw [← h]; simp only [List.length_append, List.length_cons, r3, hs', Nat.add_mul]; omega
        · intro n y v e1 e2
          rw [← h, List.getElem?_append] at e1
          simp only [List.map_cons, List.flatMap_cons] at e2
          rw [List.getElem?_append, Array.length_toList, c1] at e2
          split at e1
          · rename_i hlt
            rw [if_pos hlt] at e2
            exact c2 n y v e1 (by simpa using e2)
          · rename_i hlt
            rw [if_neg hlt] at e2
            exact r4 _ y v e1 e2
theorem buildSK_ok {P : Program} {I : World → Prop} {ρ : Operand → VV} {o : Oper} {t : TypeId} {len : Nat} {ps : Array (Nat × Operand)} {k : VV → Eff → Option DV} {r : DV} {H : OH} {id : Nat} (ho : o.op = .buildSlice t len ps) (h : buildSK P ρ id t len ps k = some r) :
    ∃ x eff, k x eff = some r ∧ (∀ k', buildSK P ρ id t len ps k' = k' x eff) ∧ OpOk P I o ρ H id x eff := by
  unfold buildSK at h
  split at h <;> try (cases h; done)
  rename_i e hu
  split at h <;> try (cases h; done)
  rename_i i hi
  cases hq : Nat.ble 1 i.size && Nat.beq ps.size len && Nat.ble (len * i.size) 16777216 && (Nat.ble 1 len) && i.zero.isSome with
  | false => rw [hq] at h; cases h
  | true =>
    have hq0 := hq
    rw [hq] at h
    simp only [cond_true] at h
    split at h <;> try (cases h; done)
    rename_i cs hcs
    refine ⟨_, _, h, fun k' => by simp only [buildSK, hu, hi, hq0, cond_true, hcs], ?_⟩
    simp only [Bool.and_eq_true] at hq
    obtain ⟨⟨⟨⟨q1, q2⟩, q3⟩, q4⟩, q5⟩ := hq
    have q1' := Nat.le_of_ble_eq_true q1
    have q2' := Nat.eq_of_beq_eq_true q2
    have q3' := Nat.le_of_ble_eq_true q3
    have q4' := Nat.le_of_ble_eq_true q4
    obtain ⟨z, hz⟩ := Option.isSome_iff_exists.1 q5
    refine opOk_newS fun D U w a hops => ?_
    obtain ⟨r1, r2, r3, r4⟩ := partsD_ok (U := U) (w := w) (D := D) (a := a) 0 ps.toList cs hcs (fun p hp => hops p.2 (by
      rw [ho]; simp only [Op.operands]
      exact List.mem_toArray.2 (List.mem_map.2 ⟨p, hp, rfl⟩)))
    have hlen : (ps.toList.map fun p => a.eval p.2).length = len := by simp [q2']
    refine ⟨len, ((ps.toList.map fun p => a.eval p.2).flatMap fun v => v.cells.toList).toArray, Nat.le_refl _, ?_, ?_, ?_, ?_⟩
    · have hne : ¬ len * i.size = 0 := by
        intro h0
        have := Nat.mul_pos (show 0 < len by omega) (show 0 < i.size by omega)
        omega
      have hfill := Go.Great.fill_whole (s := i.size) (by omega) (ps.toList.map fun p => a.eval p.2) ((Array.range (len * i.size)).map (z.cells[· % z.cells.size]!)) r1 (by rw [hlen]; simp)
      have hparts : (ps.map fun (x : Nat × Operand) => (x.1, a.eval x.2)).toList = ((ps.toList.map fun p => a.eval p.2).zipIdx 0).map fun x => (x.2, x.1) := by
        rw [Array.toList_map]; exact r2
      have n1 : ¬ len * i.size > 2 ^ 24 := by
        have : (2 : Nat) ^ 24 = 16777216 := by decide
        omega
      have hz2 : (zeroValue e).run P w = .ok z w := by simp [zeroValue, typeInfo, program, Sem.run, hi, hz, bind, pure, Sem.bind]
      have hs2 : (sizeOf e).run P w = .ok i.size w := by simp [sizeOf, typeInfo, program, Sem.run, hi, bind, pure, Sem.bind]
      simp only [execOp, ho, Instr.buildSlice, Sem.run_bind, run_underlying hu, Result.andThen_ok, hs2, n1, if_false, hne, hz2, Sem.run_pure, Sem.run_ite, hparts]
      rw [hfill]
      simp [newRow, newObj, Sem.run]
    · have hsz : ∀ (l : List Value), (∀ v ∈ l, v.cells.size = i.size) → (l.flatMap fun v => v.cells.toList).length = l.length * i.size := by
        intro l
        induction l with
        | nil => intro _; simp
        | cons v l ih => intro hl; simp only [List.flatMap_cons, List.length_append, List.length_cons, Array.length_toList, hl v (by simp), ih (fun u hu => hl u (by simp [hu])), Nat.add_mul]; omega
      rw [List.size_toArray, hsz _ r1, hlen]; exact Nat.le_refl _
    · have hsz : ∀ (l : List Value), (∀ v ∈ l, v.cells.size = i.size) → (l.flatMap fun v => v.cells.toList).length = l.length * i.size := by
        intro l
        induction l with
        | nil => intro _; simp
        | cons v l ih => intro hl; simp only [List.flatMap_cons, List.length_append, List.length_cons, Array.length_toList, hl v (by simp), ih (fun u hu => hl u (by simp [hu])), Nat.add_mul]; omega
      rw [List.size_toArray, hsz _ r1, r3]
      simp
    · intro n x v e1 e2
      exact r4 n x v e1 (by simpa using e2)
end Go.Pv
namespace Go.Pv
open Go Go.RowKit

def Good (P : Program) (I : World → Prop) (o : Oper) (ρ : Operand → VV) (H : OH) (id : Nat) (f : KK → Option DV) : Prop :=
  ∀ k r, f k = some r → ∃ x eff, k x eff = some r ∧ (∀ k', f k' = k' x eff) ∧ OpOk P I o ρ H id x eff

def zerosD (z : List DV) : Nat → List DV
  | 0 => []
  | n + 1 => z ++ zerosD z n
theorem zerosD_length (z : List DV) : ∀ n, (zerosD z n).length = n * z.length
  | 0 => by simp [zerosD]
  | n + 1 => by simp only [zerosD, List.length_append, zerosD_length z n, Nat.add_mul]; omega
theorem zerosD_get {z : List DV} (hz : 0 < z.length) : ∀ (n i : Nat), i < n * z.length → (zerosD z n)[i]? = z[i % z.length]?
  | 0, i, h => by simp at h
  | n + 1, i, h => by
    simp only [zerosD]
    rw [List.getElem?_append]
    split
    · rename_i hlt; rw [Nat.mod_eq_of_lt hlt]
    · rename_i hge
      have hm : (n + 1) * z.length = n * z.length + z.length := by rw [Nat.add_mul]; omega
      rw [zerosD_get hz n (i - z.length) (by omega)]
      congr 1
      have e : i = (i - z.length) + z.length := by omega
      conv => rhs; rw [e, Nat.add_mod_right]
def makeK (P : Program) (ρ : Operand → VV) (id : Nat) (t : TypeId) (l c : Operand) (k : KK) : Option DV :=
  match P.underlying t, (ρ l).flat, (ρ c).flat with
  | some (.slice e), some (.int .i64 n), some (.int .i64 m) => match P.info? e with
    | some i => match i.zero with
      | some z => bif decide (0 ≤ n) && decide (n ≤ m) && decide (m ≤ 16777216) && decide ((i.bytes : Int) * m ≤ 281474976710656) && Nat.ble 1 i.size && Nat.beq z.cells.size i.size && decide (m.toNat * i.size ≤ 16777216) then k (.osl e i.size id 0 n.toNat) (.new (zerosD (DV.cells (.val z)) m.toNat)) else none
      | none => none
    | none => none
  | _, _, _ => none
theorem makeK_ok {P : Program} {I : World → Prop} {ρ : Operand → VV} {o : Oper} {t : TypeId} {l c : Operand} {H : OH} {id : Nat} (ho : o.op = .makeSlice t l c) : Good P I o ρ H id (makeK P ρ id t l c) := by
  intro k r h
  unfold makeK at h
  split at h <;> try (cases h; done)
  rename_i e n m hu hl hc
  split at h <;> try (cases h; done)
  rename_i i hi
  split at h <;> try (cases h; done)
  rename_i z hz
  cases hq : decide (0 ≤ n) && decide (n ≤ m) && decide (m ≤ 16777216) && decide ((i.bytes : Int) * m ≤ 281474976710656) && Nat.ble 1 i.size && Nat.beq z.cells.size i.size && decide (m.toNat * i.size ≤ 16777216) with
  | false => rw [hq] at h; cases h
  | true =>
    have hq0 := hq
    rw [hq] at h
    simp only [cond_true] at h
    refine ⟨_, _, h, fun k' => by simp only [makeK, hu, hl, hc, hi, hz, hq0, cond_true], ?_⟩
    simp only [Bool.and_eq_true, decide_eq_true_eq] at hq
    obtain ⟨⟨⟨⟨⟨⟨q1, q2⟩, q3⟩, q4⟩, q5⟩, q6⟩, q7⟩ := hq
    have q5' := Nat.le_of_ble_eq_true q5
    have q6' := Nat.eq_of_beq_eq_true q6
    refine opOk_newS fun D U w a hops => ?_
    have h1 := VV.flat_rep hl (hops l (by simp [ho, Op.operands]))
    have h2 := VV.flat_rep hc (hops c (by simp [ho, Op.operands]))
    have hr := run_makeSlice (P := P) w t e i z hu hi hz .i64 .i64 n m q1 q2 q7 q4 (by omega)
    refine ⟨m.toNat, madeCells z.cells (m.toNat * i.size), by omega, ?_, by simp [madeCells], ?_, ?_⟩
    · simp only [execOp, ho, h1, h2, Sem.run_bind, hr, Result.andThen_ok, Sem.run_pure]
    · have := DV.cells_rep (U := U) (w := w) (.val z)
      rw [zerosD_length, ← this.1, q6', size_madeCells]
    · intro j x v e1 e2
      have hc2 := DV.cells_rep (U := U) (w := w) (.val z)
      have hzl : (DV.cells (.val z)).length = i.size := by rw [← hc2.1, q6']
      have hj : j < m.toNat * i.size := by
        have := (List.getElem?_eq_some_iff.1 e1).1
        rw [zerosD_length, hzl] at this; exact this
      rw [zerosD_get (by omega) m.toNat j (by rw [hzl]; exact hj), hzl] at e1
      have hjm : j % i.size < z.cells.size := by rw [q6']; exact Nat.mod_lt _ (by omega)
      have : v = z.cells[j % i.size] := by
        simp only [madeCells, Array.getElem?_map] at e2
        rw [Array.getElem?_range, if_pos hj] at e2
        simp only [Option.map_some, Option.some.injEq] at e2
        rw [← e2, q6']
        simp [hjm]
      rw [this]
      exact hc2.2 _ x _ e1 (Array.getElem?_eq_getElem hjm)

def indexAK (P : Program) (ρ : Operand → VV) (t : TypeId) (x i : Operand) (k : KK) : Option DV :=
  match P.underlying t, (ρ i).flat with
  | some (.slice e), some (.int _ n) => match P.info? e with
    | some ti => match ρ x with
      | .dv (.lst sz es) => bif Nat.beq sz ti.size then (bif decide (0 ≤ n) then (match es[n.toNat]? with | some e => k (.eptr e) .none | none => none) else none) else none
      | .osl _ _ b of m => bif decide (0 ≤ n) && decide (n < m) then k (.ptr b (of + n.toNat * ti.size)) .none else none
      | _ => none
    | none => none
  | _, _ => none
theorem indexAK_ok {P : Program} {I : World → Prop} {ρ : Operand → VV} {o : Oper} {t : TypeId} {x i : Operand} {H : OH} {id : Nat} (ho : o.op = .indexAddr t x i) : Good P I o ρ H id (indexAK P ρ t x i) := by
  intro k r h
  unfold indexAK at h
  split at h <;> try (cases h; done)
  rename_i e kd n hu hi
  split at h <;> try (cases h; done)
  rename_i ti hti
  have hs2 : ∀ w, (sizeOf e).run P w = .ok ti.size w := fun w => by simp [sizeOf, typeInfo, program, Sem.run, hti, bind, pure, Sem.bind]
  split at h <;> try (cases h; done)
  · rename_i sz es hx
    cases hsz : Nat.beq sz ti.size with
    | false => simp [hsz] at h
    | true =>
      have hsz' := Nat.eq_of_beq_eq_true hsz
      simp only [hsz, cond_true] at h
      cases hn : decide (0 ≤ n) with
      | false => simp [hn] at h
      | true =>
        simp only [hn, cond_true] at h
        split at h <;> try (cases h; done)
        rename_i el hel
        refine ⟨_, _, h, fun k' => by simp only [indexAK, hu, hi, hti, hx, hsz, hn, cond_true, hel], opOk_same fun D U w a hops => ?_⟩
        have h1 := VV.flat_rep hi (hops i (by simp [ho, Op.operands]))
        have h2 := hops x (by simp [ho, Op.operands])
        rw [hx] at h2
        have hn' : 0 ≤ n := by simpa using hn
        have hlt := (List.getElem?_eq_some_iff.1 hel).1
        generalize hv : a.eval x = v at h2
        cases h2 with
        | nil => simp at hlt
        | lst hb hblt hcap hlen hc hr =>
          rename_i b off c g
          have hlt2 : n < (es.length : Int) := by omega
          refine ⟨.pointer (some ⟨b, off + n.toNat * ti.size, none⟩), ?_, b, off + n.toNat * ti.size, rfl, hb, ?_⟩
          · have ht : ∀ w, (underlying t).run P w = .ok (.slice e) w := fun w => run_underlying hu w
            simp only [execOp, ho, h1, hv, Instr.indexAt, asIntOf, Sem.run_bind, Sem.run_pure, Result.andThen_ok, run_underlying hu, hn', hlt2, and_self, if_true, Sem.run_ite, hs2, add_flat, Bool.and_false, Bool.false_eq_true, if_false]
          · intro j y hy
            refine ⟨g n.toNat j, ?_, hr n.toNat j el y hel hy⟩
            have := hc n.toNat j el y hel hy
            rw [hsz'] at this
            exact this
  · rename_i e2 sz2 b of m hx
    cases hq : decide (0 ≤ n) && decide (n < m) with
    | false => rw [hq] at h; cases h
    | true =>
      have hq0 := hq
      rw [hq] at h
      simp only [cond_true] at h
      refine ⟨_, _, h, fun k' => by simp only [indexAK, hu, hi, hti, hx, hq0, cond_true], opOk_same fun D U w a hops => ?_⟩
      simp only [Bool.and_eq_true, decide_eq_true_eq] at hq
      have h1 := VV.flat_rep hi (hops i (by simp [ho, Op.operands]))
      have h2 := hops x (by simp [ho, Op.operands])
      rw [hx] at h2
      obtain ⟨kk, c, _, hk, _, _, _, hv⟩ := h2
      refine ⟨.pointer (some ⟨kk, of + n.toNat * ti.size, none⟩), ?_, kk, hk, rfl⟩
      simp only [execOp, ho, h1, hv, Instr.indexAt, asIntOf, Sem.run_bind, Sem.run_pure, Result.andThen_ok, run_underlying hu, hq.1, hq.2, and_self, if_true, Sem.run_ite, hs2, add_flat, Bool.and_false, Bool.false_eq_true, if_false]
end Go.Pv
namespace Go.Pv
open Go Go.RowKit

inductive Lk where
  | int (k : IntKind)
  | bool
  | str
  | lst (sz : Nat)
def zD : DV := .tup []
def nth (e : List DV) (j : Nat) : DV := e.getD j zD
def isI (k : IntKind) : DV → Bool | .val (.int k' _) => decide (k' = k) | _ => false
def asI : DV → Int | .val (.int _ n) => n | _ => 0
def isB : DV → Bool | .val (.bool _) => true | _ => false
def asB : DV → Bool | .val (.bool b) => b | _ => false
def isS : DV → Bool | .val (.string _) => true | _ => false
def asS : DV → ByteArray | .val (.string s) => s | _ => ⟨#[]⟩
def isL (sz : Nat) : DV → Bool | .lst sz' _ => Nat.beq sz' sz | .val (.slice _ n _) => Nat.beq n 0 | _ => false
def asL : DV → List (List DV) | .lst _ es => es | _ => []
def castL : List Lk → Nat → List DV → (List DV → Option DV) → Option DV
  | [], _, _, k => k []
  | .int kd :: ks, j, e, k => bif isI kd (nth e j) then castL ks (j + 1) e (fun ds => k (.val (.int kd (asI (nth e j))) :: ds)) else none
  | .bool :: ks, j, e, k => bif isB (nth e j) then castL ks (j + 1) e (fun ds => k (.val (.bool (asB (nth e j))) :: ds)) else none
  | .str :: ks, j, e, k => bif isS (nth e j) then castL ks (j + 1) e (fun ds => k (.val (.string (asS (nth e j))) :: ds)) else none
  | .lst sz :: ks, j, e, k => bif isL sz (nth e j) then castL ks (j + 1) e (fun ds => k (.lst sz (asL (nth e j)) :: ds)) else none
theorem isI_eq {k : IntKind} {d : DV} (h : isI k d = true) : d = .val (.int k (asI d)) := by
  unfold isI at h
  split at h
  · simp at h; subst h; rfl
  · cases h
theorem isB_eq {d : DV} (h : isB d = true) : d = .val (.bool (asB d)) := by
  unfold isB at h
  split at h
  · rfl
  · cases h
theorem isS_eq {d : DV} (h : isS d = true) : d = .val (.string (asS d)) := by
  unfold isS at h
  split at h
  · rfl
  · cases h
theorem isL_rep {sz : Nat} {d : DV} (h : isL sz d = true) {U : Nat → Prop} {w : World} {v : Value} (hr : DRep U w d v) : DRep U w (.lst sz (asL d)) v := by
  unfold isL at h
  split at h
  · have := Nat.eq_of_beq_eq_true h; subst this; exact hr
  · have := Nat.eq_of_beq_eq_true h; subst this
    cases hr
    exact .nil
  · cases h
theorem isL_z {sz : Nat} : isL sz zD = false := rfl
theorem nth_get {e : List DV} {j : Nat} (h : nth e j ≠ zD) : e[j]? = some (nth e j) := by
  unfold nth at h ⊢
  rw [List.getD_eq_getElem?_getD] at h ⊢
  cases he : e[j]? with
  | none => rw [he] at h; exact absurd rfl h
  | some x => rfl
theorem castL_ok : ∀ (ks : List Lk) (j : Nat) (e : List DV) (k : List DV → Option DV) (r : DV), castL ks j e k = some r → ∃ ds, k ds = some r ∧ (∀ k', castL ks j e k' = k' ds) ∧ ∀ (i : Nat) (x : DV), ds[i]? = some x → ∃ y, e[j + i]? = some y ∧ ∀ (U : Nat → Prop) (w : World) (v : Value), DRep U w y v → DRep U w x v
  | [], j, e, k, r, h => ⟨[], h, fun _ => rfl, fun i x hx => by simp at hx⟩
  | l :: ks, j, e, k, r, h => by
    have step : ∀ (d : DV) (b : Bool), (b = true → nth e j ≠ zD ∧ ∀ (U : Nat → Prop) (w : World) (v : Value), DRep U w (nth e j) v → DRep U w d v) → (∀ k', castL (l :: ks) j e k' = bif b then castL ks (j + 1) e (fun ds => k' (d :: ds)) else none) →
        ∃ ds, k ds = some r ∧ (∀ k', castL (l :: ks) j e k' = k' ds) ∧ ∀ (i : Nat) (x : DV), ds[i]? = some x → ∃ y, e[j + i]? = some y ∧ ∀ (U : Nat → Prop) (w : World) (v : Value), DRep U w y v → DRep U w x v := by
      intro d b hd hk
      rw [hk] at h
      cases b with
      | false => cases h
      | true =>
        obtain ⟨ds, h1, h2, h3⟩ := castL_ok ks (j + 1) e _ r h
        refine ⟨d :: ds, h1, fun k' => by rw [hk]; exact h2 _, fun i x hx => ?_⟩
        cases i with
        | zero =>
          simp at hx
          subst hx
          obtain ⟨hz, hr⟩ := hd rfl
          exact ⟨_, by rw [Nat.add_zero]; exact nth_get hz, hr⟩
        | succ i =>
          rw [show j + (i + 1) = j + 1 + i by omega]
          exact h3 i x (by simpa using hx)
    have same : ∀ (d : DV) (b : Bool), (b = true → nth e j = d) → d ≠ zD → (b = true → nth e j ≠ zD ∧ ∀ (U : Nat → Prop) (w : World) (v : Value), DRep U w (nth e j) v → DRep U w d v) := by
      intro d b hd hz hb
      have := hd hb
      exact ⟨by rw [this]; exact hz, fun U w v hr => by rw [← this]; exact hr⟩
    cases l with
    | int kd => exact step _ (isI kd (nth e j)) (same _ _ (fun h => isI_eq h) (by simp [zD])) (fun _ => rfl)
    | bool => exact step _ (isB (nth e j)) (same _ _ (fun h => isB_eq h) (by simp [zD])) (fun _ => rfl)
    | str => exact step _ (isS (nth e j)) (same _ _ (fun h => isS_eq h) (by simp [zD])) (fun _ => rfl)
    | lst sz => exact step (.lst sz (asL (nth e j))) (isL sz (nth e j)) (fun h => ⟨fun e => (by rw [e] at h; cases h), fun U w v hr => isL_rep h hr⟩) (fun _ => rfl)
def leavesF (lv : TypeId → Option (List Lk)) : List Field → Option (List Lk)
  | [] => some []
  | f :: fs => match lv f.type, leavesF lv fs with
    | some a, some b => some (a ++ b)
    | _, _ => none
def leavesK (P : Program) : Nat → TypeId → Option (List Lk)
  | 0, _ => none
  | d + 1, t => match P.underlying t with
    | some .bool => some [.bool]
    | some (.int k) => some [.int k]
    | some .string => some [.str]
    | some (.slice e) => match P.info? e with | some i => some [.lst i.size] | none => none
    | some (.struct fs) => leavesF (leavesK P d) fs.toList
    | _ => none
def optE (o : Option (List DV)) (f : List DV → Option DV) : Option DV := match o with | some e => f e | none => none
end Go.Pv
namespace Go.Pv
open Go Go.RowKit

theorem flatK_good {P : Program} {I : World → Prop} {ρ : Operand → VV} {o : Oper} {H : OH} {id : Nat} : Good P I o ρ H id (flatK P ρ o) := by
  intro k r h
  unfold flatK at h
  cases hf : allFlat ρ o with
  | false => simp [hf] at h
  | true =>
    cases hs : noSel o.op with
    | false => simp [hs] at h
    | true =>
      simp only [hf, hs, Bool.and_self, cond_true] at h
      cases hp : prun P (execOp (ρF ρ) o) with
      | none => simp [hp] at h
      | some n =>
        rw [hp] at h
        have hr := prun_run _ hp
        cases n <;> simp only [] at h <;> try (cases h; done)
        · exact ⟨_, _, h, fun k' => by simp only [flatK, hf, hs, Bool.and_self, cond_true, hp, valK], opOk_flat hf hs hr⟩
        · exact ⟨_, _, h, fun k' => by simp only [flatK, hf, hs, Bool.and_self, cond_true, hp, valK], opOk_flat_skip hf hs hr⟩
theorem binK_good {P : Program} {I : World → Prop} {ρ : Operand → VV} {o : Oper} {b : BinOp} {T ty : TypeId} {x y : Operand} {H : OH} {id : Nat} (ho : o.op = .binOp b T x y ty) : Good P I o ρ H id (binK P ρ o b T x y) := by
  intro k r h
  unfold binK at h
  split at h
  · rename_i ka a kb c hx hy
    cases hk : decide (ka = kb) <;> simp only [hk, cond_false, cond_true] at h <;> try (cases h; done)
    cases hc : c == 0 <;> simp only [hc, cond_false, cond_true] at h <;> try (cases h; done)
    have e : ka = kb := by simpa using hk
    have e2 : ¬ c = 0 := by simpa using hc
    subst e
    exact ⟨_, _, h, fun k' => by simp [binK, hx, hy, hc, valK], bin_ok ho hx hy fun w => by simp [eqGuard, binOp, Op.intDiv, e2]⟩
  · rename_i ka a kb c hx hy
    cases hk : decide (ka = kb) <;> simp only [hk, cond_false, cond_true] at h <;> try (cases h; done)
    cases hc : c == 0 <;> simp only [hc, cond_false, cond_true] at h <;> try (cases h; done)
    have e : ka = kb := by simpa using hk
    have e2 : ¬ c = 0 := by simpa using hc
    subst e
    exact ⟨_, _, h, fun k' => by simp [binK, hx, hy, hc, valK], bin_ok ho hx hy fun w => by simp [eqGuard, binOp, Op.intDiv, e2]⟩
  · rename_i ka a kb c hx hy
    cases hc : decide (c < 0) <;> simp only [hc, cond_false, cond_true] at h <;> try (cases h; done)
    have e2 : ¬ c < 0 := by simpa using hc
    exact ⟨_, _, h, fun k' => by simp only [binK, hx, hy, hc, cond_true, cond_false, valK], bin_ok ho hx hy fun w => by simp [eqGuard, binOp, Op.shift, e2]⟩
  · rename_i ka a kb c hx hy
    cases hc : decide (c < 0) <;> simp only [hc, cond_false, cond_true] at h <;> try (cases h; done)
    have e2 : ¬ c < 0 := by simpa using hc
    exact ⟨_, _, h, fun k' => by simp only [binK, hx, hy, hc, cond_true, cond_false, valK], bin_ok ho hx hy fun w => by simp [eqGuard, binOp, Op.shift, e2]⟩
  · rename_i a c hx hy
    cases hc : decide (((a.size + c.size : Nat) : Int) > IntKind.i64.max) <;> simp only [hc, cond_false, cond_true] at h <;> try (cases h; done)
    have e2 : ¬ ((a.size + c.size : Nat) : Int) > IntKind.i64.max := by simpa using hc
    exact ⟨_, _, h, fun k' => by simp only [binK, hx, hy, hc, cond_true, cond_false, valK], bin_ok ho hx hy fun w => by simp only [eqGuard, binOp, Op.stringOp, e2]; rfl⟩
  · rename_i xs ys hx hy
    cases hg : P.eqGuardType P.depth T <;> simp only [hg, cond_false, cond_true] at h <;> try (cases h; done)
    cases he : eqK P 12 T (.agg xs) (.agg ys) <;> simp only [he] at h <;> try (cases h; done)
    exact ⟨_, _, h, fun k' => by simp only [binK, hx, hy, hg, he, cond_true, cond_false, valK], bin_ok ho hx hy fun w => by rw [Sem.run_bind, run_eqGuard_agg w _ T x y xs ys hg, Result.andThen_ok, run_eql_struct, eqK_run 12 10000 (by omega) T _ _ _ he w]; rfl⟩
  · rename_i xs ys hx hy
    cases hg : P.eqGuardType P.depth T <;> simp only [hg, cond_false, cond_true] at h <;> try (cases h; done)
    cases he : eqK P 12 T (.agg xs) (.agg ys) <;> simp only [he] at h <;> try (cases h; done)
    exact ⟨_, _, h, fun k' => by simp only [binK, hx, hy, hg, he, cond_true, cond_false, valK], bin_ok ho hx hy fun w => by rw [Sem.run_bind, run_eqGuard_agg w _ T x y xs ys hg, Result.andThen_ok, run_neq_struct, eqK_run 12 10000 (by omega) T _ _ _ he w]; rfl⟩
  · rename_i n1 n2 n3 n4 n5 n6 n7
    obtain ⟨x', y', h1, h2, h3⟩ := flatK_good (I := I) (H := H) (id := id) k r h
    refine ⟨x', y', h1, fun k' => ?_, h3⟩
    unfold binK
    split
    · rename_i e1 e2; exact (n1 _ _ _ _ rfl e1 e2).elim
    · rename_i e1 e2; exact (n2 _ _ _ _ rfl e1 e2).elim
    · rename_i e1 e2; exact (n3 _ _ _ _ rfl e1 e2).elim
    · rename_i e1 e2; exact (n4 _ _ _ _ rfl e1 e2).elim
    · rename_i e1 e2; exact (n5 _ _ rfl e1 e2).elim
    · rename_i e1 e2; exact (n6 _ _ rfl e1 e2).elim
    · rename_i e1 e2; exact (n7 _ _ rfl e1 e2).elim
    · exact h2 k'

def loadQ (P : Program) (ρ : Operand → VV) (H : OH) (t : TypeId) (x : Operand) (k : KK) : Option DV :=
  match ρ x with
  | .ptr b of => match H[b]? with
    | some (some (.cells cs)) => match leavesK P 8 t with
      | some ks => castL ks of cs fun ds => match loadK P t ds 0 with | some d => k (.dv d) .none | none => none
      | none => match loadK P t cs of with | some d => k (.dv d) .none | none => none
    | _ => none
  | .eptr cs => match leavesK P 8 t with
    | some ks => castL ks 0 cs fun ds => match loadK P t ds 0 with | some d => k (.dv d) .none | none => none
    | none => match loadK P t cs 0 with | some d => k (.dv d) .none | none => none
  | _ => none
theorem loadQ_good {P : Program} {I : World → Prop} {ρ : Operand → VV} {o : Oper} {t : TypeId} {x : Operand} {H : OH} {id : Nat} (ho : o.op = .load t x) : Good P I o ρ H id (loadQ P ρ H t x) := by
  intro k r h
  have read : ∀ (cs : List DV) (of : Nat), (match leavesK P 8 t with
      | some ks => castL ks of cs fun ds => match loadK P t ds 0 with | some d => k (.dv d) .none | none => none
      | none => match loadK P t cs of with | some d => k (.dv d) .none | none => none) = some r →
      ∃ d, k (.dv d) .none = some r ∧ (∀ k' : KK, (match leavesK P 8 t with
      | some ks => castL ks of cs fun ds => match loadK P t ds 0 with | some d => k' (.dv d) .none | none => none
      | none => match loadK P t cs of with | some d => k' (.dv d) .none | none => none) = k' (.dv d) .none) ∧
      ∀ (U : Nat → Prop) (w : World) (kk base : Nat), CellsAt U w kk base cs → ∃ v, (loadVar t ⟨kk, base + of, none⟩).run P w = .ok v w ∧ DRep U w d v := by
    intro cs of h
    cases hlv : leavesK P 8 t with
    | some ks =>
      rw [hlv] at h
      obtain ⟨ds, h1, h2, h3⟩ := castL_ok ks of cs _ r h
      split at h1 <;> try (cases h1; done)
      rename_i d hl
      refine ⟨d, h1, fun k' => by simp only []; rw [h2]; simp only [hl], fun U w kk base hc => ?_⟩
      have hc' : CellsAt U w kk (base + of) ds := by
        intro i x hi
        obtain ⟨y, hy, hr⟩ := h3 i x hi
        obtain ⟨v, hv, hd⟩ := hc (of + i) y hy
        exact ⟨v, by rw [Nat.add_assoc]; exact hv, hr U w v hd⟩
      have := loadK_ok hl hc'
      rwa [Nat.add_zero] at this
    | none =>
      rw [hlv] at h
      simp only [] at h
      split at h <;> try (cases h; done)
      rename_i d hl
      exact ⟨d, h, fun k' => by simp only [hl], fun U w kk base hc => loadK_ok hl hc⟩
  unfold loadQ at h
  split at h <;> try (cases h; done)
  · rename_i b of hx
    split at h <;> try (cases h; done)
    rename_i cs hb
    obtain ⟨d, h1, h2, h3⟩ := read cs of h
    refine ⟨_, _, h1, fun k' => by simp only [loadQ, hx, hb]; exact h2 k', ?_⟩
    intro D U N w0 H' w a next Q hI hC hW _ _ _ hops hn
    have h1 := hops x (by simp [ho, Op.operands])
    rw [hx] at h1
    obtain ⟨kk, hk, hax⟩ := h1
    obtain ⟨n1, n3, B, g4⟩ := hW.own b kk hk
    have e := hC b _ _ hb g4
    subst e
    obtain ⟨n2, cur, T, g3, g5, g6⟩ := hW.hold b kk cs hk g4
    have hcells : CellsAt U w kk 0 cs := by
      intro i x hi
      have hlt : i < cur.size := by have := (List.getElem?_eq_some_iff.1 hi).1; omega
      exact ⟨cur[i], by simp [World.cell?, g3, hlt], g6 i x _ hi (Array.getElem?_eq_getElem hlt)⟩
    obtain ⟨v, hv, hr⟩ := h3 U w kk 0 hcells
    unfold Oper.wp
    simp only [Nat.zero_add] at hv
    simp only [execOp, ho, hax, Instr.loadAt, Instr.sureAddr, Sem.run_bind, Sem.run_pure, Result.andThen_ok, hv]
    exact hn v w D U Onward.refl hW (fun _ h _ => h) hr
  · rename_i cs hx
    obtain ⟨d, h1, h2, h3⟩ := read cs 0 h
    refine ⟨_, _, h1, fun k' => by simp only [loadQ, hx]; exact h2 k', opOk_same fun D U w a hops => ?_⟩
    have h1 := hops x (by simp [ho, Op.operands])
    rw [hx] at h1
    obtain ⟨kk, off, hax, hU, hcells⟩ := h1
    obtain ⟨v, hv, hr⟩ := h3 U w kk off hcells
    rw [Nat.add_zero] at hv
    exact ⟨v, by simp only [execOp, ho, hax, Instr.loadAt, Instr.sureAddr, Sem.run_bind, Sem.run_pure, Result.andThen_ok, hv], hr⟩
def fieldQ (P : Program) (ρ : Operand → VV) (T : TypeId) (x : Operand) (f : Nat) (k : KK) : Option DV :=
  match fieldOff P T f with
  | some off => match ρ x with
    | .ptr b of => k (.ptr b (of + off)) .none
    | .eptr cs => k (.eptr (cs.drop off)) .none
    | _ => none
  | none => none
theorem fieldQ_good {P : Program} {I : World → Prop} {ρ : Operand → VV} {o : Oper} {T : TypeId} {x : Operand} {f : Nat} {H : OH} {id : Nat} (ho : o.op = .fieldAddr T x f) : Good P I o ρ H id (fieldQ P ρ T x f) := by
  intro k r h
  unfold fieldQ at h
  split at h <;> try (cases h; done)
  rename_i off hf
  split at h <;> try (cases h; done)
  · rename_i b of hx
    refine ⟨_, _, h, fun k' => by simp only [fieldQ, hf, hx], opOk_same fun D U w a hops => ?_⟩
    have h1 := hops x (by simp [ho, Op.operands])
    rw [hx] at h1
    obtain ⟨kk, hk, hax⟩ := h1
    exact ⟨.pointer (some ⟨kk, of + off, none⟩), by simp [execOp, ho, hax, run_fieldAt hf, add_flat], kk, hk, rfl⟩
  · rename_i cs hx
    refine ⟨_, _, h, fun k' => by simp only [fieldQ, hf, hx], opOk_same fun D U w a hops => ?_⟩
    have h1 := hops x (by simp [ho, Op.operands])
    rw [hx] at h1
    obtain ⟨kk, o2, hax, hU, hcells⟩ := h1
    refine ⟨.pointer (some ⟨kk, o2 + off, none⟩), by simp [execOp, ho, hax, run_fieldAt hf, add_flat], kk, o2 + off, rfl, hU, fun i x hi => ?_⟩
    rw [List.getElem?_drop] at hi
    obtain ⟨v, hv, hr⟩ := hcells _ x hi
    exact ⟨v, by rw [show o2 + off + i = o2 + (off + i) by omega]; exact hv, hr⟩
def nilQ (P : Program) (ρ : Operand → VV) (o : Oper) (x : Operand) (k : KK) : Option DV :=
  match ρ x with
  | .ptr b of => k (.ptr b of) .none
  | .eptr cs => k (.eptr cs) .none
  | _ => flatK P ρ o k
theorem nilQ_good {P : Program} {I : World → Prop} {ρ : Operand → VV} {o : Oper} {x : Operand} {H : OH} {id : Nat} (ho : o.op = .nilCheck x) : Good P I o ρ H id (nilQ P ρ o x) := by
  intro k r h
  unfold nilQ at h
  split at h
  · rename_i b of hx
    refine ⟨_, _, h, fun k' => by simp only [nilQ, hx], opOk_same fun D U w a hops => ?_⟩
    have h1 := hops x (by simp [ho, Op.operands])
    rw [hx] at h1
    obtain ⟨kk, hk, hax⟩ := h1
    exact ⟨_, by simp [execOp, ho, hax], kk, hk, rfl⟩
  · rename_i cs hx
    refine ⟨_, _, h, fun k' => by simp only [nilQ, hx], opOk_same fun D U w a hops => ?_⟩
    have h1 := hops x (by simp [ho, Op.operands])
    rw [hx] at h1
    obtain ⟨kk, o2, hax, hU, hcells⟩ := h1
    exact ⟨.pointer (some ⟨kk, o2, none⟩), by simp [execOp, ho, hax], kk, o2, rfl, hU, hcells⟩
  · rename_i n1 n2
    obtain ⟨x', y', h1, h2, h3⟩ := flatK_good (I := I) (H := H) (id := id) k r h
    refine ⟨x', y', h1, fun k' => ?_, h3⟩
    unfold nilQ
    split
    · rename_i b of hx; exact (n1 _ _ hx).elim
    · rename_i cs hx; exact (n2 _ hx).elim
    · exact h2 k'
def lenQ (P : Program) (ρ : Operand → VV) (o : Oper) (c : Call) (k : KK) : Option DV :=
  match c.args.toList with
  | [x] => match ρ x with
    | .dv (.lst _ es) => bif (match (c.argTypes[0]?).bind P.underlying with | some (.slice _) => true | _ => false) then valK k (.int .i64 es.length) else none
    | .osl _ _ _ _ n => bif (match (c.argTypes[0]?).bind P.underlying with | some (.slice _) => true | _ => false) then valK k (.int .i64 n) else none
    | _ => flatK P ρ o k
  | _ => flatK P ρ o k
theorem run_len {P : Program} {c : Call} {ty : TypeId} {x : Operand} (hx : c.args.toList = [x]) (hs : (match (c.argTypes[0]?).bind P.underlying with | some (.slice _) => true | _ => false) = true) (hc : c.callee = .builtin .len) {o : Oper} (ho : o.op = .call c) (a : Act) (w : World) {ad : Option Addr} {n cp : Nat} (hv : a.eval x = .slice ad n cp) :
    (execOp a.eval o).run P w = .ok (.value (.int .i64 n)) w := by
  split at hs <;> try (cases hs; done)
  rename_i e he
  cases ht : c.argTypes[0]? with
  | none => rw [ht] at he; cases he
  | some t =>
    rw [ht] at he
    have hu : P.underlying t = some (.slice e) := he
    have hargs : c.args = #[x] := by
      have : c.args = c.args.toList.toArray := by simp
      rw [this, hx]
    simp [execOp, ho, resolve, hc, invoke, builtin, Builtin.len_, ht, hargs, hv, run_underlying hu, goInt]
theorem lenQ_good {P : Program} {I : World → Prop} {ρ : Operand → VV} {o : Oper} {c : Call} {H : OH} {id : Nat} (ho : o.op = .call c) (hc : c.callee = .builtin .len) : Good P I o ρ H id (lenQ P ρ o c) := by
  intro k r h
  unfold lenQ at h
  split at h
  · rename_i x hx
    have hm : x ∈ o.op.operands := by
      rw [ho]; simp only [Op.operands, Call.operands]
      refine Array.mem_append.2 (.inr ?_)
      have : x ∈ c.args.toList := by rw [hx]; simp
      simpa using this
    split at h
    · rename_i sz es hr
      cases hs : (match (c.argTypes[0]?).bind P.underlying with | some (.slice _) => true | _ => false) with
      | false => rw [hs] at h; cases h
      | true =>
        have hs0 := hs
        rw [hs] at h
        refine ⟨_, _, h, fun k' => by simp only [lenQ, hx, hr]; rw [hs0]; rfl, opOk_same fun D U w a hops => ⟨_, ?_, .val _⟩⟩
        have h1 := hops x hm
        rw [hr] at h1
        generalize hv : a.eval x = v at h1
        cases h1 with
        | nil => exact run_len (ty := 0) hx hs hc ho a w hv
        | lst => exact run_len (ty := 0) hx hs hc ho a w hv
    · rename_i e2 sz2 b of n hr
      cases hs : (match (c.argTypes[0]?).bind P.underlying with | some (.slice _) => true | _ => false) with
      | false => rw [hs] at h; cases h
      | true =>
        have hs0 := hs
        rw [hs] at h
        refine ⟨_, _, h, fun k' => by simp only [lenQ, hx, hr]; rw [hs0]; rfl, opOk_same fun D U w a hops => ⟨_, ?_, .val _⟩⟩
        have h1 := hops x hm
        rw [hr] at h1
        obtain ⟨kk, cc, _, _, _, _, _, hv⟩ := h1
        exact run_len (ty := 0) hx hs hc ho a w hv
    · rename_i n1 n2
      obtain ⟨x', y', h1, h2, h3⟩ := flatK_good (I := I) (H := H) (id := id) k r h
      refine ⟨x', y', h1, fun k' => ?_, h3⟩
      simp only [lenQ, hx]
      exact h2 k'
  · rename_i n1
    obtain ⟨x', y', h1, h2, h3⟩ := flatK_good (I := I) (H := H) (id := id) k r h
    refine ⟨x', y', h1, fun k' => ?_, h3⟩
    unfold lenQ
    split
    · rename_i x hx; exact (n1 _ hx).elim
    · exact h2 k'
end Go.Pv
namespace Go.Pv
open Go Go.RowKit

abbrev Tab := FuncId → List DV → (DV → Option DV) → Option DV
def indexK (P : Program) (ρ : Operand → VV) (o : Oper) (T : TypeId) (x i : Operand) (k : KK) : Option DV :=
  match P.underlying T, (ρ x).flat, (ρ i).flat with
  | some .string, some (.string s), some (.int _ n) => bif decide (0 ≤ n) then (match s[n.toNat]? with | some b => valK k (.int .u8 b.toNat) | none => none) else none
  | _, _, _ => flatK P ρ o k
def isUndef : VV → Bool
  | .dv (.val (.tuple _)) => true
  | _ => false
def pickK (ρ : Operand → VV) (c a b : Operand) (k : KK) : Option DV :=
  match (ρ c).flat with
  | some (.bool x) =>
    bif isUndef (ρ a) then (bif x then none else k (ρ b) .none)
    else bif isUndef (ρ b) then (bif x then k (ρ a) .none else none)
    else bif Region.isConst b then (bif x then k (ρ a) .none else none)
    else bif Region.isConst a then (bif x then none else k (ρ b) .none)
    else bif x then k (ρ a) .none else k (ρ b) .none
  | _ => none
theorem pickK_cases {ρ : Operand → VV} {c a b : Operand} {k : KK} {r : DV} (h : pickK ρ c a b k = some r) : ∃ x, (ρ c).flat = some (.bool x) ∧ ((x = true ∧ k (ρ a) .none = some r ∧ ∀ k', pickK ρ c a b k' = k' (ρ a) .none) ∨ (x = false ∧ k (ρ b) .none = some r ∧ ∀ k', pickK ρ c a b k' = k' (ρ b) .none)) := by
  unfold pickK at h
  split at h <;> try (cases h; done)
  rename_i x hx
  refine ⟨x, hx, ?_⟩
  cases h1 : isUndef (ρ a) <;> cases h2 : isUndef (ρ b) <;> cases h3 : Region.isConst b <;> cases h4 : Region.isConst a <;> cases x <;> simp only [h1, h2, h3, h4, cond_true, cond_false] at h <;> first
    | (cases h; done)
    | exact .inl ⟨rfl, h, fun k' => by simp only [pickK, hx, h1, h2, h3, h4, cond_true, cond_false]⟩
    | exact .inr ⟨rfl, h, fun k' => by simp only [pickK, hx, h1, h2, h3, h4, cond_true, cond_false]⟩

theorem pickK_good {P : Program} {I : World → Prop} {ρ : Operand → VV} {o : Oper} {c a b : Operand} {H : OH} {id : Nat} (ho : o.op = .pick c a b) : Good P I o ρ H id (pickK ρ c a b) := by
  intro k r h
  obtain ⟨x, hx, ⟨rfl, hk, hn⟩ | ⟨rfl, hk, hn⟩⟩ := pickK_cases h
  · refine ⟨_, _, hk, hn, opOk_same fun D U w ac hops => ⟨ac.eval a, ?_, hops a (by simp [ho, Op.operands])⟩⟩
    have h1 := VV.flat_rep hx (hops c (by simp [ho, Op.operands]))
    simp [execOp, ho, h1, asBool]
  · refine ⟨_, _, hk, hn, opOk_same fun D U w ac hops => ⟨ac.eval b, ?_, hops b (by simp [ho, Op.operands])⟩⟩
    have h1 := VV.flat_rep hx (hops c (by simp [ho, Op.operands]))
    simp [execOp, ho, h1, asBool]
theorem indexK_good {P : Program} {I : World → Prop} {ρ : Operand → VV} {o : Oper} {T : TypeId} {x i : Operand} {H : OH} {id : Nat} (ho : o.op = .index T x i) : Good P I o ρ H id (indexK P ρ o T x i) := by
  intro k r h
  unfold indexK at h
  split at h
  · rename_i s ki n hu hx hi
    cases hn : decide (0 ≤ n) <;> simp only [hn, cond_false, cond_true] at h <;> try (cases h; done)
    split at h <;> try (cases h; done)
    rename_i b hb
    refine ⟨_, _, h, fun k' => by simp only [indexK, hu, hx, hi, hn, hb, cond_true, valK], opOk_same fun D U w a hops => ⟨_, ?_, .val _⟩⟩
    have h1 := VV.flat_rep hx (hops x (by simp [ho, Op.operands]))
    have h2 := VV.flat_rep hi (hops i (by simp [ho, Op.operands]))
    have hn' : 0 ≤ n := by simpa using hn
    simp only [execOp, ho, h1, h2, Instr.index, asIntOf, Sem.run_bind, Sem.run_pure, Result.andThen_ok, run_underlying hu, hn', if_true, hb]
  · rename_i n1
    obtain ⟨x', y', h1, h2, h3⟩ := flatK_good (I := I) (H := H) (id := id) k r h
    refine ⟨x', y', h1, fun k' => ?_, h3⟩
    unfold indexK
    split
    · rename_i e0 e1 e2; exact (n1 _ _ _ e0 e1 e2).elim
    · exact h2 k'

def extractQ (P : Program) (ρ : Operand → VV) (o : Oper) (x : Operand) (i : Nat) (k : KK) : Option DV :=
  match ρ x with
  | .dv (.tup cs) => match cs[i]? with | some d => k (.dv d) .none | none => none
  | _ => flatK P ρ o k
theorem extractQ_good {P : Program} {I : World → Prop} {ρ : Operand → VV} {o : Oper} {x : Operand} {i : Nat} {H : OH} {id : Nat} (ho : o.op = .extract x i) : Good P I o ρ H id (extractQ P ρ o x i) := by
  intro k r h
  unfold extractQ at h
  split at h
  · rename_i cs hx
    split at h <;> try (cases h; done)
    rename_i d hd
    refine ⟨_, _, h, fun k' => by simp only [extractQ, hx, hd], opOk_same fun D U w a hops => ?_⟩
    have h1 := hops x (by simp [ho, Op.operands])
    rw [hx] at h1
    generalize hv : a.eval x = v at h1
    cases h1 with
    | tup g1 g2 =>
      rename_i vs
      have hlt : i < vs.size := by rw [g1]; exact (List.getElem?_eq_some_iff.1 hd).1
      exact ⟨vs[i], by simp [execOp, ho, hv, Instr.extract, hlt], g2 i d _ hd (Array.getElem?_eq_getElem hlt)⟩
  · rename_i hne
    obtain ⟨x', y', h1, h2, h3⟩ := flatK_good (I := I) (H := H) (id := id) k r h
    refine ⟨x', y', h1, fun k' => ?_, h3⟩
    unfold extractQ
    split
    · rename_i cs hx; exact (hne cs hx).elim
    · exact h2 k'
theorem meth {P : Program} {T : TypeId} {ms : Array (String × TypeId)} (hu : P.underlying T = some (.interface ms)) : P.underlying T = some (.interface (P.methodsAt T)) := by simp [Program.methodsAt, hu]
def binE (P : Program) (ρ : Operand → VV) (o : Oper) (b : BinOp) (T : TypeId) (x y : Operand) (k : KK) : Option DV :=
  match ρ x, ρ y with
  | .dv .err, .dv (.val .nilIface) => match P.underlying T, b with
    | some (.interface _), .neq => valK k (.bool true)
    | some (.interface _), .eql => valK k (.bool false)
    | _, _ => none
  | _, _ => binK P ρ o b T x y k
theorem binE_good {P : Program} {I : World → Prop} {ρ : Operand → VV} {o : Oper} {b : BinOp} {T ty : TypeId} {x y : Operand} {H : OH} {id : Nat} (ho : o.op = .binOp b T x y ty) : Good P I o ρ H id (binE P ρ o b T x y) := by
  intro k r h
  unfold binE at h
  split at h
  · rename_i hx hy
    have key : ∀ c, (∀ (t : TypeId) (u : Value) w, (do eqGuard b T x y (.iface t u) .nilIface; binOp b T (.iface t u) .nilIface : Sem Value).run P w = .ok (.bool c) w) → OpOk P I o ρ H id (.dv (.val (.bool c))) .none := by
      intro c hc
      refine opOk_same fun D U w a hops => ⟨_, ?_, .val _⟩
      have h1 := hops x (by simp [ho, Op.operands])
      have h2 := hops y (by simp [ho, Op.operands])
      rw [hx] at h1
      rw [hy] at h2
      generalize hv : a.eval x = v at h1
      have h2 := val_eq h2
      cases h1 with
      | err =>
        rename_i t u
        have := hc t u w
        simp only [execOp, ho, hv, h2, Sem.run_bind] at this ⊢
        rw [this]
        rfl
    split at h <;> try (cases h; done)
    · rename_i ms hu
      exact ⟨_, _, h, fun k' => by simp only [binE, hx, hy, hu, valK], key true fun t u w => by rw [Sem.run_bind, show (eqGuard BinOp.neq T x y (.iface t u) .nilIface).run P w = .ok () w from rfl, Result.andThen_ok]; exact run_neq_held_nil w T t u (meth hu)⟩
    · rename_i ms hu
      exact ⟨_, _, h, fun k' => by simp only [binE, hx, hy, hu, valK], key false fun t u w => by rw [Sem.run_bind, show (eqGuard BinOp.eql T x y (.iface t u) .nilIface).run P w = .ok () w from rfl, Result.andThen_ok]; exact run_eql_held_nil w T t u (meth hu)⟩
  · rename_i hne
    obtain ⟨x', y', h1, h2, h3⟩ := binK_good (I := I) (H := H) (id := id) ho k r h
    refine ⟨x', y', h1, fun k' => ?_, h3⟩
    unfold binE
    split
    · rename_i hx hy; exact (hne hx hy).elim
    · exact h2 k'

def sliceQ (P : Program) (ρ : Operand → VV) (o : Oper) (t : TypeId) (x : Operand) (lo hi mx : Option Operand) (k : KK) : Option DV :=
  match mx, (match lo with | some y => (ρ y).flat | none => some (.int .i64 0)) with
  | none, some (.int _ l) => match ρ x, P.underlying t with
    | .dv (.val (.string s)), some .string => match (match hi with | some y => (ρ y).flat | none => some (.int .i64 s.size)) with
      | some (.int _ h) => bif decide (0 ≤ h) && decide (h ≤ s.size) && decide (0 ≤ l) && decide (l ≤ h) then valK k (.string (s.extract l.toNat h.toNat)) else none
      | _ => none
    | .dv (.lst sz es), some (.slice e) => match P.info? e with
      | some ti => match (match hi with | some y => (ρ y).flat | none => some (.int .i64 es.length)) with
        | some (.int _ h) => bif Nat.beq sz ti.size && decide (0 ≤ h) && decide (h ≤ es.length) && decide (0 ≤ l) && decide (l ≤ h) then k (.dv (.lst sz ((es.take h.toNat).drop l.toNat))) .none else none
        | _ => none
      | none => none
    | .osl e0 sz0 b o n, some (.slice e) => match P.info? e, lo, hi with
      | some _, none, some y => match (ρ y).flat with
        | some (.int _ h) => bif decide (0 ≤ h) && decide (h ≤ n) then k (.osl e0 sz0 b o h.toNat) .none else none
        | _ => none
      | _, _, _ => none
    | _, _ => none
  | _, _ => none
theorem run_sliceBound {P : Program} {kd : IntKind} {i : Int} {y : Nat} (code : BoundsCode) (h0 : 0 ≤ i) (h1 : i ≤ y) (w : World) : (Instr.sliceBound (.int kd i) y code).run P w = .ok i.toNat w := by
  simp [Instr.sliceBound, asIntOf, h0, h1]
theorem run_sliceBounds {P : Program} (isS : Bool) (len cap : Nat) (lo hi : Option Value) (l h : Nat)
    (hlo : (lo = none ∧ l = 0) ∨ ∃ kd i, lo = some (.int kd i) ∧ 0 ≤ i ∧ i ≤ (h : Int) ∧ l = i.toNat) (hhi : (hi = none ∧ h = len) ∨ ∃ kd j, hi = some (.int kd j) ∧ 0 ≤ j ∧ j ≤ (cap : Int) ∧ h = j.toNat) (w : World) :
    (Instr.sliceBounds isS len cap lo hi none).run P w = .ok (l, h, cap) w := by
  rcases hlo with ⟨rfl, rfl⟩ | ⟨kd, i, rfl, h0, h1, rfl⟩ <;> rcases hhi with ⟨rfl, rfl⟩ | ⟨kd', j, rfl, g0, g1, rfl⟩ <;> cases isS <;>
    simp only [Instr.sliceBounds, Sem.run_bind, Sem.run_pure, Result.andThen_ok, Option.isSome_none, Bool.false_eq_true, if_false, if_true] <;>
    first
      | rfl
      | (rw [run_sliceBound _ g0 g1]; simp only [Result.andThen_ok]; rw [run_sliceBound _ h0 h1]; rfl)
      | (rw [run_sliceBound _ g0 g1]; rfl)
      | (rw [run_sliceBound _ h0 h1]; rfl)
theorem sliceQ_good {P : Program} {I : World → Prop} {ρ : Operand → VV} {o : Oper} {t : TypeId} {x : Operand} {lo hi mx : Option Operand} {H : OH} {id : Nat} (ho : o.op = .slice t x lo hi mx) : Good P I o ρ H id (sliceQ P ρ o t x lo hi mx) := by
  intro k r h
  unfold sliceQ at h
  split at h <;> try (cases h; done)
  rename_i kl l hlo
  have hmx : x ∈ o.op.operands := by rw [ho]; simp [Op.operands]
  have lower : ∀ (D : Nat → Option Nat) (U : Nat → Prop) (w : World) (a : Act), (∀ y ∈ o.op.operands, VRep U w D (ρ y) (a.eval y)) → ∀ (hh : Nat), 0 ≤ l → l ≤ (hh : Int) → (lo.map a.eval = none ∧ l.toNat = 0) ∨ ∃ kd i, lo.map a.eval = some (.int kd i) ∧ 0 ≤ i ∧ i ≤ (hh : Int) ∧ l.toNat = i.toNat := by
    intro D U w a hops hh h0 h1
    cases lo with
    | none => simp only [Option.some.injEq, Value.int.injEq] at hlo; obtain ⟨_, rfl⟩ := hlo; exact .inl ⟨rfl, rfl⟩
    | some y =>
      have := VV.flat_rep hlo (hops y (by rw [ho]; simp [Op.operands]))
      exact .inr ⟨kl, l, by simp [this], h0, h1, rfl⟩
  have upper : ∀ (D : Nat → Option Nat) (U : Nat → Prop) (w : World) (a : Act), (∀ y ∈ o.op.operands, VRep U w D (ρ y) (a.eval y)) → ∀ (len cap : Nat) (kh : IntKind) (hh : Int), len ≤ cap → (match hi with | some y => (ρ y).flat | none => some (.int .i64 len)) = some (.int kh hh) → 0 ≤ hh → hh ≤ (len : Int) →
      (hi.map a.eval = none ∧ hh.toNat = len) ∨ ∃ kd j, hi.map a.eval = some (.int kd j) ∧ 0 ≤ j ∧ j ≤ (cap : Int) ∧ hh.toNat = j.toNat := by
    intro D U w a hops len cap kh hh hlc hhi h0 h1
    cases hi with
    | none => simp only [Option.some.injEq, Value.int.injEq] at hhi; obtain ⟨_, rfl⟩ := hhi; exact .inl ⟨rfl, by simp⟩
    | some y =>
      have := VV.flat_rep hhi (hops y (by rw [ho]; simp [Op.operands]))
      exact .inr ⟨kh, hh, by simp [this], h0, by omega, rfl⟩
  split at h <;> try (cases h; done)
  · rename_i s hx hu
    split at h <;> try (cases h; done)
    rename_i kh hh hhi
    cases hq : decide (0 ≤ hh) && decide (hh ≤ s.size) && decide (0 ≤ l) && decide (l ≤ hh) with
    | false => rw [hq] at h; cases h
    | true =>
      have hq0 := hq
      rw [hq] at h
      simp only [Bool.and_eq_true, decide_eq_true_eq] at hq
      obtain ⟨⟨⟨q1, q2⟩, q3⟩, q4⟩ := hq
      refine ⟨_, _, h, fun k' => by simp only [sliceQ, hlo, hx, hu, hhi]; rw [hq0]; rfl, opOk_same fun D U w a hops => ⟨_, ?_, .val _⟩⟩
      have h1 := hops x hmx
      rw [hx] at h1
      have hv : a.eval x = .string s := val_eq h1
      have hb := run_sliceBounds (P := P) false s.size s.size (lo.map a.eval) (hi.map a.eval) l.toNat hh.toNat (lower D U w a hops hh.toNat q3 (by omega)) (upper D U w a hops s.size s.size kh hh (Nat.le_refl _) hhi q1 q2) w
      simp only [execOp, ho, hv, Instr.sliceAt, Instr.slice, Sem.run_bind, run_underlying hu, Result.andThen_ok]
      simp only [Option.map_none, Option.isSome_none, Bool.false_eq_true, if_false, Sem.run_bind, hb, Result.andThen_ok, Sem.run_pure]
  · rename_i sz es e hx hu
    split at h <;> try (cases h; done)
    rename_i ti hti
    split at h <;> try (cases h; done)
    rename_i kh hh hhi
    cases hq : Nat.beq sz ti.size && decide (0 ≤ hh) && decide (hh ≤ es.length) && decide (0 ≤ l) && decide (l ≤ hh) with
    | false => rw [hq] at h; cases h
    | true =>
      have hq0 := hq
      rw [hq] at h
      simp only [Bool.and_eq_true, decide_eq_true_eq] at hq
      obtain ⟨⟨⟨⟨q0, q1⟩, q2⟩, q3⟩, q4⟩ := hq
      have q0' := Nat.eq_of_beq_eq_true q0
      have hs2 : ∀ w, (sizeOf e).run P w = .ok ti.size w := fun w => by simp [sizeOf, typeInfo, program, Sem.run, hti, bind, pure, Sem.bind]
      refine ⟨_, _, h, fun k' => by simp only [sliceQ, hlo, hx, hu, hti, hhi]; rw [hq0]; rfl, opOk_same fun D U w a hops => ?_⟩
      have h1 := hops x hmx
      rw [hx] at h1
      generalize hv : a.eval x = v at h1
      cases h1 with
      | nil =>
        rename_i cp ad
        simp only [List.length_nil] at q2
        have hb := run_sliceBounds (P := P) true 0 cp (lo.map a.eval) (hi.map a.eval) l.toNat hh.toNat (lower D U w a hops hh.toNat q3 (by omega)) (upper D U w a hops 0 cp kh hh (by omega) hhi q1 q2) w
        have e0 : hh.toNat - l.toNat = 0 := by omega
        have hex : ∃ ad', (execOp a.eval o).run P w = .ok (.value (.slice ad' (hh.toNat - l.toNat) (cp - l.toNat))) w := by
          simp only [execOp, ho, hv, Instr.sliceAt, Instr.slice, Sem.run_bind, run_underlying hu, Result.andThen_ok, Option.map_none, hb, hs2, Sem.run_pure]
          exact ⟨_, rfl⟩
        obtain ⟨ad', hex⟩ := hex
        refine ⟨_, hex, ?_⟩
        rw [e0]
        simp only [List.take_nil, List.drop_nil]
        exact .nil
      | lst hb0 hblt hcap hlen hc hr =>
        rename_i b off cp g
        have hb := run_sliceBounds (P := P) true es.length cp (lo.map a.eval) (hi.map a.eval) l.toNat hh.toNat (lower D U w a hops hh.toNat q3 (by omega)) (upper D U w a hops es.length cp kh hh hcap hhi q1 q2) w
        have hln : ((es.take hh.toNat).drop l.toNat).length = hh.toNat - l.toNat := by simp; omega
        have hget : ∀ i e, ((es.take hh.toNat).drop l.toNat)[i]? = some e → es[l.toNat + i]? = some e := by
          intro i e he
          rw [List.getElem?_drop, List.getElem?_take] at he
          split at he
          · exact he
          · cases he
        by_cases hcl : cp = l.toNat
        · refine ⟨.slice (some ⟨b, off, none⟩) (hh.toNat - l.toNat) (cp - l.toNat), ?_, ?_⟩
          · rw [hcl] at hb hv ⊢
            simp only [execOp, ho, hv, Instr.sliceAt, Instr.slice, Sem.run_bind, run_underlying hu, Result.andThen_ok, Option.map_none, hb, hs2, Sem.run_pure, if_true]
          · have e0 : hh.toNat - l.toNat = 0 := by omega
            have e1 : (es.take hh.toNat).drop l.toNat = [] := by
              apply List.eq_nil_of_length_eq_zero; rw [hln, e0]
            have := DRep.lst (U := U) (w := w) (sz := sz) (b := b) (off := off) (c := cp - l.toNat) (es := []) (g := g) hb0 hblt (by simp) (by simp) (by simp) (by simp)
            simp only [VRep]
            rw [e1, e0]
            exact this
        · refine ⟨.slice (some ⟨b, off + l.toNat * ti.size, none⟩) (hh.toNat - l.toNat) (cp - l.toNat), ?_, ?_⟩
          · simp only [execOp, ho, hv, Instr.sliceAt, Instr.slice, Sem.run_bind, run_underlying hu, Result.andThen_ok, Option.map_none, hb, hs2, Sem.run_pure, hcl, if_false, Option.map_some, add_flat]
          · have := DRep.lst (U := U) (w := w) (sz := sz) (b := b) (off := off + l.toNat * ti.size) (c := cp - l.toNat) (es := (es.take hh.toNat).drop l.toNat) (g := fun i j => g (l.toNat + i) j) hb0 hblt (by rw [hln]; omega)
              (fun e he => hlen e (List.mem_of_mem_take (List.mem_of_mem_drop he))) (fun i j e x he hx => by
                have := hc _ j e x (hget i e he) hx
                rw [← this]
                congr 2
                rw [q0', Nat.add_mul]; omega) (fun i j e x he hx => hr _ j e x (hget i e he) hx)
            rw [hln] at this
            exact this
  · rename_i e0 sz0 b o' n e' hx hu
    split at h <;> try (cases h; done)
    rename_i ti y hti
    split at h <;> try (cases h; done)
    rename_i kh hh hhi
    cases hq : decide (0 ≤ hh) && decide (hh ≤ (n : Int)) with
    | false => rw [hq] at h; cases h
    | true =>
      have hq0 := hq
      rw [hq] at h
      simp only [Bool.and_eq_true, decide_eq_true_eq] at hq
      obtain ⟨q1, q2⟩ := hq
      have hs2 : ∀ w, (sizeOf e').run P w = .ok ti.size w := fun w => by simp [sizeOf, typeInfo, program, Sem.run, hti, bind, pure, Sem.bind]
      refine ⟨_, _, h, fun k' => by simp only [sliceQ, hlo, hx, hu, hti, hhi]; rw [hq0]; rfl, opOk_same fun D U w a hops => ?_⟩
      have h1 := hops x hmx
      rw [hx] at h1
      obtain ⟨kk, c, cur, hk, hc, hh', hs, hv⟩ := h1
      have h2 := VV.flat_rep hhi (hops y (by rw [ho]; simp [Op.operands]))
      have hb := run_sliceBounds (P := P) true n c none (some (.int kh hh)) 0 hh.toNat (.inl ⟨rfl, rfl⟩) (.inr ⟨kh, hh, rfl, q1, by omega, rfl⟩) w
      refine ⟨.slice (some ⟨kk, o', none⟩) hh.toNat c, ?_, kk, c, cur, hk, by omega, hh', hs, rfl⟩
      simp only [execOp, ho, hv, h2, Instr.sliceAt, Instr.slice, Sem.run_bind, run_underlying hu, Result.andThen_ok, Option.map_none, Option.map_some, hb, hs2, Sem.run_pure, Nat.zero_mul, Nat.sub_zero, add_flat, Nat.add_zero]
      split <;> rfl
end Go.Pv
namespace Go.Pv
open Go Go.RowKit

def newsD (H : OH) (x : VV) (sz : Nat) : Option (List DV × Nat) :=
  match x with
  | .osl _ _ b of m => match H[b]? with
    | some (some (.cells cs)) => bif Nat.ble (of + m * sz) cs.length then some ((cs.drop of).take (m * sz), m) else none
    | _ => none
  | .dv (.lst sz' es) => bif Nat.beq sz' sz then some (es.flatten, es.length) else none
  | _ => none
def appendQ (P : Program) (ρ : Operand → VV) (H : OH) (id : Nat) (c : Call) (k : KK) : Option DV :=
  match c.args.toList, c.argTypes.toList with
  | [s, x], [t, t'] => bif Nat.beq t t' then match P.underlying t with
    | some (.slice e) => match P.info? e with
      | some i => match i.zero with
        | some z => bif Nat.beq z.cells.size i.size && Nat.ble 1 i.size then match newsD H (ρ x) i.size with
          | some (ns, m) => bif Nat.ble 1 m && ns.all oneCellD then match ρ s with
            | .osl e0 sz0 b 0 n => match H[b]? with
              | some (some (.cells cs)) => bif Nat.beq e0 e && Nat.beq sz0 i.size && Nat.ble (n * i.size) cs.length && Nat.ble (n + m) maxLen && Nat.ble ((n + m) * i.bytes) 140737488355328 then k (.osl e i.size id 0 (n + m)) (.move b (cs.take (n * i.size) ++ ns)) else none
              | _ => none
            | .dv (.val (.slice none 0 0)) => bif Nat.ble m maxLen && Nat.ble (m * i.bytes) 140737488355328 then k (.osl e i.size id 0 m) (.new ns) else none
            | _ => none
            else none
          | none => none
          else none
        | none => none
      | none => none
    | _ => none
    else none
  | _, _ => none

theorem newsD_ok {H H' : OH} {x : VV} {sz m : Nat} {ns : List DV} (h : newsD H x sz = some (ns, m)) (hm : 1 ≤ m) (hsz : 1 ≤ sz) (h1 : ns.all oneCellD = true) {D : Nat → Option Nat} {U : Nat → Prop} {N : Nat} {w0 w : World} (hW : WRel D U N w0 H' w) (hC : Compat H H') {v : Value} (hv : VRep U w D x v) :
    ∃ ad cp, v = .slice (some ad) m cp ∧ ∃ news : List Value, news.length = m * sz ∧ ns.length = m * sz ∧ (∀ j u, news[j]? = some u → w.cell? (ad.add j) = some u) ∧ (∀ u ∈ news, u.oneCell' = true) ∧ ∀ (i : Nat) (x : DV) (v : Value), ns[i]? = some x → news[i]? = some v → DRep U w x v := by
  have fin : ∀ (k of : Nat), ns.length = m * sz → (∀ j x, ns[j]? = some x → ∃ u, w.cell? ⟨k, of + j, none⟩ = some u ∧ DRep U w x u) →
      ∃ news : List Value, news.length = m * sz ∧ ns.length = m * sz ∧ (∀ j u, news[j]? = some u → w.cell? ((⟨k, of, none⟩ : Addr).add j) = some u) ∧ (∀ u ∈ news, u.oneCell' = true) ∧ ∀ (i : Nat) (x : DV) (v : Value), ns[i]? = some x → news[i]? = some v → DRep U w x v := by
    intro k of hl hc
    refine ⟨(List.range (m * sz)).map fun j => (w.cell? ⟨k, of + j, none⟩).getD undef, by simp, hl, ?_, ?_, ?_⟩
    · intro j u hu
      simp only [List.getElem?_map, Option.map_eq_some_iff] at hu
      obtain ⟨j', hj', rfl⟩ := hu
      have hlt : j < m * sz := by have := (List.getElem?_eq_some_iff.1 hj').1; simpa using this
      rw [List.getElem?_range hlt] at hj'
      cases hj'
      obtain ⟨u, hu, _⟩ := hc j _ (List.getElem?_eq_getElem (by omega))
      rw [add_flat, hu]; rfl
    · intro u hu
      simp only [List.mem_map, List.mem_range] at hu
      obtain ⟨j, hj, rfl⟩ := hu
      obtain ⟨u, hu, hr⟩ := hc j _ (List.getElem?_eq_getElem (by omega))
      rw [hu]
      exact oneCellD_rep (List.all_eq_true.1 h1 _ (List.getElem_mem _)) hr
    · intro j x v hx hv
      simp only [List.getElem?_map, Option.map_eq_some_iff] at hv
      obtain ⟨j', hj', rfl⟩ := hv
      have hlt : j < m * sz := by have := (List.getElem?_eq_some_iff.1 hj').1; simpa using this
      rw [List.getElem?_range hlt] at hj'
      cases hj'
      obtain ⟨u, hu, hr⟩ := hc j x hx
      rw [hu]; exact hr
  unfold newsD at h
  split at h
  · rename_i e2 sz2 b of m'
    split at h <;> try (cases h; done)
    rename_i cs hb
    cases hl : Nat.ble (of + m' * sz) cs.length with
    | false => simp [hl] at h
    | true =>
      simp only [hl, cond_true, Option.some.injEq, Prod.mk.injEq] at h
      obtain ⟨rfl, rfl⟩ := h
      have hl' := Nat.le_of_ble_eq_true hl
      obtain ⟨k, c, cur0, hk, hc, hh0, hs0, rfl⟩ := hv
      obtain ⟨n1, n3, B, g4⟩ := hW.own b k hk
      have e := hC b _ _ hb g4
      subst e
      obtain ⟨n2, cur, T, g3, g5, g6⟩ := hW.hold b k cs hk g4
      refine ⟨_, _, rfl, fin k of (by simp; omega) fun j x hx => ?_⟩
      rw [List.getElem?_take] at hx
      split at hx <;> try (cases hx; done)
      rw [List.getElem?_drop] at hx
      have hlt : of + j < cur.size := by have := (List.getElem?_eq_some_iff.1 hx).1; omega
      exact ⟨cur[of + j], by simp [World.cell?, g3, hlt], g6 _ x _ hx (Array.getElem?_eq_getElem hlt)⟩
  · rename_i sz' es
    cases hl : Nat.beq sz' sz with
    | false => simp [hl] at h
    | true =>
      have := Nat.eq_of_beq_eq_true hl
      subst this
      simp only [hl, cond_true, Option.some.injEq, Prod.mk.injEq] at h
      obtain ⟨rfl, rfl⟩ := h
      cases hv with
      | nil => simp at hm
      | lst hb hlt hcap hlen hc hr =>
        rename_i b off cp g
        have hflat : ∀ (es : List (List DV)), (∀ e ∈ es, e.length = sz') → es.flatten.length = es.length * sz' ∧ ∀ j x, es.flatten[j]? = some x → ∃ e, es[j / sz']? = some e ∧ e[j % sz']? = some x := by
          intro es
          induction es with
          | nil => intro _; exact ⟨by simp, by simp⟩
          | cons e es ih =>
            intro he
            obtain ⟨l1, l2⟩ := ih (fun e he' => he e (by simp [he']))
            have hes := he e (by simp)
            refine ⟨by simp only [List.flatten_cons, List.length_append, List.length_cons, l1, hes, Nat.add_mul]; omega, ?_⟩
            intro j x hx
            rw [List.flatten_cons, List.getElem?_append] at hx
            split at hx
            · rename_i hlt
              rw [hes] at hlt
              exact ⟨e, by rw [Nat.div_eq_of_lt hlt]; rfl, by rw [Nat.mod_eq_of_lt hlt]; exact hx⟩
            · rename_i hge
              rw [hes] at hx hge
              obtain ⟨e', h1, h2⟩ := l2 _ x hx
              have e1 : j = (j - sz') + sz' := by omega
              refine ⟨e', ?_, ?_⟩
              · rw [e1, Nat.add_div_right _ (by omega), List.getElem?_cons_succ]; exact h1
              · rw [e1, Nat.add_mod_right]; exact h2
        obtain ⟨l1, l2⟩ := hflat es hlen
        refine ⟨_, _, rfl, fin b off l1 fun j x hx => ?_⟩
        obtain ⟨e, h3, h4⟩ := l2 j x hx
        refine ⟨g (j / sz') (j % sz'), ?_, hr _ _ e x h3 h4⟩
        have := hc _ _ e x h3 h4
        have hj := Nat.div_add_mod j sz'
        rw [Nat.mul_comm] at hj
        rw [show off + j = off + j / sz' * sz' + j % sz' by omega]
        exact this
  · cases h

theorem onward_drew' {D : Nat → Option Nat} {U : Nat → Prop} {w : World} : Onward D U w D U w.drew := ⟨fun _ _ h => h, fun _ h => h, fun _ _ => rfl, Nat.le_refl _, fun _ h => .inl h, fun _ _ cur _ _ _ h => ⟨cur, h, rfl⟩⟩
theorem WRel.drew' {D : Nat → Option Nat} {U : Nat → Prop} {N : Nat} {w0 w : World} {H : OH} (h : WRel D U N w0 H w) : WRel D U N w0 H w.drew :=
  ⟨h.below.drew, h.old, h.own, fun b k vs hb hH => by
    obtain ⟨g1, cs, T, g2, g3, g4⟩ := h.hold b k vs hb hH
    exact ⟨g1, cs, T, g2, g3, fun i x v e1 e2 => (g4 i x v e1 e2).keep (w := w) (w' := w.drew) (fun _ h => h) (fun _ _ => rfl) (Nat.le_refl _)⟩, h.all, h.inj⟩
theorem WRel.give {D : Nat → Option Nat} {U : Nat → Prop} {N : Nat} {w0 w : World} {H : OH} (h : WRel D U N w0 H w) (b : Nat) (hb : ∃ B, H[b]? = some (some B)) : WRel D U N w0 (H.set b (some .gone)) w := by
  obtain ⟨B0, hb0⟩ := hb
  have hbl : b < H.length := (List.getElem?_eq_some_iff.1 hb0).1
  have back : ∀ b' vs, (H.set b (some .gone))[b']? = some (some (.cells vs)) → b' ≠ b ∧ H[b']? = some (some (.cells vs)) := by
    intro b' vs hv
    by_cases e : b' = b
    · subst e; simp [List.getElem?_set, hbl] at hv
    · exact ⟨e, by rw [List.getElem?_set_ne (Ne.symm e)] at hv; exact hv⟩
  refine ⟨h.below, h.old, ?_, fun b' k vs hd hH => h.hold b' k vs hd (back b' vs hH).2, ?_, fun b1 b2 k v1 v2 h1 h2 => h.inj b1 b2 k v1 v2 (back _ _ h1).2 (back _ _ h2).2⟩
  · intro b' k hd
    obtain ⟨g1, g2, B, g3⟩ := h.own b' k hd
    refine ⟨g1, g2, ?_⟩
    by_cases e : b' = b
    · subst e; exact ⟨.gone, by simp [List.getElem?_set, hbl]⟩
    · exact ⟨B, by rw [List.getElem?_set_ne (Ne.symm e)]; exact g3⟩
  · intro b' B hB
    by_cases e : b' = b
    · subst e; exact h.all b' _ hb0
    · rw [List.getElem?_set_ne (Ne.symm e)] at hB; exact h.all b' B hB

theorem run_append_op {P : Program} {o : Oper} {c : Call} (ho : o.op = .call c) (hc : c.callee = .builtin .append) {s x : Operand} {t : TypeId} (ha : c.args.toList = [s, x]) (ht : c.argTypes.toList = [t, t]) (a : Act) (w w' : World) {v : Value} (h : (Builtin.append_ #[t, t] o.type #[a.eval s, a.eval x]).run P w = .ok v w') :
    (execOp a.eval o).run P w = .ok (.value v) w' := by
  have h1 : c.args = #[s, x] := by have : c.args = c.args.toList.toArray := by simp
                                   rw [this, ha]
  have h2 : c.argTypes = #[t, t] := by have : c.argTypes = c.argTypes.toList.toArray := by simp
                                       rw [this, ht]
  simp [execOp, ho, resolve, hc, invoke, builtin, h1, h2, h]

theorem grow_rel {P : Program} {I : World → Prop} {D : Nat → Option Nat} {U : Nat → Prop} {N : Nat} {w0 w : World} {H : OH} {id n cap sz : Nat} {e : TypeId} {cs : List DV} {vs : Array Value} (hW : WRel D U N w0 H w) (hN : N ≤ w.heap.size) (hid : D id = none) (hl : id ≤ H.length) (hn : n ≤ cap) (hsz : cap * sz ≤ vs.size)
    (h1 : cs.length ≤ vs.size) (h2 : ∀ (i : Nat) (x : DV) (v : Value), cs[i]? = some x → vs[i]? = some v → DRep U w x v) :
    Onward D U w (updD D id w.heap.size) U (w.drew.alloc (.cells vs e)) ∧ WRel (updD D id w.heap.size) U N w0 ((Eff.new cs).app id H) (w.drew.alloc (.cells vs e)) ∧ VRep U (w.drew.alloc (.cells vs e)) (updD D id w.heap.size) (.osl e sz id 0 n) (.slice (some ⟨w.heap.size, 0, none⟩) n cap) := by
  have hd := hW.drew'
  exact ⟨onward_drew'.trans (onward_alloc (w := w.drew) hW.old hid _), hd.new (w := w.drew) hN hid hl h1 (fun i x v e1 e2 => (h2 i x v e1 e2).keep (w := w) (w' := w.drew) (fun _ h => h) (fun _ _ => rfl) (Nat.le_refl _)),
    ⟨w.heap.size, cap, vs, by simp [updD], hn, heap_alloc_new w.drew _, by omega, rfl⟩⟩

theorem appendQ_good {P : Program} {I : World → Prop} {ρ : Operand → VV} {o : Oper} {c : Call} {H : OH} {id : Nat} (ho : o.op = .call c) (hc : c.callee = .builtin .append) : Good P I o ρ H id (appendQ P ρ H id c) := by
  intro k r h
  unfold appendQ at h
  split at h <;> try (cases h; done)
  rename_i s x t t' ha htl
  cases htt : Nat.beq t t' with
  | false => simp [htt] at h
  | true =>
  have htt' := Nat.eq_of_beq_eq_true htt
  subst htt'
  simp only [htt, cond_true] at h
  split at h <;> try (cases h; done)
  rename_i e hu
  split at h <;> try (cases h; done)
  rename_i i hi
  split at h <;> try (cases h; done)
  rename_i z hz
  cases hq : Nat.beq z.cells.size i.size && Nat.ble 1 i.size with
  | false => simp [hq] at h
  | true =>
  simp only [hq, cond_true] at h
  split at h <;> try (cases h; done)
  rename_i ns m hnews
  cases hq2 : Nat.ble 1 m && ns.all oneCellD with
  | false => simp [hq2] at h
  | true =>
  simp only [hq2, cond_true] at h
  have hq' := hq
  have hq2' := hq2
  simp only [Bool.and_eq_true] at hq' hq2'
  have z1 := Nat.eq_of_beq_eq_true hq'.1
  have z2 := Nat.le_of_ble_eq_true hq'.2
  have m1 := Nat.le_of_ble_eq_true hq2'.1
  have hms : s ∈ o.op.operands := by
    rw [ho]; simp only [Op.operands, Call.operands]
    refine Array.mem_append.2 (.inr ?_)
    have : s ∈ c.args.toList := by rw [ha]; simp
    simpa using this
  have hmx : x ∈ o.op.operands := by
    rw [ho]; simp only [Op.operands, Call.operands]
    refine Array.mem_append.2 (.inr ?_)
    have : x ∈ c.args.toList := by rw [ha]; simp
    simpa using this
  split at h <;> try (cases h; done)
  · rename_i e0 sz0 b n hs
    split at h <;> try (cases h; done)
    rename_i cs hb
    cases hq3 : Nat.beq e0 e && Nat.beq sz0 i.size && Nat.ble (n * i.size) cs.length && Nat.ble (n + m) maxLen && Nat.ble ((n + m) * i.bytes) 140737488355328 with
    | false => rw [hq3] at h; cases h
    | true =>
    have hq3' := hq3
    rw [hq3] at h
    simp only [cond_true] at h
    refine ⟨_, _, h, fun k' => by simp only [appendQ, ha, htl, htt, cond_true, hu, hi, hz, hq, hnews, hq2, hs, hb, hq3], ?_⟩
    simp only [Bool.and_eq_true] at hq3'
    obtain ⟨⟨⟨⟨q1, q2⟩, q3⟩, q4⟩, q5⟩ := hq3'
    have q1' := Nat.eq_of_beq_eq_true q1
    have q2' := Nat.eq_of_beq_eq_true q2
    have q3' := Nat.le_of_ble_eq_true q3
    have q4' := Nat.le_of_ble_eq_true q4
    have q5' := Nat.le_of_ble_eq_true q5
    subst q1'
    subst q2'
    intro D U N w0 H' w a next Q hI hC hW hN hid hl hops hn
    have hvs := hops s hms
    rw [hs] at hvs
    obtain ⟨kk, cap, cur, hk, hcap, hh0, hs0, hvs⟩ := hvs
    obtain ⟨n1, n3, B, g4⟩ := hW.own b kk hk
    have eB := hC b _ _ hb g4
    subst eB
    obtain ⟨n2, cur1, T, g3, g5, g6⟩ := hW.hold b kk cs hk g4
    rw [hh0] at g3
    cases g3
    obtain ⟨ad, cp, hvx, news, l1, l2, hcells, hone, hrep⟩ := newsD_ok hnews m1 z2 hq2'.2 hW hC (hops x hmx)
    have hbl : b < H'.length := (List.getElem?_eq_some_iff.1 g4).1
    have hbid : b ≠ id := fun e => by rw [e, hid] at hk; cases hk
    have hgive := hW.give b ⟨_, g4⟩
    have hsetl : (H'.set b (some Blk.gone)).length = H'.length := by simp
    have htk : ∀ (j : Nat) (x : DV), (cs.take (n * i.size))[j]? = some x → ∃ u, cur[j]? = some u ∧ DRep U w x u := by
      intro j x hx
      rw [List.getElem?_take] at hx
      split at hx <;> try (cases hx; done)
      have hlt : j < cur.size := by have := (List.getElem?_eq_some_iff.1 hx).1; omega
      exact ⟨cur[j], Array.getElem?_eq_getElem hlt, g6 j x _ hx (Array.getElem?_eq_getElem hlt)⟩
    have hnc : n * i.size ≤ cap * i.size := Nat.mul_le_mul_right _ hcap
    unfold Oper.wp
    by_cases hroom : n + m ≤ cap
    · have hmul : (n + m) * i.size ≤ cap * i.size := Nat.mul_le_mul_right _ hroom
      rw [Nat.add_mul] at hmul
      have hfit : n * i.size + news.length ≤ cur.size := by rw [l1]; omega
      have hr := run_append_room (P := P) w t o.type e0 i hu hi kk n cap cur hh0 ad m cp news l1 hcells hone hroom hfit
      rw [run_append_op ho hc ha htl a w _ (by rw [hvs, hvx]; exact hr)]
      generalize hrow : (cur.toList.take (n * i.size) ++ news ++ cur.toList.drop (n * i.size + news.length)).toArray = row
      have hrs : row.size = cur.size := by rw [← hrow]; simp; omega
      have hon0 := onward_setRow (D := D) (w := w) n2 row (fun c T' f h => by rw [hh0] at h; cases h; exact hrs)
      have hon : Onward D U w (updD D id kk) U (w.setRow kk row) :=
        ⟨fun b' k' hb' => by simp only [updD]; split; · subst_vars; rw [hid] at hb'; cases hb'
                             · exact hb', hon0.set, hon0.keep, hon0.size, hon0.back, hon0.siz⟩
      refine hn _ _ _ _ hon ?_ (fun b' hb' hne => by simp [updD, hne, hb']) ⟨kk, cap, row, by simp [updD], hroom, setRow_heap w kk cur row e0 _ hh0, by rw [hrs]; exact hs0, rfl⟩
      refine WRel.add (H1 := H'.set b (some .gone)) hgive hon (below_setRow hW.below n1 _) n1 hid (by rw [hsetl]; exact hl) (setRow_heap w kk cur row e0 _ hh0) n2 (fun b' _ => .inl rfl) ?_ ?_ ?_
      · intro b' j us hb' hH'
        have hne : b' ≠ b := by
          intro e; subst e; simp [List.getElem?_set, hbl] at hH'
        rw [List.getElem?_set_ne (Ne.symm hne)] at hH'
        have hjk : j ≠ kk := fun e => hne (hW.inj b' b kk us cs hH' g4 (e ▸ hb') hk)
        exact ⟨hjk, setRow_other w kk j row hjk⟩
      · rw [hrs]; simp [l2]; omega
      · intro j x v e1 e2
        rw [← hrow] at e2
        simp only [List.getElem?_toArray] at e2
        have lt1 : (cs.take (n * i.size)).length = n * i.size := by simp; omega
        have lt2 : (cur.toList.take (n * i.size)).length = n * i.size := by simp; omega
        rw [List.append_assoc, List.getElem?_append, lt2] at e2
        rw [List.getElem?_append, lt1] at e1
        split at e1
        · rename_i hlt
          rw [if_pos hlt] at e2
          obtain ⟨u, hu', hr'⟩ := htk j x e1
          rw [List.getElem?_take, if_pos hlt] at e2
          have : u = v := by
            have e3 : cur[j]? = some v := by simpa using e2
            rw [hu'] at e3; simpa using e3
          rw [← this]
          exact hr'.keep hon.set hon.keep hon.size
        · rename_i hlt
          rw [if_neg hlt] at e2
          have hj : j - n * i.size < news.length := by have := (List.getElem?_eq_some_iff.1 e1).1; omega
          rw [List.getElem?_append_left hj] at e2
          exact (hrep _ x v e1 e2).keep hon.set hon.keep hon.size
    · have holds : ∀ j u, (cur.toList.take (n * i.size))[j]? = some u → w.cell? ((⟨kk, 0, none⟩ : Addr).add j) = some u := by
        intro j u hu'
        rw [List.getElem?_take] at hu'
        split at hu' <;> try (cases hu'; done)
        have e3 : cur[j]? = some u := by simpa using hu'
        rw [add_flat, Nat.zero_add]
        simp [World.cell?, hh0, e3]
      have hlo : (cur.toList.take (n * i.size)).length = n * i.size := by simp; omega
      have hge := grownCap_ge w (n + m) cap e0
      have hr := run_append_grow (P := P) w t o.type e0 i z hu hi hz ⟨kk, 0, none⟩ n cap _ hlo holds ad m cp news l1 hcells (by omega) (by simp only [maxLen] at q4'; omega) (growslice_fits (by omega) q5')
      rw [run_append_op ho hc ha htl a w _ (by rw [hvs, hvx]; exact hr)]
      generalize hrow : ((cur.toList.take (n * i.size)).toArray ++ news.toArray ++ Builtin.zeroCells z.cells (grownCap w (n + m) cap e0 - (n + m))) = row
      have hrs : row.size = grownCap w (n + m) cap e0 * i.size := by
        rw [← hrow]
        simp only [Array.size_append, List.size_toArray, size_zeroCells, hlo, l1, z1, ← Nat.add_mul]
        congr 1; omega
      have hmul : (n + m) * i.size ≤ grownCap w (n + m) cap e0 * i.size := Nat.mul_le_mul_right _ hge
      rw [Nat.add_mul] at hmul
      obtain ⟨r1, r2, r3⟩ := grow_rel (P := P) (I := I) (id := id) (n := n + m) (cap := grownCap w (n + m) cap e0) (sz := i.size) (e := e0) (cs := cs.take (n * i.size) ++ ns) (vs := row) hgive hN hid (by rw [hsetl]; exact hl) hge (by rw [hrs]; exact Nat.le_refl _) (by rw [hrs]; simp [l2]; omega) (by
        intro j x v e1 e2
        rw [← hrow, ← Array.getElem?_toList] at e2
        simp only [Array.toList_append, List.append_assoc] at e2
        have lt1 : (cs.take (n * i.size)).length = n * i.size := by simp; omega
        rw [List.getElem?_append, hlo] at e2
        rw [List.getElem?_append, lt1] at e1
        split at e1
        · rename_i hlt
          rw [if_pos hlt] at e2
          obtain ⟨u, hu', hr'⟩ := htk j x e1
          rw [List.getElem?_take, if_pos hlt] at e2
          have : u = v := by
            have e3 : cur[j]? = some v := by simpa using e2
            rw [hu'] at e3; simpa using e3
          rw [← this]
          exact hr'
        · rename_i hlt
          rw [if_neg hlt] at e2
          have hj : j - n * i.size < news.length := by have := (List.getElem?_eq_some_iff.1 e1).1; omega
          rw [List.getElem?_append_left hj] at e2
          exact hrep _ x v e1 e2)
      exact hn _ _ _ _ r1 r2 (fun b' hb' hne => by simp [updD, hne, hb']) r3
  · rename_i hs
    cases hq3 : Nat.ble m maxLen && Nat.ble (m * i.bytes) 140737488355328 with
    | false => rw [hq3] at h; cases h
    | true =>
    have hq3' := hq3
    rw [hq3] at h
    simp only [cond_true] at h
    refine ⟨_, _, h, fun k' => by simp only [appendQ, ha, htl, htt, cond_true, hu, hi, hz, hq, hnews, hq2, hs, hq3], ?_⟩
    simp only [Bool.and_eq_true] at hq3'
    have q4' := Nat.le_of_ble_eq_true hq3'.1
    have q5' := Nat.le_of_ble_eq_true hq3'.2
    intro D U N w0 H' w a next Q hI hC hW hN hid hl hops hn
    have hvs := hops s hms
    rw [hs] at hvs
    have hvs' := val_eq hvs
    obtain ⟨ad, cp, hvx, news, l1, l2, hcells, hone, hrep⟩ := newsD_ok hnews m1 z2 hq2'.2 hW hC (hops x hmx)
    have hge := grownCap_ge w m 0 e
    have hr := run_append_nil (P := P) w t o.type e i z hu hi hz ad m cp news l1 hcells (by omega) (by simp only [maxLen] at q4'; omega) (by omega)
    unfold Oper.wp
    rw [run_append_op ho hc ha htl a w _ (by rw [hvs', hvx]; exact hr)]
    generalize hrow : (news.toArray ++ Builtin.zeroCells z.cells (grownCap w m 0 e - m)) = row
    have hrs : row.size = grownCap w m 0 e * i.size := by
      rw [← hrow]
      simp only [Array.size_append, List.size_toArray, size_zeroCells, l1, z1, ← Nat.add_mul]
      congr 1; omega
    have hmul : m * i.size ≤ grownCap w m 0 e * i.size := Nat.mul_le_mul_right _ hge
    obtain ⟨r1, r2, r3⟩ := grow_rel (P := P) (I := I) (id := id) (n := m) (cap := grownCap w m 0 e) (sz := i.size) (e := e) (cs := ns) (vs := row) hW hN hid hl hge (by rw [hrs]; exact Nat.le_refl _) (by rw [hrs]; omega) (by
      intro j x v e1 e2
      rw [← hrow, ← Array.getElem?_toList] at e2
      simp only [Array.toList_append] at e2
      have hj : j < news.length := by have := (List.getElem?_eq_some_iff.1 e1).1; omega
      rw [List.getElem?_append_left hj] at e2
      exact hrep _ x v e1 e2)
    exact hn _ _ _ _ r1 r2 (fun b' hb' hne => by simp [updD, hne, hb']) r3
end Go.Pv
namespace Go.Pv
open Go Go.RowKit

def argD (P : Program) (H : OH) (x : VV) (t : TypeId) : Option (DV × Bool) :=
  match x with
  | .dv d => some (d, false)
  | .osl _ _ b of n => match P.underlying t with
    | some (.slice e) => match P.info? e with
      | some i => match H[b]? with
        | some (some (.cells cs)) => bif Nat.ble (of + n * i.size) cs.length then some (.lst i.size (chunks i.size n (cs.drop of)), true) else none
        | _ => none
      | none => none
    | _ => none
  | _ => none
def argsD (P : Program) (H : OH) : List VV → List TypeId → Option (List DV × Bool)
  | [], _ => some ([], false)
  | x :: xs, t :: ts => match argD P H x t, argsD P H xs ts with
    | some (d, a), some (l, b) => some (d :: l, a || b)
    | _, _ => none
  | _ :: _, [] => none
def U3 (U : Nat → Prop) (D : Nat → Option Nat) : Nat → Prop := fun k => U k ∨ ∃ b, D b = some k
theorem osl_rep {H : OH} {D : Nat → Option Nat} {U : Nat → Prop} {N : Nat} {w0 w : World} (hW : WRel D U N w0 H w) {e : TypeId} {sz b of n : Nat} {cs : List DV} (hb : H[b]? = some (some (.cells cs))) (hl' : of + n * sz ≤ cs.length) {v : Value} (hv : VRep U w D (.osl e sz b of n) v) : DRep (U3 U D) w (.lst sz (chunks sz n (cs.drop of))) v := by
  obtain ⟨k, c, cur0, hk, hc, _, _, rfl⟩ := hv
  obtain ⟨n2, cur, T, g3, g5, g6⟩ := hW.hold b k cs hk hb
  have hcell : ∀ m x, cs[m]? = some x → ∃ u, w.cell? ⟨k, m, none⟩ = some u ∧ DRep U w x u := by
    intro m x hm
    have hlt : m < cur.size := by have := (List.getElem?_eq_some_iff.1 hm).1; omega
    exact ⟨cur[m], by simp [World.cell?, g3, hlt], g6 m x _ hm (Array.getElem?_eq_getElem hlt)⟩
  have hat : ∀ (p j : Nat) (el : List DV) (x : DV), (chunks sz n (cs.drop of))[p]? = some el → el[j]? = some x → ∃ u, w.cell? ⟨k, of + p * sz + j, none⟩ = some u ∧ DRep U w x u := by
    intro p j el x h1 h2
    have := chunks_get sz n (cs.drop of) p j el x h1 h2
    rw [List.getElem?_drop] at this
    obtain ⟨u, h3, h4⟩ := hcell _ x this
    exact ⟨u, by rw [show of + p * sz + j = of + (p * sz + j) by omega]; exact h3, h4⟩
  have := DRep.lst (U := U3 U D) (w := w) (sz := sz) (b := k) (off := of) (c := c) (es := chunks sz n (cs.drop of)) (g := fun p j => (w.cell? ⟨k, of + p * sz + j, none⟩).getD undef)
    (.inr ⟨b, hk⟩) (lt_of_heap g3) (by rw [chunks_length]; exact hc) (chunks_size sz n (cs.drop of) (by simp; omega))
    (fun p j el x h1 h2 => by obtain ⟨u, h3, _⟩ := hat p j el x h1 h2; rw [h3]; rfl)
    (fun p j el x h1 h2 => by
      obtain ⟨u, h3, h4⟩ := hat p j el x h1 h2
      rw [h3]
      exact DRep.keep (fun _ h => .inl h) (fun _ _ => rfl) (Nat.le_refl _) h4)
  rw [chunks_length] at this
  exact this
theorem argD_ok {P : Program} {H H' : OH} {x : VV} {t : TypeId} {d : DV} {own : Bool} (h : argD P H x t = some (d, own)) {D : Nat → Option Nat} {U : Nat → Prop} {N : Nat} {w0 w : World} (hW : WRel D U N w0 H' w) (hC : Compat H H') {v : Value} (hv : VRep U w D x v) :
    DRep (U3 U D) w d v ∧ (own = false → DRep U w d v) := by
  unfold argD at h
  split at h <;> try (cases h; done)
  · simp only [Option.some.injEq, Prod.mk.injEq] at h
    obtain ⟨rfl, rfl⟩ := h
    exact ⟨DRep.keep (fun _ h => .inl h) (fun _ _ => rfl) (Nat.le_refl _) hv, fun _ => hv⟩
  · rename_i e2 sz2 b of n
    split at h <;> try (cases h; done)
    rename_i e hu
    split at h <;> try (cases h; done)
    rename_i i hi
    split at h <;> try (cases h; done)
    rename_i cs hb
    cases hl : Nat.ble (of + n * i.size) cs.length with
    | false => simp [hl] at h
    | true =>
      simp only [hl, cond_true, Option.some.injEq, Prod.mk.injEq] at h
      obtain ⟨rfl, rfl⟩ := h
      refine ⟨?_, fun h => by cases h⟩
      have hl' := Nat.le_of_ble_eq_true hl
      obtain ⟨k, c, cur0, hk, hc, _, _, rfl⟩ := hv
      obtain ⟨n1, n3, B, g4⟩ := hW.own b k hk
      have e := hC b _ _ hb g4
      subst e
      obtain ⟨n2, cur, T, g3, g5, g6⟩ := hW.hold b k cs hk g4
      have hcell : ∀ m x, cs[m]? = some x → ∃ u, w.cell? ⟨k, m, none⟩ = some u ∧ DRep U w x u := by
        intro m x hm
        have hlt : m < cur.size := by have := (List.getElem?_eq_some_iff.1 hm).1; omega
        exact ⟨cur[m], by simp [World.cell?, g3, hlt], g6 m x _ hm (Array.getElem?_eq_getElem hlt)⟩
      have hat : ∀ (p j : Nat) (el : List DV) (x : DV), (chunks i.size n (cs.drop of))[p]? = some el → el[j]? = some x → ∃ u, w.cell? ⟨k, of + p * i.size + j, none⟩ = some u ∧ DRep U w x u := by
        intro p j el x h1 h2
        have := chunks_get i.size n (cs.drop of) p j el x h1 h2
        rw [List.getElem?_drop] at this
        obtain ⟨u, h3, h4⟩ := hcell _ x this
        exact ⟨u, by rw [show of + p * i.size + j = of + (p * i.size + j) by omega]; exact h3, h4⟩
      have := DRep.lst (U := U3 U D) (w := w) (sz := i.size) (b := k) (off := of) (c := c) (es := chunks i.size n (cs.drop of)) (g := fun p j => (w.cell? ⟨k, of + p * i.size + j, none⟩).getD undef)
        (.inr ⟨b, hk⟩) (lt_of_heap g3) (by rw [chunks_length]; exact hc) (chunks_size i.size n (cs.drop of) (by simp; omega))
        (fun p j el x h1 h2 => by obtain ⟨u, h3, _⟩ := hat p j el x h1 h2; rw [h3]; rfl)
        (fun p j el x h1 h2 => by
          obtain ⟨u, h3, h4⟩ := hat p j el x h1 h2
          rw [h3]
          exact DRep.keep (fun _ h => .inl h) (fun _ _ => rfl) (Nat.le_refl _) h4)
      rw [chunks_length] at this
      exact this
theorem argsD_ok {P : Program} {H H' : OH} {D : Nat → Option Nat} {U : Nat → Prop} {N : Nat} {w0 w : World} (hW : WRel D U N w0 H' w) (hC : Compat H H') : ∀ (xs : List VV) (ts : List TypeId) (ds : List DV) (own : Bool) (vs : List Value), argsD P H xs ts = some (ds, own) → vs.length = xs.length →
    (∀ (i : Nat) (x : VV) (v : Value), xs[i]? = some x → vs[i]? = some v → VRep U w D x v) →
    ds.length = xs.length ∧ (∀ (i : Nat) (d : DV) (v : Value), ds[i]? = some d → vs[i]? = some v → DRep (U3 U D) w d v) ∧ (own = false → ∀ (i : Nat) (d : DV) (v : Value), ds[i]? = some d → vs[i]? = some v → DRep U w d v)
  | [], _, ds, own, vs, h, hl, _ => by
    simp only [argsD, Option.some.injEq, Prod.mk.injEq] at h
    obtain ⟨rfl, rfl⟩ := h
    exact ⟨rfl, by simp, by simp⟩
  | x :: xs, [], ds, own, vs, h, _, _ => by simp [argsD] at h
  | x :: xs, t :: ts, ds, own, vs, h, hl, hr => by
    simp only [argsD] at h
    split at h <;> try (cases h; done)
    rename_i d a l b h1 h2
    simp only [Option.some.injEq, Prod.mk.injEq] at h
    obtain ⟨rfl, rfl⟩ := h
    match vs, hl with
    | v :: vs, hl =>
      have g := argD_ok h1 hW hC (hr 0 x v rfl rfl)
      obtain ⟨r1, r2, r3⟩ := argsD_ok hW hC xs ts l b vs h2 (by simpa using hl) (fun i x v e1 e2 => hr (i + 1) x v (by simpa using e1) (by simpa using e2))
      refine ⟨by simp [r1], ?_, ?_⟩
      · intro i y u e1 e2
        cases i with
        | zero => simp at e1 e2; subst e1; subst e2; exact g.1
        | succ i => exact r2 i y u (by simpa using e1) (by simpa using e2)
      · intro ho i y u e1 e2
        simp only [Bool.or_eq_false_iff] at ho
        cases i with
        | zero => simp at e1 e2; subst e1; subst e2; exact g.2 ho.1
        | succ i => exact r3 ho.2 i y u (by simpa using e1) (by simpa using e2)

def flatOnly (k : KK) : DV → Option DV
  | .val v => k (.dv (.val v)) .none
  | _ => none
def callQ (P : Program) (K : Tab) (ρ : Operand → VV) (H : OH) (id : Nat) (o : Oper) (c : Call) (k : KK) : Option DV :=
  match calleeOf ρ c with
  | some (g, first, captured) => match argsD P H (c.args.toList.map ρ) c.argTypes.toList with
    | some (ds, own) => K g (first.toList.map DV.val ++ ds ++ captured.toList.map DV.val) fun d => bif own then flatOnly k d else k (.dv d) .none
    | none => none
  | none => match c.callee with
    | .builtin .len => lenQ P ρ o c k
    | .builtin .append => appendQ P ρ H id c k
    | _ => flatK P ρ o k
theorem callQ_good {P : Program} {I : World → Prop} {K : Tab} (HK : ∀ g, Meets P I g (K g)) {ρ : Operand → VV} {o : Oper} {c : Call} {H : OH} {id : Nat} (ho : o.op = .call c) : Good P I o ρ H id (callQ P K ρ H id o c) := by
  intro k r h
  unfold callQ at h
  split at h
  · rename_i g first captured hc
    split at h <;> try (cases h; done)
    rename_i ds own hd
    obtain ⟨hg, d, hk, hnat, hm⟩ := HK g _ _ _ h
    -- the value that is gone on with
    have hx : ∃ x, k x .none = some r ∧ (∀ k' : KK, (bif own then flatOnly k' d else k' (.dv d) .none) = k' x .none) ∧ x = .dv d ∧ (own = true → ∃ v, d = .val v) := by
      cases own with
      | false => exact ⟨_, hk, fun _ => rfl, rfl, fun h => by cases h⟩
      | true =>
        simp only [cond_true] at hk
        cases d with
        | val v => exact ⟨_, hk, fun _ => rfl, rfl, fun _ => ⟨v, rfl⟩⟩
        | agg cs => cases hk
        | tup cs => cases hk
        | lst sz es => cases hk
        | err => cases hk
    obtain ⟨x, hx1, hx2, rfl, hx4⟩ := hx
    refine ⟨_, _, hx1, fun k' => by simp only [callQ, hc, hd]; rw [hnat]; exact hx2 k', ?_⟩
    intro D U N w0 H' w a next Q hI hC hW hN _ _ hops hn
    unfold calleeOf at hc
    cases hcal : c.callee with
    | invoke r m => simp [hcal] at hc
    | builtin b => simp [hcal] at hc
    | value f =>
      simp only [hcal] at hc
      have hfop : f ∈ o.op.operands := by simp [ho, Op.operands, Call.operands, hcal]
      have hrf := hops f hfop
      cases hfl : (ρ f).flat with
      | none => simp [hfl] at hc
      | some fv =>
        have hev := VV.flat_rep hfl hrf
        simp only [hfl] at hc
        cases fv <;> try (simp at hc; done)
        rename_i fn fi ca
        cases fn <;> simp at hc
        rename_i g'
        obtain ⟨rfl, rfl, rfl⟩ := hc
        have hrun : (execOp a.eval o).run P w = .ok (.enter g' (fi ++ c.args.map a.eval ++ ca)) w := by
          simp [execOp, ho, resolve, hcal, hev, Deferred.ofValue, invoke, run_callFunc hg, Array.append_assoc]
        obtain ⟨r1, r2, r3⟩ := argsD_ok (P := P) hW hC (c.args.toList.map ρ) c.argTypes.toList ds own (c.args.toList.map a.eval) hd (by simp) (by
          intro i x v e1 e2
          simp only [List.getElem?_map, Option.map_eq_some_iff] at e1 e2
          obtain ⟨y, hy, rfl⟩ := e1
          obtain ⟨y', hy', rfl⟩ := e2
          rw [hy] at hy'; cases hy'
          refine hops y ?_
          simp only [ho, Op.operands, Call.operands, hcal]
          exact Array.mem_append.2 (.inr (by have := List.mem_of_getElem? hy; simpa using this)))
        have hlen : ds.length = c.args.size := by rw [r1]; simp
        -- the arguments, whatever they are read in
        have rep : ∀ (V : Nat → Prop), (∀ (i : Nat) (d : DV) (v : Value), ds[i]? = some d → (c.args.toList.map a.eval)[i]? = some v → DRep V w d v) →
            (∀ (i : Nat) (x : DV) (v : Value), (fi.toList.map DV.val ++ ds ++ ca.toList.map DV.val)[i]? = some x → (fi ++ c.args.map a.eval ++ ca)[i]? = some v → DRep V w x v) := by
          intro V hV i x v h1 h2
          rw [← Array.getElem?_toList] at h2
          simp only [Array.toList_append, Array.toList_map] at h2
          rw [List.append_assoc, List.getElem?_append] at h1 h2
          simp only [List.length_map, Array.length_toList] at h1 h2
          split at h1
          · simp only [*, if_true] at h2
            simp at h1 h2
            obtain ⟨u, hu, rfl⟩ := h1
            rw [hu] at h2; cases h2; exact .val _
          · rename_i hni
            simp only [hni, if_false] at h2
            rw [List.getElem?_append] at h1 h2
            simp only [List.length_map, Array.length_toList] at h1 h2
            rw [← hlen] at h2
            split at h1
            · rename_i hlt
              simp only [hlt, if_true] at h2
              exact hV _ x v h1 h2
            · rename_i hlt
              simp only [hlt, if_false] at h2
              simp at h1 h2
              obtain ⟨u, hu, rfl⟩ := h1
              rw [hu] at h2; cases h2; exact .val _
        have hsz : (fi ++ c.args.map a.eval ++ ca).size = (fi.toList.map DV.val ++ ds ++ ca.toList.map DV.val).length := by simp [hlen]
        unfold Oper.wp
        rw [hrun]
        cases hown : own with
        | false =>
          refine Calls.mono (hm U w _ hI hW.old hsz (rep U (r3 hown))) ?_
          rintro e w' ⟨v, rfl, hb, hr⟩
          exact hn v w' D (U2 U w w') (onward_below hW.old hb) (hW.below' hN hb) (fun _ h _ => h) hr
        | true =>
          obtain ⟨u, rfl⟩ := hx4 hown
          refine Calls.mono (hm (U3 U D) w _ hI ?_ hsz (rep (U3 U D) r2)) ?_
          · intro k hk
            rcases hk with hk | ⟨b, hb⟩
            · exact hW.old k hk
            · exact (hW.own b k hb).2.1
          · rintro e w' ⟨v, rfl, hb, hr⟩
            have := val_eq hr
            subst this
            exact hn _ w' D (U2 U w w') (onward_below hW.old hb) (hW.below' hN hb) (fun _ h _ => h) (.val _)
  · rename_i hc
    cases hcal : c.callee with
    | builtin b =>
      simp only [hcal] at h
      cases b <;> first
        | (simp only [] at h
           obtain ⟨x', y', h1, h2, h3⟩ := lenQ_good (I := I) (H := H) (id := id) ho hcal k r h
           exact ⟨x', y', h1, fun k' => by simp only [callQ, hc, hcal]; exact h2 k', h3⟩)
        | (simp only [] at h
           obtain ⟨x', y', h1, h2, h3⟩ := appendQ_good (P := P) (I := I) (ρ := ρ) (H := H) (id := id) ho hcal k r h
           exact ⟨x', y', h1, fun k' => by simp only [callQ, hc, hcal]; exact h2 k', h3⟩)
        | (simp only [] at h
           obtain ⟨x', y', h1, h2, h3⟩ := flatK_good (I := I) (H := H) (id := id) k r h
           exact ⟨x', y', h1, fun k' => by simp only [callQ, hc, hcal]; exact h2 k', h3⟩)
    | value f =>
      simp only [hcal] at h
      obtain ⟨x', y', h1, h2, h3⟩ := flatK_good (I := I) (H := H) (id := id) k r h
      exact ⟨x', y', h1, fun k' => by simp only [callQ, hc, hcal]; exact h2 k', h3⟩
    | invoke r m =>
      simp only [hcal] at h
      obtain ⟨x', y', h1, h2, h3⟩ := flatK_good (I := I) (H := H) (id := id) k _ h
      exact ⟨x', y', h1, fun k' => by simp only [callQ, hc, hcal]; exact h2 k', h3⟩

def storeQ (P : Program) (ρ : Operand → VV) (H : OH) (t : TypeId) (x y : Operand) (k : KK) : Option DV :=
  match ρ x, ρ y with
  | .ptr b of, .dv d => match H[b]? with
    | some (some (.cells cs)) => match storeK P t cs of d.cells with | some cs' => k (.dv (.val undef)) (.upd b cs') | none => none
    | _ => none
  | _, _ => none
def allocQ (P : Program) (id : Nat) (t : TypeId) (k : KK) : Option DV := match prun P (zeroValue t) with | some z => k (.ptr id 0) (.new (DV.cells (.val z))) | none => none
def boxQ (ρ : Operand → VV) (id : Nat) (x : Operand) (k : KK) : Option DV := match ρ x with | .dv d => k (.ptr id 0) (.new d.cells) | _ => none
def opk (P : Program) (K : Tab) (ρ : Operand → VV) (H : OH) (id : Nat) (o : Oper) (k : KK) : Option DV :=
  match o.op with
  | .move x => k (ρ x) .none
  | .assign x => k (ρ x) .none
  | .alloc t => allocQ P id t k
  | .box _ x => boxQ ρ id x k
  | .load t x => loadQ P ρ H t x k
  | .store t x y => storeQ P ρ H t x y k
  | .fieldAddr T x f => fieldQ P ρ T x f k
  | .nilCheck x => nilQ P ρ o x k
  | .binOp b T x y _ => binE P ρ o b T x y k
  | .extract x i => extractQ P ρ o x i k
  | .index T x i => indexK P ρ o T x i k
  | .pick c a b => pickK ρ c a b k
  | .call c => callQ P K ρ H id o c k
  | .buildSlice t n ps => buildSK P ρ id t n ps k
  | .makeSlice t l c => makeK P ρ id t l c k
  | .indexAddr t x i => indexAK P ρ t x i k
  | .slice t x lo hi mx => bif allFlat ρ o && (match prun P (execOp (ρF ρ) o) with | some _ => true | none => false) then flatK P ρ o k else sliceQ P ρ o t x lo hi mx k
  | _ => flatK P ρ o k
theorem opk_good {P : Program} {I : World → Prop} {K : Tab} (HK : ∀ g, Meets P I g (K g)) (ρ : Operand → VV) (H : OH) (id : Nat) (o : Oper) : Good P I o ρ H id (opk P K ρ H id o) := by
  have lift : ∀ (f : KK → Option DV), (∀ k, opk P K ρ H id o k = f k) → Good P I o ρ H id f → Good P I o ρ H id (opk P K ρ H id o) := by
    intro f he hf k r h
    rw [he] at h
    obtain ⟨x, y, h1, h2, h3⟩ := hf k r h
    exact ⟨x, y, h1, fun k' => by rw [he]; exact h2 k', h3⟩
  cases ho : o.op with
  | move x => exact lift (fun k => k (ρ x) .none) (fun k => by simp only [opk, ho]) (fun k r h => ⟨_, _, h, fun _ => rfl, opOk_same fun D U w a hops => ⟨a.eval x, by simp [execOp, ho], hops x (by simp [ho, Op.operands])⟩⟩)
  | assign x => exact lift (fun k => k (ρ x) .none) (fun k => by simp only [opk, ho]) (fun k r h => ⟨_, _, h, fun _ => rfl, opOk_same fun D U w a hops => ⟨a.eval x, by simp [execOp, ho], hops x (by simp [ho, Op.operands])⟩⟩)
  | alloc t =>
    refine lift (allocQ P id t) (fun k => by simp only [opk, ho]) (fun k r h => ?_)
    unfold allocQ at h
    split at h <;> try (cases h; done)
    rename_i z hz
    refine ⟨_, _, h, fun k' => by simp only [allocQ, hz], opOk_new fun D U w a hops => ⟨z.cells, t, ?_, (DV.cells_rep (U := U) (w := w) (.val z)).1, (DV.cells_rep (.val z)).2⟩⟩
    simp [execOp, ho, Instr.alloc, prun_run _ hz w, newVar, newRow, newObj, Sem.run]
  | box t x =>
    refine lift (boxQ ρ id x) (fun k => by simp only [opk, ho]) (fun k r h => ?_)
    unfold boxQ at h
    split at h <;> try (cases h; done)
    rename_i d hx
    refine ⟨_, _, h, fun k' => by simp only [boxQ, hx], opOk_new fun D U w a hops => ⟨(a.eval x).cells, t, ?_, ?_⟩⟩
    · simp [execOp, ho, Instr.box, newVar, newRow, newObj, Sem.run]
    · have := hops x (by simp [ho, Op.operands])
      rw [hx] at this
      exact DV.cells_rep this
  | load t x => exact lift _ (fun k => by simp only [opk, ho]) (loadQ_good ho)
  | store t x y =>
    refine lift (storeQ P ρ H t x y) (fun k => by simp only [opk, ho]) (fun k r h => ?_)
    unfold storeQ at h
    split at h <;> try (cases h; done)
    rename_i b of d hx hy
    split at h <;> try (cases h; done)
    rename_i cs hb
    split at h <;> try (cases h; done)
    rename_i cs' hs
    exact ⟨_, _, h, fun k' => by simp only [storeQ, hx, hy, hb, hs], opOk_store ho hx hy hb hs⟩
  | fieldAddr T x f => exact lift _ (fun k => by simp only [opk, ho]) (fieldQ_good ho)
  | nilCheck x => exact lift _ (fun k => by simp only [opk, ho]) (nilQ_good ho)
  | binOp b T x y ty => exact lift _ (fun k => by simp only [opk, ho]) (binE_good ho)
  | extract x i => exact lift _ (fun k => by simp only [opk, ho]) (extractQ_good ho)
  | index T x i => exact lift _ (fun k => by simp only [opk, ho]) (indexK_good ho)
  | pick c a b => exact lift _ (fun k => by simp only [opk, ho]) (pickK_good ho)
  | call c => exact lift _ (fun k => by simp only [opk, ho]) (callQ_good HK ho)
  | buildSlice t n ps => exact lift (buildSK P ρ id t n ps) (fun k => by simp only [opk, ho]) (fun k r h => buildSK_ok ho h)
  | makeSlice t l c => exact lift _ (fun k => by simp only [opk, ho]) (makeK_ok ho)
  | indexAddr t x i => exact lift _ (fun k => by simp only [opk, ho]) (indexAK_ok ho)
  | slice t x lo hi mx =>
    cases hb : (allFlat ρ o && (match prun P (execOp (ρF ρ) o) with | some _ => true | none => false)) with
    | true => exact lift (flatK P ρ o) (fun k => by simp only [opk, ho]; rw [hb]; rfl) flatK_good
    | false => exact lift (sliceQ P ρ o t x lo hi mx) (fun k => by simp only [opk, ho]; rw [hb]; rfl) (sliceQ_good ho)
  | _ => exact lift (flatK P ρ o) (fun k => by simp only [opk, ho]) flatK_good
theorem opk_ok {P : Program} {I : World → Prop} {K : Tab} (HK : ∀ g, Meets P I g (K g)) {ρ : Operand → VV} {H : OH} {id : Nat} {o : Oper} {k : KK} {r : DV} (h : opk P K ρ H id o k = some r) : OpGood P I o ρ H id k r := by
  obtain ⟨x, y, h1, _, h3⟩ := opk_good (I := I) HK ρ H id o k r h
  exact ⟨x, y, h1, h3⟩
theorem opk_nat {P : Program} {I : World → Prop} {K : Tab} (HK : ∀ g, Meets P I g (K g)) (ρ : Operand → VV) (H : OH) (id : Nat) (o : Oper) (k : KK) (r : DV) (h : opk P K ρ H id o k = some r) : ∃ x y, k x y = some r ∧ ∀ k', opk P K ρ H id o k' = k' x y := by
  obtain ⟨x, y, h1, h2, _⟩ := opk_good (I := I) HK ρ H id o k r h
  exact ⟨x, y, h1, h2⟩
end Go.Pv
namespace Go.Pv
open Go Go.RowKit

noncomputable def guardK (ops : Array Oper) (ts : Tr) (n : Nat) (o : Oper) (yes no : Tr → Option DV) : Option DV :=
  match o.guard with
  | none => yes ts
  | some (j, want) => match (ops[j]?).bind (·.dst) with
    | none => none
    | some d => bif Nat.blt d n then (match (ts.get d).flat with
        | some (.bool b) => bif (bif want then b else !b) then putC 12 ts d (.dv (.val (.bool want))) yes else putC 12 ts d (.dv (.val (.bool (!want)))) no
        | some (.tuple _) => no ts
        | _ => none)
      else none
theorem flat_bool {x : VV} {b : Bool} (h : x.flat = some (.bool b)) : x = .dv (.val (.bool b)) := by
  cases x with
  | dv d =>
    cases d with
    | val v => simp only [VV.flat, DV.flat, Option.some.injEq] at h; rw [h]
    | agg cs => simp only [VV.flat, DV.flat] at h; split at h <;> simp at h
    | tup cs => simp only [VV.flat, DV.flat] at h; split at h <;> simp at h
    | lst _ _ => simp [VV.flat, DV.flat] at h
    | err => simp [VV.flat, DV.flat] at h
  | ptr _ _ => simp [VV.flat] at h
  | osl _ _ _ _ _ => simp [VV.flat] at h
  | eptr _ => simp [VV.flat] at h
  | dead => simp [VV.flat] at h
theorem put_same {ts : Tr} {d : Nat} {x : VV} (h : ts.get d = x) : Le ts (ts.put d x) := by
  intro t
  rcases Tr.get_put ts d x t with e | e
  · left; rw [e]; split
    · rename_i e; rw [e, h]
    · rfl
  · exact .inr e
def GuardIs (ops : Array Oper) (ts : Tr) (n : Nat) (o : Oper) (b : Bool) : Prop :=
  match o.guard with
  | none => b = true
  | some (j, want) => ∃ d v, (ops[j]?).bind (·.dst) = some d ∧ d < n ∧ (ts.get d).flat = some v ∧ ((∃ c, v = .bool c ∧ b = (c == want)) ∨ ((∃ vs, v = .tuple vs) ∧ b = false))
theorem guardK_inv {ops : Array Oper} {ts : Tr} {n : Nat} {o : Oper} {yes no : Tr → Option DV} {r : DV} (h : guardK ops ts n o yes no = some r) : ∃ b ts', GuardIs ops ts n o b ∧ Le ts ts' ∧ (if b = true then yes ts' else no ts') = some r ∧ ∀ yes' no', guardK ops ts n o yes' no' = if b = true then yes' ts' else no' ts' := by
  unfold guardK at h ⊢
  unfold GuardIs
  split at h
  · exact ⟨true, ts, rfl, Le.refl ts, by simpa using h, fun _ _ => by simp⟩
  · rename_i j want hg
    split at h <;> try (cases h; done)
    rename_i d hd
    cases hb : Nat.blt d n with
    | false => simp [hb] at h
    | true =>
      simp only [hb, cond_true] at h ⊢
      have hlt : d < n := Nat.le_of_ble_eq_true hb
      split at h <;> try (cases h; done)
      · rename_i b hb'
        have hxe := flat_bool hb'
        cases b <;> cases want <;> simp only [cond_true, cond_false, Bool.not_true, Bool.not_false] at h ⊢ <;> rw [putC_eq] at h
        · exact ⟨true, ts.put d (.dv (.val (.bool false))), ⟨d, _, hd, hlt, hb', .inl ⟨false, rfl, rfl⟩⟩, put_same hxe, (by first | (rw [if_pos rfl]; exact h) | (rw [if_neg (by simp)]; exact h)), fun yes' no' => by rw [putC_eq]; rfl⟩
        · exact ⟨false, ts.put d (.dv (.val (.bool false))), ⟨d, _, hd, hlt, hb', .inl ⟨false, rfl, rfl⟩⟩, put_same hxe, (by first | (rw [if_pos rfl]; exact h) | (rw [if_neg (by simp)]; exact h)), fun yes' no' => by rw [putC_eq]; rfl⟩
        · exact ⟨false, ts.put d (.dv (.val (.bool true))), ⟨d, _, hd, hlt, hb', .inl ⟨true, rfl, rfl⟩⟩, put_same hxe, (by first | (rw [if_pos rfl]; exact h) | (rw [if_neg (by simp)]; exact h)), fun yes' no' => by rw [putC_eq]; rfl⟩
        · exact ⟨true, ts.put d (.dv (.val (.bool true))), ⟨d, _, hd, hlt, hb', .inl ⟨true, rfl, rfl⟩⟩, put_same hxe, (by first | (rw [if_pos rfl]; exact h) | (rw [if_neg (by simp)]; exact h)), fun yes' no' => by rw [putC_eq]; rfl⟩
      · rename_i vs hb'
        exact ⟨false, ts, ⟨d, _, hd, hlt, hb', .inr ⟨⟨vs, rfl⟩, rfl⟩⟩, Le.refl ts, by simpa using h, fun yes' no' => by simp⟩
theorem GuardIs.real {ops : Array Oper} {ts : Tr} {n : Nat} {o : Oper} {b : Bool} (h : GuardIs ops ts n o b) {U : Nat → Prop} {w : World} {D : Nat → Option Nat} {a : Act} (hl : a.tmps.size = n)
    (ht : ∀ d ∈ o.looksAt ops, ∀ v, a.tmps[d]? = some v → VRep U w D (ts.get d) v) : Region.wanted o (yielded ops a.tmps) = b := by
  unfold GuardIs at h
  unfold Region.wanted
  cases hg : o.guard with
  | none => rw [hg] at h; simp at h; rw [h]
  | some p =>
    obtain ⟨j, want⟩ := p
    rw [hg] at h
    obtain ⟨d, v, hd, hlt', hf, hv⟩ := h
    have hlt : d < a.tmps.size := by rw [hl]; exact hlt'
    have hm : d ∈ o.looksAt ops := by unfold Oper.looksAt; rw [hg]; simp only [hd]; simp
    have hr := VV.flat_rep hf (ht d hm _ (Array.getElem?_eq_getElem hlt))
    rcases hv with ⟨c, rfl, rfl⟩ | ⟨⟨vs, rfl⟩, rfl⟩
    · have hy : yielded ops a.tmps j = some c := by simp [yielded, hd, Array.getElem?_eq_getElem hlt, hr]
      simp only [hy]
      cases c <;> cases want <;> rfl
    · have hy : yielded ops a.tmps j = none := by simp [yielded, hd, Array.getElem?_eq_getElem hlt, hr]
      simp only [hy]
      rfl
theorem guardK_ok {ops : Array Oper} {ts : Tr} {n : Nat} {o : Oper} {yes no : Tr → Option DV} {r : DV} (h : guardK ops ts n o yes no = some r) {U : Nat → Prop} {w : World} {D : Nat → Option Nat} {a : Act} (ht : TRel U w D ts n a) :
    ∃ ts', Le ts ts' ∧ ((Region.wanted o (yielded ops a.tmps) = true ∧ yes ts' = some r) ∨ (Region.wanted o (yielded ops a.tmps) = false ∧ no ts' = some r)) := by
  obtain ⟨b, ts', hg, hle, hb, _⟩ := guardK_inv h
  have := hg.real (a := a) ht.2.1 (fun d _ v h2 => ht.2.2 d v h2)
  cases b with
  | true => exact ⟨ts', hle, .inl ⟨this, by simpa using hb⟩⟩
  | false => exact ⟨ts', hle, .inr ⟨this, by simpa using hb⟩⟩

noncomputable def frc {α : Type} (l : List α) : (List α → Option DV) → Option DV :=
  List.rec (motive := fun _ => (List α → Option DV) → Option DV) (fun k => k []) (fun x _ ih k => ih fun ys => k (x :: ys)) l
theorem frc_eq {α : Type} : ∀ (l : List α) (k : List α → Option DV), frc l k = k l
  | [], _ => rfl
  | x :: xs, k => frc_eq xs (fun ys => k (x :: ys))
noncomputable def appK (id : Nat) (H : List (Option Blk)) (eff : Eff) (k : List (Option Blk) → Option DV) : Option DV :=
  match eff with
  | .none => k H
  | .new cs => frc ((Eff.new cs).app id H) k
  | .upd b cs => frc ((Eff.upd b cs).app id H) k
  | .move b cs => frc ((Eff.move b cs).app id H) k
theorem appK_eq (id : Nat) (H : List (Option Blk)) (eff : Eff) (k : List (Option Blk) → Option DV) : appK id H eff k = k (eff.app id H) := by
  cases eff <;> simp only [appK, frc_eq] <;> rfl
noncomputable def pevOps (P : Program) (K : Tab) (ops : Array Oper) : List Nat → St → (St → Option DV) → Option DV
  | [], s, k => k s
  | i :: rest, ⟨ts, n, h⟩, k => match ops[i]? with
    | none => none
    | some o => guardK ops ts n o
      (fun ts => opk P K (evalV ts n) h h.length o fun x eff => putK ts o.dst x fun ts' => appK h.length h eff fun h' => pevOps P K ops rest ⟨ts', n, h'⟩ k)
      (fun ts => putK ts o.dst (.dv (.val undef)) fun ts' => pevOps P K ops rest ⟨ts', n, h⟩ k)
theorem pevOps_cons (P : Program) (K : Tab) (ops : Array Oper) (i : Nat) (rest : List Nat) (s : St) (k : St → Option DV) : pevOps P K ops (i :: rest) s k = match ops[i]? with
    | none => none
    | some o => guardK ops s.tmps s.n o
      (fun ts => opk P K (evalV ts s.n) s.heap s.heap.length o fun x eff => pevOps P K ops rest ⟨putV ts o.dst x, s.n, eff.app s.heap.length s.heap⟩ k)
      (fun ts => pevOps P K ops rest ⟨putV ts o.dst (.dv (.val undef)), s.n, s.heap⟩ k) := by
  cases s
  simp only [pevOps, putK_eq, appK_eq]

def Stab (I : World → Prop) : Prop := ∀ w w', I w → Below w.heap.size w w' → I w'
structure Rel (I : World → Prop) (D : Nat → Option Nat) (U : Nat → Prop) (N : Nat) (w0 : World) (s : St) (a : Act) (w : World) : Prop where
  t : TRel U w D s.tmps s.n a
  wr : WRel D U N w0 s.heap w
  n : N ≤ w.heap.size
  i0 : I w0
  base : N = w0.heap.size
theorem WRel.fresh {D : Nat → Option Nat} {U : Nat → Prop} {N : Nat} {w0 w : World} {H : List (Option Blk)} (h : WRel D U N w0 H w) {b : Nat} (hb : H.length ≤ b) : D b = none := by
  cases hd : D b with
  | none => rfl
  | some k =>
    obtain ⟨_, _, vs, g⟩ := h.own b k hd
    rw [List.getElem?_eq_none hb] at g; cases g

theorem Rel.inv {I : World → Prop} {D : Nat → Option Nat} {U : Nat → Prop} {N : Nat} {w0 : World} {s : St} {a : Act} {w : World} (hst : Stab I) (h : Rel I D U N w0 s a w) : I w := hst w0 w h.i0 (h.base ▸ h.wr.below)
theorem pevOps_ok {P : Program} {I : World → Prop} (hst : Stab I) {K : Tab} (HK : ∀ g, Meets P I g (K g)) {ops : Array Oper} : ∀ (l : List Nat) (s : St) (k : St → Option DV) (r : DV), pevOps P K ops l s k = some r →
    ∀ (D : Nat → Option Nat) (U : Nat → Prop) (N : Nat) (w0 : World) (a : Act) (w : World) (Q : Exit → Act → World → Prop), Rel I D U N w0 s a w →
    (∀ s' D' U' a' w', k s' = some r → Rel I D' U' N w0 s' a' w' → Onward D U w D' U' w' → Q .normal a' w') → wpOps P ops Q l a w
  | [], s, k, r, h, D, U, N, w0, a, w, Q, hR, hQ => hQ s D U a w h hR Onward.refl
  | i :: rest, s, k, r, h, D, U, N, w0, a, w, Q, hR, hQ => by
    simp only [pevOps_cons] at h
    simp only [wpOps]
    cases ho : ops[i]? with
    | none => simp [ho] at h
    | some o =>
      simp only [ho] at h
      obtain ⟨ts1, hle, hcase⟩ := guardK_ok h hR.t
      have ht1 := hR.t.le hle
      rcases hcase with ⟨hw, h⟩ | ⟨hw, h⟩
      · simp only [hw, if_true]
        left
        obtain ⟨x, eff, hk, hok⟩ := opk_ok HK h
        refine hok D U N w0 s.heap w a _ Q (hR.inv hst) (Compat.refl _) hR.wr hR.n (hR.wr.fresh (Nat.le_refl _)) (Nat.le_refl _) (fun y _ => ht1.eval y) ?_
        intro v w' D' U' hon hW' _ hx
        refine pevOps_ok hst HK rest _ k r hk D' U' N w0 _ w' Q ⟨(ht1.onward hon).put o.dst hx, hW', Nat.le_trans hR.n hon.size, hR.i0, hR.base⟩ ?_
        intro s' D'' U'' a' w'' hk' hR' hon'
        exact hQ s' D'' U'' a' w'' hk' hR' (hon.trans hon')
      · simp only [hw, Bool.false_eq_true, if_false]
        exact pevOps_ok hst HK rest _ k r h D U N w0 _ w Q ⟨ht1.put o.dst (.val _), hR.wr, hR.n, hR.i0, hR.base⟩ hQ
end Go.Pv
namespace Go.Pv
open Go Go.RowKit

inductive PX where
  | normal
  | exit (id : Nat)
  | ret
def PX.out : PX → Exit
  | .normal => .normal
  | .exit id => .exit id
  | .ret => .ret
abbrev KC := PX → St → Option DV

def cutV (h0 : Nat) : VV → VV
  | .ptr b o => bif Nat.blt b h0 then .ptr b o else .dead
  | .osl e sz b o n => bif Nat.blt b h0 then .osl e sz b o n else .dead
  | x => x
noncomputable def keepT (ts : Tr) (h0 : Nat) : List Nat → Tr → (Tr → Option DV) → Option DV
  | [], acc, k => k acc
  | i :: is, acc, k => putC 12 acc i (cutV h0 (ts.get i)) fun acc' => keepT ts h0 is acc' k
noncomputable def keepV (ts : Tr) (h0 : Nat) : List Nat → Tr → Tr
  | [], acc => acc
  | i :: is, acc => keepV ts h0 is (acc.put i (cutV h0 (ts.get i)))
theorem keepT_eq (ts : Tr) (h0 : Nat) : ∀ (is : List Nat) (acc : Tr) (k : Tr → Option DV), keepT ts h0 is acc k = k (keepV ts h0 is acc)
  | [], _, _ => rfl
  | i :: is, acc, k => by
    simp only [keepT, keepV]
    rw [putC_eq]
    exact keepT_eq ts h0 is _ k
theorem keepV_get (ts : Tr) (h0 : Nat) : ∀ (is : List Nat) (acc : Tr), (∀ t, acc.get t = .dead ∨ acc.get t = cutV h0 (ts.get t)) → ∀ t, (keepV ts h0 is acc).get t = .dead ∨ (keepV ts h0 is acc).get t = cutV h0 (ts.get t)
  | [], acc, h, t => h t
  | i :: is, acc, h, t => by
    refine keepV_get ts h0 is _ (fun t => ?_) t
    rcases Tr.get_put acc i (cutV h0 (ts.get i)) t with e | e
    · rw [e]; split
      · rename_i e; rw [e]; exact .inr rfl
      · exact h t
    · exact .inl e
noncomputable def trimS (live : List Nat) (h0 : Nat) (s : St) : St := ⟨keepV s.tmps h0 live (.leaf .dead), s.n, s.heap.take h0⟩
noncomputable def trimK (live : List Nat) (h0 : Nat) (s : St) (k : St → Option DV) : Option DV := match s with
  | ⟨ts, n, h⟩ => keepT ts h0 live (.leaf .dead) fun ts => frc (h.take h0) fun h => k ⟨ts, n, h⟩
theorem trimK_eq (live : List Nat) (h0 : Nat) (s : St) (k : St → Option DV) : trimK live h0 s k = k (trimS live h0 s) := by
  cases s
  unfold trimK trimS
  simp only [keepT_eq, frc_eq]
def cutD (D : Nat → Option Nat) (h0 : Nat) : Nat → Option Nat := fun b => if b < h0 then D b else none
theorem cutV_rep {U : Nat → Prop} {w : World} {D : Nat → Option Nat} (h0 : Nat) {x : VV} {v : Value} (h : VRep U w D x v) : VRep U w (cutD D h0) (cutV h0 x) v := by
  cases x with
  | dv d => exact h
  | dead => trivial
  | ptr b o =>
    simp only [cutV]
    cases hb : Nat.blt b h0 with
    | false => trivial
    | true =>
      obtain ⟨k, hk, e⟩ := h
      have : b < h0 := Nat.le_of_ble_eq_true hb
      exact ⟨k, by simp [cutD, this, hk], e⟩
  | osl e sz b o n =>
    simp only [cutV]
    cases hb : Nat.blt b h0 with
    | false => trivial
    | true =>
      obtain ⟨k, c, cur, hk, hc, hh, hs, e⟩ := h
      have : b < h0 := Nat.le_of_ble_eq_true hb
      exact ⟨k, c, cur, by simp [cutD, this, hk], hc, hh, hs, e⟩
  | eptr cs => exact h
theorem Rel.trim {I : World → Prop} {D : Nat → Option Nat} {U : Nat → Prop} {N : Nat} {w0 : World} {s : St} {a : Act} {w : World} (h : Rel I D U N w0 s a w) (live : List Nat) (h0 : Nat) : Rel I (cutD D h0) U N w0 (trimS live h0 s) a w := by
  refine ⟨⟨h.t.1, h.t.2.1, fun t v h2 => ?_⟩, ⟨h.wr.below, h.wr.old, ?_, ?_, ?_, ?_⟩, h.n, h.i0, h.base⟩
  · rcases keepV_get s.tmps h0 live (.leaf .dead) (fun t => .inl rfl) t with e | e
    · simp only [trimS]; rw [e]; trivial
    · simp only [trimS]; rw [e]; exact cutV_rep h0 (h.t.2.2 t v h2)
  · intro b k hb
    unfold cutD at hb
    split at hb <;> try (cases hb; done)
    rename_i hlt
    obtain ⟨g1, g2, B, g3⟩ := h.wr.own b k hb
    exact ⟨g1, g2, B, by simp only [trimS]; rw [List.getElem?_take, if_pos hlt]; exact g3⟩
  · intro b k vs hb hH
    unfold cutD at hb
    split at hb <;> try (cases hb; done)
    rename_i hlt
    simp only [trimS] at hH
    rw [List.getElem?_take, if_pos hlt] at hH
    exact h.wr.hold b k vs hb hH
  · intro b vs hb
    simp only [trimS] at hb
    rw [List.getElem?_take] at hb
    split at hb <;> try (cases hb; done)
    rename_i hlt
    obtain ⟨k, hk⟩ := h.wr.all b vs hb
    exact ⟨k, by simp [cutD, hlt, hk]⟩
  · intro b b' k vs vs' hH hH' hb hb'
    unfold cutD at hb hb'
    split at hb <;> try (cases hb; done)
    rename_i hlt
    split at hb' <;> try (cases hb'; done)
    rename_i hlt'
    simp only [trimS] at hH hH'
    rw [List.getElem?_take, if_pos hlt] at hH
    rw [List.getElem?_take, if_pos hlt'] at hH'
    exact h.wr.inj b b' k vs vs' hH hH' hb hb'

noncomputable def loopK (body : St → KC → Option DV) (live : List Nat) (h0 : Nat) : Nat → St → KC → Option DV
  | 0, _, _ => none
  | n + 1, s, k => trimK live h0 s fun s => body s fun e s' => match e with
    | .normal => loopK body live h0 n s' k
    | e => k e s'

def firstReg : Code → Option Nat
  | .region id _ _ => some id
  | .seq a b => match firstReg a with | some i => some i | none => firstReg b
  | .cond _ a b => match firstReg a with | some i => some i | none => firstReg b
  | .block _ b => firstReg b
  | .loop b => firstReg b
  | .scope b => firstReg b
  | _ => none
def roomOf : List (Nat × List Nat) → Nat
  | (0, r :: _) :: _ => r
  | _ => 0
def stopsOf : List (Nat × List Nat) → List Nat
  | _ :: (0, l) :: _ => l
  | _ => []
def liveOf (lv : List (Nat × List Nat)) (c : Code) (n : Nat) : List Nat :=
  match firstReg c with
  | some i => match lv.find? (fun p => Nat.beq p.1 i) with | some p => p.2 | none => List.range n
  | none => List.range n

structure OnwardW (U : Nat → Prop) (w : World) (U' : Nat → Prop) (w' : World) : Prop where
  set : ∀ k, U k → U' k
  keep : ∀ k, U k → w'.heap[k]? = w.heap[k]?
  size : w.heap.size ≤ w'.heap.size
  back : ∀ k, U' k → U k ∨ w.heap.size ≤ k
theorem Onward.weak {D D' : Nat → Option Nat} {U U' : Nat → Prop} {w w' : World} (h : Onward D U w D' U' w') : OnwardW U w U' w' := ⟨h.set, h.keep, h.size, h.back⟩
theorem OnwardW.refl {U : Nat → Prop} {w : World} : OnwardW U w U w := ⟨fun _ h => h, fun _ _ => rfl, Nat.le_refl _, fun _ h => .inl h⟩
theorem OnwardW.trans {U U' U'' : Nat → Prop} {w w' w'' : World} (h : OnwardW U w U' w') (h' : OnwardW U' w' U'' w'') : OnwardW U w U'' w'' :=
  ⟨fun k hk => h'.set k (h.set k hk), fun k hk => (h'.keep k (h.set k hk)).trans (h.keep k hk), Nat.le_trans h.size h'.size, fun k hk => (h'.back k hk).elim (h.back k) (fun h2 => .inr (Nat.le_trans h.size h2))⟩
def Sound (P : Program) (I : World → Prop) (c : Code) (s : St) (k : KC) (r : DV) : Prop :=
  ∀ (D : Nat → Option Nat) (U : Nat → Prop) (N : Nat) (w0 : World) (a : Act) (w : World) (Q : Exit → Act → World → Prop), Rel I D U N w0 s a w →
    (∀ e s' D' U' a' w', k e s' = some r → Rel I D' U' N w0 s' a' w' → OnwardW U w U' w' → Q e.out a' w') → c.wp P Q a w

theorem loopK_ok {P : Program} {I : World → Prop} {c : Code} {body : St → KC → Option DV} (hb : ∀ s k r, body s k = some r → Sound P I c s k r) (live : List Nat) (h0 : Nat) (n : Nat) (s : St) (k : KC) (r : DV) (hs : s.heap.length ≤ h0)
    (h : loopK body live h0 n s k = some r) : Sound P I (.loop c) s k r := by
  intro D U N w0 a w Q hR hQ b kk cs
  have key : ∀ (n : Nat) (s : St) (D1 : Nat → Option Nat) (U1 : Nat → Prop) (a1 : Act) (w1 : World), loopK body live h0 n s k = some r → Rel I D1 U1 N w0 s a1 w1 → OnwardW U w U1 w1 →
      ∃ e a' w', Q e a' w' ∧ Arrives P (lone (b.at a1 (.code c :: .inLoop c :: kk)) cs w1) b kk cs e a' w' := by
    intro n
    induction n with
    | zero => intro s D1 U1 a1 w1 h; simp [loopK] at h
    | succ n ih =>
      intro s D1 U1 a1 w1 h hR1 hon
      simp only [loopK, trimK_eq] at h
      obtain ⟨e, a2, w2, hq, harr⟩ := hb _ _ r h _ U1 N w0 a1 w1
        (fun e a' w' => match e with
          | .normal => ∃ s' D' U', loopK body live h0 n s' k = some r ∧ Rel I D' U' N w0 s' a' w' ∧ OnwardW U w U' w'
          | e => Q e a' w') (hR1.trim live h0)
        (fun e s' D' U' a' w' hk hR' hon' => by
          cases e with
          | normal => exact ⟨s', D', U', hk, hR', hon.trans hon'⟩
          | exit i => exact hQ (.exit i) s' D' U' a' w' hk hR' (hon.trans hon')
          | ret => exact hQ .ret s' D' U' a' w' hk hR' (hon.trans hon')) b (.inLoop c :: kk) cs
      cases e with
      | normal =>
        obtain ⟨s', D', U', hl, hR', hon'⟩ := hq
        obtain ⟨e3, a3, w3, hq3, harr3⟩ := ih s' D' U' a2 w2 hl hR' hon'
        exact ⟨e3, a3, w3, hq3, .of_steps (Steps.trans harr (.one step_inLoop)) harr3⟩
      | exit id => exact ⟨_, a2, w2, hq, .pass (x := .inLoop c) rfl (fun _ _ => .inl (by simp)) harr⟩
      | goto l => exact ⟨_, a2, w2, hq, .pass (x := .inLoop c) rfl (fun _ _ => .inl (by simp)) harr⟩
      | ret => exact ⟨_, a2, w2, hq, .pass (x := .inLoop c) rfl (fun _ _ => .inl (by simp)) harr⟩
      | panic ch => exact ⟨_, a2, w2, hq, .pass (x := .inLoop c) rfl (fun _ _ => .inl (by simp)) harr⟩
      | outgrown => exact ⟨_, a2, w2, hq, .pass (x := .inLoop c) rfl (fun _ _ => .inl (by simp)) harr⟩
  obtain ⟨e, a', w', hq, harr⟩ := key n s D U a w h hR OnwardW.refl
  exact ⟨e, a', w', hq, .of_steps (.one step_loop) harr⟩
end Go.Pv
namespace Go.Pv
open Go Go.RowKit

inductive Anc (ops : Array Oper) : Nat → Nat → Prop
  | one {j : Nat} {o : Oper} {e : Edge} : ops[j]? = some o → e ∈ o.after → Region.binds .any e = true → Anc ops j e.on
  | more {j i : Nat} {o : Oper} {e : Edge} : ops[j]? = some o → e ∈ o.after → Region.binds .any e = true → Anc ops e.on i → Anc ops j i

def addAll : List Nat → List Nat → List Nat
  | [], acc => acc
  | x :: xs, acc => bif acc.any (Nat.beq x) then addAll xs acc else addAll xs (x :: acc)
theorem addAll_mem : ∀ (xs acc : List Nat) (i : Nat), i ∈ addAll xs acc → i ∈ xs ∨ i ∈ acc
  | [], acc, i, h => .inr h
  | x :: xs, acc, i, h => by
    simp only [addAll] at h
    cases hx : acc.any (Nat.beq x) with
    | true => simp [hx] at h; rcases addAll_mem xs acc i h with h | h; exact .inl (by simp [h]); exact .inr h
    | false =>
      simp [hx] at h
      rcases addAll_mem xs (x :: acc) i h with h | h
      · exact .inl (by simp [h])
      · simp at h; rcases h with rfl | h; exact .inl (by simp); exact .inr h
def ancOf (acc : List (List Nat)) : List Edge → List Nat
  | [] => []
  | e :: es => bif Region.binds .any e then addAll [e.on] (addAll (acc.getD e.on []) (ancOf acc es)) else ancOf acc es
def ancGo : List Oper → List (List Nat) → List (List Nat)
  | [], acc => acc
  | o :: os, acc => ancGo os (acc ++ [ancOf acc o.after.toList])
def ancT (ops : Array Oper) : List (List Nat) := ancGo ops.toList []
theorem ancOf_sound (ops : Array Oper) (acc : List (List Nat)) (h : ∀ (j i : Nat), i ∈ acc.getD j [] → Anc ops j i) (j : Nat) (o : Oper) (ho : ops[j]? = some o) : ∀ (es : List Edge), (∀ e ∈ es, e ∈ o.after) → ∀ i, i ∈ ancOf acc es → Anc ops j i
  | [], _, i, hi => by simp [ancOf] at hi
  | e :: es, hes, i, hi => by
    simp only [ancOf] at hi
    cases hb : Region.binds .any e with
    | false => simp [hb] at hi; exact ancOf_sound ops acc h j o ho es (fun x hx => hes x (by simp [hx])) i hi
    | true =>
      simp only [hb, cond_true] at hi
      rcases addAll_mem _ _ _ hi with hi | hi
      · simp at hi; subst hi; exact .one ho (hes e (by simp)) hb
      · rcases addAll_mem _ _ _ hi with hi | hi
        · exact .more ho (hes e (by simp)) hb (h _ _ hi)
        · exact ancOf_sound ops acc h j o ho es (fun x hx => hes x (by simp [hx])) i hi
theorem ancGo_sound (ops : Array Oper) : ∀ (os : List Oper) (acc : List (List Nat)), (∀ k, os[k]? = ops[acc.length + k]?) → (∀ (j i : Nat), i ∈ acc.getD j [] → Anc ops j i) → ∀ (j i : Nat), i ∈ (ancGo os acc).getD j [] → Anc ops j i
  | [], acc, _, h, j, i, hi => h j i hi
  | o :: os, acc, hos, h, j, i, hi => by
    refine ancGo_sound ops os _ (fun k => ?_) ?_ j i hi
    · have := hos (k + 1)
      simp only [List.getElem?_cons_succ] at this
      rw [this]; congr 1; simp; omega
    · intro j i hi
      have ho : ops[acc.length]? = some o := by have := hos 0; simpa using this.symm
      rw [List.getD_eq_getElem?_getD, List.getElem?_append] at hi
      split at hi
      · exact h j i (by rw [List.getD_eq_getElem?_getD]; exact hi)
      · rename_i hge
        by_cases e : j = acc.length
        · subst e; simp at hi
          exact ancOf_sound ops acc h _ o ho o.after.toList (fun e he => by simpa using he) i hi
        · rw [List.getElem?_eq_none (by simp; omega)] at hi; simp at hi
theorem ancT_sound (ops : Array Oper) (j i : Nat) (h : i ∈ (ancT ops).getD j []) : Anc ops j i :=
  ancGo_sound ops ops.toList [] (fun k => by simp) (fun j i h => by simp at h) j i h

def Listed (l : Array Bool) (i : Nat) : Prop := l.getD i false = true
def Closed (ops : Array Oper) (l : Array Bool) : Prop := ∀ (j : Nat) (o : Oper), ops[j]? = some o → Listed l j → ∀ e ∈ o.after, Region.binds .any e = true → Listed l e.on
theorem Anc.listed {ops : Array Oper} {l : Array Bool} (hc : Closed ops l) {j i : Nat} (h : Anc ops j i) : Listed l j → Listed l i := by
  induction h with
  | one ho he hb => exact fun hl => hc _ _ ho hl _ he hb
  | more ho he hb _ ih => exact fun hl => ih (hc _ _ ho hl _ he hb)
theorem getD_tf {l : Array Bool} {i : Nat} (hi : i < l.size) : l.getD i true = l.getD i false := by simp [Array.getD, hi]
theorem mem_ready {ops : Array Oper} {l : Array Bool} {i : Nat} (hs : l.size = ops.size) : i ∈ Region.ready .any ops l ↔ ¬ Listed l i ∧ ∃ o, ops[i]? = some o ∧ ∀ e ∈ o.after, Region.binds .any e = true → Listed l e.on := by
  unfold Region.ready Listed
  rw [List.mem_filter]
  have key : ∀ o : Oper, (o.after.all fun e => !Region.binds .any e || l.getD e.on false) = true ↔ ∀ e ∈ o.after, Region.binds .any e = true → l.getD e.on false = true := by
    intro o
    rw [Array.all_eq_true']
    constructor
    · intro h e he hb
      have := h e he
      rw [hb] at this
      simpa using this
    · intro h e he
      cases hb : Region.binds .any e with
      | false => rfl
      | true => rw [h e he hb]; rfl
  constructor
  · rintro ⟨h1, h2⟩
    have hi : i < ops.size := by simpa using h1
    rw [Array.getElem?_eq_getElem hi] at h2 ⊢
    rw [getD_tf (by omega), Option.map_some, Option.getD_some, Bool.and_eq_true] at h2
    have h21 := h2.1
    refine ⟨(by intro h; rw [h] at h21; cases h21), _, rfl, (key _).1 h2.2⟩
  · rintro ⟨h1, o, h2, h3⟩
    have hi : i < ops.size := (Array.getElem?_eq_some_iff.1 h2).1
    refine ⟨by simpa using hi, ?_⟩
    rw [h2, getD_tf (by omega), Option.map_some, Option.getD_some, (key o).2 h3]
    simpa using h1
theorem Anc.ready {ops : Array Oper} {l : Array Bool} (hs : l.size = ops.size) (hc : Closed ops l) {j i : Nat} (h : Anc ops j i) (hr : j ∈ Region.ready .any ops l) : Listed l i := by
  obtain ⟨_, o, ho, he⟩ := (mem_ready hs).1 hr
  cases h with
  | one ho' he' hb => rw [ho] at ho'; cases ho'; exact he _ he' hb
  | more ho' he' hb h2 => rw [ho] at ho'; cases ho'; exact h2.listed hc (he _ he' hb)
theorem listed_set {l : Array Bool} {i j : Nat} (hi : i < l.size) : Listed (l.setIfInBounds i true) j ↔ j = i ∨ Listed l j := by
  unfold Listed
  simp only [Array.getD_eq_getD_getElem?, Array.getElem?_setIfInBounds]
  by_cases h : i = j
  · subst h; simp [hi]
  · simp [h, Ne.symm h]
theorem Closed.set {ops : Array Oper} {l : Array Bool} (hs : l.size = ops.size) (hc : Closed ops l) {i : Nat} (hr : i ∈ Region.ready .any ops l) : Closed ops (l.setIfInBounds i true) := by
  obtain ⟨_, o, ho, he⟩ := (mem_ready hs).1 hr
  have hi : i < l.size := by rw [hs]; exact (Array.getElem?_eq_some_iff.1 ho).1
  intro j oj hoj hl e hem hb
  rw [listed_set hi] at hl ⊢
  rcases hl with rfl | hl
  · rw [ho] at hoj; cases hoj; exact .inr (he e hem hb)
  · exact .inr (hc j oj hoj hl e hem hb)

def left (n : Nat) (l : Array Bool) : Nat := (List.range n).countP fun i => !(l.getD i false)
theorem countP_lt {p q : Nat → Bool} (h : ∀ i, q i = true → p i = true) : ∀ (l : List Nat) (i : Nat), i ∈ l → p i = true → q i = false → l.countP q < l.countP p
  | [], i, hi, _, _ => by simp at hi
  | x :: xs, i, hi, hp, hq => by
    have mono : ∀ l : List Nat, l.countP q ≤ l.countP p := fun l => List.countP_mono_left (fun x _ => h x)
    simp only [List.countP_cons]
    simp at hi
    rcases hi with rfl | hi
    · have := mono xs; simp [hp, hq]; omega
    · have := countP_lt h xs i hi hp hq
      have : (if q x = true then 1 else 0) ≤ (if p x = true then 1 else 0) := by
        by_cases hx : q x = true
        · simp [hx, h x hx]
        · simp [hx]
      omega
theorem left_set {n : Nat} {l : Array Bool} {i : Nat} (hi : i < n) (hs : l.size = n) (hl : ¬ Listed l i) : left n (l.setIfInBounds i true) < left n l := by
  refine countP_lt (fun j hj => ?_) _ i (by simpa using hi) (by unfold Listed at hl; simpa using hl) ?_
  · by_cases h : l.getD j false = true
    · have : Listed (l.setIfInBounds i true) j := (listed_set (by omega)).2 (.inr h)
      unfold Listed at this
      rw [this] at hj; simp at hj
    · simpa using h
  · have : Listed (l.setIfInBounds i true) i := (listed_set (by omega)).2 (.inl rfl)
    unfold Listed at this
    rw [this]; rfl
theorem all_of_left {n : Nat} {l : Array Bool} (h : left n l = 0) : ∀ i, i < n → Listed l i := by
  intro i hi
  have := List.countP_eq_zero.1 h i (by simpa using hi)
  unfold Listed
  simpa using this
def edgesBack : Nat → List Oper → Bool
  | _, [] => true
  | i, o :: os => (o.after.toList.all fun e => !(Region.binds .any e) || Nat.blt e.on i) && edgesBack (i + 1) os
theorem edgesBack_spec : ∀ (i : Nat) (os : List Oper), edgesBack i os = true → ∀ (k : Nat) (o : Oper), os[k]? = some o → ∀ e ∈ o.after, Region.binds .any e = true → e.on < i + k
  | _, [], _, k, o, h => by simp at h
  | i, o' :: os, hb, 0, o, h => by
    simp at h; subst h
    simp only [edgesBack, Bool.and_eq_true] at hb
    intro e he hbe
    have := List.all_eq_true.1 hb.1 e (by simpa using he)
    rw [hbe] at this
    have h2 : Nat.blt e.on i = true := by simpa using this
    exact Nat.le_of_ble_eq_true h2
  | i, o' :: os, hb, k + 1, o, h => by
    simp only [edgesBack, Bool.and_eq_true] at hb
    have := edgesBack_spec (i + 1) os hb.2 k o (by simpa using h)
    intro e he hbe
    have := this e he hbe
    omega
theorem all_of_stuck {ops : Array Oper} {l : Array Bool} (hs : l.size = ops.size) (he : edgesBack 0 ops.toList = true) (hr : Region.ready .any ops l = []) : ∀ i, i < ops.size → Listed l i := by
  intro i
  induction i using Nat.strongRecOn with
  | _ i ih =>
    intro hi
    by_cases hl : Listed l i
    · exact hl
    · have : i ∈ Region.ready .any ops l := (mem_ready hs).2 ⟨hl, ops[i], Array.getElem?_eq_getElem hi, fun e hem hb => by
        have := edgesBack_spec 0 ops.toList he i ops[i] (by simp [hi]) e hem hb
        exact ih e.on (by omega) (by omega)⟩
      rw [hr] at this; simp at this
end Go.Pv
namespace Go.Pv
open Go Go.RowKit

noncomputable def parK (P : Program) (K : Tab) (ops : Array Oper) (base : Nat) : List Nat → St → (St → Option DV) → Option DV
  | [], s, k => k s
  | i :: rest, ⟨ts, n, h⟩, k => match ops[i]? with
    | none => none
    | some o => guardK ops ts n o
      (fun ts => opk P K (evalV ts n) h (base + i) o fun x eff => match eff with
        | .upd _ _ => none
        | .move _ _ => none
        | eff => putK ts o.dst x fun ts' => appK (base + i) h eff fun h' => parK P K ops base rest ⟨ts', n, h'⟩ k)
      (fun ts => putK ts o.dst (.dv (.val undef)) fun ts' => parK P K ops base rest ⟨ts', n, h⟩ k)
theorem parK_cons (P : Program) (K : Tab) (ops : Array Oper) (base : Nat) (i : Nat) (rest : List Nat) (s : St) (k : St → Option DV) : parK P K ops base (i :: rest) s k = match ops[i]? with
    | none => none
    | some o => guardK ops s.tmps s.n o
      (fun ts => opk P K (evalV ts s.n) s.heap (base + i) o fun x eff => match eff with
        | .upd _ _ => none
        | .move _ _ => none
        | eff => parK P K ops base rest ⟨putV ts o.dst x, s.n, eff.app (base + i) s.heap⟩ k)
      (fun ts => parK P K ops base rest ⟨putV ts o.dst (.dv (.val undef)), s.n, s.heap⟩ k) := by
  cases s
  simp only [parK, putK_eq, appK_eq]

structure Stp (P : Program) (I : World → Prop) (ops : Array Oper) (base i : Nat) (s s' : St) (x : VV) (eff : Eff) : Prop where
  quiet : ∀ b cs, eff ≠ .upd b cs ∧ eff ≠ .move b cs
  ok : ∃ o ts, ops[i]? = some o ∧ Le s.tmps ts ∧ s' = ⟨putV ts o.dst x, s.n, eff.app (base + i) s.heap⟩ ∧
    ((GuardIs ops s.tmps s.n o true ∧ OpOk P I o (evalV ts s.n) s.heap (base + i) x eff) ∨ (GuardIs ops s.tmps s.n o false ∧ x = .dv (.val undef) ∧ eff = .none))

theorem parK_trace {P : Program} {I : World → Prop} {K : Tab} (HK : ∀ g, Meets P I g (K g)) {ops : Array Oper} {base : Nat} {k : St → Option DV} {r : DV} : ∀ (m i : Nat) (s : St), parK P K ops base (List.range' i m) s k = some r →
    ∃ (σ : Nat → St) (xs : Nat → VV) (es : Nat → Eff), σ i = s ∧ k (σ (i + m)) = some r ∧ ∀ j, i ≤ j → j < i + m → Stp P I ops base j (σ j) (σ (j + 1)) (xs j) (es j)
  | 0, i, s, h => ⟨fun _ => s, fun _ => default, fun _ => .none, rfl, by simpa [parK] using h, fun j h1 h2 => by omega⟩
  | m + 1, i, s, h => by
    rw [List.range'_succ] at h
    simp only [parK_cons] at h
    cases ho : ops[i]? with
    | none => simp [ho] at h
    | some o =>
      simp only [ho] at h
      have done : ∀ (s' : St) (x : VV) (eff : Eff), Stp P I ops base i s s' x eff → parK P K ops base (List.range' (i + 1) m) s' k = some r →
          ∃ (σ : Nat → St) (xs : Nat → VV) (es : Nat → Eff), σ i = s ∧ k (σ (i + (m + 1))) = some r ∧ ∀ j, i ≤ j → j < i + (m + 1) → Stp P I ops base j (σ j) (σ (j + 1)) (xs j) (es j) := by
        intro s' x eff hst h
        obtain ⟨σ, xs, es, h1, h2, h3⟩ := parK_trace HK m (i + 1) s' h
        refine ⟨fun j => if j = i then s else σ j, fun j => if j = i then x else xs j, fun j => if j = i then eff else es j, by simp, ?_, ?_⟩
        · have : ¬ i + (m + 1) = i := by omega
          simp only [this, if_false]
          rw [show i + (m + 1) = i + 1 + m by omega]; exact h2
        · intro j hj1 hj2
          by_cases e : j = i
          · subst e
            simp only [if_true, show ¬ j + 1 = j by omega, if_false, h1]
            exact hst
          · simp only [e, if_false, show ¬ j + 1 = i by omega]
            exact h3 j (by omega) (by omega)
      obtain ⟨b, ts1, hg, hle, hb, _⟩ := guardK_inv h
      cases b with
      | false =>
        simp at hb
        exact done _ _ _ ⟨(fun _ _ => ⟨(fun h => by cases h), (fun h => by cases h)⟩), o, ts1, ho, hle, rfl, .inr ⟨hg, rfl, rfl⟩⟩ hb
      | true =>
        simp at hb
        obtain ⟨x, eff, hk, hok⟩ := opk_ok HK hb
        cases eff with
        | upd b cs => simp at hk
        | move b cs => simp at hk
        | none => exact done _ _ _ ⟨(fun _ _ => ⟨(fun h => by cases h), (fun h => by cases h)⟩), o, ts1, ho, hle, rfl, .inl ⟨hg, hok⟩⟩ hk
        | new cs => exact done _ _ _ ⟨(fun _ _ => ⟨(fun h => by cases h), (fun h => by cases h)⟩), o, ts1, ho, hle, rfl, .inl ⟨hg, hok⟩⟩ hk

theorem app_quiet {eff : Eff} (hq : ∀ b cs, eff ≠ .upd b cs ∧ eff ≠ .move b cs) (id : Nat) (H : List (Option Blk)) (hid : id < H.length) : (eff.app id H).length = H.length ∧ ∀ b, b ≠ id → (eff.app id H)[b]? = H[b]? := by
  cases eff with
  | none => exact ⟨rfl, fun _ _ => rfl⟩
  | upd b cs => exact absurd rfl (hq b cs).1
  | move b cs => exact absurd rfl (hq b cs).2
  | new cs =>
    refine ⟨?_, fun b hb => addB_other id H cs (by omega) b hb⟩
    simp only [Eff.app, addB]
    have : Nat.blt id H.length = true := Nat.ble_eq_true_of_le hid
    simp [this]
section par
variable {P : Program} {I : World → Prop} {K : Tab} {ops : Array Oper} {base p : Nat} {σ : Nat → St} {xs : Nat → VV} {es : Nat → Eff} {H0 : List (Option Blk)}
structure Chk (ops : Array Oper) (p : Nat) : Prop where
  back : edgesBack 0 ops.toList = true
  le : p ≤ ops.size
  pair : ∀ i j oi oj, i < j → ops[i]? = some oi → ops[j]? = some oj → (j < p ∧ oi.apart ops oj = true) ∨ Anc ops j i
def Trail (P : Program) (I : World → Prop) (ops : Array Oper) (base p : Nat) (σ : Nat → St) (xs : Nat → VV) (es : Nat → Eff) : Prop := ∀ j, j < p → Stp P I ops base j (σ j) (σ (j + 1)) (xs j) (es j)
theorem Trail.heap_len (h : Trail P I ops base p σ xs es) (h0 : (σ 0).heap.length = base + ops.size) (hp : p ≤ ops.size) : ∀ i, i ≤ p → (σ i).heap.length = base + ops.size := by
  intro i
  induction i with
  | zero => intro _; exact h0
  | succ i ih =>
    intro hi
    have hst := h i (by omega)
    obtain ⟨o, ts1, ho, _, e, _⟩ := hst.ok
    rw [e]
    have := ih (by omega)
    exact ((app_quiet hst.quiet (base + i) (σ i).heap (by omega)).1).trans this
theorem Trail.heap_at (h : Trail P I ops base p σ xs es) (h0 : (σ 0).heap.length = base + ops.size) (hp : p ≤ ops.size) (b : Nat) : ∀ m i, i + m ≤ p → (∀ j, i ≤ j → j < i + m → b ≠ base + j) → (σ (i + m)).heap[b]? = (σ i).heap[b]? := by
  intro m
  induction m with
  | zero => intro i _ _; rfl
  | succ m ih =>
    intro i hi hb
    have hst := h (i + m) (by omega)
    obtain ⟨o, ts1, ho, _, e, _⟩ := hst.ok
    rw [← Nat.add_assoc, e]
    have := h.heap_len h0 hp (i + m) (by omega)
    exact ((app_quiet hst.quiet (base + (i + m)) (σ (i + m)).heap (by omega)).2 b (hb _ (by omega) (by omega))).trans (ih i (by omega) (fun j h1 h2 => hb j h1 (by omega)))
theorem Trail.n_same (h : Trail P I ops base p σ xs es) : ∀ i, i ≤ p → (σ i).n = (σ 0).n := by
  intro i
  induction i with
  | zero => intro _; rfl
  | succ i ih =>
    intro hi
    obtain ⟨o, ts1, ho, _, e, _⟩ := (h i (by omega)).ok
    rw [e, ← ih (by omega)]
theorem Trail.tmps_at (h : Trail P I ops base p σ xs es) (t : Nat) {U : Nat → Prop} {w : World} {D : Nat → Option Nat} {v : Value} : ∀ m i, i + m ≤ p → (∀ j o, i ≤ j → j < i + m → ops[j]? = some o → o.dst ≠ some t) → VRep U w D ((σ i).tmps.get t) v → VRep U w D ((σ (i + m)).tmps.get t) v := by
  intro m
  induction m with
  | zero => intro i _ _ hv; exact hv
  | succ m ih =>
    intro i hi hb hv
    obtain ⟨o, ts1, ho, hle, e, _⟩ := (h (i + m) (by omega)).ok
    have h1 := ih i (by omega) (fun j o h1 h2 => hb j o h1 (by omega)) hv
    have hne := hb (i + m) o (by omega) (by omega) ho
    rw [← Nat.add_assoc, e]
    rcases get_putV ts1 o.dst (xs (i + m)) t with g | g
    · simp only []; rw [g, if_neg hne]; exact hle.rep h1
    · simp only []; rw [g]; trivial

structure Inv (I : World → Prop) (ops : Array Oper) (base p : Nat) (σ : Nat → St) (H0 : List (Option Blk)) (N : Nat) (w0 : World) (l : Array Bool) (D : Nat → Option Nat) (U : Nat → Prop) (H' : List (Option Blk)) (a : Act) (w : World) : Prop where
  defers : a.defers = []
  size : a.tmps.size = (σ 0).n
  tmps : ∀ t, ∃ i, i ≤ p ∧ (∀ v, a.tmps[t]? = some v → VRep U w D ((σ i).tmps.get t) v) ∧ (∀ j o, Listed l j → ops[j]? = some o → o.dst = some t → j < i) ∧
    (∀ i', i = i' + 1 → Listed l i' ∧ ∃ o, ops[i']? = some o ∧ o.dst = some t)
  len : H'.length = base + ops.size
  heap : ∀ b, (b < base → H'[b]? = H0[b]?) ∧ (base ≤ b → Listed l (b - base) → H'[b]? = (σ p).heap[b]?) ∧ (base ≤ b → ¬ Listed l (b - base) → b < base + ops.size → H'[b]? = some none)
  wr : WRel D U N w0 H' w
  n : N ≤ w.heap.size
  lsize : l.size = ops.size
  first : ∀ j, Listed l j → j < p
  i0 : I w0
  base : N = w0.heap.size
end par
end Go.Pv
namespace Go.Pv
open Go Go.RowKit

section any
variable {P : Program} {I : World → Prop} {K : Tab} {ops : Array Oper} {base p : Nat} {σ : Nat → St} {xs : Nat → VV} {es : Nat → Eff} {H0 : List (Option Blk)}

theorem dst_looks {oi oj : Oper} (h : oi.apart ops oj = true) : (∀ d, oi.dst = some d → d ∉ oj.looksAt ops) ∧ (∀ d, oi.dst = some d → oj.dst ≠ some d) ∧ (∀ d, oj.dst = some d → d ∉ oi.looksAt ops) := Oper.apart_spec h

theorem Inv.operand (hT : Trail P I ops base p σ xs es) (hC : Chk ops p) {N : Nat} {w0 : World} {l : Array Bool} {D : Nat → Option Nat} {U : Nat → Prop} {H' : List (Option Blk)} {a : Act} {w : World} (hI : Inv I ops base p σ H0 N w0 l D U H' a w) (hc : Closed ops l)
    {i0 : Nat} (hr : i0 ∈ Region.ready .any ops l) (hi0 : i0 < p) {o : Oper} (ho : ops[i0]? = some o) (t : Nat) (ht : t ∈ o.looksAt ops) : ∀ v, a.tmps[t]? = some v → VRep U w D ((σ i0).tmps.get t) v := by
  obtain ⟨i, hip, hv, hlast, hfst⟩ := hI.tmps t
  have hnl : ¬ Listed l i0 := ((mem_ready hI.lsize).1 hr).1
  have hii : i ≤ i0 := by
    rcases Nat.eq_zero_or_pos i with h | h
    · omega
    · obtain ⟨i', rfl⟩ : ∃ i', i = i' + 1 := ⟨i - 1, by omega⟩
      obtain ⟨hl', o', ho', hd'⟩ := hfst i' rfl
      rcases Nat.lt_trichotomy i' i0 with h1 | h1 | h1
      · omega
      · subst h1; exact absurd hl' hnl
      · rcases hC.pair i0 i' o o' h1 ho ho' with ⟨_, hap⟩ | hanc
        · exact absurd ht ((dst_looks hap).2.2 t hd')
        · exact absurd (hanc.listed hc hl') hnl
  intro v hav
  obtain ⟨m, rfl⟩ : ∃ m, i0 = i + m := ⟨i0 - i, by omega⟩
  refine hT.tmps_at t m i (by omega) (fun j oj h1 h2 hoj hd => ?_) (hv v hav)
  rcases hC.pair j (i + m) oj o h2 hoj ho with ⟨_, hap⟩ | hanc
  · exact (dst_looks hap).1 t hd ht
  · have := hlast j oj (hanc.ready hI.lsize hc hr) hoj hd
    omega

theorem Inv.next (hT : Trail P I ops base p σ xs es) (hC : Chk ops p) (h0 : (σ 0).heap.length = base + ops.size) (hz : ∀ j, j < ops.size → (σ 0).heap[base + j]? = some none) {N : Nat} {w0 : World} {l : Array Bool} {D : Nat → Option Nat} {U : Nat → Prop} {H' : List (Option Blk)} {a : Act} {w : World} (hI : Inv I ops base p σ H0 N w0 l D U H' a w) (hc : Closed ops l)
    {i0 : Nat} (hr : i0 ∈ Region.ready .any ops l) (hi0 : i0 < p) {o : Oper} (ho : ops[i0]? = some o) {ts1 : Tr} (he : σ (i0 + 1) = ⟨putV ts1 o.dst (xs i0), (σ i0).n, (es i0).app (base + i0) (σ i0).heap⟩)
    {v : Value} {w' : World} {D' : Nat → Option Nat} {U' : Nat → Prop} (hon : Onward D U w D' U' w') (hW : WRel D' U' N w0 ((es i0).app (base + i0) H') w') (hx : VRep U' w' D' (xs i0) v) :
    Inv I ops base p σ H0 N w0 (l.setIfInBounds i0 true) D' U' ((es i0).app (base + i0) H') (a.put o.dst v) w' := by
  have hnl : ¬ Listed l i0 := ((mem_ready hI.lsize).1 hr).1
  have hls : i0 < l.size := by rw [hI.lsize]; have := hC.le; omega
  have hq := (hT i0 hi0).quiet
  have hlen : base + i0 < H'.length := by rw [hI.len]; have := hC.le; omega
  have haq := app_quiet hq (base + i0) H' hlen
  refine ⟨?_, ?_, ?_, haq.1.trans hI.len, ?_, hW, Nat.le_trans hI.n hon.size, by simpa using hI.lsize, ?_, hI.i0, hI.base⟩
  · simp only [Act.put]; split <;> exact hI.defers
  · have : (a.put o.dst v).tmps.size = a.tmps.size := by simp only [Act.put]; split <;> simp
    rw [this]; exact hI.size
  · intro t
    by_cases hd : o.dst = some t
    · refine ⟨i0 + 1, by omega, ?_, ?_, ?_⟩
      · intro u h2
        rw [he]
        simp only [hd, Act.put] at h2 ⊢
        rw [Array.getElem?_setIfInBounds] at h2
        simp at h2
        rcases get_putV ts1 (some t) (xs i0) t with g | g
        · rw [g, if_pos rfl, ← h2.2]; exact hx
        · rw [g]; trivial
      · intro j oj hl hoj hdj
        rcases (listed_set hls).1 hl with rfl | hl
        · omega
        · rcases Nat.lt_or_ge j (i0 + 1) with h | h
          · exact h
          · rcases hC.pair i0 j o oj (by omega) ho hoj with ⟨_, hap⟩ | hanc
            · exact absurd hdj ((dst_looks hap).2.1 t hd)
            · exact absurd (hanc.listed hc hl) hnl
      · intro i' hi'
        obtain rfl : i' = i0 := by omega
        exact ⟨(listed_set hls).2 (.inl rfl), o, ho, hd⟩
    · obtain ⟨i, hip, hv, hlast, hfst⟩ := hI.tmps t
      refine ⟨i, hip, ?_, ?_, ?_⟩
      · intro u h2
        have h3 : a.tmps[t]? = some u := by
          simp only [Act.put] at h2
          split at h2
          · rename_i d hd'
            rw [Array.getElem?_setIfInBounds_ne (fun e => hd (by rw [hd', e]))] at h2
            exact h2
          · exact h2
        exact (hv u h3).onward hon
      · intro j oj hl hoj hdj
        rcases (listed_set hls).1 hl with rfl | hl
        · rw [ho] at hoj; cases hoj; exact absurd hdj hd
        · exact hlast j oj hl hoj hdj
      · intro i' hi'
        obtain ⟨h1, h2⟩ := hfst i' hi'
        exact ⟨(listed_set hls).2 (.inr h1), h2⟩
  · intro b
    obtain ⟨hb1, hb2, hb3⟩ := hI.heap b
    by_cases hb : b = base + i0
    · subst hb
      refine ⟨fun h => by omega, fun _ _ => ?_, fun _ h => absurd ((listed_set hls).2 (.inl (by omega))) h⟩
      have hfin : (σ p).heap[base + i0]? = (σ (i0 + 1)).heap[base + i0]? := by
        obtain ⟨m, hm⟩ : ∃ m, p = i0 + 1 + m := ⟨p - (i0 + 1), by omega⟩
        have := hT.heap_at h0 hC.le (base + i0) m (i0 + 1) (by omega) (fun j h1 h2 => by omega)
        rw [← hm] at this
        exact this
      have hbef : (σ i0).heap[base + i0]? = some none := by
        have := hT.heap_at h0 hC.le (base + i0) i0 0 (by omega) (fun j h1 h2 => by omega)
        rw [Nat.zero_add] at this
        rw [this]
        exact hz i0 (by have := hC.le; omega)
      rw [hfin, he]
      have hH' : H'[base + i0]? = some none := hb3 (by omega) (by rw [Nat.add_sub_cancel_left]; exact hnl) (by have := hC.le; omega)
      cases hes : es i0 with
      | none => simp only [Eff.app]; rw [hH', hbef]
      | upd b cs => exact absurd hes (hq b cs).1
      | move b cs => exact absurd hes (hq b cs).2
      | new cs =>
        simp only [Eff.app]
        rw [addB_same _ _ _ (by omega), addB_same _ _ _ (by rw [hT.heap_len h0 hC.le i0 (by omega)]; have := hC.le; omega)]
    · rw [haq.2 b hb]
      refine ⟨hb1, fun h1 h2 => ?_, fun h1 h2 => hb3 h1 (fun h => h2 ((listed_set hls).2 (.inr h)))⟩
      rcases (listed_set hls).1 h2 with h | h
      · omega
      · exact hb2 h1 h
  · intro j hl
    rcases (listed_set hls).1 hl with rfl | hl
    · exact hi0
    · exact hI.first j hl

theorem Inv.last (hT : Trail P I ops base p σ xs es) (hC : Chk ops p) (h0 : (σ 0).heap.length = base + ops.size) (hz0 : ∀ b, b < base → (σ 0).heap[b]? = H0[b]?) (hz : ∀ j, j < ops.size → (σ 0).heap[base + j]? = some none) {N : Nat} {w0 : World} {l : Array Bool} {D : Nat → Option Nat} {U : Nat → Prop} {H' : List (Option Blk)} {a : Act} {w : World}
    (hI : Inv I ops base p σ H0 N w0 l D U H' a w) (hall : ∀ j, j < p → Listed l j) : Rel I D U N w0 (σ p) a w := by
  have hH : H' = (σ p).heap := by
    apply List.ext_getElem?
    intro b
    obtain ⟨hb1, hb2, hb3⟩ := hI.heap b
    rcases Nat.lt_or_ge b base with h | h
    · rw [hb1 h, ← hz0 b h]
      have := hT.heap_at h0 hC.le b p 0 (by omega) (fun j h1 h2 => by omega)
      rw [Nat.zero_add] at this
      exact this.symm
    · by_cases hl : Listed l (b - base)
      · exact hb2 h hl
      · have hp : p ≤ b - base := by
          rcases Nat.lt_or_ge (b - base) p with h' | h'
          · exact absurd (hall _ h') hl
          · exact h'
        have := hT.heap_at h0 hC.le b p 0 (by omega) (fun j h1 h2 => by omega)
        rw [Nat.zero_add] at this
        rcases Nat.lt_or_ge b (base + ops.size) with h2 | h2
        · rw [hb3 h hl h2, this]
          have := hz (b - base) (by omega)
          rw [show base + (b - base) = b by omega] at this
          exact this.symm
        · rw [List.getElem?_eq_none (by rw [hI.len]; exact h2), List.getElem?_eq_none (by rw [hT.heap_len h0 hC.le p (Nat.le_refl _)]; exact h2)]
  refine ⟨⟨hI.defers, ?_, ?_⟩, hH ▸ hI.wr, hI.n, hI.i0, hI.base⟩
  · rw [hI.size, hT.n_same p (Nat.le_refl _)]
  · intro t v h2
    obtain ⟨i, hip, hv, hlast, hfst⟩ := hI.tmps t
    obtain ⟨m, hm⟩ : ∃ m, p = i + m := ⟨p - i, by omega⟩
    have := hT.tmps_at t m i (by omega) (fun j o h1 h2 hj hd => by have := hlast j o (hall j (by omega)) hj hd; omega) (hv v h2)
    rw [← hm] at this
    exact this

theorem tail_ok (hst : Stab I) (HK : ∀ g, Meets P I g (K g)) (hC : Chk ops p) {Q : Exit → Act → World → Prop} {k : St → Option DV} {r : DV} {N : Nat} {w0 : World} : ∀ (m q : Nat), p ≤ q → q + m = ops.size → ∀ (fuel : Nat), m ≤ fuel → ∀ (l : Array Bool), l.size = ops.size → (∀ j, j < ops.size → (Listed l j ↔ j < q)) →
    ∀ (s : St) (D : Nat → Option Nat) (U : Nat → Prop) (a : Act) (w : World), pevOps P K ops (List.range' q m) s k = some r → Rel I D U N w0 s a w →
    (∀ s' D' U' a' w', k s' = some r → Rel I D' U' N w0 s' a' w' → Onward D U w D' U' w' → Q .normal a' w') → wpAny P .any ops Q fuel l a w
  | 0, q, hpq, hqm, fuel, hf, l, hs, hl, s, D, U, a, w, h, hR, hQ => by
    have hnil : Region.ready .any ops l = [] := by
      cases hr : Region.ready .any ops l with
      | nil => rfl
      | cons i rest =>
        have hi : i ∈ Region.ready .any ops l := by rw [hr]; simp
        obtain ⟨h1, o, ho, _⟩ := (mem_ready hs).1 hi
        have hlt := (Array.getElem?_eq_some_iff.1 ho).1
        exact absurd ((hl i hlt).2 (by omega)) h1
    have hq := hQ s D U a w (by simpa [pevOps] using h) hR Onward.refl
    cases fuel with
    | zero => exact ⟨hnil, hq⟩
    | succ fuel => exact ⟨fun _ => hq, fun i hi => by rw [hnil] at hi; simp at hi⟩
  | m + 1, q, hpq, hqm, 0, hf, l, hs, hl, s, D, U, a, w, h, hR, hQ => by omega
  | m + 1, q, hpq, hqm, fuel + 1, hf, l, hs, hl, s, D, U, a, w, h, hR, hQ => by
    rw [List.range'_succ] at h
    simp only [pevOps_cons] at h
    have hqs : q < ops.size := by omega
    have hoq : ops[q]? = some ops[q] := Array.getElem?_eq_getElem hqs
    have hcl : Closed ops l := by
      intro j o ho hlj e he hb
      have hj := (Array.getElem?_eq_some_iff.1 ho).1
      have := edgesBack_spec 0 ops.toList hC.back j o (by simpa using ho) e he hb
      exact (hl e.on (by omega)).2 (by have := (hl j hj).1 hlj; omega)
    have only : ∀ i, i ∈ Region.ready .any ops l → i = q := by
      intro i hi
      obtain ⟨h1, o, ho, _⟩ := (mem_ready hs).1 hi
      have hlt := (Array.getElem?_eq_some_iff.1 ho).1
      have hge : q ≤ i := by
        rcases Nat.lt_or_ge i q with h' | h'
        · exact absurd ((hl i hlt).2 h') h1
        · exact h'
      rcases Nat.lt_or_ge q i with h' | h'
      · rcases hC.pair q i _ o h' hoq ho with ⟨hp, _⟩ | hanc
        · omega
        · have := (hl q hqs).1 (hanc.ready hs hcl hi)
          omega
      · omega
    have hqr : q ∈ Region.ready .any ops l := by
      refine (mem_ready hs).2 ⟨fun h => by have := (hl q hqs).1 h; omega, _, hoq, fun e he hb => ?_⟩
      have := edgesBack_spec 0 ops.toList hC.back q _ (by simp) e he hb
      exact (hl e.on (by omega)).2 (by omega)
    refine ⟨fun h0 => by rw [h0] at hqr; simp at hqr, fun i hi => ?_⟩
    obtain rfl := only i hi
    have hl' : ∀ j, j < ops.size → (Listed (l.setIfInBounds i true) j ↔ j < i + 1) := by
      intro j hj
      rw [listed_set (by omega), hl j hj]
      omega
    unfold wpOp
    rw [hoq] at h ⊢
    simp only [] at h ⊢
    obtain ⟨ts1, hle, hcase⟩ := guardK_ok h hR.t
    have ht1 := hR.t.le hle
    rcases hcase with ⟨hw, h⟩ | ⟨hw, h⟩
    · simp only [hw, if_true]
      left
      obtain ⟨x, eff, hk, hok⟩ := opk_ok HK h
      refine hok D U N w0 s.heap w a _ Q (hR.inv hst) (Compat.refl _) hR.wr hR.n (hR.wr.fresh (Nat.le_refl _)) (Nat.le_refl _) (fun y _ => ht1.eval y) ?_
      intro v w' D' U' hon hW' _ hx
      refine tail_ok hst HK hC m (i + 1) (by omega) (by omega) fuel (by omega) _ (by simpa using hs) hl' _ D' U' _ w' hk ⟨(ht1.onward hon).put _ hx, hW', Nat.le_trans hR.n hon.size, hR.i0, hR.base⟩ ?_
      intro s' D'' U'' a' w'' hk' hR' hon'
      exact hQ s' D'' U'' a' w'' hk' hR' (hon.trans hon')
    · simp only [hw, Bool.false_eq_true, if_false]
      exact tail_ok hst HK hC m (i + 1) (by omega) (by omega) fuel (by omega) _ (by simpa using hs) hl' _ D U _ w h ⟨ht1.put _ (.val _), hR.wr, hR.n, hR.i0, hR.base⟩ hQ

theorem left_ge {n p : Nat} {l : Array Bool} (hf : ∀ j, Listed l j → j < p) (hp : p ≤ n) : n - p ≤ left n l := by
  unfold left
  have e : List.range n = List.range' 0 p ++ List.range' p (n - p) := by
    rw [List.range_eq_range', show n = p + (n - p) by omega, ← List.range'_append_1]
    simp
  rw [e, List.countP_append]
  have : (List.range' p (n - p)).countP (fun i => !(l.getD i false)) = (List.range' p (n - p)).length := by
    rw [List.countP_eq_length]
    intro j hj
    have hj' : p ≤ j := by have := List.mem_range'_1.1 hj; omega
    cases h : l.getD j false with
    | false => rfl
    | true => have := hf j h; omega
  rw [this, List.length_range']
  omega
theorem any_ok (hst : Stab I) (HK : ∀ g, Meets P I g (K g)) (hT : Trail P I ops base p σ xs es) (hC : Chk ops p) (h0 : (σ 0).heap.length = base + ops.size) (hz0 : ∀ b, b < base → (σ 0).heap[b]? = H0[b]?) (hz : ∀ j, j < ops.size → (σ 0).heap[base + j]? = some none)
    {Q : Exit → Act → World → Prop} {k : St → Option DV} {r : DV} {N : Nat} {w0 : World} (hk : pevOps P K ops (List.range' p (ops.size - p)) (σ p) k = some r) : ∀ (fuel : Nat) (l : Array Bool) (D : Nat → Option Nat) (U : Nat → Prop) (H' : List (Option Blk)) (a : Act) (w : World),
    Inv I ops base p σ H0 N w0 l D U H' a w → Closed ops l → left ops.size l ≤ fuel →
    (∀ s' D' U' a' w', k s' = some r → Rel I D' U' N w0 s' a' w' → Onward D U w D' U' w' → Q .normal a' w') → wpAny P .any ops Q fuel l a w := by
  intro fuel
  induction fuel with
  | zero =>
    intro l D U H' a w hI hc hf hQ
    have hall := all_of_left (Nat.le_zero.1 hf)
    have hp : p = ops.size := by have := left_ge hI.first hC.le; have := hC.le; omega
    refine tail_ok hst HK hC 0 p (Nat.le_refl _) (by omega) 0 (by omega) l hI.lsize (fun j hj => ⟨fun h => hI.first j h, fun _ => hall j hj⟩) (σ p) D U a w ?_ (hI.last hT hC h0 hz0 hz (fun j hj => hall j (by omega))) hQ
    rw [show ops.size - p = 0 by omega] at hk
    exact hk
  | succ fuel ih =>
    intro l D U H' a w hI hc hf hQ
    by_cases hall : ∀ j, j < p → Listed l j
    · exact tail_ok hst HK hC (ops.size - p) p (Nat.le_refl _) (by have := hC.le; omega) (fuel + 1) (Nat.le_trans (left_ge hI.first hC.le) hf) l hI.lsize (fun j hj => ⟨fun h => hI.first j h, fun h => hall j h⟩) (σ p) D U a w hk (hI.last hT hC h0 hz0 hz hall) hQ
    · have hle := hC.le
      refine ⟨fun hr => absurd (fun j hj => all_of_stuck hI.lsize hC.back hr j (by omega)) hall, fun i hi => ?_⟩
      obtain ⟨hnl, o, ho, _⟩ := (mem_ready hI.lsize).1 hi
      have his := (Array.getElem?_eq_some_iff.1 ho).1
      have hip : i < p := by
        rcases Nat.lt_or_ge i p with h | h
        · exact h
        · refine absurd (fun j hj => ?_) hall
          rcases hC.pair j i _ o (by omega) (Array.getElem?_eq_getElem (show j < ops.size by omega)) ho with ⟨h', _⟩ | hanc
          · omega
          · exact hanc.ready hI.lsize hc hi
      obtain ⟨o', ts1, ho', hle, he, hcase⟩ := (hT i hip).ok
      rw [ho] at ho'; cases ho'
      have hlen : base + i < H'.length := by rw [hI.len]; omega
      have hdn : D (base + i) = none := by
        cases hd : D (base + i) with
        | none => rfl
        | some kk =>
          obtain ⟨_, _, vs, g⟩ := hI.wr.own _ kk hd
          have := (hI.heap (base + i)).2.2 (by omega) (by rw [Nat.add_sub_cancel_left]; exact hnl) (by omega)
          rw [this] at g; cases g
      have hop := hI.operand hT hC hc hi hip ho
      have hlft : left ops.size (l.setIfInBounds i true) ≤ fuel := by have := left_set his hI.lsize hnl; omega
      have hc' := hc.set hI.lsize hi
      have hsz : a.tmps.size = (σ i).n := by rw [hI.size, hT.n_same i (by omega)]
      unfold wpOp
      rw [ho]
      simp only []
      rcases hcase with ⟨hg, hok⟩ | ⟨hg, hx, heff⟩
      · have hw := hg.real (D := D) (U := U) (w := w) (a := a) hsz hop
        simp only [hw, if_true]
        left
        have hcompat : Compat (σ i).heap H' := by
          intro b cs cs' h1 h2
          obtain ⟨hb1, hb2, hb3⟩ := hI.heap b
          rcases Nat.lt_or_ge b base with h | h
          · rw [hb1 h, ← hz0 b h] at h2
            have := hT.heap_at h0 hC.le b i 0 (by omega) (fun j h1 h2 => by omega)
            rw [Nat.zero_add] at this
            rw [this, h2] at h1
            simpa using h1.symm
          · by_cases hl : Listed l (b - base)
            · rw [hb2 h hl] at h2
              have hlt : b - base < i := by
                rcases Nat.lt_or_ge (b - base) i with h' | h'
                · exact h'
                · exfalso
                  have := hT.heap_at h0 hC.le b i 0 (by omega) (fun j h1 h2 => by omega)
                  rw [Nat.zero_add] at this
                  rw [this] at h1
                  have hbl : b < base + ops.size := by have := hI.first _ hl; omega
                  have := hz (b - base) (by omega)
                  rw [show base + (b - base) = b by omega] at this
                  rw [this] at h1; cases h1
              obtain ⟨m, hm⟩ : ∃ m, p = i + m := ⟨p - i, by omega⟩
              have := hT.heap_at h0 hC.le b m i (by omega) (fun j h1 h2 => by omega)
              rw [← hm] at this
              rw [this, h1] at h2
              simpa using h2
            · have hbl : b < base + ops.size := by
                have := (List.getElem?_eq_some_iff.1 h2).1
                rw [hI.len] at this; exact this
              rw [hb3 h hl hbl] at h2; cases h2
        refine hok D U N w0 H' w a _ Q (hst w0 w hI.i0 (hI.base ▸ hI.wr.below)) hcompat hI.wr hI.n hdn (by omega) (fun y hy => evalV_rep hsz y fun t ht v h2 => hle.rep (hop t ?_ v h2)) ?_
        · unfold Oper.looksAt
          exact List.mem_append_left _ (List.mem_filterMap.2 ⟨.tmp t, by rw [← ht]; simpa using hy, rfl⟩)
        · intro v w' D' U' hon hW' _ hx
          refine ih _ D' U' _ _ w' (hI.next hT hC h0 hz hc hi hip ho he hon hW' hx) hc' hlft ?_
          intro s' D'' U'' a' w'' hk' hR' hon'
          exact hQ s' D'' U'' a' w'' hk' hR' (hon.trans hon')
      · have hw := hg.real (D := D) (U := U) (w := w) (a := a) hsz hop
        simp only [hw, Bool.false_eq_true, if_false]
        have hn := hI.next hT hC h0 hz hc hi hip ho he (v := undef) (w' := w) Onward.refl (by rw [heff]; exact hI.wr) (by rw [hx]; exact .val _)
        rw [heff] at hn
        exact ih _ D U _ _ w hn hc' hlft hQ
end any
end Go.Pv
namespace Go.Pv
open Go Go.RowKit

def Nat1 {X : Type} (f : (X → Option DV) → Option DV) : Prop := ∀ k r, f k = some r → ∃ x, k x = some r ∧ ∀ k', f k' = k' x
def Nat2 {X Y : Type} (f : (X → Y → Option DV) → Option DV) : Prop := ∀ k r, f k = some r → ∃ x y, k x y = some r ∧ ∀ k', f k' = k' x y
end Go.Pv
namespace Go.Pv
open Go Go.RowKit

abbrev LTab := Nat → Option (St → KC → Option DV)
def lookL (L : LTab) (b : Code) : Option (St → KC → Option DV) := match firstReg b with | some i => L i | none => none
def noL : LTab := fun _ => none
def ltab : List (Nat × (St → KC → Option DV)) → LTab
  | [], _ => none
  | (h, R) :: l, i => bif Nat.beq i h then some R else ltab l i
def RGood (P : Program) (I : World → Prop) (b : Code) (R : St → KC → Option DV) : Prop := (∀ s k r, R s k = some r → Sound P I (.loop b) s k r) ∧ ∀ s, Nat2 (R s)
def loopsOf : Code → List Code
  | .seq a b => loopsOf a ++ loopsOf b
  | .cond _ a b => loopsOf a ++ loopsOf b
  | .block _ b => loopsOf b
  | .loop b => b :: loopsOf b
  | _ => []
def LGood (P : Program) (I : World → Prop) (L : LTab) (c : Code) : Prop := ∀ b ∈ loopsOf c, ∀ R, lookL L b = some R → RGood P I b R
theorem LGood.none (P : Program) (I : World → Prop) (c : Code) : LGood P I noL c := by
  intro b _ R h
  unfold lookL noL at h
  split at h <;> cases h
theorem LGood.left {P : Program} {I : World → Prop} {L : LTab} {a b : Code} (h : LGood P I L (.seq a b)) : LGood P I L a := fun x hx => h x (by simp [loopsOf, hx])
theorem LGood.right {P : Program} {I : World → Prop} {L : LTab} {a b : Code} (h : LGood P I L (.seq a b)) : LGood P I L b := fun x hx => h x (by simp [loopsOf, hx])
theorem LGood.yes {P : Program} {I : World → Prop} {L : LTab} {o : Operand} {a b : Code} (h : LGood P I L (.cond o a b)) : LGood P I L a := fun x hx => h x (by simp [loopsOf, hx])
theorem LGood.no {P : Program} {I : World → Prop} {L : LTab} {o : Operand} {a b : Code} (h : LGood P I L (.cond o a b)) : LGood P I L b := fun x hx => h x (by simp [loopsOf, hx])
theorem LGood.block {P : Program} {I : World → Prop} {L : LTab} {i : Nat} {b : Code} (h : LGood P I L (.block i b)) : LGood P I L b := fun x hx => h x (by simp [loopsOf, hx])
theorem LGood.body {P : Program} {I : World → Prop} {L : LTab} {b : Code} (h : LGood P I L (.loop b)) : LGood P I L b := fun x hx => h x (by simp [loopsOf, hx])
theorem LGood.here {P : Program} {I : World → Prop} {L : LTab} {b : Code} (h : LGood P I L (.loop b)) {R : St → KC → Option DV} (hR : lookL L b = some R) : RGood P I b R := h b (by simp [loopsOf]) R hR
theorem lgood_nil {P : Program} {I : World → Prop} {L : LTab} : ∀ b ∈ ([] : List Code), ∀ R, lookL L b = some R → RGood P I b R := by intro b h; cases h
theorem lgood_cons {P : Program} {I : World → Prop} {L : LTab} {b : Code} {l : List Code} {R : St → KC → Option DV} (h1 : lookL L b = some R) (h2 : RGood P I b R) (h3 : ∀ b ∈ l, ∀ R, lookL L b = some R → RGood P I b R) : ∀ x ∈ b :: l, ∀ R, lookL L x = some R → RGood P I x R := by
  intro x hx R' hR'
  rcases List.mem_cons.1 hx with rfl | hx
  · rw [h1] at hR'; cases hR'; exact h2
  · exact h3 x hx R' hR'
theorem lgood_skip {P : Program} {I : World → Prop} {L : LTab} {b : Code} {l : List Code} (h1 : lookL L b = none) (h3 : ∀ b ∈ l, ∀ R, lookL L b = some R → RGood P I b R) : ∀ x ∈ b :: l, ∀ R, lookL L x = some R → RGood P I x R := by
  intro x hx R' hR'
  rcases List.mem_cons.1 hx with rfl | hx
  · rw [h1] at hR'; cases hR'
  · exact h3 x hx R' hR'

def SLe (s s' : St) : Prop := Le s.tmps s'.tmps ∧ s'.n = s.n ∧ s'.heap = s.heap
theorem sound_le {P : Program} {I : World → Prop} {c : Code} {s s' : St} {k : KC} {r : DV} (h : SLe s s') (hs : Sound P I c s' k r) : Sound P I c s k r := by
  intro D U N w0 a w Q hR hQ
  refine hs D U N w0 a w Q ⟨?_, ?_, hR.n, hR.i0, hR.base⟩ hQ
  · rw [h.2.1]; exact hR.t.le h.1
  · rw [h.2.2]; exact hR.wr
noncomputable def packIds (ts : Tr) : List Nat → List Nat → List Nat
  | [], acc => acc
  | i :: is, acc => match ts.get i with
    | .ptr b _ => bif acc.any (Nat.beq b) then packIds ts is acc else packIds ts is (acc ++ [b])
    | .osl _ _ b _ _ => bif acc.any (Nat.beq b) then packIds ts is acc else packIds ts is (acc ++ [b])
    | _ => packIds ts is acc
def posOf (b : Nat) : List Nat → Nat → Option Nat
  | [], _ => none
  | x :: l, i => bif Nat.beq b x then some i else posOf b l (i + 1)
def packV (ids : List Nat) : VV → VV
  | .ptr b o => match posOf b ids 0 with | some j => .ptr j o | none => .dead
  | .osl e sz b o n => match posOf b ids 0 with | some j => .osl e sz j o n | none => .dead
  | x => x
noncomputable def packT (ts : Tr) (ids : List Nat) : List Nat → Tr → Tr
  | [], acc => acc
  | i :: is, acc => packT ts ids is (acc.put i (packV ids (ts.get i)))
noncomputable def packTK (ts : Tr) (ids : List Nat) : List Nat → Tr → (Tr → Option DV) → Option DV
  | [], acc, k => k acc
  | i :: is, acc, k => putC 12 acc i (packV ids (ts.get i)) fun acc' => packTK ts ids is acc' k
theorem packTK_eq (ts : Tr) (ids : List Nat) : ∀ (is : List Nat) (acc : Tr) (k : Tr → Option DV), packTK ts ids is acc k = k (packT ts ids is acc)
  | [], _, _ => rfl
  | i :: is, acc, k => by
    simp only [packTK, packT]
    rw [putC_eq]
    exact packTK_eq ts ids is _ k
def packH (H : List (Option Blk)) (ids : List Nat) : List (Option Blk) := ids.map fun b => match H[b]? with | some x => x | none => none
noncomputable def packS (live : List Nat) (s : St) : St := ⟨packT s.tmps (packIds s.tmps live []) live (.leaf .dead), s.n, packH s.heap (packIds s.tmps live [])⟩
noncomputable def frcN {R : Type} (l : List Nat) : (List Nat → R) → R :=
  List.rec (motive := fun _ => (List Nat → R) → R) (fun k => k []) (fun x _ ih k => ih fun ys => k (x :: ys)) l
theorem frcN_eq {R : Type} : ∀ (l : List Nat) (k : List Nat → R), frcN l k = k l
  | [], _ => rfl
  | x :: xs, k => frcN_eq xs (fun ys => k (x :: ys))
noncomputable def packK (live : List Nat) (s : St) (k : St → Option DV) : Option DV := match s with
  | ⟨ts, n, h⟩ => frcN (packIds ts live []) fun ids => packTK ts ids live (.leaf .dead) fun ts => frc (packH h ids) fun h => k ⟨ts, n, h⟩
theorem packK_eq (live : List Nat) (s : St) (k : St → Option DV) : packK live s k = k (packS live s) := by
  cases s
  unfold packK packS
  simp only [packTK_eq, frc_eq, frcN_eq]
theorem packIds_nodup (ts : Tr) : ∀ (is acc : List Nat), acc.Nodup → (packIds ts is acc).Nodup
  | [], acc, h => h
  | i :: is, acc, h => by
    have add : ∀ b, acc.any (Nat.beq b) = false → (acc ++ [b]).Nodup := by
      intro b hb
      refine List.nodup_append.2 ⟨h, by simp, ?_⟩
      intro x hx y hy e
      simp at hy
      subst hy
      subst e
      rw [List.any_eq_false] at hb
      exact hb x hx (Nat.beq_refl x)
    simp only [packIds]
    split
    · rename_i b o e
      cases hb : acc.any (Nat.beq b) with
      | true => exact packIds_nodup ts is acc h
      | false => exact packIds_nodup ts is _ (add b hb)
    · rename_i e' sz b o n e
      cases hb : acc.any (Nat.beq b) with
      | true => exact packIds_nodup ts is acc h
      | false => exact packIds_nodup ts is _ (add b hb)
    · exact packIds_nodup ts is acc h
theorem posOf_get (b : Nat) : ∀ (l : List Nat) (i j : Nat), posOf b l i = some j → ∃ m, j = i + m ∧ l[m]? = some b
  | [], i, j, h => by cases h
  | x :: l, i, j, h => by
    simp only [posOf] at h
    cases hb : Nat.beq b x with
    | true =>
      have := Nat.eq_of_beq_eq_true hb
      subst this
      rw [hb] at h
      simp at h
      exact ⟨0, by omega, rfl⟩
    | false =>
      rw [hb] at h
      simp only [cond_false] at h
      obtain ⟨m, h1, h2⟩ := posOf_get b l (i + 1) j h
      exact ⟨m + 1, by omega, by simpa using h2⟩
def packD (D : Nat → Option Nat) (ids : List Nat) : Nat → Option Nat := fun j => match ids[j]? with | some b => D b | none => none
theorem packV_rep {U : Nat → Prop} {w : World} {D : Nat → Option Nat} (ids : List Nat) {x : VV} {v : Value} (h : VRep U w D x v) : VRep U w (packD D ids) (packV ids x) v := by
  cases x with
  | dv d => exact h
  | dead => trivial
  | eptr cs => exact h
  | ptr b o =>
    simp only [packV]
    cases hp : posOf b ids 0 with
    | none => trivial
    | some j =>
      obtain ⟨m, h1, h2⟩ := posOf_get b ids 0 j hp
      have : j = m := by omega
      subst this
      obtain ⟨k, hk, e⟩ := h
      exact ⟨k, by simp [packD, h2, hk], e⟩
  | osl e sz b o n =>
    simp only [packV]
    cases hp : posOf b ids 0 with
    | none => trivial
    | some j =>
      obtain ⟨m, h1, h2⟩ := posOf_get b ids 0 j hp
      have : j = m := by omega
      subst this
      obtain ⟨k, c, cur, hk, hc, hh, hs, e⟩ := h
      exact ⟨k, c, cur, by simp [packD, h2, hk], hc, hh, hs, e⟩
theorem packT_get (ts : Tr) (ids : List Nat) : ∀ (is : List Nat) (acc : Tr), (∀ t, acc.get t = .dead ∨ acc.get t = packV ids (ts.get t)) → ∀ t, (packT ts ids is acc).get t = .dead ∨ (packT ts ids is acc).get t = packV ids (ts.get t)
  | [], acc, h, t => h t
  | i :: is, acc, h, t => by
    refine packT_get ts ids is _ (fun t => ?_) t
    rcases Tr.get_put acc i (packV ids (ts.get i)) t with e | e
    · rw [e]; split
      · rename_i e; rw [e]; exact .inr rfl
      · exact h t
    · exact .inl e
theorem packH_get (H : List (Option Blk)) (ids : List Nat) (j : Nat) (B : Blk) (h : (packH H ids)[j]? = some (some B)) : ∃ b, ids[j]? = some b ∧ H[b]? = some (some B) := by
  simp only [packH, List.getElem?_map, Option.map_eq_some_iff] at h
  obtain ⟨b, h1, h2⟩ := h
  refine ⟨b, h1, ?_⟩
  split at h2
  · rename_i x hx; rw [hx, h2]
  · cases h2
theorem nodup_ne : ∀ {l : List Nat}, l.Nodup → ∀ {i j a b : Nat}, l[i]? = some a → l[j]? = some b → i < j → a ≠ b
  | [], _, i, j, a, b, h, _, _ => by simp at h
  | x :: l, hn, i, j, a, b, h, h', hij => by
    obtain ⟨h1, h2⟩ := List.nodup_cons.1 hn
    cases j with
    | zero => omega
    | succ j =>
      simp only [List.getElem?_cons_succ] at h'
      cases i with
      | zero => simp at h; subst h; intro e; subst e; exact h1 (List.mem_of_getElem? h')
      | succ i => simp only [List.getElem?_cons_succ] at h; exact nodup_ne h2 h h' (by omega)
theorem Rel.pack {I : World → Prop} {D : Nat → Option Nat} {U : Nat → Prop} {N : Nat} {w0 : World} {s : St} {a : Act} {w : World} (h : Rel I D U N w0 s a w) (live : List Nat) : Rel I (packD D (packIds s.tmps live [])) U N w0 (packS live s) a w := by
  have hnd := packIds_nodup s.tmps live [] (by simp)
  refine ⟨⟨h.t.1, h.t.2.1, fun t v h2 => ?_⟩, ⟨h.wr.below, h.wr.old, ?_, ?_, ?_, ?_⟩, h.n, h.i0, h.base⟩
  · simp only [packS]
    rcases packT_get s.tmps (packIds s.tmps live []) live (.leaf .dead) (fun t => .inl rfl) t with e | e
    · rw [e]; trivial
    · rw [e]; exact packV_rep _ (h.t.2.2 t v h2)
  · intro j k hb
    unfold packD at hb
    split at hb <;> try (cases hb; done)
    rename_i b hj
    obtain ⟨g1, g2, B, g3⟩ := h.wr.own b k hb
    exact ⟨g1, g2, B, by simp only [packS, packH, List.getElem?_map, hj, Option.map_some, g3]⟩
  · intro j k vs hb hH
    unfold packD at hb
    split at hb <;> try (cases hb; done)
    rename_i b hj
    obtain ⟨b', h1, h2⟩ := packH_get _ _ _ _ hH
    rw [hj] at h1; cases h1
    exact h.wr.hold b k vs hb h2
  · intro j B hH
    obtain ⟨b', h1, h2⟩ := packH_get _ _ _ _ hH
    obtain ⟨k, hk⟩ := h.wr.all b' B h2
    exact ⟨k, by simp [packD, h1, hk]⟩
  · intro j j' k vs vs' hH hH' hb hb'
    obtain ⟨b, h1, h2⟩ := packH_get _ _ _ _ hH
    obtain ⟨b', h1', h2'⟩ := packH_get _ _ _ _ hH'
    simp only [packD, h1] at hb
    simp only [packD, h1'] at hb'
    have := h.wr.inj b b' k vs vs' h2 h2' hb hb'
    subst this
    rcases Nat.lt_trichotomy j j' with hlt | he | hlt
    · exact absurd rfl (nodup_ne hnd h1 h1' hlt)
    · exact he
    · exact absurd rfl (nodup_ne hnd h1' h1 hlt)
theorem sound_pack {P : Program} {I : World → Prop} {c : Code} {s : St} {k : KC} {r : DV} (live : List Nat) (h : Sound P I c (packS live s) k r) : Sound P I c s k r := by
  intro D U N w0 a w Q hR hQ
  exact h _ U N w0 a w Q (hR.pack live) hQ
def outOf (lv : List (Nat × List Nat)) (c : Code) (n : Nat) : List Nat :=
  match firstReg c with
  | some i => match lv.find? (fun p => Nat.beq p.1 (i + 100000)) with | some p => p.2 | none => List.range n
  | none => List.range n

noncomputable def contL (live out : List Nat) (κn : St → Option DV) (κ : KC) : KC := fun e s' => match e with
  | .normal => packK live s' κn
  | .exit i => packK out s' fun s => κ (.exit i) s
  | .ret => packK out s' fun s => κ .ret s
noncomputable def loopT (body : St → KC → Option DV) (live out : List Nat) : Nat → St → KC → Option DV
  | 0, _, _ => none
  | n + 1, s, k => body s (contL live out (fun s' => loopT body live out n s' k) k)

theorem loopT_ok {P : Program} {I : World → Prop} {c : Code} {body : St → KC → Option DV} (hb : ∀ s k r, body s k = some r → Sound P I c s k r) (live out : List Nat) (n : Nat) (s : St) (k : KC) (r : DV)
    (h : loopT body live out n s k = some r) : Sound P I (.loop c) s k r := by
  intro D U N w0 a w Q hR hQ b kk cs
  have key : ∀ (n : Nat) (s : St) (D1 : Nat → Option Nat) (U1 : Nat → Prop) (a1 : Act) (w1 : World), loopT body live out n s k = some r → Rel I D1 U1 N w0 s a1 w1 → OnwardW U w U1 w1 →
      ∃ e a' w', Q e a' w' ∧ Arrives P (lone (b.at a1 (.code c :: .inLoop c :: kk)) cs w1) b kk cs e a' w' := by
    intro n
    induction n with
    | zero => intro s D1 U1 a1 w1 h; simp [loopT] at h
    | succ n ih =>
      intro s D1 U1 a1 w1 h hR1 hon
      simp only [loopT] at h
      obtain ⟨e, a2, w2, hq, harr⟩ := hb _ _ r h _ U1 N w0 a1 w1
        (fun e a' w' => match e with
          | .normal => ∃ s' D' U', loopT body live out n s' k = some r ∧ Rel I D' U' N w0 s' a' w' ∧ OnwardW U w U' w'
          | e => Q e a' w') hR1
        (fun e s' D' U' a' w' hk hR' hon' => by
          have hon2 := hon.trans hon'
          cases e with
          | normal =>
            simp only [contL, packK_eq] at hk
            exact ⟨_, _, U', hk, hR'.pack live, hon2⟩
          | exit i =>
            simp only [contL, packK_eq] at hk
            exact hQ (.exit i) _ _ U' a' w' hk (hR'.pack out) hon2
          | ret =>
            simp only [contL, packK_eq] at hk
            exact hQ .ret _ _ U' a' w' hk (hR'.pack out) hon2) b (.inLoop c :: kk) cs
      cases e with
      | normal =>
        obtain ⟨s', D', U', hl, hR', hon'⟩ := hq
        obtain ⟨e3, a3, w3, hq3, harr3⟩ := ih s' D' U' a2 w2 hl hR' hon'
        exact ⟨e3, a3, w3, hq3, .of_steps (Steps.trans harr (.one step_inLoop)) harr3⟩
      | exit id => exact ⟨_, a2, w2, hq, .pass (x := .inLoop c) rfl (fun _ _ => .inl (by simp)) harr⟩
      | goto l => exact ⟨_, a2, w2, hq, .pass (x := .inLoop c) rfl (fun _ _ => .inl (by simp)) harr⟩
      | ret => exact ⟨_, a2, w2, hq, .pass (x := .inLoop c) rfl (fun _ _ => .inl (by simp)) harr⟩
      | panic ch => exact ⟨_, a2, w2, hq, .pass (x := .inLoop c) rfl (fun _ _ => .inl (by simp)) harr⟩
      | outgrown => exact ⟨_, a2, w2, hq, .pass (x := .inLoop c) rfl (fun _ _ => .inl (by simp)) harr⟩
  obtain ⟨e, a', w', hq, harr⟩ := key n s D U a w h hR OnwardW.refl
  exact ⟨e, a', w', hq, .of_steps (.one step_loop) harr⟩
theorem loopT_nat {body : St → KC → Option DV} (hb : ∀ s, Nat2 (body s)) (live out : List Nat) : ∀ (n : Nat) (s : St), Nat2 (loopT body live out n s)
  | 0, s => fun k r h => by simp [loopT] at h
  | n + 1, s => by
    intro k r h
    simp only [loopT] at h ⊢
    obtain ⟨e, s', h1, h2⟩ := hb _ _ r h
    cases e with
    | normal =>
      simp only [contL, packK_eq] at h1
      obtain ⟨e', s'', h3, h4⟩ := loopT_nat hb live out n _ k r h1
      exact ⟨e', s'', h3, fun k' => (h2 _).trans (by simp only [contL, packK_eq]; exact h4 k')⟩
    | exit i => simp only [contL, packK_eq] at h1; exact ⟨.exit i, _, h1, fun k' => (h2 _).trans (by simp only [contL, packK_eq])⟩
    | ret => simp only [contL, packK_eq] at h1; exact ⟨.ret, _, h1, fun k' => (h2 _).trans (by simp only [contL, packK_eq])⟩

def LF {X C : Type} (F : X → (X → Option DV) → C → Option DV) : Nat → X → C → Option DV
  | 0, _, _ => none
  | n + 1, x, c => F x (fun x' => LF F n x' c) c
theorem loopT_LF {X C : Type} {body : St → KC → Option DV} {live out : List Nat} {S : X → St} {oc : KC → C} {F : X → (X → Option DV) → C → Option DV}
    (heq : ∀ x κn κ, body (S x) (contL live out κn κ) = F x (fun x' => κn (S x')) (oc κ)) : ∀ (n : Nat) (x : X) (k : KC), loopT body live out n (S x) k = LF F n x (oc k)
  | 0, _, _ => rfl
  | n + 1, x, k => by
    simp only [loopT, LF, heq]
    congr 1
    funext x'
    exact loopT_LF heq n x' k
theorem rgood_of {P : Program} {I : World → Prop} {X C : Type} {b : Code} {body : St → KC → Option DV} (hb : ∀ s k r, body s k = some r → Sound P I b s k r) (hn : ∀ s, Nat2 (body s)) {live out : List Nat} {S : X → St} {oc : KC → C} {F : X → (X → Option DV) → C → Option DV}
    (heq : ∀ x κn κ, body (S x) (contL live out κn κ) = F x (fun x' => κn (S x')) (oc κ))
    {R : St → KC → Option DV} (hR : ∀ s, (∀ k, R s k = none) ∨ ∃ n x, SLe s (S x) ∧ ∀ k, R s k = LF F n x (oc k)) : RGood P I b R := by
  constructor
  · intro s k r h
    rcases hR s with h0' | ⟨n, x, hle, h1⟩
    · rw [h0'] at h; cases h
    · rw [h1, ← loopT_LF heq] at h
      exact sound_le hle (loopT_ok hb live out n _ k r h)
  · intro s k r h
    rcases hR s with h0' | ⟨n, x, hle, h1⟩
    · rw [h0'] at h; cases h
    · rw [h1, ← loopT_LF heq] at h
      obtain ⟨e, s', h2, h3⟩ := loopT_nat hn live out n _ k r h
      exact ⟨e, s', h2, fun k' => by rw [h1, ← loopT_LF heq]; exact h3 k'⟩

noncomputable def mkT : List (Nat × VV) → Tr → Tr
  | [], acc => acc
  | (i, v) :: l, acc => mkT l (acc.put i v)
def AllG (ts : Tr) : List (Nat × VV) → Prop
  | [] => True
  | (i, v) :: l => (v = .dead ∨ ts.get i = v) ∧ AllG ts l
theorem le_mkT {ts : Tr} : ∀ (l : List (Nat × VV)) (acc : Tr), Le ts acc → AllG ts l → Le ts (mkT l acc)
  | [], acc, h, _ => h
  | (i, v) :: l, acc, h, hl => by
    refine le_mkT l _ (fun t => ?_) hl.2
    rcases Tr.get_put acc i v t with e | e
    · rw [e]; split
      · rename_i e; subst e; exact hl.1.elim (fun h => .inr h) (fun h => .inl h.symm)
      · exact h t
    · exact .inr e
theorem Le.dead (ts : Tr) : Le ts (.leaf .dead) := fun _ => .inr rfl

def bindO {α β : Type} (o : Option α) (f : α → Option β) : Option β := match o with | some a => f a | none => none
theorem bindO_some {α β : Type} {o : Option α} {f : α → Option β} {b : β} (h : bindO o f = some b) : ∃ a, o = some a ∧ f a = some b := by
  unfold bindO at h
  split at h
  · rename_i a; exact ⟨a, rfl, h⟩
  · cases h
def orO {α : Type} (a b : Option α) : Option α := match a with | some x => some x | none => b
theorem orO_some {α : Type} {a b : Option α} {x : α} (h : orO a b = some x) : a = some x ∨ b = some x := by
  unfold orO at h
  split at h
  · exact .inl h
  · exact .inr h
def xD (x : VV) : Option DV := match x with | .dv d => some d | _ => none
def xI (kd : IntKind) (d : DV) : Option Int := match d with | .val (.int kd' n) => bif decide (kd' = kd) then some n else none | _ => none
def xB (d : DV) : Option Bool := match d with | .val (.bool b) => some b | _ => none
def xS (d : DV) : Option ByteArray := match d with | .val (.string s) => some s | _ => none
def xL (sz : Nat) (d : DV) : Option (List (List DV)) := match d with | .lst sz' es => bif Nat.beq sz' sz then some es else none | _ => none
def xNil (d : DV) : Option Unit := match d with | .val (.slice none 0 0) => some () | _ => none
def xF (g : Nat) (d : DV) : Option Unit := match d with | .val (.func (.func g') ⟨[]⟩ ⟨[]⟩) => bif Nat.beq g' g then some () else none | _ => none
def xU (d : DV) : Option Unit := match d with | .val (.tuple ⟨[]⟩) => some () | _ => none
def xP (b o : Nat) (x : VV) : Option Unit := match x with | .ptr b' o' => bif Nat.beq b' b && Nat.beq o' o then some () else none | _ => none
def xO (e sz b o : Nat) (x : VV) : Option Nat := match x with | .osl e' sz' b' o' n => bif Nat.beq e' e && Nat.beq sz' sz && Nat.beq b' b && Nat.beq o' o then some n else none | _ => none
def xN (m n : Nat) : Option Unit := bif Nat.beq m n then some () else none
def xBlk (h : List (Option Blk)) : Option (List DV × List (Option Blk)) := match h with | some (.cells cs) :: t => some (cs, t) | _ => none
def xGone (h : List (Option Blk)) : Option (List (Option Blk)) := match h with | some .gone :: t => some t | _ => none
def xEnd {α : Type} (h : List α) : Option Unit := match h with | [] => some () | _ => none
def xUn {α : Type} (h : List α) : Option (α × List α) := match h with | x :: t => some (x, t) | _ => none
theorem xD_eq {x : VV} {d : DV} (h : xD x = some d) : x = .dv d := by unfold xD at h; split at h <;> simp_all
theorem xI_eq {kd : IntKind} {d : DV} {n : Int} (h : xI kd d = some n) : d = .val (.int kd n) := by
  unfold xI at h
  split at h
  · rename_i kd' m
    by_cases e : kd' = kd
    · subst e; simp at h; subst h; rfl
    · simp [e] at h
  · cases h
theorem xB_eq {d : DV} {b : Bool} (h : xB d = some b) : d = .val (.bool b) := by unfold xB at h; split at h <;> simp_all
theorem xS_eq {d : DV} {b : ByteArray} (h : xS d = some b) : d = .val (.string b) := by unfold xS at h; split at h <;> simp_all
theorem xL_eq {sz : Nat} {d : DV} {es : List (List DV)} (h : xL sz d = some es) : d = .lst sz es := by
  unfold xL at h
  split at h
  · rename_i sz' es'
    cases hb : Nat.beq sz' sz with
    | true => have := Nat.eq_of_beq_eq_true hb; subst this; rw [hb] at h; simp at h; subst h; rfl
    | false => rw [hb] at h; cases h
  · cases h
theorem xNil_eq {d : DV} {u : Unit} (h : xNil d = some u) : d = .val (.slice none 0 0) := by unfold xNil at h; split at h <;> simp_all
theorem xU_eq {d : DV} {u : Unit} (h : xU d = some u) : d = .val (.tuple ⟨[]⟩) := by unfold xU at h; split at h <;> simp_all
theorem xF_eq {g : Nat} {d : DV} {u : Unit} (h : xF g d = some u) : d = .val (.func (.func g) ⟨[]⟩ ⟨[]⟩) := by
  unfold xF at h
  split at h
  · rename_i g'
    cases hb : Nat.beq g' g with
    | true => have := Nat.eq_of_beq_eq_true hb; subst this; rfl
    | false => rw [hb] at h; cases h
  · cases h
theorem xP_eq {b o : Nat} {x : VV} {u : Unit} (h : xP b o x = some u) : x = .ptr b o := by
  unfold xP at h
  split at h
  · rename_i b' o'
    cases hb : (Nat.beq b' b && Nat.beq o' o) with
    | true =>
      simp only [Bool.and_eq_true] at hb
      have h1 := Nat.eq_of_beq_eq_true hb.1; have h2 := Nat.eq_of_beq_eq_true hb.2
      subst h1; subst h2; rfl
    | false => rw [hb] at h; cases h
  · cases h
theorem xO_eq {e sz b o : Nat} {x : VV} {n : Nat} (h : xO e sz b o x = some n) : x = .osl e sz b o n := by
  unfold xO at h
  split at h
  · rename_i e' sz' b' o' m
    cases hb : (Nat.beq e' e && Nat.beq sz' sz && Nat.beq b' b && Nat.beq o' o) with
    | true =>
      rw [hb] at h
      simp only [Bool.and_eq_true] at hb
      have h1 := Nat.eq_of_beq_eq_true hb.1.1.1; have h2 := Nat.eq_of_beq_eq_true hb.1.1.2; have h3 := Nat.eq_of_beq_eq_true hb.1.2; have h4 := Nat.eq_of_beq_eq_true hb.2
      subst h1; subst h2; subst h3; subst h4
      simp at h; subst h; rfl
    | false => rw [hb] at h; cases h
  · cases h
theorem xN_eq {m n : Nat} {u : Unit} (h : xN m n = some u) : m = n := by
  unfold xN at h
  cases hb : Nat.beq m n with
  | true => exact Nat.eq_of_beq_eq_true hb
  | false => rw [hb] at h; cases h
theorem xBlk_eq {h : List (Option Blk)} {p : List DV × List (Option Blk)} (e : xBlk h = some p) : h = some (.cells p.1) :: p.2 := by unfold xBlk at e; split at e <;> simp_all; subst e; exact ⟨rfl, rfl⟩
theorem xGone_eq {h t : List (Option Blk)} (e : xGone h = some t) : h = some .gone :: t := by unfold xGone at e; split at e <;> simp_all
theorem xEnd_eq {α : Type} {h : List α} {u : Unit} (e : xEnd h = some u) : h = [] := by unfold xEnd at e; split at e <;> simp_all
theorem xUn_eq {α : Type} {h : List α} {p : α × List α} (e : xUn h = some p) : h = p.1 :: p.2 := by unfold xUn at e; split at e <;> simp_all; subst e; exact ⟨rfl, rfl⟩
noncomputable def decR {X C : Type} (dec : St → Option X) (F : X → (X → Option DV) → C → Option DV) (φ : X → Nat) (oc : KC → C) : St → KC → Option DV :=
  fun s k => match dec s with | some x => LF F (φ x) x (oc k) | none => none
theorem rgood_dec {P : Program} {I : World → Prop} {X C : Type} {b : Code} {body : St → KC → Option DV} (hb : ∀ s k r, body s k = some r → Sound P I b s k r) (hn : ∀ s, Nat2 (body s)) {live out : List Nat} {S : X → St} {oc : KC → C} {F : X → (X → Option DV) → C → Option DV}
    (heq : ∀ x κn κ, body (S x) (contL live out κn κ) = F x (fun x' => κn (S x')) (oc κ))
    {dec : St → Option X} (hd : ∀ s x, dec s = some x → SLe s (S x)) (φ : X → Nat) : RGood P I b (decR dec F φ oc) :=
  rgood_of hb hn heq fun s => by
    cases hx : dec s with
    | none => exact .inl fun k => by simp only [decR, hx]
    | some x => exact .inr ⟨φ x, x, hd s x hx, fun k => by simp only [decR, hx]⟩
def loopB (c : Code) (i : Nat) : Code := (loopsOf c).getD i .skip
theorem lgood_of {P : Program} {I : World → Prop} {L : LTab} {c : Code} {bs : List Code} (h : loopsOf c = bs) (h2 : ∀ b ∈ bs, ∀ R, lookL L b = some R → RGood P I b R) : LGood P I L c := by
  intro b hb
  exact h2 b (h ▸ hb)
end Go.Pv
namespace Go.Pv
open Go Go.RowKit

def pairsB (ops : Array Oper) (p : Nat) (T : List (List Nat)) : Bool :=
  (List.range ops.size).all fun j => (List.range j).all fun i =>
    (Nat.blt j p && (match ops[i]?, ops[j]? with | some a, some b => a.apart ops b | _, _ => false)) || (T.getD j []).any (Nat.beq i)
def drawChk (ops : Array Oper) (p : Nat) : Bool := edgesBack 0 ops.toList && Nat.ble p ops.size && pairsB ops p (ancT ops)
theorem drawChk_ok {ops : Array Oper} {p : Nat} (h : drawChk ops p = true) : Chk ops p := by
  simp only [drawChk, Bool.and_eq_true] at h
  obtain ⟨⟨h1, h2⟩, h3⟩ := h
  refine ⟨h1, Nat.le_of_ble_eq_true h2, fun i j oi oj hij hi hj => ?_⟩
  have hjs := (Array.getElem?_eq_some_iff.1 hj).1
  have := List.all_eq_true.1 h3 j (by simpa using hjs)
  have := List.all_eq_true.1 this i (by simpa using hij)
  rw [Bool.or_eq_true] at this
  rcases this with h | h
  · left
    simp only [Bool.and_eq_true, hi, hj] at h
    exact ⟨Nat.le_of_ble_eq_true h.1, h.2⟩
  · right
    rw [List.any_eq_true] at h
    obtain ⟨x, hx, hb⟩ := h
    have := Nat.eq_of_beq_eq_true hb
    subst this
    exact ancT_sound ops j i hx
def isStore : Op → Bool
  | .store _ _ _ => true
  | .call c => match c.callee with | .builtin .append => true | _ => false
  | _ => false
def firstStore : List Oper → Nat
  | [] => 0
  | o :: os => bif isStore o.op then 0 else firstStore os + 1

theorem WRel.drew {D : Nat → Option Nat} {U : Nat → Prop} {N : Nat} {w0 w : World} {H : List (Option Blk)} (h : WRel D U N w0 H w) : WRel D U N w0 H w.drew := by
  refine ⟨h.below.drew, h.old, h.own, ?_, h.all, h.inj⟩
  intro b k vs hb hH
  obtain ⟨g2, cs, T, g3, g5, g6⟩ := h.hold b k vs hb hH
  exact ⟨g2, cs, T, g3, g5, fun i x v e1 e2 => (g6 i x v e1 e2).keep (w := w) (w' := w.drew) (fun _ h => h) (fun _ _ => rfl) (Nat.le_refl _)⟩
theorem onward_drew {D : Nat → Option Nat} {U : Nat → Prop} {w : World} : Onward D U w D U w.drew := ⟨fun _ _ h => h, fun _ h => h, fun _ _ => rfl, Nat.le_refl _, fun _ h => .inl h, fun _ _ cur _ _ _ h => ⟨cur, h, rfl⟩⟩
theorem Rel.drew {I : World → Prop} {D : Nat → Option Nat} {U : Nat → Prop} {N : Nat} {w0 : World} {s : St} {a : Act} {w : World} (h : Rel I D U N w0 s a w) : Rel I D U N w0 s a w.drew := ⟨h.t.onward onward_drew, h.wr.drew, h.n, h.i0, h.base⟩

noncomputable def drawK (P : Program) (K : Tab) (ops : Array Oper) (s : St) (k : St → Option DV) : Option DV :=
  match s with
  | ⟨ts, n, h⟩ => bif drawChk ops (firstStore ops.toList) then
    frc (h ++ List.replicate ops.size none) fun h' => parK P K ops h.length (List.range' 0 (firstStore ops.toList)) ⟨ts, n, h'⟩ fun s' =>
      pevOps P K ops (List.range' (firstStore ops.toList) (ops.size - firstStore ops.toList)) s' k
    else none
theorem drawK_eq (P : Program) (K : Tab) (ops : Array Oper) (s : St) (k : St → Option DV) : drawK P K ops s k = bif drawChk ops (firstStore ops.toList) then
    parK P K ops s.heap.length (List.range' 0 (firstStore ops.toList)) ⟨s.tmps, s.n, s.heap ++ List.replicate ops.size none⟩ fun s' =>
      pevOps P K ops (List.range' (firstStore ops.toList) (ops.size - firstStore ops.toList)) s' k
    else none := by
  cases s
  simp only [drawK, frc_eq]
theorem drawK_ok {P : Program} {I : World → Prop} (hm : P.follows .mixedOrders = true) (hst : Stab I) {K : Tab} (HK : ∀ g, Meets P I g (K g)) {id : Nat} {ops : Array Oper} {s : St} {k : KC} {r : DV} (h : drawK P K ops s (k .normal) = some r) : Sound P I (.region id ops true) s k r := by
  rw [drawK_eq] at h
  generalize hp : firstStore ops.toList = p at h
  cases hc : drawChk ops p with
  | false => simp [hc] at h
  | true =>
    simp only [hc, cond_true] at h
    have hC := drawChk_ok hc
    intro D U N w0 a w Q hR hQ
    obtain ⟨σ, xs, es, h1, h2, h3⟩ := parK_trace HK p 0 _ h
    rw [Nat.zero_add] at h2
    have hT : Trail P I ops s.heap.length p σ xs es := fun j hj => h3 j (by omega) (by omega)
    refine wp_region_any hm (any_ok (N := N) (w0 := w0) hst HK hT hC (H0 := s.heap) (by rw [h1]; simp) (fun b hb => by rw [h1]; simp only []; rw [List.getElem?_append_left hb]) (fun j hj => by rw [h1]; simp only []; rw [List.getElem?_append_right (by omega)]; simp [hj]) h2
      ops.size (Array.replicate ops.size false) D U (σ 0).heap a w.drew ?_ ?_ ?_ ?_)
    · have hnl : ∀ j, ¬ Listed (Array.replicate ops.size false) j := by
        intro j hl
        unfold Listed at hl
        rw [Array.getD_eq_getD_getElem?, Array.getElem?_replicate] at hl
        split at hl <;> simp at hl
      have hR' := hR.drew
      refine ⟨hR.t.1, by rw [h1]; exact hR.t.2.1, ?_, by rw [h1]; simp, ?_, ?_, hR'.n, by simp, fun j hl => absurd hl (hnl j), hR'.i0, hR'.base⟩
      · intro t
        refine ⟨0, by omega, ?_, fun j o hl => absurd hl (hnl j), fun i' hi' => by omega⟩
        intro v e2
        rw [h1]
        exact hR'.t.2.2 t v e2
      · intro b
        rw [h1]
        refine ⟨fun hb => by simp only []; rw [List.getElem?_append_left hb], fun _ hl => absurd hl (hnl _), fun hb _ hb2 => ?_⟩
        simp only []
        rw [List.getElem?_append_right hb, List.getElem?_replicate, if_pos (by omega)]
      · rw [h1]
        have g := hR'.wr
        refine ⟨g.below, g.old, ?_, ?_, ?_, ?_⟩
        · intro b kk hb
          obtain ⟨g1, g2, B, g4⟩ := g.own b kk hb
          have hlt := (List.getElem?_eq_some_iff.1 g4).1
          exact ⟨g1, g2, B, by simp only []; rw [List.getElem?_append_left hlt]; exact g4⟩
        · intro b kk vs hb hH
          obtain ⟨g1, g2, B, g4⟩ := g.own b kk hb
          have hlt := (List.getElem?_eq_some_iff.1 g4).1
          simp only [] at hH
          rw [List.getElem?_append_left hlt] at hH
          exact g.hold b kk vs hb hH
        · intro b vs hb
          simp only [] at hb
          rw [List.getElem?_append] at hb
          split at hb
          · exact g.all b vs hb
          · rw [List.getElem?_replicate] at hb; split at hb <;> simp at hb
        · intro b b' kk vs vs' h1' h2' hd hd'
          obtain ⟨_, _, B, g4⟩ := g.own b kk hd
          obtain ⟨_, _, B', g4'⟩ := g.own b' kk hd'
          simp only [] at h1' h2'
          rw [List.getElem?_append_left (List.getElem?_eq_some_iff.1 g4).1] at h1'
          rw [List.getElem?_append_left (List.getElem?_eq_some_iff.1 g4').1] at h2'
          exact g.inj b b' kk vs vs' h1' h2' hd hd'
    · intro j o ho hl
      unfold Listed at hl
      rw [Array.getD_eq_getD_getElem?, Array.getElem?_replicate] at hl
      split at hl <;> simp at hl
    · unfold left
      exact Nat.le_trans List.countP_le_length (by simp)
    · intro s' D' U' a' w' hk hR' hon
      exact hQ .normal s' D' U' a' w' hk hR' (onward_drew.trans hon).weak

noncomputable def pev (P : Program) (K : Tab) (L : LTab) (lv : List (Nat × List Nat)) (fuel : Nat) : Code → St → KC → Option DV
  | .skip, s, k => k .normal s
  | .region id ops draw, s, k => bif (stopsOf lv).any (Nat.beq id) then none else bif draw then drawK P K ops s (k .normal) else pevOps P K ops (List.range ops.size) s (k .normal)
  | .seq a b, s, k => pev P K L lv fuel a s fun e s' => match e with | .normal => pev P K L lv fuel b s' k | e => k e s'
  | .cond c t e, ⟨ts, n, h⟩, k => match (evalV ts n c).flat with
    | some (.bool b) => bif b then pev P K L lv fuel t ⟨ts, n, h⟩ k else pev P K L lv fuel e ⟨ts, n, h⟩ k
    | _ => none
  | .block id b, s, k => pev P K L lv fuel b s fun e s' => match e with | .exit i => bif Nat.beq i id then k .normal s' else k (.exit i) s' | e => k e s'
  | .loop b, ⟨ts, n, h⟩, k => match lookL L b with
    | some R => packK (liveOf lv b n) ⟨ts, n, h⟩ fun s => R s k
    | none => loopK (fun s k => pev P K L lv fuel b s k) (liveOf lv b n) (h.length + roomOf lv) fuel ⟨ts, n, h⟩ k
  | .exit id, s, k => k (.exit id) s
  | .ret, s, k => k .ret s
  | _, _, _ => none

theorem pev_ok {P : Program} {I : World → Prop} (hm : P.follows .mixedOrders = true) (hst : Stab I) {K : Tab} (HK : ∀ g, Meets P I g (K g)) (L : LTab) (lv : List (Nat × List Nat)) (fuel : Nat) : ∀ (c : Code), LGood P I L c → ∀ (s : St) (k : KC) (r : DV), pev P K L lv fuel c s k = some r → Sound P I c s k r := by
  intro c
  induction c with
  | skip => intro _ s k r h D U N w0 a w Q hR hQ; exact wp_skip (hQ .normal s D U a w h hR OnwardW.refl)
  | region id ops draw =>
    intro _ s k r h
    simp only [pev] at h
    cases hst' : (stopsOf lv).any (Nat.beq id) with
    | true => rw [hst'] at h; cases h
    | false =>
    rw [hst'] at h
    simp only [cond_false] at h
    cases draw with
    | true => exact drawK_ok hm hst HK h
    | false =>
      intro D U N w0 a w Q hR hQ
      exact wp_region (pevOps_ok hst HK _ s (k .normal) r h D U N w0 a w Q hR fun s' D' U' a' w' hk hR' hon => hQ .normal s' D' U' a' w' hk hR' hon.weak)
  | seq x y ihx ihy =>
    intro hL s k r h D U N w0 a w Q hR hQ
    refine wp_seq (ihx hL.left s _ r h D U N w0 a w _ hR fun e s' D' U' a' w' hk hR' hon => ?_)
    cases e with
    | normal => exact ihy hL.right s' k r hk D' U' N w0 a' w' Q hR' fun e s'' D'' U'' a'' w'' hk' hR'' hon' => hQ e s'' D'' U'' a'' w'' hk' hR'' (hon.trans hon')
    | exit id => exact hQ (.exit id) s' D' U' a' w' hk hR' hon
    | ret => exact hQ .ret s' D' U' a' w' hk hR' hon
  | cond c t e iht ihe =>
    intro hL s k r h D U N w0 a w Q hR hQ
    cases s
    simp only [pev] at h
    split at h <;> try (cases h; done)
    rename_i b hb
    have hv := VV.flat_rep hb (hR.t.eval c)
    cases b with
    | true => exact wp_cond hv (iht hL.yes _ k r h D U N w0 a w Q hR hQ)
    | false => exact wp_cond hv (ihe hL.no _ k r h D U N w0 a w Q hR hQ)
  | block id b ih =>
    intro hL s k r h D U N w0 a w Q hR hQ
    refine wp_block (ih hL.block s _ r h D U N w0 a w _ hR fun e s' D' U' a' w' hk hR' hon => ?_)
    cases e with
    | normal => exact hQ .normal s' D' U' a' w' hk hR' hon
    | ret => exact hQ .ret s' D' U' a' w' hk hR' hon
    | exit i =>
      simp only [PX.out, Exit.inBlock]
      cases hb : Nat.beq i id with
      | true =>
        have := Nat.eq_of_beq_eq_true hb
        rw [if_pos this]
        simp only [hb, cond_true] at hk
        exact hQ .normal s' D' U' a' w' hk hR' hon
      | false =>
        have : ¬ i = id := fun e => by subst e; rw [Nat.beq_refl] at hb; cases hb
        rw [if_neg this]
        simp only [hb, cond_false] at hk
        exact hQ (.exit i) s' D' U' a' w' hk hR' hon
  | loop b ih =>
    intro hL s k r h
    cases s
    simp only [pev] at h
    cases hl : lookL L b with
    | none =>
      rw [hl] at h
      exact loopK_ok (body := fun s k => pev P K L lv fuel b s k) (ih hL.body) _ _ fuel _ k r (Nat.le_add_right _ _) h
    | some R =>
      rw [hl] at h
      simp only [packK_eq] at h
      exact sound_pack _ ((hL.here hl).1 _ k r h)
  | exit id => intro _ s k r h D U N w0 a w Q hR hQ; exact wp_exit (hQ (.exit id) s D U a w h hR OnwardW.refl)
  | ret => intro _ s k r h D U N w0 a w Q hR hQ; exact wp_ret (hQ .ret s D U a w h hR OnwardW.refl)
  | rangeFunc f ps x y _ _ => intro _ s k r h; simp [pev] at h
  | scope b _ => intro _ s k r h; simp [pev] at h
  | label l => intro _ s k r h; simp [pev] at h
  | goto l => intro _ s k r h; simp [pev] at h
  | refuse why => intro _ s k r h; simp [pev] at h

noncomputable def resV (P : Program) (s : St) : List ResultVar → Option (List DV)
  | [] => some []
  | .tmp t :: rest => match evalV s.tmps s.n (.tmp t), resV P s rest with
    | .dv d, some l => some (d :: l)
    | .osl _ sz b of n, some l => match s.heap[b]? with
      | some (some (.cells cs)) => bif Nat.ble (of + n * sz) cs.length then some (.lst sz (chunks sz n (cs.drop of)) :: l) else none
      | _ => none
    | _, _ => none
  | .cell t T :: rest => match evalV s.tmps s.n (.tmp t) with
    | .ptr b of => match s.heap[b]? with
      | some (some (.cells cs)) => match loadK P T cs of, resV P s rest with
        | some d, some l => some (d :: l)
        | _, _ => none
      | _ => none
    | _ => none
noncomputable def retV (P : Program) (fn : Func) (s : St) : Option DV :=
  match resV P s fn.results.toList with
  | some [d] => some d
  | some l => some (mkTup l)
  | none => none
def resSem (tmps : Array Value) : ResultVar → Sem Value
  | .tmp t => pure (tmps.getD t undef)
  | .cell a t => do loadVar t (← asAddr (tmps.getD a undef))
theorem resV_ok {P : Program} {I : World → Prop} {D : Nat → Option Nat} {U : Nat → Prop} {N : Nat} {w0 : World} {s : St} {a : Act} {w : World} (hR : Rel I D U N w0 s a w) : ∀ (l : List ResultVar) (ds : List DV), resV P s l = some ds →
    ∃ vs : List Value, (l.mapM (resSem a.tmps)).run P w = .ok vs w ∧ vs.length = ds.length ∧ ∀ (i : Nat) (x : DV) (v : Value), ds[i]? = some x → vs[i]? = some v → DRep (U3 U D) w x v
  | [], ds, h => by simp [resV] at h; subst h; exact ⟨[], rfl, rfl, fun i x v h => by simp at h⟩
  | .tmp t :: rest, ds, h => by
    simp only [resV] at h
    have fin : ∀ (d : DV) (l : List DV), resV P s rest = some l → ds = d :: l → DRep (U3 U D) w d (a.eval (.tmp t)) → ∃ vs : List Value, ((ResultVar.tmp t :: rest).mapM (resSem a.tmps)).run P w = .ok vs w ∧ vs.length = ds.length ∧ ∀ (i : Nat) (x : DV) (v : Value), ds[i]? = some x → vs[i]? = some v → DRep (U3 U D) w x v := by
      intro d l hl he h1
      subst he
      obtain ⟨vs, hv, hlen, hr⟩ := resV_ok hR rest l hl
      refine ⟨a.eval (.tmp t) :: vs, ?_, by simp [hlen], ?_⟩
      · rw [List.mapM_cons]
        have e : (resSem a.tmps (.tmp t)).run P w = .ok (a.eval (.tmp t)) w := rfl
        simp [Sem.run_bind, e, hv]
      · intro i x v e1 e2
        cases i with
        | zero => simp at e1 e2; subst e1; subst e2; exact h1
        | succ i => exact hr i x v (by simpa using e1) (by simpa using e2)
    have h1 := hR.t.eval (.tmp t)
    split at h <;> try (cases h; done)
    · rename_i d l hd hl
      simp at h
      rw [hd] at h1
      exact fin d l hl h.symm (DRep.keep (fun _ h => .inl h) (fun _ _ => rfl) (Nat.le_refl _) h1)
    · rename_i e sz b of n l hd hl
      split at h <;> try (cases h; done)
      rename_i cs hb
      cases hq : Nat.ble (of + n * sz) cs.length with
      | false => simp [hq] at h
      | true =>
        simp [hq] at h
        rw [hd] at h1
        exact fin _ l hl h.symm (osl_rep hR.wr hb (Nat.le_of_ble_eq_true hq) h1)
  | .cell t T :: rest, ds, h => by
    simp only [resV] at h
    split at h <;> try (cases h; done)
    rename_i b of hp
    split at h <;> try (cases h; done)
    rename_i cs hb
    split at h <;> try (cases h; done)
    rename_i d l hd hl
    simp at h; subst h
    obtain ⟨vs, hv, hlen, hr⟩ := resV_ok hR rest l hl
    have h1 := hR.t.eval (.tmp t)
    rw [hp] at h1
    obtain ⟨kk, hk, hax⟩ := h1
    obtain ⟨n2, cur, T', g3, g5, g6⟩ := hR.wr.hold b kk cs hk hb
    have hcells : CellsAt U w kk 0 cs := by
      intro i x hi
      have hlt : i < cur.size := by have := (List.getElem?_eq_some_iff.1 hi).1; omega
      exact ⟨cur[i], by simp [World.cell?, g3, hlt], g6 i x _ hi (Array.getElem?_eq_getElem hlt)⟩
    obtain ⟨v, hv', hr'⟩ := loadK_ok hd hcells
    rw [Nat.zero_add] at hv'
    refine ⟨v :: vs, ?_, by simp [hlen], ?_⟩
    · rw [List.mapM_cons]
      have e0 : a.tmps.getD t undef = .pointer (some ⟨kk, of, none⟩) := hax
      have e : (resSem a.tmps (.cell t T)).run P w = .ok v w := by
        simp only [resSem, e0, asAddr, Sem.run_bind, Sem.run_pure, Result.andThen_ok, hv']
      simp [Sem.run_bind, e, hv]
    · intro i x u e1 e2
      cases i with
      | zero => simp at e1 e2; subst e1; subst e2; exact DRep.keep (fun _ h => .inl h) (fun _ _ => rfl) (Nat.le_refl _) hr'
      | succ i => exact hr i x u (by simpa using e1) (by simpa using e2)
theorem retV_ok {P : Program} {I : World → Prop} {fn : Func} {D : Nat → Option Nat} {U : Nat → Prop} {N : Nat} {w0 : World} {s : St} {a : Act} {w : World} (hR : Rel I D U N w0 s a w) {d : DV} (h : retV P fn s = some d) :
    ∃ v, (results fn a.tmps).run P w = .ok v w ∧ DRep (U3 U D) w d v := by
  have key : ∀ ds, resV P s fn.results.toList = some ds → ∃ vs : List Value, (results fn a.tmps).run P w = .ok (if h : vs.toArray.size = 1 then vs.toArray[0] else .tuple vs.toArray) w ∧ vs.length = ds.length ∧ ∀ (i : Nat) (x : DV) (v : Value), ds[i]? = some x → vs[i]? = some v → DRep (U3 U D) w x v := by
    intro ds hds
    obtain ⟨vs, hv, hlen, hr⟩ := resV_ok hR fn.results.toList ds hds
    refine ⟨vs, ?_, hlen, hr⟩
    have e : results fn a.tmps = (do let vs ← fn.results.mapM (resSem a.tmps); pure (if h : vs.size = 1 then vs[0] else .tuple vs)) := rfl
    rw [e, Array.mapM_eq_mapM_toList]
    simp [Sem.run_bind, hv]
  unfold retV at h
  split at h
  · rename_i d' hd
    simp at h; subst h
    obtain ⟨vs, hv, hlen, hr⟩ := key _ hd
    match vs, hlen with
    | [v], _ => exact ⟨v, by rw [hv]; rfl, hr 0 _ v rfl rfl⟩
  · rename_i l hne hl
    simp at h; subst h
    obtain ⟨vs, hv, hlen, hr⟩ := key _ hl
    have : ¬ vs.toArray.size = 1 := by
      intro e
      have : l.length = 1 := by rw [← hlen]; simpa using e
      match l, this with
      | [d], _ => exact hne d rfl
    refine ⟨.tuple vs.toArray, by rw [hv]; simp only [this]; rfl, mkTup_rep (by simpa using hlen) fun i x v e1 e2 => hr i x v e1 (by simpa using e2)⟩
  · cases h

noncomputable def iniK : List DV → Nat → Tr → (Tr → Option DV) → Option DV
  | [], _, acc, k => k acc
  | d :: ds, i, acc, k => putC 12 acc i (.dv d) fun acc' => iniK ds (i + 1) acc' k
noncomputable def iniV : List DV → Nat → Tr → Tr
  | [], _, acc => acc
  | d :: ds, i, acc => iniV ds (i + 1) (acc.put i (.dv d))
theorem iniK_eq : ∀ (ds : List DV) (i : Nat) (acc : Tr) (k : Tr → Option DV), iniK ds i acc k = k (iniV ds i acc)
  | [], _, _, _ => rfl
  | d :: ds, i, acc, k => by
    simp only [iniK, iniV]
    rw [putC_eq]
    exact iniK_eq ds (i + 1) _ k
theorem iniV_get : ∀ (ds : List DV) (i : Nat) (acc : Tr) (t : Nat), (iniV ds i acc).get t = .dead ∨ ((t < i ∨ i + ds.length ≤ t) ∧ ((iniV ds i acc).get t = acc.get t)) ∨ ∃ d, ds[t - i]? = some d ∧ i ≤ t ∧ (iniV ds i acc).get t = .dv d
  | [], i, acc, t => .inr (.inl ⟨by simp; omega, rfl⟩)
  | d :: ds, i, acc, t => by
    simp only [iniV]
    rcases iniV_get ds (i + 1) (acc.put i (.dv d)) t with h | ⟨h1, h2⟩ | ⟨d', h1, h2, h3⟩
    · exact .inl h
    · rcases Tr.get_put acc i (.dv d) t with e | e
      · by_cases ht : t = i
        · subst ht
          right; right
          rw [if_pos rfl] at e
          exact ⟨d, by simp, Nat.le_refl _, h2.trans e⟩
        · rw [if_neg ht] at e
          right; left
          refine ⟨?_, h2.trans e⟩
          simp only [List.length_cons]
          omega
      · exact .inl (h2.trans e)
    · right; right
      refine ⟨d', ?_, by omega, h3⟩
      rw [show t - i = t - (i + 1) + 1 by omega, List.getElem?_cons_succ]
      exact h1
noncomputable def pevL (P : Program) (K : Tab) (L : LTab) (lv : List (Nat × List Nat)) (fuel : Nat) (fn : Func) (c : Code) (ds : List DV) (k : DV → Option DV) : Option DV :=
  iniK ds 0 (.leaf (.dv (.val undef))) fun ts => pev P K L lv fuel c ⟨ts, ds.length + (fn.ntmps - ds.length), []⟩ fun e s => match e with
    | .exit _ => none
    | _ => match retV P fn s with | some d => k d | none => none
noncomputable def pevF (P : Program) (K : Tab) (lv : List (Nat × List Nat)) (fuel : Nat) (fn : Func) (c : Code) (ds : List DV) (k : DV → Option DV) : Option DV := pevL P K noL lv fuel fn c ds k

end Go.Pv
namespace Go.Pv
open Go Go.RowKit

theorem guardK_nat {X : Type} (ops : Array Oper) (ts : Tr) (n : Nat) (o : Oper) {yes no : Tr → (X → Option DV) → Option DV} (hy : ∀ t, Nat1 (yes t)) (hn : ∀ t, Nat1 (no t)) : Nat1 fun k => guardK ops ts n o (fun t => yes t k) (fun t => no t k) := by
  intro k r h
  obtain ⟨b, t1, _, _, hb, hall⟩ := guardK_inv h
  cases b with
  | true =>
    obtain ⟨x, h1, h2⟩ := hy t1 k r (by simpa using hb)
    exact ⟨x, h1, fun k' => (hall _ _).trans (by simpa using h2 k')⟩
  | false =>
    obtain ⟨x, h1, h2⟩ := hn t1 k r (by simpa using hb)
    exact ⟨x, h1, fun k' => (hall _ _).trans (by simpa using h2 k')⟩
theorem pevOps_nat {P : Program} {I : World → Prop} {K : Tab} (HK : ∀ g, Meets P I g (K g)) (ops : Array Oper) : ∀ (l : List Nat) (s : St), Nat1 (pevOps P K ops l s)
  | [], s => fun k r h => ⟨s, h, fun _ => rfl⟩
  | i :: rest, s => by
    intro k r h
    simp only [pevOps_cons] at h ⊢
    cases ho : ops[i]? with
    | none => simp [ho] at h
    | some o =>
      simp only [ho] at h ⊢
      refine guardK_nat ops s.tmps s.n o (yes := fun ts k => opk P K (evalV ts s.n) s.heap s.heap.length o fun x eff => pevOps P K ops rest ⟨putV ts o.dst x, s.n, eff.app s.heap.length s.heap⟩ k) (no := fun ts k => pevOps P K ops rest ⟨putV ts o.dst (.dv (.val undef)), s.n, s.heap⟩ k) ?_ (fun t => pevOps_nat HK ops rest _) k r h
      intro t k r h
      obtain ⟨x, y, h1, h2⟩ := opk_nat HK _ _ _ o _ r h
      obtain ⟨z, h3, h4⟩ := pevOps_nat HK ops rest _ k r h1
      exact ⟨z, h3, fun k' => (h2 _).trans (h4 k')⟩
theorem parK_nat {P : Program} {I : World → Prop} {K : Tab} (HK : ∀ g, Meets P I g (K g)) (ops : Array Oper) (base : Nat) : ∀ (l : List Nat) (s : St), Nat1 (parK P K ops base l s)
  | [], s => fun k r h => ⟨s, h, fun _ => rfl⟩
  | i :: rest, s => by
    intro k r h
    simp only [parK_cons] at h ⊢
    cases ho : ops[i]? with
    | none => simp [ho] at h
    | some o =>
      simp only [ho] at h ⊢
      refine guardK_nat ops s.tmps s.n o (yes := fun ts k => opk P K (evalV ts s.n) s.heap (base + i) o fun x eff => match eff with
        | .upd _ _ => none
        | .move _ _ => none
        | eff => parK P K ops base rest ⟨putV ts o.dst x, s.n, eff.app (base + i) s.heap⟩ k) (no := fun ts k => parK P K ops base rest ⟨putV ts o.dst (.dv (.val undef)), s.n, s.heap⟩ k) ?_ (fun t => parK_nat HK ops base rest _) k r h
      intro t k r h
      obtain ⟨x, y, h1, h2⟩ := opk_nat HK _ _ _ o _ r h
      cases y with
      | upd b cs => cases h1
      | move b cs => cases h1
      | none =>
        obtain ⟨z, h3, h4⟩ := parK_nat HK ops base rest _ k r h1
        exact ⟨z, h3, fun k' => (h2 _).trans (h4 k')⟩
      | new cs =>
        obtain ⟨z, h3, h4⟩ := parK_nat HK ops base rest _ k r h1
        exact ⟨z, h3, fun k' => (h2 _).trans (h4 k')⟩
theorem drawK_nat {P : Program} {I : World → Prop} {K : Tab} (HK : ∀ g, Meets P I g (K g)) (ops : Array Oper) (s : St) : Nat1 (drawK P K ops s) := by
  intro k r h
  simp only [drawK_eq] at h ⊢
  cases hc : drawChk ops (firstStore ops.toList) with
  | false => simp [hc] at h
  | true =>
    simp only [hc, cond_true] at h ⊢
    obtain ⟨z, h1, h2⟩ := parK_nat HK ops _ _ _ _ r h
    obtain ⟨y, h3, h4⟩ := pevOps_nat HK ops _ _ k r h1
    exact ⟨y, h3, fun k' => (h2 _).trans (h4 k')⟩
theorem loopK_nat {body : St → KC → Option DV} (hb : ∀ s, Nat2 (body s)) (live : List Nat) (h0 : Nat) : ∀ (n : Nat) (s : St), Nat2 (loopK body live h0 n s)
  | 0, s => fun k r h => by simp [loopK] at h
  | n + 1, s => by
    intro k r h
    simp only [loopK, trimK_eq] at h ⊢
    obtain ⟨e, s', h1, h2⟩ := hb _ _ r h
    cases e with
    | normal =>
      obtain ⟨e', s'', h3, h4⟩ := loopK_nat hb live h0 n s' k r h1
      exact ⟨e', s'', h3, fun k' => (h2 _).trans (h4 k')⟩
    | exit i => exact ⟨.exit i, s', h1, fun k' => h2 _⟩
    | ret => exact ⟨.ret, s', h1, fun k' => h2 _⟩
theorem pev_nat {P : Program} {I : World → Prop} {K : Tab} (HK : ∀ g, Meets P I g (K g)) (L : LTab) (lv : List (Nat × List Nat)) (fuel : Nat) : ∀ (c : Code), LGood P I L c → ∀ (s : St), Nat2 (pev P K L lv fuel c s) := by
  intro c
  induction c with
  | skip => intro _ s k r h; exact ⟨_, _, h, fun _ => rfl⟩
  | region id ops draw =>
    intro _ s k r h
    simp only [pev] at h ⊢
    cases hst' : (stopsOf lv).any (Nat.beq id) with
    | true => rw [hst'] at h; cases h
    | false =>
    rw [hst'] at h
    simp only [cond_false] at h ⊢
    cases draw with
    | true =>
      obtain ⟨z, h1, h2⟩ := drawK_nat HK ops s (k .normal) r h
      exact ⟨_, _, h1, fun k' => h2 (k' .normal)⟩
    | false =>
      obtain ⟨z, h1, h2⟩ := pevOps_nat HK ops _ s (k .normal) r h
      exact ⟨_, _, h1, fun k' => h2 (k' .normal)⟩
  | seq x y ihx ihy =>
    intro hL s k r h
    simp only [pev] at h ⊢
    obtain ⟨e, s', h1, h2⟩ := ihx hL.left s _ r h
    cases e with
    | normal =>
      obtain ⟨e', s'', h3, h4⟩ := ihy hL.right s' k r h1
      exact ⟨e', s'', h3, fun k' => (h2 _).trans (h4 k')⟩
    | exit i => exact ⟨.exit i, s', h1, fun k' => h2 _⟩
    | ret => exact ⟨.ret, s', h1, fun k' => h2 _⟩
  | cond c t e iht ihe =>
    intro hL s k r h
    cases s
    simp only [pev] at h ⊢
    split at h <;> try (cases h; done)
    rename_i b hb
    cases b with
    | true => exact iht hL.yes _ k r h
    | false => exact ihe hL.no _ k r h
  | block id b ih =>
    intro hL s k r h
    simp only [pev] at h ⊢
    obtain ⟨e, s', h1, h2⟩ := ih hL.block s _ r h
    cases e with
    | normal => exact ⟨.normal, s', h1, fun k' => h2 _⟩
    | ret => exact ⟨.ret, s', h1, fun k' => h2 _⟩
    | exit i =>
      cases hb : Nat.beq i id with
      | true => simp only [hb, cond_true] at h1; exact ⟨.normal, s', h1, fun k' => (h2 _).trans (by simp only [hb, cond_true])⟩
      | false => simp only [hb, cond_false] at h1; exact ⟨.exit i, s', h1, fun k' => (h2 _).trans (by simp only [hb, cond_false])⟩
  | loop b ih =>
    intro hL s k r h
    cases s
    simp only [pev] at h ⊢
    cases hl : lookL L b with
    | none => rw [hl] at h; exact loopK_nat (ih hL.body) _ _ fuel _ k r h
    | some R =>
      rw [hl] at h
      simp only [packK_eq] at h ⊢
      exact (hL.here hl).2 _ k r h
  | exit id => intro _ s k r h; exact ⟨_, _, h, fun _ => rfl⟩
  | ret => intro _ s k r h; exact ⟨_, _, h, fun _ => rfl⟩
  | rangeFunc f ps x y _ _ => intro _ s k r h; simp [pev] at h
  | scope b _ => intro _ s k r h; simp [pev] at h
  | label l => intro _ s k r h; simp [pev] at h
  | goto l => intro _ s k r h; simp [pev] at h
  | refuse why => intro _ s k r h; simp [pev] at h

end Go.Pv
namespace Go.Pv
open Go Go.RowKit

theorem meets_of_pevL {P : Program} {I : World → Prop} (hm : P.follows .mixedOrders = true) (hst : Stab I) {K : Tab} (HK : ∀ g, Meets P I g (K g)) {g : FuncId} {fn : Func} {c : Code} (hf : P.funcs[g]? = some fn) (hb : fn.body = some c) (hg : okCall P g = true)
    {G : List DV → (DV → Option DV) → Option DV} (h : ∀ ds, (∀ k, G ds k = none) ∨ ∃ (L : LTab) (lv : List (Nat × List Nat)) (fuel : Nat), LGood P I L c ∧ ∀ k, G ds k = pevL P K L lv fuel fn c ds k) : Meets P I g G := by
  intro ds k r hG
  rcases h ds with h | ⟨L, lv, fuel, hL, h⟩
  · rw [h] at hG; cases hG
  rw [h] at hG
  have hG' := hG
  unfold pevL at hG'
  rw [iniK_eq] at hG'
  obtain ⟨e, s', h1, h2⟩ := pev_nat HK L lv fuel c hL _ _ r hG'
  have hret : ∃ d, retV P fn s' = some d ∧ k d = some r ∧ ∀ k', G ds k' = k' d := by
    cases e with
    | exit i => cases h1
    | normal =>
      simp only [] at h1
      split at h1 <;> try (cases h1; done)
      rename_i d hd
      exact ⟨d, hd, h1, fun k' => by rw [h]; unfold pevL; rw [iniK_eq, h2]; simp only [hd]⟩
    | ret =>
      simp only [] at h1
      split at h1 <;> try (cases h1; done)
      rename_i d hd
      exact ⟨d, hd, h1, fun k' => by rw [h]; unfold pevL; rw [iniK_eq, h2]; simp only [hd]⟩
  obtain ⟨d, hd, hk, hn⟩ := hret
  refine ⟨hg, d, hk, hn, fun U w args hI hU hlen hargs => ?_⟩
  refine calls_of_wp hf hb ?_
  have hs := pev_ok hm hst HK L lv fuel c hL _ (fun e s => match e with | .exit _ => none | _ => match retV P fn s with | some d => some d | none => none) d (by
    rw [h2]
    cases e with
    | exit i => cases h1
    | normal => simp only [hd]
    | ret => simp only [hd])
  have hp : args.toList.length = ds.length := by simpa using hlen
  refine hs (fun _ => none) U w.heap.size w _ w _ ⟨⟨rfl, ?_, ?_⟩, ⟨Below.refl _ _, hU, (fun b k h => by cases h), (fun b k vs h => by cases h), (fun b vs h => by simp at h), (fun b b' k vs vs' h => by simp at h)⟩, Nat.le_refl _, hI, rfl⟩ ?_
  · simp [hlen]
  · intro t v e2
    simp only [Array.getElem?_append, hlen] at e2
    rcases iniV_get ds 0 (.leaf (.dv (.val undef))) t with g | ⟨g1, g2⟩ | ⟨d', g1, _, g3⟩
    · simp only []; rw [g]; trivial
    · simp only []; rw [g2]
      rw [if_neg (by omega), Array.getElem?_replicate] at e2
      split at e2
      · simp only [Option.some.injEq] at e2; rw [← e2]; exact .val _
      · cases e2
    · simp only []; rw [g3]
      rw [Nat.sub_zero] at g1
      have := (List.getElem?_eq_some_iff.1 g1).1
      rw [if_pos this] at e2
      exact hargs t d' v g1 e2
  · intro e2 s2 D' U' a' w' hk2 hR' hon
    have fin : retV P fn s2 = some d → a'.defers = [] ∧ ∃ v, (results fn a'.tmps).run P w' = .ok v w' ∧ ∃ v', Ending.returned v = .returned v' ∧ Below w.heap.size w w' ∧ DRep (U2 U w w') w' d v' := by
      intro hd2
      obtain ⟨v, hv, hr⟩ := retV_ok hR' hd2
      refine ⟨hR'.t.1, v, hv, v, rfl, hR'.wr.below, hr.keep (fun k hk => ?_) (fun _ _ => rfl) (Nat.le_refl _)⟩
      rcases hk with hk | ⟨b, hk⟩
      · rcases hon.back k hk with h | h
        · exact .inl h
        · exact .inr ⟨h, hR'.wr.old k hk⟩
      · obtain ⟨g1, g2, _⟩ := hR'.wr.own b k hk
        exact .inr ⟨g1, g2⟩
    cases e2 with
    | exit i => cases hk2
    | normal =>
      simp only [] at hk2
      split at hk2 <;> try (cases hk2; done)
      rename_i d' hd2
      cases hk2
      exact fin hd2
    | ret =>
      simp only [] at hk2
      split at hk2 <;> try (cases hk2; done)
      rename_i d' hd2
      cases hk2
      exact fin hd2

theorem meets_of_pev {P : Program} {I : World → Prop} (hm : P.follows .mixedOrders = true) (hst : Stab I) {K : Tab} (HK : ∀ g, Meets P I g (K g)) {g : FuncId} {fn : Func} {c : Code} (hf : P.funcs[g]? = some fn) (hb : fn.body = some c) (hg : okCall P g = true)
    {G : List DV → (DV → Option DV) → Option DV} (h : ∀ ds, (∀ k, G ds k = none) ∨ ∃ (lv : List (Nat × List Nat)) (fuel : Nat), ∀ k, G ds k = pevF P K lv fuel fn c ds k) : Meets P I g G :=
  meets_of_pevL hm hst HK hf hb hg fun ds => (h ds).imp id fun ⟨lv, fuel, h⟩ => ⟨noL, lv, fuel, LGood.none P I c, h⟩

theorem meets_none {P : Program} {I : World → Prop} {g : FuncId} {G : List DV → (DV → Option DV) → Option DV} (h : ∀ ds k, G ds k = none) : Meets P I g G := fun ds k r h' => by rw [h] at h'; cases h'
def tab : List (FuncId × (List DV → (DV → Option DV) → Option DV)) → Tab
  | [], _ => fun _ _ => none
  | (h, G) :: l, g => bif Nat.beq g h then G else tab l g
theorem tab_nil (P : Program) (I : World → Prop) : ∀ g, Meets P I g (tab [] g) := fun g ds k r h => by simp [tab] at h
theorem tab_cons {P : Program} {I : World → Prop} {h : FuncId} {G : List DV → (DV → Option DV) → Option DV} {l : List (FuncId × (List DV → (DV → Option DV) → Option DV))} (hG : Meets P I h G) (hl : ∀ g, Meets P I g (tab l g)) : ∀ g, Meets P I g (tab ((h, G) :: l) g) := by
  intro g
  simp only [tab]
  cases hb : Nat.beq g h with
  | true => have := Nat.eq_of_beq_eq_true hb; subst this; exact hG
  | false => exact hl g
end Go.Pv
namespace Go.Pv
open Go Go.RowKit
theorem meets_flat {P : Program} {I : World → Prop} {g : FuncId} {G : List DV → (DV → Option DV) → Option DV} (hg : okCall P g = true)
    (h : ∀ ds, (∀ k, G ds k = none) ∨ ∃ (vs : List Value) (v : Value), ds = vs.map DV.val ∧ (∀ k, G ds k = k (.val v)) ∧ ∀ w, I w → Calls P g vs.toArray w fun e w' => e = .returned v ∧ Below w.heap.size w w') : Meets P I g G := by
  intro ds k r hG
  rcases h ds with h | ⟨vs, v, rfl, hk, hc⟩
  · rw [h] at hG; cases hG
  refine ⟨hg, .val v, by rw [hk] at hG; exact hG, hk, fun U w args hI _ hlen hargs => ?_⟩
  have e : args = vs.toArray := by
    apply Array.ext'
    apply List.ext_getElem?
    intro i
    by_cases hi : i < args.size
    · have hv : i < vs.length := by rw [hlen] at hi; simpa using hi
      have := hargs i (.val vs[i]) args[i] (by simp [hv]) (Array.getElem?_eq_getElem hi)
      have h2 : args[i] = vs[i] := val_eq this
      simp [hi, hv, h2]
    · rw [List.getElem?_eq_none (by simpa using hi), List.getElem?_eq_none (by rw [hlen] at hi; simpa using hi)]
  rw [e]
  exact (hc w hI).mono fun e w' ⟨he, hb⟩ => ⟨v, he, hb, .val v⟩
end Go.Pv
namespace Go.Pv
open Go
def bodyOf (fn : Func) : Code := match fn.body with | some c => c | none => .skip
end Go.Pv
