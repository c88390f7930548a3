import Derived.Below
import Derived.Orders
import Derived.Laws.CopyRow
import Derived.Laws.Cells
import Derived.WalkKit
import Derived.Laws.StructEq
import Derived.Great.FillDense
import Derived.Laws.MakeOwn
import Derived.WideLaws
import Derived.Laws.AppendOwn
import Derived.Lib.ConvBytes
import Derived.Laws.BytesString
set_option linter.all false
noncomputable section
namespace Go.Pv
open Go Go.RowKit
abbrev W5b := Exit → Act → World → Prop
abbrev W5a := Act → World → Prop
abbrev W48 := Array Oper
abbrev W47 := List (Nat × Nat)
abbrev W45 := List (Nat × List Nat)
abbrev W42 := Nat → Prop
abbrev W41 := Nat → Option Nat
abbrev W40 := World → Prop
def prun (P : Program) {α : Type} : Sem α → Option α
 | .pure a => some a
 | .program k => prun P (k P)
 | .mark _ k => prun P k
 | _ => none
theorem K7w {P : Program} {α : Type} (s : Sem α) : ∀ {x : α}, prun P s = some x → ∀ w, s.run P w = .ok x w := by
 induction s with
 | pure a => intro x h w; simp [prun] at h; subst h; rfl
 | program k ih => intro x h w; simp only [prun] at h; simpa [Sem.run] using ih P h w
 | mark m k ih => intro x h w; simp only [prun] at h; simpa [Sem.run] using ih h w
 | _ => intro x h; simp [prun] at h
inductive DV where
 | val (v : Value)
 | agg (cs : List DV)
 | tup (cs : List DV)
 | lst (sz : Nat) (es : List (List DV))
 | err
 deriving Inhabited
abbrev W5j := List DV
abbrev W5i := List (List DV)
abbrev W5g := DV → Option DV
def bx (c : Bool) (a b : Option DV) : Option DV := Bool.rec (motive := fun _ => Option DV) b a c
theorem bx_t (a b : Option DV) : bx true a b = a := rfl
theorem bx_f (a b : Option DV) : bx false a b = b := rfl
inductive DRep (U : W42) (w : World) : DV → Value → Prop
 | val (v : Value) : DRep U w (.val v) v
 | agg {cs : W5j} {vs : Array Value} : vs.size = cs.length → (∀ (i : Nat) (x : DV) (v : Value), cs[i]? = some x → vs[i]? = some v → DRep U w x v) → DRep U w (.agg cs) (.agg vs)
 | tup {cs : W5j} {vs : Array Value} : vs.size = cs.length → (∀ (i : Nat) (x : DV) (v : Value), cs[i]? = some x → vs[i]? = some v → DRep U w x v) → DRep U w (.tup cs) (.tuple vs)
 | nil {sz c : Nat} {a : Option Addr} : DRep U w (.lst sz []) (.slice a 0 c)
 | err {t : TypeId} {v : Value} : DRep U w .err (.iface t v)
 | lst {sz b off c : Nat} {es : W5i} {g : Nat → Nat → Value} : U b → b < w.heap.size → es.length ≤ c → (∀ e, e ∈ es → e.length = sz) →
   (∀ (i j : Nat) (e : W5j) (x : DV), es[i]? = some e → e[j]? = some x → w.cell? ⟨b, off + i * sz + j, none⟩ = some (g i j)) →
   (∀ (i j : Nat) (e : W5j) (x : DV), es[i]? = some e → e[j]? = some x → DRep U w x (g i j)) → DRep U w (.lst sz es) (.slice (some ⟨b, off, none⟩) es.length c)
theorem Wm7 {w w' : World} {a : Addr} (h : w'.heap[a.block]? = w.heap[a.block]?) : w'.cell? a = w.cell? a := World.cell?_of_block h
theorem DRep.keep {U U' : W42} {w w' : World} (hU : ∀ k, U k → U' k) (hw : ∀ k, U k → w'.heap[k]? = w.heap[k]?) (hs : w.heap.size ≤ w'.heap.size) {x : DV} {v : Value} (h : DRep U w x v) : DRep U' w' x v := by
 induction h with
 | val v => exact .val v
 | agg h1 _ ih => exact .agg h1 ih
 | tup h1 _ ih => exact .tup h1 ih
 | nil => exact .nil
 | err => exact .err
 | lst hb hlt hcap hl hc _ ih => exact .lst (hU _ hb) (Nat.lt_of_lt_of_le hlt hs) hcap hl (fun i j e x hi hx => by rw [Wm7 (hw _ hb)]; exact hc i j e x hi hx) ih
inductive VV where
 | dv (d : DV)
 | ptr (b o : Nat)
 | osl (e : TypeId) (sz b o n : Nat)
 | eptr (cs : W5j)
 | dead
 | vagg (cs : List VV)
 | vtup (cs : List VV)
 | mp (b : Nat)
 | tp (T : TypeId) (sz b : Nat)
 deriving Inhabited
abbrev W5e := Nat → VV
abbrev W49 := List VV
abbrev W44 := Operand → VV
def Wel (U : W42) (w : World) (k o : Nat) (cs : W5j) : Prop := ∀ (i : Nat) (x : DV), cs[i]? = some x → ∃ v, w.cell? ⟨k, o + i, none⟩ = some v ∧ DRep U w x v
def CRep (U : W42) (w : World) (D : W41) : VV → Value → Prop
 | .dv d, v => DRep U w d v
 | .ptr b o, v => ∃ k, D b = some k ∧ v = .pointer (some ⟨k, o, none⟩)
 | .osl e sz b o n, v => ∃ k c cur, D b = some k ∧ n ≤ c ∧ (∃ f, w.heap[k]? = some (.cells cur e f)) ∧ o + c * sz ≤ cur.size ∧ v = .slice (some ⟨k, o, none⟩) n c
 | .eptr cs, v => ∃ k off, v = .pointer (some ⟨k, off, none⟩) ∧ U k ∧ Wel U w k off cs
 | .dead, _ => True
 | .vagg _, _ => False
 | .vtup _, _ => False
 | .mp b, v => ∃ k, D b = some k ∧ v = .map (some k)
 | .tp T sz b, v => ∃ (k : Nat) (cur : Array Value), D b = some k ∧ (∃ f, w.heap[k]? = some (.cells cur T f)) ∧ cur.size = sz ∧ v = .pointer (some ⟨k, 0, none⟩)
def ARep (U : W42) (w : World) (D : W41) : VV → Value → Prop
 | .vagg cs, v => ∃ vs : Array Value, v = .agg vs ∧ vs.size = cs.length ∧ ∀ (i : Nat) (x : VV) (u : Value), cs[i]? = some x → vs[i]? = some u → CRep U w D x u
 | x, v => CRep U w D x v
def VRep (U : W42) (w : World) (D : W41) : VV → Value → Prop
 | .vtup cs, v => ∃ vs : Array Value, v = .tuple vs ∧ vs.size = cs.length ∧ ∀ (i : Nat) (x : VV) (u : Value), cs[i]? = some x → vs[i]? = some u → ARep U w D x u
 | x, v => ARep U w D x v
inductive Tr where
 | leaf (d : VV)
 | node (v : VV) (l r : Tr)
 deriving Inhabited
def Tr.get (t : Tr) : Nat → VV :=
 Tr.rec (motive := fun _ => Nat → VV) (fun d _ => d) (fun v _ _ il ir n => cond (Nat.beq n 0) v (cond (Nat.beq (n % 2) 1) (il (n / 2)) (ir (n / 2 - 1)))) t
theorem Tr.get_node (v : VV) (l r : Tr) (n : Nat) : (Tr.node v l r).get n = cond (Nat.beq n 0) v (cond (Nat.beq (n % 2) 1) (l.get (n / 2)) (r.get (n / 2 - 1))) := rfl
def putC {R : Type} (f : Nat) : Tr → Nat → VV → (Tr → R) → R :=
 Nat.rec (motive := fun _ => Tr → Nat → VV → (Tr → R) → R) (fun _ _ _ k => k (.leaf .dead))
  (fun _ ih t n x k => Tr.casesOn (motive := fun _ => R) t
   (fun d => cond (Nat.beq n 0) (k (.node x (.leaf d) (.leaf d))) (cond (Nat.beq (n % 2) 1) (ih (.leaf d) (n / 2) x fun t' => k (.node d t' (.leaf d))) (ih (.leaf d) (n / 2 - 1) x fun t' => k (.node d (.leaf d) t'))))
   (fun v l r => cond (Nat.beq n 0) (k (.node x l r)) (cond (Nat.beq (n % 2) 1) (ih l (n / 2) x fun t' => k (.node v t' r)) (ih r (n / 2 - 1) x fun t' => k (.node v l t'))))) f
def Tr.put (t : Tr) (n : Nat) (x : VV) : Tr := putC 12 t n x fun t' => t'
theorem Knt {R : Type} : ∀ (f : Nat) (t : Tr) (n : Nat) (x : VV) (k : Tr → R), putC f t n x k = k (putC f t n x fun t' => t')
 | 0, _, _, _, _ => rfl
 | f + 1, .leaf d, n, x, k => by
  show cond _ _ (cond _ (putC f _ _ _ _) (putC f _ _ _ _)) = k (cond _ _ (cond _ (putC f _ _ _ _) (putC f _ _ _ _)))
  cases Nat.beq n 0 <;> cases Nat.beq (n % 2) 1 <;> simp only [cond_true, cond_false]
  ·rw [Knt f (.leaf d) (n / 2 - 1) x (fun t' => k (.node d (.leaf d) t')), Knt f (.leaf d) (n / 2 - 1) x (fun t' => Tr.node d (.leaf d) t')]
  ·rw [Knt f (.leaf d) (n / 2) x (fun t' => k (.node d t' (.leaf d))), Knt f (.leaf d) (n / 2) x (fun t' => Tr.node d t' (.leaf d))]
 | f + 1, .node v l r, n, x, k => by
  show cond _ _ (cond _ (putC f _ _ _ _) (putC f _ _ _ _)) = k (cond _ _ (cond _ (putC f _ _ _ _) (putC f _ _ _ _)))
  cases Nat.beq n 0 <;> cases Nat.beq (n % 2) 1 <;> simp only [cond_true, cond_false]
  ·rw [Knt f r (n / 2 - 1) x (fun t' => k (.node v l t')), Knt f r (n / 2 - 1) x (fun t' => Tr.node v l t')]
  ·rw [Knt f l (n / 2) x (fun t' => k (.node v t' r)), Knt f l (n / 2) x (fun t' => Tr.node v t' r)]
theorem Wxi {m n : Nat} (hm : m % 2 = 1) (hn : n % 2 = 1) : m / 2 = n / 2 ↔ m = n := by omega
theorem Wu8 {m n : Nat} (hm : m % 2 ≠ 1) (hn : n % 2 ≠ 1) (m0 : m ≠ 0) (n0 : n ≠ 0) : m / 2 - 1 = n / 2 - 1 ↔ m = n := by omega
theorem Wk1 : ∀ (f : Nat) (t : Tr) (n : Nat) (x : VV) (m : Nat), (putC f t n x fun t' => t').get m = (if m = n then x else t.get m) ∨ (putC f t n x fun t' => t').get m = .dead
 | 0, _, _, _, _ => .inr rfl
 | f + 1, t, n, x, m => by
  have key : ∀ (v : VV) (l r : Tr), (∀ k, t.get k = (Tr.node v l r).get k) → (putC (f + 1) t n x fun t' => t') = cond (Nat.beq n 0) (.node x l r) (cond (Nat.beq (n % 2) 1) (.node v (putC f l (n / 2) x fun t' => t') r) (.node v l (putC f r (n / 2 - 1) x fun t' => t'))) →
    (putC (f + 1) t n x fun t' => t').get m = (if m = n then x else t.get m) ∨ (putC (f + 1) t n x fun t' => t').get m = .dead := by
   intro v l r ht hp
   rw [hp, ht]
   cases hn0 : Nat.beq n 0 with
   | true =>
    have n0 := Nat.eq_of_beq_eq_true hn0
    subst n0
    left
    simp only [cond_true, Tr.get_node]
    cases hm0 : Nat.beq m 0 with
    | true => have := Nat.eq_of_beq_eq_true hm0; simp [this]
    | false => have : ¬ m = 0 := fun e => by subst e; simp at hm0
               simp [this]
   | false =>
    have n0 : n ≠ 0 := fun e => by subst e; simp at hn0
    cases hn1 : Nat.beq (n % 2) 1 with
    | true =>
     have n1 := Nat.eq_of_beq_eq_true hn1
     simp only [cond_true, cond_false, Tr.get_node]
     cases hm0 : Nat.beq m 0 with
     | true =>
      have m0 := Nat.eq_of_beq_eq_true hm0
      subst m0
      left; rw [if_neg (Ne.symm n0)]; rfl
     | false =>
      cases hm1 : Nat.beq (m % 2) 1 with
      | true =>
       have m1 := Nat.eq_of_beq_eq_true hm1
       simp only [cond_true, cond_false]
       rcases Wk1 f l (n / 2) x (m / 2) with h | h
       ·left; rw [h]; simp only [Wxi m1 n1]
       ·exact .inr h
      | false =>
       left
       have m1 : m % 2 ≠ 1 := fun e => by rw [e] at hm1; simp at hm1
       rw [if_neg (fun e : m = n => m1 (by rw [e]; exact n1))]
       rfl
    | false =>
     have n1 : n % 2 ≠ 1 := fun e => by rw [e] at hn1; simp at hn1
     simp only [cond_false, Tr.get_node]
     cases hm0 : Nat.beq m 0 with
     | true =>
      have m0 := Nat.eq_of_beq_eq_true hm0
      subst m0
      left; rw [if_neg (Ne.symm n0)]; rfl
     | false =>
      have m0 : m ≠ 0 := fun e => by subst e; simp at hm0
      cases hm1 : Nat.beq (m % 2) 1 with
      | true =>
       left
       have m1 := Nat.eq_of_beq_eq_true hm1
       rw [if_neg (fun e : m = n => n1 (by rw [← e]; exact m1))]
       rfl
      | false =>
       have m1 : m % 2 ≠ 1 := fun e => by rw [e] at hm1; simp at hm1
       simp only [cond_false]
       rcases Wk1 f r (n / 2 - 1) x (m / 2 - 1) with h | h
       ·left; rw [h]; simp only [Wu8 m1 n1 m0 n0]
       ·exact .inr h
  cases t with
  | leaf d =>
   refine key d (.leaf d) (.leaf d) (fun k => ?_) ?_
   ·rw [Tr.get_node]; cases Nat.beq k 0 <;> cases Nat.beq (k % 2) 1 <;> rfl
   ·show cond _ _ (cond _ (putC f _ _ _ _) (putC f _ _ _ _)) = _
    rw [Knt f (.leaf d) (n / 2) x (fun t' => Tr.node d t' (.leaf d)), Knt f (.leaf d) (n / 2 - 1) x (fun t' => Tr.node d (.leaf d) t')]
  | node v l r =>
   refine key v l r (fun k => rfl) ?_
   show cond _ _ (cond _ (putC f _ _ _ _) (putC f _ _ _ _)) = _
   rw [Knt f l (n / 2) x (fun t' => Tr.node v t' r), Knt f r (n / 2 - 1) x (fun t' => Tr.node v l t')]
theorem Tr.get_put (t : Tr) (n : Nat) (x : VV) (m : Nat) : (t.put n x).get m = (if m = n then x else t.get m) ∨ (t.put n x).get m = .dead := Wk1 12 t n x m
inductive Blk where
 | cells (cs : W5j)
 | mix (cs : W49)
 | gone
 | dict (kvs : List (ByteArray × DV))
 deriving Inhabited
abbrev W43 := List (Option Blk)
def Blk.live : Blk → Bool
 | .gone => false
 | _ => true
structure St where
 tmps : Tr
 n : Nat
 heap : List (Option Blk)
 deriving Inhabited
abbrev W5c := Nat → St
abbrev W46 := St → Option DV
structure Ktd (N : W42) (w w' : World) : Prop where
 os : w'.os = w.os
 tape : w'.tape = w.tape
 output : w'.output = w.output
 size : w.heap.size ≤ w'.heap.size
 block : ∀ k, N k → w'.heap[k]? = w.heap[k]?
theorem Ktd.refl {N : W42} {w : World} : Ktd N w w := ⟨rfl, rfl, rfl, Nat.le_refl _, fun _ _ => rfl⟩
theorem Ktd.trans {N : W42} {a b c : World} (h : Ktd N a b) (k : Ktd N b c) : Ktd N a c :=
 ⟨k.os.trans h.os, k.tape.trans h.tape, k.output.trans h.output, Nat.le_trans h.size k.size, fun i hi => (k.block i hi).trans (h.block i hi)⟩
theorem Ktd.sub {N M : W42} {a b : World} (h : Ktd N a b) (hs : ∀ k, M k → N k) : Ktd M a b := ⟨h.os, h.tape, h.output, h.size, fun k hk => h.block k (hs k hk)⟩
theorem Ktd.of_below {N : W42} {B : Nat} {a b : World} (h : Below B a b) (hs : ∀ k, N k → k < B) : Ktd N a b := ⟨h.os, h.tape, h.output, h.size, fun k hk => h.block k (hs k hk)⟩
theorem Ktd.below {B : Nat} {a b : World} (h : Ktd (fun k => k < B) a b) : Below B a b := ⟨h.os, h.tape, h.output, h.size, h.block⟩
def Lt (N : W42) (w : World) : Prop := ∀ k, N k → k < w.heap.size
theorem Lt.mono {N : W42} {w w' : World} (h : Lt N w) (hs : w.heap.size ≤ w'.heap.size) : Lt N w' := fun k hk => Nat.lt_of_lt_of_le (h k hk) hs
theorem Lt.new {N : W42} {w : World} (h : Lt N w) : ¬ N w.heap.size := fun hk => Nat.lt_irrefl _ (h _ hk)
theorem Ktd.alloc {N : W42} {a w : World} (h : Ktd N a w) (hN : Lt N w) (o : Obj) : Ktd N a (w.alloc o) := h.trans ⟨rfl, rfl, rfl, by simp, fun k hk => Below.heap_alloc _ _ _ (hN k hk)⟩
theorem Ktd.drew {N : W42} {a w : World} (h : Ktd N a w) : Ktd N a w.drew := ⟨h.os, h.tape, h.output, h.size, h.block⟩
def K9z (U : W42) (w : World) (kvs : List (ByteArray × DV)) (es : Array MapEntry) : Prop := es.size = kvs.length ∧ ∀ (i : Nat) (x : ByteArray × DV) (e : MapEntry), kvs[i]? = some x → es[i]? = some e → e.key = .string x.1 ∧ DRep U w x.2 e.val
theorem K9z.keep {U U' : W42} {w w' : World} (hU : ∀ k, U k → U' k) (hw : ∀ k, U k → w'.heap[k]? = w.heap[k]?) (hs : w.heap.size ≤ w'.heap.size) {kvs : List (ByteArray × DV)} {es : Array MapEntry} (h : K9z U w kvs es) : K9z U' w' kvs es :=
 ⟨h.1, fun i x e e1 e2 => ⟨(h.2 i x e e1 e2).1, (h.2 i x e e1 e2).2.keep hU hw hs⟩⟩
structure WRel (D : W41) (U N : W42) (w0 : World) (H : W43) (w : World) : Prop where
 below : Ktd N w0 w
 old : ∀ k, U k → k < w.heap.size
 own : ∀ b k, D b = some k → ¬ N k ∧ k < w.heap.size ∧ ∃ B, H[b]? = some (some B)
 hold : ∀ b k vs, D b = some k → H[b]? = some (some (.cells vs)) → ¬ U k ∧ ∃ cs T, w.heap[k]? = some (.cells cs T (0, 0)) ∧ vs.length ≤ cs.size ∧ ∀ (i : Nat) (x : DV) (v : Value), vs[i]? = some x → cs[i]? = some v → DRep U w x v
 holdm : ∀ b k vs, D b = some k → H[b]? = some (some (.mix vs)) → ¬ U k ∧ ∃ cs T, w.heap[k]? = some (.cells cs T (0, 0)) ∧ vs.length ≤ cs.size ∧ ∀ (i : Nat) (x : VV) (v : Value), vs[i]? = some x → cs[i]? = some v → CRep U w D x v
 holdp : ∀ b k kvs, D b = some k → H[b]? = some (some (.dict kvs)) → ¬ U k ∧ ∃ es clock, w.heap[k]? = some (.map es clock) ∧ K9z U w kvs es
 all : ∀ b B, H[b]? = some (some B) → ∃ k, D b = some k
 inj : ∀ b b' k B B', H[b]? = some (some B) → H[b']? = some (some B') → B.live = true → B'.live = true → D b = some k → D b' = some k → b = b'
def TRel (U : W42) (w : World) (D : W41) (ts : Tr) (n : Nat) (a : Act) : Prop :=
 a.defers = [] ∧ a.tmps.size = n ∧ ∀ (t : Nat) (v : Value), a.tmps[t]? = some v → VRep U w D (ts.get t) v
structure Kei (N : W42) (D : W41) (U : W42) (w : World) (D' : W41) (U' : W42) (w' : World) : Prop where
 ids : ∀ b k, D b = some k → D' b = some k
 set : ∀ k, U k → U' k
 keep : ∀ k, U k → w'.heap[k]? = w.heap[k]?
 size : w.heap.size ≤ w'.heap.size
 back : ∀ k, U' k → U k ∨ ¬ N k
 siz : ∀ b k cur T f, D b = some k → w.heap[k]? = some (.cells cur T f) → ∃ cur', (∃ f', w'.heap[k]? = some (.cells cur' T f')) ∧ cur'.size = cur.size
theorem Kei.refl {N : W42} {D : W41} {U : W42} {w : World} : Kei N D U w D U w := ⟨fun _ _ h => h, fun _ h => h, fun _ _ => rfl, Nat.le_refl _, fun _ h => .inl h, fun _ _ cur _ _ _ h => ⟨cur, ⟨_, h⟩, rfl⟩⟩
theorem Kei.trans {N : W42} {D D' D'' : W41} {U U' U'' : W42} {w w' w'' : World} (h : Kei N D U w D' U' w') (h' : Kei N D' U' w' D'' U'' w'') : Kei N D U w D'' U'' w'' :=
 ⟨fun b k hb => h'.ids b k (h.ids b k hb), fun k hk => h'.set k (h.set k hk), fun k hk => (h'.keep k (h.set k hk)).trans (h.keep k hk), Nat.le_trans h.size h'.size, fun k hk => (h'.back k hk).elim (h.back k) .inr, fun b k cur T f hb hc => by
  obtain ⟨c1, ⟨f1, g1⟩, s1⟩ := h.siz b k cur T f hb hc
  obtain ⟨c2, g2, s2⟩ := h'.siz b k c1 T f1 (h.ids b k hb) g1
  exact ⟨c2, g2, s2.trans s1⟩⟩
theorem CRep.onward {N : W42} {D D' : W41} {U U' : W42} {w w' : World} (h : Kei N D U w D' U' w') {x : VV} {v : Value} (hx : CRep U w D x v) : CRep U' w' D' x v := by
 cases x with
 | dv d => exact DRep.keep h.set h.keep h.size hx
 | ptr b o => obtain ⟨k, hk, rfl⟩ := hx; exact ⟨k, h.ids _ _ hk, rfl⟩
 | osl e sz b o n =>
  obtain ⟨k, c, cur, hk, hc, ⟨f, hh⟩, hs, rfl⟩ := hx
  obtain ⟨cur', hh', hs'⟩ := h.siz _ _ _ _ _ hk hh
  exact ⟨k, c, cur', h.ids _ _ hk, hc, hh', hs' ▸ hs, rfl⟩
 | eptr cs =>
  obtain ⟨k, off, rfl, hU, hc⟩ := hx
  refine ⟨k, off, rfl, h.set k hU, fun i x hi => ?_⟩
  obtain ⟨v, hv, hr⟩ := hc i x hi
  exact ⟨v, by rw [Wm7 (h.keep k hU)]; exact hv, hr.keep h.set h.keep h.size⟩
 | dead => trivial
 | vagg cs => cases hx
 | vtup cs => cases hx
 | mp b => obtain ⟨k, hk, rfl⟩ := hx; exact ⟨k, h.ids _ _ hk, rfl⟩
 | tp T sz b =>
  obtain ⟨k, cur, hk, ⟨f, hh⟩, hs, rfl⟩ := hx
  obtain ⟨cur', hh', hs'⟩ := h.siz _ _ _ _ _ hk hh
  exact ⟨k, cur', h.ids _ _ hk, hh', hs'.trans hs, rfl⟩
theorem ARep.onward {N : W42} {D D' : W41} {U U' : W42} {w w' : World} (h : Kei N D U w D' U' w') {x : VV} {v : Value} (hx : ARep U w D x v) : ARep U' w' D' x v := by
 cases x with
 | vagg cs => obtain ⟨vs, rfl, h1, h2⟩ := hx; exact ⟨vs, rfl, h1, fun i x u e1 e2 => (h2 i x u e1 e2).onward h⟩
 | vtup cs => cases hx
 | dead => trivial
 | dv d => exact CRep.onward (x := .dv d) h hx
 | ptr b o => exact CRep.onward (x := .ptr b o) h hx
 | osl e sz b o n => exact CRep.onward (x := .osl e sz b o n) h hx
 | eptr cs => exact CRep.onward (x := .eptr cs) h hx
 | mp b => exact CRep.onward (x := .mp b) h hx
 | tp T sz b => exact CRep.onward (x := .tp T sz b) h hx
theorem VRep.onward {N : W42} {D D' : W41} {U U' : W42} {w w' : World} (h : Kei N D U w D' U' w') {x : VV} {v : Value} (hx : VRep U w D x v) : VRep U' w' D' x v := by
 cases x with
 | vtup cs => obtain ⟨vs, rfl, h1, h2⟩ := hx; exact ⟨vs, rfl, h1, fun i x u e1 e2 => (h2 i x u e1 e2).onward h⟩
 | vagg cs => exact ARep.onward (x := .vagg cs) h hx
 | dead => trivial
 | dv d => exact CRep.onward (x := .dv d) h hx
 | ptr b o => exact CRep.onward (x := .ptr b o) h hx
 | osl e sz b o n => exact CRep.onward (x := .osl e sz b o n) h hx
 | eptr cs => exact CRep.onward (x := .eptr cs) h hx
 | mp b => exact CRep.onward (x := .mp b) h hx
 | tp T sz b => exact CRep.onward (x := .tp T sz b) h hx
theorem TRel.onward {N : W42} {D D' : W41} {U U' : W42} {w w' : World} (h : Kei N D U w D' U' w') {ts : Tr} {n : Nat} {a : Act} (ht : TRel U w D ts n a) : TRel U' w' D' ts n a :=
 ⟨ht.1, ht.2.1, fun t v h2 => (ht.2.2 t v h2).onward h⟩
def Le (ts ts' : Tr) : Prop := ∀ t, ts'.get t = ts.get t ∨ ts'.get t = .dead
theorem Le.refl (ts : Tr) : Le ts ts := fun _ => .inl rfl
theorem Le.rep {ts ts' : Tr} (h : Le ts ts') {U : W42} {w : World} {D : W41} {t : Nat} {v : Value} (hv : VRep U w D (ts.get t) v) : VRep U w D (ts'.get t) v := by
 rcases h t with e | e
 ·rw [e]; exact hv
 ·rw [e]; trivial
theorem TRel.le {U : W42} {w : World} {D : W41} {ts ts' : Tr} {n : Nat} {a : Act} (ht : TRel U w D ts n a) (h : Le ts ts') : TRel U w D ts' n a := ⟨ht.1, ht.2.1, fun t v h2 => h.rep (ht.2.2 t v h2)⟩
def putV (ts : Tr) (dst : Option Tmp) (x : VV) : Tr :=
 match dst with
 | some d => ts.put d x
 | none => ts
def putK (ts : Tr) (dst : Option Tmp) (x : VV) (k : Tr → Option DV) : Option DV :=
 match dst with
 | some d => putC 12 ts d x k
 | none => k ts
theorem Wo9 (ts : Tr) (dst : Option Tmp) (x : VV) (k : Tr → Option DV) : putK ts dst x k = k (putV ts dst x) := by
 cases dst with
 | none => rfl
 | some d => exact Knt 12 ts d x k
theorem Wdc (ts : Tr) (dst : Option Tmp) (x : VV) (t : Nat) : (putV ts dst x).get t = (if dst = some t then x else ts.get t) ∨ (putV ts dst x).get t = .dead := by
 cases dst with
 | none => left; simp [putV]
 | some d =>
  rcases Tr.get_put ts d x t with h | h
  ·left; simp only [putV, Option.some.injEq]; rw [h]; simp only [eq_comm]
  ·exact .inr h
theorem TRel.put {U : W42} {w : World} {D : W41} {ts : Tr} {n : Nat} {a : Act} (ht : TRel U w D ts n a) (dst : Option Tmp) {x : VV} {v : Value} (hx : VRep U w D x v) : TRel U w D (putV ts dst x) n (a.put dst v) := by
 refine ⟨by cases dst <;> exact ht.1, by cases dst <;> simp [Act.put, ht.2.1], fun t u h2 => ?_⟩
 rcases Wdc ts dst x t with h | h
 ·rw [h]
  cases dst with
  | none => simpa using ht.2.2 t u h2
  | some d =>
   simp only [Act.put] at h2
   by_cases hd : d = t
   ·subst hd
    rw [Array.getElem?_setIfInBounds] at h2
    simp at h2
    simp only [if_true]
    rw [← h2.2]; exact hx
   ·rw [Array.getElem?_setIfInBounds_ne hd] at h2
    rw [if_neg (by simpa using hd)]
    exact ht.2.2 t u h2
 ·rw [h]; trivial
def Kry (ts : Tr) (n : Nat) : Operand → VV
 | .tmp t => bif Nat.blt t n then ts.get t else .dv (.val undef)
 | .const v => .dv (.val v)
 | .global g => .dv (.val (.pointer (some ⟨g, 0, none⟩)))
 | .func f => .dv (.val (.func (.func f) #[] #[]))
theorem Who {U : W42} {w : World} {D : W41} {ts : Tr} {n : Nat} {a : Act} (hl : a.tmps.size = n) (x : Operand) (h : ∀ t, x = .tmp t → ∀ v, a.tmps[t]? = some v → VRep U w D (ts.get t) v) : VRep U w D (Kry ts n x) (a.eval x) := by
 cases x with
 | tmp t =>
  simp only [Kry, Act.eval]
  cases hb : Nat.blt t n with
  | true =>
   have hlt : t < a.tmps.size := by rw [hl]; exact Nat.le_of_ble_eq_true hb
   rw [Array.getD_eq_getD_getElem?, Array.getElem?_eq_getElem hlt]
   exact h t rfl _ (Array.getElem?_eq_getElem hlt)
  | false =>
   have hlt : ¬ t < a.tmps.size := by rw [hl]; intro h'; have : Nat.blt t n = true := Nat.ble_eq_true_of_le h'; rw [this] at hb; cases hb
   rw [Array.getD_eq_getD_getElem?, Array.getElem?_eq_none (Nat.le_of_not_lt hlt)]
   exact .val _
 | const v => exact .val _
 | global g => exact .val _
 | func f => exact .val _
theorem TRel.eval {U : W42} {w : World} {D : W41} {ts : Tr} {n : Nat} {a : Act} (ht : TRel U w D ts n a) (x : Operand) : VRep U w D (Kry ts n x) (a.eval x) :=
 Who ht.2.1 x fun t _ v hv => ht.2.2 t v hv
end Go.Pv
namespace Go.Pv
open Go Go.RowKit
theorem Ksd {U : W42} {w : World} {v u : Value} (h : DRep U w (.val v) u) : u = v := by cases h; rfl
def Wem : List DV → Option (List Value)
 | [] => some []
 | .val v :: r => match Wem r with | some l => some (v :: l) | none => none
 | _ :: _ => none
def DV.flat : DV → Option Value
 | .val v => some v
 | .agg cs => match Wem cs with | some l => some (.agg l.toArray) | none => none
 | .tup cs => match Wem cs with | some l => some (.tuple l.toArray) | none => none
 | .lst _ _ => none
 | .err => none
def VV.flat : VV → Option Value
 | .dv d => d.flat
 | _ => none
theorem K90 {U : W42} {w : World} : ∀ (cs : W5j) (l : List Value), Wem cs = some l → ∀ vs : List Value, vs.length = cs.length → (∀ (i : Nat) (x : DV) (v : Value), cs[i]? = some x → vs[i]? = some v → DRep U w x v) → vs = l
 | [], l, h, vs, hl, _ => by simp [Wem] at h; subst h; simpa using hl
 | c :: cs, l, h, vs, hl, hr => by
  cases c <;> simp [Wem] at h
  rename_i u
  cases hf : Wem cs with
  | none => simp [hf] at h
  | some l' =>
   simp [hf] at h
   subst h
   match vs, hl with
   | v :: vs, hl =>
    have h0 := hr 0 _ v rfl rfl
    cases h0
    rw [K90 cs l' hf vs (by simpa using hl) (fun i x v h1 h2 => hr (i + 1) x v (by simpa using h1) (by simpa using h2))]
theorem DV.flat_rep {U : W42} {w : World} {d : DV} {u v : Value} (hf : d.flat = some u) (h : DRep U w d v) : v = u := by
 cases h with
 | val v => simp [DV.flat] at hf; exact hf
 | agg h1 h2 =>
  rename_i cs vs
  simp only [DV.flat] at hf
  cases hl : Wem cs with
  | none => simp [hl] at hf
  | some l =>
   simp [hl] at hf
   rw [← hf, ← K90 cs l hl vs.toList (by simpa using h1) (fun i x v e1 e2 => h2 i x v e1 (by simpa using e2))]
 | tup h1 h2 =>
  rename_i cs vs
  simp only [DV.flat] at hf
  cases hl : Wem cs with
  | none => simp [hl] at hf
  | some l =>
   simp [hl] at hf
   rw [← hf, ← K90 cs l hl vs.toList (by simpa using h1) (fun i x v e1 e2 => h2 i x v e1 (by simpa using e2))]
 | nil => simp [DV.flat] at hf
 | err => simp [DV.flat] at hf
 | lst => simp [DV.flat] at hf
theorem VV.flat_rep {U : W42} {w : World} {D : W41} {x : VV} {u v : Value} (hf : x.flat = some u) (h : VRep U w D x v) : v = u := by
 cases x <;> simp [VV.flat] at hf
 exact DV.flat_rep hf h
def DV.cells : DV → List DV
 | .val (.agg cs) => cs.toList.map .val
 | .agg cs => cs
 | d => [d]
theorem DV.cells_rep {U : W42} {w : World} {d : DV} {v : Value} (h : DRep U w d v) : v.cells.size = d.cells.length ∧ ∀ (i : Nat) (x : DV) (u : Value), d.cells[i]? = some x → v.cells[i]? = some u → DRep U w x u := by
 have one : ∀ (d : DV) (v : Value), DRep U w d v → (#[v] : Array Value).size = [d].length ∧ ∀ (i : Nat) (x : DV) (u : Value), [d][i]? = some x → (#[v] : Array Value)[i]? = some u → DRep U w x u := by
  intro d v h
  refine ⟨rfl, fun i x u h1 h2 => ?_⟩
  match i with
  | 0 => simp at h1 h2; rw [← h1, ← h2]; exact h
  | i + 1 => simp at h1
 cases h with
 | val v =>
  cases v with
  | agg cs =>
   refine ⟨by simp [DV.cells, Value.cells], fun i x u h1 h2 => ?_⟩
   simp only [DV.cells, Value.cells] at h1 h2
   simp [h2] at h1
   rw [← h1]; exact .val _
  | _ => exact one _ _ (.val _)
 | agg h1 h2 => exact ⟨by simpa [DV.cells, Value.cells] using h1, h2⟩
 | tup h1 h2 => exact one _ _ (.tup h1 h2)
 | nil => exact one _ _ .nil
 | err => exact one _ _ .err
 | lst a1 a2 a3 a4 a5 a6 => exact one _ _ (.lst a1 a2 a3 a4 a5 a6)
def Wk2 (cs : W5j) : DV := match Wem cs with | some l => .val (.agg l.toArray) | none => .agg cs
theorem Wdd {U : W42} {w : World} {cs : W5j} {vs : Array Value} (h1 : vs.size = cs.length) (h2 : ∀ (i : Nat) (x : DV) (v : Value), cs[i]? = some x → vs[i]? = some v → DRep U w x v) : DRep U w (Wk2 cs) (.agg vs) := by
 unfold Wk2
 cases hl : Wem cs with
 | none => exact .agg h1 h2
 | some l =>
  have := K90 cs l hl vs.toList (by simpa using h1) (fun i x v e1 e2 => h2 i x v e1 (by simpa using e2))
  simp only []
  rw [← this]
  exact .val _
def Wpa (cs : W5j) : DV := match Wem cs with | some l => .val (.tuple l.toArray) | none => .tup cs
theorem Whp {U : W42} {w : World} {cs : W5j} {vs : Array Value} (h1 : vs.size = cs.length) (h2 : ∀ (i : Nat) (x : DV) (v : Value), cs[i]? = some x → vs[i]? = some v → DRep U w x v) : DRep U w (Wpa cs) (.tuple vs) := by
 unfold Wpa
 cases hl : Wem cs with
 | none => exact .tup h1 h2
 | some l =>
  have := K90 cs l hl vs.toList (by simpa using h1) (fun i x v e1 e2 => h2 i x v e1 (by simpa using e2))
  simp only []
  rw [← this]
  exact .val _
def Kx0 (ids : List Nat) (base j : Nat) : Nat := match ids[j]? with | some b => b | none => base + (j - ids.length)
def Wen (ids : List Nat) (base : Nat) : VV → VV
 | .ptr j o => .ptr (Kx0 ids base j) o
 | .osl e sz j o n => .osl e sz (Kx0 ids base j) o n
 | .mp j => .mp (Kx0 ids base j)
 | .tp T sz j => .tp T sz (Kx0 ids base j)
 | .vagg _ => .dead
 | .vtup _ => .dead
 | x => x
def Wpb (ids : List Nat) (base : Nat) : VV → VV
 | .vagg cs => .vagg (cs.map (Wen ids base))
 | x => Wen ids base x
def Wk3 (ids : List Nat) (base : Nat) : VV → VV
 | .vtup cs => .vtup (cs.map (Wpb ids base))
 | x => Wpb ids base x
def K91 (ids : List Nat) (base : Nat) : Option Blk → Option Blk
 | some (.mix cs) => some (.mix (cs.map (Wen ids base)))
 | x => x
def Wbu : List (Option Blk) → List Nat → List (Option Blk) → List (Option Blk)
 | H, b :: ids, x :: xs => Wbu (H.set b x) ids xs
 | H, _, _ => H
def K1j (H : W43) (ids : List Nat) (Hc : W43) : List (Option Blk) := Wbu H ids ((Hc.take ids.length).map (K91 ids H.length)) ++ (Hc.drop ids.length).map (K91 ids H.length)
def K7x : List (Option Blk) → List Nat → List (Option Blk)
 | H, [] => H
 | H, b :: bs => K7x (H.set b (some .gone)) bs
inductive Eff where
 | none
 | new (cs : W5j)
 | upd (b : Nat) (cs : W5j)
 | move (b : Nat) (cs : W5j)
 | newm (cs : W49)
 | updm (b : Nat) (cs : W49)
 | call (ids : List Nat) (Hc : W43)
 | ice (bs : List Nat)
 | newB (B : Blk)
 | setB (b : Nat) (B : Blk)
abbrev W5f := Nat → Eff
def addM (id : Nat) (H : W43) (B : Blk) : List (Option Blk) := bif Nat.blt id H.length then H.set id (some B) else H ++ [some B]
def addB (id : Nat) (H : W43) (cs : W5j) : List (Option Blk) := bif Nat.blt id H.length then H.set id (some (.cells cs)) else H ++ [some (.cells cs)]
def Eff.app (id : Nat) (H : W43) : Eff → List (Option Blk)
 | .none => H
 | .new cs => addB id H cs
 | .upd b cs => H.set b (some (.cells cs))
 | .move b cs => addB id (H.set b (some .gone)) cs
 | .newm cs => addM id H (.mix cs)
 | .updm b cs => H.set b (some (.mix cs))
 | .call ids Hc => K1j H ids Hc
 | .ice bs => K7x H bs
 | .newB B => addM id H B
 | .setB b B => H.set b (some B)
def K6c (H H' : W43) : Prop := ∀ (b : Nat) (cs cs' : Blk), H[b]? = some (some cs) → H'[b]? = some (some cs') → cs = cs'
theorem K6c.refl (H : W43) : K6c H H := fun _ _ _ h h' => by rw [h] at h'; simpa using h'
def OpOk (P : Program) (I : W40) (o : Oper) (ρ : W44) (H : W43) (id : Nat) (x : VV) (eff : Eff) : Prop :=
 ∀ (D : W41) (U N : W42) (w0 : World) (H' : W43) (w : World) (a : Act) (next : W5a) (Q : W5b),
  (∀ w', Ktd N w0 w' → I w') → K6c H H' → WRel D U N w0 H' w → Lt N w → D id = none → id ≤ H'.length → (∀ y ∈ o.op.operands, VRep U w D (ρ y) (a.eval y)) →
  (∀ v w' D' U', Kei N D U w D' U' w' → WRel D' U' N w0 (eff.app id H') w' → (∀ b, D b = Option.none → b ≠ id → D' b = Option.none) → VRep U' w' D' x v → next (a.put o.dst v) w') → o.wp P a w next Q
def Wpc (P : Program) (I : W40) (o : Oper) (ρ : W44) (H : W43) (x : VV) (eff : Eff) : Prop :=
 ∀ (D : W41) (U N : W42) (w0 w : World) (a : Act) (next : W5a) (Q : W5b),
  (∀ w', Ktd N w0 w' → I w') → WRel D U N w0 H w → Lt N w → (∀ y ∈ o.op.operands, VRep U w D (ρ y) (a.eval y)) →
  (∀ v w' D' U', Kei N D U w D' U' w' → WRel D' U' N w0 (eff.app H.length H) w' → VRep U' w' D' x v → next (a.put o.dst v) w') → o.wp P a w next Q
theorem WRel.fresh {D : W41} {U : W42} {N : W42} {w0 w : World} {H : W43} (h : WRel D U N w0 H w) {b : Nat} (hb : H.length ≤ b) : D b = none := by
 cases hd : D b with
 | none => rfl
 | some k =>
  obtain ⟨_, _, vs, g⟩ := h.own b k hd
  rw [List.getElem?_eq_none hb] at g; cases g
theorem OpOk.seq {P : Program} {I : W40} {o : Oper} {ρ : W44} {H : W43} {x : VV} {eff : Eff} (h : OpOk P I o ρ H H.length x eff) : Wpc P I o ρ H x eff :=
 fun D U N w0 w a next Q hI hW hN hops hn => h D U N w0 H w a next Q hI (K6c.refl H) hW hN (hW.fresh (Nat.le_refl _)) (Nat.le_refl _) hops fun v w' D' U' ho hW' _ hx => hn v w' D' U' ho hW' hx
def Wk4 (P : Program) (I : W40) (o : Oper) (ρ : W44) (H : W43) (id : Nat) (x : VV) : Eff → Prop
 | .call ids Hc => id = H.length → Wpc P I o ρ H x (.call ids Hc)
 | .ice bs => id = H.length → Wpc P I o ρ H x (.ice bs)
 | e => OpOk P I o ρ H id x e
theorem Wk4.seq {P : Program} {I : W40} {o : Oper} {ρ : W44} {H : W43} {x : VV} {eff : Eff} (h : Wk4 P I o ρ H H.length x eff) : Wpc P I o ρ H x eff := by
 cases eff with
 | call ids Hc => exact h rfl
 | ice bs => exact h rfl
 | none => exact OpOk.seq h
 | new cs => exact OpOk.seq h
 | upd b cs => exact OpOk.seq h
 | move b cs => exact OpOk.seq h
 | newm cs => exact OpOk.seq h
 | updm b cs => exact OpOk.seq h
 | newB B => exact OpOk.seq h
 | setB b B => exact OpOk.seq h
theorem Kd4 {P : Program} {I : W40} {o : Oper} {ρ : W44} {H : W43} {id : Nat} {x : VV}
  (h : ∀ (D : W41) (U : W42) (w : World) (a : Act), (∀ y ∈ o.op.operands, VRep U w D (ρ y) (a.eval y)) → ∃ v, (execOp a.eval o).run P w = .ok (.value v) w ∧ VRep U w D x v) : OpOk P I o ρ H id x .none := by
 intro D U N w0 H' w a next Q hI _ hW _ _ _ hops hn
 obtain ⟨v, hv, hx⟩ := h D U w a hops
 unfold Oper.wp
 rw [hv]
 exact hn v w D U Kei.refl hW (fun _ h _ => h) hx
def Wsj : Op → Bool
 | .select _ _ => false
 | _ => true
def ρF (ρ : W44) : Operand → Value := fun x => match (ρ x).flat with | some v => v | none => undef
def K1k (ρ : W44) (o : Oper) : Bool := o.op.operands.toList.all fun x => (ρ x).flat.isSome
theorem Wq7 {P : Program} {o : Oper} {ρ : W44} (hf : K1k ρ o = true) (hs : Wsj o.op = true) {D : W41} {U : W42} {w : World} {a : Act} (hops : ∀ y ∈ o.op.operands, VRep U w D (ρ y) (a.eval y)) : execOp a.eval o = execOp (ρF ρ) o := by
 refine execOp_congr o (fun cs b h => by rw [h] at hs; simp [Wsj] at hs) fun x hx => ?_
 have h1 := hops x hx
 have h2 : (ρ x).flat.isSome = true := by
  have := List.all_eq_true.1 hf x (by simpa using hx)
  exact this
 obtain ⟨u, hu⟩ := Option.isSome_iff_exists.1 h2
 rw [VV.flat_rep hu h1]
 simp [ρF, hu]
theorem Wu9 {P : Program} {I : W40} {o : Oper} {ρ : W44} {H : W43} {id : Nat} {v : Value} (hf : K1k ρ o = true) (hs : Wsj o.op = true)
  (h : ∀ w, (execOp (ρF ρ) o).run P w = .ok (.value v) w) : OpOk P I o ρ H id (.dv (.val v)) .none :=
 Kd4 fun D U w a hops => ⟨v, by rw [Wq7 (P := P) hf hs hops]; exact h w, .val v⟩
theorem Wi9 {P : Program} {I : W40} {o : Oper} {ρ : W44} {H : W43} {id : Nat} (hf : K1k ρ o = true) (hs : Wsj o.op = true)
  (h : ∀ w, (execOp (ρF ρ) o).run P w = .ok .skip w) : OpOk P I o ρ H id (.dv (.val undef)) .none := by
 intro D U N w0 H' w a next Q hI _ hW _ _ _ hops hn
 unfold Oper.wp
 rw [Wq7 (P := P) hf hs hops, h w]
 exact hn undef w D U Kei.refl hW (fun _ h _ => h) (.val undef)
end Go.Pv
namespace Go.Pv
open Go Go.RowKit
theorem Kxf {w : World} {k : Nat} {o : Obj} (h : w.heap[k]? = some o) : k < w.heap.size := (Array.getElem?_eq_some_iff.1 h).1
def updD (D : W41) (id k : Nat) : Nat → Option Nat := fun b => if b = id then some k else D b
theorem Kvw (id : Nat) (H : W43) (cs : W5j) (h : id ≤ H.length) : (addB id H cs)[id]? = some (some (.cells cs)) := by
 simp only [addB]
 cases hb : Nat.blt id H.length with
 | true =>
  have : id < H.length := by simp [Nat.blt] at hb; omega
  simp [List.getElem?_set, this]
 | false =>
  have : ¬ id < H.length := by intro h'; have h2 : Nat.blt id H.length = true := Nat.ble_eq_true_of_le h'; rw [h2] at hb; cases hb
  have : id = H.length := by omega
  subst this
  simp
theorem Kmv (id : Nat) (H : W43) (cs : W5j) (h : id ≤ H.length) (b : Nat) (hb : b ≠ id) : (addB id H cs)[b]? = H[b]? := by
 simp only [addB]
 cases hc : Nat.blt id H.length with
 | true => simp [List.getElem?_set, Ne.symm hb]
 | false =>
  have : ¬ id < H.length := by intro h'; have h2 : Nat.blt id H.length = true := Nat.ble_eq_true_of_le h'; rw [h2] at hc; cases hc
  have : id = H.length := by omega
  subst this
  simp only [cond_false]
  by_cases hlt : b < H.length
  ·rw [List.getElem?_append_left hlt]
  ·rw [List.getElem?_eq_none (by simp; omega), List.getElem?_eq_none (by omega)]
theorem Kol (w : World) (o : Obj) : (w.alloc o).heap[w.heap.size]? = some o := by show (w.heap.push o)[w.heap.size]? = some o; simp
theorem Knz {N : W42} {D : W41} {U : W42} {w : World} {id : Nat} (hU : ∀ k, U k → k < w.heap.size) (hid : D id = none) (o : Obj) : Kei N D U w (updD D id w.heap.size) U (w.alloc o) :=
 ⟨fun b k h => by unfold updD; split; · subst_vars; rw [hid] at h; cases h
                  ·exact h, fun _ h => h, fun k h => Below.heap_alloc _ _ _ (hU k h), by simp, fun _ h => .inl h, fun b k cur T f _ h => ⟨cur, ⟨f, by rw [Below.heap_alloc _ _ _ (Kxf h)]; exact h⟩, rfl⟩⟩
theorem WRel.add {D : W41} {U : W42} {N : W42} {w0 w w' : World} {H H1 : W43} {id k : Nat} {cs : W5j} {vs : Array Value} {T : TypeId}
  (hW : WRel D U N w0 H w) (hon : Kei N D U w (updD D id k) U w') (hbl : Ktd N w0 w') (hNk : ¬ N k) (hid : D id = none) (hl : id ≤ H1.length) (hk : w'.heap[k]? = some (.cells vs T (0, 0))) (hUk : ¬ U k)
  (hsame : ∀ b, b ≠ id → (H1[b]? = H[b]? ∨ (H1[b]? = some (some .gone) ∧ ∃ B, H[b]? = some (some B))))
  (hlive : ∀ b j B, D b = some j → H1[b]? = some (some B) → B.live = true → j ≠ k ∧ w'.heap[j]? = w.heap[j]?)
  (h1 : cs.length ≤ vs.size) (h2 : ∀ (i : Nat) (x : DV) (v : Value), cs[i]? = some x → vs[i]? = some v → DRep U w' x v) :
  WRel (updD D id k) U N w0 (addB id H1 cs) w' := by
 have ho := hon
 have back : ∀ b B, b ≠ id → H1[b]? = some (some B) → B.live = true → H[b]? = some (some B) := by
  intro b B hne hb hv
  rcases hsame b hne with h | ⟨h, _⟩
  ·rw [← h]; exact hb
  ·rw [hb] at h; cases h; cases hv
 refine ⟨hbl, fun k h => Nat.lt_of_lt_of_le (hW.old k h) ho.size, ?_, ?_, ?_, ?_, ?_, ?_⟩
 ·intro b j hb
  by_cases hne : b = id
  ·subst hne
   simp only [updD, if_true, Option.some.injEq] at hb
   subst hb
   exact ⟨hNk, Kxf hk, _, Kvw _ _ _ hl⟩
  ·have hb' := hb
   simp only [updD, hne, if_false] at hb'
   obtain ⟨g1, g2, B, g3⟩ := hW.own b j hb'
   refine ⟨g1, Nat.lt_of_lt_of_le g2 ho.size, ?_⟩
   rw [Kmv _ _ _ hl _ hne]
   rcases hsame b hne with h | ⟨h, _⟩
   ·exact ⟨B, h.trans g3⟩
   ·exact ⟨_, h⟩
 ·intro b j us hb hH
  by_cases hne : b = id
  ·subst hne
   simp only [updD, if_true, Option.some.injEq] at hb
   subst hb
   rw [Kvw _ _ _ hl] at hH
   simp only [Option.some.injEq, Blk.cells.injEq] at hH
   subst hH
   exact ⟨hUk, vs, T, hk, h1, h2⟩
  ·rw [Kmv _ _ _ hl _ hne] at hH
   simp only [updD, hne, if_false] at hb
   obtain ⟨g1, cs', T', g2, g3, g4⟩ := hW.hold b j us hb (back b _ hne hH rfl)
   obtain ⟨e1, e2⟩ := hlive b j _ hb hH rfl
   exact ⟨g1, cs', T', by rw [e2]; exact g2, g3, fun i x v p q => (g4 i x v p q).keep ho.set ho.keep ho.size⟩
 ·intro b j us hb hH
  by_cases hne : b = id
  ·subst hne
   rw [Kvw _ _ _ hl] at hH
   simp at hH
  ·rw [Kmv _ _ _ hl _ hne] at hH
   simp only [updD, hne, if_false] at hb
   obtain ⟨g1, cs', T', g2, g3, g4⟩ := hW.holdm b j us hb (back b _ hne hH rfl)
   obtain ⟨e1, e2⟩ := hlive b j _ hb hH rfl
   exact ⟨g1, cs', T', by rw [e2]; exact g2, g3, fun i x v p q => (g4 i x v p q).onward ho⟩
 ·intro b j us hb hH
  by_cases hne : b = id
  ·subst hne
   rw [Kvw _ _ _ hl] at hH
   simp at hH
  ·rw [Kmv _ _ _ hl _ hne] at hH
   simp only [updD, hne, if_false] at hb
   obtain ⟨g1, es, cl, g2, g4⟩ := hW.holdp b j us hb (back b _ hne hH rfl)
   obtain ⟨e1, e2⟩ := hlive b j _ hb hH rfl
   exact ⟨g1, es, cl, by rw [e2]; exact g2, g4.keep ho.set ho.keep ho.size⟩
 ·intro b B hb
  by_cases hne : b = id
  ·subst hne; exact ⟨k, by simp [updD]⟩
  ·rw [Kmv _ _ _ hl _ hne] at hb
   rcases hsame b hne with h | ⟨_, B', h⟩
   ·rw [h] at hb
    obtain ⟨j, hj⟩ := hW.all b B hb
    exact ⟨j, by simp [updD, hne, hj]⟩
   ·obtain ⟨j, hj⟩ := hW.all b B' h
    exact ⟨j, by simp [updD, hne, hj]⟩
 ·intro b b' j us us' hb hb' hv hv' hd hd'
  by_cases hne : b = id <;> by_cases hne' : b' = id
  ·rw [hne, hne']
  ·subst hne
   simp only [updD, if_true, Option.some.injEq] at hd
   subst hd
   rw [Kmv _ _ _ hl _ hne'] at hb'
   simp only [updD, hne', if_false] at hd'
   exact absurd rfl (hlive b' _ us' hd' hb' hv').1
  ·subst hne'
   simp only [updD, if_true, Option.some.injEq] at hd'
   subst hd'
   rw [Kmv _ _ _ hl _ hne] at hb
   simp only [updD, hne, if_false] at hd
   exact absurd rfl (hlive b _ us hd hb hv).1
  ·rw [Kmv _ _ _ hl _ hne] at hb
   rw [Kmv _ _ _ hl _ hne'] at hb'
   simp only [updD, hne, hne', if_false] at hd hd'
   exact hW.inj b b' j us us' (back b us hne hb hv) (back b' us' hne' hb' hv') hv hv' hd hd'
theorem WRel.new {D : W41} {U : W42} {N : W42} {w0 w : World} {H : W43} {id : Nat} {cs : W5j} {vs : Array Value} {T : TypeId}
  (hW : WRel D U N w0 H w) (hN : Lt N w) (hid : D id = none) (hl : id ≤ H.length) (h1 : cs.length ≤ vs.size) (h2 : ∀ (i : Nat) (x : DV) (v : Value), cs[i]? = some x → vs[i]? = some v → DRep U w x v) :
  WRel (updD D id w.heap.size) U N w0 ((Eff.new cs).app id H) (w.alloc (.cells vs T)) := by
 have ho := Knz (N := N) (o := .cells vs T) hW.old hid
 refine hW.add (N := N) ho (hW.below.alloc hN _) hN.new hid hl (Kol _ _) (fun h => Nat.lt_irrefl _ (hW.old _ h)) (fun b _ => .inl rfl) (fun b j us hb _ _ => ?_) h1 (fun i x v e1 e2 => (h2 i x v e1 e2).keep ho.set ho.keep ho.size)
 obtain ⟨_, g2, _⟩ := hW.own b j hb
 exact ⟨by omega, Below.heap_alloc _ _ _ g2⟩
theorem Wq8 {P : Program} {I : W40} {o : Oper} {ρ : W44} {H : W43} {id : Nat} {cs : W5j}
  (h : ∀ (D : W41) (U : W42) (w : World) (a : Act), (∀ y ∈ o.op.operands, VRep U w D (ρ y) (a.eval y)) →
   ∃ vs T, (execOp a.eval o).run P w = .ok (.value (.pointer (some ⟨w.heap.size, 0, none⟩))) (w.alloc (.cells vs T)) ∧ vs.size = cs.length ∧ ∀ (i : Nat) (x : DV) (v : Value), cs[i]? = some x → vs[i]? = some v → DRep U w x v) :
  OpOk P I o ρ H id (.ptr id 0) (.new cs) := by
 intro D U N w0 H' w a next Q hI _ hW hN hid hl hops hn
 obtain ⟨vs, T, hr, h1, h2⟩ := h D U w a hops
 unfold Oper.wp
 rw [hr]
 refine hn _ _ _ _ (Knz hW.old hid _) (hW.new hN hid hl (by omega) h2) (fun b hb hne => by simp [updD, hne, hb]) ⟨w.heap.size, by simp [updD], rfl⟩
def U2 (U : W42) (w w' : World) : Nat → Prop := fun k => U k ∨ (w.heap.size ≤ k ∧ k < w'.heap.size)
theorem K4q {N : W42} {D : W41} {U : W42} {w w' : World} (hN : Lt N w) (hU : ∀ k, U k → k < w.heap.size) (hb : Below w.heap.size w w') : Kei N D U w D (U2 U w w') w' :=
 ⟨fun _ _ h => h, fun _ h => .inl h, fun k h => hb.block k (hU k h), hb.size, fun k h => h.imp id (fun h hk => Nat.lt_irrefl _ (Nat.lt_of_lt_of_le (hN k hk) h.1)), fun _ k cur T f _ h => ⟨cur, ⟨f, by rw [hb.block k (Kxf h)]; exact h⟩, rfl⟩⟩
theorem WRel.below' {D : W41} {U : W42} {N : W42} {w0 w w' : World} {H : W43} (hW : WRel D U N w0 H w) (hN : Lt N w) (hb : Below w.heap.size w w') : WRel D (U2 U w w') N w0 H w' := by
 have ho := K4q (N := N) (D := D) hN hW.old hb
 refine ⟨hW.below.trans (.of_below hb hN), ?_, ?_, ?_, ?_, ?_, hW.all, hW.inj⟩
 ·intro k h
  rcases h with h | h
  ·exact Nat.lt_of_lt_of_le (hW.old k h) hb.size
  ·exact h.2
 ·intro b k h
  obtain ⟨g1, g2, g3⟩ := hW.own b k h
  exact ⟨g1, Nat.lt_of_lt_of_le g2 hb.size, g3⟩
 ·intro b k vs h hH
  obtain ⟨_, g2, _⟩ := hW.own b k h
  obtain ⟨g1, cs', T', g3, g5, g6⟩ := hW.hold b k vs h hH
  refine ⟨?_, cs', T', ?_, g5, fun i x v e1 e2 => (g6 i x v e1 e2).keep ho.set ho.keep ho.size⟩
  ·intro hu
   rcases hu with hu | hu
   ·exact g1 hu
   ·omega
  ·rw [hb.block k g2]; exact g3
 ·intro b k vs h hH
  obtain ⟨_, g2, _⟩ := hW.own b k h
  obtain ⟨g1, cs', T', g3, g5, g6⟩ := hW.holdm b k vs h hH
  refine ⟨?_, cs', T', ?_, g5, fun i x v e1 e2 => (g6 i x v e1 e2).onward ho⟩
  ·intro hu
   rcases hu with hu | hu
   ·exact g1 hu
   ·omega
  ·rw [hb.block k g2]; exact g3
 ·intro b k vs h hH
  obtain ⟨_, g2, _⟩ := hW.own b k h
  obtain ⟨g1, es, cl, g3, g6⟩ := hW.holdp b k vs h hH
  refine ⟨?_, es, cl, ?_, g6.keep ho.set ho.keep ho.size⟩
  ·intro hu
   rcases hu with hu | hu
   ·exact g1 hu
   ·omega
  ·rw [hb.block k g2]; exact g3
def K0j (P : Program) (g : FuncId) : Bool := match P.funcs[g]? with | some fn => !(fn.name == "runtime.NumGoroutine") && !fn.body.isNone | none => false
def Kce (P : Program) (I : W40) (g : FuncId) (G : List DV → (DV → Option DV) → Option DV) : Prop :=
 ∀ (ds : W5j) (k : W5g) (r : DV), G ds k = some r → K0j P g = true ∧ ∃ d, k d = some r ∧ (∀ k', G ds k' = k' d) ∧ ∀ (U : W42) (w : World) (args : Array Value), I w → (∀ k, U k → k < w.heap.size) → args.size = ds.length →
  (∀ (i : Nat) (x : DV) (v : Value), ds[i]? = some x → args[i]? = some v → DRep U w x v) →
  Calls P g args w fun e w' => ∃ v, e = .returned v ∧ Below w.heap.size w w' ∧ DRep (U2 U w w') w' d v
theorem Wfo {P : Program} {g : FuncId} (h : K0j P g = true) (args : Array Value) (w : World) : (callFunc g args).run P w = .ok (.enter g args) w := by
 unfold K0j at h
 cases hf : P.funcs[g]? with
 | none => simp [hf] at h
 | some fn =>
  simp [hf] at h
  obtain ⟨h1, h2⟩ := h
  unfold callFunc
  have hb : fn.body.isNone = false := by cases hh : fn.body <;> simp_all
  simp [program, Sem.run, hf, h1, hb, pure]
  intro he; rw [he] at h2; simp at h2
def Wa1 (ρ : W44) (c : Call) : Option (FuncId × Array Value × Array Value) :=
 match c.callee with
 | .value f => match (ρ f).flat with
  | some (.func (.func g) first captured) => some (g, first, captured)
  | _ => none
 | _ => none
end Go.Pv
namespace Go.Pv
open Go Go.RowKit
def Wva : VV → List Nat
 | .ptr b _ => [b]
 | .osl _ _ b _ _ => [b]
 | .mp b => [b]
 | .tp _ _ b => [b]
 | _ => []
def Wpd (f : VV → List Nat) : List VV → List Nat
 | [] => []
 | x :: l => f x ++ Wpd f l
def W1t : VV → List Nat
 | .vagg cs => Wpd Wva cs
 | x => Wva x
def Wsk : VV → List Nat
 | .vtup cs => Wpd W1t cs
 | x => W1t x
def K6d : List Nat → List Nat → List Nat
 | [], acc => acc
 | b :: l, acc => bif acc.any (Nat.beq b) then K6d l acc else K6d l (acc ++ [b])
def Kx1 (H : W43) : Nat → Nat → List Nat → List Nat
 | 0, _, ids => ids
 | n + 1, p, ids => match ids[p]? with
  | none => ids
  | some b => match H[b]? with
   | some (some (.mix cs)) => Kx1 H n (p + 1) (K6d (Wpd Wva cs) ids)
   | _ => Kx1 H n (p + 1) ids
def Kxg (H : W43) (b : Nat) : Bool := match H[b]? with | some (some B) => B.live | _ => false
def K1l (H : W43) : List Nat → List Nat
 | [] => []
 | b :: l => bif Kxg H b then b :: K1l H l else K1l H l
theorem Kwz {H : W43} : ∀ {l : List Nat} {b : Nat}, b ∈ K1l H l → b ∈ l ∧ Kxg H b = true
 | [], b, h => by simp [K1l] at h
 | x :: l, b, h => by
  simp only [K1l] at h
  cases hx : Kxg H x with
  | true =>
   rw [hx] at h
   simp only [cond_true, List.mem_cons] at h
   rcases h with rfl | h
   ·exact ⟨by simp, hx⟩
   ·exact ⟨by simp [(Kwz h).1], (Kwz h).2⟩
  | false =>
   rw [hx] at h
   simp only [cond_false] at h
   exact ⟨by simp [(Kwz h).1], (Kwz h).2⟩
theorem K2a {H : W43} : ∀ {l : List Nat}, l.Nodup → (K1l H l).Nodup
 | [], _ => by simp [K1l]
 | x :: l, h => by
  obtain ⟨h1, h2⟩ := List.nodup_cons.1 h
  simp only [K1l]
  cases hx : Kxg H x with
  | true => exact List.nodup_cons.2 ⟨fun hm => h1 (Kwz hm).1, K2a h2⟩
  | false => exact K2a h2
def Knd (H : W43) (xs : W49) : List Nat := K1l H (Kx1 H 40 0 (K6d (Wpd Wsk xs) []))
def K0k (b : Nat) : List Nat → Nat → Option Nat
 | [], _ => none
 | x :: l, i => bif Nat.beq b x then some i else K0k b l (i + 1)
def Wja (ids : List Nat) : VV → VV
 | .ptr b o => match K0k b ids 0 with | some j => .ptr j o | none => .dead
 | .osl e sz b o n => match K0k b ids 0 with | some j => .osl e sz j o n | none => .dead
 | .mp b => match K0k b ids 0 with | some j => .mp j | none => .dead
 | .tp T sz b => match K0k b ids 0 with | some j => .tp T sz j | none => .dead
 | .vagg _ => .dead
 | .vtup _ => .dead
 | x => x
def Wz3 (ids : List Nat) : VV → VV
 | .vagg cs => .vagg (cs.map (Wja ids))
 | x => Wja ids x
def K92 (ids : List Nat) : VV → VV
 | .vtup cs => .vtup (cs.map (Wz3 ids))
 | x => Wz3 ids x
def Wpe (ids : List Nat) : Option Blk → Option Blk
 | some (.mix cs) => some (.mix (cs.map (Wja ids)))
 | x => x
def K1m (H : W43) (ids : List Nat) : List (Option Blk) := ids.map fun b => match H[b]? with | some x => Wpe ids x | none => none
theorem Kxh : ∀ (l acc : List Nat), acc.Nodup → (K6d l acc).Nodup
 | [], acc, h => h
 | b :: l, acc, h => by
  simp only [K6d]
  cases hb : acc.any (Nat.beq b) with
  | true => exact Kxh l acc h
  | false =>
   refine Kxh l _ (List.nodup_append.2 ⟨h, by simp, ?_⟩)
   intro x hx y hy e
   simp at hy
   subst hy
   subst e
   rw [List.any_eq_false] at hb
   exact hb x hx (Nat.beq_refl x)
theorem K0a (H : W43) : ∀ (n p : Nat) (ids : List Nat), ids.Nodup → (Kx1 H n p ids).Nodup
 | 0, _, ids, h => h
 | n + 1, p, ids, h => by
  simp only [Kx1]
  split
  ·exact h
  ·split
   ·exact K0a H n _ _ (Kxh _ _ h)
   ·exact K0a H n _ _ h
theorem Wjb (H : W43) (xs : W49) : (Knd H xs).Nodup := K2a (K0a H _ _ _ (Kxh _ _ (by simp)))
theorem K6e : ∀ (l acc : List Nat), ∃ t, K6d l acc = acc ++ t
 | [], acc => ⟨[], by simp [K6d]⟩
 | b :: l, acc => by
  simp only [K6d]
  cases hb : acc.any (Nat.beq b) with
  | true => exact K6e l acc
  | false =>
   obtain ⟨t, ht⟩ := K6e l (acc ++ [b])
   exact ⟨[b] ++ t, by simp only [cond_false]; rw [ht, List.append_assoc]⟩
theorem K93 (H : W43) : ∀ (n p : Nat) (ids : List Nat), ∃ t, Kx1 H n p ids = ids ++ t
 | 0, _, ids => ⟨[], by simp [Kx1]⟩
 | n + 1, p, ids => by
  simp only [Kx1]
  split
  ·exact ⟨[], by simp⟩
  ·split
   ·rename_i cs _
    obtain ⟨t1, h1⟩ := K6e (Wpd Wva cs) ids
    obtain ⟨t2, h2⟩ := K93 H n (p + 1) (K6d (Wpd Wva cs) ids)
    exact ⟨t1 ++ t2, by rw [h2, h1, List.append_assoc]⟩
   ·exact K93 H n (p + 1) ids
theorem Wde (H : W43) (m n : Nat) (ids : List Nat) (hnd : ids.Nodup) (hp : ∃ l, ids = List.range m ++ l) : (List.range m ++ K1l H ((Kx1 H n 0 ids).drop m)).Nodup := by
 obtain ⟨l, rfl⟩ := hp
 obtain ⟨t, ht⟩ := K93 H n 0 (List.range m ++ l)
 have h2 := K0a H n 0 _ hnd
 rw [ht, List.append_assoc] at h2 ⊢
 rw [List.drop_left' (by simp)]
 obtain ⟨h3, h4, h5⟩ := List.nodup_append.1 h2
 exact List.nodup_append.2 ⟨h3, K2a h4, fun a ha b hb => h5 a ha b (Kwz hb).1⟩
theorem Kte (b : Nat) : ∀ (l : List Nat) (i j : Nat), K0k b l i = some j → ∃ m, j = i + m ∧ l[m]? = some b
 | [], i, j, h => by cases h
 | x :: l, i, j, h => by
  simp only [K0k] at h
  cases hb : Nat.beq b x with
  | true =>
   have := Nat.eq_of_beq_eq_true hb
   subst this
   rw [hb] at h
   simp at h
   exact ⟨0, by omega, rfl⟩
  | false =>
   rw [hb] at h
   simp only [cond_false] at h
   obtain ⟨m, h1, h2⟩ := Kte b l (i + 1) j h
   exact ⟨m + 1, by omega, by simpa using h2⟩
def Kvx (D : W41) (ids : List Nat) : Nat → Option Nat := fun j => match ids[j]? with | some b => D b | none => none
theorem K6f {U : W42} {w : World} {D : W41} (ids : List Nat) {x : VV} {v : Value} (h : CRep U w D x v) : CRep U w (Kvx D ids) (Wja ids x) v := by
 cases x with
 | dv d => exact h
 | dead => trivial
 | eptr cs => exact h
 | vagg cs => trivial
 | vtup cs => trivial
 | ptr b o =>
  simp only [Wja]
  cases hp : K0k b ids 0 with
  | none => trivial
  | some j =>
   obtain ⟨m, h1, h2⟩ := Kte b ids 0 j hp
   have : j = m := by omega
   subst this
   obtain ⟨k, hk, e⟩ := h
   exact ⟨k, by simp [Kvx, h2, hk], e⟩
 | osl e sz b o n =>
  simp only [Wja]
  cases hp : K0k b ids 0 with
  | none => trivial
  | some j =>
   obtain ⟨m, h1, h2⟩ := Kte b ids 0 j hp
   have : j = m := by omega
   subst this
   obtain ⟨k, c, cur, hk, hc, hh, hs, e⟩ := h
   exact ⟨k, c, cur, by simp [Kvx, h2, hk], hc, hh, hs, e⟩
 | mp b =>
  simp only [Wja]
  cases hp : K0k b ids 0 with
  | none => trivial
  | some j =>
   obtain ⟨m, h1, h2⟩ := Kte b ids 0 j hp
   have : j = m := by omega
   subst this
   obtain ⟨k, hk, e⟩ := h
   exact ⟨k, by simp [Kvx, h2, hk], e⟩
 | tp T sz b =>
  simp only [Wja]
  cases hp : K0k b ids 0 with
  | none => trivial
  | some j =>
   obtain ⟨m, h1, h2⟩ := Kte b ids 0 j hp
   have : j = m := by omega
   subst this
   obtain ⟨k, cur, hk, hh, hs, e⟩ := h
   exact ⟨k, cur, by simp [Kvx, h2, hk], hh, hs, e⟩
theorem Kn0 {U : W42} {w : World} {D : W41} {x : VV} {v : Value} (h : CRep U w D x v) : ARep U w D x v := by
 cases x with
 | vagg cs => cases h
 | vtup cs => cases h
 | dv d => exact h
 | dead => trivial
 | eptr cs => exact h
 | mp b => exact h
 | tp T sz b => exact h
 | ptr b o => exact h
 | osl e sz b o n => exact h
theorem Kmo {U : W42} {w : World} {D : W41} {x : VV} {v : Value} (h : ARep U w D x v) : VRep U w D x v := by
 cases x with
 | vagg cs => exact h
 | vtup cs => cases h
 | dv d => exact h
 | dead => trivial
 | eptr cs => exact h
 | mp b => exact h
 | tp T sz b => exact h
 | ptr b o => exact h
 | osl e sz b o n => exact h
theorem Ktf {α β : Type} {f : α → β} {l : List α} {i : Nat} {y : β} (h : (l.map f)[i]? = some y) : ∃ x, l[i]? = some x ∧ y = f x := by
 rw [List.getElem?_map] at h
 cases hx : l[i]? with
 | none => rw [hx] at h; cases h
 | some x => rw [hx] at h; simp at h; exact ⟨x, rfl, h.symm⟩
theorem K6g {U : W42} {w : World} {D : W41} (ids : List Nat) {x : VV} {v : Value} (h : ARep U w D x v) : ARep U w (Kvx D ids) (Wz3 ids x) v := by
 cases x with
 | vagg cs =>
  obtain ⟨vs, rfl, h1, h2⟩ := h
  refine ⟨vs, rfl, by simpa using h1, fun i x u e1 e2 => ?_⟩
  obtain ⟨y, hy, rfl⟩ := Ktf e1
  exact K6f ids (h2 i y u hy e2)
 | vtup cs => cases h
 | dv d => exact h
 | dead => trivial
 | eptr cs => exact h
 | ptr b o => exact Kn0 (K6f (x := .ptr b o) ids h)
 | osl e sz b o n => exact Kn0 (K6f (x := .osl e sz b o n) ids h)
 | mp b => exact Kn0 (K6f (x := .mp b) ids h)
 | tp T sz b => exact Kn0 (K6f (x := .tp T sz b) ids h)
theorem Whq {U : W42} {w : World} {D : W41} (ids : List Nat) {x : VV} {v : Value} (h : VRep U w D x v) : VRep U w (Kvx D ids) (K92 ids x) v := by
 cases x with
 | vtup cs =>
  obtain ⟨vs, rfl, h1, h2⟩ := h
  refine ⟨vs, rfl, by simpa using h1, fun i x u e1 e2 => ?_⟩
  obtain ⟨y, hy, rfl⟩ := Ktf e1
  exact K6g ids (h2 i y u hy e2)
 | vagg cs => exact K6g (x := .vagg cs) ids h
 | dv d => exact h
 | dead => trivial
 | eptr cs => exact h
 | ptr b o => exact Kmo (K6g (x := .ptr b o) ids h)
 | osl e sz b o n => exact Kmo (K6g (x := .osl e sz b o n) ids h)
 | mp b => exact Kmo (K6g (x := .mp b) ids h)
 | tp T sz b => exact Kmo (K6g (x := .tp T sz b) ids h)
theorem Wvb {ids : List Nat} {x : Option Blk} {B : Blk} (h : Wpe ids x = some B) : ∃ B', x = some B' ∧ B'.live = B.live ∧ (∀ cs, B = .cells cs → B' = .cells cs) ∧ (∀ cs, B = .mix cs → ∃ cs', B' = .mix cs' ∧ cs = cs'.map (Wja ids)) := by
 cases x with
 | none => cases h
 | some B' =>
  cases B' with
  | cells cs => simp only [Wpe, Option.some.injEq] at h; subst h; exact ⟨_, rfl, rfl, fun _ e => e, fun _ e => by cases e⟩
  | gone => simp only [Wpe, Option.some.injEq] at h; subst h; exact ⟨_, rfl, rfl, fun _ e => e, fun _ e => by cases e⟩
  | dict kvs => simp only [Wpe, Option.some.injEq] at h; subst h; exact ⟨_, rfl, rfl, fun _ e => e, fun _ e => by cases e⟩
  | mix cs => simp only [Wpe, Option.some.injEq] at h; subst h; exact ⟨_, rfl, rfl, (fun _ e => by cases e), (fun _ e => ⟨cs, rfl, (by cases e; rfl)⟩)⟩
theorem K94 (H : W43) (ids : List Nat) (j : Nat) (B : Blk) (h : (K1m H ids)[j]? = some (some B)) : ∃ b B', ids[j]? = some b ∧ H[b]? = some (some B') ∧ B'.live = B.live ∧ (∀ cs, B = .cells cs → B' = .cells cs) ∧ (∀ cs, B = .mix cs → ∃ cs', B' = .mix cs' ∧ cs = cs'.map (Wja ids)) := by
 simp only [K1m, List.getElem?_map, Option.map_eq_some_iff] at h
 obtain ⟨b, h1, h2⟩ := h
 split at h2
 ·rename_i x hx
  obtain ⟨B', rfl, h3⟩ := Wvb h2
  exact ⟨b, B', h1, hx, h3⟩
 ·cases h2
theorem Wsl (H : W43) (ids : List Nat) (j : Nat) (kvs : List (ByteArray × DV)) (h : (K1m H ids)[j]? = some (some (.dict kvs))) : ∃ b, ids[j]? = some b ∧ H[b]? = some (some (.dict kvs)) := by
 simp only [K1m, List.getElem?_map, Option.map_eq_some_iff] at h
 obtain ⟨b, h1, h2⟩ := h
 split at h2
 ·rename_i x hx
  refine ⟨b, h1, ?_⟩
  rw [hx]
  cases x with
  | none => cases h2
  | some B' => cases B' <;> simp [Wpe] at h2 ⊢; exact h2
 ·cases h2
theorem Wvc (H : W43) (ids : List Nat) (j b : Nat) (B : Blk) (h1 : ids[j]? = some b) (h2 : H[b]? = some (some B)) : ∃ B', (K1m H ids)[j]? = some (some B') := by
 simp only [K1m, List.getElem?_map, h1, Option.map_some, h2]
 cases B <;> exact ⟨_, rfl⟩
theorem Wdf : ∀ {l : List Nat}, l.Nodup → ∀ {i j a b : Nat}, l[i]? = some a → l[j]? = some b → i < j → a ≠ b
 | [], _, i, j, a, b, h, _, _ => by simp at h
 | x :: l, hn, i, j, a, b, h, h', hij => by
  obtain ⟨h1, h2⟩ := List.nodup_cons.1 hn
  cases j with
  | zero => omega
  | succ j =>
   simp only [List.getElem?_cons_succ] at h'
   cases i with
   | zero => simp at h; subst h; intro e; subst e; exact h1 (List.mem_of_getElem? h')
   | succ i => simp only [List.getElem?_cons_succ] at h; exact Wdf h2 h h' (by omega)
theorem WRel.pack {D : W41} {U : W42} {N : W42} {w0 : World} {H : W43} {w : World} (h : WRel D U N w0 H w) {ids : List Nat} (hnd : ids.Nodup) : WRel (Kvx D ids) U N w0 (K1m H ids) w := by
 refine ⟨h.below, h.old, ?_, ?_, ?_, ?_, ?_, ?_⟩
 ·intro j k hb
  unfold Kvx at hb
  split at hb <;> try (cases hb; done)
  rename_i b hj
  obtain ⟨g1, g2, B, g3⟩ := h.own b k hb
  exact ⟨g1, g2, Wvc _ _ _ _ _ hj g3⟩
 ·intro j k vs hb hH
  unfold Kvx at hb
  split at hb <;> try (cases hb; done)
  rename_i b hj
  obtain ⟨b', B', h1, h2, _, h3, _⟩ := K94 _ _ _ _ hH
  rw [hj] at h1; cases h1
  rw [h3 vs rfl] at h2
  exact h.hold b k vs hb h2
 ·intro j k vs hb hH
  unfold Kvx at hb
  split at hb <;> try (cases hb; done)
  rename_i b hj
  obtain ⟨b', B', h1, h2, _, _, h3⟩ := K94 _ _ _ _ hH
  rw [hj] at h1; cases h1
  obtain ⟨cs', rfl, rfl⟩ := h3 vs rfl
  obtain ⟨g2, cs, T, g3, g5, g6⟩ := h.holdm b k cs' hb h2
  refine ⟨g2, cs, T, g3, by simpa using g5, fun i x v e1 e2 => ?_⟩
  obtain ⟨y, hy, rfl⟩ := Ktf e1
  exact K6f ids (g6 i y v hy e2)
 ·intro j k kvs hb hH
  unfold Kvx at hb
  split at hb <;> try (cases hb; done)
  rename_i b hj
  obtain ⟨b', h1, h2⟩ := Wsl _ _ _ _ hH
  rw [hj] at h1; cases h1
  exact h.holdp b k kvs hb h2
 ·intro j B hH
  obtain ⟨b', B', h1, h2, _⟩ := K94 _ _ _ _ hH
  obtain ⟨k, hk⟩ := h.all b' B' h2
  exact ⟨k, by simp [Kvx, h1, hk]⟩
 ·intro j j' k B B' hH hH' l1 l2 hb hb'
  obtain ⟨b, C, h1, h2, h3, _⟩ := K94 _ _ _ _ hH
  obtain ⟨b', C', h1', h2', h3', _⟩ := K94 _ _ _ _ hH'
  simp only [Kvx, h1] at hb
  simp only [Kvx, h1'] at hb'
  have := h.inj b b' k C C' h2 h2' (h3.trans l1) (h3'.trans l2) hb hb'
  subst this
  rcases Nat.lt_trichotomy j j' with hlt | he | hlt
  ·exact absurd rfl (Wdf hnd h1 h1' hlt)
  ·exact he
  ·exact absurd rfl (Wdf hnd h1' h1 hlt)
end Go.Pv
namespace Go.Pv
open Go Go.RowKit
def Wj8 (P : Program) (eq : TypeId → Value → Value → Option Bool) (xs ys : Array Value) : List Field → Option Bool
 | [] => some true
 | f :: fs => bif f.name == "_" then none else
  match prun P (part f.type xs f.offset), prun P (part f.type ys f.offset) with
  | some a, some b => match eq f.type a b, Wj8 P eq xs ys fs with
   | some p, some q => some (p && q)
   | _, _ => none
  | _, _ => none
def eqK (P : Program) : Nat → TypeId → Value → Value → Option Bool
 | 0, _, _, _ => none
 | d + 1, t, x, y => match P.underlying t, x, y with
  | some .bool, .bool a, .bool b => some (a == b)
  | some (.int _), .int k a, .int k' b => bif decide (k = k') then some (a == b) else none
  | some .string, .string a, .string b => some (a.toList == b.toList)
  | some (.struct fs), .agg xs, .agg ys => bif P.stoodInHeld t then none else Wj8 P (eqK P d) xs ys fs.toList
  | _, _, _ => none
theorem Wj9 {P : Program} {d : Nat} {eq : TypeId → Value → Value → Option Bool} (h : ∀ t x y b, eq t x y = some b → ∀ w, (Op.equalIn d t x y).run P w = .ok b w) (xs ys : Array Value) :
  ∀ (fs : List Field) (b : Bool), Wj8 P eq xs ys fs = some b → ∀ w, (Op.eqFields d xs ys fs).run P w = .ok b w
 | [], b, hb, w => by simp [Wj8] at hb; subst hb; rfl
 | f :: fs, b, hb, w => by
  simp only [Wj8] at hb
  cases hn : f.name == "_" with
  | true => simp [hn] at hb
  | false =>
   simp only [hn, cond_false] at hb
   cases ha : prun P (part f.type xs f.offset) with
   | none => simp [ha] at hb
   | some a =>
    cases hc : prun P (part f.type ys f.offset) with
    | none => simp [ha, hc] at hb
    | some c =>
     simp only [ha, hc] at hb
     cases hp : eq f.type a c with
     | none => simp [hp] at hb
     | some p =>
      cases hq : Wj8 P eq xs ys fs with
      | none => simp [hp, hq] at hb
      | some q =>
       simp [hp, hq] at hb
       have hn' : f.name ≠ "_" := by simpa using hn
       simp only [Op.eqFields, hn', ne_eq, not_false_eq_true, if_true, Sem.run_bind, K7w _ ha w, K7w _ hc w, h _ _ _ _ hp w, Result.andThen_ok]
       cases p
       ·simp at hb; subst hb; rfl
       ·simp at hb; subst hb; simpa using Wj9 h xs ys fs q hq w
theorem Wpf {P : Program} : ∀ (d d' : Nat), d ≤ d' → ∀ t x y b, eqK P d t x y = some b → ∀ w, (Op.equalIn d' t x y).run P w = .ok b w
 | 0, d', _, t, x, y, b, h, w => by simp [eqK] at h
 | d + 1, 0, hd, t, x, y, b, h, w => by omega
 | d + 1, d' + 1, hd, t, x, y, b, h, w => by
  simp only [eqK] at h
  split at h
  ·rename_i u a c hu; simp at h; subst h; exact run_equalIn_bool' w d' t _ _ hu
  ·rename_i u kk k a k' c hu
   cases hk : decide (k = k') with
   | false => simp [hk] at h
   | true =>
    simp [hk] at h; subst h
    have : k = k' := by simpa using hk
    subst this
    exact run_equalIn_int w d' t _ _ _ _ hu
  ·rename_i u a c hu; simp at h; subst h; exact run_equalIn_string w d' t _ _ hu
  ·rename_i u fs xs ys hu
   cases hs : P.stoodInHeld t with
   | true => simp [hs] at h
   | false =>
    simp only [hs, cond_false] at h
    have hf : P.fieldsOf t = fs := by simp [Program.fieldsOf, hu]
    rw [run_equalIn_agg w d' t xs ys (by rw [hf]; exact hu) hs, hf]
    exact Wj9 (fun t x y b hb w => Wpf d d' (by omega) t x y b hb w) xs ys fs.toList b h w
  ·simp at h
abbrev KK := VV → Eff → Option DV
def valK (k : KK) (v : Value) : Option DV := k (.dv (.val v)) .none
def K6h (P : Program) (ρ : W44) (o : Oper) (k : KK) : Option DV :=
 bif K1k ρ o && Wsj o.op then
  match prun P (execOp (ρF ρ) o) with
  | some (.value v) => valK k v
  | some .skip => valK k undef
  | _ => none
 else none
def W1u (P : Program) (I : W40) (o : Oper) (ρ : W44) (H : W43) (id : Nat) (k : KK) (r : DV) : Prop := ∃ x eff, k x eff = some r ∧ Wk4 P I o ρ H id x eff
def binK (P : Program) (ρ : W44) (o : Oper) (b : BinOp) (T : TypeId) (x y : Operand) (k : KK) : Option DV :=
 match b, (ρ x).flat, (ρ y).flat with
 | .quo, some (.int ka a), some (.int kb c) => bif decide (ka = kb) then (bif c == 0 then none else valK k (.int ka (ka.wrap (a.tdiv c)))) else none
 | .rem, some (.int ka a), some (.int kb c) => bif decide (ka = kb) then (bif c == 0 then none else valK k (.int ka (a.tmod c))) else none
 | .shl, some (.int ka a), some (.int kb c) => bif decide (c < 0) then none else valK k (.int ka (ka.wrap (a * 2 ^ (min c.toNat ka.bits))))
 | .shr, some (.int ka a), some (.int kb c) => bif decide (c < 0) then none else valK k (.int ka (a.fdiv (2 ^ (min c.toNat ka.bits))))
 | .add, some (.string a), some (.string c) => bif decide (((a.size + c.size : Nat) : Int) > IntKind.i64.max) then none else valK k (.string (a ++ c))
 | .eql, some (.agg xs), some (.agg ys) => bif P.eqGuardType P.depth T then none else match eqK P 12 T (.agg xs) (.agg ys) with | some p => valK k (.bool p) | none => none
 | .neq, some (.agg xs), some (.agg ys) => bif P.eqGuardType P.depth T then none else match eqK P 12 T (.agg xs) (.agg ys) with | some p => valK k (.bool (!p)) | none => none
 | _, _, _ => K6h P ρ o k
theorem Whr {P : Program} {I : W40} {ρ : W44} {o : Oper} {H : W43} {id : Nat} {b : BinOp} {T ty : TypeId} {x y : Operand} {u v r : Value} (ho : o.op = .binOp b T x y ty)
  (hx : (ρ x).flat = some u) (hy : (ρ y).flat = some v) (h : ∀ w, (do eqGuard b T x y u v; binOp b T u v : Sem Value).run P w = .ok r w) : OpOk P I o ρ H id (.dv (.val r)) .none := by
 refine Kd4 fun D U w a hops => ⟨r, ?_, .val r⟩
 have h1 := VV.flat_rep hx (hops x (by simp [ho, Op.operands]))
 have h2 := VV.flat_rep hy (hops y (by simp [ho, Op.operands]))
 have := h w
 simp only [execOp, ho, h1, h2, Sem.run_bind] at this ⊢
 rw [this]
 rfl
end Go.Pv
namespace Go.Pv
open Go Go.RowKit
def Wk5 (P : Program) (T : TypeId) (f : Nat) : Option Nat :=
 match P.underlying T with
 | some (.struct fields) => match fields[f]? with
  | some fd => match P.info? fd.type with
   | some i => bif Nat.beq i.size 0 then none else some fd.offset
   | none => none
  | none => none
 | _ => none
theorem K7y {P : Program} {T : TypeId} {f off : Nat} (h : Wk5 P T f = some off) (a : Addr) (w : World) : (Instr.fieldAt T (.pointer (some a)) f).run P w = .ok (.pointer (some (a.add off))) w := by
 unfold Wk5 at h
 split at h <;> try (cases h; done)
 rename_i fields hu
 split at h <;> try (cases h; done)
 rename_i fd hf
 split at h <;> try (cases h; done)
 rename_i i hi
 cases hb : Nat.beq i.size 0 with
 | true => simp [hb] at h
 | false =>
  simp [hb] at h
  have hs : ¬ i.size = 0 := by intro e; rw [e] at hb; simp at hb
  simp [Instr.fieldAt, run_underlying hu, hf, Instr.sureAddr, fieldPlace, sizeOf, typeInfo, program, Sem.run, hi, hs, h, bind, pure, Sem.bind, underlying, hu]
def aggD : TypeDesc → Bool
 | .struct _ | .array _ _ => true
 | _ => false
def Whs (P : Program) (T : TypeId) (cs : W5j) (o : Nat) : Option DV :=
 match P.underlying T with
 | some (.struct _) | some (.array _ _) => match P.info? T with
  | some i => bif Nat.ble (o + i.size) cs.length then some (Wk2 ((cs.drop o).take i.size)) else none
  | none => none
 | some _ => cs[o]?
 | none => none
theorem Kql (k o j : Nat) : (⟨k, o, none⟩ : Addr).add j = ⟨k, o + j, none⟩ := by unfold Addr.add; split <;> simp_all
theorem Wk6 {P : Program} {T : TypeId} {cs : W5j} {o : Nat} {d : DV} (h : Whs P T cs o = some d) {U : W42} {w : World} {k base : Nat} (hc : Wel U w k base cs) : ∃ v, (loadVar T ⟨k, base + o, none⟩).run P w = .ok v w ∧ DRep U w d v := by
 have agg : (∃ b, (isAgg T).run P w = .ok b w ∧ b = true) → (match P.info? T with
  | some i => bif Nat.ble (o + i.size) cs.length then some (Wk2 ((cs.drop o).take i.size)) else none
  | none => none) = some d → ∃ v, (loadVar T ⟨k, base + o, none⟩).run P w = .ok v w ∧ DRep U w d v := by
  rintro ⟨b, hb, rfl⟩ h
  split at h <;> try (cases h; done)
  rename_i i hi
  cases hl : Nat.ble (o + i.size) cs.length with
  | false => simp [hl] at h
  | true =>
   simp [hl] at h
   have hl' : o + i.size ≤ cs.length := Nat.le_of_ble_eq_true hl
   have hget : ∀ j, j < i.size → ∃ v, w.cell? ⟨k, base + o + j, none⟩ = some v ∧ ∃ x, ((cs.drop o).take i.size)[j]? = some x ∧ DRep U w x v := by
    intro j hj
    have : o + j < cs.length := by omega
    obtain ⟨v, hv, hr⟩ := hc (o + j) _ (List.getElem?_eq_getElem this)
    exact ⟨v, by rw [Nat.add_assoc]; exact hv, _, by simp [List.getElem?_take, hj, this], hr⟩
   let g : Nat → Value := fun j => (w.cell? ⟨k, base + o + j, none⟩).getD undef
   refine ⟨.agg ((List.range i.size).map g).toArray, ?_, ?_⟩
   ·have hs : (sizeOf T).run P w = .ok i.size w := by simp [sizeOf, typeInfo, program, Sem.run, hi, bind, pure, Sem.bind]
    simp only [loadVar, Sem.run_bind, hb, Result.andThen_ok, if_true, hs]
    rw [run_loadCells (P := P) w ⟨k, base + o, none⟩ i.size g (fun j hj => by obtain ⟨v, hv, _⟩ := hget j hj; rw [Kql]; simp [g, hv])]
    rfl
   ·rw [← h]
    refine Wdd (by simp; omega) fun j x v h1 h2 => ?_
    simp only [List.getElem?_toArray, List.getElem?_map] at h2
    have hj : j < i.size := by
     rcases Nat.lt_or_ge j i.size with hj | hj
     ·exact hj
     ·rw [List.getElem?_eq_none (by simpa using hj)] at h2; cases h2
    rw [List.getElem?_range hj] at h2
    simp at h2
    subst h2
    obtain ⟨v, hv, x', hx', hr⟩ := hget j hj
    rw [hx'] at h1; cases h1
    simpa [g, hv] using hr
 unfold Whs at h
 cases hu : P.underlying T with
 | none => simp [hu] at h
 | some td =>
  have hia : ∀ b, aggD td = b → (isAgg T).run P w = .ok b w := by
   intro b hb
   simp only [isAgg, Sem.run_bind, run_underlying hu, Result.andThen_ok]
   subst hb
   cases td <;> rfl
  have one : aggD td = false → cs[o]? = some d → ∃ v, (loadVar T ⟨k, base + o, none⟩).run P w = .ok v w ∧ DRep U w d v := by
   intro hf h
   obtain ⟨v, hv, hr⟩ := hc o _ h
   refine ⟨v, ?_, hr⟩
   simp only [loadVar, Sem.run_bind, hia _ hf, Result.andThen_ok, Bool.false_eq_true, if_false]
   simp [load, Sem.run, hv]
  rw [hu] at h
  cases td <;> first
   | exact agg ⟨true, hia _ rfl, rfl⟩ h
   | exact one rfl h
def Kh0 : DV → Bool
 | .val (.agg _) => false
 | .val (.tuple _) => false
 | .val _ => true
 | .lst _ _ => true
 | .err => true
 | _ => false
def Wvd (P : Program) (T : TypeId) (cs : W5j) (o : Nat) (ds : W5j) : Option (List DV) :=
 match P.info? T with
 | some i => bif Nat.beq ds.length i.size && Nat.ble (o + ds.length) cs.length && ds.all Kh0 then some (cs.take o ++ ds ++ cs.drop (o + ds.length)) else none
 | none => none
theorem K95 {U : W42} {w : World} {d : DV} {v : Value} (h : Kh0 d = true) (hr : DRep U w d v) : v.oneCell' = true := by
 cases hr with
 | val v => cases v <;> simp [Kh0] at h <;> rfl
 | agg => simp [Kh0] at h
 | tup => simp [Kh0] at h
 | nil => rfl
 | err => rfl
 | lst => rfl
theorem Kqm {N : W42} {D : W41} {U : W42} {w : World} {k : Nat} (hk : ¬ U k) (cs : Array Value) (hsz : ∀ cur T f, w.heap[k]? = some (.cells cur T f) → cs.size = cur.size) : Kei N D U w D U (w.setRow k cs) :=
 ⟨fun _ _ h => h, fun _ h => h, fun j h => setRow_other w k j cs (fun e => hk (e ▸ h)), by simp, fun _ h => .inl h, fun b j cur T f _ h => by
  by_cases e : j = k
  ·subst e; exact ⟨cs, ⟨f, setRow_heap w j cur cs T f h⟩, hsz cur T f h⟩
  ·exact ⟨cur, ⟨f, by rw [setRow_other w k j cs e]; exact h⟩, rfl⟩⟩
theorem K4r {N : W42} {a w : World} (h : Ktd N a w) {k : Nat} (hk : ¬ N k) (cs : Array Value) : Ktd N a (w.setRow k cs) :=
 h.trans ⟨rfl, rfl, rfl, by simp, fun j hj => setRow_other w k j cs (fun e => hk (e ▸ hj))⟩
theorem WRel.upd {D : W41} {U : W42} {N : W42} {w0 w : World} {H : W43} {b k : Nat} {ds old : W5j} {vs : Array Value} {cur : Array Value} {T : TypeId}
  (hW : WRel D U N w0 H w) (hb : D b = some k) (hbH : H[b]? = some (some (.cells old))) (hk : w.heap[k]? = some (.cells cur T (0, 0))) (hsz : vs.size = cur.size) (h1 : ds.length ≤ vs.size) (h2 : ∀ (i : Nat) (x : DV) (v : Value), ds[i]? = some x → vs[i]? = some v → DRep U w x v) :
  WRel D U N w0 (H.set b (some (.cells ds))) (w.setRow k vs) := by
 obtain ⟨n1, n3, _⟩ := hW.own b k hb
 obtain ⟨n2, _⟩ := hW.hold b k old hb hbH
 have ho := Kqm (N := N) (D := D) (w := w) n2 vs (fun c T' f h => by rw [hk] at h; cases h; exact hsz)
 have hbl : b < H.length := (List.getElem?_eq_some_iff.1 hbH).1
 refine ⟨K4r hW.below n1 _, fun j h => by simpa using hW.old j h, ?_, ?_, ?_, ?_, ?_, ?_⟩
 ·intro b' k' hb'
  obtain ⟨g1, g2, B, g3⟩ := hW.own b' k' hb'
  refine ⟨g1, by simpa using g2, ?_⟩
  by_cases e : b' = b
  ·subst e; exact ⟨_, by simp [List.getElem?_set, hbl]; rfl⟩
  ·exact ⟨B, by rw [List.getElem?_set_ne (Ne.symm e)]; exact g3⟩
 ·intro b' k' us hb' hH'
  by_cases e : b' = b
  ·subst e
   rw [hb] at hb'; cases hb'
   simp only [List.getElem?_set, hbl, if_true, Option.some.injEq, Blk.cells.injEq] at hH'
   subst hH'
   exact ⟨n2, vs, T, setRow_heap w k cur vs T _ hk, h1, fun i x v e1 e2 => (h2 i x v e1 e2).keep ho.set ho.keep ho.size⟩
  ·rw [List.getElem?_set_ne (Ne.symm e)] at hH'
   obtain ⟨g2, cs', T', g3, g5, g6⟩ := hW.hold b' k' us hb' hH'
   have hne : k' ≠ k := fun e' => e (hW.inj b' b k _ _ hH' hbH rfl rfl (e' ▸ hb') hb)
   exact ⟨g2, cs', T', by rw [setRow_other w k k' vs hne]; exact g3, g5, fun i x v e1 e2 => (g6 i x v e1 e2).keep ho.set ho.keep ho.size⟩
 ·intro b' k' us hb' hH'
  by_cases e : b' = b
  ·subst e; simp [List.getElem?_set, hbl] at hH'
  ·rw [List.getElem?_set_ne (Ne.symm e)] at hH'
   obtain ⟨g2, cs', T', g3, g5, g6⟩ := hW.holdm b' k' us hb' hH'
   have hne : k' ≠ k := fun e' => e (hW.inj b' b k _ _ hH' hbH rfl rfl (e' ▸ hb') hb)
   exact ⟨g2, cs', T', by rw [setRow_other w k k' vs hne]; exact g3, g5, fun i x v e1 e2 => (g6 i x v e1 e2).onward ho⟩
 ·intro b' k' us hb' hH'
  by_cases e : b' = b
  ·subst e; simp [List.getElem?_set, hbl] at hH'
  ·rw [List.getElem?_set_ne (Ne.symm e)] at hH'
   obtain ⟨g2, es, cl, g3, g6⟩ := hW.holdp b' k' us hb' hH'
   have hne : k' ≠ k := fun e' => e (hW.inj b' b k _ _ hH' hbH rfl rfl (e' ▸ hb') hb)
   exact ⟨g2, es, cl, by rw [setRow_other w k k' vs hne]; exact g3, g6.keep ho.set ho.keep ho.size⟩
 ·intro b' B hb'
  by_cases e : b' = b
  ·subst e; exact ⟨k, hb⟩
  ·rw [List.getElem?_set_ne (Ne.symm e)] at hb'
   exact hW.all b' B hb'
 ·intro b' b'' j us us' h1' h2' v1 v2 d1 d2
  by_cases e : b' = b <;> by_cases e' : b'' = b
  ·rw [e, e']
  ·subst e
   rw [List.getElem?_set_ne (Ne.symm e')] at h2'
   exact hW.inj b' b'' j _ us' hbH h2' rfl v2 d1 d2
  ·subst e'
   rw [List.getElem?_set_ne (Ne.symm e)] at h1'
   exact hW.inj b' b'' j us _ h1' hbH v1 rfl d1 d2
  ·rw [List.getElem?_set_ne (Ne.symm e)] at h1'
   rw [List.getElem?_set_ne (Ne.symm e')] at h2'
   exact hW.inj b' b'' j us us' h1' h2' v1 v2 d1 d2
theorem Wfp {P : Program} {T : TypeId} {i : TypeInfo} (hi : P.info? T = some i) {v : Value} (hs : v.cells.size = i.size) (k o : Nat) {cur : Array Value} {t : TypeId} {w : World} (hk : w.heap[k]? = some (.cells cur t (0, 0)))
  (hl : o + v.cells.size ≤ cur.size) (h1 : ∀ u ∈ v.cells.toList, u.oneCell' = true) : (Instr.storeAt T (.pointer (some ⟨k, o, none⟩)) v).run P w = .ok () (w.setRow k (cur.toList.take o ++ v.cells.toList ++ cur.toList.drop (o + v.cells.size)).toArray) := by
 have hz : (sizeOf T).run P w = .ok i.size w := by simp [sizeOf, typeInfo, program, Sem.run, hi, bind, pure, Sem.bind]
 have := run_storeCells_at (P := P) k o t v.cells.toList 0 cur w hk (by simpa using hl) h1
 simp only [Instr.storeAt, Instr.sureAddr, storeVar, Sem.run_bind, Sem.run_pure, Result.andThen_ok, hz, hs, ne_eq, not_true_eq_false, if_false]
 simpa [hs] using this
theorem Wsm {P : Program} {I : W40} {o : Oper} {ρ : W44} {H : W43} {id : Nat} {T : TypeId} {x y : Operand} {b of : Nat} {d : DV} {cs cs' : W5j} (ho : o.op = .store T x y)
  (hx : ρ x = .ptr b of) (hy : ρ y = .dv d) (hb : H[b]? = some (some (.cells cs))) (hs : Wvd P T cs of d.cells = some cs') : OpOk P I o ρ H id (.dv (.val undef)) (.upd b cs') := by
 intro D U N w0 H' w a next Q hI hC hW _ _ _ hops hn
 have h1 := hops x (by simp [ho, Op.operands])
 have h2 := hops y (by simp [ho, Op.operands])
 rw [hx] at h1
 rw [hy] at h2
 obtain ⟨k, hk, hax⟩ := h1
 obtain ⟨n1, n3, B, g4⟩ := hW.own b k hk
 have e := hC b _ _ hb g4
 subst e
 obtain ⟨n2, cur, t, g3, g5, g6⟩ := hW.hold b k cs hk g4
 unfold Wvd at hs
 cases hi : P.info? T with
 | none => simp [hi] at hs
 | some i =>
  simp only [hi] at hs
  cases hq : Nat.beq d.cells.length i.size && Nat.ble (of + d.cells.length) cs.length && d.cells.all Kh0 with
  | false => simp [hq] at hs
  | true =>
   simp only [hq, cond_true, Option.some.injEq] at hs
   simp only [Bool.and_eq_true] at hq
   obtain ⟨⟨q1, q2⟩, q3⟩ := hq
   have q1' := Nat.eq_of_beq_eq_true q1
   have q2' := Nat.le_of_ble_eq_true q2
   obtain ⟨c1, c2⟩ := DV.cells_rep h2
   have one : ∀ u ∈ (a.eval y).cells.toList, u.oneCell' = true := by
    intro u hu
    obtain ⟨j, hj⟩ := List.mem_iff_getElem?.1 hu
    have hj' : (a.eval y).cells[j]? = some u := by simpa using hj
    have hlt : j < d.cells.length := by rw [← c1]; exact (Array.getElem?_eq_some_iff.1 hj').1
    exact K95 (List.all_eq_true.1 q3 _ (List.getElem_mem hlt)) (c2 j _ u (List.getElem?_eq_getElem hlt) hj')
   have hrun := Wfp hi (v := a.eval y) (by rw [c1]; exact q1') k of g3 (by rw [c1]; omega) one
   unfold Oper.wp
   simp only [execOp, ho, hax, Sem.run_bind, hrun, Result.andThen_ok, Sem.run_pure, Oper.upon_skip]
   have hsz : (cur.toList.take of ++ (a.eval y).cells.toList ++ cur.toList.drop (of + (a.eval y).cells.size)).toArray.size = cur.size := by simp [c1]; omega
   refine hn _ _ D U (Kqm n2 _ (fun c T' f h => by rw [g3] at h; cases h; exact hsz)) ?_ (fun _ h _ => h) (.val undef)
   refine hW.upd hk g4 g3 hsz (by rw [hsz, ← hs]; simp; omega) ?_
   intro j x' v' e1 e2
   rw [← hs] at e1
   simp only [List.getElem?_toArray] at e2
   rw [List.append_assoc, List.getElem?_append] at e1 e2
   have l1 : (cs.take of).length = of := by simp; omega
   have l2 : (cur.toList.take of).length = of := by simp; omega
   rw [l1] at e1
   rw [l2] at e2
   split at e1
   ·rename_i hlt
    simp only [hlt, if_true] at e2
    rw [List.getElem?_take] at e1 e2
    simp only [hlt, if_true] at e1 e2
    exact g6 j x' v' e1 (by simpa using e2)
   ·rename_i hlt
    simp only [hlt, if_false] at e2
    rw [List.getElem?_append] at e1 e2
    simp only [Array.length_toList, c1] at e2
    split at e1
    ·rename_i hl2
     simp only [hl2, if_true] at e2
     exact c2 (j - of) x' v' e1 (by simpa using e2)
    ·rename_i hl2
     simp only [hl2, if_false] at e2
     simp only [List.getElem?_drop] at e1 e2
     exact g6 _ x' v' e1 (by simpa using e2)
end Go.Pv
namespace Go.Pv
open Go Go.RowKit
abbrev OH := List (Option Blk)
abbrev W5h := VV → OH → Option DV
abbrev W5d := Nat → OH
def Kcy (sz : Nat) : Nat → List DV → List (List DV)
 | 0, _ => []
 | n + 1, cs => cs.take sz :: Kcy sz n (cs.drop sz)
theorem K7z (sz : Nat) : ∀ (n : Nat) (cs : W5j), (Kcy sz n cs).length = n
 | 0, _ => rfl
 | n + 1, cs => by simp [Kcy, K7z sz n]
theorem Wka (sz : Nat) : ∀ (n : Nat) (cs : W5j) (i j : Nat) (e : W5j) (x : DV), (Kcy sz n cs)[i]? = some e → e[j]? = some x → cs[i * sz + j]? = some x
 | 0, _, i, j, e, x, h, _ => by simp [Kcy] at h
 | n + 1, cs, 0, j, e, x, h, hx => by
  simp only [Kcy, List.getElem?_cons_zero, Option.some.injEq] at h
  subst h
  rw [List.getElem?_take] at hx
  split at hx
  ·simpa using hx
  ·cases hx
 | n + 1, cs, i + 1, j, e, x, h, hx => by
  simp only [Kcy, List.getElem?_cons_succ] at h
  have := Wka sz n (cs.drop sz) i j e x h hx
  rw [List.getElem?_drop] at this
  rw [show (i + 1) * sz + j = sz + (i * sz + j) by rw [Nat.add_mul]; omega]
  exact this
theorem Wht (sz : Nat) : ∀ (n : Nat) (cs : W5j), n * sz ≤ cs.length → ∀ e, e ∈ Kcy sz n cs → e.length = sz
 | 0, _, _, e, h => by simp [Kcy] at h
 | n + 1, cs, hl, e, h => by
  have hm : (n + 1) * sz = n * sz + sz := by rw [Nat.add_mul]; omega
  simp only [Kcy, List.mem_cons] at h
  rcases h with rfl | h
  ·simp; omega
  ·exact Wht sz n (cs.drop sz) (by simp; omega) e h
theorem Wm8 {P : Program} {I : W40} {o : Oper} {ρ : W44} {H : OH} {id n sz : Nat} {T : TypeId} {cs : W5j}
  (h : ∀ (D : W41) (U : W42) (w : World) (a : Act), (∀ y ∈ o.op.operands, VRep U w D (ρ y) (a.eval y)) →
   ∃ c vs, n ≤ c ∧ (execOp a.eval o).run P w = .ok (.value (.slice (some ⟨w.heap.size, 0, none⟩) n c)) (w.alloc (.cells vs T)) ∧ c * sz ≤ vs.size ∧ vs.size = cs.length ∧ ∀ (i : Nat) (x : DV) (v : Value), cs[i]? = some x → vs[i]? = some v → DRep U w x v) :
  OpOk P I o ρ H id (.osl T sz id 0 n) (.new cs) := by
 intro D U N w0 H' w a next Q _ _ hW hN hid hl hops hn
 obtain ⟨c, vs, hc, hr, h0, h1, h2⟩ := h D U w a hops
 unfold Oper.wp
 rw [hr]
 refine hn _ _ _ _ (Knz hW.old hid _) (hW.new hN hid hl (by omega) h2) (fun b hb hne => by simp [updD, hne, hb]) ⟨w.heap.size, c, vs, by simp [updD], hc, ⟨_, Kol _ _⟩, by omega, rfl⟩
def Wm9 (ρ : W44) (sz : Nat) : Nat → List (Nat × Operand) → Option (List DV)
 | _, [] => some []
 | i, (j, x) :: rest => bif Nat.beq i j then (match ρ x with
  | .dv d => bif Nat.beq d.cells.length sz then (match Wm9 ρ sz (i + 1) rest with | some l => some (d.cells ++ l) | none => none) else none
  | _ => none) else none
def Weo (P : Program) (ρ : W44) (id : Nat) (t : TypeId) (len : Nat) (ps : Array (Nat × Operand)) (k : VV → Eff → Option DV) : Option DV :=
 match P.underlying t with
 | some (.slice e) => match P.info? e with
  | some i => bif Nat.ble 1 i.size && Nat.beq ps.size len && Nat.ble (len * i.size) 16777216 && (Nat.ble 0 len) && i.zero.isSome then (match Wm9 ρ i.size 0 ps.toList with | some cs => k (.osl e i.size id 0 len) (.new cs) | none => none) else none
  | none => none
 | _ => none
theorem Wna {ρ : W44} {sz : Nat} {U : W42} {w : World} {D : W41} {a : Act} : ∀ (i : Nat) (ps : List (Nat × Operand)) (cs : W5j), Wm9 ρ sz i ps = some cs → (∀ p ∈ ps, VRep U w D (ρ p.2) (a.eval p.2)) →
  (∀ v ∈ ps.map (fun p => a.eval p.2), v.cells.size = sz) ∧ ps.map (fun p => (p.1, a.eval p.2)) = ((ps.map (fun p => a.eval p.2)).zipIdx i).map (fun x => (x.2, x.1)) ∧
  cs.length = ps.length * sz ∧ ∀ (n : Nat) (x : DV) (v : Value), cs[n]? = some x → ((ps.map (fun p => a.eval p.2)).flatMap fun v => v.cells.toList)[n]? = some v → DRep U w x v
 | i, [], cs, h, _ => by simp [Wm9] at h; subst h; exact ⟨by simp, by simp, by simp, by simp⟩
 | i, (j, x) :: rest, cs, h, hr => by
  simp only [Wm9] at h
  cases hb : Nat.beq i j with
  | false => simp [hb] at h
  | true =>
   have hij := Nat.eq_of_beq_eq_true hb
   subst hij
   simp only [hb, cond_true] at h
   split at h <;> try (cases h; done)
   rename_i d hx
   cases hs : Nat.beq d.cells.length sz with
   | false => simp [hs] at h
   | true =>
    have hs' := Nat.eq_of_beq_eq_true hs
    simp only [hs, cond_true] at h
    split at h <;> try (cases h; done)
    rename_i l hl
    simp only [Option.some.injEq] at h
    have h0 := hr (i, x) (by simp)
    rw [hx] at h0
    obtain ⟨c1, c2⟩ := DV.cells_rep h0
    obtain ⟨r1, r2, r3, r4⟩ := Wna (i + 1) rest l hl (fun p hp => hr p (by simp [hp]))
    refine ⟨?_, ?_, ?_, ?_⟩
    ·intro v hv
     simp only [List.map_cons, List.mem_cons] at hv
     rcases hv with rfl | hv
     ·rw [c1, hs']
     ·exact r1 v hv
    ·simp only [List.map_cons, List.zipIdx_cons]
     rw [r2]
    ·rw [← h]; simp only [List.length_append, List.length_cons, r3, hs', Nat.add_mul]; omega
    ·intro n y v e1 e2
     rw [← h, List.getElem?_append] at e1
     simp only [List.map_cons, List.flatMap_cons] at e2
     rw [List.getElem?_append, Array.length_toList, c1] at e2
     split at e1
     ·rename_i hlt
      rw [if_pos hlt] at e2
      exact c2 n y v e1 (by simpa using e2)
     ·rename_i hlt
      rw [if_neg hlt] at e2
      exact r4 _ y v e1 e2
theorem Wsn {P : Program} {I : W40} {ρ : W44} {o : Oper} {t : TypeId} {len : Nat} {ps : Array (Nat × Operand)} {k : VV → Eff → Option DV} {r : DV} {H : OH} {id : Nat} (ho : o.op = .buildSlice t len ps) (h : Weo P ρ id t len ps k = some r) :
  ∃ x eff, k x eff = some r ∧ (∀ k', Weo P ρ id t len ps k' = k' x eff) ∧ Wk4 P I o ρ H id x eff := by
 unfold Weo at h
 split at h <;> try (cases h; done)
 rename_i e hu
 split at h <;> try (cases h; done)
 rename_i i hi
 cases hq : Nat.ble 1 i.size && Nat.beq ps.size len && Nat.ble (len * i.size) 16777216 && (Nat.ble 0 len) && i.zero.isSome with
 | false => rw [hq] at h; cases h
 | true =>
  have hq0 := hq
  rw [hq] at h
  simp only [cond_true] at h
  split at h <;> try (cases h; done)
  rename_i cs hcs
  refine ⟨_, _, h, fun k' => by simp only [Weo, hu, hi, hq0, cond_true, hcs], ?_⟩
  simp only [Bool.and_eq_true] at hq
  obtain ⟨⟨⟨⟨q1, q2⟩, q3⟩, q4⟩, q5⟩ := hq
  have q1' := Nat.le_of_ble_eq_true q1
  have q2' := Nat.eq_of_beq_eq_true q2
  have q3' := Nat.le_of_ble_eq_true q3
  have q4' := Nat.le_of_ble_eq_true q4
  obtain ⟨z, hz⟩ := Option.isSome_iff_exists.1 q5
  refine Wm8 fun D U w a hops => ?_
  obtain ⟨r1, r2, r3, r4⟩ := Wna (U := U) (w := w) (D := D) (a := a) 0 ps.toList cs hcs (fun p hp => hops p.2 (by
   rw [ho]; simp only [Op.operands]
   exact List.mem_toArray.2 (List.mem_map.2 ⟨p, hp, rfl⟩)))
  have hlen : (ps.toList.map fun p => a.eval p.2).length = len := by simp [q2']
  rcases Nat.eq_zero_or_pos len with h0 | hpos
  ·subst h0
   have hps : ps = #[] := Array.size_eq_zero_iff.1 q2'
   subst hps
   have hcs0 : cs = [] := List.length_eq_zero_iff.1 (by rw [r3]; simp)
   subst hcs0
   refine ⟨0, #[], Nat.le_refl _, ?_, by simp, by simp, fun i x v e1 e2 => by simp at e1⟩
   have hs2 : (sizeOf e).run P w = .ok i.size w := by simp [sizeOf, typeInfo, program, Sem.run, hi, bind, pure, Sem.bind]
   simp only [execOp, ho, Instr.buildSlice, Sem.run_bind, run_underlying hu, Result.andThen_ok, hs2, Nat.zero_mul, gt_iff_lt, Nat.not_lt_zero, if_false, if_true, Sem.run_pure, Sem.run_ite]
   have hr0 : Array.range 0 = #[] := Array.eq_empty_of_size_eq_zero (by simp)
   simp [Instr.fill, newRow, newObj, Sem.run, hr0]
  refine ⟨len, ((ps.toList.map fun p => a.eval p.2).flatMap fun v => v.cells.toList).toArray, Nat.le_refl _, ?_, ?_, ?_, ?_⟩
  ·have hne : ¬ len * i.size = 0 := by
    intro h0
    have := Nat.mul_pos hpos (show 0 < i.size by omega)
    omega
   have hfill := Go.Great.fill_whole (s := i.size) (by omega) (ps.toList.map fun p => a.eval p.2) ((Array.range (len * i.size)).map (z.cells[· % z.cells.size]!)) r1 (by rw [hlen]; simp)
   have hparts : (ps.map fun (x : Nat × Operand) => (x.1, a.eval x.2)).toList = ((ps.toList.map fun p => a.eval p.2).zipIdx 0).map fun x => (x.2, x.1) := by
    rw [Array.toList_map]; exact r2
   have n1 : ¬ len * i.size > 2 ^ 24 := by
    have : (2 : Nat) ^ 24 = 16777216 := by decide
    omega
   have hz2 : (zeroValue e).run P w = .ok z w := by simp [zeroValue, typeInfo, program, Sem.run, hi, hz, bind, pure, Sem.bind]
   have hs2 : (sizeOf e).run P w = .ok i.size w := by simp [sizeOf, typeInfo, program, Sem.run, hi, bind, pure, Sem.bind]
   simp only [execOp, ho, Instr.buildSlice, Sem.run_bind, run_underlying hu, Result.andThen_ok, hs2, n1, if_false, hne, hz2, Sem.run_pure, Sem.run_ite, hparts]
   rw [hfill]
   simp [newRow, newObj, Sem.run]
  ·have hsz : ∀ (l : List Value), (∀ v ∈ l, v.cells.size = i.size) → (l.flatMap fun v => v.cells.toList).length = l.length * i.size := by
    intro l
    induction l with
    | nil => intro _; simp
    | cons v l ih => intro hl; simp only [List.flatMap_cons, List.length_append, List.length_cons, Array.length_toList, hl v (by simp), ih (fun u hu => hl u (by simp [hu])), Nat.add_mul]; omega
   rw [List.size_toArray, hsz _ r1, hlen]; exact Nat.le_refl _
  ·have hsz : ∀ (l : List Value), (∀ v ∈ l, v.cells.size = i.size) → (l.flatMap fun v => v.cells.toList).length = l.length * i.size := by
    intro l
    induction l with
    | nil => intro _; simp
    | cons v l ih => intro hl; simp only [List.flatMap_cons, List.length_append, List.length_cons, Array.length_toList, hl v (by simp), ih (fun u hu => hl u (by simp [hu])), Nat.add_mul]; omega
   rw [List.size_toArray, hsz _ r1, r3]
   simp
  ·intro n x v e1 e2
   exact r4 n x v e1 (by simpa using e2)
end Go.Pv
namespace Go.Pv
open Go Go.RowKit
def Good (P : Program) (I : W40) (o : Oper) (ρ : W44) (H : OH) (id : Nat) (f : KK → Option DV) : Prop :=
 ∀ k r, f k = some r → ∃ x eff, k x eff = some r ∧ (∀ k', f k' = k' x eff) ∧ Wk4 P I o ρ H id x eff
def Whu (z : W5j) : Nat → List DV
 | 0 => []
 | n + 1 => z ++ Whu z n
theorem K70 (z : W5j) : ∀ n, (Whu z n).length = n * z.length
 | 0 => by simp [Whu]
 | n + 1 => by simp only [Whu, List.length_append, K70 z n, Nat.add_mul]; omega
theorem Wkb {z : W5j} (hz : 0 < z.length) : ∀ (n i : Nat), i < n * z.length → (Whu z n)[i]? = z[i % z.length]?
 | 0, i, h => by simp at h
 | n + 1, i, h => by
  simp only [Whu]
  rw [List.getElem?_append]
  split
  ·rename_i hlt; rw [Nat.mod_eq_of_lt hlt]
  ·rename_i hge
   have hm : (n + 1) * z.length = n * z.length + z.length := by rw [Nat.add_mul]; omega
   rw [Wkb hz n (i - z.length) (by omega)]
   congr 1
   have e : i = (i - z.length) + z.length := by omega
   conv => rhs; rw [e, Nat.add_mod_right]
def Wxj (P : Program) (ρ : W44) (id : Nat) (t : TypeId) (l c : Operand) (k : KK) : Option DV :=
 match P.underlying t, (ρ l).flat, (ρ c).flat with
 | some (.slice e), some (.int .i64 n), some (.int .i64 m) => match P.info? e with
  | some i => match i.zero with
   | some z => bif decide (0 ≤ n) && decide (n ≤ m) && decide (m ≤ 16777216) && decide ((i.bytes : Int) * m ≤ 281474976710656) && Nat.ble 1 i.size && Nat.beq z.cells.size i.size && decide (m.toNat * i.size ≤ 16777216) then k (.osl e i.size id 0 n.toNat) (.new (Whu (DV.cells (.val z)) m.toNat)) else none
   | none => none
  | none => none
 | _, _, _ => none
theorem Wxk {P : Program} {I : W40} {ρ : W44} {o : Oper} {t : TypeId} {l c : Operand} {H : OH} {id : Nat} (ho : o.op = .makeSlice t l c) : Good P I o ρ H id (Wxj P ρ id t l c) := by
 intro k r h
 unfold Wxj at h
 split at h <;> try (cases h; done)
 rename_i e n m hu hl hc
 split at h <;> try (cases h; done)
 rename_i i hi
 split at h <;> try (cases h; done)
 rename_i z hz
 cases hq : decide (0 ≤ n) && decide (n ≤ m) && decide (m ≤ 16777216) && decide ((i.bytes : Int) * m ≤ 281474976710656) && Nat.ble 1 i.size && Nat.beq z.cells.size i.size && decide (m.toNat * i.size ≤ 16777216) with
 | false => rw [hq] at h; cases h
 | true =>
  have hq0 := hq
  rw [hq] at h
  simp only [cond_true] at h
  refine ⟨_, _, h, fun k' => by simp only [Wxj, hu, hl, hc, hi, hz, hq0, cond_true], ?_⟩
  simp only [Bool.and_eq_true, decide_eq_true_eq] at hq
  obtain ⟨⟨⟨⟨⟨⟨q1, q2⟩, q3⟩, q4⟩, q5⟩, q6⟩, q7⟩ := hq
  have q5' := Nat.le_of_ble_eq_true q5
  have q6' := Nat.eq_of_beq_eq_true q6
  refine Wm8 fun D U w a hops => ?_
  have h1 := VV.flat_rep hl (hops l (by simp [ho, Op.operands]))
  have h2 := VV.flat_rep hc (hops c (by simp [ho, Op.operands]))
  have hr := run_makeSlice (P := P) w t e i z hu hi hz .i64 .i64 n m q1 q2 q7 q4 (by omega)
  refine ⟨m.toNat, madeCells z.cells (m.toNat * i.size), by omega, ?_, by simp [madeCells], ?_, ?_⟩
  ·simp only [execOp, ho, h1, h2, Sem.run_bind, hr, Result.andThen_ok, Sem.run_pure]
  ·have := DV.cells_rep (U := U) (w := w) (.val z)
   rw [K70, ← this.1, q6', size_madeCells]
  ·intro j x v e1 e2
   have hc2 := DV.cells_rep (U := U) (w := w) (.val z)
   have hzl : (DV.cells (.val z)).length = i.size := by rw [← hc2.1, q6']
   have hj : j < m.toNat * i.size := by
    have := (List.getElem?_eq_some_iff.1 e1).1
    rw [K70, hzl] at this; exact this
   rw [Wkb (by omega) m.toNat j (by rw [hzl]; exact hj), hzl] at e1
   have hjm : j % i.size < z.cells.size := by rw [q6']; exact Nat.mod_lt _ (by omega)
   have : v = z.cells[j % i.size] := by
    simp only [madeCells, Array.getElem?_map] at e2
    rw [Array.getElem?_range, if_pos hj] at e2
    simp only [Option.map_some, Option.some.injEq] at e2
    rw [← e2, q6']
    simp [hjm]
   rw [this]
   exact hc2.2 _ x _ e1 (Array.getElem?_eq_getElem hjm)
def Whv (P : Program) (ρ : W44) (t : TypeId) (x i : Operand) (k : KK) : Option DV :=
 match P.underlying t, (ρ i).flat with
 | some (.slice e), some (.int _ n) => match P.info? e with
  | some ti => match ρ x with
   | .dv (.lst sz es) => bif Nat.beq sz ti.size then (bif decide (0 ≤ n) then (match es[n.toNat]? with | some e => k (.eptr e) .none | none => none) else none) else none
   | .osl _ _ b of m => bif decide (0 ≤ n) && decide (n < m) then k (.ptr b (of + n.toNat * ti.size)) .none else none
   | _ => none
  | none => none
 | _, _ => none
theorem Wso {P : Program} {I : W40} {ρ : W44} {o : Oper} {t : TypeId} {x i : Operand} {H : OH} {id : Nat} (ho : o.op = .indexAddr t x i) : Good P I o ρ H id (Whv P ρ t x i) := by
 intro k r h
 unfold Whv at h
 split at h <;> try (cases h; done)
 rename_i e kd n hu hi
 split at h <;> try (cases h; done)
 rename_i ti hti
 have hs2 : ∀ w, (sizeOf e).run P w = .ok ti.size w := fun w => by simp [sizeOf, typeInfo, program, Sem.run, hti, bind, pure, Sem.bind]
 split at h <;> try (cases h; done)
 ·rename_i sz es hx
  cases hsz : Nat.beq sz ti.size with
  | false => simp [hsz] at h
  | true =>
   have hsz' := Nat.eq_of_beq_eq_true hsz
   simp only [hsz, cond_true] at h
   cases hn : decide (0 ≤ n) with
   | false => simp [hn] at h
   | true =>
    simp only [hn, cond_true] at h
    split at h <;> try (cases h; done)
    rename_i el hel
    refine ⟨_, _, h, fun k' => by simp only [Whv, hu, hi, hti, hx, hsz, hn, cond_true, hel], Kd4 fun D U w a hops => ?_⟩
    have h1 := VV.flat_rep hi (hops i (by simp [ho, Op.operands]))
    have h2 := hops x (by simp [ho, Op.operands])
    rw [hx] at h2
    have hn' : 0 ≤ n := by simpa using hn
    have hlt := (List.getElem?_eq_some_iff.1 hel).1
    generalize hv : a.eval x = v at h2
    cases h2 with
    | nil => simp at hlt
    | lst hb hblt hcap hlen hc hr =>
     rename_i b off c g
     have hlt2 : n < (es.length : Int) := by omega
     refine ⟨.pointer (some ⟨b, off + n.toNat * ti.size, none⟩), ?_, b, off + n.toNat * ti.size, rfl, hb, ?_⟩
     ·have ht : ∀ w, (underlying t).run P w = .ok (.slice e) w := fun w => run_underlying hu w
      simp only [execOp, ho, h1, hv, Instr.indexAt, asIntOf, Sem.run_bind, Sem.run_pure, Result.andThen_ok, run_underlying hu, hn', hlt2, and_self, if_true, Sem.run_ite, hs2, Kql, Bool.and_false, Bool.false_eq_true, if_false]
     ·intro j y hy
      refine ⟨g n.toNat j, ?_, hr n.toNat j el y hel hy⟩
      have := hc n.toNat j el y hel hy
      rw [hsz'] at this
      exact this
 ·rename_i e2 sz2 b of m hx
  cases hq : decide (0 ≤ n) && decide (n < m) with
  | false => rw [hq] at h; cases h
  | true =>
   have hq0 := hq
   rw [hq] at h
   simp only [cond_true] at h
   refine ⟨_, _, h, fun k' => by simp only [Whv, hu, hi, hti, hx, hq0, cond_true], Kd4 fun D U w a hops => ?_⟩
   simp only [Bool.and_eq_true, decide_eq_true_eq] at hq
   have h1 := VV.flat_rep hi (hops i (by simp [ho, Op.operands]))
   have h2 := hops x (by simp [ho, Op.operands])
   rw [hx] at h2
   obtain ⟨kk, c, _, hk, _, _, _, hv⟩ := h2
   refine ⟨.pointer (some ⟨kk, of + n.toNat * ti.size, none⟩), ?_, kk, hk, rfl⟩
   simp only [execOp, ho, h1, hv, Instr.indexAt, asIntOf, Sem.run_bind, Sem.run_pure, Result.andThen_ok, run_underlying hu, hq.1, hq.2, and_self, if_true, Sem.run_ite, hs2, Kql, Bool.and_false, Bool.false_eq_true, if_false]
end Go.Pv
namespace Go.Pv
open Go Go.RowKit
inductive Lk where
 | int (k : IntKind)
 | bool
 | str
 | lst (sz : Nat)
def zD : DV := .tup []
def nth (e : W5j) (j : Nat) : DV := e.getD j zD
def isI (k : IntKind) : DV → Bool | .val (.int k' _) => decide (k' = k) | _ => false
def asI : DV → Int | .val (.int _ n) => n | _ => 0
def isB : DV → Bool | .val (.bool _) => true | _ => false
def asB : DV → Bool | .val (.bool b) => b | _ => false
def isS : DV → Bool | .val (.string _) => true | _ => false
def asS : DV → ByteArray | .val (.string s) => s | _ => ⟨#[]⟩
def isL (sz : Nat) : DV → Bool | .lst sz' _ => Nat.beq sz' sz | .val (.slice _ n _) => Nat.beq n 0 | _ => false
def asL : DV → List (List DV) | .lst _ es => es | _ => []
def Wdg : List Lk → Nat → List DV → (List DV → Option DV) → Option DV
 | [], _, _, k => k []
 | .int kd :: ks, j, e, k => bif isI kd (nth e j) then Wdg ks (j + 1) e (fun ds => k (.val (.int kd (asI (nth e j))) :: ds)) else none
 | .bool :: ks, j, e, k => bif isB (nth e j) then Wdg ks (j + 1) e (fun ds => k (.val (.bool (asB (nth e j))) :: ds)) else none
 | .str :: ks, j, e, k => bif isS (nth e j) then Wdg ks (j + 1) e (fun ds => k (.val (.string (asS (nth e j))) :: ds)) else none
 | .lst sz :: ks, j, e, k => bif isL sz (nth e j) then Wdg ks (j + 1) e (fun ds => k (.lst sz (asL (nth e j)) :: ds)) else none
theorem Wq9 {k : IntKind} {d : DV} (h : isI k d = true) : d = .val (.int k (asI d)) := by
 unfold isI at h
 split at h
 ·simp at h; subst h; rfl
 ·cases h
theorem W1v {d : DV} (h : isB d = true) : d = .val (.bool (asB d)) := by
 unfold isB at h
 split at h
 ·rfl
 ·cases h
theorem W1w {d : DV} (h : isS d = true) : d = .val (.string (asS d)) := by
 unfold isS at h
 split at h
 ·rfl
 ·cases h
theorem Wz4 {sz : Nat} {d : DV} (h : isL sz d = true) {U : W42} {w : World} {v : Value} (hr : DRep U w d v) : DRep U w (.lst sz (asL d)) v := by
 unfold isL at h
 split at h
 ·have := Nat.eq_of_beq_eq_true h; subst this; exact hr
 ·have := Nat.eq_of_beq_eq_true h; subst this
  cases hr
  exact .nil
 ·cases h
theorem Wz5 {e : W5j} {j : Nat} (h : nth e j ≠ zD) : e[j]? = some (nth e j) := by
 unfold nth at h ⊢
 rw [List.getD_eq_getElem?_getD] at h ⊢
 cases he : e[j]? with
 | none => rw [he] at h; exact absurd rfl h
 | some x => rfl
theorem Wk7 : ∀ (ks : List Lk) (j : Nat) (e : W5j) (k : List DV → Option DV) (r : DV), Wdg ks j e k = some r → ∃ ds, k ds = some r ∧ (∀ k', Wdg ks j e k' = k' ds) ∧ ∀ (i : Nat) (x : DV), ds[i]? = some x → ∃ y, e[j + i]? = some y ∧ ∀ (U : W42) (w : World) (v : Value), DRep U w y v → DRep U w x v
 | [], j, e, k, r, h => ⟨[], h, fun _ => rfl, fun i x hx => by simp at hx⟩
 | l :: ks, j, e, k, r, h => by
  have step : ∀ (d : DV) (b : Bool), (b = true → nth e j ≠ zD ∧ ∀ (U : W42) (w : World) (v : Value), DRep U w (nth e j) v → DRep U w d v) → (∀ k', Wdg (l :: ks) j e k' = bif b then Wdg ks (j + 1) e (fun ds => k' (d :: ds)) else none) →
    ∃ ds, k ds = some r ∧ (∀ k', Wdg (l :: ks) j e k' = k' ds) ∧ ∀ (i : Nat) (x : DV), ds[i]? = some x → ∃ y, e[j + i]? = some y ∧ ∀ (U : W42) (w : World) (v : Value), DRep U w y v → DRep U w x v := by
   intro d b hd hk
   rw [hk] at h
   cases b with
   | false => cases h
   | true =>
    obtain ⟨ds, h1, h2, h3⟩ := Wk7 ks (j + 1) e _ r h
    refine ⟨d :: ds, h1, fun k' => by rw [hk]; exact h2 _, fun i x hx => ?_⟩
    cases i with
    | zero =>
     simp at hx
     subst hx
     obtain ⟨hz, hr⟩ := hd rfl
     exact ⟨_, by rw [Nat.add_zero]; exact Wz5 hz, hr⟩
    | succ i =>
     rw [show j + (i + 1) = j + 1 + i by omega]
     exact h3 i x (by simpa using hx)
  have same : ∀ (d : DV) (b : Bool), (b = true → nth e j = d) → d ≠ zD → (b = true → nth e j ≠ zD ∧ ∀ (U : W42) (w : World) (v : Value), DRep U w (nth e j) v → DRep U w d v) := by
   intro d b hd hz hb
   have := hd hb
   exact ⟨by rw [this]; exact hz, fun U w v hr => by rw [← this]; exact hr⟩
  cases l with
  | int kd => exact step _ (isI kd (nth e j)) (same _ _ (fun h => Wq9 h) (by simp [zD])) (fun _ => rfl)
  | bool => exact step _ (isB (nth e j)) (same _ _ (fun h => W1v h) (by simp [zD])) (fun _ => rfl)
  | str => exact step _ (isS (nth e j)) (same _ _ (fun h => W1w h) (by simp [zD])) (fun _ => rfl)
  | lst sz => exact step (.lst sz (asL (nth e j))) (isL sz (nth e j)) (fun h => ⟨fun e => (by rw [e] at h; cases h), fun U w v hr => Wz4 h hr⟩) (fun _ => rfl)
def Wve (lv : TypeId → Option (List Lk)) : List Field → Option (List Lk)
 | [] => some []
 | f :: fs => match lv f.type, Wve lv fs with
  | some a, some b => some (a ++ b)
  | _, _ => none
def K71 (P : Program) : Nat → TypeId → Option (List Lk)
 | 0, _ => none
 | d + 1, t => match P.underlying t with
  | some .bool => some [.bool]
  | some (.int k) => some [.int k]
  | some .string => some [.str]
  | some (.slice e) => match P.info? e with | some i => some [.lst i.size] | none => none
  | some (.struct fs) => Wve (K71 P d) fs.toList
  | _ => none
def optE (o : Option (List DV)) (f : List DV → Option DV) : Option DV := match o with | some e => f e | none => none
end Go.Pv
namespace Go.Pv
open Go Go.RowKit
theorem Kle {P : Program} {I : W40} {ρ : W44} {o : Oper} {H : OH} {id : Nat} : Good P I o ρ H id (K6h P ρ o) := by
 intro k r h
 unfold K6h at h
 cases hf : K1k ρ o with
 | false => simp [hf] at h
 | true =>
  cases hs : Wsj o.op with
  | false => simp [hs] at h
  | true =>
   simp only [hf, hs, Bool.and_self, cond_true] at h
   cases hp : prun P (execOp (ρF ρ) o) with
   | none => simp [hp] at h
   | some n =>
    rw [hp] at h
    have hr := K7w _ hp
    cases n <;> simp only [] at h <;> try (cases h; done)
    ·exact ⟨_, _, h, fun k' => by simp only [K6h, hf, hs, Bool.and_self, cond_true, hp, valK], Wu9 hf hs hr⟩
    ·exact ⟨_, _, h, fun k' => by simp only [K6h, hf, hs, Bool.and_self, cond_true, hp, valK], Wi9 hf hs hr⟩
theorem Wvf {P : Program} {I : W40} {ρ : W44} {o : Oper} {b : BinOp} {T ty : TypeId} {x y : Operand} {H : OH} {id : Nat} (ho : o.op = .binOp b T x y ty) : Good P I o ρ H id (binK P ρ o b T x y) := by
 intro k r h
 unfold binK at h
 split at h
 ·rename_i ka a kb c hx hy
  cases hk : decide (ka = kb) <;> simp only [hk, cond_false, cond_true] at h <;> try (cases h; done)
  cases hc : c == 0 <;> simp only [hc, cond_false, cond_true] at h <;> try (cases h; done)
  have e : ka = kb := by simpa using hk
  have e2 : ¬ c = 0 := by simpa using hc
  subst e
  exact ⟨_, _, h, fun k' => by simp [binK, hx, hy, hc, valK], Whr ho hx hy fun w => by simp [eqGuard, binOp, Op.intDiv, e2]⟩
 ·rename_i ka a kb c hx hy
  cases hk : decide (ka = kb) <;> simp only [hk, cond_false, cond_true] at h <;> try (cases h; done)
  cases hc : c == 0 <;> simp only [hc, cond_false, cond_true] at h <;> try (cases h; done)
  have e : ka = kb := by simpa using hk
  have e2 : ¬ c = 0 := by simpa using hc
  subst e
  exact ⟨_, _, h, fun k' => by simp [binK, hx, hy, hc, valK], Whr ho hx hy fun w => by simp [eqGuard, binOp, Op.intDiv, e2]⟩
 ·rename_i ka a kb c hx hy
  cases hc : decide (c < 0) <;> simp only [hc, cond_false, cond_true] at h <;> try (cases h; done)
  have e2 : ¬ c < 0 := by simpa using hc
  exact ⟨_, _, h, fun k' => by simp only [binK, hx, hy, hc, cond_true, cond_false, valK], Whr ho hx hy fun w => by simp [eqGuard, binOp, Op.shift, e2]⟩
 ·rename_i ka a kb c hx hy
  cases hc : decide (c < 0) <;> simp only [hc, cond_false, cond_true] at h <;> try (cases h; done)
  have e2 : ¬ c < 0 := by simpa using hc
  exact ⟨_, _, h, fun k' => by simp only [binK, hx, hy, hc, cond_true, cond_false, valK], Whr ho hx hy fun w => by simp [eqGuard, binOp, Op.shift, e2]⟩
 ·rename_i a c hx hy
  cases hc : decide (((a.size + c.size : Nat) : Int) > IntKind.i64.max) <;> simp only [hc, cond_false, cond_true] at h <;> try (cases h; done)
  have e2 : ¬ ((a.size + c.size : Nat) : Int) > IntKind.i64.max := by simpa using hc
  exact ⟨_, _, h, fun k' => by simp only [binK, hx, hy, hc, cond_true, cond_false, valK], Whr ho hx hy fun w => by simp only [eqGuard, binOp, Op.stringOp, e2]; rfl⟩
 ·rename_i xs ys hx hy
  cases hg : P.eqGuardType P.depth T <;> simp only [hg, cond_false, cond_true] at h <;> try (cases h; done)
  cases he : eqK P 12 T (.agg xs) (.agg ys) <;> simp only [he] at h <;> try (cases h; done)
  exact ⟨_, _, h, fun k' => by simp only [binK, hx, hy, hg, he, cond_true, cond_false, valK], Whr ho hx hy fun w => by rw [Sem.run_bind, run_eqGuard_agg w _ T x y xs ys hg, Result.andThen_ok, run_eql_struct, Wpf 12 10000 (by omega) T _ _ _ he w]; rfl⟩
 ·rename_i xs ys hx hy
  cases hg : P.eqGuardType P.depth T <;> simp only [hg, cond_false, cond_true] at h <;> try (cases h; done)
  cases he : eqK P 12 T (.agg xs) (.agg ys) <;> simp only [he] at h <;> try (cases h; done)
  exact ⟨_, _, h, fun k' => by simp only [binK, hx, hy, hg, he, cond_true, cond_false, valK], Whr ho hx hy fun w => by rw [Sem.run_bind, run_eqGuard_agg w _ T x y xs ys hg, Result.andThen_ok, run_neq_struct, Wpf 12 10000 (by omega) T _ _ _ he w]; rfl⟩
 ·rename_i n1 n2 n3 n4 n5 n6 n7
  obtain ⟨x', y', h1, h2, h3⟩ := Kle (I := I) (H := H) (id := id) k r h
  refine ⟨x', y', h1, fun k' => ?_, h3⟩
  unfold binK
  split
  ·rename_i e1 e2; exact (n1 _ _ _ _ rfl e1 e2).elim
  ·rename_i e1 e2; exact (n2 _ _ _ _ rfl e1 e2).elim
  ·rename_i e1 e2; exact (n3 _ _ _ _ rfl e1 e2).elim
  ·rename_i e1 e2; exact (n4 _ _ _ _ rfl e1 e2).elim
  ·rename_i e1 e2; exact (n5 _ _ rfl e1 e2).elim
  ·rename_i e1 e2; exact (n6 _ _ rfl e1 e2).elim
  ·rename_i e1 e2; exact (n7 _ _ rfl e1 e2).elim
  ·exact h2 k'
def Wsp (P : Program) (ρ : W44) (H : OH) (t : TypeId) (x : Operand) (k : KK) : Option DV :=
 match ρ x with
 | .ptr b of => match H[b]? with
  | some (some (.cells cs)) => match K71 P 8 t with
   | some ks => Wdg ks of cs fun ds => match Whs P t ds 0 with | some d => k (.dv d) .none | none => none
   | none => match Whs P t cs of with | some d => k (.dv d) .none | none => none
  | _ => none
 | .eptr cs => match K71 P 8 t with
  | some ks => Wdg ks 0 cs fun ds => match Whs P t ds 0 with | some d => k (.dv d) .none | none => none
  | none => match Whs P t cs 0 with | some d => k (.dv d) .none | none => none
 | _ => none
theorem Wkc {P : Program} {I : W40} {ρ : W44} {o : Oper} {t : TypeId} {x : Operand} {H : OH} {id : Nat} (ho : o.op = .load t x) : Good P I o ρ H id (Wsp P ρ H t x) := by
 intro k r h
 have read : ∀ (cs : W5j) (of : Nat), (match K71 P 8 t with
   | some ks => Wdg ks of cs fun ds => match Whs P t ds 0 with | some d => k (.dv d) .none | none => none
   | none => match Whs P t cs of with | some d => k (.dv d) .none | none => none) = some r →
   ∃ d, k (.dv d) .none = some r ∧ (∀ k' : KK, (match K71 P 8 t with
   | some ks => Wdg ks of cs fun ds => match Whs P t ds 0 with | some d => k' (.dv d) .none | none => none
   | none => match Whs P t cs of with | some d => k' (.dv d) .none | none => none) = k' (.dv d) .none) ∧
   ∀ (U : W42) (w : World) (kk base : Nat), Wel U w kk base cs → ∃ v, (loadVar t ⟨kk, base + of, none⟩).run P w = .ok v w ∧ DRep U w d v := by
  intro cs of h
  cases hlv : K71 P 8 t with
  | some ks =>
   rw [hlv] at h
   obtain ⟨ds, h1, h2, h3⟩ := Wk7 ks of cs _ r h
   split at h1 <;> try (cases h1; done)
   rename_i d hl
   refine ⟨d, h1, fun k' => by simp only []; rw [h2]; simp only [hl], fun U w kk base hc => ?_⟩
   have hc' : Wel U w kk (base + of) ds := by
    intro i x hi
    obtain ⟨y, hy, hr⟩ := h3 i x hi
    obtain ⟨v, hv, hd⟩ := hc (of + i) y hy
    exact ⟨v, by rw [Nat.add_assoc]; exact hv, hr U w v hd⟩
   have := Wk6 hl hc'
   rwa [Nat.add_zero] at this
  | none =>
   rw [hlv] at h
   simp only [] at h
   split at h <;> try (cases h; done)
   rename_i d hl
   exact ⟨d, h, fun k' => by simp only [hl], fun U w kk base hc => Wk6 hl hc⟩
 unfold Wsp at h
 split at h <;> try (cases h; done)
 ·rename_i b of hx
  split at h <;> try (cases h; done)
  rename_i cs hb
  obtain ⟨d, h1, h2, h3⟩ := read cs of h
  refine ⟨_, _, h1, fun k' => by simp only [Wsp, hx, hb]; exact h2 k', ?_⟩
  intro D U N w0 H' w a next Q hI hC hW _ _ _ hops hn
  have h1 := hops x (by simp [ho, Op.operands])
  rw [hx] at h1
  obtain ⟨kk, hk, hax⟩ := h1
  obtain ⟨n1, n3, B, g4⟩ := hW.own b kk hk
  have e := hC b _ _ hb g4
  subst e
  obtain ⟨n2, cur, T, g3, g5, g6⟩ := hW.hold b kk cs hk g4
  have hcells : Wel U w kk 0 cs := by
   intro i x hi
   have hlt : i < cur.size := by have := (List.getElem?_eq_some_iff.1 hi).1; omega
   exact ⟨cur[i], by simp [World.cell?, g3, hlt], g6 i x _ hi (Array.getElem?_eq_getElem hlt)⟩
  obtain ⟨v, hv, hr⟩ := h3 U w kk 0 hcells
  unfold Oper.wp
  simp only [Nat.zero_add] at hv
  simp only [execOp, ho, hax, Instr.loadAt, Instr.sureAddr, Sem.run_bind, Sem.run_pure, Result.andThen_ok, hv]
  exact hn v w D U Kei.refl hW (fun _ h _ => h) hr
 ·rename_i cs hx
  obtain ⟨d, h1, h2, h3⟩ := read cs 0 h
  refine ⟨_, _, h1, fun k' => by simp only [Wsp, hx]; exact h2 k', Kd4 fun D U w a hops => ?_⟩
  have h1 := hops x (by simp [ho, Op.operands])
  rw [hx] at h1
  obtain ⟨kk, off, hax, hU, hcells⟩ := h1
  obtain ⟨v, hv, hr⟩ := h3 U w kk off hcells
  rw [Nat.add_zero] at hv
  exact ⟨v, by simp only [execOp, ho, hax, Instr.loadAt, Instr.sureAddr, Sem.run_bind, Sem.run_pure, Result.andThen_ok, hv], hr⟩
def Whw (P : Program) (ρ : W44) (T : TypeId) (x : Operand) (f : Nat) (k : KK) : Option DV :=
 match Wk5 P T f with
 | some off => match ρ x with
  | .ptr b of => k (.ptr b (of + off)) .none
  | .eptr cs => k (.eptr (cs.drop off)) .none
  | .tp T' sz b => bif Nat.beq off 0 then k (.tp T' sz b) .none else k (.ptr b off) .none
  | _ => none
 | none => none
theorem Wpg {P : Program} {I : W40} {ρ : W44} {o : Oper} {T : TypeId} {x : Operand} {f : Nat} {H : OH} {id : Nat} (ho : o.op = .fieldAddr T x f) : Good P I o ρ H id (Whw P ρ T x f) := by
 intro k r h
 unfold Whw at h
 split at h <;> try (cases h; done)
 rename_i off hf
 split at h <;> try (cases h; done)
 ·rename_i b of hx
  refine ⟨_, _, h, fun k' => by simp only [Whw, hf, hx], Kd4 fun D U w a hops => ?_⟩
  have h1 := hops x (by simp [ho, Op.operands])
  rw [hx] at h1
  obtain ⟨kk, hk, hax⟩ := h1
  exact ⟨.pointer (some ⟨kk, of + off, none⟩), by simp [execOp, ho, hax, K7y hf, Kql], kk, hk, rfl⟩
 ·rename_i cs hx
  refine ⟨_, _, h, fun k' => by simp only [Whw, hf, hx], Kd4 fun D U w a hops => ?_⟩
  have h1 := hops x (by simp [ho, Op.operands])
  rw [hx] at h1
  obtain ⟨kk, o2, hax, hU, hcells⟩ := h1
  refine ⟨.pointer (some ⟨kk, o2 + off, none⟩), by simp [execOp, ho, hax, K7y hf, Kql], kk, o2 + off, rfl, hU, fun i x hi => ?_⟩
  rw [List.getElem?_drop] at hi
  obtain ⟨v, hv, hr⟩ := hcells _ x hi
  exact ⟨v, by rw [show o2 + off + i = o2 + (off + i) by omega]; exact hv, hr⟩
 ·rename_i T' sz b hx
  cases hz : Nat.beq off 0 with
  | true =>
   rw [hz] at h
   simp only [cond_true] at h
   refine ⟨_, _, h, fun k' => by simp only [Whw, hf, hx, hz, cond_true], Kd4 fun D U w a hops => ?_⟩
   have h1 := hops x (by simp [ho, Op.operands])
   rw [hx] at h1
   obtain ⟨kk, cur, hk, hh, hs, hax⟩ := h1
   have hz' := Nat.eq_of_beq_eq_true hz
   subst hz'
   exact ⟨.pointer (some ⟨kk, 0, none⟩), by simp [execOp, ho, hax, K7y hf, Kql], kk, cur, hk, hh, hs, rfl⟩
  | false =>
   rw [hz] at h
   simp only [cond_false] at h
   refine ⟨_, _, h, fun k' => by simp only [Whw, hf, hx, hz, cond_false], Kd4 fun D U w a hops => ?_⟩
   have h1 := hops x (by simp [ho, Op.operands])
   rw [hx] at h1
   obtain ⟨kk, cur, hk, hh, hs, hax⟩ := h1
   exact ⟨.pointer (some ⟨kk, off, none⟩), by simp [execOp, ho, hax, K7y hf, Kql], kk, hk, rfl⟩
def nilQ (P : Program) (ρ : W44) (o : Oper) (x : Operand) (k : KK) : Option DV :=
 match ρ x with
 | .ptr b of => k (.ptr b of) .none
 | .eptr cs => k (.eptr cs) .none
 | .tp T sz b => k (.tp T sz b) .none
 | _ => K6h P ρ o k
theorem Wvg {P : Program} {I : W40} {ρ : W44} {o : Oper} {x : Operand} {H : OH} {id : Nat} (ho : o.op = .nilCheck x) : Good P I o ρ H id (nilQ P ρ o x) := by
 intro k r h
 unfold nilQ at h
 split at h
 ·rename_i b of hx
  refine ⟨_, _, h, fun k' => by simp only [nilQ, hx], Kd4 fun D U w a hops => ?_⟩
  have h1 := hops x (by simp [ho, Op.operands])
  rw [hx] at h1
  obtain ⟨kk, hk, hax⟩ := h1
  exact ⟨_, by simp [execOp, ho, hax], kk, hk, rfl⟩
 ·rename_i cs hx
  refine ⟨_, _, h, fun k' => by simp only [nilQ, hx], Kd4 fun D U w a hops => ?_⟩
  have h1 := hops x (by simp [ho, Op.operands])
  rw [hx] at h1
  obtain ⟨kk, o2, hax, hU, hcells⟩ := h1
  exact ⟨.pointer (some ⟨kk, o2, none⟩), by simp [execOp, ho, hax], kk, o2, rfl, hU, hcells⟩
 ·rename_i T sz b hx
  refine ⟨_, _, h, fun k' => by simp only [nilQ, hx], Kd4 fun D U w a hops => ?_⟩
  have h1 := hops x (by simp [ho, Op.operands])
  rw [hx] at h1
  obtain ⟨kk, cur, hk, hh, hs, hax⟩ := h1
  exact ⟨_, by simp [execOp, ho, hax], kk, cur, hk, hh, hs, rfl⟩
 ·rename_i n1 n2 n3
  obtain ⟨x', y', h1, h2, h3⟩ := Kle (I := I) (H := H) (id := id) k r h
  refine ⟨x', y', h1, fun k' => ?_, h3⟩
  unfold nilQ
  split
  ·rename_i b of hx; exact (n1 _ _ hx).elim
  ·rename_i cs hx; exact (n2 _ hx).elim
  ·rename_i T sz b hx; exact (n3 _ _ _ hx).elim
  ·exact h2 k'
def lenQ (P : Program) (ρ : W44) (o : Oper) (c : Call) (k : KK) : Option DV :=
 match c.args.toList with
 | [x] => match ρ x with
  | .dv (.lst _ es) => bif (match (c.argTypes[0]?).bind P.underlying with | some (.slice _) => true | _ => false) then valK k (.int .i64 es.length) else none
  | .osl _ _ _ _ n => bif (match (c.argTypes[0]?).bind P.underlying with | some (.slice _) => true | _ => false) then valK k (.int .i64 n) else none
  | _ => K6h P ρ o k
 | _ => K6h P ρ o k
theorem Wph {P : Program} {c : Call} {ty : TypeId} {x : Operand} (hx : c.args.toList = [x]) (hs : (match (c.argTypes[0]?).bind P.underlying with | some (.slice _) => true | _ => false) = true) (hc : c.callee = .builtin .len) {o : Oper} (ho : o.op = .call c) (a : Act) (w : World) {ad : Option Addr} {n cp : Nat} (hv : a.eval x = .slice ad n cp) :
  (execOp a.eval o).run P w = .ok (.value (.int .i64 n)) w := by
 split at hs <;> try (cases hs; done)
 rename_i e he
 cases ht : c.argTypes[0]? with
 | none => rw [ht] at he; cases he
 | some t =>
  rw [ht] at he
  have hu : P.underlying t = some (.slice e) := he
  have hargs : c.args = #[x] := by
   have : c.args = c.args.toList.toArray := by simp
   rw [this, hx]
  simp [execOp, ho, resolve, hc, invoke, builtin, Builtin.len_, ht, hargs, hv, run_underlying hu, goInt]
theorem Wvh {P : Program} {I : W40} {ρ : W44} {o : Oper} {c : Call} {H : OH} {id : Nat} (ho : o.op = .call c) (hc : c.callee = .builtin .len) : Good P I o ρ H id (lenQ P ρ o c) := by
 intro k r h
 unfold lenQ at h
 split at h
 ·rename_i x hx
  have hm : x ∈ o.op.operands := by
   rw [ho]; simp only [Op.operands, Call.operands]
   refine Array.mem_append.2 (.inr ?_)
   have : x ∈ c.args.toList := by rw [hx]; simp
   simpa using this
  split at h
  ·rename_i sz es hr
   cases hs : (match (c.argTypes[0]?).bind P.underlying with | some (.slice _) => true | _ => false) with
   | false => rw [hs] at h; cases h
   | true =>
    have hs0 := hs
    rw [hs] at h
    refine ⟨_, _, h, fun k' => by simp only [lenQ, hx, hr]; rw [hs0]; rfl, Kd4 fun D U w a hops => ⟨_, ?_, .val _⟩⟩
    have h1 := hops x hm
    rw [hr] at h1
    generalize hv : a.eval x = v at h1
    cases h1 with
    | nil => exact Wph (ty := 0) hx hs hc ho a w hv
    | lst => exact Wph (ty := 0) hx hs hc ho a w hv
  ·rename_i e2 sz2 b of n hr
   cases hs : (match (c.argTypes[0]?).bind P.underlying with | some (.slice _) => true | _ => false) with
   | false => rw [hs] at h; cases h
   | true =>
    have hs0 := hs
    rw [hs] at h
    refine ⟨_, _, h, fun k' => by simp only [lenQ, hx, hr]; rw [hs0]; rfl, Kd4 fun D U w a hops => ⟨_, ?_, .val _⟩⟩
    have h1 := hops x hm
    rw [hr] at h1
    obtain ⟨kk, cc, _, _, _, _, _, hv⟩ := h1
    exact Wph (ty := 0) hx hs hc ho a w hv
  ·rename_i n1 n2
   obtain ⟨x', y', h1, h2, h3⟩ := Kle (I := I) (H := H) (id := id) k r h
   refine ⟨x', y', h1, fun k' => ?_, h3⟩
   simp only [lenQ, hx]
   exact h2 k'
 ·rename_i n1
  obtain ⟨x', y', h1, h2, h3⟩ := Kle (I := I) (H := H) (id := id) k r h
  refine ⟨x', y', h1, fun k' => ?_, h3⟩
  unfold lenQ
  split
  ·rename_i x hx; exact (n1 _ hx).elim
  ·exact h2 k'
end Go.Pv
namespace Go.Pv
open Go Go.RowKit
structure Tab where
 f : FuncId → List DV → (DV → Option DV) → Option DV
 h : FuncId → Option (List VV → OH → (VV → OH → Option DV) → Option DV)
def Wnb (P : Program) (ρ : W44) (o : Oper) (T : TypeId) (x i : Operand) (k : KK) : Option DV :=
 match P.underlying T, (ρ x).flat, (ρ i).flat with
 | some .string, some (.string s), some (.int _ n) => bif decide (0 ≤ n) then (match s[n.toNat]? with | some b => valK k (.int .u8 b.toNat) | none => none) else none
 | _, _, _ => K6h P ρ o k
def Wk8 : VV → Bool
 | .dv (.val (.tuple _)) => true
 | _ => false
def Wnc (ρ : W44) (c a b : Operand) (k : KK) : Option DV :=
 match (ρ c).flat with
 | some (.bool x) =>
  bif Wk8 (ρ a) then (bif x then none else k (ρ b) .none)
  else bif Wk8 (ρ b) then (bif x then k (ρ a) .none else none)
  else bif Region.isConst b then (bif x then k (ρ a) .none else none)
  else bif Region.isConst a then (bif x then none else k (ρ b) .none)
  else bif x then k (ρ a) .none else k (ρ b) .none
 | _ => none
theorem Wpi {ρ : W44} {c a b : Operand} {k : KK} {r : DV} (h : Wnc ρ c a b k = some r) : ∃ x, (ρ c).flat = some (.bool x) ∧ ((x = true ∧ k (ρ a) .none = some r ∧ ∀ k', Wnc ρ c a b k' = k' (ρ a) .none) ∨ (x = false ∧ k (ρ b) .none = some r ∧ ∀ k', Wnc ρ c a b k' = k' (ρ b) .none)) := by
 unfold Wnc at h
 split at h <;> try (cases h; done)
 rename_i x hx
 refine ⟨x, hx, ?_⟩
 cases h1 : Wk8 (ρ a) <;> cases h2 : Wk8 (ρ b) <;> cases h3 : Region.isConst b <;> cases h4 : Region.isConst a <;> cases x <;> simp only [h1, h2, h3, h4, cond_true, cond_false] at h <;> first
  | (cases h; done)
  | exact .inl ⟨rfl, h, fun k' => by simp only [Wnc, hx, h1, h2, h3, h4, cond_true, cond_false]⟩
  | exact .inr ⟨rfl, h, fun k' => by simp only [Wnc, hx, h1, h2, h3, h4, cond_true, cond_false]⟩
theorem Wsq {P : Program} {I : W40} {ρ : W44} {o : Oper} {c a b : Operand} {H : OH} {id : Nat} (ho : o.op = .pick c a b) : Good P I o ρ H id (Wnc ρ c a b) := by
 intro k r h
 obtain ⟨x, hx, ⟨rfl, hk, hn⟩ | ⟨rfl, hk, hn⟩⟩ := Wpi h
 ·refine ⟨_, _, hk, hn, Kd4 fun D U w ac hops => ⟨ac.eval a, ?_, hops a (by simp [ho, Op.operands])⟩⟩
  have h1 := VV.flat_rep hx (hops c (by simp [ho, Op.operands]))
  simp [execOp, ho, h1, asBool]
 ·refine ⟨_, _, hk, hn, Kd4 fun D U w ac hops => ⟨ac.eval b, ?_, hops b (by simp [ho, Op.operands])⟩⟩
  have h1 := VV.flat_rep hx (hops c (by simp [ho, Op.operands]))
  simp [execOp, ho, h1, asBool]
theorem Wpj {P : Program} {I : W40} {ρ : W44} {o : Oper} {T : TypeId} {x i : Operand} {H : OH} {id : Nat} (ho : o.op = .index T x i) : Good P I o ρ H id (Wnb P ρ o T x i) := by
 intro k r h
 unfold Wnb at h
 split at h
 ·rename_i s ki n hu hx hi
  cases hn : decide (0 ≤ n) <;> simp only [hn, cond_false, cond_true] at h <;> try (cases h; done)
  split at h <;> try (cases h; done)
  rename_i b hb
  refine ⟨_, _, h, fun k' => by simp only [Wnb, hu, hx, hi, hn, hb, cond_true, valK], Kd4 fun D U w a hops => ⟨_, ?_, .val _⟩⟩
  have h1 := VV.flat_rep hx (hops x (by simp [ho, Op.operands]))
  have h2 := VV.flat_rep hi (hops i (by simp [ho, Op.operands]))
  have hn' : 0 ≤ n := by simpa using hn
  simp only [execOp, ho, h1, h2, Instr.index, asIntOf, Sem.run_bind, Sem.run_pure, Result.andThen_ok, run_underlying hu, hn', if_true, hb]
 ·rename_i n1
  obtain ⟨x', y', h1, h2, h3⟩ := Kle (I := I) (H := H) (id := id) k r h
  refine ⟨x', y', h1, fun k' => ?_, h3⟩
  unfold Wnb
  split
  ·rename_i e0 e1 e2; exact (n1 _ _ _ e0 e1 e2).elim
  ·exact h2 k'
def Wdh (P : Program) (ρ : W44) (o : Oper) (x : Operand) (i : Nat) (k : KK) : Option DV :=
 match ρ x with
 | .dv (.tup cs) => match cs[i]? with | some d => k (.dv d) .none | none => none
 | _ => K6h P ρ o k
theorem Wk9 {P : Program} {I : W40} {ρ : W44} {o : Oper} {x : Operand} {i : Nat} {H : OH} {id : Nat} (ho : o.op = .extract x i) : Good P I o ρ H id (Wdh P ρ o x i) := by
 intro k r h
 unfold Wdh at h
 split at h
 ·rename_i cs hx
  split at h <;> try (cases h; done)
  rename_i d hd
  refine ⟨_, _, h, fun k' => by simp only [Wdh, hx, hd], Kd4 fun D U w a hops => ?_⟩
  have h1 := hops x (by simp [ho, Op.operands])
  rw [hx] at h1
  generalize hv : a.eval x = v at h1
  cases h1 with
  | tup g1 g2 =>
   rename_i vs
   have hlt : i < vs.size := by rw [g1]; exact (List.getElem?_eq_some_iff.1 hd).1
   exact ⟨vs[i], by simp [execOp, ho, hv, Instr.extract, hlt], g2 i d _ hd (Array.getElem?_eq_getElem hlt)⟩
 ·rename_i hne
  obtain ⟨x', y', h1, h2, h3⟩ := Kle (I := I) (H := H) (id := id) k r h
  refine ⟨x', y', h1, fun k' => ?_, h3⟩
  unfold Wdh
  split
  ·rename_i cs hx; exact (hne cs hx).elim
  ·exact h2 k'
theorem meth {P : Program} {T : TypeId} {ms : Array (String × TypeId)} (hu : P.underlying T = some (.interface ms)) : P.underlying T = some (.interface (P.methodsAt T)) := by simp [Program.methodsAt, hu]
def binE (P : Program) (ρ : W44) (o : Oper) (b : BinOp) (T : TypeId) (x y : Operand) (k : KK) : Option DV :=
 match ρ x, ρ y with
 | .dv .err, .dv (.val .nilIface) => match P.underlying T, b with
  | some (.interface _), .neq => valK k (.bool true)
  | some (.interface _), .eql => valK k (.bool false)
  | _, _ => none
 | _, _ => binK P ρ o b T x y k
theorem Wvi {P : Program} {I : W40} {ρ : W44} {o : Oper} {b : BinOp} {T ty : TypeId} {x y : Operand} {H : OH} {id : Nat} (ho : o.op = .binOp b T x y ty) : Good P I o ρ H id (binE P ρ o b T x y) := by
 intro k r h
 unfold binE at h
 split at h
 ·rename_i hx hy
  have key : ∀ c, (∀ (t : TypeId) (u : Value) w, (do eqGuard b T x y (.iface t u) .nilIface; binOp b T (.iface t u) .nilIface : Sem Value).run P w = .ok (.bool c) w) → OpOk P I o ρ H id (.dv (.val (.bool c))) .none := by
   intro c hc
   refine Kd4 fun D U w a hops => ⟨_, ?_, .val _⟩
   have h1 := hops x (by simp [ho, Op.operands])
   have h2 := hops y (by simp [ho, Op.operands])
   rw [hx] at h1
   rw [hy] at h2
   generalize hv : a.eval x = v at h1
   have h2 := Ksd h2
   cases h1 with
   | err =>
    rename_i t u
    have := hc t u w
    simp only [execOp, ho, hv, h2, Sem.run_bind] at this ⊢
    rw [this]
    rfl
  split at h <;> try (cases h; done)
  ·rename_i ms hu
   exact ⟨_, _, h, fun k' => by simp only [binE, hx, hy, hu, valK], key true fun t u w => by rw [Sem.run_bind, show (eqGuard BinOp.neq T x y (.iface t u) .nilIface).run P w = .ok () w from rfl, Result.andThen_ok]; exact run_neq_held_nil w T t u (meth hu)⟩
  ·rename_i ms hu
   exact ⟨_, _, h, fun k' => by simp only [binE, hx, hy, hu, valK], key false fun t u w => by rw [Sem.run_bind, show (eqGuard BinOp.eql T x y (.iface t u) .nilIface).run P w = .ok () w from rfl, Result.andThen_ok]; exact run_eql_held_nil w T t u (meth hu)⟩
 ·rename_i hne
  obtain ⟨x', y', h1, h2, h3⟩ := Wvf (I := I) (H := H) (id := id) ho k r h
  refine ⟨x', y', h1, fun k' => ?_, h3⟩
  unfold binE
  split
  ·rename_i hx hy; exact (hne hx hy).elim
  ·exact h2 k'
def K96 (P : Program) (ρ : W44) (o : Oper) (t : TypeId) (x : Operand) (lo hi mx : Option Operand) (k : KK) : Option DV :=
 match mx, (match lo with | some y => (ρ y).flat | none => some (.int .i64 0)) with
 | none, some (.int _ l) => match ρ x, P.underlying t with
  | .dv (.val (.string s)), some .string => match (match hi with | some y => (ρ y).flat | none => some (.int .i64 s.size)) with
   | some (.int _ h) => bif decide (0 ≤ h) && decide (h ≤ s.size) && decide (0 ≤ l) && decide (l ≤ h) then valK k (.string (s.extract l.toNat h.toNat)) else none
   | _ => none
  | .dv (.lst sz es), some (.slice e) => match P.info? e with
   | some ti => match (match hi with | some y => (ρ y).flat | none => some (.int .i64 es.length)) with
    | some (.int _ h) => bif Nat.beq sz ti.size && decide (0 ≤ h) && decide (h ≤ es.length) && decide (0 ≤ l) && decide (l ≤ h) then k (.dv (.lst sz ((es.take h.toNat).drop l.toNat))) .none else none
    | _ => none
   | none => none
  | .osl e0 sz0 b o n, some (.slice e) => match P.info? e, lo, hi with
   | some _, none, some y => match (ρ y).flat with
    | some (.int _ h) => bif decide (0 ≤ h) && decide (h ≤ n) then k (.osl e0 sz0 b o h.toNat) .none else none
    | _ => none
   | some ti, some _, none => bif Nat.beq sz0 ti.size && decide (0 ≤ l) && decide (l < n) then k (.osl e0 sz0 b (o + l.toNat * sz0) (n - l.toNat)) .none else none
   | _, _, _ => none
  | _, _ => none
 | _, _ => none
theorem K0b {P : Program} {kd : IntKind} {i : Int} {y : Nat} (code : BoundsCode) (h0 : 0 ≤ i) (h1 : i ≤ y) (w : World) : (Instr.sliceBound (.int kd i) y code).run P w = .ok i.toNat w := by
 simp [Instr.sliceBound, asIntOf, h0, h1]
theorem Ktg {P : Program} (isS : Bool) (len cap : Nat) (lo hi : Option Value) (l h : Nat)
  (hlo : (lo = none ∧ l = 0) ∨ ∃ kd i, lo = some (.int kd i) ∧ 0 ≤ i ∧ i ≤ (h : Int) ∧ l = i.toNat) (hhi : (hi = none ∧ h = len) ∨ ∃ kd j, hi = some (.int kd j) ∧ 0 ≤ j ∧ j ≤ (cap : Int) ∧ h = j.toNat) (w : World) :
  (Instr.sliceBounds isS len cap lo hi none).run P w = .ok (l, h, cap) w := by
 rcases hlo with ⟨rfl, rfl⟩ | ⟨kd, i, rfl, h0, h1, rfl⟩ <;> rcases hhi with ⟨rfl, rfl⟩ | ⟨kd', j, rfl, g0, g1, rfl⟩ <;> cases isS <;>
  simp only [Instr.sliceBounds, Sem.run_bind, Sem.run_pure, Result.andThen_ok, Option.isSome_none, Bool.false_eq_true, if_false, if_true] <;>
  first
   | rfl
   | (rw [K0b _ g0 g1]; simp only [Result.andThen_ok]; rw [K0b _ h0 h1]; rfl)
   | (rw [K0b _ g0 g1]; rfl)
   | (rw [K0b _ h0 h1]; rfl)
theorem Whx {P : Program} {I : W40} {ρ : W44} {o : Oper} {t : TypeId} {x : Operand} {lo hi mx : Option Operand} {H : OH} {id : Nat} (ho : o.op = .slice t x lo hi mx) : Good P I o ρ H id (K96 P ρ o t x lo hi mx) := by
 intro k r h
 unfold K96 at h
 split at h <;> try (cases h; done)
 rename_i kl l hlo
 have hmx : x ∈ o.op.operands := by rw [ho]; simp [Op.operands]
 have lower : ∀ (D : W41) (U : W42) (w : World) (a : Act), (∀ y ∈ o.op.operands, VRep U w D (ρ y) (a.eval y)) → ∀ (hh : Nat), 0 ≤ l → l ≤ (hh : Int) → (lo.map a.eval = none ∧ l.toNat = 0) ∨ ∃ kd i, lo.map a.eval = some (.int kd i) ∧ 0 ≤ i ∧ i ≤ (hh : Int) ∧ l.toNat = i.toNat := by
  intro D U w a hops hh h0 h1
  cases lo with
  | none => simp only [Option.some.injEq, Value.int.injEq] at hlo; obtain ⟨_, rfl⟩ := hlo; exact .inl ⟨rfl, rfl⟩
  | some y =>
   have := VV.flat_rep hlo (hops y (by rw [ho]; simp [Op.operands]))
   exact .inr ⟨kl, l, by simp [this], h0, h1, rfl⟩
 have upper : ∀ (D : W41) (U : W42) (w : World) (a : Act), (∀ y ∈ o.op.operands, VRep U w D (ρ y) (a.eval y)) → ∀ (len cap : Nat) (kh : IntKind) (hh : Int), len ≤ cap → (match hi with | some y => (ρ y).flat | none => some (.int .i64 len)) = some (.int kh hh) → 0 ≤ hh → hh ≤ (len : Int) →
   (hi.map a.eval = none ∧ hh.toNat = len) ∨ ∃ kd j, hi.map a.eval = some (.int kd j) ∧ 0 ≤ j ∧ j ≤ (cap : Int) ∧ hh.toNat = j.toNat := by
  intro D U w a hops len cap kh hh hlc hhi h0 h1
  cases hi with
  | none => simp only [Option.some.injEq, Value.int.injEq] at hhi; obtain ⟨_, rfl⟩ := hhi; exact .inl ⟨rfl, by simp⟩
  | some y =>
   have := VV.flat_rep hhi (hops y (by rw [ho]; simp [Op.operands]))
   exact .inr ⟨kh, hh, by simp [this], h0, by omega, rfl⟩
 split at h <;> try (cases h; done)
 ·rename_i s hx hu
  split at h <;> try (cases h; done)
  rename_i kh hh hhi
  cases hq : decide (0 ≤ hh) && decide (hh ≤ s.size) && decide (0 ≤ l) && decide (l ≤ hh) with
  | false => rw [hq] at h; cases h
  | true =>
   have hq0 := hq
   rw [hq] at h
   simp only [Bool.and_eq_true, decide_eq_true_eq] at hq
   obtain ⟨⟨⟨q1, q2⟩, q3⟩, q4⟩ := hq
   refine ⟨_, _, h, fun k' => by simp only [K96, hlo, hx, hu, hhi]; rw [hq0]; rfl, Kd4 fun D U w a hops => ⟨_, ?_, .val _⟩⟩
   have h1 := hops x hmx
   rw [hx] at h1
   have hv : a.eval x = .string s := Ksd h1
   have hb := Ktg (P := P) false s.size s.size (lo.map a.eval) (hi.map a.eval) l.toNat hh.toNat (lower D U w a hops hh.toNat q3 (by omega)) (upper D U w a hops s.size s.size kh hh (Nat.le_refl _) hhi q1 q2) w
   simp only [execOp, ho, hv, Instr.sliceAt, Instr.slice, Sem.run_bind, run_underlying hu, Result.andThen_ok]
   simp only [Option.map_none, Option.isSome_none, Bool.false_eq_true, if_false, Sem.run_bind, hb, Result.andThen_ok, Sem.run_pure]
 ·rename_i sz es e hx hu
  split at h <;> try (cases h; done)
  rename_i ti hti
  split at h <;> try (cases h; done)
  rename_i kh hh hhi
  cases hq : Nat.beq sz ti.size && decide (0 ≤ hh) && decide (hh ≤ es.length) && decide (0 ≤ l) && decide (l ≤ hh) with
  | false => rw [hq] at h; cases h
  | true =>
   have hq0 := hq
   rw [hq] at h
   simp only [Bool.and_eq_true, decide_eq_true_eq] at hq
   obtain ⟨⟨⟨⟨q0, q1⟩, q2⟩, q3⟩, q4⟩ := hq
   have q0' := Nat.eq_of_beq_eq_true q0
   have hs2 : ∀ w, (sizeOf e).run P w = .ok ti.size w := fun w => by simp [sizeOf, typeInfo, program, Sem.run, hti, bind, pure, Sem.bind]
   refine ⟨_, _, h, fun k' => by simp only [K96, hlo, hx, hu, hti, hhi]; rw [hq0]; rfl, Kd4 fun D U w a hops => ?_⟩
   have h1 := hops x hmx
   rw [hx] at h1
   generalize hv : a.eval x = v at h1
   cases h1 with
   | nil =>
    rename_i cp ad
    simp only [List.length_nil] at q2
    have hb := Ktg (P := P) true 0 cp (lo.map a.eval) (hi.map a.eval) l.toNat hh.toNat (lower D U w a hops hh.toNat q3 (by omega)) (upper D U w a hops 0 cp kh hh (by omega) hhi q1 q2) w
    have e0 : hh.toNat - l.toNat = 0 := by omega
    have hex : ∃ ad', (execOp a.eval o).run P w = .ok (.value (.slice ad' (hh.toNat - l.toNat) (cp - l.toNat))) w := by
     simp only [execOp, ho, hv, Instr.sliceAt, Instr.slice, Sem.run_bind, run_underlying hu, Result.andThen_ok, Option.map_none, hb, hs2, Sem.run_pure]
     exact ⟨_, rfl⟩
    obtain ⟨ad', hex⟩ := hex
    refine ⟨_, hex, ?_⟩
    rw [e0]
    simp only [List.take_nil, List.drop_nil]
    exact .nil
   | lst hb0 hblt hcap hlen hc hr =>
    rename_i b off cp g
    have hb := Ktg (P := P) true es.length cp (lo.map a.eval) (hi.map a.eval) l.toNat hh.toNat (lower D U w a hops hh.toNat q3 (by omega)) (upper D U w a hops es.length cp kh hh hcap hhi q1 q2) w
    have hln : ((es.take hh.toNat).drop l.toNat).length = hh.toNat - l.toNat := by simp; omega
    have hget : ∀ i e, ((es.take hh.toNat).drop l.toNat)[i]? = some e → es[l.toNat + i]? = some e := by
     intro i e he
     rw [List.getElem?_drop, List.getElem?_take] at he
     split at he
     ·exact he
     ·cases he
    by_cases hcl : cp = l.toNat
    ·refine ⟨.slice (some ⟨b, off, none⟩) (hh.toNat - l.toNat) (cp - l.toNat), ?_, ?_⟩
     ·rw [hcl] at hb hv ⊢
      simp only [execOp, ho, hv, Instr.sliceAt, Instr.slice, Sem.run_bind, run_underlying hu, Result.andThen_ok, Option.map_none, hb, hs2, Sem.run_pure, if_true]
     ·have e0 : hh.toNat - l.toNat = 0 := by omega
      have e1 : (es.take hh.toNat).drop l.toNat = [] := by
       apply List.eq_nil_of_length_eq_zero; rw [hln, e0]
      have := DRep.lst (U := U) (w := w) (sz := sz) (b := b) (off := off) (c := cp - l.toNat) (es := []) (g := g) hb0 hblt (by simp) (by simp) (by simp) (by simp)
      simp only [VRep]
      rw [e1, e0]
      exact this
    ·refine ⟨.slice (some ⟨b, off + l.toNat * ti.size, none⟩) (hh.toNat - l.toNat) (cp - l.toNat), ?_, ?_⟩
     ·simp only [execOp, ho, hv, Instr.sliceAt, Instr.slice, Sem.run_bind, run_underlying hu, Result.andThen_ok, Option.map_none, hb, hs2, Sem.run_pure, hcl, if_false, Option.map_some, Kql]
     ·have := DRep.lst (U := U) (w := w) (sz := sz) (b := b) (off := off + l.toNat * ti.size) (c := cp - l.toNat) (es := (es.take hh.toNat).drop l.toNat) (g := fun i j => g (l.toNat + i) j) hb0 hblt (by rw [hln]; omega)
       (fun e he => hlen e (List.mem_of_mem_take (List.mem_of_mem_drop he))) (fun i j e x he hx => by
        have := hc _ j e x (hget i e he) hx
        rw [← this]
        congr 2
        rw [q0', Nat.add_mul]; omega) (fun i j e x he hx => hr _ j e x (hget i e he) hx)
      rw [hln] at this
      exact this
 ·rename_i e0 sz0 b o' n e' hx hu
  split at h <;> try (cases h; done)
  ·rename_i ti y hti
   split at h <;> try (cases h; done)
   rename_i kh hh hhi
   cases hq : decide (0 ≤ hh) && decide (hh ≤ (n : Int)) with
   | false => rw [hq] at h; cases h
   | true =>
    have hq0 := hq
    rw [hq] at h
    simp only [Bool.and_eq_true, decide_eq_true_eq] at hq
    obtain ⟨q1, q2⟩ := hq
    have hs2 : ∀ w, (sizeOf e').run P w = .ok ti.size w := fun w => by simp [sizeOf, typeInfo, program, Sem.run, hti, bind, pure, Sem.bind]
    refine ⟨_, _, h, fun k' => by simp only [K96, hlo, hx, hu, hti, hhi]; rw [hq0]; rfl, Kd4 fun D U w a hops => ?_⟩
    have h1 := hops x hmx
    rw [hx] at h1
    obtain ⟨kk, c, cur, hk, hc, hh', hs, hv⟩ := h1
    have h2 := VV.flat_rep hhi (hops y (by rw [ho]; simp [Op.operands]))
    have hb := Ktg (P := P) true n c none (some (.int kh hh)) 0 hh.toNat (.inl ⟨rfl, rfl⟩) (.inr ⟨kh, hh, rfl, q1, by omega, rfl⟩) w
    refine ⟨.slice (some ⟨kk, o', none⟩) hh.toNat c, ?_, kk, c, cur, hk, by omega, hh', hs, rfl⟩
    simp only [execOp, ho, hv, h2, Instr.sliceAt, Instr.slice, Sem.run_bind, run_underlying hu, Result.andThen_ok, Option.map_none, Option.map_some, hb, hs2, Sem.run_pure, Nat.zero_mul, Nat.sub_zero, Kql, Nat.add_zero]
    split <;> rfl
  ·rename_i ti y hti
   cases hq : Nat.beq sz0 ti.size && decide (0 ≤ l) && decide (l < (n : Int)) with
   | false => rw [hq] at h; cases h
   | true =>
    have hq0 := hq
    rw [hq] at h
    simp only [Bool.and_eq_true, decide_eq_true_eq] at hq
    obtain ⟨⟨q0, q1⟩, q2⟩ := hq
    have q0' := Nat.eq_of_beq_eq_true q0
    have hs2 : ∀ w, (sizeOf e').run P w = .ok ti.size w := fun w => by simp [sizeOf, typeInfo, program, Sem.run, hti, bind, pure, Sem.bind]
    refine ⟨_, _, h, fun k' => by simp only [K96, hlo, hx, hu, hti]; rw [hq0]; rfl, Kd4 fun D U w a hops => ?_⟩
    have h1 := hops x hmx
    rw [hx] at h1
    obtain ⟨kk, c, cur, hk, hc, hh', hs, hv⟩ := h1
    have hb := Ktg (P := P) true n c (some (a.eval y)) none l.toNat n (lower D U w a hops n q1 (by omega)) (.inl ⟨rfl, rfl⟩) w
    have hcl : ¬ c = l.toNat := by omega
    refine ⟨.slice (some ⟨kk, o' + l.toNat * ti.size, none⟩) (n - l.toNat) (c - l.toNat), ?_, kk, c - l.toNat, cur, hk, by omega, hh', ?_, by rw [q0']⟩
    ·simp only [execOp, ho, hv, Instr.sliceAt, Instr.slice, Sem.run_bind, run_underlying hu, Result.andThen_ok, Option.map_none, hb, hs2, Sem.run_pure, hcl, if_false, Option.map_some, Kql]
    ·rw [q0'] at hs ⊢
     have : (c - l.toNat) * ti.size = c * ti.size - l.toNat * ti.size := Nat.sub_mul _ _ _
     have h3 : l.toNat * ti.size ≤ c * ti.size := Nat.mul_le_mul_right _ (by omega)
     rw [this]; omega
end Go.Pv
namespace Go.Pv
open Go Go.RowKit
def Kse (s : ByteArray) : List (List DV) := s.data.toList.map fun b => [.val (.int .u8 b.toNat)]
theorem K6i (s : ByteArray) : (Kse s).length = s.size := by simp [Kse]
def Wvj (P : Program) (ρ : W44) (S T : TypeId) (x : Operand) (k : KK) : Option DV :=
 match ρ x with
 | .dv (.val (.string s)) => match P.underlying S, P.underlying T with
  | some _, some (.slice e) => match P.underlying e with
   | some (.int .u8) => k (.dv (.lst 1 (Kse s))) .none
   | _ => none
  | _, _ => none
 | _ => none
theorem Wsr {P : Program} {I : W40} {ρ : W44} {o : Oper} {S T : TypeId} {x : Operand} {H : OH} {id : Nat} (ho : o.op = .convert S T x) : Good P I o ρ H id (Wvj P ρ S T x) := by
 intro k r h
 unfold Wvj at h
 split at h <;> try (cases h; done)
 rename_i s hx
 split at h <;> try (cases h; done)
 rename_i u e hS hT
 split at h <;> try (cases h; done)
 rename_i he
 refine ⟨_, _, h, fun k' => by simp only [Wvj, hx, hS, hT, he], ?_⟩
 intro D U N w0 H' w a next Q hI hC hW hN hid hl hops hn
 have hv : a.eval x = .string s := by
  have := hops x (by simp [ho, Op.operands])
  rw [hx] at this
  exact VV.flat_rep (x := .dv (.val (.string s))) rfl this
 have hrun := Lib.run_convert_string_bytes (P := P) w S T e s hS hT he
 have hb : Below w.heap.size w (Lib.bytesWorld w e s) := ⟨(by unfold Lib.bytesWorld World.freeze; rw [if_neg (by decide)]; rfl), (by unfold Lib.bytesWorld World.freeze; rw [if_neg (by decide)]; rfl), (by unfold Lib.bytesWorld World.freeze; rw [if_neg (by decide)]; rfl), by rw [Lib.bytesWorld_size]; omega, fun k hk => Lib.bytesWorld_at_old w e s k hk⟩
 have hr : (execOp a.eval o).run P w = .ok (.value (.slice (some ⟨w.heap.size, 0, none⟩) s.size (grownCap w s.size 0 e))) (Lib.bytesWorld w e s) := by
  simp only [execOp, ho, hv, Sem.run_bind, hrun, Result.andThen_ok, Sem.run_pure]
 unfold Oper.wp
 rw [hr]
 refine hn _ _ D (U2 U w (Lib.bytesWorld w e s)) (K4q hN hW.old hb) (hW.below' hN hb) (fun _ h _ => h) ?_
 show DRep (U2 U w (Lib.bytesWorld w e s)) (Lib.bytesWorld w e s) (.lst 1 (Kse s)) _
 rw [← K6i s]
 refine .lst (g := fun i _ => .int .u8 (s.data.toList.getD i 0).toNat) (.inr ⟨Nat.le_refl _, by rw [Lib.bytesWorld_size]; omega⟩) (by rw [Lib.bytesWorld_size]; omega) (by rw [K6i]; exact grownCap_ge _ _ _ _) ?_ ?_ ?_
 ·intro x hx
  simp only [Kse, List.mem_map] at hx
  obtain ⟨b, _, rfl⟩ := hx
  rfl
 ·intro i j x y hi hj
  have hlt : i < s.size := by rw [← K6i s]; exact (List.getElem?_eq_some_iff.1 hi).1
  have hj0 : j = 0 := by
   simp only [Kse, List.getElem?_map, Option.map_eq_some_iff] at hi
   obtain ⟨b, _, rfl⟩ := hi
   have := (List.getElem?_eq_some_iff.1 hj).1
   simpa using this
  subst hj0
  simpa using Lib.bytesWorld_cell w e s i hlt
 ·intro i j x y hi hj
  simp only [Kse, List.getElem?_map, Option.map_eq_some_iff] at hi
  obtain ⟨b, hb1, rfl⟩ := hi
  have hj0 : j = 0 := by
   have := (List.getElem?_eq_some_iff.1 hj).1
   simpa using this
  subst hj0
  simp at hj
  subst hj
  simp only [List.getD, hb1, Option.getD_some]
  exact .val _
end Go.Pv
namespace Go.Pv
open Go Go.RowKit
def Wnd (H : OH) (x : VV) (sz : Nat) : Option (List DV × Nat) :=
 match x with
 | .osl _ _ b of m => match H[b]? with
  | some (some (.cells cs)) => bif Nat.ble (of + m * sz) cs.length then some ((cs.drop of).take (m * sz), m) else none
  | _ => none
 | .dv (.lst sz' es) => bif Nat.beq sz' sz then some (es.flatten, es.length) else none
 | _ => none
def K5d (P : Program) (ρ : W44) (H : OH) (id : Nat) (c : Call) (k : KK) : Option DV :=
 match c.args.toList, c.argTypes.toList with
 | [s, x], [t, t'] => bif Nat.beq t t' then match P.underlying t with
  | some (.slice e) => match P.info? e with
   | some i => match i.zero with
    | some z => bif Nat.beq z.cells.size i.size && Nat.ble 1 i.size then match Wnd H (ρ x) i.size with
     | some (ns, m) => bif Nat.beq m 0 then (match ρ s with | .osl e0 sz0 b of n => k (.osl e0 sz0 b of n) .none | .dv (.val (.slice none 0 0)) => k (.dv (.val (.slice none 0 0))) .none | .dv (.lst s0 es0) => k (.dv (.lst s0 es0)) .none | _ => none) else bif ns.all Kh0 then match ρ s with
      | .osl e0 sz0 b 0 n => match H[b]? with
       | some (some (.cells cs)) => bif Nat.beq e0 e && Nat.beq sz0 i.size && Nat.ble (n * i.size) cs.length && Nat.ble (n + m) maxLen && Nat.ble ((n + m) * i.bytes) 140737488355328 then k (.osl e i.size id 0 (n + m)) (.move b (cs.take (n * i.size) ++ ns)) else none
       | _ => none
      | .dv (.val (.slice none 0 0)) => bif Nat.ble m maxLen && Nat.ble (m * i.bytes) 140737488355328 then k (.osl e i.size id 0 m) (.new ns) else none
      | _ => none
      else none
     | none => none
     else none
    | none => none
   | none => none
  | _ => none
  else none
 | _, _ => none
theorem Wdi {H H' : OH} {x : VV} {sz m : Nat} {ns : W5j} (h : Wnd H x sz = some (ns, m)) (hm : 1 ≤ m) (hsz : 1 ≤ sz) (h1 : ns.all Kh0 = true) {D : W41} {U : W42} {N : W42} {w0 w : World} (hW : WRel D U N w0 H' w) (hC : K6c H H') {v : Value} (hv : VRep U w D x v) :
  ∃ ad cp, v = .slice (some ad) m cp ∧ ∃ news : List Value, news.length = m * sz ∧ ns.length = m * sz ∧ (∀ j u, news[j]? = some u → w.cell? (ad.add j) = some u) ∧ (∀ u ∈ news, u.oneCell' = true) ∧ ∀ (i : Nat) (x : DV) (v : Value), ns[i]? = some x → news[i]? = some v → DRep U w x v := by
 have fin : ∀ (k of : Nat), ns.length = m * sz → (∀ j x, ns[j]? = some x → ∃ u, w.cell? ⟨k, of + j, none⟩ = some u ∧ DRep U w x u) →
   ∃ news : List Value, news.length = m * sz ∧ ns.length = m * sz ∧ (∀ j u, news[j]? = some u → w.cell? ((⟨k, of, none⟩ : Addr).add j) = some u) ∧ (∀ u ∈ news, u.oneCell' = true) ∧ ∀ (i : Nat) (x : DV) (v : Value), ns[i]? = some x → news[i]? = some v → DRep U w x v := by
  intro k of hl hc
  refine ⟨(List.range (m * sz)).map fun j => (w.cell? ⟨k, of + j, none⟩).getD undef, by simp, hl, ?_, ?_, ?_⟩
  ·intro j u hu
   simp only [List.getElem?_map, Option.map_eq_some_iff] at hu
   obtain ⟨j', hj', rfl⟩ := hu
   have hlt : j < m * sz := by have := (List.getElem?_eq_some_iff.1 hj').1; simpa using this
   rw [List.getElem?_range hlt] at hj'
   cases hj'
   obtain ⟨u, hu, _⟩ := hc j _ (List.getElem?_eq_getElem (by omega))
   rw [Kql, hu]; rfl
  ·intro u hu
   simp only [List.mem_map, List.mem_range] at hu
   obtain ⟨j, hj, rfl⟩ := hu
   obtain ⟨u, hu, hr⟩ := hc j _ (List.getElem?_eq_getElem (by omega))
   rw [hu]
   exact K95 (List.all_eq_true.1 h1 _ (List.getElem_mem _)) hr
  ·intro j x v hx hv
   simp only [List.getElem?_map, Option.map_eq_some_iff] at hv
   obtain ⟨j', hj', rfl⟩ := hv
   have hlt : j < m * sz := by have := (List.getElem?_eq_some_iff.1 hj').1; simpa using this
   rw [List.getElem?_range hlt] at hj'
   cases hj'
   obtain ⟨u, hu, hr⟩ := hc j x hx
   rw [hu]; exact hr
 unfold Wnd at h
 split at h
 ·rename_i e2 sz2 b of m'
  split at h <;> try (cases h; done)
  rename_i cs hb
  cases hl : Nat.ble (of + m' * sz) cs.length with
  | false => simp [hl] at h
  | true =>
   simp only [hl, cond_true, Option.some.injEq, Prod.mk.injEq] at h
   obtain ⟨rfl, rfl⟩ := h
   have hl' := Nat.le_of_ble_eq_true hl
   obtain ⟨k, c, cur0, hk, hc, hh0, hs0, rfl⟩ := hv
   obtain ⟨n1, n3, B, g4⟩ := hW.own b k hk
   have e := hC b _ _ hb g4
   subst e
   obtain ⟨n2, cur, T, g3, g5, g6⟩ := hW.hold b k cs hk g4
   refine ⟨_, _, rfl, fin k of (by simp; omega) fun j x hx => ?_⟩
   rw [List.getElem?_take] at hx
   split at hx <;> try (cases hx; done)
   rw [List.getElem?_drop] at hx
   have hlt : of + j < cur.size := by have := (List.getElem?_eq_some_iff.1 hx).1; omega
   exact ⟨cur[of + j], by simp [World.cell?, g3, hlt], g6 _ x _ hx (Array.getElem?_eq_getElem hlt)⟩
 ·rename_i sz' es
  cases hl : Nat.beq sz' sz with
  | false => simp [hl] at h
  | true =>
   have := Nat.eq_of_beq_eq_true hl
   subst this
   simp only [hl, cond_true, Option.some.injEq, Prod.mk.injEq] at h
   obtain ⟨rfl, rfl⟩ := h
   cases hv with
   | nil => simp at hm
   | lst hb hlt hcap hlen hc hr =>
    rename_i b off cp g
    have hflat : ∀ (es : W5i), (∀ e ∈ es, e.length = sz') → es.flatten.length = es.length * sz' ∧ ∀ j x, es.flatten[j]? = some x → ∃ e, es[j / sz']? = some e ∧ e[j % sz']? = some x := by
     intro es
     induction es with
     | nil => intro _; exact ⟨by simp, by simp⟩
     | cons e es ih =>
      intro he
      obtain ⟨l1, l2⟩ := ih (fun e he' => he e (by simp [he']))
      have hes := he e (by simp)
      refine ⟨by simp only [List.flatten_cons, List.length_append, List.length_cons, l1, hes, Nat.add_mul]; omega, ?_⟩
      intro j x hx
      rw [List.flatten_cons, List.getElem?_append] at hx
      split at hx
      ·rename_i hlt
       rw [hes] at hlt
       exact ⟨e, by rw [Nat.div_eq_of_lt hlt]; rfl, by rw [Nat.mod_eq_of_lt hlt]; exact hx⟩
      ·rename_i hge
       rw [hes] at hx hge
       obtain ⟨e', h1, h2⟩ := l2 _ x hx
       have e1 : j = (j - sz') + sz' := by omega
       refine ⟨e', ?_, ?_⟩
       ·rw [e1, Nat.add_div_right _ (by omega), List.getElem?_cons_succ]; exact h1
       ·rw [e1, Nat.add_mod_right]; exact h2
    obtain ⟨l1, l2⟩ := hflat es hlen
    refine ⟨_, _, rfl, fin b off l1 fun j x hx => ?_⟩
    obtain ⟨e, h3, h4⟩ := l2 j x hx
    refine ⟨g (j / sz') (j % sz'), ?_, hr _ _ e x h3 h4⟩
    have := hc _ _ e x h3 h4
    have hj := Nat.div_add_mod j sz'
    rw [Nat.mul_comm] at hj
    rw [show off + j = off + j / sz' * sz' + j % sz' by omega]
    exact this
 ·cases h
theorem Kxi {N : W42} {D : W41} {U : W42} {w : World} : Kei N D U w D U w.drew := ⟨fun _ _ h => h, fun _ h => h, fun _ _ => rfl, Nat.le_refl _, fun _ h => .inl h, fun _ _ cur _ _ _ h => ⟨cur, ⟨_, h⟩, rfl⟩⟩
theorem WRel.drew' {D : W41} {U : W42} {N : W42} {w0 w : World} {H : OH} (h : WRel D U N w0 H w) : WRel D U N w0 H w.drew :=
 ⟨h.below.drew, h.old, h.own, fun b k vs hb hH => by
  obtain ⟨g1, cs, T, g2, g3, g4⟩ := h.hold b k vs hb hH
  exact ⟨g1, cs, T, g2, g3, fun i x v e1 e2 => (g4 i x v e1 e2).keep (w := w) (w' := w.drew) (fun _ h => h) (fun _ _ => rfl) (Nat.le_refl _)⟩, fun b k vs hb hH => by
  obtain ⟨g1, cs, T, g2, g3, g4⟩ := h.holdm b k vs hb hH
  exact ⟨g1, cs, T, g2, g3, fun i x v e1 e2 => (g4 i x v e1 e2).onward (Kxi (N := N))⟩, fun b k vs hb hH => by
  obtain ⟨g1, es, cl, g2, g4⟩ := h.holdp b k vs hb hH
  exact ⟨g1, es, cl, g2, K9z.keep (w := w) (w' := w.drew) (fun _ h => h) (fun _ _ => rfl) (Nat.le_refl _) g4⟩, h.all, h.inj⟩
theorem WRel.give {D : W41} {U : W42} {N : W42} {w0 w : World} {H : OH} (h : WRel D U N w0 H w) (b : Nat) (hb : ∃ B, H[b]? = some (some B)) : WRel D U N w0 (H.set b (some .gone)) w := by
 obtain ⟨B0, hb0⟩ := hb
 have hbl : b < H.length := (List.getElem?_eq_some_iff.1 hb0).1
 have back : ∀ b' B, (H.set b (some .gone))[b']? = some (some B) → B.live = true → b' ≠ b ∧ H[b']? = some (some B) := by
  intro b' B hv hl
  by_cases e : b' = b
  ·subst e; simp [List.getElem?_set, hbl] at hv; subst hv; cases hl
  ·exact ⟨e, by rw [List.getElem?_set_ne (Ne.symm e)] at hv; exact hv⟩
 refine ⟨h.below, h.old, ?_, fun b' k vs hd hH => h.hold b' k vs hd (back b' _ hH rfl).2, fun b' k vs hd hH => h.holdm b' k vs hd (back b' _ hH rfl).2, fun b' k vs hd hH => h.holdp b' k vs hd (back b' _ hH rfl).2, ?_, fun b1 b2 k v1 v2 h1 h2 l1 l2 => h.inj b1 b2 k v1 v2 (back _ _ h1 l1).2 (back _ _ h2 l2).2 l1 l2⟩
 ·intro b' k hd
  obtain ⟨g1, g2, B, g3⟩ := h.own b' k hd
  refine ⟨g1, g2, ?_⟩
  by_cases e : b' = b
  ·subst e; exact ⟨.gone, by simp [List.getElem?_set, hbl]⟩
  ·exact ⟨B, by rw [List.getElem?_set_ne (Ne.symm e)]; exact g3⟩
 ·intro b' B hB
  by_cases e : b' = b
  ·subst e; exact h.all b' _ hb0
  ·rw [List.getElem?_set_ne (Ne.symm e)] at hB; exact h.all b' B hB
theorem K2b {P : Program} {o : Oper} {c : Call} (ho : o.op = .call c) (hc : c.callee = .builtin .append) {s x : Operand} {t : TypeId} (ha : c.args.toList = [s, x]) (ht : c.argTypes.toList = [t, t]) (a : Act) (w w' : World) {v : Value} (h : (Builtin.append_ #[t, t] o.type #[a.eval s, a.eval x]).run P w = .ok v w') :
  (execOp a.eval o).run P w = .ok (.value v) w' := by
 have h1 : c.args = #[s, x] := by have : c.args = c.args.toList.toArray := by simp
                                  rw [this, ha]
 have h2 : c.argTypes = #[t, t] := by have : c.argTypes = c.argTypes.toList.toArray := by simp
                                      rw [this, ht]
 simp [execOp, ho, resolve, hc, invoke, builtin, h1, h2, h]
theorem Wgv {P : Program} {I : W40} {D : W41} {U : W42} {N : W42} {w0 w : World} {H : OH} {id n cap sz : Nat} {e : TypeId} {cs : W5j} {vs : Array Value} (hW : WRel D U N w0 H w) (hN : Lt N w) (hid : D id = none) (hl : id ≤ H.length) (hn : n ≤ cap) (hsz : cap * sz ≤ vs.size)
  (h1 : cs.length ≤ vs.size) (h2 : ∀ (i : Nat) (x : DV) (v : Value), cs[i]? = some x → vs[i]? = some v → DRep U w x v) :
  Kei N D U w (updD D id w.heap.size) U (w.drew.alloc (.cells vs e)) ∧ WRel (updD D id w.heap.size) U N w0 ((Eff.new cs).app id H) (w.drew.alloc (.cells vs e)) ∧ VRep U (w.drew.alloc (.cells vs e)) (updD D id w.heap.size) (.osl e sz id 0 n) (.slice (some ⟨w.heap.size, 0, none⟩) n cap) := by
 have hd := hW.drew'
 exact ⟨Kxi.trans (Knz (w := w.drew) hW.old hid _), hd.new (w := w.drew) hN hid hl h1 (fun i x v e1 e2 => (h2 i x v e1 e2).keep (w := w) (w' := w.drew) (fun _ h => h) (fun _ _ => rfl) (Nat.le_refl _)),
  ⟨w.heap.size, cap, vs, by simp [updD], hn, ⟨_, Kol w.drew _⟩, by omega, rfl⟩⟩
theorem Wkd {H : OH} {x : VV} {sz m : Nat} {ns : W5j} (h : Wnd H x sz = some (ns, m)) (hm : m = 0) {U : W42} {w : World} {D : W41} {v : Value} (hv : VRep U w D x v) : ∃ ad cp, v = .slice ad 0 cp := by
 unfold Wnd at h
 split at h
 ·split at h <;> try (cases h; done)
  rename_i e2 sz2 b of m' _ cs hb
  cases hl : Nat.ble (of + m' * sz) cs.length with
  | false => simp [hl] at h
  | true =>
   simp only [hl, cond_true, Option.some.injEq, Prod.mk.injEq] at h
   obtain ⟨_, h2⟩ := h
   obtain ⟨kk, cap, cur, _, hcap, _, _, rfl⟩ := hv
   rw [h2, hm]
   exact ⟨_, _, rfl⟩
 ·rename_i sz' es
  cases hl : Nat.beq sz' sz with
  | false => simp [hl] at h
  | true =>
   simp only [hl, cond_true, Option.some.injEq, Prod.mk.injEq] at h
   obtain ⟨_, h2⟩ := h
   have hv' : DRep U w (.lst sz' es) v := hv
   cases hv' with
   | nil => exact ⟨_, _, rfl⟩
   | lst a1 a2 a3 a4 a5 a6 => rw [h2, hm]; exact ⟨_, _, rfl⟩
 ·cases h
theorem Why {P : Program} (w : World) (t ty e : TypeId) (i : TypeInfo) (ht : P.underlying t = some (.slice e)) (hi : P.info? e = some i) (base : Option Addr) (n cp : Nat) (hn : n ≤ cp) (ad : Option Addr) (cx : Nat) :
  (Builtin.append_ #[t, t] ty #[.slice base n cp, .slice ad 0 cx]).run P w = .ok (.slice base n cp) w := by
 have hf : (Builtin.firstCells i.size 0 (.slice ad 0 cx)).run P w = .ok #[] w := by
  cases ad with
  | none => rfl
  | some a => exact run_firstCells_some (P := P) w i.size 0 a 0 cx [] (by simp) (fun j v h => by simp at h)
 cases base with
 | none => simp [Builtin.append_, run_underlying ht, sizeOf, typeInfo, hi, Builtin.lenOf, hn, hf]
 | some b => simp [Builtin.append_, run_underlying ht, sizeOf, typeInfo, hi, Builtin.lenOf, hn, hf, storeCells]
theorem Wne {P : Program} {I : W40} {ρ : W44} {o : Oper} {c : Call} {H : OH} {id : Nat} (ho : o.op = .call c) (hc : c.callee = .builtin .append) : Good P I o ρ H id (K5d P ρ H id c) := by
 intro k r h
 unfold K5d at h
 split at h <;> try (cases h; done)
 rename_i s x t t' ha htl
 cases htt : Nat.beq t t' with
 | false => simp [htt] at h
 | true =>
 have htt' := Nat.eq_of_beq_eq_true htt
 subst htt'
 simp only [htt, cond_true] at h
 split at h <;> try (cases h; done)
 rename_i e hu
 split at h <;> try (cases h; done)
 rename_i i hi
 split at h <;> try (cases h; done)
 rename_i z hz
 cases hq : Nat.beq z.cells.size i.size && Nat.ble 1 i.size with
 | false => simp [hq] at h
 | true =>
 simp only [hq, cond_true] at h
 split at h <;> try (cases h; done)
 rename_i ns m hnews
 have hms : s ∈ o.op.operands := by
  rw [ho]; simp only [Op.operands, Call.operands]
  refine Array.mem_append.2 (.inr ?_)
  have : s ∈ c.args.toList := by rw [ha]; simp
  simpa using this
 have hmx : x ∈ o.op.operands := by
  rw [ho]; simp only [Op.operands, Call.operands]
  refine Array.mem_append.2 (.inr ?_)
  have : x ∈ c.args.toList := by rw [ha]; simp
  simpa using this
 cases hm0 : Nat.beq m 0 with
 | true =>
  have hm0' := Nat.eq_of_beq_eq_true hm0
  rw [hm0] at h
  simp only [cond_true] at h
  have zero : ∀ (y : VV), k y .none = some r → (∀ k', K5d P ρ H id c k' = k' y .none) → ρ s = y → (∀ (U : W42) (w : World) (D : W41) (v : Value), VRep U w D y v → ∃ base n cp, v = .slice base n cp ∧ n ≤ cp) → ∃ x eff, k x eff = some r ∧ (∀ k', K5d P ρ H id c k' = k' x eff) ∧ Wk4 P I o ρ H id x eff := by
   intro y hk hk' hs hsl
   refine ⟨y, .none, hk, hk', Kd4 fun D U w a hops => ?_⟩
   have h1 := hops s hms
   rw [hs] at h1
   obtain ⟨base, n, cp, hv, hn⟩ := hsl U w D _ h1
   obtain ⟨ad, cx, hvx⟩ := Wkd hnews hm0' (hops x hmx)
   refine ⟨a.eval s, ?_, h1⟩
   refine K2b ho hc ha htl a w w ?_
   rw [hv, hvx]
   exact Why (P := P) w t o.type e i hu hi base n cp hn ad cx
  split at h <;> try (cases h; done)
  ·rename_i e0 sz0 b of n hs
   exact zero _ h (fun k' => by simp only [K5d, ha, htl, htt, cond_true, hu, hi, hz, hq, hnews, hm0, hs]) hs (fun U w D v hv => by
    obtain ⟨kk, cap, cur, _, hcap, _, _, rfl⟩ := hv
    exact ⟨_, _, _, rfl, hcap⟩)
  ·rename_i hs
   exact zero _ h (fun k' => by simp only [K5d, ha, htl, htt, cond_true, hu, hi, hz, hq, hnews, hm0, hs]) hs (fun U w D v hv => by
    have := Ksd hv
    exact ⟨_, _, _, this, Nat.le_refl _⟩)
  ·rename_i s0 es0 hs
   exact zero _ h (fun k' => by simp only [K5d, ha, htl, htt, cond_true, hu, hi, hz, hq, hnews, hm0, hs]) hs (fun U w D v hv => by
    have hv' : DRep U w (.lst s0 es0) v := hv
    cases hv' with
    | nil => exact ⟨_, _, _, rfl, Nat.zero_le _⟩
    | lst a1 a2 a3 a4 a5 a6 => exact ⟨_, _, _, rfl, a3⟩)
 | false =>
 have hm1 : 1 ≤ m := by
  rcases Nat.eq_zero_or_pos m with e0 | e0
  ·subst e0; cases hm0
  ·exact e0
 rw [hm0] at h
 simp only [cond_false] at h
 cases hq2 : ns.all Kh0 with
 | false => simp [hq2] at h
 | true =>
 simp only [hq2, cond_true] at h
 have hq' := hq
 simp only [Bool.and_eq_true] at hq'
 have hq2' : (1 ≤ m) ∧ ns.all Kh0 = true := ⟨hm1, hq2⟩
 have z1 := Nat.eq_of_beq_eq_true hq'.1
 have z2 := Nat.le_of_ble_eq_true hq'.2
 have m1 := hm1
 split at h <;> try (cases h; done)
 ·rename_i e0 sz0 b n hs
  split at h <;> try (cases h; done)
  rename_i cs hb
  cases hq3 : Nat.beq e0 e && Nat.beq sz0 i.size && Nat.ble (n * i.size) cs.length && Nat.ble (n + m) maxLen && Nat.ble ((n + m) * i.bytes) 140737488355328 with
  | false => rw [hq3] at h; cases h
  | true =>
  have hq3' := hq3
  rw [hq3] at h
  simp only [cond_true] at h
  refine ⟨_, _, h, fun k' => by simp only [K5d, ha, htl, htt, cond_true, hu, hi, hz, hq, hnews, hm0, cond_false, hq2, hs, hb, hq3], ?_⟩
  simp only [Bool.and_eq_true] at hq3'
  obtain ⟨⟨⟨⟨q1, q2⟩, q3⟩, q4⟩, q5⟩ := hq3'
  have q1' := Nat.eq_of_beq_eq_true q1
  have q2' := Nat.eq_of_beq_eq_true q2
  have q3' := Nat.le_of_ble_eq_true q3
  have q4' := Nat.le_of_ble_eq_true q4
  have q5' := Nat.le_of_ble_eq_true q5
  subst q1'
  subst q2'
  intro D U N w0 H' w a next Q hI hC hW hN hid hl hops hn
  have hvs := hops s hms
  rw [hs] at hvs
  obtain ⟨kk, cap, cur, hk, hcap, hh0, hs0, hvs⟩ := hvs
  obtain ⟨n1, n3, B, g4⟩ := hW.own b kk hk
  have eB := hC b _ _ hb g4
  subst eB
  obtain ⟨n2, cur1, T, g3, g5, g6⟩ := hW.hold b kk cs hk g4
  obtain ⟨f0, hh0⟩ := hh0
  rw [hh0] at g3
  cases g3
  obtain ⟨ad, cp, hvx, news, l1, l2, hcells, hone, hrep⟩ := Wdi hnews m1 z2 hq2'.2 hW hC (hops x hmx)
  have hbl : b < H'.length := (List.getElem?_eq_some_iff.1 g4).1
  have hbid : b ≠ id := fun e => by rw [e, hid] at hk; cases hk
  have hgive := hW.give b ⟨_, g4⟩
  have hsetl : (H'.set b (some Blk.gone)).length = H'.length := by simp
  have htk : ∀ (j : Nat) (x : DV), (cs.take (n * i.size))[j]? = some x → ∃ u, cur[j]? = some u ∧ DRep U w x u := by
   intro j x hx
   rw [List.getElem?_take] at hx
   split at hx <;> try (cases hx; done)
   have hlt : j < cur.size := by have := (List.getElem?_eq_some_iff.1 hx).1; omega
   exact ⟨cur[j], Array.getElem?_eq_getElem hlt, g6 j x _ hx (Array.getElem?_eq_getElem hlt)⟩
  have hnc : n * i.size ≤ cap * i.size := Nat.mul_le_mul_right _ hcap
  unfold Oper.wp
  by_cases hroom : n + m ≤ cap
  ·have hmul : (n + m) * i.size ≤ cap * i.size := Nat.mul_le_mul_right _ hroom
   rw [Nat.add_mul] at hmul
   have hfit : n * i.size + news.length ≤ cur.size := by rw [l1]; omega
   have hr := run_append_room (P := P) w t o.type e0 i hu hi kk n cap cur hh0 ad m cp news l1 hcells hone hroom hfit
   rw [K2b ho hc ha htl a w _ (by rw [hvs, hvx]; exact hr)]
   generalize hrow : (cur.toList.take (n * i.size) ++ news ++ cur.toList.drop (n * i.size + news.length)).toArray = row
   have hrs : row.size = cur.size := by rw [← hrow]; simp; omega
   have hon0 := Kqm (N := N) (D := D) (w := w) n2 row (fun c T' f h => by rw [hh0] at h; cases h; exact hrs)
   have hon : Kei N D U w (updD D id kk) U (w.setRow kk row) :=
    ⟨fun b' k' hb' => by simp only [updD]; split; · subst_vars; rw [hid] at hb'; cases hb'
                         ·exact hb', hon0.set, hon0.keep, hon0.size, hon0.back, hon0.siz⟩
   refine hn _ _ _ _ hon ?_ (fun b' hb' hne => by simp [updD, hne, hb']) ⟨kk, cap, row, by simp [updD], hroom, ⟨_, setRow_heap w kk cur row e0 _ hh0⟩, by rw [hrs]; exact hs0, rfl⟩
   refine WRel.add (H1 := H'.set b (some .gone)) hgive hon (K4r hW.below n1 _) n1 hid (by rw [hsetl]; exact hl) (setRow_heap w kk cur row e0 _ hh0) n2 (fun b' _ => .inl rfl) ?_ ?_ ?_
   ·intro b' j us hb' hH' hv'
    have hne : b' ≠ b := by
     intro e; subst e; simp [List.getElem?_set, hbl] at hH'; subst hH'; cases hv'
    rw [List.getElem?_set_ne (Ne.symm hne)] at hH'
    have hjk : j ≠ kk := fun e => hne (hW.inj b' b kk us _ hH' g4 hv' rfl (e ▸ hb') hk)
    exact ⟨hjk, setRow_other w kk j row hjk⟩
   ·rw [hrs]; simp [l2]; omega
   ·intro j x v e1 e2
    rw [← hrow] at e2
    simp only [List.getElem?_toArray] at e2
    have lt1 : (cs.take (n * i.size)).length = n * i.size := by simp; omega
    have lt2 : (cur.toList.take (n * i.size)).length = n * i.size := by simp; omega
    rw [List.append_assoc, List.getElem?_append, lt2] at e2
    rw [List.getElem?_append, lt1] at e1
    split at e1
    ·rename_i hlt
     rw [if_pos hlt] at e2
     obtain ⟨u, hu', hr'⟩ := htk j x e1
     rw [List.getElem?_take, if_pos hlt] at e2
     have : u = v := by
      have e3 : cur[j]? = some v := by simpa using e2
      rw [hu'] at e3; simpa using e3
     rw [← this]
     exact hr'.keep hon.set hon.keep hon.size
    ·rename_i hlt
     rw [if_neg hlt] at e2
     have hj : j - n * i.size < news.length := by have := (List.getElem?_eq_some_iff.1 e1).1; omega
     rw [List.getElem?_append_left hj] at e2
     exact (hrep _ x v e1 e2).keep hon.set hon.keep hon.size
  ·have holds : ∀ j u, (cur.toList.take (n * i.size))[j]? = some u → w.cell? ((⟨kk, 0, none⟩ : Addr).add j) = some u := by
    intro j u hu'
    rw [List.getElem?_take] at hu'
    split at hu' <;> try (cases hu'; done)
    have e3 : cur[j]? = some u := by simpa using hu'
    rw [Kql, Nat.zero_add]
    simp [World.cell?, hh0, e3]
   have hlo : (cur.toList.take (n * i.size)).length = n * i.size := by simp; omega
   have hge := grownCap_ge w (n + m) cap e0
   have hr := run_append_grow (P := P) w t o.type e0 i z hu hi hz ⟨kk, 0, none⟩ n cap _ hlo holds ad m cp news l1 hcells (by omega) (by simp only [maxLen] at q4'; omega) (growslice_fits (by omega) q5')
   rw [K2b ho hc ha htl a w _ (by rw [hvs, hvx]; exact hr)]
   generalize hrow : ((cur.toList.take (n * i.size)).toArray ++ news.toArray ++ Builtin.zeroCells z.cells (grownCap w (n + m) cap e0 - (n + m))) = row
   have hrs : row.size = grownCap w (n + m) cap e0 * i.size := by
    rw [← hrow]
    simp only [Array.size_append, List.size_toArray, size_zeroCells, hlo, l1, z1, ← Nat.add_mul]
    congr 1; omega
   have hmul : (n + m) * i.size ≤ grownCap w (n + m) cap e0 * i.size := Nat.mul_le_mul_right _ hge
   rw [Nat.add_mul] at hmul
   obtain ⟨r1, r2, r3⟩ := Wgv (P := P) (I := I) (id := id) (n := n + m) (cap := grownCap w (n + m) cap e0) (sz := i.size) (e := e0) (cs := cs.take (n * i.size) ++ ns) (vs := row) hgive hN hid (by rw [hsetl]; exact hl) hge (by rw [hrs]; exact Nat.le_refl _) (by rw [hrs]; simp [l2]; omega) (by
    intro j x v e1 e2
    rw [← hrow, ← Array.getElem?_toList] at e2
    simp only [Array.toList_append, List.append_assoc] at e2
    have lt1 : (cs.take (n * i.size)).length = n * i.size := by simp; omega
    rw [List.getElem?_append, hlo] at e2
    rw [List.getElem?_append, lt1] at e1
    split at e1
    ·rename_i hlt
     rw [if_pos hlt] at e2
     obtain ⟨u, hu', hr'⟩ := htk j x e1
     rw [List.getElem?_take, if_pos hlt] at e2
     have : u = v := by
      have e3 : cur[j]? = some v := by simpa using e2
      rw [hu'] at e3; simpa using e3
     rw [← this]
     exact hr'
    ·rename_i hlt
     rw [if_neg hlt] at e2
     have hj : j - n * i.size < news.length := by have := (List.getElem?_eq_some_iff.1 e1).1; omega
     rw [List.getElem?_append_left hj] at e2
     exact hrep _ x v e1 e2)
   exact hn _ _ _ _ r1 r2 (fun b' hb' hne => by simp [updD, hne, hb']) r3
 ·rename_i hs
  cases hq3 : Nat.ble m maxLen && Nat.ble (m * i.bytes) 140737488355328 with
  | false => rw [hq3] at h; cases h
  | true =>
  have hq3' := hq3
  rw [hq3] at h
  simp only [cond_true] at h
  refine ⟨_, _, h, fun k' => by simp only [K5d, ha, htl, htt, cond_true, hu, hi, hz, hq, hnews, hm0, cond_false, hq2, hs, hq3], ?_⟩
  simp only [Bool.and_eq_true] at hq3'
  have q4' := Nat.le_of_ble_eq_true hq3'.1
  have q5' := Nat.le_of_ble_eq_true hq3'.2
  intro D U N w0 H' w a next Q hI hC hW hN hid hl hops hn
  have hvs := hops s hms
  rw [hs] at hvs
  have hvs' := Ksd hvs
  obtain ⟨ad, cp, hvx, news, l1, l2, hcells, hone, hrep⟩ := Wdi hnews m1 z2 hq2'.2 hW hC (hops x hmx)
  have hge := grownCap_ge w m 0 e
  have hr := run_append_nil (P := P) w t o.type e i z hu hi hz ad m cp news l1 hcells (by omega) (by simp only [maxLen] at q4'; omega) (by omega)
  unfold Oper.wp
  rw [K2b ho hc ha htl a w _ (by rw [hvs', hvx]; exact hr)]
  generalize hrow : (news.toArray ++ Builtin.zeroCells z.cells (grownCap w m 0 e - m)) = row
  have hrs : row.size = grownCap w m 0 e * i.size := by
   rw [← hrow]
   simp only [Array.size_append, List.size_toArray, size_zeroCells, l1, z1, ← Nat.add_mul]
   congr 1; omega
  have hmul : m * i.size ≤ grownCap w m 0 e * i.size := Nat.mul_le_mul_right _ hge
  obtain ⟨r1, r2, r3⟩ := Wgv (P := P) (I := I) (id := id) (n := m) (cap := grownCap w m 0 e) (sz := i.size) (e := e) (cs := ns) (vs := row) hW hN hid hl hge (by rw [hrs]; exact Nat.le_refl _) (by rw [hrs]; omega) (by
   intro j x v e1 e2
   rw [← hrow, ← Array.getElem?_toList] at e2
   simp only [Array.toList_append] at e2
   have hj : j < news.length := by have := (List.getElem?_eq_some_iff.1 e1).1; omega
   rw [List.getElem?_append_left hj] at e2
   exact hrep _ x v e1 e2)
  exact hn _ _ _ _ r1 r2 (fun b' hb' hne => by simp [updD, hne, hb']) r3
end Go.Pv
namespace Go.Pv
open Go Go.RowKit
def Whz (ns : W5j) : ByteArray := (ns.map asI).foldl (fun r n => r.push (UInt8.ofNat n.toNat)) ByteArray.empty
def Wss (P : Program) (ρ : W44) (H : OH) (S T : TypeId) (x : Operand) (k : KK) : Option DV :=
 match P.underlying S, P.underlying T with
 | some (.slice e), some .string => match P.underlying e with
  | some (.int .u8) => match Wnd H (ρ x) 1 with
   | some (ns, m) => bif Nat.beq m 0 then k (.dv (.val (.string ⟨#[]⟩))) .none else bif ns.all (isI .u8) && Nat.beq ns.length m then k (.dv (.val (.string (Whz ns)))) .none else none
   | none => none
  | _ => none
 | _, _ => none
theorem Wz6 {kd : IntKind} {d : DV} (h : isI kd d = true) : Kh0 d = true := by
 rw [Wq9 h]; rfl
theorem Wst {P : Program} {I : W40} {ρ : W44} {o : Oper} {S T : TypeId} {x : Operand} {H : OH} {id : Nat} (ho : o.op = .convert S T x) : Good P I o ρ H id (Wss P ρ H S T x) := by
 intro k r h
 unfold Wss at h
 split at h <;> try (cases h; done)
 rename_i e hS hT
 split at h <;> try (cases h; done)
 rename_i he
 split at h <;> try (cases h; done)
 rename_i ns m hn
 have hx : x ∈ o.op.operands := by simp [ho, Op.operands]
 have hconv : ∀ (a : Act) (w : World) (s : ByteArray) (ad : Option Addr) (n c : Nat), a.eval x = .slice ad n c → (Conv.bytesToString (.slice ad n c)).run P w = .ok (.string s) w → (execOp a.eval o).run P w = .ok (.value (.string s)) w := by
  intro a w s ad n c hv hs
  have := run_convert_bytes_string (P := P) w S T e ad n c hS he hT
  rw [hs] at this
  simp only [execOp, ho, hv, Sem.run_bind, this, Result.andThen_ok, Sem.run_pure]
 cases hm : Nat.beq m 0 with
 | true =>
  have hm0 := Nat.eq_of_beq_eq_true hm
  rw [hm] at h
  simp only [cond_true] at h
  refine ⟨_, _, h, fun k' => by simp only [Wss, hS, hT, he, hn, hm, cond_true], ?_⟩
  intro D U N w0 H' w a next Q hI hC hW hN hid hl hops hk
  obtain ⟨ad, cp, hv⟩ := Wkd hn hm0 (hops x hx)
  unfold Oper.wp
  rw [hconv a w ⟨#[]⟩ ad 0 cp hv (by cases ad with
   | none => rfl
   | some b => exact run_bytesToString w b 0 cp [] (by have := run_firstCells_some (P := P) w 1 0 b 0 cp [] (by simp) (fun j v h => by simp at h); simpa [Builtin.firstCells] using this))]
  exact hk _ w D U Kei.refl hW (fun _ h _ => h) (DRep.val _)
 | false =>
  rw [hm] at h
  simp only [cond_false] at h
  cases hq : ns.all (isI .u8) && Nat.beq ns.length m with
  | false => rw [hq] at h; cases h
  | true =>
   rw [hq] at h
   simp only [cond_true] at h
   refine ⟨_, _, h, fun k' => by simp only [Wss, hS, hT, he, hn, hm, hq, cond_false, cond_true], ?_⟩
   rw [Bool.and_eq_true] at hq
   have hall := hq.1
   have hm1 : 1 ≤ m := by
    rcases Nat.eq_zero_or_pos m with e0 | e0
    ·subst e0; cases hm
    ·exact e0
   have hone : ns.all Kh0 = true := List.all_eq_true.2 fun d hd => Wz6 (List.all_eq_true.1 hall d hd)
   intro D U N w0 H' w a next Q hI hC hW hN hid hl hops hk
   obtain ⟨ad, cp, hv, news, l1, l2, hcells, _, hrep⟩ := Wdi hn hm1 (Nat.le_refl 1) hone hW hC (hops x hx)
   have hnews : news = (ns.map asI).map (Value.int .u8) := by
    apply List.ext_getElem?
    intro i
    by_cases hi : i < ns.length
    ·have hin : i < news.length := by omega
     have hd := hrep i ns[i] news[i] (List.getElem?_eq_getElem hi) (List.getElem?_eq_getElem hin)
     have hisI := Wq9 (List.all_eq_true.1 hall ns[i] (List.getElem_mem _))
     rw [hisI] at hd
     have := Ksd hd
     simp [hi, hin, this]
    ·rw [List.getElem?_eq_none (by omega), List.getElem?_eq_none (by simpa using hi)]
   have hload : (loadCells ad m).run P w = .ok ((ns.map asI).map (Value.int .u8)).toArray w := by
    have := run_firstCells_some (P := P) w 1 m ad m cp news l1 hcells
    rw [hnews] at this
    simpa [Builtin.firstCells] using this
   unfold Oper.wp
   rw [hconv a w (Whz ns) (some ad) m cp hv (run_bytesToString w ad m cp _ hload)]
   exact hk _ w D U Kei.refl hW (fun _ h _ => h) (DRep.val _)
end Go.Pv
namespace Go.Pv
open Go Go.RowKit
theorem Wnf {P : Program} (w : World) (dT sT ty elem : TypeId) (i : TypeInfo) (g o dLen dCap : Nat) (a : Addr) (sLen sCap : Nat) (cur : Array Value) (t : TypeId) (cs : List Value)
  (hu : P.underlying dT = some (.slice elem)) (hi : P.info? elem = some i)
  (hg : w.heap[g]? = some (.cells cur t (0, 0))) (hn : cs.length = Nat.min sLen dLen * i.size)
  (hsrc : ∀ j v, cs[j]? = some v → w.cell? (a.add j) = some v) (hfit : o + cs.length ≤ cur.size) (h1 : ∀ v ∈ cs, v.oneCell' = true) :
  (Builtin.copy_ #[dT, sT] ty #[.slice (some ⟨g, o, none⟩) dLen dCap, .slice (some a) sLen sCap]).run P w =
   .ok (goInt (Nat.min sLen dLen)) (w.setRow g (cur.toList.take o ++ cs ++ cur.toList.drop (o + cs.length)).toArray) := by
 have hl := run_loadCells_list (P := P) w a cs hsrc
 have hst := run_storeCells_at P g o t cs 0 cur w hg (by simpa using hfit) h1
 simp [Builtin.copy_, run_underlying hu, Builtin.lenOf, Builtin.firstCells, sizeOf, typeInfo, hi, ← hn, hl, hst]
theorem Wsu {U : W42} {w : World} {cs ns : W5j} {cur news : List Value} {of : Nat} (h1 : of + ns.length ≤ cs.length) (h2 : cs.length ≤ cur.length) (h3 : news.length = ns.length)
  (hc : ∀ (i : Nat) (x : DV) (v : Value), cs[i]? = some x → cur[i]? = some v → DRep U w x v) (hn : ∀ (i : Nat) (x : DV) (v : Value), ns[i]? = some x → news[i]? = some v → DRep U w x v) :
  ∀ (i : Nat) (x : DV) (v : Value), (cs.take of ++ ns ++ cs.drop (of + ns.length))[i]? = some x → (cur.take of ++ news ++ cur.drop (of + news.length))[i]? = some v → DRep U w x v := by
 intro i x v e1 e2
 have l1 : (cs.take of).length = of := by simp; omega
 have l2 : (cur.take of).length = of := by simp; omega
 rw [List.append_assoc, List.getElem?_append, l1] at e1
 rw [List.append_assoc, List.getElem?_append, l2] at e2
 by_cases hi : i < of
 ·simp only [hi, if_true] at e1 e2
  rw [List.getElem?_take] at e1 e2
  simp only [hi, if_true] at e1 e2
  exact hc i x v e1 e2
 ·simp only [hi, if_false] at e1 e2
  rw [List.getElem?_append] at e1 e2
  rw [h3] at e2
  by_cases hj : i - of < ns.length
  ·simp only [hj, if_true] at e1 e2
   exact hn _ x v e1 e2
  ·simp only [hj, if_false] at e1 e2
   rw [List.getElem?_drop] at e1 e2
   exact hc _ x v e1 e2
def Wxl (P : Program) (ρ : W44) (H : OH) (c : Call) (k : KK) : Option DV :=
 match c.args.toList, c.argTypes.toList with
 | [s, x], [t, _] => match P.underlying t with
  | some (.slice e) => match P.info? e with
   | some i => match ρ s with
    | .osl _ sz0 b of n => match H[b]? with
     | some (some (.cells cs)) => match Wnd H (ρ x) i.size with
      | some (ns, m) => bif Nat.ble 1 m && Nat.ble 1 i.size && ns.all Kh0 && Nat.beq sz0 i.size && Nat.ble (of + n * i.size) cs.length then k (.dv (.val (.int .i64 (Nat.min m n : Nat)))) (.upd b (cs.take of ++ ns.take (Nat.min m n * i.size) ++ cs.drop (of + Nat.min m n * i.size))) else none
      | none => none
     | _ => none
    | _ => none
   | none => none
  | _ => none
 | _, _ => none
theorem Wsv {P : Program} {I : W40} {ρ : W44} {o : Oper} {c : Call} {H : OH} {id : Nat} (ho : o.op = .call c) (hc : c.callee = .builtin .copy) : Good P I o ρ H id (Wxl P ρ H c) := by
 intro k r h
 unfold Wxl at h
 split at h <;> try (cases h; done)
 rename_i s x t t' ha ht
 split at h <;> try (cases h; done)
 rename_i e hu
 split at h <;> try (cases h; done)
 rename_i i hi
 split at h <;> try (cases h; done)
 rename_i e0 sz0 b of n hs
 split at h <;> try (cases h; done)
 rename_i cs hb
 split at h <;> try (cases h; done)
 rename_i ns m hnews
 cases hq : Nat.ble 1 m && Nat.ble 1 i.size && ns.all Kh0 && Nat.beq sz0 i.size && Nat.ble (of + n * i.size) cs.length with
 | false => rw [hq] at h; cases h
 | true =>
  have hq0 := hq
  rw [hq] at h
  simp only [cond_true] at h
  simp only [Bool.and_eq_true] at hq
  obtain ⟨⟨⟨⟨q1, q2⟩, q3⟩, q4⟩, q5⟩ := hq
  have q1 := Nat.le_of_ble_eq_true q1
  have q2 := Nat.le_of_ble_eq_true q2
  have q4 := Nat.eq_of_beq_eq_true q4
  have q5 := Nat.le_of_ble_eq_true q5
  have a1 : c.args = #[s, x] := by have : c.args = c.args.toList.toArray := by simp
                                   rw [this, ha]
  have a2 : c.argTypes = #[t, t'] := by have : c.argTypes = c.argTypes.toList.toArray := by simp
                                        rw [this, ht]
  refine ⟨_, _, h, fun k' => by simp only [Wxl, ha, ht, hu, hi, hs, hb, hnews, hq0, cond_true], ?_⟩
  intro D U N w0 H' w a next Q hI hC hW hN hid hl hops hn
  have hops : ∀ y, y ∈ #[s, x] → VRep U w D (ρ y) (a.eval y) := fun y hy => hops y (by rw [ho]; simp only [Op.operands, Call.operands, hc, a1]; simpa using hy)
  have hvs := hops s (by simp)
  have hvx := hops x (by simp)
  rw [hs] at hvs
  obtain ⟨kk, cap, cur, hk, hcap, hh0, hs0, hvs⟩ := hvs
  obtain ⟨n1, n3, B, g4⟩ := hW.own b kk hk
  have e := hC b _ _ hb g4
  subst e
  obtain ⟨n2, cur', T, g3, g5, g6⟩ := hW.hold b kk cs hk g4
  obtain ⟨f0, hh0⟩ := hh0
  rw [hh0] at g3
  cases g3
  obtain ⟨ad, cp, hvx', news, l1, l2, hcells, hone, hrep⟩ := Wdi hnews q1 q2 q3 hW hC hvx
  obtain ⟨c0, hmn⟩ : ∃ c0, Nat.min m n = c0 := ⟨_, rfl⟩
  simp only [hmn] at hn
  have hcm : c0 ≤ m := by rw [← hmn]; exact Nat.min_le_left _ _
  have hcn : c0 ≤ n := by rw [← hmn]; exact Nat.min_le_right _ _
  have hm1 : c0 * i.size ≤ m * i.size := Nat.mul_le_mul_right _ hcm
  have hm2 : c0 * i.size ≤ n * i.size := Nat.mul_le_mul_right _ hcn
  have hm3 : n * i.size ≤ cap * i.size := Nat.mul_le_mul_right _ hcap
  rw [q4] at hs0
  have ln : (news.take (c0 * i.size)).length = c0 * i.size := by simp; omega
  have lns : (ns.take (c0 * i.size)).length = c0 * i.size := by simp; omega
  have hrun := Wnf (P := P) w t t' o.type e i kk of n cap ad m cp cur e0 (news.take (c0 * i.size)) hu hi hh0 (by rw [ln, hmn])
   (fun j v hj => hcells j v (by rw [List.getElem?_take] at hj; split at hj; exact hj; cases hj)) (by rw [ln]; omega) (fun v hv => hone v (List.mem_of_mem_take hv))
  rw [hmn] at hrun
  have hex : (execOp a.eval o).run P w = .ok (.value (goInt c0)) (w.setRow kk (cur.toList.take of ++ news.take (c0 * i.size) ++ cur.toList.drop (of + (news.take (c0 * i.size)).length)).toArray) := by
   simp [execOp, ho, resolve, hc, invoke, builtin, a1, a2, hvs, hvx', hrun]
  unfold Oper.wp
  rw [hex]
  have hsz : (cur.toList.take of ++ news.take (c0 * i.size) ++ cur.toList.drop (of + (news.take (c0 * i.size)).length)).toArray.size = cur.size := by simp [ln]; omega
  refine hn _ _ D U (Kqm n2 _ (fun c T' f h => by rw [hh0] at h; cases h; exact hsz)) ?_ (fun _ h _ => h) (.val _)
  refine hW.upd hk g4 hh0 hsz (by rw [hsz]; simp; omega) ?_
  intro j x' v' e1 e2
  simp only [List.getElem?_toArray] at e2
  have := Wsu (U := U) (w := w) (cs := cs) (ns := ns.take (c0 * i.size)) (cur := cur.toList) (news := news.take (c0 * i.size)) (of := of) (by rw [lns]; omega) (by simpa using g5) (by rw [ln, lns])
   (fun i x v h1 h2 => g6 i x v h1 (by simpa using h2)) (fun i x v h1 h2 => by
    rw [List.getElem?_take] at h1 h2
    split at h1 <;> try (cases h1; done)
    rename_i hlt
    rw [if_pos hlt] at h2
    exact hrep i x v h1 h2) j x' v' (by rw [lns]; exact e1) e2
  exact this
end Go.Pv
end
