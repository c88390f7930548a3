/-
  A reading of Go code as plain functions: a run over virtual values, and that what it tells is what the code does.
-/
import Derived.Test.YtdfhakhapblhgaaPwB
import Derived.Laws.AppendOwn
set_option linter.all false
namespace Go.Pv
open Go Go.RowKit

/-- What is handed on does not hang on what is done with it. -/
def Nat1 {X : Type} (f : (X → Option DV) → Option DV) : Prop := ∀ k r, f k = some r → ∃ x, k x = some r ∧ ∀ k', f k' = k' x
def Nat2 {X Y : Type} (f : (X → Y → Option DV) → Option DV) : Prop := ∀ k r, f k = some r → ∃ x y, k x y = some r ∧ ∀ k', f k' = k' x y
end Go.Pv
namespace Go.Pv
open Go Go.RowKit

/-- Readings of loops, by their first region. -/
abbrev LTab := Nat → Option (St → KC → Option DV)
def lookL (L : LTab) (b : Code) : Option (St → KC → Option DV) := match firstReg b with | some i => L i | none => none
def noL : LTab := fun _ => none
def ltab : List (Nat × (St → KC → Option DV)) → LTab
  | [], _ => none
  | (h, R) :: l, i => bif Nat.beq i h then some R else ltab l i
def RGood (M : Nat) (P : Program) (I : World → Prop) (b : Code) (R : St → KC → Option DV) : Prop := (∀ s k r, R s k = some r → Sound M P I (.loop b) s k r) ∧ ∀ s, Nat2 (R s)
/-- The loops of a code. -/
def loopsOf : Code → List Code
  | .seq a b => loopsOf a ++ loopsOf b
  | .cond _ a b => loopsOf a ++ loopsOf b
  | .block _ b => loopsOf b
  | .loop b => b :: loopsOf b
  | _ => []
def LGood (M : Nat) (P : Program) (I : World → Prop) (L : LTab) (c : Code) : Prop := ∀ b ∈ loopsOf c, ∀ R, lookL L b = some R → RGood M P I b R
theorem LGood.none {M : Nat} (P : Program) (I : World → Prop) (c : Code) : LGood M P I noL c := by
  intro b _ R h
  unfold lookL noL at h
  split at h <;> cases h
theorem LGood.left {M : Nat} {P : Program} {I : World → Prop} {L : LTab} {a b : Code} (h : LGood M P I L (.seq a b)) : LGood M P I L a := fun x hx => h x (by simp [loopsOf, hx])
theorem LGood.right {M : Nat} {P : Program} {I : World → Prop} {L : LTab} {a b : Code} (h : LGood M P I L (.seq a b)) : LGood M P I L b := fun x hx => h x (by simp [loopsOf, hx])
theorem LGood.yes {M : Nat} {P : Program} {I : World → Prop} {L : LTab} {o : Operand} {a b : Code} (h : LGood M P I L (.cond o a b)) : LGood M P I L a := fun x hx => h x (by simp [loopsOf, hx])
theorem LGood.no {M : Nat} {P : Program} {I : World → Prop} {L : LTab} {o : Operand} {a b : Code} (h : LGood M P I L (.cond o a b)) : LGood M P I L b := fun x hx => h x (by simp [loopsOf, hx])
theorem LGood.block {M : Nat} {P : Program} {I : World → Prop} {L : LTab} {i : Nat} {b : Code} (h : LGood M P I L (.block i b)) : LGood M P I L b := fun x hx => h x (by simp [loopsOf, hx])
theorem LGood.body {M : Nat} {P : Program} {I : World → Prop} {L : LTab} {b : Code} (h : LGood M P I L (.loop b)) : LGood M P I L b := fun x hx => h x (by simp [loopsOf, hx])
theorem LGood.here {M : Nat} {P : Program} {I : World → Prop} {L : LTab} {b : Code} (h : LGood M P I L (.loop b)) {R : St → KC → Option DV} (hR : lookL L b = some R) : RGood M P I b R := h b (by simp [loopsOf]) R hR
theorem lgood_nil {M : Nat} {P : Program} {I : World → Prop} {L : LTab} : ∀ b ∈ ([] : List Code), ∀ R, lookL L b = some R → RGood M P I b R := by intro b h; cases h
theorem lgood_cons {M : Nat} {P : Program} {I : World → Prop} {L : LTab} {b : Code} {l : List Code} {R : St → KC → Option DV} (h1 : lookL L b = some R) (h2 : RGood M P I b R) (h3 : ∀ b ∈ l, ∀ R, lookL L b = some R → RGood M P I b R) : ∀ x ∈ b :: l, ∀ R, lookL L x = some R → RGood M P I x R := by
  intro x hx R' hR'
  rcases List.mem_cons.1 hx with rfl | hx
  · rw [h1] at hR'; cases hR'; exact h2
  · exact h3 x hx R' hR'
theorem lgood_skip {M : Nat} {P : Program} {I : World → Prop} {L : LTab} {b : Code} {l : List Code} (h1 : lookL L b = none) (h3 : ∀ b ∈ l, ∀ R, lookL L b = some R → RGood M P I b R) : ∀ x ∈ b :: l, ∀ R, lookL L x = some R → RGood M P I x R := by
  intro x hx R' hR'
  rcases List.mem_cons.1 hx with rfl | hx
  · rw [h1] at hR'; cases hR'
  · exact h3 x hx R' hR'

/-- Behind less that is known. -/
def SLe (s s' : St) : Prop := Le s.tmps s'.tmps ∧ s'.n = s.n ∧ s'.heap = s.heap
theorem sound_le {M : Nat} {P : Program} {I : World → Prop} {c : Code} {s s' : St} {k : KC} {r : DV} (h : SLe s s') (hs : Sound M P I c s' k r) : Sound M P I c s k r := by
  intro D U N w0 a w Q hR hQ
  refine hs D U N w0 a w Q ⟨?_, ?_, hR.n, hR.i0⟩ hQ
  · rw [h.2.1]; exact hR.t.le h.1
  · rw [h.2.2]; exact hR.wr
/-- The blocks of the live slots, in the order of these. -/
noncomputable def packIds0 (ts : Tr) : List Nat → List Nat → List Nat
  | [], acc => acc
  | i :: is, acc => packIds0 ts is (addIds (refsV (ts.get i)) acc)
noncomputable def packIds (m : Nat) (ts : Tr) (H : List (Option Blk)) (live : List Nat) : List Nat := List.range m ++ liveIds H ((closeIds H 40 0 (packIds0 ts live (List.range m))).drop m)
noncomputable def packT (ts : Tr) (ids : List Nat) : List Nat → Tr → Tr
  | [], acc => acc
  | i :: is, acc => packT ts ids is (acc.put i (packV ids (ts.get i)))
noncomputable def packTK (ts : Tr) (ids : List Nat) : List Nat → Tr → (Tr → Option DV) → Option DV
  | [], acc, k => k acc
  | i :: is, acc, k => putC 12 acc i (packV ids (ts.get i)) fun acc' => packTK ts ids is acc' k
theorem packTK_eq (ts : Tr) (ids : List Nat) : ∀ (is : List Nat) (acc : Tr) (k : Tr → Option DV), packTK ts ids is acc k = k (packT ts ids is acc)
  | [], _, _ => rfl
  | i :: is, acc, k => by
    simp only [packTK, packT]
    rw [putC_eq]
    exact packTK_eq ts ids is _ k
noncomputable def packS (m : Nat) (live : List Nat) (s : St) : St := ⟨packT s.tmps (packIds m s.tmps s.heap live) live (.leaf .dead), s.n, packH s.heap (packIds m s.tmps s.heap live)⟩
noncomputable def frcN {R : Type} (l : List Nat) : (List Nat → R) → R :=
  List.rec (motive := fun _ => (List Nat → R) → R) (fun k => k []) (fun x _ ih k => ih fun ys => k (x :: ys)) l
theorem frcN_eq {R : Type} : ∀ (l : List Nat) (k : List Nat → R), frcN l k = k l
  | [], _ => rfl
  | x :: xs, k => frcN_eq xs (fun ys => k (x :: ys))
noncomputable def packK (m : Nat) (live : List Nat) (s : St) (k : St → Option DV) : Option DV := match s with
  | ⟨ts, n, h⟩ => frcN (packIds m ts h live) fun ids => packTK ts ids live (.leaf .dead) fun ts => frc (packH h ids) fun h => k ⟨ts, n, h⟩
theorem packK_eq (m : Nat) (live : List Nat) (s : St) (k : St → Option DV) : packK m live s k = k (packS m live s) := by
  cases s
  unfold packK packS
  simp only [packTK_eq, frc_eq, frcN_eq]
theorem packIds0_nodup (ts : Tr) : ∀ (is acc : List Nat), acc.Nodup → (packIds0 ts is acc).Nodup
  | [], acc, h => h
  | i :: is, acc, h => packIds0_nodup ts is _ (addIds_nodup _ _ h)
theorem packIds0_pre (ts : Tr) : ∀ (is acc : List Nat), ∃ l, packIds0 ts is acc = acc ++ l
  | [], acc => ⟨[], by simp [packIds0]⟩
  | i :: is, acc => by
    obtain ⟨l1, h1⟩ := addIds_pre (refsV (ts.get i)) acc
    obtain ⟨l2, h2⟩ := packIds0_pre ts is (addIds (refsV (ts.get i)) acc)
    exact ⟨l1 ++ l2, by simp only [packIds0]; rw [h2, h1, List.append_assoc]⟩
theorem packIds_nodup (m : Nat) (ts : Tr) (H : List (Option Blk)) (live : List Nat) : (packIds m ts H live).Nodup := by
  obtain ⟨l1, h1⟩ := packIds0_pre ts live (List.range m)
  exact lentIds_nodup H m 40 _ (packIds0_nodup ts live _ List.nodup_range) ⟨l1, h1⟩
theorem packIds_lent (m : Nat) (ts : Tr) (H : List (Option Blk)) (live : List Nat) {b : Nat} (hb : b < m) : (packIds m ts H live)[b]? = some b := by
  unfold packIds
  rw [List.getElem?_append_left (by simpa using hb)]
  exact List.getElem?_range hb
theorem packT_get (ts : Tr) (ids : List Nat) : ∀ (is : List Nat) (acc : Tr), (∀ t, acc.get t = .dead ∨ acc.get t = packV ids (ts.get t)) → ∀ t, (packT ts ids is acc).get t = .dead ∨ (packT ts ids is acc).get t = packV ids (ts.get t)
  | [], acc, h, t => h t
  | i :: is, acc, h, t => by
    refine packT_get ts ids is _ (fun t => ?_) t
    rcases Tr.get_put acc i (packV ids (ts.get i)) t with e | e
    · rw [e]; split
      · rename_i e; rw [e]; exact .inr rfl
      · exact h t
    · exact .inl e
theorem Rel.pack {I : World → Prop} {D : Nat → Option Nat} {U : Nat → Prop} {N : Nat → Prop} {w0 : World} {s : St} {a : Act} {w : World} (h : Rel I D U N w0 s a w) (m : Nat) (live : List Nat) : Rel I (packD D (packIds m s.tmps s.heap live)) U N w0 (packS m live s) a w := by
  refine ⟨⟨h.t.1, h.t.2.1, fun t v h2 => ?_⟩, h.wr.pack (packIds_nodup _ _ _ _), h.n, h.i0⟩
  simp only [packS]
  rcases packT_get s.tmps (packIds m s.tmps s.heap live) live (.leaf .dead) (fun t => .inl rfl) t with e | e
  · rw [e]; trivial
  · rw [e]; exact packV_rep _ (h.t.2.2 t v h2)
theorem pack_lent {D : Nat → Option Nat} {m : Nat} {ts : Tr} {H : List (Option Blk)} {live : List Nat} : ∀ b k, b < m → D b = some k → packD D (packIds m ts H live) b = some k := fun b k hb hk => by
  simp only [packD, packIds_lent m ts H live hb, hk]
theorem sound_pack {M : Nat} {P : Program} {I : World → Prop} {c : Code} {s : St} {k : KC} {r : DV} (live : List Nat) (h : Sound M P I c (packS M live s) k r) : Sound M P I c s k r := by
  intro D U N w0 a w Q hR hQ
  exact h _ U N w0 a w Q (hR.pack M live) fun e s' D' U' a' w' h1 h2 h3 => hQ e s' D' U' a' w' h1 h2 (h3.from pack_lent)
/-- What lives behind a loop. -/
def outOf (lv : List (Nat × List Nat)) (c : Code) (n : Nat) : List Nat :=
  match firstReg c with
  | some i => match lv.find? (fun p => Nat.beq p.1 (i + 100000)) with | some p => p.2 | none => List.range n
  | none => List.range n

/-- What comes behind a round. -/
noncomputable def contL (m : Nat) (live out : List Nat) (κn : St → Option DV) (κ : KC) : KC := fun e s' => match e with
  | .normal => packK m live s' κn
  | .exit i => packK m out s' fun s => κ (.exit i) s
  | .ret => packK m out s' fun s => κ .ret s
noncomputable def loopT (m : Nat) (body : St → KC → Option DV) (live out : List Nat) : Nat → St → KC → Option DV
  | 0, _, _ => none
  | n + 1, s, k => body s (contL m live out (fun s' => loopT m body live out n s' k) k)

theorem loopT_ok {M : Nat} {P : Program} {I : World → Prop} {c : Code} {body : St → KC → Option DV} (hb : ∀ s k r, body s k = some r → Sound M P I c s k r) (live out : List Nat) (n : Nat) (s : St) (k : KC) (r : DV)
    (h : loopT M body live out n s k = some r) : Sound M P I (.loop c) s k r := by
  intro D U N w0 a w Q hR hQ b kk cs
  have key : ∀ (n : Nat) (s : St) (D1 : Nat → Option Nat) (U1 : Nat → Prop) (a1 : Act) (w1 : World), loopT M body live out n s k = some r → Rel I D1 U1 N w0 s a1 w1 → OnwardW M N D U w D1 U1 w1 →
      ∃ e a' w', Q e a' w' ∧ Arrives P (lone (b.at a1 (.code c :: .inLoop c :: kk)) cs w1) b kk cs e a' w' := by
    intro n
    induction n with
    | zero => intro s D1 U1 a1 w1 h; simp [loopT] at h
    | succ n ih =>
      intro s D1 U1 a1 w1 h hR1 hon
      simp only [loopT] at h
      obtain ⟨e, a2, w2, hq, harr⟩ := hb _ _ r h _ U1 N w0 a1 w1
        (fun e a' w' => match e with
          | .normal => ∃ s' D' U', loopT M body live out n s' k = some r ∧ Rel I D' U' N w0 s' a' w' ∧ OnwardW M N D U w D' U' w'
          | e => Q e a' w') hR1
        (fun e s' D' U' a' w' hk hR' hon' => by
          have hon2 := hon.trans hon'
          cases e with
          | normal =>
            simp only [contL, packK_eq] at hk
            exact ⟨_, _, U', hk, hR'.pack M live, hon2.trans (OnwardW.refl.from' pack_lent)⟩
          | exit i =>
            simp only [contL, packK_eq] at hk
            exact hQ (.exit i) _ _ U' a' w' hk (hR'.pack M out) (hon2.trans (OnwardW.refl.from' pack_lent))
          | ret =>
            simp only [contL, packK_eq] at hk
            exact hQ .ret _ _ U' a' w' hk (hR'.pack M out) (hon2.trans (OnwardW.refl.from' pack_lent))) b (.inLoop c :: kk) cs
      cases e with
      | normal =>
        obtain ⟨s', D', U', hl, hR', hon'⟩ := hq
        obtain ⟨e3, a3, w3, hq3, harr3⟩ := ih s' D' U' a2 w2 hl hR' hon'
        exact ⟨e3, a3, w3, hq3, .of_steps (Steps.trans harr (.one step_inLoop)) harr3⟩
      | exit id => exact ⟨_, a2, w2, hq, .pass (x := .inLoop c) rfl (fun _ _ => .inl (by simp)) harr⟩
      | goto l => exact ⟨_, a2, w2, hq, .pass (x := .inLoop c) rfl (fun _ _ => .inl (by simp)) harr⟩
      | ret => exact ⟨_, a2, w2, hq, .pass (x := .inLoop c) rfl (fun _ _ => .inl (by simp)) harr⟩
      | panic ch => exact ⟨_, a2, w2, hq, .pass (x := .inLoop c) rfl (fun _ _ => .inl (by simp)) harr⟩
      | outgrown => exact ⟨_, a2, w2, hq, .pass (x := .inLoop c) rfl (fun _ _ => .inl (by simp)) harr⟩
  obtain ⟨e, a', w', hq, harr⟩ := key n s D U a w h hR OnwardW.refl
  exact ⟨e, a', w', hq, .of_steps (.one step_loop) harr⟩
theorem loopT_nat {M : Nat} {body : St → KC → Option DV} (hb : ∀ s, Nat2 (body s)) (live out : List Nat) : ∀ (n : Nat) (s : St), Nat2 (loopT M body live out n s)
  | 0, s => fun k r h => by simp [loopT] at h
  | n + 1, s => by
    intro k r h
    simp only [loopT] at h ⊢
    obtain ⟨e, s', h1, h2⟩ := hb _ _ r h
    cases e with
    | normal =>
      simp only [contL, packK_eq] at h1
      obtain ⟨e', s'', h3, h4⟩ := loopT_nat hb live out n _ k r h1
      exact ⟨e', s'', h3, fun k' => (h2 _).trans (by simp only [contL, packK_eq]; exact h4 k')⟩
    | exit i => simp only [contL, packK_eq] at h1; exact ⟨.exit i, _, h1, fun k' => (h2 _).trans (by simp only [contL, packK_eq])⟩
    | ret => simp only [contL, packK_eq] at h1; exact ⟨.ret, _, h1, fun k' => (h2 _).trans (by simp only [contL, packK_eq])⟩

/-- Rounds of a reading. -/
def LF {X C : Type} (F : X → (X → Option DV) → C → Option DV) : Nat → X → C → Option DV
  | 0, _, _ => none
  | n + 1, x, c => F x (fun x' => LF F n x' c) c
theorem loopT_LF {M : Nat} {X C : Type} {body : St → KC → Option DV} {live out : List Nat} {S : X → St} {oc : KC → C} {F : X → (X → Option DV) → C → Option DV}
    (heq : ∀ x κn κ, body (S x) (contL M live out κn κ) = F x (fun x' => κn (S x')) (oc κ)) : ∀ (n : Nat) (x : X) (k : KC), loopT M body live out n (S x) k = LF F n x (oc k)
  | 0, _, _ => rfl
  | n + 1, x, k => by
    simp only [loopT, LF, heq]
    congr 1
    funext x'
    exact loopT_LF heq n x' k
/-- A reading of a loop is right, if one round is read rightly. -/
theorem rgood_of {M : Nat} {P : Program} {I : World → Prop} {X C : Type} {b : Code} {body : St → KC → Option DV} (hb : ∀ s k r, body s k = some r → Sound M P I b s k r) (hn : ∀ s, Nat2 (body s)) {live out : List Nat} {S : X → St} {oc : KC → C} {F : X → (X → Option DV) → C → Option DV}
    (heq : ∀ x κn κ, body (S x) (contL M live out κn κ) = F x (fun x' => κn (S x')) (oc κ))
    {R : St → KC → Option DV} (hR : ∀ s, (∀ k, R s k = none) ∨ ∃ n x, SLe s (S x) ∧ ∀ k, R s k = LF F n x (oc k)) : RGood M P I b R := by
  constructor
  · intro s k r h
    rcases hR s with h0' | ⟨n, x, hle, h1⟩
    · rw [h0'] at h; cases h
    · rw [h1, ← loopT_LF heq] at h
      exact sound_le hle (loopT_ok hb live out n _ k r h)
  · intro s k r h
    rcases hR s with h0' | ⟨n, x, hle, h1⟩
    · rw [h0'] at h; cases h
    · rw [h1, ← loopT_LF heq] at h
      obtain ⟨e, s', h2, h3⟩ := loopT_nat hn live out n _ k r h
      exact ⟨e, s', h2, fun k' => by rw [h1, ← loopT_LF heq]; exact h3 k'⟩

/-- A frame of these slots alone. -/
noncomputable def mkT : List (Nat × VV) → Tr → Tr
  | [], acc => acc
  | (i, v) :: l, acc => mkT l (acc.put i v)
def AllG (ts : Tr) : List (Nat × VV) → Prop
  | [] => True
  | (i, v) :: l => (v = .dead ∨ ts.get i = v) ∧ AllG ts l
theorem le_mkT {ts : Tr} : ∀ (l : List (Nat × VV)) (acc : Tr), Le ts acc → AllG ts l → Le ts (mkT l acc)
  | [], acc, h, _ => h
  | (i, v) :: l, acc, h, hl => by
    refine le_mkT l _ (fun t => ?_) hl.2
    rcases Tr.get_put acc i v t with e | e
    · rw [e]; split
      · rename_i e; subst e; exact hl.1.elim (fun h => .inr h) (fun h => .inl h.symm)
      · exact h t
    · exact .inr e
theorem Le.dead (ts : Tr) : Le ts (.leaf .dead) := fun _ => .inr rfl

/-- What a slot holds, taken apart. -/
def bindO {α β : Type} (o : Option α) (f : α → Option β) : Option β := match o with | some a => f a | none => none
theorem bindO_some {α β : Type} {o : Option α} {f : α → Option β} {b : β} (h : bindO o f = some b) : ∃ a, o = some a ∧ f a = some b := by
  unfold bindO at h
  split at h
  · rename_i a; exact ⟨a, rfl, h⟩
  · cases h
def orO {α : Type} (a b : Option α) : Option α := match a with | some x => some x | none => b
theorem orO_some {α : Type} {a b : Option α} {x : α} (h : orO a b = some x) : a = some x ∨ b = some x := by
  unfold orO at h
  split at h
  · exact .inl h
  · exact .inr h
def xD (x : VV) : Option DV := match x with | .dv d => some d | _ => none
def xI (kd : IntKind) (d : DV) : Option Int := match d with | .val (.int kd' n) => bif decide (kd' = kd) then some n else none | _ => none
def xB (d : DV) : Option Bool := match d with | .val (.bool b) => some b | _ => none
def xS (d : DV) : Option ByteArray := match d with | .val (.string s) => some s | _ => none
def xL (sz : Nat) (d : DV) : Option (List (List DV)) := match d with | .lst sz' es => bif Nat.beq sz' sz then some es else none | _ => none
def xNil (d : DV) : Option Unit := match d with | .val (.slice none 0 0) => some () | _ => none
def xF (g : Nat) (d : DV) : Option Unit := match d with | .val (.func (.func g') ⟨[]⟩ ⟨[]⟩) => bif Nat.beq g' g then some () else none | _ => none
def xU (d : DV) : Option Unit := match d with | .val (.tuple ⟨[]⟩) => some () | _ => none
def xP (b o : Nat) (x : VV) : Option Unit := match x with | .ptr b' o' => bif Nat.beq b' b && Nat.beq o' o then some () else none | _ => none
def xO (e sz b o : Nat) (x : VV) : Option Nat := match x with | .osl e' sz' b' o' n => bif Nat.beq e' e && Nat.beq sz' sz && Nat.beq b' b && Nat.beq o' o then some n else none | _ => none
def xN (m n : Nat) : Option Unit := bif Nat.beq m n then some () else none
def xBlk (h : List (Option Blk)) : Option (List DV × List (Option Blk)) := match h with | some (.cells cs) :: t => some (cs, t) | _ => none
def xMix (h : List (Option Blk)) : Option (List VV × List (Option Blk)) := match h with | some (.mix cs) :: t => some (cs, t) | _ => none
def xDead (x : VV) : Option Unit := match x with | .dead => some () | _ => none
def xGone (h : List (Option Blk)) : Option (List (Option Blk)) := match h with | some .gone :: t => some t | _ => none
def xEnd {α : Type} (h : List α) : Option Unit := match h with | [] => some () | _ => none
def xUn {α : Type} (h : List α) : Option (α × List α) := match h with | x :: t => some (x, t) | _ => none
theorem xD_eq {x : VV} {d : DV} (h : xD x = some d) : x = .dv d := by unfold xD at h; split at h <;> simp_all
theorem xI_eq {kd : IntKind} {d : DV} {n : Int} (h : xI kd d = some n) : d = .val (.int kd n) := by
  unfold xI at h
  split at h
  · rename_i kd' m
    by_cases e : kd' = kd
    · subst e; simp at h; subst h; rfl
    · simp [e] at h
  · cases h
theorem xB_eq {d : DV} {b : Bool} (h : xB d = some b) : d = .val (.bool b) := by unfold xB at h; split at h <;> simp_all
theorem xS_eq {d : DV} {b : ByteArray} (h : xS d = some b) : d = .val (.string b) := by unfold xS at h; split at h <;> simp_all
theorem xL_eq {sz : Nat} {d : DV} {es : List (List DV)} (h : xL sz d = some es) : d = .lst sz es := by
  unfold xL at h
  split at h
  · rename_i sz' es'
    cases hb : Nat.beq sz' sz with
    | true => have := Nat.eq_of_beq_eq_true hb; subst this; rw [hb] at h; simp at h; subst h; rfl
    | false => rw [hb] at h; cases h
  · cases h
theorem xNil_eq {d : DV} {u : Unit} (h : xNil d = some u) : d = .val (.slice none 0 0) := by unfold xNil at h; split at h <;> simp_all
theorem xU_eq {d : DV} {u : Unit} (h : xU d = some u) : d = .val (.tuple ⟨[]⟩) := by unfold xU at h; split at h <;> simp_all
theorem xF_eq {g : Nat} {d : DV} {u : Unit} (h : xF g d = some u) : d = .val (.func (.func g) ⟨[]⟩ ⟨[]⟩) := by
  unfold xF at h
  split at h
  · rename_i g'
    cases hb : Nat.beq g' g with
    | true => have := Nat.eq_of_beq_eq_true hb; subst this; rfl
    | false => rw [hb] at h; cases h
  · cases h
theorem xP_eq {b o : Nat} {x : VV} {u : Unit} (h : xP b o x = some u) : x = .ptr b o := by
  unfold xP at h
  split at h
  · rename_i b' o'
    cases hb : (Nat.beq b' b && Nat.beq o' o) with
    | true =>
      simp only [Bool.and_eq_true] at hb
      have h1 := Nat.eq_of_beq_eq_true hb.1; have h2 := Nat.eq_of_beq_eq_true hb.2
      subst h1; subst h2; rfl
    | false => rw [hb] at h; cases h
  · cases h
theorem xO_eq {e sz b o : Nat} {x : VV} {n : Nat} (h : xO e sz b o x = some n) : x = .osl e sz b o n := by
  unfold xO at h
  split at h
  · rename_i e' sz' b' o' m
    cases hb : (Nat.beq e' e && Nat.beq sz' sz && Nat.beq b' b && Nat.beq o' o) with
    | true =>
      rw [hb] at h
      simp only [Bool.and_eq_true] at hb
      have h1 := Nat.eq_of_beq_eq_true hb.1.1.1; have h2 := Nat.eq_of_beq_eq_true hb.1.1.2; have h3 := Nat.eq_of_beq_eq_true hb.1.2; have h4 := Nat.eq_of_beq_eq_true hb.2
      subst h1; subst h2; subst h3; subst h4
      simp at h; subst h; rfl
    | false => rw [hb] at h; cases h
  · cases h
theorem xN_eq {m n : Nat} {u : Unit} (h : xN m n = some u) : m = n := by
  unfold xN at h
  cases hb : Nat.beq m n with
  | true => exact Nat.eq_of_beq_eq_true hb
  | false => rw [hb] at h; cases h
theorem xBlk_eq {h : List (Option Blk)} {p : List DV × List (Option Blk)} (e : xBlk h = some p) : h = some (.cells p.1) :: p.2 := by unfold xBlk at e; split at e <;> simp_all; subst e; exact ⟨rfl, rfl⟩
theorem xMix_eq {h : List (Option Blk)} {p : List VV × List (Option Blk)} (e : xMix h = some p) : h = some (.mix p.1) :: p.2 := by unfold xMix at e; split at e <;> simp_all; subst e; exact ⟨rfl, rfl⟩
theorem xDead_eq {x : VV} {u : Unit} (h : xDead x = some u) : x = .dead := by unfold xDead at h; split at h <;> simp_all
theorem xGone_eq {h t : List (Option Blk)} (e : xGone h = some t) : h = some .gone :: t := by unfold xGone at e; split at e <;> simp_all
theorem xEnd_eq {α : Type} {h : List α} {u : Unit} (e : xEnd h = some u) : h = [] := by unfold xEnd at e; split at e <;> simp_all
theorem xUn_eq {α : Type} {h : List α} {p : α × List α} (e : xUn h = some p) : h = p.1 :: p.2 := by unfold xUn at e; split at e <;> simp_all; subst e; exact ⟨rfl, rfl⟩
/-- The reading of a loop, out of the reading of its head. -/
noncomputable def decR {X C : Type} (dec : St → Option X) (F : X → (X → Option DV) → C → Option DV) (φ : X → Nat) (oc : KC → C) : St → KC → Option DV :=
  fun s k => match dec s with | some x => LF F (φ x) x (oc k) | none => none
theorem rgood_dec {M : Nat} {P : Program} {I : World → Prop} {X C : Type} {b : Code} {body : St → KC → Option DV} (hb : ∀ s k r, body s k = some r → Sound M P I b s k r) (hn : ∀ s, Nat2 (body s)) {live out : List Nat} {S : X → St} {oc : KC → C} {F : X → (X → Option DV) → C → Option DV}
    (heq : ∀ x κn κ, body (S x) (contL M live out κn κ) = F x (fun x' => κn (S x')) (oc κ))
    {dec : St → Option X} (hd : ∀ s x, dec s = some x → SLe s (S x)) (φ : X → Nat) : RGood M P I b (decR dec F φ oc) :=
  rgood_of hb hn heq fun s => by
    cases hx : dec s with
    | none => exact .inl fun k => by simp only [decR, hx]
    | some x => exact .inr ⟨φ x, x, hd s x hx, fun k => by simp only [decR, hx]⟩
/-- The i-th loop of a code. -/
def loopB (c : Code) (i : Nat) : Code := (loopsOf c).getD i .skip
theorem lgood_of {M : Nat} {P : Program} {I : World → Prop} {L : LTab} {c : Code} {bs : List Code} (h : loopsOf c = bs) (h2 : ∀ b ∈ bs, ∀ R, lookL L b = some R → RGood M P I b R) : LGood M P I L c := by
  intro b hb
  exact h2 b (h ▸ hb)
end Go.Pv
namespace Go.Pv
open Go Go.RowKit

def iceC (H : OH) : VV → Option (DV × OH)
  | .dv d => some (d, H)
  | .osl _ sz b o n => match H[b]? with
    | some (some (.cells cs)) => bif Nat.ble (o + n * sz) cs.length then some (.lst sz (chunks sz n (cs.drop o)), H.set b (some .gone)) else none
    | _ => none
  | _ => none
def iceL (H : OH) : List VV → Option (List DV × OH)
  | [] => some ([], H)
  | x :: l => match iceC H x with
    | some (d, H1) => match iceL H1 l with
      | some (ds, H2) => some (d :: ds, H2)
      | none => none
    | none => none
theorem iceC_ok {D : Nat → Option Nat} {U : Nat → Prop} {N : Nat → Prop} {w0 w : World} {H H1 : OH} {x : VV} {d : DV} (h : iceC H x = some (d, H1)) (hW : WRel D U N w0 H w) :
    ∃ U1, WRel D U1 N w0 H1 w ∧ Onward N D U w D U1 w ∧ (∀ v, CRep U w D x v → DRep U1 w d v) ∧ ∀ (b : Nat) (B : Blk), H1[b]? = some (some B) → B.live = true → H[b]? = some (some B) := by
  cases x <;> simp only [iceC] at h <;> try (cases h; done)
  · simp only [Option.some.injEq, Prod.mk.injEq] at h
    obtain ⟨rfl, rfl⟩ := h
    exact ⟨U, hW, Onward.refl, fun v hv => hv, fun _ _ h _ => h⟩
  · rename_i e sz b o n
    split at h <;> try (cases h; done)
    rename_i cs hb
    cases hl : Nat.ble (o + n * sz) cs.length with
    | false => simp [hl] at h
    | true =>
      simp only [hl, cond_true, Option.some.injEq, Prod.mk.injEq] at h
      obtain ⟨rfl, rfl⟩ := h
      obtain ⟨i1, i2⟩ := hW.ice [b] (by intro c hc; simp at hc; subst hc; simp only [liveAt, hb]; rfl)
      exact ⟨_, i1, i2, fun v hv => osl_rep (e := e) hW hb (Nat.le_of_ble_eq_true hl) hv (fun _ h => .inl h) (fun k hk => .inr ⟨b, by simp, hk⟩), fun c B hc hB => (goneAll_get [b] H c B hc hB).2⟩
theorem iceL_ok {D : Nat → Option Nat} {N : Nat → Prop} {w0 w : World} : ∀ (cs : List VV) (H H1 : OH) (ds : List DV) (U : Nat → Prop), iceL H cs = some (ds, H1) → WRel D U N w0 H w →
    ∃ U1, WRel D U1 N w0 H1 w ∧ Onward N D U w D U1 w ∧ ds.length = cs.length ∧ (∀ (i : Nat) (d : DV) (x : VV) (v : Value), ds[i]? = some d → cs[i]? = some x → CRep U w D x v → DRep U1 w d v) ∧ ∀ (b : Nat) (B : Blk), H1[b]? = some (some B) → B.live = true → H[b]? = some (some B)
  | [], H, H1, ds, U, h, hW => by
    simp only [iceL, Option.some.injEq, Prod.mk.injEq] at h
    obtain ⟨rfl, rfl⟩ := h
    exact ⟨U, hW, Onward.refl, rfl, fun i d x v h => by simp at h, fun _ _ h _ => h⟩
  | x :: cs, H, H1, ds, U, h, hW => by
    simp only [iceL] at h
    split at h <;> try (cases h; done)
    rename_i d H2 hx
    split at h <;> try (cases h; done)
    rename_i ds' H3 hl
    simp only [Option.some.injEq, Prod.mk.injEq] at h
    obtain ⟨rfl, rfl⟩ := h
    obtain ⟨U1, a1, a2, a3, a4⟩ := iceC_ok hx hW
    obtain ⟨U2, b1, b2, b3, b4, b5⟩ := iceL_ok cs H2 H3 ds' U1 hl a1
    refine ⟨U2, b1, a2.trans b2, by simp [b3], ?_, fun b B h1 h2 => a4 b B (b5 b B h1 h2) h2⟩
    intro i e y v e1 e2 hv
    cases i with
    | zero =>
      simp at e1 e2
      subst e1
      subst e2
      exact (a3 v hv).keep b2.set b2.keep b2.size
    | succ i => exact b4 i e y v (by simpa using e1) (by simpa using e2) (hv.onward a2)
theorem WRel.settle {D : Nat → Option Nat} {U : Nat → Prop} {N : Nat → Prop} {w0 w : World} {H : OH} (hW : WRel D U N w0 H w) {b : Nat} {cs : List VV} {ds : List DV} (hb : H[b]? = some (some (.mix cs))) (hl : ds.length = cs.length)
    (hr : ∀ (i : Nat) (d : DV) (x : VV) (v : Value), ds[i]? = some d → cs[i]? = some x → CRep U w D x v → DRep U w d v) : WRel D U N w0 (H.set b (some (.cells ds))) w := by
  have hbl : b < H.length := (List.getElem?_eq_some_iff.1 hb).1
  refine ⟨hW.below, hW.old, ?_, ?_, ?_, ?_, ?_⟩
  · intro b' k hd
    obtain ⟨g1, g2, B, g3⟩ := hW.own b' k hd
    refine ⟨g1, g2, ?_⟩
    by_cases e : b' = b
    · subst e; exact ⟨.cells ds, by simp [List.getElem?_set, hbl]⟩
    · exact ⟨B, by rw [List.getElem?_set_ne (Ne.symm e)]; exact g3⟩
  · intro b' k vs hd hH
    by_cases e : b' = b
    · subst e
      simp only [List.getElem?_set, hbl, if_true, Option.some.injEq, Blk.cells.injEq] at hH
      subst hH
      obtain ⟨g1, cur, T, g2, g3, g4⟩ := hW.holdm b' k cs hd hb
      refine ⟨g1, cur, T, g2, by omega, fun i x v e1 e2 => ?_⟩
      have hlt : i < cs.length := by rw [← hl]; exact (List.getElem?_eq_some_iff.1 e1).1
      exact hr i x _ v e1 (List.getElem?_eq_getElem hlt) (g4 i _ v (List.getElem?_eq_getElem hlt) e2)
    · rw [List.getElem?_set_ne (Ne.symm e)] at hH
      exact hW.hold b' k vs hd hH
  · intro b' k vs hd hH
    by_cases e : b' = b
    · subst e; simp [List.getElem?_set, hbl] at hH
    · rw [List.getElem?_set_ne (Ne.symm e)] at hH
      exact hW.holdm b' k vs hd hH
  · intro b' B hB
    by_cases e : b' = b
    · subst e; exact hW.all b' _ hb
    · rw [List.getElem?_set_ne (Ne.symm e)] at hB; exact hW.all b' B hB
  · have back : ∀ (b' : Nat) (B : Blk), (H.set b (some (.cells ds)))[b']? = some (some B) → B.live = true → ∃ B' : Blk, H[b']? = some (some B') ∧ B'.live = true := by
      intro b' B h1 h2
      by_cases e : b' = b
      · subst e; exact ⟨_, hb, rfl⟩
      · rw [List.getElem?_set_ne (Ne.symm e)] at h1; exact ⟨B, h1, h2⟩
    intro b1 b2 k B1 B2 h1 h2 l1 l2 d1 d2
    obtain ⟨C1, c1, c2⟩ := back b1 B1 h1 l1
    obtain ⟨C2, c3, c4⟩ := back b2 B2 h2 l2
    exact hW.inj b1 b2 k C1 C2 c1 c3 c2 c4 d1 d2
theorem TRel.turn {U : Nat → Prop} {w : World} {D : Nat → Option Nat} {ts : Tr} {n : Nat} {a : Act} (h : TRel U w D ts n a) {i : Nat} {x : VV} (hx : ∀ v, a.tmps[i]? = some v → VRep U w D x v) : TRel U w D (ts.put i x) n a := by
  refine ⟨h.1, h.2.1, fun t v hv => ?_⟩
  rcases Tr.get_put ts i x t with e | e
  · rw [e]
    by_cases ht : t = i
    · subst ht; rw [if_pos rfl]; exact hx v hv
    · rw [if_neg ht]; exact h.2.2 t v hv
  · rw [e]; trivial
/-- A slot's value, settled: a variable's cells, a slice, a struct. -/
noncomputable def iceSlot (s : St) (i : Nat) : Option St :=
  match s.tmps.get i with
  | .ptr b _ => match s.heap[b]? with
    | some (some (.mix cs)) => match iceL s.heap cs with
      | some (ds, H1) => match H1[b]? with
        | some (some (.mix _)) => some ⟨s.tmps, s.n, H1.set b (some (.cells ds))⟩
        | _ => none
      | none => none
    | _ => some s
  | .osl e sz b o n => match iceC s.heap (.osl e sz b o n) with
    | some (d, H1) => some ⟨s.tmps.put i (.dv d), s.n, H1⟩
    | none => none
  | .vagg cs => match iceL s.heap cs with
    | some (ds, H1) => some ⟨s.tmps.put i (.dv (mkAgg ds)), s.n, H1⟩
    | none => none
  | _ => some s
theorem iceSlot_ok {I : World → Prop} {D : Nat → Option Nat} {U : Nat → Prop} {N : Nat → Prop} {w0 : World} {s s' : St} {a : Act} {w : World} {i : Nat} (h : iceSlot s i = some s') (hR : Rel I D U N w0 s a w) :
    ∃ U', Rel I D U' N w0 s' a w ∧ Onward N D U w D U' w := by
  have same : s = s' → ∃ U', Rel I D U' N w0 s' a w ∧ Onward N D U w D U' w := by rintro rfl; exact ⟨U, hR, Onward.refl⟩
  unfold iceSlot at h
  split at h
  · rename_i b o hx
    split at h
    · rename_i cs hb
      split at h <;> try (cases h; done)
      rename_i ds H1 hl
      split at h <;> try (cases h; done)
      rename_i cs' hb'
      simp only [Option.some.injEq] at h
      subst h
      obtain ⟨U1, a1, a2, a3, a4, a5⟩ := iceL_ok cs _ _ ds U hl hR.wr
      have := a5 b _ hb' rfl
      rw [hb] at this
      simp only [Option.some.injEq, Blk.mix.injEq] at this
      subst this
      refine ⟨U1, ⟨hR.t.onward a2, ?_, hR.n, hR.i0⟩, a2⟩
      have hbl : b < H1.length := (List.getElem?_eq_some_iff.1 hb').1
      -- over the cells as they stand in memory
      have hset : WRel D U1 N w0 (H1.set b (some (.cells ds))) w := by
        have hh := hR.wr
        refine ⟨a1.below, a1.old, ?_, ?_, ?_, ?_, ?_⟩
        · intro b' k hd
          obtain ⟨g1, g2, B, g3⟩ := a1.own b' k hd
          refine ⟨g1, g2, ?_⟩
          by_cases e : b' = b
          · subst e; exact ⟨.cells ds, by simp [List.getElem?_set, hbl]⟩
          · exact ⟨B, by rw [List.getElem?_set_ne (Ne.symm e)]; exact g3⟩
        · intro b' k vs hd hH
          by_cases e : b' = b
          · subst e
            simp only [List.getElem?_set, hbl, if_true, Option.some.injEq, Blk.cells.injEq] at hH
            subst hH
            obtain ⟨g1, _⟩ := a1.holdm b' k cs hd hb'
            obtain ⟨_, cur, T, g2, g3, g4⟩ := hh.holdm b' k cs hd hb
            refine ⟨g1, cur, T, g2, by omega, fun i x v e1 e2 => ?_⟩
            have hlt : i < cs.length := by rw [← a3]; exact (List.getElem?_eq_some_iff.1 e1).1
            exact a4 i x _ v e1 (List.getElem?_eq_getElem hlt) (g4 i _ v (List.getElem?_eq_getElem hlt) e2)
          · rw [List.getElem?_set_ne (Ne.symm e)] at hH
            exact a1.hold b' k vs hd hH
        · intro b' k vs hd hH
          by_cases e : b' = b
          · subst e; simp [List.getElem?_set, hbl] at hH
          · rw [List.getElem?_set_ne (Ne.symm e)] at hH
            exact a1.holdm b' k vs hd hH
        · intro b' B hB
          by_cases e : b' = b
          · subst e; exact a1.all b' _ hb'
          · rw [List.getElem?_set_ne (Ne.symm e)] at hB; exact a1.all b' B hB
        · have back : ∀ (b' : Nat) (B : Blk), (H1.set b (some (.cells ds)))[b']? = some (some B) → B.live = true → ∃ B' : Blk, H1[b']? = some (some B') ∧ B'.live = true := by
            intro b' B h1 h2
            by_cases e : b' = b
            · subst e; exact ⟨_, hb', rfl⟩
            · rw [List.getElem?_set_ne (Ne.symm e)] at h1; exact ⟨B, h1, h2⟩
          intro b1 b2 k B1 B2 h1 h2 l1 l2 d1 d2
          obtain ⟨C1, c1, c2⟩ := back b1 B1 h1 l1
          obtain ⟨C2, c3, c4⟩ := back b2 B2 h2 l2
          exact a1.inj b1 b2 k C1 C2 c1 c3 c2 c4 d1 d2
      exact hset
    · simp only [Option.some.injEq] at h
      exact same h
  · rename_i e sz b o n hx
    split at h <;> try (cases h; done)
    rename_i d H1 hc
    simp only [Option.some.injEq] at h
    subst h
    obtain ⟨U1, a1, a2, a3, _⟩ := iceC_ok hc hR.wr
    refine ⟨U1, ⟨(hR.t.onward a2).turn fun v hv => ?_, a1, hR.n, hR.i0⟩, a2⟩
    have := hR.t.2.2 i v hv
    rw [hx] at this
    exact a3 v this
  · rename_i cs hx
    split at h <;> try (cases h; done)
    rename_i ds H1 hl
    simp only [Option.some.injEq] at h
    subst h
    obtain ⟨U1, a1, a2, a3, a4, _⟩ := iceL_ok cs _ _ ds U hl hR.wr
    refine ⟨U1, ⟨(hR.t.onward a2).turn fun v hv => ?_, a1, hR.n, hR.i0⟩, a2⟩
    have := hR.t.2.2 i v hv
    rw [hx] at this
    obtain ⟨vs, rfl, h1, h2⟩ := this
    refine mkAgg_rep (by omega) fun j x u e1 e2 => ?_
    have hlt : j < cs.length := by rw [← a3]; exact (List.getElem?_eq_some_iff.1 e1).1
    exact a4 j x _ u e1 (List.getElem?_eq_getElem hlt) (h2 j _ u (List.getElem?_eq_getElem hlt) e2)
  · simp only [Option.some.injEq] at h
    exact same h
noncomputable def iceAll : List Nat → St → Option St
  | [], s => some s
  | i :: is, s => match iceSlot s i with | some s' => iceAll is s' | none => none
theorem iceAll_ok {I : World → Prop} {D : Nat → Option Nat} {N : Nat → Prop} {w0 : World} {a : Act} {w : World} : ∀ (is : List Nat) (s s' : St) (U : Nat → Prop), iceAll is s = some s' → Rel I D U N w0 s a w → ∃ U', Rel I D U' N w0 s' a w ∧ Onward N D U w D U' w
  | [], s, s', U, h, hR => by simp only [iceAll, Option.some.injEq] at h; subst h; exact ⟨U, hR, Onward.refl⟩
  | i :: is, s, s', U, h, hR => by
    simp only [iceAll] at h
    split at h <;> try (cases h; done)
    rename_i s1 hs
    obtain ⟨U1, h1, h2⟩ := iceSlot_ok hs hR
    obtain ⟨U2, h3, h4⟩ := iceAll_ok is s1 s' U1 h h1
    exact ⟨U2, h3, h2.trans h4⟩
/-- The same, handed on. -/
noncomputable def iceCK (H : OH) : VV → (DV → OH → Option DV) → Option DV
  | .dv d, k => k d H
  | .osl _ sz b o n, k => match H[b]? with
    | some (some (.cells cs)) => bif Nat.ble (o + n * sz) cs.length then k (.lst sz (chunks sz n (cs.drop o))) (H.set b (some .gone)) else none
    | _ => none
  | _, _ => none
noncomputable def iceLK : OH → List VV → (List DV → OH → Option DV) → Option DV
  | H, [], k => k [] H
  | H, x :: l, k => iceCK H x fun d H1 => iceLK H1 l fun ds H2 => k (d :: ds) H2
noncomputable def iceSK (s : St) (i : Nat) (k : St → Option DV) : Option DV :=
  match s.tmps.get i with
  | .ptr b _ => match s.heap[b]? with
    | some (some (.mix cs)) => iceLK s.heap cs fun ds H1 => match H1[b]? with
        | some (some (.mix _)) => k ⟨s.tmps, s.n, H1.set b (some (.cells ds))⟩
        | _ => none
    | _ => k s
  | .osl e sz b o n => iceCK s.heap (.osl e sz b o n) fun d H1 => k ⟨s.tmps.put i (.dv d), s.n, H1⟩
  | .vagg cs => iceLK s.heap cs fun ds H1 => k ⟨s.tmps.put i (.dv (mkAgg ds)), s.n, H1⟩
  | _ => k s
noncomputable def iceAK : List Nat → St → (St → Option DV) → Option DV
  | [], s, k => k s
  | i :: is, s, k => iceSK s i fun s' => iceAK is s' k
theorem iceCK_eq (H : OH) (x : VV) (k : DV → OH → Option DV) : iceCK H x k = match iceC H x with | some (d, H1) => k d H1 | none => none := by
  cases x with
  | osl e sz b o n =>
    simp only [iceCK, iceC]
    cases H[b]? with
    | none => rfl
    | some y => cases y with
      | none => rfl
      | some B => cases B with
        | gone => rfl
        | mix _ => rfl
        | cells cs => dsimp only; cases Nat.ble (o + n * sz) cs.length <;> rfl
  | _ => simp only [iceCK, iceC]
theorem iceLK_eq : ∀ (H : OH) (cs : List VV) (k : List DV → OH → Option DV), iceLK H cs k = match iceL H cs with | some (ds, H1) => k ds H1 | none => none
  | H, [], k => by simp only [iceLK, iceL]
  | H, x :: l, k => by
    simp only [iceLK, iceL, iceCK_eq]
    cases iceC H x with
    | none => rfl
    | some p =>
      obtain ⟨d, H1⟩ := p
      simp only [iceLK_eq H1 l]
      cases iceL H1 l with
      | none => rfl
      | some q => obtain ⟨ds, H2⟩ := q; rfl
theorem iceSK_eq (s : St) (i : Nat) (k : St → Option DV) : iceSK s i k = match iceSlot s i with | some s' => k s' | none => none := by
  unfold iceSK iceSlot
  split
  · split
    · rw [iceLK_eq]
      split
      · rename_i ds H1 hl
        split <;> rfl
      · rfl
    · rfl
  · rw [iceCK_eq]
    split
    · rfl
    · rfl
  · rw [iceLK_eq]
    split
    · rfl
    · rfl
  · rfl
theorem iceAK_eq : ∀ (is : List Nat) (s : St) (k : St → Option DV), iceAK is s k = match iceAll is s with | some s' => k s' | none => none
  | [], s, k => by simp only [iceAK, iceAll]
  | i :: is, s, k => by
    simp only [iceAK, iceAll, iceSK_eq]
    cases iceSlot s i with
    | none => rfl
    | some s' => exact iceAK_eq is s' k
noncomputable def iceK (is : List Nat) (s : St) (k : St → Option DV) : Option DV :=
  match is with
  | [] => k s
  | i :: is => iceAK (i :: is) s fun s' => match s' with | ⟨ts, n, h⟩ => frc h fun h => k ⟨ts, n, h⟩
theorem iceK_inv {is : List Nat} {s : St} {k : St → Option DV} {r : DV} (h : iceK is s k = some r) : ∃ s', iceAll is s = some s' ∧ k s' = some r ∧ ∀ k', iceK is s k' = k' s' := by
  cases is with
  | nil => exact ⟨s, rfl, h, fun _ => rfl⟩
  | cons i is =>
    simp only [iceK, iceAK_eq] at h
    split at h <;> try (cases h; done)
    rename_i s' hs
    simp only [frc_eq] at h
    exact ⟨s', hs, h, fun k' => by simp only [iceK, iceAK_eq, hs, frc_eq]⟩
/-- Which slots are settled ahead of a region. -/
def iceOf (lv : List (Nat × List Nat)) (id : Nat) : List Nat := match lv.find? (fun p => Nat.beq p.1 (id + 300000)) with | some p => p.2 | none => []

/-- A value as it stands at the end: nobody writes the call's own any more. -/
def resD (H : OH) : VV → Option DV
  | .dv d => some d
  | .osl _ sz b o n => match H[b]? with
    | some (some (.cells cs)) => bif Nat.ble (o + n * sz) cs.length then some (.lst sz (chunks sz n (cs.drop o))) else none
    | _ => none
  | _ => none
noncomputable def resDK (H : OH) : VV → (DV → Option DV) → Option DV
  | .dv d, k => k d
  | .osl _ sz b o n, k => match H[b]? with
    | some (some (.cells cs)) => bif Nat.ble (o + n * sz) cs.length then k (.lst sz (chunks sz n (cs.drop o))) else none
    | _ => none
  | _, _ => none
theorem resDK_eq (H : OH) (x : VV) (k : DV → Option DV) : resDK H x k = match resD H x with | some d => k d | none => none := by
  cases x with
  | osl e sz b o n =>
    simp only [resDK, resD]
    cases H[b]? with
    | none => rfl
    | some y => cases y with
      | none => rfl
      | some B => cases B with
        | gone => rfl
        | mix _ => rfl
        | cells cs => dsimp only; cases Nat.ble (o + n * sz) cs.length <;> rfl
  | _ => simp only [resDK, resD]
def resDL (H : OH) : List VV → Option (List DV)
  | [] => some []
  | x :: l => match resD H x, resDL H l with
    | some d, some ds => some (d :: ds)
    | _, _ => none
noncomputable def resDLK (H : OH) : List VV → (List DV → Option DV) → Option DV
  | [], k => k []
  | x :: l, k => resDK H x fun d => resDLK H l fun ds => k (d :: ds)
theorem resDLK_eq (H : OH) : ∀ (cs : List VV) (k : List DV → Option DV), resDLK H cs k = match resDL H cs with | some ds => k ds | none => none
  | [], k => by simp only [resDLK, resDL]
  | x :: l, k => by
    simp only [resDLK, resDL, resDK_eq]
    cases resD H x with
    | none => rfl
    | some d =>
      simp only [resDLK_eq H l]
      cases resDL H l <;> rfl
noncomputable def resAK (H : OH) : VV → (DV → Option DV) → Option DV
  | .vagg cs, k => resDLK H cs fun ds => k (mkAgg ds)
  | x, k => resDK H x k
def resA (H : OH) : VV → Option DV
  | .vagg cs => match resDL H cs with | some ds => some (mkAgg ds) | none => none
  | x => resD H x
theorem resAK_eq (H : OH) (x : VV) (k : DV → Option DV) : resAK H x k = match resA H x with | some d => k d | none => none := by
  cases x with
  | vagg cs =>
    simp only [resAK, resA, resDLK_eq]
    cases resDL H cs <;> rfl
  | _ => simp only [resAK, resA, resDK_eq]
theorem resD_ok {D : Nat → Option Nat} {U : Nat → Prop} {N : Nat → Prop} {w0 w : World} {H : OH} (hW : WRel D U N w0 H w) {x : VV} {d : DV} (h : resD H x = some d) {v : Value} (hv : CRep U w D x v) : DRep (U3 U D) w d v := by
  cases x <;> simp only [resD] at h <;> try (cases h; done)
  · simp only [Option.some.injEq] at h
    subst h
    exact DRep.keep (U := U) (w := w) (w' := w) (fun _ h => .inl h) (fun _ _ => rfl) (Nat.le_refl _) hv
  · rename_i e sz b o n
    split at h <;> try (cases h; done)
    rename_i cs hb
    cases hl : Nat.ble (o + n * sz) cs.length with
    | false => simp [hl] at h
    | true =>
      simp only [hl, cond_true, Option.some.injEq] at h
      subst h
      exact osl_rep (e := e) hW hb (Nat.le_of_ble_eq_true hl) hv (fun _ h => .inl h) (fun k hk => .inr ⟨b, hk⟩)
theorem resDL_ok {D : Nat → Option Nat} {U : Nat → Prop} {N : Nat → Prop} {w0 w : World} {H : OH} (hW : WRel D U N w0 H w) : ∀ (cs : List VV) (ds : List DV), resDL H cs = some ds → ds.length = cs.length ∧ ∀ (i : Nat) (d : DV) (x : VV) (v : Value), ds[i]? = some d → cs[i]? = some x → CRep U w D x v → DRep (U3 U D) w d v
  | [], ds, h => by simp only [resDL, Option.some.injEq] at h; subst h; exact ⟨rfl, fun i d x v h => by simp at h⟩
  | x :: cs, ds, h => by
    simp only [resDL] at h
    split at h <;> try (cases h; done)
    rename_i d ds' h1 h2
    simp only [Option.some.injEq] at h
    subst h
    obtain ⟨r1, r2⟩ := resDL_ok hW cs ds' h2
    refine ⟨by simp [r1], fun i e y v e1 e2 hv => ?_⟩
    cases i with
    | zero => simp at e1 e2; subst e1; subst e2; exact resD_ok hW h1 hv
    | succ i => exact r2 i e y v (by simpa using e1) (by simpa using e2) hv
theorem resA_ok {D : Nat → Option Nat} {U : Nat → Prop} {N : Nat → Prop} {w0 w : World} {H : OH} (hW : WRel D U N w0 H w) {x : VV} {d : DV} (h : resA H x = some d) {v : Value} (hv : VRep U w D x v) : DRep (U3 U D) w d v := by
  cases x with
  | vagg cs =>
    simp only [resA] at h
    split at h <;> try (cases h; done)
    rename_i ds hl
    simp only [Option.some.injEq] at h
    subst h
    obtain ⟨vs, rfl, h1, h2⟩ := hv
    obtain ⟨r1, r2⟩ := resDL_ok hW cs ds hl
    refine mkAgg_rep (by omega) fun j x u e1 e2 => ?_
    have hlt : j < cs.length := by rw [← r1]; exact (List.getElem?_eq_some_iff.1 e1).1
    exact r2 j x _ u e1 (List.getElem?_eq_getElem hlt) (h2 j _ u (List.getElem?_eq_getElem hlt) e2)
  | dv d => exact resD_ok (x := .dv d) hW h hv
  | osl e sz b o n => exact resD_ok (x := .osl e sz b o n) hW h hv
  | ptr b o => cases h
  | eptr cs => cases h
  | dead => cases h
  | vtup cs => cases h
end Go.Pv
namespace Go.Pv
open Go Go.RowKit

structure Stp2 (P : Program) (I : World → Prop) (ops : Array Oper) (base : Nat) (tgt : Nat → Option Nat) (hid : Nat → Bool) (σ : Nat → St) (τ : Nat → OH) (xs : Nat → VV) (es : Nat → Eff) (j : Nat) : Prop where
  ok : ∃ o ts, ops[j]? = some o ∧ Le (σ j).tmps ts ∧ (σ (j + 1)).tmps = putV ts o.dst (xs j) ∧ (σ (j + 1)).n = (σ j).n ∧
    ((tgt j = none ∧ hid j = false ∧ (es j).quiet = true ∧ (σ (j + 1)).heap = (es j).app (base + j) (σ j).heap ∧ τ (j + 1) = τ j ∧
        ((GuardIs ops (σ j).tmps (σ j).n o true ∧ OpOk P I o (evalV ts (σ j).n) (σ j).heap (base + j) (xs j) (es j)) ∨ (GuardIs ops (σ j).tmps (σ j).n o false ∧ xs j = .dv (.val undef) ∧ es j = .none))) ∨
     (tgt j = none ∧ hid j = true ∧ (∃ B, ∀ H, (es j).app (base + j) H = addM (base + j) H B) ∧ (σ (j + 1)).heap = (σ j).heap ∧ τ (j + 1) = (es j).app (base + j) (τ j) ∧
        GuardIs ops (σ j).tmps (σ j).n o true ∧ OpOk P I o (evalV ts (σ j).n) (σ j).heap (base + j) (xs j) (es j)) ∨
     (∃ b B, tgt j = some b ∧ hid j = false ∧ (∀ H, (es j).app (base + j) H = H.set b (some B)) ∧ (σ (j + 1)).heap = (σ j).heap ∧ τ (j + 1) = (τ j).set b (some B) ∧
        GuardIs ops (σ j).tmps (σ j).n o true ∧ OpOk P I o (evalV ts (σ j).n) ((σ j).heap.set b ((τ j).getD b none)) (base + j) (xs j) (es j)))

/-- The checks. -/
structure Chk2 (ops : Array Oper) (base : Nat) (tgt : Nat → Option Nat) (hid : Nat → Bool) : Prop where
  back : edgesBack 0 ops.toList = true
  pair : ∀ i j oi oj, i < j → ops[i]? = some oi → ops[j]? = some oj → oi.apart ops oj = true ∨ Anc ops j i
  inj : ∀ i j b, tgt i = some b → tgt j = some b → i = j
  hidT : ∀ i, hid i = true → ∃ j, tgt j = some (base + i)
  tgtH : ∀ j b, tgt j = some b → base ≤ b → hid (b - base) = true ∧ b - base < j ∧ Anc ops j (b - base)
  lt : ∀ j b, tgt j = some b → j < ops.size

section sto
variable {P : Program} {I : World → Prop} {K : Tab} {ops : Array Oper} {base : Nat} {tgt : Nat → Option Nat} {hid : Nat → Bool} {σ : Nat → St} {τ : Nat → OH} {xs : Nat → VV} {es : Nat → Eff} {H0 : OH}

def Trail2 (P : Program) (I : World → Prop) (ops : Array Oper) (base : Nat) (tgt : Nat → Option Nat) (hid : Nat → Bool) (σ : Nat → St) (τ : Nat → OH) (xs : Nat → VV) (es : Nat → Eff) : Prop := ∀ j, j < ops.size → Stp2 P I ops base tgt hid σ τ xs es j

theorem addM_len (id : Nat) (H : OH) (B : Blk) (h : id < H.length) : (addM id H B).length = H.length := by
  have hb : Nat.blt id H.length = true := Nat.ble_eq_true_of_le h
  simp [addM, hb]
theorem Trail2.heap_len (h : Trail2 P I ops base tgt hid σ τ xs es) (h0 : (σ 0).heap.length = base + ops.size) : ∀ i, i ≤ ops.size → (σ i).heap.length = base + ops.size := by
  intro i
  induction i with
  | zero => intro _; exact h0
  | succ i ih =>
    intro hi
    obtain ⟨o, ts1, ho, _, _, _, hc⟩ := (h i (by omega)).ok
    have := ih (by omega)
    rcases hc with ⟨_, _, hq, e, _⟩ | ⟨_, _, _, e, _⟩ | ⟨_, _, _, _, _, e, _⟩
    · rw [e]; exact ((app_quiet hq (base + i) (σ i).heap (by omega)).1).trans this
    · rw [e]; exact this
    · rw [e]; exact this
theorem Trail2.tau_len (h : Trail2 P I ops base tgt hid σ τ xs es) (h0 : (τ 0).length = base + ops.size) : ∀ i, i ≤ ops.size → (τ i).length = base + ops.size := by
  intro i
  induction i with
  | zero => intro _; exact h0
  | succ i ih =>
    intro hi
    obtain ⟨o, ts1, ho, _, _, _, hc⟩ := (h i (by omega)).ok
    have := ih (by omega)
    rcases hc with ⟨_, _, _, _, e, _⟩ | ⟨_, _, ⟨B, hB⟩, _, e, _⟩ | ⟨_, _, _, _, _, _, e, _⟩
    · rw [e]; exact this
    · rw [e, hB, addM_len _ _ _ (by omega)]; exact this
    · rw [e]; simpa using this
/-- A block of the first heap changes where it is made only. -/
theorem Trail2.heap_at (h : Trail2 P I ops base tgt hid σ τ xs es) (h0 : (σ 0).heap.length = base + ops.size) (b : Nat) : ∀ m i, i + m ≤ ops.size → (∀ j, i ≤ j → j < i + m → b = base + j → hid j = true ∨ tgt j ≠ none) → (σ (i + m)).heap[b]? = (σ i).heap[b]? := by
  intro m
  induction m with
  | zero => intro i _ _; rfl
  | succ m ih =>
    intro i hi hb
    obtain ⟨o, ts1, ho, _, _, _, hc⟩ := (h (i + m) (by omega)).ok
    have hl := h.heap_len h0 (i + m) (by omega)
    have hih := ih i (by omega) (fun j h1 h2 => hb j h1 (by omega))
    rw [← Nat.add_assoc]
    rcases hc with ⟨ht, hh, hq, e, _⟩ | ⟨_, _, _, e, _⟩ | ⟨_, _, _, _, _, e, _⟩
    · rw [e]
      refine ((app_quiet hq (base + (i + m)) (σ (i + m)).heap (by omega)).2 b (fun e => ?_)).trans hih
      rcases hb _ (by omega) (by omega) e with g | g
      · rw [hh] at g; cases g
      · exact g ht
    · rw [e]; exact hih
    · rw [e]; exact hih
/-- A block of the second heap changes where it is made and where it is written. -/
theorem Trail2.tau_at (h : Trail2 P I ops base tgt hid σ τ xs es) (h0 : (τ 0).length = base + ops.size) (b : Nat) : ∀ m i, i + m ≤ ops.size → (∀ j, i ≤ j → j < i + m → tgt j ≠ some b ∧ (b = base + j → hid j = false)) → (τ (i + m))[b]? = (τ i)[b]? := by
  intro m
  induction m with
  | zero => intro i _ _; rfl
  | succ m ih =>
    intro i hi hb
    obtain ⟨o, ts1, ho, _, _, _, hc⟩ := (h (i + m) (by omega)).ok
    have hl := h.tau_len h0 (i + m) (by omega)
    have hih := ih i (by omega) (fun j h1 h2 => hb j h1 (by omega))
    rw [← Nat.add_assoc]
    obtain ⟨hb1, hb2⟩ := hb (i + m) (by omega) (by omega)
    rcases hc with ⟨_, _, _, _, e, _⟩ | ⟨_, hh, ⟨B, hB⟩, _, e, _⟩ | ⟨b', B, ht, _, _, _, e, _⟩
    · rw [e]; exact hih
    · rw [e, hB, addM_other _ _ _ (by omega) b (fun e => by have := hb2 e; rw [hh] at this; cases this)]; exact hih
    · rw [e, List.getElem?_set_ne (fun e => hb1 (by rw [ht, e]))]; exact hih
theorem Trail2.n_same (h : Trail2 P I ops base tgt hid σ τ xs es) : ∀ i, i ≤ ops.size → (σ i).n = (σ 0).n := by
  intro i
  induction i with
  | zero => intro _; rfl
  | succ i ih =>
    intro hi
    obtain ⟨o, ts1, ho, _, _, e, _⟩ := (h i (by omega)).ok
    rw [e, ih (by omega)]
theorem Trail2.tmps_at (h : Trail2 P I ops base tgt hid σ τ xs es) (t : Nat) {U : Nat → Prop} {w : World} {D : Nat → Option Nat} {v : Value} : ∀ m i, i + m ≤ ops.size → (∀ j o, i ≤ j → j < i + m → ops[j]? = some o → o.dst ≠ some t) → VRep U w D ((σ i).tmps.get t) v → VRep U w D ((σ (i + m)).tmps.get t) v := by
  intro m
  induction m with
  | zero => intro i _ _ hv; exact hv
  | succ m ih =>
    intro i hi hb hv
    obtain ⟨o, ts1, ho, hle, e, _, _⟩ := (h (i + m) (by omega)).ok
    have h1 := ih i (by omega) (fun j o h1 h2 => hb j o h1 (by omega)) hv
    have hne := hb (i + m) o (by omega) (by omega) ho
    rw [← Nat.add_assoc, e]
    rcases get_putV ts1 o.dst (xs (i + m)) t with g | g
    · rw [g, if_neg hne]; exact hle.rep h1
    · rw [g]; trivial

structure Inv2 (I : World → Prop) (ops : Array Oper) (base : Nat) (tgt : Nat → Option Nat) (σ : Nat → St) (τ : Nat → OH) (H0 : OH) (N : Nat → Prop) (w0 : World) (l : Array Bool) (D : Nat → Option Nat) (U : Nat → Prop) (H' : OH) (a : Act) (w : World) : Prop where
  defers : a.defers = []
  size : a.tmps.size = (σ 0).n
  tmps : ∀ t, ∃ i, i ≤ ops.size ∧ (∀ v, a.tmps[t]? = some v → VRep U w D ((σ i).tmps.get t) v) ∧ (∀ j o, Listed l j → ops[j]? = some o → o.dst = some t → j < i) ∧
    (∀ i', i = i' + 1 → Listed l i' ∧ ∃ o, ops[i']? = some o ∧ o.dst = some t)
  len : H'.length = base + ops.size
  heapN : ∀ b, (∀ j, tgt j ≠ some b) → (b < base → H'[b]? = H0[b]?) ∧ (base ≤ b → Listed l (b - base) → H'[b]? = (σ ops.size).heap[b]?) ∧ (base ≤ b → ¬ Listed l (b - base) → b < base + ops.size → H'[b]? = some none)
  heapT : ∀ b j, tgt j = some b → (Listed l j → H'[b]? = (τ ops.size)[b]?) ∧ (¬ Listed l j → (base ≤ b → Listed l (b - base)) → H'[b]? = (τ j)[b]?) ∧ (¬ Listed l j → base ≤ b → ¬ Listed l (b - base) → H'[b]? = some none)
  wr : WRel D U N w0 H' w
  n : Lt N w
  lsize : l.size = ops.size
  i0 : ∀ w', Keeps N w0 w' → I w'

theorem Inv2.operand (hT : Trail2 P I ops base tgt hid σ τ xs es) (hC : Chk2 ops base tgt hid) {N : Nat → Prop} {w0 : World} {l : Array Bool} {D : Nat → Option Nat} {U : Nat → Prop} {H' : OH} {a : Act} {w : World} (hI : Inv2 I ops base tgt σ τ H0 N w0 l D U H' a w) (hc : Closed ops l)
    {i0 : Nat} (hr : i0 ∈ Region.ready .any ops l) (hi0 : i0 < ops.size) {o : Oper} (ho : ops[i0]? = some o) (t : Nat) (ht : t ∈ o.looksAt ops) : ∀ v, a.tmps[t]? = some v → VRep U w D ((σ i0).tmps.get t) v := by
  obtain ⟨i, hip, hv, hlast, hfst⟩ := hI.tmps t
  have hnl : ¬ Listed l i0 := ((mem_ready hI.lsize).1 hr).1
  have hii : i ≤ i0 := by
    rcases Nat.eq_zero_or_pos i with h | h
    · omega
    · obtain ⟨i', rfl⟩ : ∃ i', i = i' + 1 := ⟨i - 1, by omega⟩
      obtain ⟨hl', o', ho', hd'⟩ := hfst i' rfl
      rcases Nat.lt_trichotomy i' i0 with h1 | h1 | h1
      · omega
      · subst h1; exact absurd hl' hnl
      · rcases hC.pair i0 i' o o' h1 ho ho' with hap | hanc
        · exact absurd ht ((dst_looks hap).2.2 t hd')
        · exact absurd (hanc.listed hc hl') hnl
  intro v hav
  obtain ⟨m, rfl⟩ : ∃ m, i0 = i + m := ⟨i0 - i, by omega⟩
  refine hT.tmps_at t m i (by omega) (fun j oj h1 h2 hoj hd => ?_) (hv v hav)
  rcases hC.pair j (i + m) oj o h2 hoj ho with hap | hanc
  · exact (dst_looks hap).1 t hd ht
  · have := hlast j oj (hanc.ready hI.lsize hc hr) hoj hd
    omega

/-- What the second heap holds of a target at the end. -/
theorem Trail2.tau_end (hT : Trail2 P I ops base tgt hid σ τ xs es) (hC : Chk2 ops base tgt hid) (h0 : (τ 0).length = base + ops.size) {j b : Nat} (hj : tgt j = some b) : (τ ops.size)[b]? = (τ (j + 1))[b]? := by
  have hlt := hC.lt j b hj
  obtain ⟨m, hm⟩ : ∃ m, ops.size = j + 1 + m := ⟨ops.size - (j + 1), by omega⟩
  have := hT.tau_at h0 b m (j + 1) (by omega) (fun k h1 h2 => ⟨fun e => by have := hC.inj _ _ _ e hj; omega, fun e => by
    cases hh : hid k with
    | false => rfl
    | true =>
      have := (hC.tgtH j b hj (by omega)).2.1
      omega⟩)
  rw [← hm] at this
  exact this
theorem Trail2.new (hT : Trail2 P I ops base tgt hid σ τ xs es) (hC : Chk2 ops base tgt hid) (h0 : (σ 0).heap.length = base + ops.size) (ht0 : (τ 0).length = base + ops.size) (hz : ∀ j, j < ops.size → (σ 0).heap[base + j]? = some none)
    {N : Nat → Prop} {w0 : World} {l : Array Bool} {D : Nat → Option Nat} {U : Nat → Prop} {H' : OH} {a : Act} {w : World} (hI : Inv2 I ops base tgt σ τ H0 N w0 l D U H' a w) (hc : Closed ops l)
    {i0 : Nat} (hr : i0 ∈ Region.ready .any ops l) (hi0 : i0 < ops.size) {o : Oper} (ho : ops[i0]? = some o) :
    ((es i0).app (base + i0) H').length = base + ops.size ∧
    (∀ b, (∀ j, tgt j ≠ some b) → (b < base → ((es i0).app (base + i0) H')[b]? = H0[b]?) ∧ (base ≤ b → Listed (l.setIfInBounds i0 true) (b - base) → ((es i0).app (base + i0) H')[b]? = (σ ops.size).heap[b]?) ∧ (base ≤ b → ¬ Listed (l.setIfInBounds i0 true) (b - base) → b < base + ops.size → ((es i0).app (base + i0) H')[b]? = some none)) ∧
    (∀ b j, tgt j = some b → (Listed (l.setIfInBounds i0 true) j → ((es i0).app (base + i0) H')[b]? = (τ ops.size)[b]?) ∧ (¬ Listed (l.setIfInBounds i0 true) j → (base ≤ b → Listed (l.setIfInBounds i0 true) (b - base)) → ((es i0).app (base + i0) H')[b]? = (τ j)[b]?) ∧ (¬ Listed (l.setIfInBounds i0 true) j → base ≤ b → ¬ Listed (l.setIfInBounds i0 true) (b - base) → ((es i0).app (base + i0) H')[b]? = some none)) := by
  have hnl : ¬ Listed l i0 := ((mem_ready hI.lsize).1 hr).1
  have hls : i0 < l.size := by rw [hI.lsize]; exact hi0
  have hlen : base + i0 < H'.length := by rw [hI.len]; omega
  have hset : ∀ j, Listed (l.setIfInBounds i0 true) j ↔ j = i0 ∨ Listed l j := fun j => listed_set hls
  have hother : ∀ j, j ≠ i0 → (Listed (l.setIfInBounds i0 true) j ↔ Listed l j) := fun j hj => by rw [hset]; simp [hj]
  obtain ⟨o', ts1, ho', hle, _, _, hcase⟩ := (hT i0 hi0).ok
  -- where the block of this place is no target and was not made
  have hfree : (∀ j, tgt j ≠ some (base + i0)) → H'[base + i0]? = some none := fun hn => (hI.heapN _ hn).2.2 (by omega) (by rw [Nat.add_sub_cancel_left]; exact hnl) (by omega)
  have hendN : (hid i0 = true ∨ tgt i0 ≠ none) → (σ ops.size).heap[base + i0]? = some none := fun g => by
    have := hT.heap_at h0 (base + i0) ops.size 0 (by omega) (fun j h1 h2 e => by
      obtain rfl : j = i0 := by omega
      exact g)
    rw [Nat.zero_add] at this
    rw [this]; exact hz i0 hi0
  rcases hcase with ⟨htg, hhd, hq, e, eτ, _⟩ | ⟨htg, hhd, ⟨B, hB⟩, e, eτ, _⟩ | ⟨b0, B, htg, hhd, hB, e, eτ, _⟩
  · -- quiet
    have haq := app_quiet hq (base + i0) H' hlen
    refine ⟨haq.1.trans hI.len, ?_, ?_⟩
    · intro b hn
      obtain ⟨hb1, hb2, hb3⟩ := hI.heapN b hn
      by_cases hb : b = base + i0
      · subst hb
        refine ⟨fun h => by omega, fun _ _ => ?_, fun _ h => absurd ((hset _).2 (.inl (by omega))) h⟩
        have hfin : (σ ops.size).heap[base + i0]? = (σ (i0 + 1)).heap[base + i0]? := by
          obtain ⟨m, hm⟩ : ∃ m, ops.size = i0 + 1 + m := ⟨ops.size - (i0 + 1), by omega⟩
          have := hT.heap_at h0 (base + i0) m (i0 + 1) (by omega) (fun j h1 h2 e => by omega)
          rw [← hm] at this
          exact this
        have hbef : (σ i0).heap[base + i0]? = some none := by
          have := hT.heap_at h0 (base + i0) i0 0 (by omega) (fun j h1 h2 e => by omega)
          rw [Nat.zero_add] at this
          rw [this]
          exact hz i0 hi0
        rw [hfin, e]
        have hH' := hfree hn
        have hl2 := hT.heap_len h0 i0 (by omega)
        cases hes : es i0 with
        | none => simp only [Eff.app]; rw [hH', hbef]
        | upd b cs => rw [hes] at hq; cases hq
        | move b cs => rw [hes] at hq; cases hq
        | updm b cs => rw [hes] at hq; cases hq
        | call ids Hc => rw [hes] at hq; cases hq
        | ice bs => rw [hes] at hq; cases hq
        | newm cs =>
          simp only [Eff.app]
          rw [addM_same _ _ _ (by omega), addM_same _ _ _ (by omega)]
        | new cs =>
          simp only [Eff.app]
          rw [addB_same _ _ _ (by omega), addB_same _ _ _ (by omega)]
      · rw [haq.2 b hb]
        refine ⟨hb1, fun h1 h2 => hb2 h1 ((hother _ (by omega)).1 h2), fun h1 h2 => hb3 h1 (fun h => h2 ((hset _).2 (.inr h)))⟩
    · intro b j hj
      obtain ⟨hb1, hb2, hb3⟩ := hI.heapT b j hj
      have hji : j ≠ i0 := fun e => by rw [e, htg] at hj; cases hj
      have hb : b ≠ base + i0 := fun e => by
        have := (hC.tgtH j b hj (by omega)).1
        rw [e, Nat.add_sub_cancel_left, hhd] at this; cases this
      rw [haq.2 b hb, hother j hji]
      refine ⟨hb1, fun h1 h2 => hb2 h1 (fun h => (hother _ (by omega)).1 (h2 h)), fun h1 h2 h3 => hb3 h1 h2 (fun h => h3 ((hset _).2 (.inr h)))⟩
  · -- a hidden block is made
    rw [hB]
    refine ⟨(addM_len _ _ _ hlen).trans hI.len, ?_, ?_⟩
    · intro b hn
      obtain ⟨hb1, hb2, hb3⟩ := hI.heapN b hn
      have hb : b ≠ base + i0 := fun e => by
        obtain ⟨j, hj⟩ := hC.hidT i0 hhd
        exact hn j (by rw [hj, e])
      rw [addM_other _ _ _ (by omega) b hb]
      refine ⟨hb1, fun h1 h2 => hb2 h1 ((hother _ (by omega)).1 h2), fun h1 h2 => hb3 h1 (fun h => h2 ((hset _).2 (.inr h)))⟩
    · intro b j hj
      obtain ⟨hb1, hb2, hb3⟩ := hI.heapT b j hj
      have hji : j ≠ i0 := fun e => by rw [e, htg] at hj; cases hj
      rw [hother j hji]
      by_cases hb : b = base + i0
      · subst hb
        obtain ⟨_, hlt, hanc⟩ := hC.tgtH j _ hj (by omega)
        rw [Nat.add_sub_cancel_left] at hlt hanc
        have hnj : ¬ Listed l j := fun h => hnl (hanc.listed hc h)
        refine ⟨fun h => absurd h hnj, fun _ _ => ?_, fun _ _ h => absurd ((hset _).2 (.inl (by omega))) h⟩
        rw [addM_same _ _ _ (by omega)]
        have hjs := hC.lt j _ hj
        obtain ⟨m, hm⟩ : ∃ m, j = i0 + 1 + m := ⟨j - (i0 + 1), by omega⟩
        have := hT.tau_at ht0 (base + i0) m (i0 + 1) (by omega) (fun k h1 h2 => ⟨fun e => by have := hC.inj _ _ _ e hj; omega, fun e => by omega⟩)
        rw [← hm] at this
        rw [this, eτ, hB, addM_same _ _ _ (by have := hT.tau_len ht0 i0 (by omega); omega)]
      · rw [addM_other _ _ _ (by omega) b hb]
        refine ⟨hb1, fun h1 h2 => hb2 h1 (fun h => (hother _ (by omega)).1 (h2 h)), fun h1 h2 h3 => hb3 h1 h2 (fun h => h3 ((hset _).2 (.inr h)))⟩
  · -- a target is written
    rw [hB]
    refine ⟨by simpa using hI.len, ?_, ?_⟩
    · intro b hn
      obtain ⟨hb1, hb2, hb3⟩ := hI.heapN b hn
      have hb : b0 ≠ b := fun e => hn i0 (by rw [htg, e])
      rw [List.getElem?_set_ne hb]
      refine ⟨hb1, fun h1 h2 => ?_, fun h1 h2 => hb3 h1 (fun h => h2 ((hset _).2 (.inr h)))⟩
      by_cases hbi : b = base + i0
      · subst hbi
        rw [hfree hn, hendN (.inr (by rw [htg]; simp))]
      · exact hb2 h1 ((hother _ (by omega)).1 h2)
    · intro b j hj
      obtain ⟨hb1, hb2, hb3⟩ := hI.heapT b j hj
      by_cases hji : j = i0
      · subst hji
        obtain rfl : b0 = b := by rw [htg] at hj; cases hj; rfl
        have hjl : Listed (l.setIfInBounds j true) j := (hset _).2 (.inl rfl)
        refine ⟨fun _ => ?_, fun h => absurd hjl h, fun h => absurd hjl h⟩
        rw [hT.tau_end hC ht0 hj, eτ]
        have hb : b0 < base + ops.size := by
          rcases Nat.lt_or_ge b0 base with h | h
          · omega
          · have := (hC.tgtH j _ hj h).2.1; omega
        rw [List.getElem?_set_self (by rw [hI.len]; exact hb), List.getElem?_set_self (by rw [hT.tau_len ht0 j (by omega)]; exact hb)]
      · have hb : b0 ≠ b := fun e => hji (hC.inj _ _ _ hj (by rw [htg, e]))
        have hbi : b ≠ base + i0 := fun e => by
          have := (hC.tgtH j b hj (by omega)).1
          rw [e, Nat.add_sub_cancel_left, hhd] at this; cases this
        rw [List.getElem?_set_ne hb, hother j hji]
        refine ⟨hb1, fun h1 h2 => hb2 h1 (fun h => (hother _ (by omega)).1 (h2 h)), fun h1 h2 h3 => hb3 h1 h2 (fun h => h3 ((hset _).2 (.inr h)))⟩

theorem Inv2.next (hT : Trail2 P I ops base tgt hid σ τ xs es) (hC : Chk2 ops base tgt hid) (h0 : (σ 0).heap.length = base + ops.size) (ht0 : (τ 0).length = base + ops.size) (hz : ∀ j, j < ops.size → (σ 0).heap[base + j]? = some none) {N : Nat → Prop} {w0 : World} {l : Array Bool} {D : Nat → Option Nat} {U : Nat → Prop} {H' : OH} {a : Act} {w : World} (hI : Inv2 I ops base tgt σ τ H0 N w0 l D U H' a w) (hc : Closed ops l)
    {i0 : Nat} (hr : i0 ∈ Region.ready .any ops l) (hi0 : i0 < ops.size) {o : Oper} (ho : ops[i0]? = some o) {ts1 : Tr} (he : (σ (i0 + 1)).tmps = putV ts1 o.dst (xs i0))
    {v : Value} {w' : World} {D' : Nat → Option Nat} {U' : Nat → Prop} (hon : Onward N D U w D' U' w') (hW : WRel D' U' N w0 ((es i0).app (base + i0) H') w') (hx : VRep U' w' D' (xs i0) v) :
    Inv2 I ops base tgt σ τ H0 N w0 (l.setIfInBounds i0 true) D' U' ((es i0).app (base + i0) H') (a.put o.dst v) w' := by
  have hnl : ¬ Listed l i0 := ((mem_ready hI.lsize).1 hr).1
  have hls : i0 < l.size := by rw [hI.lsize]; exact hi0
  obtain ⟨g1, g2, g3⟩ := hT.new hC h0 ht0 hz hI hc hr hi0 ho
  refine ⟨?_, ?_, ?_, g1, g2, g3, hW, hI.n.mono hon.size, by simpa using hI.lsize, hI.i0⟩
  · simp only [Act.put]; split <;> exact hI.defers
  · have : (a.put o.dst v).tmps.size = a.tmps.size := by simp only [Act.put]; split <;> simp
    rw [this]; exact hI.size
  · intro t
    by_cases hd : o.dst = some t
    · refine ⟨i0 + 1, by omega, ?_, ?_, ?_⟩
      · intro u h2
        rw [he]
        simp only [hd, Act.put] at h2 ⊢
        rw [Array.getElem?_setIfInBounds] at h2
        simp at h2
        rcases get_putV ts1 (some t) (xs i0) t with g | g
        · rw [g, if_pos rfl, ← h2.2]; exact hx
        · rw [g]; trivial
      · intro j oj hl hoj hdj
        rcases (listed_set hls).1 hl with rfl | hl
        · omega
        · rcases Nat.lt_or_ge j (i0 + 1) with h | h
          · exact h
          · rcases hC.pair i0 j o oj (by omega) ho hoj with hap | hanc
            · exact absurd hdj ((dst_looks hap).2.1 t hd)
            · exact absurd (hanc.listed hc hl) hnl
      · intro i' hi'
        obtain rfl : i' = i0 := by omega
        exact ⟨(listed_set hls).2 (.inl rfl), o, ho, hd⟩
    · obtain ⟨i, hip, hv, hlast, hfst⟩ := hI.tmps t
      refine ⟨i, hip, ?_, ?_, ?_⟩
      · intro u h2
        have h3 : a.tmps[t]? = some u := by
          simp only [Act.put] at h2
          split at h2
          · rename_i d hd'
            rw [Array.getElem?_setIfInBounds_ne (fun e => hd (by rw [hd', e]))] at h2
            exact h2
          · exact h2
        exact (hv u h3).onward hon
      · intro j oj hl hoj hdj
        rcases (listed_set hls).1 hl with rfl | hl
        · rw [ho] at hoj; cases hoj; exact absurd hdj hd
        · exact hlast j oj hl hoj hdj
      · intro i' hi'
        obtain ⟨h1, h2⟩ := hfst i' hi'
        exact ⟨(listed_set hls).2 (.inr h1), h2⟩

/-- The two heaps in one. -/
def mergeH : OH → OH → OH
  | x :: xs, y :: ys => (match y with | some B => some B | none => x) :: mergeH xs ys
  | xs, _ => xs
theorem mergeH_get : ∀ (h t : OH) (b : Nat), h.length = t.length → (mergeH h t)[b]? = match t[b]? with | some (some B) => some (some B) | _ => h[b]?
  | [], [], b, _ => by simp [mergeH]
  | x :: xs, [], b, h => by simp at h
  | [], y :: ys, b, h => by simp at h
  | x :: xs, y :: ys, 0, h => by cases y <;> simp [mergeH]
  | x :: xs, y :: ys, b + 1, h => by
    simp only [mergeH, List.getElem?_cons_succ]
    exact mergeH_get xs ys b (by simpa using h)
theorem mergeH_len : ∀ (h t : OH), h.length = t.length → (mergeH h t).length = h.length
  | [], [], _ => by simp [mergeH]
  | x :: xs, [], h => by simp at h
  | [], y :: ys, h => by simp at h
  | x :: xs, y :: ys, h => by simp only [mergeH, List.length_cons]; rw [mergeH_len xs ys (by simpa using h)]

theorem Inv2.last (hT : Trail2 P I ops base tgt hid σ τ xs es) (hC : Chk2 ops base tgt hid) (h0 : (σ 0).heap.length = base + ops.size) (ht0 : (τ 0).length = base + ops.size) (hz0 : ∀ b, b < base → (∀ j, tgt j ≠ some b) → (σ 0).heap[b]? = H0[b]?) (hz : ∀ j, j < ops.size → (σ 0).heap[base + j]? = some none)
    (hzt : ∀ b, b < base + ops.size → (∀ j, tgt j ≠ some b) → (τ 0)[b]? = some none) {N : Nat → Prop} {w0 : World} {l : Array Bool} {D : Nat → Option Nat} {U : Nat → Prop} {H' : OH} {a : Act} {w : World}
    (hI : Inv2 I ops base tgt σ τ H0 N w0 l D U H' a w) (hall : ∀ j, j < ops.size → Listed l j) : Rel I D U N w0 ⟨(σ ops.size).tmps, (σ ops.size).n, mergeH (σ ops.size).heap (τ ops.size)⟩ a w := by
  have hls := hT.heap_len h0 ops.size (Nat.le_refl _)
  have hlt := hT.tau_len ht0 ops.size (Nat.le_refl _)
  have hH : H' = mergeH (σ ops.size).heap (τ ops.size) := by
    apply List.ext_getElem?
    intro b
    rw [mergeH_get _ _ _ (by omega)]
    rcases Nat.lt_or_ge b (base + ops.size) with hb | hb
    case inr => rw [List.getElem?_eq_none (by rw [hI.len]; exact hb), List.getElem?_eq_none (l := τ ops.size) (by omega), List.getElem?_eq_none (by omega)]
    by_cases htb : ∃ j, tgt j = some b
    · obtain ⟨j, hj⟩ := htb
      have hjs := hC.lt j b hj
      rw [(hI.heapT b j hj).1 (hall j hjs)]
      obtain ⟨o, ts1, ho, _, _, _, hcase⟩ := (hT j hjs).ok
      have hB : ∃ B, (τ ops.size)[b]? = some (some B) := by
        rw [hT.tau_end hC ht0 hj]
        rcases hcase with ⟨ht, _⟩ | ⟨ht, _⟩ | ⟨b0, B, ht, _, _, _, e, _⟩
        · rw [ht] at hj; cases hj
        · rw [ht] at hj; cases hj
        · obtain rfl : b0 = b := by rw [ht] at hj; cases hj; rfl
          exact ⟨B, by rw [e, List.getElem?_set_self (by rw [hT.tau_len ht0 j (by omega)]; exact hb)]⟩
      obtain ⟨B, hB⟩ := hB
      rw [hB]
    · have hn : ∀ j, tgt j ≠ some b := fun j e => htb ⟨j, e⟩
      have htau : (τ ops.size)[b]? = some none := by
        have := hT.tau_at ht0 b ops.size 0 (by omega) (fun j h1 h2 => ⟨hn j, fun e => by
          cases hh : hid j with
          | false => rfl
          | true =>
            obtain ⟨j', hj'⟩ := hC.hidT j hh
            exact absurd (by rw [hj', e]) (hn j')⟩)
        rw [Nat.zero_add] at this
        rw [this]; exact hzt b hb hn
      rw [htau]
      simp only []
      obtain ⟨hb1, hb2, hb3⟩ := hI.heapN b hn
      rcases Nat.lt_or_ge b base with h | h
      · rw [hb1 h, ← hz0 b h hn]
        have := hT.heap_at h0 b ops.size 0 (by omega) (fun j h1 h2 e => by omega)
        rw [Nat.zero_add] at this
        exact this.symm
      · exact hb2 h (hall _ (by omega))
  refine ⟨⟨hI.defers, ?_, ?_⟩, hH ▸ hI.wr, hI.n, hI.i0⟩
  · rw [hI.size, hT.n_same _ (Nat.le_refl _)]
  · intro t v h2
    obtain ⟨i, hip, hv, hlast, hfst⟩ := hI.tmps t
    obtain ⟨m, hm⟩ : ∃ m, ops.size = i + m := ⟨ops.size - i, by omega⟩
    have := hT.tmps_at t m i (by omega) (fun j o h1 h2 hj hd => by have := hlast j o (hall j (by omega)) hj hd; omega) (hv v h2)
    rw [← hm] at this
    exact this

theorem any2_ok (HK : KGood P I K) (hT : Trail2 P I ops base tgt hid σ τ xs es) (hC : Chk2 ops base tgt hid) (h0 : (σ 0).heap.length = base + ops.size) (ht0 : (τ 0).length = base + ops.size) (hz0 : ∀ b, b < base → (∀ j, tgt j ≠ some b) → (σ 0).heap[b]? = H0[b]?) (hz : ∀ j, j < ops.size → (σ 0).heap[base + j]? = some none)
    (hzt : ∀ b, b < base + ops.size → (∀ j, tgt j ≠ some b) → (τ 0)[b]? = some none) (hzh : ∀ b j, b < base → tgt j = some b → (σ 0).heap[b]? = some none)
    {Q : Exit → Act → World → Prop} {k : St → Option DV} {r : DV} {N : Nat → Prop} {w0 : World} (hk : k ⟨(σ ops.size).tmps, (σ ops.size).n, mergeH (σ ops.size).heap (τ ops.size)⟩ = some r) : ∀ (fuel : Nat) (l : Array Bool) (D : Nat → Option Nat) (U : Nat → Prop) (H' : OH) (a : Act) (w : World),
    Inv2 I ops base tgt σ τ H0 N w0 l D U H' a w → Closed ops l → left ops.size l ≤ fuel →
    (∀ s' D' U' a' w', k s' = some r → Rel I D' U' N w0 s' a' w' → Onward N D U w D' U' w' → Q .normal a' w') → wpAny P .any ops Q fuel l a w := by
  have hideσ : ∀ b j i, tgt j = some b → i ≤ ops.size → (σ i).heap[b]? = some none := by
    intro b j i hj hi
    have := hT.heap_at h0 b i 0 (by omega) (fun k h1 h2 e => by
      have := (hC.tgtH j b hj (by omega)).1
      rw [e, Nat.add_sub_cancel_left] at this
      exact .inl this)
    rw [Nat.zero_add] at this
    rw [this]
    rcases Nat.lt_or_ge b base with h | h
    · exact hzh b j h hj
    · have h2 := (hC.tgtH j b hj h).2.1
      have h3 := hC.lt j b hj
      have := hz (b - base) (by omega)
      rw [show base + (b - base) = b by omega] at this
      exact this
  intro fuel
  induction fuel with
  | zero =>
    intro l D U H' a w hI hc hf hQ
    have hall := all_of_left (Nat.le_zero.1 hf)
    have hnil : Region.ready .any ops l = [] := by
      cases hr : Region.ready .any ops l with
      | nil => rfl
      | cons i rest =>
        have hi : i ∈ Region.ready .any ops l := by rw [hr]; simp
        obtain ⟨h1, o, ho, _⟩ := (mem_ready hI.lsize).1 hi
        exact absurd (hall i (Array.getElem?_eq_some_iff.1 ho).1) h1
    exact ⟨hnil, hQ _ D U a w hk (hI.last hT hC h0 ht0 hz0 hz hzt hall) Onward.refl⟩
  | succ fuel ih =>
    intro l D U H' a w hI hc hf hQ
    refine ⟨fun hr => hQ _ D U a w hk (hI.last hT hC h0 ht0 hz0 hz hzt (all_of_stuck hI.lsize hC.back hr)) Onward.refl, fun i hi => ?_⟩
    obtain ⟨hnl, o, ho, _⟩ := (mem_ready hI.lsize).1 hi
    have his := (Array.getElem?_eq_some_iff.1 ho).1
    obtain ⟨o', ts1, ho', hle, he, _, hcase⟩ := (hT i his).ok
    rw [ho] at ho'; cases ho'
    have hlen : base + i < H'.length := by rw [hI.len]; omega
    have hHn : H'[base + i]? = some none := by
      by_cases htb : ∃ j, tgt j = some (base + i)
      · obtain ⟨j, hj⟩ := htb
        obtain ⟨_, _, hanc⟩ := hC.tgtH j _ hj (by omega)
        rw [Nat.add_sub_cancel_left] at hanc
        exact (hI.heapT _ j hj).2.2 (fun h => hnl (hanc.listed hc h)) (by omega) (by rw [Nat.add_sub_cancel_left]; exact hnl)
      · exact (hI.heapN _ (fun j e => htb ⟨j, e⟩)).2.2 (by omega) (by rw [Nat.add_sub_cancel_left]; exact hnl) (by omega)
    have hdn : D (base + i) = none := by
      cases hd : D (base + i) with
      | none => rfl
      | some kk =>
        obtain ⟨_, _, vs, g⟩ := hI.wr.own _ kk hd
        rw [hHn] at g; cases g
    have hop := hI.operand hT hC hc hi his ho
    have hlft : left ops.size (l.setIfInBounds i true) ≤ fuel := by have := left_set his hI.lsize hnl; omega
    have hc' := hc.set hI.lsize hi
    have hsz : a.tmps.size = (σ i).n := by rw [hI.size, hT.n_same i (by omega)]
    have hcompat : Compat (σ i).heap H' := by
      intro b cs cs' h1 h2
      have hn : ∀ j, tgt j ≠ some b := fun j e => by rw [hideσ b j i e (by omega)] at h1; cases h1
      obtain ⟨hb1, hb2, hb3⟩ := hI.heapN b hn
      rcases Nat.lt_or_ge b base with h | h
      · rw [hb1 h, ← hz0 b h hn] at h2
        have := hT.heap_at h0 b i 0 (by omega) (fun j h1 h2 e => by omega)
        rw [Nat.zero_add] at this
        rw [this, h2] at h1
        simpa using h1.symm
      · by_cases hl : Listed l (b - base)
        · rw [hb2 h hl] at h2
          have hblt : b - base < ops.size := by
            have : b < (σ ops.size).heap.length := (List.getElem?_eq_some_iff.1 h2).1
            rw [hT.heap_len h0 _ (Nat.le_refl _)] at this; omega
          have hlt : b - base < i := by
            rcases Nat.lt_or_ge (b - base) i with h' | h'
            · exact h'
            · exfalso
              have := hT.heap_at h0 b i 0 (by omega) (fun j h1 h2 e => by omega)
              rw [Nat.zero_add] at this
              rw [this] at h1
              have := hz (b - base) hblt
              rw [show base + (b - base) = b by omega] at this
              rw [this] at h1; cases h1
          obtain ⟨m, hm⟩ : ∃ m, ops.size = i + m := ⟨ops.size - i, by omega⟩
          have := hT.heap_at h0 b m i (by omega) (fun j h1 h2 e => by omega)
          rw [← hm] at this
          rw [this, h1] at h2
          simpa using h2
        · have hbl : b < base + ops.size := by
            have := (List.getElem?_eq_some_iff.1 h2).1
            rw [hI.len] at this; exact this
          rw [hb3 h hl hbl] at h2; cases h2
    have hevs : ∀ y ∈ o.op.operands, VRep U w D (evalV ts1 (σ i).n y) (a.eval y) := fun y hy => evalV_rep hsz y fun t ht v h2 => hle.rep (hop t (by
      unfold Oper.looksAt
      exact List.mem_append_left _ (List.mem_filterMap.2 ⟨.tmp t, by rw [← ht]; simpa using hy, rfl⟩)) v h2)
    have go : ∀ (Hj : OH), Compat Hj H' → GuardIs ops (σ i).tmps (σ i).n o true → OpOk P I o (evalV ts1 (σ i).n) Hj (base + i) (xs i) (es i) → wpOp P ops Q i (wpAny P .any ops Q fuel (l.setIfInBounds i true)) a w := by
      intro Hj hcj hg hok
      unfold wpOp
      rw [ho]
      simp only []
      have hw := hg.real (D := D) (U := U) (w := w) (a := a) hsz hop
      simp only [hw, if_true]
      left
      refine hok D U N w0 H' w a _ Q (hI.i0 w hI.wr.below) hcj hI.wr hI.n hdn (by omega) hevs ?_
      intro v w' D' U' hon hW' _ hx
      refine ih _ D' U' _ _ w' (hI.next hT hC h0 ht0 hz hc hi his ho he hon hW' hx) hc' hlft ?_
      intro s' D'' U'' a' w'' hk' hR' hon'
      exact hQ s' D'' U'' a' w'' hk' hR' (hon.trans hon')
    rcases hcase with ⟨_, _, _, _, _, hcase⟩ | ⟨_, _, _, _, _, hg, hok⟩ | ⟨b, B, hb, _, _, _, _, hg, hok⟩
    · rcases hcase with ⟨hg, hok⟩ | ⟨hg, hx, heff⟩
      · exact go _ hcompat hg hok
      · unfold wpOp
        rw [ho]
        simp only []
        have hw := hg.real (D := D) (U := U) (w := w) (a := a) hsz hop
        simp only [hw, Bool.false_eq_true, if_false]
        have hn := hI.next hT hC h0 ht0 hz hc hi his ho he (v := undef) (w' := w) Onward.refl (by rw [heff]; exact hI.wr) (by rw [hx]; exact .val _)
        rw [heff] at hn
        exact ih _ D U _ _ w hn hc' hlft hQ
    · exact go _ hcompat hg hok
    · refine go _ ?_ hg hok
      intro b' cs cs' h1 h2
      by_cases hbb : b = b'
      · subst hbb
        have hbl : b < (σ i).heap.length := by
          rcases Nat.lt_or_ge b (σ i).heap.length with h | h
          · exact h
          · rw [List.getElem?_eq_none (by simpa using h)] at h1; cases h1
        rw [List.getElem?_set_self hbl] at h1
        have h3 : (τ i)[b]? = some (some cs) := by
          rw [List.getD_eq_getElem?_getD] at h1
          cases hτ : (τ i)[b]? with
          | none => rw [hτ] at h1; simp at h1
          | some x => rw [hτ] at h1; simpa using h1
        obtain ⟨g1, g2, g3⟩ := hI.heapT b i hb
        by_cases hlb : base ≤ b → Listed l (b - base)
        · rw [g2 hnl hlb, h3] at h2
          simpa using h2
        · have hbb : base ≤ b := by
            rcases Nat.lt_or_ge b base with h | h
            · exact absurd (fun h' => by omega) hlb
            · exact h
          rw [g3 hnl hbb (fun h => hlb fun _ => h)] at h2; cases h2
      · rw [List.getElem?_set_ne hbb] at h1
        exact hcompat b' cs cs' h1 h2
end sto
end Go.Pv
namespace Go.Pv
open Go Go.RowKit

def pairsB (ops : Array Oper) (p : Nat) (T : List (List Nat)) : Bool :=
  (List.range ops.size).all fun j => (List.range j).all fun i =>
    (Nat.blt j p && (match ops[i]?, ops[j]? with | some a, some b => a.apart ops b | _, _ => false)) || (T.getD j []).any (Nat.beq i)
def drawChk (ops : Array Oper) (p : Nat) : Bool := edgesBack 0 ops.toList && Nat.ble p ops.size && pairsB ops p (ancT ops)
theorem drawChk_ok {ops : Array Oper} {p : Nat} (h : drawChk ops p = true) : Chk ops p := by
  simp only [drawChk, Bool.and_eq_true] at h
  obtain ⟨⟨h1, h2⟩, h3⟩ := h
  refine ⟨h1, Nat.le_of_ble_eq_true h2, fun i j oi oj hij hi hj => ?_⟩
  have hjs := (Array.getElem?_eq_some_iff.1 hj).1
  have := List.all_eq_true.1 h3 j (by simpa using hjs)
  have := List.all_eq_true.1 this i (by simpa using hij)
  rw [Bool.or_eq_true] at this
  rcases this with h | h
  · left
    simp only [Bool.and_eq_true, hi, hj] at h
    exact ⟨Nat.le_of_ble_eq_true h.1, h.2⟩
  · right
    rw [List.any_eq_true] at h
    obtain ⟨x, hx, hb⟩ := h
    have := Nat.eq_of_beq_eq_true hb
    subst this
    exact ancT_sound ops j i hx

def lookP : List (Nat × Nat) → Nat → Option Nat
  | [], _ => none
  | p :: r, i => bif Nat.beq p.1 i then some p.2 else lookP r i
theorem lookP_mem : ∀ (l : List (Nat × Nat)) (i b : Nat), lookP l i = some b → (i, b) ∈ l
  | [], i, b, h => by simp [lookP] at h
  | p :: r, i, b, h => by
    simp only [lookP] at h
    cases hb : Nat.beq p.1 i with
    | true =>
      rw [hb] at h
      have := Nat.eq_of_beq_eq_true hb
      simp at h
      rw [← this, ← h]; simp
    | false => rw [hb] at h; exact List.mem_cons_of_mem _ (lookP_mem r i b (by simpa using h))

noncomputable def parS (P : Program) (K : Tab) (ops : Array Oper) (base : Nat) (tg : List (Nat × Nat)) (hids : List Nat) : List Nat → St → OH → (St × OH → Option DV) → Option DV
  | [], s, t, k => k (s, t)
  | i :: rest, ⟨ts, n, h⟩, t, k => match ops[i]? with
    | none => none
    | some o => match lookP tg i with
      | some b => guardK ops ts n o
        (fun ts => frc (h.set b (t.getD b none)) fun hb => opk P K (evalV ts n) hb (base + i) o fun x eff => match eff with
          | .upd b' cs => bif Nat.beq b' b then putK ts o.dst x fun ts' => appK (base + i) t (.upd b' cs) fun t' => parS P K ops base tg hids rest ⟨ts', n, h⟩ t' k else none
          | .updm b' cs => bif Nat.beq b' b then putK ts o.dst x fun ts' => appK (base + i) t (.updm b' cs) fun t' => parS P K ops base tg hids rest ⟨ts', n, h⟩ t' k else none
          | _ => none)
        (fun _ => none)
      | none => bif hids.any (Nat.beq i) then guardK ops ts n o
          (fun ts => opk P K (evalV ts n) h (base + i) o fun x eff => match eff with
            | .new cs => putK ts o.dst x fun ts' => appK (base + i) t (.new cs) fun t' => parS P K ops base tg hids rest ⟨ts', n, h⟩ t' k
            | .newm cs => putK ts o.dst x fun ts' => appK (base + i) t (.newm cs) fun t' => parS P K ops base tg hids rest ⟨ts', n, h⟩ t' k
            | _ => none)
          (fun _ => none)
        else guardK ops ts n o
          (fun ts => opk P K (evalV ts n) h (base + i) o fun x eff => match eff with
            | .none => putK ts o.dst x fun ts' => parS P K ops base tg hids rest ⟨ts', n, h⟩ t k
            | .new cs => putK ts o.dst x fun ts' => appK (base + i) h (.new cs) fun h' => parS P K ops base tg hids rest ⟨ts', n, h'⟩ t k
            | .newm cs => putK ts o.dst x fun ts' => appK (base + i) h (.newm cs) fun h' => parS P K ops base tg hids rest ⟨ts', n, h'⟩ t k
            | _ => none)
          (fun ts => putK ts o.dst (.dv (.val undef)) fun ts' => parS P K ops base tg hids rest ⟨ts', n, h⟩ t k)
theorem parS_cons (P : Program) (K : Tab) (ops : Array Oper) (base : Nat) (tg : List (Nat × Nat)) (hids : List Nat) (i : Nat) (rest : List Nat) (s : St) (t : OH) (k : St × OH → Option DV) : parS P K ops base tg hids (i :: rest) s t k = match ops[i]? with
    | none => none
    | some o => match lookP tg i with
      | some b => guardK ops s.tmps s.n o
        (fun ts => opk P K (evalV ts s.n) (s.heap.set b (t.getD b none)) (base + i) o fun x eff => match eff with
          | .upd b' cs => bif Nat.beq b' b then parS P K ops base tg hids rest ⟨putV ts o.dst x, s.n, s.heap⟩ ((Eff.upd b' cs).app (base + i) t) k else none
          | .updm b' cs => bif Nat.beq b' b then parS P K ops base tg hids rest ⟨putV ts o.dst x, s.n, s.heap⟩ ((Eff.updm b' cs).app (base + i) t) k else none
          | _ => none)
        (fun _ => none)
      | none => bif hids.any (Nat.beq i) then guardK ops s.tmps s.n o
          (fun ts => opk P K (evalV ts s.n) s.heap (base + i) o fun x eff => match eff with
            | .new cs => parS P K ops base tg hids rest ⟨putV ts o.dst x, s.n, s.heap⟩ ((Eff.new cs).app (base + i) t) k
            | .newm cs => parS P K ops base tg hids rest ⟨putV ts o.dst x, s.n, s.heap⟩ ((Eff.newm cs).app (base + i) t) k
            | _ => none)
          (fun _ => none)
        else guardK ops s.tmps s.n o
          (fun ts => opk P K (evalV ts s.n) s.heap (base + i) o fun x eff => match eff with
            | .none => parS P K ops base tg hids rest ⟨putV ts o.dst x, s.n, s.heap⟩ t k
            | .new cs => parS P K ops base tg hids rest ⟨putV ts o.dst x, s.n, (Eff.new cs).app (base + i) s.heap⟩ t k
            | .newm cs => parS P K ops base tg hids rest ⟨putV ts o.dst x, s.n, (Eff.newm cs).app (base + i) s.heap⟩ t k
            | _ => none)
          (fun ts => parS P K ops base tg hids rest ⟨putV ts o.dst (.dv (.val undef)), s.n, s.heap⟩ t k) := by
  cases s
  simp only [parS, putK_eq, appK_eq, frc_eq]

def Step2 (P : Program) (I : World → Prop) (ops : Array Oper) (base : Nat) (tgt : Nat → Option Nat) (hid : Nat → Bool) (j : Nat) (s s' : St) (t t' : OH) (x : VV) (e : Eff) : Prop :=
  ∃ o ts, ops[j]? = some o ∧ Le s.tmps ts ∧ s'.tmps = putV ts o.dst x ∧ s'.n = s.n ∧
    ((tgt j = none ∧ hid j = false ∧ e.quiet = true ∧ s'.heap = e.app (base + j) s.heap ∧ t' = t ∧
        ((GuardIs ops s.tmps s.n o true ∧ OpOk P I o (evalV ts s.n) s.heap (base + j) x e) ∨ (GuardIs ops s.tmps s.n o false ∧ x = .dv (.val undef) ∧ e = .none))) ∨
     (tgt j = none ∧ hid j = true ∧ (∃ B, ∀ H, e.app (base + j) H = addM (base + j) H B) ∧ s'.heap = s.heap ∧ t' = e.app (base + j) t ∧
        GuardIs ops s.tmps s.n o true ∧ OpOk P I o (evalV ts s.n) s.heap (base + j) x e) ∨
     (∃ b B, tgt j = some b ∧ hid j = false ∧ (∀ H, e.app (base + j) H = H.set b (some B)) ∧ s'.heap = s.heap ∧ t' = t.set b (some B) ∧
        GuardIs ops s.tmps s.n o true ∧ OpOk P I o (evalV ts s.n) (s.heap.set b (t.getD b none)) (base + j) x e))

theorem parS_trace {P : Program} {I : World → Prop} {K : Tab} (HK : KGood P I K) {ops : Array Oper} {base : Nat} {tg : List (Nat × Nat)} {hids : List Nat} (hdis : ∀ j b, lookP tg j = some b → hids.any (Nat.beq j) = false) {k : St × OH → Option DV} {r : DV} : ∀ (m i : Nat) (s : St) (t : OH), parS P K ops base tg hids (List.range' i m) s t k = some r →
    ∃ (σ : Nat → St) (τ : Nat → OH) (xs : Nat → VV) (es : Nat → Eff), σ i = s ∧ τ i = t ∧ k (σ (i + m), τ (i + m)) = some r ∧ ∀ j, i ≤ j → j < i + m → Step2 P I ops base (lookP tg) (fun i => hids.any (Nat.beq i)) j (σ j) (σ (j + 1)) (τ j) (τ (j + 1)) (xs j) (es j)
  | 0, i, s, t, h => ⟨fun _ => s, fun _ => t, fun _ => default, fun _ => .none, rfl, rfl, by simpa [parS] using h, fun j h1 h2 => by omega⟩
  | m + 1, i, s, t, h => by
    rw [List.range'_succ] at h
    simp only [parS_cons] at h
    cases ho : ops[i]? with
    | none => simp [ho] at h
    | some o =>
      simp only [ho] at h
      have done : ∀ (s' : St) (t' : OH) (x : VV) (eff : Eff), Step2 P I ops base (lookP tg) (fun i => hids.any (Nat.beq i)) i s s' t t' x eff → parS P K ops base tg hids (List.range' (i + 1) m) s' t' k = some r →
          ∃ (σ : Nat → St) (τ : Nat → OH) (xs : Nat → VV) (es : Nat → Eff), σ i = s ∧ τ i = t ∧ k (σ (i + (m + 1)), τ (i + (m + 1))) = some r ∧ ∀ j, i ≤ j → j < i + (m + 1) → Step2 P I ops base (lookP tg) (fun i => hids.any (Nat.beq i)) j (σ j) (σ (j + 1)) (τ j) (τ (j + 1)) (xs j) (es j) := by
        intro s' t' x eff hst h
        obtain ⟨σ, τ, xs, es, h1, h1', h2, h3⟩ := parS_trace HK hdis m (i + 1) s' t' h
        refine ⟨fun j => if j = i then s else σ j, fun j => if j = i then t else τ j, fun j => if j = i then x else xs j, fun j => if j = i then eff else es j, by simp, by simp, ?_, ?_⟩
        · have : ¬ i + (m + 1) = i := by omega
          simp only [this, if_false]
          rw [show i + (m + 1) = i + 1 + m by omega]; exact h2
        · intro j hj1 hj2
          by_cases e : j = i
          · subst e
            simp only [if_true, show ¬ j + 1 = j by omega, if_false, h1, h1']
            exact hst
          · simp only [e, if_false, show ¬ j + 1 = i by omega]
            exact h3 j (by omega) (by omega)
      cases hl : lookP tg i with
      | some b =>
        rw [hl] at h
        simp only [] at h
        have hh := hdis i b hl
        obtain ⟨g, ts1, hg, hle, hb, _⟩ := guardK_inv h
        cases g with
        | false => simp at hb
        | true =>
          simp at hb
          obtain ⟨x, eff, hk, hok⟩ := opk_ok HK hb
          cases eff with
          | upd b' cs =>
            cases hbb : Nat.beq b' b with
            | false => simp [hbb] at hk
            | true =>
              simp only [hbb, cond_true] at hk
              obtain rfl := Nat.eq_of_beq_eq_true hbb
              refine done _ _ x (.upd b' cs) ?_ hk; exact ⟨o, ts1, ho, hle, rfl, rfl, .inr (.inr ⟨b', .cells cs, hl, hh, fun _ => rfl, rfl, rfl, hg, hok⟩)⟩
          | updm b' cs =>
            cases hbb : Nat.beq b' b with
            | false => simp [hbb] at hk
            | true =>
              simp only [hbb, cond_true] at hk
              obtain rfl := Nat.eq_of_beq_eq_true hbb
              refine done _ _ x (.updm b' cs) ?_ hk; exact ⟨o, ts1, ho, hle, rfl, rfl, .inr (.inr ⟨b', .mix cs, hl, hh, fun _ => rfl, rfl, rfl, hg, hok⟩)⟩
          | none => simp at hk
          | new cs => simp at hk
          | newm cs => simp at hk
          | move b cs => simp at hk
          | call ids Hc => simp at hk
          | ice bs => simp at hk
      | none =>
        rw [hl] at h
        simp only [] at h
        cases hh : hids.any (Nat.beq i) with
        | true =>
          simp only [hh, cond_true] at h
          obtain ⟨g, ts1, hg, hle, hb, _⟩ := guardK_inv h
          cases g with
          | false => simp at hb
          | true =>
            simp at hb
            obtain ⟨x, eff, hk, hok⟩ := opk_ok HK hb
            cases eff with
            | new cs => refine done _ _ x (.new cs) ?_ hk; exact ⟨o, ts1, ho, hle, rfl, rfl, .inr (.inl ⟨hl, hh, ⟨.cells cs, fun _ => rfl⟩, rfl, rfl, hg, hok⟩)⟩
            | newm cs => refine done _ _ x (.newm cs) ?_ hk; exact ⟨o, ts1, ho, hle, rfl, rfl, .inr (.inl ⟨hl, hh, ⟨.mix cs, fun _ => rfl⟩, rfl, rfl, hg, hok⟩)⟩
            | none => simp at hk
            | upd b cs => simp at hk
            | updm b cs => simp at hk
            | move b cs => simp at hk
            | call ids Hc => simp at hk
            | ice bs => simp at hk
        | false =>
          simp only [hh, cond_false] at h
          obtain ⟨g, ts1, hg, hle, hb, _⟩ := guardK_inv h
          cases g with
          | false =>
            simp at hb
            refine done _ _ (.dv (.val undef)) .none ?_ hb; exact ⟨o, ts1, ho, hle, rfl, rfl, .inl ⟨hl, hh, rfl, rfl, rfl, .inr ⟨hg, rfl, rfl⟩⟩⟩
          | true =>
            simp at hb
            obtain ⟨x, eff, hk, hok⟩ := opk_ok HK hb
            cases eff with
            | none => refine done _ _ x .none ?_ hk; exact ⟨o, ts1, ho, hle, rfl, rfl, .inl ⟨hl, hh, rfl, rfl, rfl, .inl ⟨hg, hok⟩⟩⟩
            | new cs => refine done _ _ x (.new cs) ?_ hk; exact ⟨o, ts1, ho, hle, rfl, rfl, .inl ⟨hl, hh, rfl, rfl, rfl, .inl ⟨hg, hok⟩⟩⟩
            | newm cs => refine done _ _ x (.newm cs) ?_ hk; exact ⟨o, ts1, ho, hle, rfl, rfl, .inl ⟨hl, hh, rfl, rfl, rfl, .inl ⟨hg, hok⟩⟩⟩
            | upd b cs => simp at hk
            | move b cs => simp at hk
            | updm b cs => simp at hk
            | call ids Hc => simp at hk
            | ice bs => simp at hk

def isAlloc : Op → Bool
  | .alloc _ => true
  | _ => false
def allocIx (t : Nat) : Nat → List Oper → Option Nat
  | _, [] => none
  | i, o :: os => bif isAlloc o.op && (match o.dst with | some d => Nat.beq d t | none => false) then some i else allocIx t (i + 1) os
/-- The operation that gives a slot. -/
def opAt (t : Nat) : List Oper → Option Op
  | [] => none
  | o :: os => bif (match o.dst with | some d => Nat.beq d t | none => false) then some o.op else opAt t os
/-- The block that a slot points at: through moves and cuts. -/
noncomputable def rootOf (ops : List Oper) (ts : Tr) (n : Nat) : Nat → Operand → Option Nat
  | 0, _ => none
  | f + 1, .tmp t => match opAt t ops with
    | some (.move x) => rootOf ops ts n f x
    | some (.slice _ x _ _ _) => rootOf ops ts n f x
    | some _ => none
    | none => match evalV ts n (.tmp t) with
      | .ptr b _ => some b
      | .osl _ _ b _ _ => some b
      | _ => none
  | _, _ => none
noncomputable def tgOf (ops : Array Oper) (ts : Tr) (n base : Nat) : Nat → List Oper → List (Nat × Nat)
  | _, [] => []
  | i, o :: os => match o.op with
    | .store _ (.tmp t) _ => match allocIx t 0 ops.toList with
      | some a => (i, base + a) :: tgOf ops ts n base (i + 1) os
      | none => match rootOf ops.toList ts n 9 (.tmp t) with
        | some b => (i, b) :: tgOf ops ts n base (i + 1) os
        | none => tgOf ops ts n base (i + 1) os
    | .call c => match c.callee, c.args.toList with
      | .builtin .copy, x :: _ => match rootOf ops.toList ts n 9 x with
        | some b => (i, b) :: tgOf ops ts n base (i + 1) os
        | none => tgOf ops ts n base (i + 1) os
      | _, _ => tgOf ops ts n base (i + 1) os
    | _ => tgOf ops ts n base (i + 1) os
def hidsOf (base : Nat) : List (Nat × Nat) → List Nat
  | [] => []
  | p :: r => bif Nat.ble base p.2 then (p.2 - base) :: hidsOf base r else hidsOf base r
def tgChk (ops : Array Oper) (base : Nat) (tg : List (Nat × Nat)) (hids : List Nat) (T : List (List Nat)) : Bool :=
  (tg.all fun p => (match lookP tg p.1 with | some b => Nat.beq b p.2 | none => false) && Nat.blt p.1 ops.size && !(hids.any (Nat.beq p.1)) && (tg.all fun q => !(Nat.beq p.2 q.2) || Nat.beq p.1 q.1) &&
    (Nat.blt p.2 base || (hids.any (Nat.beq (p.2 - base)) && Nat.blt (p.2 - base) p.1 && (T.getD p.1 []).any (Nat.beq (p.2 - base))))) &&
  hids.all fun i => tg.any fun p => Nat.beq p.2 (base + i)
def hideF (bs : List (Nat × Nat)) : Nat → OH → OH
  | _, [] => []
  | i, x :: xs => (bif bs.any (fun p => Nat.beq p.2 i) then none else x) :: hideF bs (i + 1) xs
def takeF (bs : List (Nat × Nat)) : Nat → OH → OH
  | _, [] => []
  | i, x :: xs => (bif bs.any (fun p => Nat.beq p.2 i) then x else none) :: takeF bs (i + 1) xs
theorem hideF_get (bs : List (Nat × Nat)) : ∀ (h : OH) (i b : Nat), (hideF bs i h)[b]? = h[b]?.map fun x => bif bs.any (fun p => Nat.beq p.2 (i + b)) then none else x
  | [], i, b => by simp [hideF]
  | x :: xs, i, 0 => by simp [hideF]
  | x :: xs, i, b + 1 => by
    simp only [hideF, List.getElem?_cons_succ]
    rw [hideF_get bs xs (i + 1) b, show i + 1 + b = i + (b + 1) by omega]
theorem takeF_get (bs : List (Nat × Nat)) : ∀ (h : OH) (i b : Nat), (takeF bs i h)[b]? = h[b]?.map fun x => bif bs.any (fun p => Nat.beq p.2 (i + b)) then x else none
  | [], i, b => by simp [takeF]
  | x :: xs, i, 0 => by simp [takeF]
  | x :: xs, i, b + 1 => by
    simp only [takeF, List.getElem?_cons_succ]
    rw [takeF_get bs xs (i + 1) b, show i + 1 + b = i + (b + 1) by omega]
theorem hideF_len (bs : List (Nat × Nat)) : ∀ (h : OH) (i : Nat), (hideF bs i h).length = h.length
  | [], i => rfl
  | x :: xs, i => by simp only [hideF, List.length_cons]; rw [hideF_len bs xs]
theorem takeF_len (bs : List (Nat × Nat)) : ∀ (h : OH) (i : Nat), (takeF bs i h).length = h.length
  | [], i => rfl
  | x :: xs, i => by simp only [takeF, List.length_cons]; rw [takeF_len bs xs]

theorem chk2_of {ops : Array Oper} {base : Nat} {tg : List (Nat × Nat)} {hids : List Nat} (h : drawChk ops ops.size = true) (h2 : tgChk ops base tg hids (ancT ops) = true) :
    Chk2 ops base (lookP tg) (fun i => hids.any (Nat.beq i)) ∧ (∀ j b, lookP tg j = some b → hids.any (Nat.beq j) = false) ∧ (∀ p ∈ tg, lookP tg p.1 = some p.2) := by
  have hC := drawChk_ok h
  simp only [tgChk, Bool.and_eq_true] at h2
  obtain ⟨h2, h3⟩ := h2
  have key := fun p (hp : p ∈ tg) => List.all_eq_true.1 h2 p hp
  simp only [Bool.and_eq_true] at key
  have hlook : ∀ p ∈ tg, lookP tg p.1 = some p.2 := by
    intro p hp
    have := (key p hp).1.1.1.1
    cases hl : lookP tg p.1 with
    | none => rw [hl] at this; cases this
    | some b => rw [hl] at this; rw [Nat.eq_of_beq_eq_true this]
  refine ⟨⟨hC.back, ?_, ?_, ?_, ?_, ?_⟩, ?_, hlook⟩
  · intro i j oi oj hij hi hj
    rcases hC.pair i j oi oj hij hi hj with ⟨_, h⟩ | h
    · exact .inl h
    · exact .inr h
  · intro i j b hi hj
    have := (key _ (lookP_mem _ _ _ hi)).1.2
    have := List.all_eq_true.1 this _ (lookP_mem _ _ _ hj)
    simp only [Nat.beq_refl, Bool.not_true, Bool.false_or] at this
    exact Nat.eq_of_beq_eq_true this
  · intro i hi
    obtain ⟨x, hx, hb⟩ := List.any_eq_true.1 hi
    have := Nat.eq_of_beq_eq_true hb
    subst this
    obtain ⟨p, hp, hb⟩ := List.any_eq_true.1 (List.all_eq_true.1 h3 _ hx)
    exact ⟨p.1, by rw [hlook p hp, Nat.eq_of_beq_eq_true hb]⟩
  · intro j b hj hb
    have := (key _ (lookP_mem _ _ _ hj)).2
    simp only [Bool.or_eq_true, Bool.and_eq_true] at this
    rcases this with h | ⟨⟨h4, h5⟩, h6⟩
    · have : b < base := Nat.le_of_ble_eq_true h
      omega
    · obtain ⟨x, hx, hb⟩ := List.any_eq_true.1 h6
      have := Nat.eq_of_beq_eq_true hb
      subst this
      exact ⟨h4, Nat.le_of_ble_eq_true h5, ancT_sound ops _ _ hx⟩
  · intro j b hj
    exact Nat.le_of_ble_eq_true (key _ (lookP_mem _ _ _ hj)).1.1.1.2
  · intro j b hj
    have := (key _ (lookP_mem _ _ _ hj)).1.1.2
    simpa using this

noncomputable def drawS (P : Program) (K : Tab) (ops : Array Oper) (s : St) (k : St → Option DV) : Option DV :=
  match s with
  | ⟨ts, n, h⟩ => bif drawChk ops ops.size && tgChk ops h.length (tgOf ops ts n h.length 0 ops.toList) (hidsOf h.length (tgOf ops ts n h.length 0 ops.toList)) (ancT ops) then
    frc (hideF (tgOf ops ts n h.length 0 ops.toList) 0 h ++ List.replicate ops.size none) fun h1 => frc (takeF (tgOf ops ts n h.length 0 ops.toList) 0 h ++ List.replicate ops.size none) fun t1 =>
      parS P K ops h.length (tgOf ops ts n h.length 0 ops.toList) (hidsOf h.length (tgOf ops ts n h.length 0 ops.toList)) (List.range' 0 ops.size) ⟨ts, n, h1⟩ t1 fun p => match p with
        | (⟨ts', n', h'⟩, t') => frc (mergeH h' t') fun h2 => k ⟨ts', n', h2⟩
    else none
theorem drawS_eq (P : Program) (K : Tab) (ops : Array Oper) (s : St) (k : St → Option DV) : drawS P K ops s k =
    bif drawChk ops ops.size && tgChk ops s.heap.length (tgOf ops s.tmps s.n s.heap.length 0 ops.toList) (hidsOf s.heap.length (tgOf ops s.tmps s.n s.heap.length 0 ops.toList)) (ancT ops) then
      parS P K ops s.heap.length (tgOf ops s.tmps s.n s.heap.length 0 ops.toList) (hidsOf s.heap.length (tgOf ops s.tmps s.n s.heap.length 0 ops.toList)) (List.range' 0 ops.size) ⟨s.tmps, s.n, hideF (tgOf ops s.tmps s.n s.heap.length 0 ops.toList) 0 s.heap ++ List.replicate ops.size none⟩ (takeF (tgOf ops s.tmps s.n s.heap.length 0 ops.toList) 0 s.heap ++ List.replicate ops.size none)
        fun p => k ⟨p.1.tmps, p.1.n, mergeH p.1.heap p.2⟩
    else none := by
  cases s
  simp only [drawS, frc_eq]

theorem Rel.drew {I : World → Prop} {D : Nat → Option Nat} {U : Nat → Prop} {N : Nat → Prop} {w0 : World} {s : St} {a : Act} {w : World} (h : Rel I D U N w0 s a w) : Rel I D U N w0 s a w.drew := ⟨h.t.onward (onward_drew' (N := N)), h.wr.drew', h.n, h.i0⟩

/-- Places for what is to come. -/
theorem WRel.grow {D : Nat → Option Nat} {U : Nat → Prop} {N : Nat → Prop} {w0 : World} {H : OH} {w : World} (g : WRel D U N w0 H w) (m : Nat) : WRel D U N w0 (H ++ List.replicate m none) w := by
  refine ⟨g.below, g.old, ?_, ?_, ?_, ?_, ?_⟩
  · intro b kk hb
    obtain ⟨g1, g2, B, g4⟩ := g.own b kk hb
    have hlt := (List.getElem?_eq_some_iff.1 g4).1
    exact ⟨g1, g2, B, by rw [List.getElem?_append_left hlt]; exact g4⟩
  · intro b kk vs hb hH
    obtain ⟨g1, g2, B, g4⟩ := g.own b kk hb
    have hlt := (List.getElem?_eq_some_iff.1 g4).1
    rw [List.getElem?_append_left hlt] at hH
    exact g.hold b kk vs hb hH
  · intro b kk vs hb hH
    obtain ⟨g1, g2, B, g4⟩ := g.own b kk hb
    have hlt := (List.getElem?_eq_some_iff.1 g4).1
    rw [List.getElem?_append_left hlt] at hH
    exact g.holdm b kk vs hb hH
  · intro b vs hb
    rw [List.getElem?_append] at hb
    split at hb
    · exact g.all b vs hb
    · rw [List.getElem?_replicate] at hb; split at hb <;> simp at hb
  · intro b b' kk B1 B2 h1' h2' l1 l2 hd hd'
    obtain ⟨_, _, B, g4⟩ := g.own b kk hd
    obtain ⟨_, _, B', g4'⟩ := g.own b' kk hd'
    rw [List.getElem?_append_left (List.getElem?_eq_some_iff.1 g4).1] at h1'
    rw [List.getElem?_append_left (List.getElem?_eq_some_iff.1 g4').1] at h2'
    exact g.inj b b' kk B1 B2 h1' h2' l1 l2 hd hd'

theorem drawS_ok {M : Nat} {P : Program} {I : World → Prop} (hm : P.follows .mixedOrders = true) {K : Tab} (HK : KGood P I K) {id : Nat} {ops : Array Oper} {s : St} {k : KC} {r : DV} (h : drawS P K ops s (k .normal) = some r) : Sound M P I (.region id ops true) s k r := by
  rw [drawS_eq] at h
  generalize htg : tgOf ops s.tmps s.n s.heap.length 0 ops.toList = tg at h
  generalize hhid : hidsOf s.heap.length tg = hids at h
  cases hc : drawChk ops ops.size && tgChk ops s.heap.length tg hids (ancT ops) with
  | false => rw [hc] at h; cases h
  | true =>
    rw [hc] at h
    simp only [cond_true] at h
    rw [Bool.and_eq_true] at hc
    obtain ⟨hC, hdis, hlk⟩ := chk2_of hc.1 hc.2
    intro D U N w0 a w Q hR hQ
    obtain ⟨σ, τ, xs, es, h1, h1', h2, h3⟩ := parS_trace HK hdis ops.size 0 _ _ h
    rw [Nat.zero_add] at h2
    have hT : Trail2 P I ops s.heap.length (lookP tg) (fun i => hids.any (Nat.beq i)) σ τ xs es := fun j hj => ⟨h3 j (by omega) (by omega)⟩
    have hany : ∀ b, (∀ j, lookP tg j ≠ some b) → tg.any (fun p => Nat.beq p.2 b) = false := by
      intro b hn
      cases hb : tg.any (fun p => Nat.beq p.2 b) with
      | false => rfl
      | true =>
        obtain ⟨p, hp, hb⟩ := List.any_eq_true.1 hb
        exact absurd (by rw [hlk p hp, Nat.eq_of_beq_eq_true hb]) (hn p.1)
    have hany2 : ∀ b j, lookP tg j = some b → tg.any (fun p => Nat.beq p.2 b) = true := fun b j hj => List.any_eq_true.2 ⟨_, lookP_mem _ _ _ hj, by simp⟩
    have hl0 : (σ 0).heap.length = s.heap.length + ops.size := by rw [h1]; simp [hideF_len]
    have hτ0 : (τ 0).length = s.heap.length + ops.size := by rw [h1']; simp [takeF_len]
    have hzσ : ∀ j, j < ops.size → (σ 0).heap[s.heap.length + j]? = some none := by
      intro j hj
      rw [h1]; simp only []
      rw [List.getElem?_append_right (by rw [hideF_len]; omega), hideF_len]; simp [hj]
    have hτlow : ∀ b j, b < s.heap.length → lookP tg j = some b → (τ 0)[b]? = s.heap[b]? := by
      intro b j hb hj
      rw [h1', List.getElem?_append_left (by rw [takeF_len]; exact hb), takeF_get, Nat.zero_add, hany2 b j hj]
      simp
    refine wp_region_any hm (any2_ok (N := N) (w0 := w0) (H0 := s.heap) (k := k .normal) (r := r) HK hT hC hl0 hτ0 ?_ hzσ ?_ ?_ h2 ops.size (Array.replicate ops.size false) D U (s.heap ++ List.replicate ops.size none) a w.drew ?_ ?_ ?_ ?_)
    · intro b hb hn
      rw [h1]; simp only []
      rw [List.getElem?_append_left (by rw [hideF_len]; exact hb), hideF_get, Nat.zero_add, hany b hn]
      simp
    · intro b hb hn
      rw [h1']
      rcases Nat.lt_or_ge b s.heap.length with h | h
      · rw [List.getElem?_append_left (by rw [takeF_len]; exact h), takeF_get, Nat.zero_add, hany b hn]
        simp [h]
      · rw [List.getElem?_append_right (by rw [takeF_len]; exact h), takeF_len, List.getElem?_replicate, if_pos (by omega)]
    · intro b j hb hj
      rw [h1]; simp only []
      rw [List.getElem?_append_left (by rw [hideF_len]; exact hb), hideF_get, Nat.zero_add, hany2 b j hj]
      simp [hb]
    · have hnl : ∀ j, ¬ Listed (Array.replicate ops.size false) j := by
        intro j hl
        unfold Listed at hl
        rw [Array.getD_eq_getD_getElem?, Array.getElem?_replicate] at hl
        split at hl <;> simp at hl
      have hR' := hR.drew
      refine ⟨hR.t.1, by rw [h1]; exact hR.t.2.1, ?_, by simp, ?_, ?_, hR'.wr.grow _, hR'.n, by simp, hR'.i0⟩
      · intro t
        refine ⟨0, by omega, ?_, fun j o hl => absurd hl (hnl j), fun i' hi' => by omega⟩
        intro v e2
        rw [h1]
        exact hR'.t.2.2 t v e2
      · intro b hn
        refine ⟨fun hb => by rw [List.getElem?_append_left hb], fun _ hl => absurd hl (hnl _), fun hb _ hb2 => ?_⟩
        rw [List.getElem?_append_right hb, List.getElem?_replicate, if_pos (by omega)]
      · intro b j hj
        refine ⟨fun hl => absurd hl (hnl _), fun _ hb => ?_, fun _ hb _ => ?_⟩
        · have hbl : b < s.heap.length := by
            rcases Nat.lt_or_ge b s.heap.length with h | h
            · exact h
            · exact absurd (hb h) (hnl _)
          have := hT.tau_at hτ0 b j 0 (by have := hC.lt j b hj; omega) (fun k h1 h2 => ⟨fun e => by have := hC.inj _ _ _ e hj; omega, fun e => by omega⟩)
          rw [Nat.zero_add] at this
          rw [this, hτlow b j hbl hj, List.getElem?_append_left hbl]
        · have := (hC.tgtH j b hj hb).2.1
          have := hC.lt j b hj
          rw [List.getElem?_append_right hb, List.getElem?_replicate, if_pos (by omega)]
    · intro j o ho hl
      unfold Listed at hl
      rw [Array.getD_eq_getD_getElem?, Array.getElem?_replicate] at hl
      split at hl <;> simp at hl
    · unfold left
      exact Nat.le_trans List.countP_le_length (by simp)
    · intro s' D' U' a' w' hk hR' hon
      exact hQ .normal s' D' U' a' w' hk hR' ((onward_drew' (N := N)).trans hon).weak
end Go.Pv
namespace Go.Pv
open Go Go.RowKit

def isStore : Op → Bool
  | .store _ _ _ => true
  | .call c => match c.callee with | .builtin .append => true | .builtin .copy => true | _ => false
  | _ => false
def firstStore : List Oper → Nat
  | [] => 0
  | o :: os => bif isStore o.op then 0 else firstStore os + 1

noncomputable def drawK (P : Program) (K : Tab) (ops : Array Oper) (s : St) (k : St → Option DV) : Option DV :=
  match s with
  | ⟨ts, n, h⟩ => bif drawChk ops (firstStore ops.toList) then
    frc (h ++ List.replicate ops.size none) fun h' => parK P K ops h.length (List.range' 0 (firstStore ops.toList)) ⟨ts, n, h'⟩ fun s' =>
      pevOps P K ops (List.range' (firstStore ops.toList) (ops.size - firstStore ops.toList)) s' k
    else drawS P K ops ⟨ts, n, h⟩ k
theorem drawK_eq (P : Program) (K : Tab) (ops : Array Oper) (s : St) (k : St → Option DV) : drawK P K ops s k = bif drawChk ops (firstStore ops.toList) then
    parK P K ops s.heap.length (List.range' 0 (firstStore ops.toList)) ⟨s.tmps, s.n, s.heap ++ List.replicate ops.size none⟩ fun s' =>
      pevOps P K ops (List.range' (firstStore ops.toList) (ops.size - firstStore ops.toList)) s' k
    else drawS P K ops s k := by
  cases s
  simp only [drawK, frc_eq]
theorem drawK_ok {M : Nat} {P : Program} {I : World → Prop} (hm : P.follows .mixedOrders = true) {K : Tab} (HK : KGood P I K) {id : Nat} {ops : Array Oper} {s : St} {k : KC} {r : DV} (h : drawK P K ops s (k .normal) = some r) : Sound M P I (.region id ops true) s k r := by
  rw [drawK_eq] at h
  generalize hp : firstStore ops.toList = p at h
  cases hc : drawChk ops p with
  | false => exact drawS_ok hm HK (by simpa [hc] using h)
  | true =>
    simp only [hc, cond_true] at h
    have hC := drawChk_ok hc
    intro D U N w0 a w Q hR hQ
    obtain ⟨σ, xs, es, h1, h2, h3⟩ := parK_trace HK p 0 _ h
    rw [Nat.zero_add] at h2
    have hT : Trail P I ops s.heap.length p σ xs es := fun j hj => h3 j (by omega) (by omega)
    refine wp_region_any hm (any_ok (N := N) (w0 := w0) HK hT hC (H0 := s.heap) (by rw [h1]; simp) (fun b hb => by rw [h1]; simp only []; rw [List.getElem?_append_left hb]) (fun j hj => by rw [h1]; simp only []; rw [List.getElem?_append_right (by omega)]; simp [hj]) h2
      ops.size (Array.replicate ops.size false) D U (σ 0).heap a w.drew ?_ ?_ ?_ ?_)
    · have hnl : ∀ j, ¬ Listed (Array.replicate ops.size false) j := by
        intro j hl
        unfold Listed at hl
        rw [Array.getD_eq_getD_getElem?, Array.getElem?_replicate] at hl
        split at hl <;> simp at hl
      have hR' := hR.drew
      refine ⟨hR.t.1, by rw [h1]; exact hR.t.2.1, ?_, by rw [h1]; simp, ?_, ?_, hR'.n, by simp, fun j hl => absurd hl (hnl j), hR'.i0⟩
      · intro t
        refine ⟨0, by omega, ?_, fun j o hl => absurd hl (hnl j), fun i' hi' => by omega⟩
        intro v e2
        rw [h1]
        exact hR'.t.2.2 t v e2
      · intro b
        rw [h1]
        refine ⟨fun hb => by simp only []; rw [List.getElem?_append_left hb], fun _ hl => absurd hl (hnl _), fun hb _ hb2 => ?_⟩
        simp only []
        rw [List.getElem?_append_right hb, List.getElem?_replicate, if_pos (by omega)]
      · rw [h1]
        have g := hR'.wr
        refine ⟨g.below, g.old, ?_, ?_, ?_, ?_, ?_⟩
        · intro b kk hb
          obtain ⟨g1, g2, B, g4⟩ := g.own b kk hb
          have hlt := (List.getElem?_eq_some_iff.1 g4).1
          exact ⟨g1, g2, B, by simp only []; rw [List.getElem?_append_left hlt]; exact g4⟩
        · intro b kk vs hb hH
          obtain ⟨g1, g2, B, g4⟩ := g.own b kk hb
          have hlt := (List.getElem?_eq_some_iff.1 g4).1
          simp only [] at hH
          rw [List.getElem?_append_left hlt] at hH
          exact g.hold b kk vs hb hH
        · intro b kk vs hb hH
          obtain ⟨g1, g2, B, g4⟩ := g.own b kk hb
          have hlt := (List.getElem?_eq_some_iff.1 g4).1
          simp only [] at hH
          rw [List.getElem?_append_left hlt] at hH
          exact g.holdm b kk vs hb hH
        · intro b vs hb
          simp only [] at hb
          rw [List.getElem?_append] at hb
          split at hb
          · exact g.all b vs hb
          · rw [List.getElem?_replicate] at hb; split at hb <;> simp at hb
        · intro b b' kk B1 B2 h1' h2' l1 l2 hd hd'
          obtain ⟨_, _, B, g4⟩ := g.own b kk hd
          obtain ⟨_, _, B', g4'⟩ := g.own b' kk hd'
          simp only [] at h1' h2'
          rw [List.getElem?_append_left (List.getElem?_eq_some_iff.1 g4).1] at h1'
          rw [List.getElem?_append_left (List.getElem?_eq_some_iff.1 g4').1] at h2'
          exact g.inj b b' kk B1 B2 h1' h2' l1 l2 hd hd'
    · intro j o ho hl
      unfold Listed at hl
      rw [Array.getD_eq_getD_getElem?, Array.getElem?_replicate] at hl
      split at hl <;> simp at hl
    · unfold left
      exact Nat.le_trans List.countP_le_length (by simp)
    · intro s' D' U' a' w' hk hR' hon
      exact hQ .normal s' D' U' a' w' hk hR' ((onward_drew' (N := N)).trans hon).weak

/-- Behind a condition: what it was is known. -/
noncomputable def condK (ts : Tr) (n : Nat) (c : Operand) (b : Bool) (k : Tr → Option DV) : Option DV :=
  match c with
  | .tmp t => bif Nat.blt t n then putC 12 ts t (.dv (.val (.bool b))) k else k ts
  | _ => k ts
noncomputable def condT (ts : Tr) (n : Nat) (c : Operand) (b : Bool) : Tr :=
  match c with
  | .tmp t => bif Nat.blt t n then ts.put t (.dv (.val (.bool b))) else ts
  | _ => ts
theorem condK_eq (ts : Tr) (n : Nat) (c : Operand) (b : Bool) (k : Tr → Option DV) : condK ts n c b k = k (condT ts n c b) := by
  cases c with
  | tmp t =>
    simp only [condK, condT]
    cases Nat.blt t n with
    | true => simp only [cond_true]; exact putC_eq 12 ts t _ k
    | false => rfl
  | _ => rfl
theorem condT_le {ts : Tr} {n : Nat} {c : Operand} {b : Bool} (h : (evalV ts n c).flat = some (.bool b)) : Le ts (condT ts n c b) := by
  cases c with
  | tmp t =>
    simp only [condT]
    cases hb : Nat.blt t n with
    | true =>
      simp only [cond_true]
      have := flat_bool h
      simp only [evalV, hb, cond_true] at this
      exact put_same this
    | false => exact Le.refl ts
  | _ => exact Le.refl ts
noncomputable def pev (P : Program) (K : Tab) (L : LTab) (lv : List (Nat × List Nat)) (fuel : Nat) : Code → St → KC → Option DV
  | .skip, s, k => k .normal s
  | .region id ops draw, s, k => bif (stopsOf lv).any (Nat.beq id) then none else iceK (iceOf lv id) s fun s => bif draw then drawK P K ops s (k .normal) else pevOps P K ops (List.range ops.size) s (k .normal)
  | .seq a b, s, k => pev P K L lv fuel a s fun e s' => match e with | .normal => pev P K L lv fuel b s' k | e => k e s'
  | .cond c t e, ⟨ts, n, h⟩, k => match (evalV ts n c).flat with
    | some (.bool b) => bif b then condK ts n c true fun ts => pev P K L lv fuel t ⟨ts, n, h⟩ k else condK ts n c false fun ts => pev P K L lv fuel e ⟨ts, n, h⟩ k
    | _ => none
  | .block id b, s, k => pev P K L lv fuel b s fun e s' => match e with | .exit i => bif Nat.beq i id then k .normal s' else k (.exit i) s' | e => k e s'
  | .loop b, ⟨ts, n, h⟩, k => match lookL L b with
    | some R => packK (mOf lv) (liveOf lv b n) ⟨ts, n, h⟩ fun s => R s k
    | none => bif Nat.ble (mOf lv) (h.length + roomOf lv) then loopK (fun s k => pev P K L lv fuel b s k) (liveOf lv b n) (h.length + roomOf lv) fuel ⟨ts, n, h⟩ k else none
  | .exit id, s, k => k (.exit id) s
  | .ret, s, k => k .ret s
  | _, _, _ => none

theorem pev_ok {P : Program} {I : World → Prop} (hm : P.follows .mixedOrders = true) {K : Tab} (HK : KGood P I K) (L : LTab) (lv : List (Nat × List Nat)) (fuel : Nat) : ∀ (c : Code), LGood (mOf lv) P I L c → ∀ (s : St) (k : KC) (r : DV), pev P K L lv fuel c s k = some r → Sound (mOf lv) P I c s k r := by
  intro c
  induction c with
  | skip => intro _ s k r h D U N w0 a w Q hR hQ; exact wp_skip (hQ .normal s D U a w h hR OnwardW.refl)
  | region id ops draw =>
    intro _ s k r h
    simp only [pev] at h
    cases hst' : (stopsOf lv).any (Nat.beq id) with
    | true => rw [hst'] at h; cases h
    | false =>
    rw [hst'] at h
    simp only [cond_false] at h
    obtain ⟨s', hs', h, _⟩ := iceK_inv h
    intro D U N w0 a w Q hR hQ
    obtain ⟨U1, hR1, ho1⟩ := iceAll_ok _ s s' U hs' hR
    have hQ' : ∀ e s'' D' U' a' w', k e s'' = some r → Rel I D' U' N w0 s'' a' w' → OnwardW (mOf lv) N D U1 w D' U' w' → Q e.out a' w' := fun e s'' D' U' a' w' h1 h2 h3 => hQ e s'' D' U' a' w' h1 h2 (ho1.weak.trans h3)
    cases draw with
    | true => exact drawK_ok hm HK h D U1 N w0 a w Q hR1 hQ'
    | false => exact wp_region (pevOps_ok HK _ s' (k .normal) r h D U1 N w0 a w Q hR1 fun s'' D' U' a' w' hk hR' hon => hQ' .normal s'' D' U' a' w' hk hR' hon.weak)
  | seq x y ihx ihy =>
    intro hL s k r h D U N w0 a w Q hR hQ
    refine wp_seq (ihx hL.left s _ r h D U N w0 a w _ hR fun e s' D' U' a' w' hk hR' hon => ?_)
    cases e with
    | normal => exact ihy hL.right s' k r hk D' U' N w0 a' w' Q hR' fun e s'' D'' U'' a'' w'' hk' hR'' hon' => hQ e s'' D'' U'' a'' w'' hk' hR'' (hon.trans hon')
    | exit id => exact hQ (.exit id) s' D' U' a' w' hk hR' hon
    | ret => exact hQ .ret s' D' U' a' w' hk hR' hon
  | cond c t e iht ihe =>
    intro hL s k r h D U N w0 a w Q hR hQ
    cases s
    simp only [pev] at h
    split at h <;> try (cases h; done)
    rename_i b hb
    have hv := VV.flat_rep hb (hR.t.eval c)
    cases b with
    | true =>
      simp only [cond_true, condK_eq] at h
      exact wp_cond hv (iht hL.yes _ k r h D U N w0 a w Q ⟨hR.t.le (condT_le hb), hR.wr, hR.n, hR.i0⟩ hQ)
    | false =>
      simp only [cond_false, condK_eq] at h
      exact wp_cond hv (ihe hL.no _ k r h D U N w0 a w Q ⟨hR.t.le (condT_le hb), hR.wr, hR.n, hR.i0⟩ hQ)
  | block id b ih =>
    intro hL s k r h D U N w0 a w Q hR hQ
    refine wp_block (ih hL.block s _ r h D U N w0 a w _ hR fun e s' D' U' a' w' hk hR' hon => ?_)
    cases e with
    | normal => exact hQ .normal s' D' U' a' w' hk hR' hon
    | ret => exact hQ .ret s' D' U' a' w' hk hR' hon
    | exit i =>
      simp only [PX.out, Exit.inBlock]
      cases hb : Nat.beq i id with
      | true =>
        have := Nat.eq_of_beq_eq_true hb
        rw [if_pos this]
        simp only [hb, cond_true] at hk
        exact hQ .normal s' D' U' a' w' hk hR' hon
      | false =>
        have : ¬ i = id := fun e => by subst e; rw [Nat.beq_refl] at hb; cases hb
        rw [if_neg this]
        simp only [hb, cond_false] at hk
        exact hQ (.exit i) s' D' U' a' w' hk hR' hon
  | loop b ih =>
    intro hL s k r h
    cases s
    simp only [pev] at h
    cases hl : lookL L b with
    | none =>
      rw [hl] at h
      simp only [] at h
      rename_i ts n hp
      cases hb : Nat.ble (mOf lv) (hp.length + roomOf lv) with
      | false => rw [hb] at h; cases h
      | true =>
        rw [hb] at h
        simp only [cond_true] at h
        exact loopK_ok (body := fun s k => pev P K L lv fuel b s k) (ih hL.body) _ _ fuel _ k r (Nat.le_of_ble_eq_true hb) h
    | some R =>
      rw [hl] at h
      simp only [packK_eq] at h
      exact sound_pack _ ((hL.here hl).1 _ k r h)
  | exit id => intro _ s k r h D U N w0 a w Q hR hQ; exact wp_exit (hQ (.exit id) s D U a w h hR OnwardW.refl)
  | ret => intro _ s k r h D U N w0 a w Q hR hQ; exact wp_ret (hQ .ret s D U a w h hR OnwardW.refl)
  | rangeFunc f ps x y _ _ => intro _ s k r h; simp [pev] at h
  | scope b _ => intro _ s k r h; simp [pev] at h
  | label l => intro _ s k r h; simp [pev] at h
  | goto l => intro _ s k r h; simp [pev] at h
  | refuse why => intro _ s k r h; simp [pev] at h

/-- The results of a frame, as they stand. -/
noncomputable def resX (P : Program) (s : St) : ResultVar → Option VV
  | .tmp t => some (evalV s.tmps s.n (.tmp t))
  | .cell t T => match evalV s.tmps s.n (.tmp t) with
    | .ptr b of => match s.heap[b]? with
      | some (some (.cells cs)) => match loadK P T cs of with | some d => some (.dv d) | none => none
      | some (some (.mix cs)) => loadX P T cs of
      | _ => none
    | _ => none
noncomputable def resXs (P : Program) (s : St) : List ResultVar → Option (List VV)
  | [] => some []
  | r :: rest => match resX P s r, resXs P s rest with
    | some x, some l => some (x :: l)
    | _, _ => none
def resVs (P : Program) (H : OH) : List VV → List TypeId → Option (List DV)
  | [], _ => some []
  | x :: l, t :: ts => match resA H x, resVs P H l ts with
    | some d, some ds => some (normT P t d :: ds)
    | _, _ => none
  | _ :: _, [] => none
noncomputable def resV (P : Program) (s : St) (l : List ResultVar) (ts : List TypeId) : Option (List DV) := match resXs P s l with | some xs => resVs P s.heap xs ts | none => none
noncomputable def retV (P : Program) (fn : Func) (s : St) : Option DV :=
  match resV P s fn.results.toList fn.resultTypes.toList with
  | some [d] => some d
  | some l => some (mkTup l)
  | none => none
noncomputable def resVsK (P : Program) (H : OH) : List VV → List TypeId → (List DV → Option DV) → Option DV
  | [], _, k => k []
  | x :: l, t :: ts, k => resAK H x fun d => resVsK P H l ts fun ds => k (normT P t d :: ds)
  | _ :: _, [], _ => none
theorem resVsK_eq (P : Program) (H : OH) : ∀ (cs : List VV) (ts : List TypeId) (k : List DV → Option DV), resVsK P H cs ts k = match resVs P H cs ts with | some ds => k ds | none => none
  | [], _, k => by simp only [resVsK, resVs]
  | x :: l, [], k => by simp only [resVsK, resVs]
  | x :: l, t :: ts, k => by
    simp only [resVsK, resVs, resAK_eq]
    cases resA H x with
    | none => rfl
    | some d =>
      simp only [resVsK_eq P H l ts]
      cases resVs P H l ts <;> rfl
def oneTup : List DV → DV
  | [d] => d
  | l => mkTup l
/-- The result, handed on. -/
noncomputable def retK (P : Program) (fn : Func) (s : St) (k : DV → Option DV) : Option DV := match resXs P s fn.results.toList with
  | some xs => resVsK P s.heap xs fn.resultTypes.toList fun ds => k (oneTup ds)
  | none => none
theorem retK_eq (P : Program) (fn : Func) (s : St) (k : DV → Option DV) : retK P fn s k = match retV P fn s with | some d => k d | none => none := by
  unfold retK retV resV
  cases resXs P s fn.results.toList with
  | none => rfl
  | some xs =>
    simp only [resVsK_eq]
    cases resVs P s.heap xs fn.resultTypes.toList with
    | none => rfl
    | some ds =>
      match ds with
      | [] => rfl
      | [d] => rfl
      | d :: e :: l => rfl
def resSem (tmps : Array Value) : ResultVar → Sem Value
  | .tmp t => pure (tmps.getD t undef)
  | .cell a t => do loadVar t (← asAddr (tmps.getD a undef))
theorem resX_ok {P : Program} {I : World → Prop} {D : Nat → Option Nat} {U : Nat → Prop} {N : Nat → Prop} {w0 : World} {s : St} {a : Act} {w : World} (hR : Rel I D U N w0 s a w) {r : ResultVar} {x : VV} (h : resX P s r = some x) : ∃ v, (resSem a.tmps r).run P w = .ok v w ∧ VRep U w D x v := by
  cases r with
  | tmp t =>
    simp only [resX, Option.some.injEq] at h
    subst h
    exact ⟨_, rfl, hR.t.eval (.tmp t)⟩
  | cell t T =>
    simp only [resX] at h
    split at h <;> try (cases h; done)
    rename_i b of hp
    have h1 := hR.t.eval (.tmp t)
    rw [hp] at h1
    obtain ⟨kk, hk, hax⟩ := h1
    have e0 : a.tmps.getD t undef = .pointer (some ⟨kk, of, none⟩) := hax
    split at h <;> try (cases h; done)
    · rename_i cs hb
      split at h <;> try (cases h; done)
      rename_i d hd
      simp only [Option.some.injEq] at h
      subst h
      obtain ⟨n2, cur, T', g3, g5, g6⟩ := hR.wr.hold b kk cs hk hb
      have hcells : CellsAt U w kk 0 cs := by
        intro i x hi
        have hlt : i < cur.size := by have := (List.getElem?_eq_some_iff.1 hi).1; omega
        exact ⟨cur[i], by simp [World.cell?, g3, hlt], g6 i x _ hi (Array.getElem?_eq_getElem hlt)⟩
      obtain ⟨v, hv', hr'⟩ := loadK_ok hd hcells
      rw [Nat.zero_add] at hv'
      exact ⟨v, by simp only [resSem, e0, asAddr, Sem.run_bind, Sem.run_pure, Result.andThen_ok, hv'], hr'⟩
    · rename_i cs hb
      obtain ⟨n2, cur, T', g3, g5, g6⟩ := hR.wr.holdm b kk cs hk hb
      obtain ⟨v, hv, hr⟩ := loadX_ok h g3 g5 g6
      exact ⟨v, by simp only [resSem, e0, asAddr, Sem.run_bind, Sem.run_pure, Result.andThen_ok, hv], hr⟩
theorem resXs_ok {P : Program} {I : World → Prop} {D : Nat → Option Nat} {U : Nat → Prop} {N : Nat → Prop} {w0 : World} {s : St} {a : Act} {w : World} (hR : Rel I D U N w0 s a w) : ∀ (l : List ResultVar) (xs : List VV), resXs P s l = some xs →
    ∃ vs : List Value, (l.mapM (resSem a.tmps)).run P w = .ok vs w ∧ vs.length = xs.length ∧ ∀ (i : Nat) (x : VV) (v : Value), xs[i]? = some x → vs[i]? = some v → VRep U w D x v
  | [], xs, h => by simp only [resXs, Option.some.injEq] at h; subst h; exact ⟨[], rfl, rfl, fun i x v h => by simp at h⟩
  | r :: rest, xs, h => by
    simp only [resXs] at h
    split at h <;> try (cases h; done)
    rename_i x l h1 h2
    simp only [Option.some.injEq] at h
    subst h
    obtain ⟨v, hv, hr⟩ := resX_ok hR h1
    obtain ⟨vs, g1, g2, g3⟩ := resXs_ok hR rest l h2
    refine ⟨v :: vs, ?_, by simp [g2], ?_⟩
    · rw [List.mapM_cons]; simp [Sem.run_bind, hv, g1]
    · intro i y u e1 e2
      cases i with
      | zero => simp at e1 e2; subst e1; subst e2; exact hr
      | succ i => exact g3 i y u (by simpa using e1) (by simpa using e2)
theorem resVs_ok {P : Program} {D : Nat → Option Nat} {U : Nat → Prop} {N : Nat → Prop} {w0 w : World} {H : OH} (hW : WRel D U N w0 H w) : ∀ (xs : List VV) (ts : List TypeId) (ds : List DV), resVs P H xs ts = some ds → ds.length = xs.length ∧ ∀ (i : Nat) (d : DV) (x : VV) (v : Value), ds[i]? = some d → xs[i]? = some x → VRep U w D x v → DRep (U3 U D) w d v
  | [], _, ds, h => by simp only [resVs, Option.some.injEq] at h; subst h; exact ⟨rfl, fun i d x v h => by simp at h⟩
  | x :: xs, [], ds, h => by simp only [resVs] at h; cases h
  | x :: xs, t :: ts, ds, h => by
    simp only [resVs] at h
    split at h <;> try (cases h; done)
    rename_i d l h1 h2
    simp only [Option.some.injEq] at h
    subst h
    obtain ⟨r1, r2⟩ := resVs_ok hW xs ts l h2
    refine ⟨by simp [r1], fun i e y v e1 e2 hv => ?_⟩
    cases i with
    | zero => simp at e1 e2; subst e1; subst e2; exact normT_rep (resA_ok hW h1 hv)
    | succ i => exact r2 i e y v (by simpa using e1) (by simpa using e2) hv
theorem resV_ok {P : Program} {I : World → Prop} {D : Nat → Option Nat} {U : Nat → Prop} {N : Nat → Prop} {w0 : World} {s : St} {a : Act} {w : World} (hR : Rel I D U N w0 s a w) (l : List ResultVar) (ts : List TypeId) (ds : List DV) (h : resV P s l ts = some ds) :
    ∃ vs : List Value, (l.mapM (resSem a.tmps)).run P w = .ok vs w ∧ vs.length = ds.length ∧ ∀ (i : Nat) (x : DV) (v : Value), ds[i]? = some x → vs[i]? = some v → DRep (U3 U D) w x v := by
  unfold resV at h
  split at h <;> try (cases h; done)
  rename_i xs hxs
  obtain ⟨vs, g1, g2, g3⟩ := resXs_ok hR l xs hxs
  obtain ⟨r1, r2⟩ := resVs_ok (P := P) hR.wr xs ts ds h
  refine ⟨vs, g1, by omega, fun i d v e1 e2 => ?_⟩
  have hlt : i < xs.length := by rw [← r1]; exact (List.getElem?_eq_some_iff.1 e1).1
  exact r2 i d _ v e1 (List.getElem?_eq_getElem hlt) (g3 i _ v (List.getElem?_eq_getElem hlt) e2)
def notTup : VV → Bool
  | .vtup _ => false
  | _ => true
theorem notTup_rep {U : Nat → Prop} {w : World} {D : Nat → Option Nat} {x : VV} {v : Value} (hn : notTup x = true) (h : VRep U w D x v) : ARep U w D x v := by
  cases x with
  | vtup cs => cases hn
  | vagg cs => exact h
  | dv d => exact h
  | dead => trivial
  | eptr cs => exact h
  | ptr b o => exact h
  | osl e sz b o n => exact h
/-- The result of a call that may hand blocks of its own back. -/
noncomputable def retX (P : Program) (fn : Func) (s : St) : Option VV :=
  match resXs P s fn.results.toList with
  | some [x] => some x
  | some l => match allD l with
    | some ds => some (.dv (mkTup ds))
    | none => bif l.all notTup then some (.vtup l) else none
  | none => none
theorem run_results {P : Program} {fn : Func} {tmps : Array Value} {vs : List Value} {w : World} (hv : (fn.results.toList.mapM (resSem tmps)).run P w = .ok vs w) : (results fn tmps).run P w = .ok (if h : vs.toArray.size = 1 then vs.toArray[0] else .tuple vs.toArray) w := by
  have e : results fn tmps = (do let vs ← fn.results.mapM (resSem tmps); pure (if h : vs.size = 1 then vs[0] else .tuple vs)) := rfl
  rw [e, Array.mapM_eq_mapM_toList]
  simp [Sem.run_bind, hv]
theorem retX_ok {P : Program} {I : World → Prop} {fn : Func} {D : Nat → Option Nat} {U : Nat → Prop} {N : Nat → Prop} {w0 : World} {s : St} {a : Act} {w : World} (hR : Rel I D U N w0 s a w) {x : VV} (h : retX P fn s = some x) :
    ∃ v, (results fn a.tmps).run P w = .ok v w ∧ VRep U w D x v := by
  unfold retX at h
  split at h
  · rename_i x' hx
    simp only [Option.some.injEq] at h
    subst h
    obtain ⟨vs, hv, hlen, hr⟩ := resXs_ok hR _ _ hx
    match vs, hlen with
    | [v], _ => exact ⟨v, by rw [run_results hv]; rfl, hr 0 _ v rfl rfl⟩
  · rename_i l hne hl
    obtain ⟨vs, hv, hlen, hr⟩ := resXs_ok hR _ _ hl
    have hn1 : ¬ vs.toArray.size = 1 := by
      intro e
      have : l.length = 1 := by rw [← hlen]; simpa using e
      match l, this with
      | [d], _ => exact hne d rfl
    have hrun : (results fn a.tmps).run P w = .ok (.tuple vs.toArray) w := by rw [run_results hv]; simp only [hn1]; rfl
    split at h
    · rename_i ds hds
      simp only [Option.some.injEq] at h
      subst h
      have := allD_map hds
      subst this
      exact ⟨_, hrun, mkTup_rep (by simpa using hlen) fun i d v e1 e2 => hr i (.dv d) v (by simp [e1]) (by simpa using e2)⟩
    · cases hb : l.all notTup with
      | false => rw [hb] at h; cases h
      | true =>
        rw [hb] at h
        simp only [cond_true, Option.some.injEq] at h
        subst h
        exact ⟨_, hrun, vs.toArray, rfl, by simpa using hlen, fun i y v e1 e2 => notTup_rep (List.all_eq_true.1 hb y (List.mem_of_getElem? e1)) (hr i y v e1 (by simpa using e2))⟩
  · cases h
theorem retV_ok {P : Program} {I : World → Prop} {fn : Func} {D : Nat → Option Nat} {U : Nat → Prop} {N : Nat → Prop} {w0 : World} {s : St} {a : Act} {w : World} (hR : Rel I D U N w0 s a w) {d : DV} (h : retV P fn s = some d) :
    ∃ v, (results fn a.tmps).run P w = .ok v w ∧ DRep (U3 U D) w d v := by
  have key : ∀ ds, resV P s fn.results.toList fn.resultTypes.toList = some ds → ∃ vs : List Value, (results fn a.tmps).run P w = .ok (if h : vs.toArray.size = 1 then vs.toArray[0] else .tuple vs.toArray) w ∧ vs.length = ds.length ∧ ∀ (i : Nat) (x : DV) (v : Value), ds[i]? = some x → vs[i]? = some v → DRep (U3 U D) w x v := by
    intro ds hds
    obtain ⟨vs, hv, hlen, hr⟩ := resV_ok hR fn.results.toList fn.resultTypes.toList ds hds
    refine ⟨vs, ?_, hlen, hr⟩
    have e : results fn a.tmps = (do let vs ← fn.results.mapM (resSem a.tmps); pure (if h : vs.size = 1 then vs[0] else .tuple vs)) := rfl
    rw [e, Array.mapM_eq_mapM_toList]
    simp [Sem.run_bind, hv]
  unfold retV at h
  split at h
  · rename_i d' hd
    simp at h; subst h
    obtain ⟨vs, hv, hlen, hr⟩ := key _ hd
    match vs, hlen with
    | [v], _ => exact ⟨v, by rw [hv]; rfl, hr 0 _ v rfl rfl⟩
  · rename_i l hne hl
    simp at h; subst h
    obtain ⟨vs, hv, hlen, hr⟩ := key _ hl
    have : ¬ vs.toArray.size = 1 := by
      intro e
      have : l.length = 1 := by rw [← hlen]; simpa using e
      match l, this with
      | [d], _ => exact hne d rfl
    refine ⟨.tuple vs.toArray, by rw [hv]; simp only [this]; rfl, mkTup_rep (by simpa using hlen) fun i x v e1 e2 => hr i x v e1 (by simpa using e2)⟩
  · cases h

/-- A frame's first slots: the arguments. -/
noncomputable def iniK : List VV → Nat → Tr → (Tr → Option DV) → Option DV
  | [], _, acc, k => k acc
  | d :: ds, i, acc, k => putC 12 acc i d fun acc' => iniK ds (i + 1) acc' k
noncomputable def iniV : List VV → Nat → Tr → Tr
  | [], _, acc => acc
  | d :: ds, i, acc => iniV ds (i + 1) (acc.put i d)
theorem iniK_eq : ∀ (ds : List VV) (i : Nat) (acc : Tr) (k : Tr → Option DV), iniK ds i acc k = k (iniV ds i acc)
  | [], _, _, _ => rfl
  | d :: ds, i, acc, k => by
    simp only [iniK, iniV]
    rw [putC_eq]
    exact iniK_eq ds (i + 1) _ k
theorem iniV_get : ∀ (ds : List VV) (i : Nat) (acc : Tr) (t : Nat), (iniV ds i acc).get t = .dead ∨ ((t < i ∨ i + ds.length ≤ t) ∧ ((iniV ds i acc).get t = acc.get t)) ∨ ∃ d, ds[t - i]? = some d ∧ i ≤ t ∧ (iniV ds i acc).get t = d
  | [], i, acc, t => .inr (.inl ⟨by simp; omega, rfl⟩)
  | d :: ds, i, acc, t => by
    simp only [iniV]
    rcases iniV_get ds (i + 1) (acc.put i d) t with h | ⟨h1, h2⟩ | ⟨d', h1, h2, h3⟩
    · exact .inl h
    · rcases Tr.get_put acc i d t with e | e
      · by_cases ht : t = i
        · subst ht
          right; right
          rw [if_pos rfl] at e
          exact ⟨d, by simp, Nat.le_refl _, h2.trans e⟩
        · rw [if_neg ht] at e
          right; left
          refine ⟨?_, h2.trans e⟩
          simp only [List.length_cons]
          omega
      · exact .inl (h2.trans e)
    · right; right
      refine ⟨d', ?_, by omega, h3⟩
      rw [show t - i = t - (i + 1) + 1 by omega, List.getElem?_cons_succ]
      exact h1
/-- A function read: arguments to result. -/
noncomputable def pevL (P : Program) (K : Tab) (L : LTab) (lv : List (Nat × List Nat)) (fuel : Nat) (fn : Func) (c : Code) (ds : List DV) (k : DV → Option DV) : Option DV :=
  iniK (ds.map VV.dv) 0 (.leaf (.dv (.val undef))) fun ts => pev P K L lv fuel c ⟨ts, ds.length + (fn.ntmps - ds.length), []⟩ fun e s => match e with
    | .exit _ => none
    | _ => retK P fn s k
noncomputable def pevF (P : Program) (K : Tab) (lv : List (Nat × List Nat)) (fuel : Nat) (fn : Func) (c : Code) (ds : List DV) (k : DV → Option DV) : Option DV := pevL P K noL lv fuel fn c ds k

/-- What is handed back: what was lent, in its order, and what is new. -/
def outIds (H : OH) (m : Nat) (x : VV) : List Nat := List.range m ++ liveIds H ((closeIds H 60 0 (addIds (refsV x) (List.range m))).drop m)
/-- A function read over values that may point at blocks. -/
noncomputable def pevH (P : Program) (K : Tab) (L : LTab) (lv : List (Nat × List Nat)) (fuel : Nat) (fn : Func) (c : Code) (xs : List VV) (H : OH) (k : VV → OH → Option DV) : Option DV :=
  iniK xs 0 (.leaf (.dv (.val undef))) fun ts => pev P K L lv fuel c ⟨ts, xs.length + (fn.ntmps - xs.length), H⟩ fun e s => match e with
    | .exit _ => none
    | _ => match retX P fn s with
      | some x => frc (outIds s.heap H.length x) fun ids => frc (packH s.heap ids) fun h => k (packV ids x) h
      | none => none
end Go.Pv
namespace Go.Pv
open Go Go.RowKit

theorem guardK_nat {X : Type} (ops : Array Oper) (ts : Tr) (n : Nat) (o : Oper) {yes no : Tr → (X → Option DV) → Option DV} (hy : ∀ t, Nat1 (yes t)) (hn : ∀ t, Nat1 (no t)) : Nat1 fun k => guardK ops ts n o (fun t => yes t k) (fun t => no t k) := by
  intro k r h
  obtain ⟨b, t1, _, _, hb, hall⟩ := guardK_inv h
  cases b with
  | true =>
    obtain ⟨x, h1, h2⟩ := hy t1 k r (by simpa using hb)
    exact ⟨x, h1, fun k' => (hall _ _).trans (by simpa using h2 k')⟩
  | false =>
    obtain ⟨x, h1, h2⟩ := hn t1 k r (by simpa using hb)
    exact ⟨x, h1, fun k' => (hall _ _).trans (by simpa using h2 k')⟩
theorem pevOps_nat {P : Program} {I : World → Prop} {K : Tab} (HK : KGood P I K) (ops : Array Oper) : ∀ (l : List Nat) (s : St), Nat1 (pevOps P K ops l s)
  | [], s => fun k r h => ⟨s, h, fun _ => rfl⟩
  | i :: rest, s => by
    intro k r h
    simp only [pevOps_cons] at h ⊢
    cases ho : ops[i]? with
    | none => simp [ho] at h
    | some o =>
      simp only [ho] at h ⊢
      refine guardK_nat ops s.tmps s.n o (yes := fun ts k => opk P K (evalV ts s.n) s.heap s.heap.length o fun x eff => pevOps P K ops rest ⟨putV ts o.dst x, s.n, eff.app s.heap.length s.heap⟩ k) (no := fun ts k => pevOps P K ops rest ⟨putV ts o.dst (.dv (.val undef)), s.n, s.heap⟩ k) ?_ (fun t => pevOps_nat HK ops rest _) k r h
      intro t k r h
      obtain ⟨x, y, h1, h2⟩ := opk_nat HK _ _ _ o _ r h
      obtain ⟨z, h3, h4⟩ := pevOps_nat HK ops rest _ k r h1
      exact ⟨z, h3, fun k' => (h2 _).trans (h4 k')⟩
theorem parK_nat {P : Program} {I : World → Prop} {K : Tab} (HK : KGood P I K) (ops : Array Oper) (base : Nat) : ∀ (l : List Nat) (s : St), Nat1 (parK P K ops base l s)
  | [], s => fun k r h => ⟨s, h, fun _ => rfl⟩
  | i :: rest, s => by
    intro k r h
    simp only [parK_cons] at h ⊢
    cases ho : ops[i]? with
    | none => simp [ho] at h
    | some o =>
      simp only [ho] at h ⊢
      refine guardK_nat ops s.tmps s.n o (yes := fun ts k => opk P K (evalV ts s.n) s.heap (base + i) o fun x eff => match eff with
        | .none => parK P K ops base rest ⟨putV ts o.dst x, s.n, s.heap⟩ k
        | .new cs => parK P K ops base rest ⟨putV ts o.dst x, s.n, (Eff.new cs).app (base + i) s.heap⟩ k
        | .newm cs => parK P K ops base rest ⟨putV ts o.dst x, s.n, (Eff.newm cs).app (base + i) s.heap⟩ k
        | _ => none) (no := fun ts k => parK P K ops base rest ⟨putV ts o.dst (.dv (.val undef)), s.n, s.heap⟩ k) ?_ (fun t => parK_nat HK ops base rest _) k r h
      intro t k r h
      obtain ⟨x, y, h1, h2⟩ := opk_nat HK _ _ _ o _ r h
      cases y with
      | upd b cs => cases h1
      | move b cs => cases h1
      | updm b cs => cases h1
      | call ids Hc => cases h1
      | ice bs => cases h1
      | newm cs =>
        obtain ⟨z, h3, h4⟩ := parK_nat HK ops base rest _ k r h1
        exact ⟨z, h3, fun k' => (h2 _).trans (h4 k')⟩
      | none =>
        obtain ⟨z, h3, h4⟩ := parK_nat HK ops base rest _ k r h1
        exact ⟨z, h3, fun k' => (h2 _).trans (h4 k')⟩
      | new cs =>
        obtain ⟨z, h3, h4⟩ := parK_nat HK ops base rest _ k r h1
        exact ⟨z, h3, fun k' => (h2 _).trans (h4 k')⟩
theorem parS_nat {P : Program} {I : World → Prop} {K : Tab} (HK : KGood P I K) (ops : Array Oper) (base : Nat) (tg : List (Nat × Nat)) (hids : List Nat) : ∀ (l : List Nat) (s : St) (t : OH), Nat1 (parS P K ops base tg hids l s t)
  | [], s, t => fun k r h => ⟨(s, t), h, fun _ => rfl⟩
  | i :: rest, s, t => by
    intro k r h
    simp only [parS_cons] at h ⊢
    cases ho : ops[i]? with
    | none => simp [ho] at h
    | some o =>
      simp only [ho] at h ⊢
      cases hl : lookP tg i with
      | some b =>
        simp only [hl] at h ⊢
        refine guardK_nat ops s.tmps s.n o (yes := fun ts k => opk P K (evalV ts s.n) (s.heap.set b (t.getD b none)) (base + i) o fun x eff => match eff with
          | .upd b' cs => bif Nat.beq b' b then parS P K ops base tg hids rest ⟨putV ts o.dst x, s.n, s.heap⟩ ((Eff.upd b' cs).app (base + i) t) k else none
          | .updm b' cs => bif Nat.beq b' b then parS P K ops base tg hids rest ⟨putV ts o.dst x, s.n, s.heap⟩ ((Eff.updm b' cs).app (base + i) t) k else none
          | _ => none) (no := fun ts k => none) ?_ (fun t k r h => by cases h) k r h
        intro ts k r h
        obtain ⟨x, y, h1, h2⟩ := opk_nat HK _ _ _ o _ r h
        cases y with
        | upd b' cs =>
          cases hb : Nat.beq b' b with
          | false => simp [hb] at h1
          | true =>
            simp only [hb, cond_true] at h1
            obtain ⟨z, h3, h4⟩ := parS_nat HK ops base tg hids rest _ _ k r h1
            exact ⟨z, h3, fun k' => (h2 _).trans (by simp only [hb, cond_true]; exact h4 k')⟩
        | updm b' cs =>
          cases hb : Nat.beq b' b with
          | false => simp [hb] at h1
          | true =>
            simp only [hb, cond_true] at h1
            obtain ⟨z, h3, h4⟩ := parS_nat HK ops base tg hids rest _ _ k r h1
            exact ⟨z, h3, fun k' => (h2 _).trans (by simp only [hb, cond_true]; exact h4 k')⟩
        | none => cases h1
        | new cs => cases h1
        | newm cs => cases h1
        | move b cs => cases h1
        | call ids Hc => cases h1
        | ice bs => cases h1
      | none =>
        simp only [hl] at h ⊢
        cases hh : hids.any (Nat.beq i) with
        | true =>
          simp only [hh, cond_true] at h ⊢
          refine guardK_nat ops s.tmps s.n o (yes := fun ts k => opk P K (evalV ts s.n) s.heap (base + i) o fun x eff => match eff with
            | .new cs => parS P K ops base tg hids rest ⟨putV ts o.dst x, s.n, s.heap⟩ ((Eff.new cs).app (base + i) t) k
            | .newm cs => parS P K ops base tg hids rest ⟨putV ts o.dst x, s.n, s.heap⟩ ((Eff.newm cs).app (base + i) t) k
            | _ => none) (no := fun ts k => none) ?_ (fun t k r h => by cases h) k r h
          intro ts k r h
          obtain ⟨x, y, h1, h2⟩ := opk_nat HK _ _ _ o _ r h
          cases y with
          | new cs =>
            obtain ⟨z, h3, h4⟩ := parS_nat HK ops base tg hids rest _ _ k r h1
            exact ⟨z, h3, fun k' => (h2 _).trans (h4 k')⟩
          | newm cs =>
            obtain ⟨z, h3, h4⟩ := parS_nat HK ops base tg hids rest _ _ k r h1
            exact ⟨z, h3, fun k' => (h2 _).trans (h4 k')⟩
          | none => cases h1
          | upd b cs => cases h1
          | updm b cs => cases h1
          | move b cs => cases h1
          | call ids Hc => cases h1
          | ice bs => cases h1
        | false =>
          simp only [hh, cond_false] at h ⊢
          refine guardK_nat ops s.tmps s.n o (yes := fun ts k => opk P K (evalV ts s.n) s.heap (base + i) o fun x eff => match eff with
            | .none => parS P K ops base tg hids rest ⟨putV ts o.dst x, s.n, s.heap⟩ t k
            | .new cs => parS P K ops base tg hids rest ⟨putV ts o.dst x, s.n, (Eff.new cs).app (base + i) s.heap⟩ t k
            | .newm cs => parS P K ops base tg hids rest ⟨putV ts o.dst x, s.n, (Eff.newm cs).app (base + i) s.heap⟩ t k
            | _ => none) (no := fun ts k => parS P K ops base tg hids rest ⟨putV ts o.dst (.dv (.val undef)), s.n, s.heap⟩ t k) ?_ (fun _ => parS_nat HK ops base tg hids rest _ _) k r h
          intro ts k r h
          obtain ⟨x, y, h1, h2⟩ := opk_nat HK _ _ _ o _ r h
          cases y with
          | none =>
            obtain ⟨z, h3, h4⟩ := parS_nat HK ops base tg hids rest _ _ k r h1
            exact ⟨z, h3, fun k' => (h2 _).trans (h4 k')⟩
          | new cs =>
            obtain ⟨z, h3, h4⟩ := parS_nat HK ops base tg hids rest _ _ k r h1
            exact ⟨z, h3, fun k' => (h2 _).trans (h4 k')⟩
          | newm cs =>
            obtain ⟨z, h3, h4⟩ := parS_nat HK ops base tg hids rest _ _ k r h1
            exact ⟨z, h3, fun k' => (h2 _).trans (h4 k')⟩
          | upd b cs => cases h1
          | updm b cs => cases h1
          | move b cs => cases h1
          | call ids Hc => cases h1
          | ice bs => cases h1
theorem drawS_nat {P : Program} {I : World → Prop} {K : Tab} (HK : KGood P I K) (ops : Array Oper) (s : St) : Nat1 (drawS P K ops s) := by
  intro k r h
  simp only [drawS_eq] at h ⊢
  generalize (drawChk ops ops.size && tgChk ops s.heap.length (tgOf ops s.tmps s.n s.heap.length 0 ops.toList) (hidsOf s.heap.length (tgOf ops s.tmps s.n s.heap.length 0 ops.toList)) (ancT ops)) = c at h ⊢
  cases c with
  | false => cases h
  | true =>
    simp only [cond_true] at h ⊢
    obtain ⟨z, h1, h2⟩ := parS_nat HK ops _ _ _ _ _ _ _ r h
    exact ⟨_, h1, fun k' => h2 _⟩
theorem drawK_nat {P : Program} {I : World → Prop} {K : Tab} (HK : KGood P I K) (ops : Array Oper) (s : St) : Nat1 (drawK P K ops s) := by
  intro k r h
  simp only [drawK_eq] at h ⊢
  cases hc : drawChk ops (firstStore ops.toList) with
  | false =>
    simp only [hc, cond_false] at h ⊢
    exact drawS_nat HK ops s k r h
  | true =>
    simp only [hc, cond_true] at h ⊢
    obtain ⟨z, h1, h2⟩ := parK_nat HK ops _ _ _ _ r h
    obtain ⟨y, h3, h4⟩ := pevOps_nat HK ops _ _ k r h1
    exact ⟨y, h3, fun k' => (h2 _).trans (h4 k')⟩
theorem loopK_nat {body : St → KC → Option DV} (hb : ∀ s, Nat2 (body s)) (live : List Nat) (h0 : Nat) : ∀ (n : Nat) (s : St), Nat2 (loopK body live h0 n s)
  | 0, s => fun k r h => by simp [loopK] at h
  | n + 1, s => by
    intro k r h
    simp only [loopK, trimK_eq] at h ⊢
    obtain ⟨e, s', h1, h2⟩ := hb _ _ r h
    cases e with
    | normal =>
      obtain ⟨e', s'', h3, h4⟩ := loopK_nat hb live h0 n s' k r h1
      exact ⟨e', s'', h3, fun k' => (h2 _).trans (h4 k')⟩
    | exit i => exact ⟨.exit i, s', h1, fun k' => h2 _⟩
    | ret => exact ⟨.ret, s', h1, fun k' => h2 _⟩
theorem pev_nat {M : Nat} {P : Program} {I : World → Prop} {K : Tab} (HK : KGood P I K) (L : LTab) (lv : List (Nat × List Nat)) (fuel : Nat) : ∀ (c : Code), LGood M P I L c → ∀ (s : St), Nat2 (pev P K L lv fuel c s) := by
  intro c
  induction c with
  | skip => intro _ s k r h; exact ⟨_, _, h, fun _ => rfl⟩
  | region id ops draw =>
    intro _ s k r h
    simp only [pev] at h ⊢
    cases hst' : (stopsOf lv).any (Nat.beq id) with
    | true => rw [hst'] at h; cases h
    | false =>
    rw [hst'] at h
    simp only [cond_false] at h ⊢
    obtain ⟨s1, hs1, h, hall⟩ := iceK_inv h
    cases draw with
    | true =>
      obtain ⟨z, h1, h2⟩ := drawK_nat HK ops s1 (k .normal) r h
      exact ⟨_, _, h1, fun k' => (hall _).trans (h2 (k' .normal))⟩
    | false =>
      obtain ⟨z, h1, h2⟩ := pevOps_nat HK ops _ s1 (k .normal) r h
      exact ⟨_, _, h1, fun k' => (hall _).trans (h2 (k' .normal))⟩
  | seq x y ihx ihy =>
    intro hL s k r h
    simp only [pev] at h ⊢
    obtain ⟨e, s', h1, h2⟩ := ihx hL.left s _ r h
    cases e with
    | normal =>
      obtain ⟨e', s'', h3, h4⟩ := ihy hL.right s' k r h1
      exact ⟨e', s'', h3, fun k' => (h2 _).trans (h4 k')⟩
    | exit i => exact ⟨.exit i, s', h1, fun k' => h2 _⟩
    | ret => exact ⟨.ret, s', h1, fun k' => h2 _⟩
  | cond c t e iht ihe =>
    intro hL s k r h
    cases s
    simp only [pev] at h ⊢
    split at h <;> try (cases h; done)
    rename_i b hb
    cases b with
    | true =>
      simp only [cond_true, condK_eq] at h ⊢
      exact iht hL.yes _ k r h
    | false =>
      simp only [cond_false, condK_eq] at h ⊢
      exact ihe hL.no _ k r h
  | block id b ih =>
    intro hL s k r h
    simp only [pev] at h ⊢
    obtain ⟨e, s', h1, h2⟩ := ih hL.block s _ r h
    cases e with
    | normal => exact ⟨.normal, s', h1, fun k' => h2 _⟩
    | ret => exact ⟨.ret, s', h1, fun k' => h2 _⟩
    | exit i =>
      cases hb : Nat.beq i id with
      | true => simp only [hb, cond_true] at h1; exact ⟨.normal, s', h1, fun k' => (h2 _).trans (by simp only [hb, cond_true])⟩
      | false => simp only [hb, cond_false] at h1; exact ⟨.exit i, s', h1, fun k' => (h2 _).trans (by simp only [hb, cond_false])⟩
  | loop b ih =>
    intro hL s k r h
    cases s
    simp only [pev] at h ⊢
    cases hl : lookL L b with
    | none =>
      rw [hl] at h
      simp only [] at h ⊢
      rename_i ts n hp
      cases hb : Nat.ble (mOf lv) (hp.length + roomOf lv) with
      | false => rw [hb] at h; cases h
      | true =>
        rw [hb] at h
        exact loopK_nat (ih hL.body) _ _ fuel _ k r h
    | some R =>
      rw [hl] at h
      simp only [packK_eq] at h ⊢
      exact (hL.here hl).2 _ k r h
  | exit id => intro _ s k r h; exact ⟨_, _, h, fun _ => rfl⟩
  | ret => intro _ s k r h; exact ⟨_, _, h, fun _ => rfl⟩
  | rangeFunc f ps x y _ _ => intro _ s k r h; simp [pev] at h
  | scope b _ => intro _ s k r h; simp [pev] at h
  | label l => intro _ s k r h; simp [pev] at h
  | goto l => intro _ s k r h; simp [pev] at h
  | refuse why => intro _ s k r h; simp [pev] at h

end Go.Pv
namespace Go.Pv
open Go Go.RowKit

theorem meets_of_pevL {P : Program} {I : World → Prop} (hm : P.follows .mixedOrders = true) (hst : Stab I) {K : Tab} (HK : KGood P I K) {g : FuncId} {fn : Func} {c : Code} (hf : P.funcs[g]? = some fn) (hb : fn.body = some c) (hg : okCall P g = true)
    {G : List DV → (DV → Option DV) → Option DV} (h : ∀ ds, (∀ k, G ds k = none) ∨ ∃ (L : LTab) (lv : List (Nat × List Nat)) (fuel : Nat), LGood (mOf lv) P I L c ∧ ∀ k, G ds k = pevL P K L lv fuel fn c ds k) : Meets P I g G := by
  intro ds k r hG
  rcases h ds with h | ⟨L, lv, fuel, hL, h⟩
  · rw [h] at hG; cases hG
  rw [h] at hG
  have hG' := hG
  unfold pevL at hG'
  simp only [iniK_eq, retK_eq] at hG'
  obtain ⟨e, s', h1, h2⟩ := pev_nat HK L lv fuel c hL _ _ r hG'
  have hret : ∃ d, retV P fn s' = some d ∧ k d = some r ∧ ∀ k', G ds k' = k' d := by
    cases e with
    | exit i => cases h1
    | normal =>
      simp only [] at h1
      split at h1 <;> try (cases h1; done)
      rename_i d hd
      exact ⟨d, hd, h1, fun k' => by rw [h]; unfold pevL; rw [iniK_eq, h2]; simp only [retK_eq, hd]⟩
    | ret =>
      simp only [] at h1
      split at h1 <;> try (cases h1; done)
      rename_i d hd
      exact ⟨d, hd, h1, fun k' => by rw [h]; unfold pevL; rw [iniK_eq, h2]; simp only [retK_eq, hd]⟩
  obtain ⟨d, hd, hk, hn⟩ := hret
  refine ⟨hg, d, hk, hn, fun U w args hI hU hlen hargs => ?_⟩
  refine calls_of_wp hf hb ?_
  have hs := pev_ok hm HK L lv fuel c hL _ (fun e s => match e with | .exit _ => none | _ => match retV P fn s with | some d => some d | none => none) d (by
    rw [h2]
    cases e with
    | exit i => cases h1
    | normal => simp only [hd]
    | ret => simp only [hd])
  have hp : args.toList.length = ds.length := by simpa using hlen
  refine hs (fun _ => none) U (fun k => k < w.heap.size) w _ w _ ⟨⟨rfl, ?_, ?_⟩, ⟨Keeps.refl, hU, (fun b k h => by cases h), (fun b k vs h => by cases h), (fun b k vs h => by cases h), (fun b vs h => by simp at h), (fun b b' k vs vs' h => by simp at h)⟩, fun k hk => hk, fun w' h => hst w w' hI h.below⟩ ?_
  · simp [hlen]
  · intro t v e2
    simp only [Array.getElem?_append, hlen] at e2
    rcases iniV_get (ds.map VV.dv) 0 (.leaf (.dv (.val undef))) t with g | ⟨g1, g2⟩ | ⟨d', g1, _, g3⟩
    · simp only []; rw [g]; trivial
    · simp only []; rw [g2]
      simp only [List.length_map] at g1
      rw [if_neg (by omega), Array.getElem?_replicate] at e2
      split at e2
      · simp only [Option.some.injEq] at e2; rw [← e2]; exact .val _
      · cases e2
    · simp only []; rw [g3]
      rw [Nat.sub_zero] at g1
      obtain ⟨d0, g0, rfl⟩ := map_get g1
      have := (List.getElem?_eq_some_iff.1 g0).1
      rw [if_pos this] at e2
      exact hargs t d0 v g0 e2
  · intro e2 s2 D' U' a' w' hk2 hR' hon
    have fin : retV P fn s2 = some d → a'.defers = [] ∧ ∃ v, (results fn a'.tmps).run P w' = .ok v w' ∧ ∃ v', Ending.returned v = .returned v' ∧ Below w.heap.size w w' ∧ DRep (U2 U w w') w' d v' := by
      intro hd2
      obtain ⟨v, hv, hr⟩ := retV_ok hR' hd2
      refine ⟨hR'.t.1, v, hv, v, rfl, hR'.wr.below.below, hr.keep (fun k hk => ?_) (fun _ _ => rfl) (Nat.le_refl _)⟩
      rcases hk with hk | ⟨b, hk⟩
      · rcases hon.back k hk with h | h
        · exact .inl h
        · exact .inr ⟨Nat.le_of_not_lt h, hR'.wr.old k hk⟩
      · obtain ⟨g1, g2, _⟩ := hR'.wr.own b k hk
        exact .inr ⟨Nat.le_of_not_lt g1, g2⟩
    cases e2 with
    | exit i => cases hk2
    | normal =>
      simp only [] at hk2
      split at hk2 <;> try (cases hk2; done)
      rename_i d' hd2
      cases hk2
      exact fin hd2
    | ret =>
      simp only [] at hk2
      split at hk2 <;> try (cases hk2; done)
      rename_i d' hd2
      cases hk2
      exact fin hd2

theorem meets_of_pev {P : Program} {I : World → Prop} (hm : P.follows .mixedOrders = true) (hst : Stab I) {K : Tab} (HK : KGood P I K) {g : FuncId} {fn : Func} {c : Code} (hf : P.funcs[g]? = some fn) (hb : fn.body = some c) (hg : okCall P g = true)
    {G : List DV → (DV → Option DV) → Option DV} (h : ∀ ds, (∀ k, G ds k = none) ∨ ∃ (lv : List (Nat × List Nat)) (fuel : Nat), ∀ k, G ds k = pevF P K lv fuel fn c ds k) : Meets P I g G :=
  meets_of_pevL hm hst HK hf hb hg fun ds => (h ds).imp id fun ⟨lv, fuel, h⟩ => ⟨noL, lv, fuel, LGood.none P I c, h⟩

theorem meets_none {P : Program} {I : World → Prop} {g : FuncId} {G : List DV → (DV → Option DV) → Option DV} (h : ∀ ds k, G ds k = none) : Meets P I g G := fun ds k r h' => by rw [h] at h'; cases h'
/-- A table of contracts. -/
def tabF : List (FuncId × (List DV → (DV → Option DV) → Option DV)) → FuncId → List DV → (DV → Option DV) → Option DV
  | [], _ => fun _ _ => none
  | (h, G) :: l, g => bif Nat.beq g h then G else tabF l g
def tabHp : List (FuncId × HRead) → FuncId → Option HRead
  | [], _ => none
  | (h, G) :: l, g => bif Nat.beq g h then some G else tabHp l g
def tab (l : List (FuncId × (List DV → (DV → Option DV) → Option DV))) (lh : List (FuncId × HRead)) : Tab := ⟨tabF l, tabHp lh⟩
theorem tab_nil (P : Program) (I : World → Prop) : ∀ g, Meets P I g (tabF [] g) := fun g ds k r h => by simp [tabF] at h
theorem tab_cons {P : Program} {I : World → Prop} {h : FuncId} {G : List DV → (DV → Option DV) → Option DV} {l : List (FuncId × (List DV → (DV → Option DV) → Option DV))} (hG : Meets P I h G) (hl : ∀ g, Meets P I g (tabF l g)) : ∀ g, Meets P I g (tabF ((h, G) :: l) g) := by
  intro g
  simp only [tabF]
  cases hb : Nat.beq g h with
  | true => have := Nat.eq_of_beq_eq_true hb; subst this; exact hG
  | false => exact hl g
theorem tabH_nil (P : Program) (I : World → Prop) : ∀ g G, tabHp [] g = some G → MeetsH P I g G := fun g G h => by simp [tabHp] at h
theorem tabH_cons {P : Program} {I : World → Prop} {h : FuncId} {G : HRead} {l : List (FuncId × HRead)} (hG : MeetsH P I h G) (hl : ∀ g G, tabHp l g = some G → MeetsH P I g G) : ∀ g G', tabHp ((h, G) :: l) g = some G' → MeetsH P I g G' := by
  intro g G' e
  simp only [tabHp] at e
  cases hb : Nat.beq g h with
  | true => have := Nat.eq_of_beq_eq_true hb; subst this; rw [hb] at e; simp at e; subst e; exact hG
  | false => rw [hb] at e; exact hl g G' e
theorem kgood {P : Program} {I : World → Prop} {l : List (FuncId × (List DV → (DV → Option DV) → Option DV))} {lh : List (FuncId × HRead)} (hst : Stab I) (h1 : ∀ g, Meets P I g (tabF l g)) (h2 : ∀ g G, tabHp lh g = some G → MeetsH P I g G) : KGood P I (tab l lh) := ⟨hst, h1, h2⟩

theorem meetsH_of_pev {P : Program} {I : World → Prop} (hm : P.follows .mixedOrders = true) {K : Tab} (HK : KGood P I K) {g : FuncId} {fn : Func} {c : Code} (hf : P.funcs[g]? = some fn) (hb : fn.body = some c) (hg : okCall P g = true)
    {G : HRead} (h : ∀ xs H, (∀ k, G xs H k = none) ∨ ∃ (L : LTab) (lv : List (Nat × List Nat)) (fuel : Nat), LGood (mOf lv) P I L c ∧ H.length = mOf lv ∧ ∀ k, G xs H k = pevH P K L lv fuel fn c xs H k) : MeetsH P I g G := by
  intro xs H k r hG
  rcases h xs H with h | ⟨L, lv, fuel, hL, hmo, h⟩
  · rw [h] at hG; cases hG
  rw [h] at hG
  have hG' := hG
  unfold pevH at hG'
  rw [iniK_eq] at hG'
  obtain ⟨e, s', h1, h2⟩ := pev_nat HK L lv fuel c hL _ _ r hG'
  have hret : ∃ x, retX P fn s' = some x ∧ k (packV (outIds s'.heap H.length x) x) (packH s'.heap (outIds s'.heap H.length x)) = some r ∧ ∀ k', G xs H k' = k' (packV (outIds s'.heap H.length x) x) (packH s'.heap (outIds s'.heap H.length x)) := by
    cases e with
    | exit i => cases h1
    | normal =>
      simp only [] at h1
      split at h1 <;> try (cases h1; done)
      rename_i x hx
      simp only [frc_eq] at h1
      exact ⟨x, hx, h1, fun k' => by rw [h]; unfold pevH; rw [iniK_eq, h2]; simp only [hx, frc_eq]⟩
    | ret =>
      simp only [] at h1
      split at h1 <;> try (cases h1; done)
      rename_i x hx
      simp only [frc_eq] at h1
      exact ⟨x, hx, h1, fun k' => by rw [h]; unfold pevH; rw [iniK_eq, h2]; simp only [hx, frc_eq]⟩
  obtain ⟨x, hx, hk, hn⟩ := hret
  refine ⟨hg, _, _, hk, hn, fun D U N w0 w args hI hW hN hlen hargs => ?_⟩
  refine calls_of_wp hf hb ?_
  classical
  let fin : KC := fun e s => match e with | .exit _ => none | _ => match retX P fn s with | some y => if packV (outIds s.heap H.length y) y = packV (outIds s'.heap H.length x) x ∧ packH s.heap (outIds s.heap H.length y) = packH s'.heap (outIds s'.heap H.length x) then some zD else none | none => none
  have hs := pev_ok hm HK L lv fuel c hL _ fin zD (by
    rw [h2]
    cases e with
    | exit i => cases h1
    | normal => simp only [fin, hx, and_self, if_true]
    | ret => simp only [fin, hx, and_self, if_true])
  have hp : args.toList.length = xs.length := by simpa using hlen
  refine hs D U N w0 _ w _ ⟨⟨rfl, ?_, ?_⟩, hW, hN, hI⟩ ?_
  · simp [hlen]
  · intro t v e2
    simp only [Array.getElem?_append, hlen] at e2
    rcases iniV_get xs 0 (.leaf (.dv (.val undef))) t with g | ⟨g1, g2⟩ | ⟨d', g1, _, g3⟩
    · simp only []; rw [g]; trivial
    · simp only []; rw [g2]
      rw [if_neg (by omega), Array.getElem?_replicate] at e2
      split at e2
      · simp only [Option.some.injEq] at e2; rw [← e2]; exact DRep.val _
      · cases e2
    · simp only []; rw [g3]
      rw [Nat.sub_zero] at g1
      have := (List.getElem?_eq_some_iff.1 g1).1
      rw [if_pos this] at e2
      exact hargs t d' v g1 e2
  · intro e2 s2 D' U' a' w' hk2 hR' hon
    have done : ∀ y, retX P fn s2 = some y → (if packV (outIds s2.heap H.length y) y = packV (outIds s'.heap H.length x) x ∧ packH s2.heap (outIds s2.heap H.length y) = packH s'.heap (outIds s'.heap H.length x) then some zD else none) = some zD →
        a'.defers = [] ∧ ∃ v, (results fn a'.tmps).run P w' = .ok v w' ∧ ∃ v' D'' U'', Ending.returned v = .returned v' ∧ Onward N D U w D'' U'' w' ∧ WRel D'' U'' N w0 (packH s'.heap (outIds s'.heap H.length x)) w' ∧ VRep U'' w' D'' (packV (outIds s'.heap H.length x) x) v' := by
      intro y hy hif
      split at hif <;> try (cases hif; done)
      rename_i heq
      obtain ⟨v, hv, hr⟩ := retX_ok hR' hy
      have hnd : (outIds s2.heap H.length y).Nodup := by
        obtain ⟨l, hl⟩ := addIds_pre (refsV y) (List.range H.length)
        exact lentIds_nodup s2.heap H.length 60 _ (addIds_nodup _ _ List.nodup_range) ⟨l, hl⟩
      have hat : ∀ b, b < H.length → (outIds s2.heap H.length y)[b]? = some b := by
        intro b hb
        unfold outIds
        rw [List.getElem?_append_left (by simpa using hb)]
        exact List.getElem?_range hb
      refine ⟨hR'.t.1, v, hv, v, packD D' (outIds s2.heap H.length y), U', rfl, ?_, ?_, ?_⟩
      · have hb : ∀ b k, D b = some k → b < H.length := by
          intro b k hbk
          obtain ⟨_, _, B, hB⟩ := hW.own b k hbk
          exact (List.getElem?_eq_some_iff.1 hB).1
        refine ⟨fun b k hbk => ?_, hon.set, hon.keep, hon.size, hon.back, fun b k cur T f hbk hc => hon.siz b k cur T f (hmo ▸ hb b k hbk) hbk hc⟩
        simp only [packD, hat b (hb b k hbk)]
        exact hon.lent b k (hmo ▸ hb b k hbk) hbk
      · rw [← heq.2]; exact hR'.wr.pack hnd
      · rw [← heq.1]; exact packV_rep _ hr
    cases e2 with
    | exit i => cases hk2
    | normal =>
      simp only [fin] at hk2
      split at hk2 <;> try (cases hk2; done)
      rename_i y hy
      exact done y hy hk2
    | ret =>
      simp only [fin] at hk2
      split at hk2 <;> try (cases hk2; done)
      rename_i y hy
      exact done y hy hk2
theorem meetsH_none {P : Program} {I : World → Prop} {g : FuncId} {G : HRead} (h : ∀ xs H k, G xs H k = none) : MeetsH P I g G := fun xs H k r h' => by rw [h] at h'; cases h'
end Go.Pv
namespace Go.Pv
open Go Go.RowKit
/-- A contract that was walked, of flat values. -/
theorem meets_flat {P : Program} {I : World → Prop} {g : FuncId} {G : List DV → (DV → Option DV) → Option DV} (hg : okCall P g = true)
    (h : ∀ ds, (∀ k, G ds k = none) ∨ ∃ (vs : List Value) (v : Value), ds = vs.map DV.val ∧ (∀ k, G ds k = k (.val v)) ∧ ∀ w, I w → Calls P g vs.toArray w fun e w' => e = .returned v ∧ Below w.heap.size w w') : Meets P I g G := by
  intro ds k r hG
  rcases h ds with h | ⟨vs, v, rfl, hk, hc⟩
  · rw [h] at hG; cases hG
  refine ⟨hg, .val v, by rw [hk] at hG; exact hG, hk, fun U w args hI _ hlen hargs => ?_⟩
  have e : args = vs.toArray := by
    apply Array.ext'
    apply List.ext_getElem?
    intro i
    by_cases hi : i < args.size
    · have hv : i < vs.length := by rw [hlen] at hi; simpa using hi
      have := hargs i (.val vs[i]) args[i] (by simp [hv]) (Array.getElem?_eq_getElem hi)
      have h2 : args[i] = vs[i] := val_eq this
      simp [hi, hv, h2]
    · rw [List.getElem?_eq_none (by simpa using hi), List.getElem?_eq_none (by rw [hlen] at hi; simpa using hi)]
  rw [e]
  exact (hc w hI).mono fun e w' ⟨he, hb⟩ => ⟨v, he, hb, .val v⟩
end Go.Pv
namespace Go.Pv
open Go
def bodyOf (fn : Func) : Code := match fn.body with | some c => c | none => .skip
end Go.Pv
namespace Go.Pv
open Go Go.RowKit

/-- What a copy asks of the elements. -/
def cloneOk (by' : Nat) (es : List (List DV)) : Bool := es.flatten.all oneCellD && Nat.ble es.length maxLen && Nat.ble (es.length * by') 140737488355328
noncomputable def cloneR (e : TypeId) (sz by' : Nat) : HRead := fun xs H k => match xs, H with
  | [.dv (.lst sz' es)], [] => bif Nat.beq sz' sz then (bif Nat.beq es.length 0 then k (.dv (.lst sz [])) [] else bif cloneOk by' es then k (.osl e sz 0 0 es.length) [some (.cells es.flatten)] else none) else none
  | _, _ => none
structure CloneIs (P : Program) (g : FuncId) (e : TypeId) (sz by' : Nat) : Prop where
  nil : ∀ (n c : Nat) (w : World), Calls P g #[.slice none n c] w fun x w' => x = .returned (.slice none 0 0) ∧ w' = w
  row : ∀ (a : Addr) (n c : Nat) (news : List Value) (w : World), news.length = n * sz → (∀ j u, news[j]? = some u → w.cell? (a.add j) = some u) → (∀ u ∈ news, u.oneCell' = true) → n ≤ maxLen → n * by' ≤ 140737488355328 →
    Calls P g #[.slice (some a) n c] w fun x w' => ∃ v', x = .returned v' ∧ w'.ownsRow w.heap.size e sz v' n news ∧ v' ≠ .slice none 0 0 ∧ Below w.heap.size w w'
theorem meetsH_clone {P : Program} {I : World → Prop} {g : FuncId} {e : TypeId} {sz by' : Nat} (hg : okCall P g = true) (hsz : 1 ≤ sz) (h : CloneIs P g e sz by') : MeetsH P I g (cloneR e sz by') := by
  intro xs H k r hr
  unfold cloneR at hr
  split at hr
  case h_2 => cases hr
  rename_i sz' es
  cases hs : Nat.beq sz' sz with
  | false => rw [hs] at hr; cases hr
  | true =>
    obtain rfl := Nat.eq_of_beq_eq_true hs
    simp only [Nat.beq_refl, cond_true] at hr
    refine ⟨hg, ?_⟩
    have keeps : ∀ {N : Nat → Prop} {w0 w w' : World}, Keeps N w0 w → Lt N w → Below w.heap.size w w' → Keeps N w0 w' := fun hk hl hb => hk.trans ⟨hb.os, hb.tape, hb.output, hb.size, fun k hk => hb.block k (hl k hk)⟩
    have onw : ∀ {N : Nat → Prop} {D D' : Nat → Option Nat} {U : Nat → Prop} {w w' : World}, (∀ b k, D b = some k → D' b = some k) → (∀ k, U k → k < w.heap.size) → (∀ b, D b = none) → Below w.heap.size w w' → Onward N D U w D' U w' := fun hd hu hn hb =>
      ⟨hd, fun _ h => h, fun k hk => hb.block k (hu k hk), hb.size, fun k hk => .inl hk, fun b k cur T f h => by rw [hn] at h; cases h⟩
    have one : ∀ {args : Array Value}, args.size = ([.dv (.lst sz' es)] : List VV).length → ∃ v, args = #[v] := fun {args} ha => by
      obtain ⟨l⟩ := args
      match l, ha with
      | [v], _ => exact ⟨v, rfl⟩
    have none_ : ∀ {D : Nat → Option Nat} {U N : Nat → Prop} {w0 w : World}, WRel D U N w0 [] w → ∀ b, D b = none := fun {D U N w0 w} hW b => by
      cases hd : D b with
      | none => rfl
      | some k => obtain ⟨_, _, B, g⟩ := hW.own b k hd; simp at g
    have triv : ∀ {D : Nat → Option Nat} {U N : Nat → Prop} {w0 w w' : World}, WRel D U N w0 [] w → Keeps N w0 w' → w.heap.size ≤ w'.heap.size → WRel D U N w0 [] w' := fun {D U N w0 w w'} hW hk hs =>
      ⟨hk, fun k hk => Nat.lt_of_lt_of_le (hW.old k hk) hs, fun b k hb => (by rw [none_ hW] at hb; cases hb), fun b k vs hb => (by rw [none_ hW] at hb; cases hb), fun b k vs hb => (by rw [none_ hW] at hb; cases hb), fun b B hb => (by simp at hb), fun b b' k B B' hb => (by simp at hb)⟩
    cases hn : Nat.beq es.length 0 with
    | true =>
      have hes : es = [] := List.length_eq_zero_iff.1 (Nat.eq_of_beq_eq_true hn)
      subst hes
      simp only [List.length_nil, Nat.beq_refl, cond_true] at hr
      refine ⟨_, _, hr, fun k' => by simp only [cloneR, Nat.beq_refl, List.length_nil, cond_true], ?_⟩
      intro D U N w0 w args hI hW hN ha hv
      obtain ⟨v, rfl⟩ := one ha
      have hv' : VRep U w D (.dv (.lst sz' [])) v := hv 0 _ _ rfl rfl
      have hd : DRep U w (.lst sz' []) v := hv'
      have fin : ∀ w', Below w.heap.size w w' → ∀ a c, ∃ v' D' U', Ending.returned (Value.slice a 0 c) = Ending.returned v' ∧ Onward N D U w D' U' w' ∧ WRel D' U' N w0 [] w' ∧ VRep U' w' D' (.dv (.lst sz' [])) v' := fun w' hb a c =>
        ⟨_, D, U, rfl, onw (fun _ _ h => h) hW.old (none_ hW) hb, triv hW (keeps hW.below hN hb) hb.size, (DRep.nil : DRep U w' (.lst sz' []) _)⟩
      have go : ∀ a c, Calls P g #[.slice a 0 c] w fun e w' => ∃ v D' U', e = .returned v ∧ Onward N D U w D' U' w' ∧ WRel D' U' N w0 [] w' ∧ VRep U' w' D' (.dv (.lst sz' [])) v := by
        intro a c
        cases a with
        | none =>
          refine (h.nil 0 c w).mono fun x w' hx => ?_
          obtain ⟨rfl, rfl⟩ := hx
          exact fin _ (Below.refl _ _) none 0
        | some a =>
          refine (h.row a 0 c [] w (by simp) (fun j u hu => by simp at hu) (fun u hu => by cases hu) (Nat.zero_le _) (by simp)).mono fun x w' hx => ?_
          obtain ⟨v', rfl, hown, hne, hb⟩ := hx
          rcases hown.2 with ⟨rfl, _⟩ | ⟨g', cap, cur, rfl, _⟩
          · exact absurd rfl hne
          · exact fin _ hb _ _
      cases hd with
      | nil => exact go _ _
      | lst _ _ _ _ _ _ => exact go _ _
    | false =>
      rw [hn] at hr
      simp only [cond_false] at hr
      cases hc : cloneOk by' es with
      | false => rw [hc] at hr; cases hr
      | true =>
        rw [hc] at hr
        simp only [cond_true] at hr
        refine ⟨_, _, hr, fun k' => by simp only [cloneR, Nat.beq_refl, hn, hc, cond_true, cond_false], ?_⟩
        intro D U N w0 w args hI hW hN ha hv
        obtain ⟨v, rfl⟩ := one ha
        have hv' : VRep U w D (.dv (.lst sz' es)) v := hv 0 _ _ rfl rfl
        have hpos : 1 ≤ es.length := by
          cases es with
          | nil => simp at hn
          | cons _ _ => simp
        simp only [cloneOk, Bool.and_eq_true] at hc
        obtain ⟨⟨h1, h2⟩, h3⟩ := hc
        obtain ⟨ad, cp, rfl, news, l1, l2, hcells, hone, hrep⟩ := newsD_ok (H := []) (sz := sz') (m := es.length) (ns := es.flatten) (x := .dv (.lst sz' es)) (by simp [newsD]) hpos hsz h1 hW (Compat.refl _) hv'
        refine (h.row ad es.length cp news w l1 hcells hone (Nat.le_of_ble_eq_true h2) (Nat.le_of_ble_eq_true h3)).mono fun x w' hx => ?_
        obtain ⟨v', rfl, hown, hne, hb⟩ := hx
        rcases hown.2 with ⟨rfl, _⟩ | ⟨g', cap, cur, rfl, hge, hblk, hnc, _, hcs, htake⟩
        · exact absurd rfl hne
        · have hlt : g' < w'.heap.size := (Array.getElem?_eq_some_iff.1 hblk).1
          have hnN : ¬ N g' := fun hk => by have := hN g' hk; omega
          have hnU : ¬ U g' := fun hk => by have := hW.old g' hk; omega
          have hcap : es.length * sz' ≤ cur.size := by rw [hcs]; exact Nat.mul_le_mul_right _ hnc
          have hD0 : ∀ b k, (if b = 0 then some g' else none) = some k → b = 0 ∧ k = g' := fun b k hb => by
            split at hb
            · rename_i e; cases hb; exact ⟨e, rfl⟩
            · cases hb
          have hon : Onward N D U w (fun b => if b = 0 then some g' else none) U w' := onw (fun b k hb => by rw [none_ hW] at hb; cases hb) hW.old (none_ hW) hb
          refine ⟨_, fun b => if b = 0 then some g' else none, U, rfl, hon, ⟨keeps hW.below hN hb, fun k hk => Nat.lt_of_lt_of_le (hW.old k hk) hb.size, ?_, ?_, ?_, ?_, ?_⟩, ?_⟩
          · intro b k hb'
            obtain ⟨rfl, rfl⟩ := hD0 b k hb'
            exact ⟨hnN, hlt, _, rfl⟩
          · intro b k vs hb' hH
            obtain ⟨rfl, rfl⟩ := hD0 b k hb'
            simp only [List.getElem?_cons_zero, Option.some.injEq, Blk.cells.injEq] at hH
            subst hH
            refine ⟨hnU, cur, e, hblk, by rw [l2]; exact hcap, ?_⟩
            intro i x v hx hv2
            have hi : i < es.length * sz' := by have := (List.getElem?_eq_some_iff.1 hx).1; omega
            refine DRep.keep (fun _ h => h) (fun k hk => hb.block k (hW.old k hk)) hb.size (hrep i x v hx ?_)
            rw [← htake, List.getElem?_take_of_lt hi, Array.getElem?_toList]
            exact hv2
          · intro b k vs hb' hH
            obtain ⟨rfl, rfl⟩ := hD0 b k hb'
            simp at hH
          · intro b B hb'
            match b, hb' with
            | 0, _ => exact ⟨g', by simp⟩
          · intro b b' k B B' h1 h2 _ _ hd hd'
            rw [(hD0 b k hd).1, (hD0 b' k hd').1]
          · exact ⟨g', cap, cur, by simp, hnc, hblk, by rw [hcs]; omega, rfl⟩
end Go.Pv
