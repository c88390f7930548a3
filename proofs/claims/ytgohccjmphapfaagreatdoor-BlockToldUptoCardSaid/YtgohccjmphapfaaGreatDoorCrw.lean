import Derived.Test.YtgohccjmphapfaaGreatDoorR0
import Derived.Deep.Slices
import Derived.WideShapes
import Derived.SizedLaws
set_option linter.all false
noncomputable section
namespace Go.Pv
open Go Go.RowKit
def CR (U : Nat → Prop) (w : World) (ds : List DV) (cs : List Value) : Prop := cs.length = ds.length ∧ ∀ (i : Nat) (d : DV) (v : Value), ds[i]? = some d → cs[i]? = some v → DRep U w d v
theorem CR.one {U : Nat → Prop} {w : World} {d : DV} {v : Value} (h : DRep U w d v) : CR U w [d] [v] :=
 ⟨rfl, fun i d' v' h1 h2 => by match i with
                               | 0 => simp at h1 h2; subst h1; subst h2; exact h
                               | i + 1 => simp at h1⟩
theorem CR.nil {U : Nat → Prop} {w : World} : CR U w [] [] := ⟨rfl, fun i d v h => by simp at h⟩
theorem CR.app {U : Nat → Prop} {w : World} {ds ds' : List DV} {cs cs' : List Value} (h : CR U w ds cs) (h' : CR U w ds' cs') : CR U w (ds ++ ds') (cs ++ cs') := by
 refine ⟨by simp [h.1, h'.1], fun i d v h1 h2 => ?_⟩
 rw [List.getElem?_append] at h1 h2
 rw [h.1] at h2
 split at h1
 ·rw [if_pos (by assumption)] at h2; exact h.2 i d v h1 h2
 ·rw [if_neg (by assumption)] at h2; exact h'.2 _ d v h1 h2
theorem CR.vals {U : Nat → Prop} {w : World} (vs : List Value) : CR U w (vs.map DV.val) vs := by
 refine ⟨by simp, fun i d v h1 h2 => ?_⟩
 rw [List.getElem?_map, h2] at h1
 simp at h1
 subst h1
 exact .val v
theorem CR.agg {U : Nat → Prop} {w : World} {ds : List DV} {cs : List Value} (h : CR U w ds cs) : DRep U w (.agg ds) (.agg cs.toArray) :=
 .agg (by simpa using h.1) fun i d v h1 h2 => h.2 i d v h1 (by simpa using h2)
theorem Won {T : Type} {P : Nat → T → Prop} : ∀ N : Nat, (∀ i, i < N → ∃ q, P i q) → ∃ qs : List T, qs.length = N ∧ ∀ i q, qs[i]? = some q → P i q
 | 0, _ => ⟨[], rfl, fun i q h => by simp at h⟩
 | N + 1, h => by
  obtain ⟨qs, hl, hq⟩ := Won N fun i hi => h i (Nat.lt_succ_of_lt hi)
  obtain ⟨q, hN⟩ := h N (Nat.lt_succ_self _)
  refine ⟨qs ++ [q], by simp [hl], fun i p hp => ?_⟩
  rw [List.getElem?_append] at hp
  split at hp
  ·exact hq i p hp
  ·rename_i hge
   have hi : i = N := by
    have := (List.getElem?_eq_some_iff.1 hp).1
    simp at this; omega
   subst hi
   rw [hl, Nat.sub_self] at hp
   simp at hp
   rw [← hp]; exact hN
def Wbb {H : Type} (P : Program) (t : TypeId) (d : DataW H) : Prop := ∀ n ∈ d.weights P t, n ≤ reachBytes
theorem Wbz {H : Type} {P : Program} {e : TypeId} : ∀ {ds : List (DataW H)} {d : DataW H}, d ∈ ds → ∀ n ∈ d.weights P e, n ∈ DataW.weightsAll P e ds
 | [], d, h, _, _ => by cases h
 | d0 :: ds, d, h, n, hn => by
  simp only [DataW.weightsAll, List.mem_append]
  rcases List.mem_cons.1 h with rfl | h
  ·exact .inl hn
  ·exact .inr (Wbz h n hn)
theorem Wbb.field {H : Type} {P : Program} {t : TypeId} {fs : Array Field} (ht : P.underlying t = some (.struct fs)) {parts : List (DataW H)} (h : Wbb P t (.agg parts)) {j : Nat} {f : Field} {d : DataW H} (hf : fs[j]? = some f) (hd : parts[j]? = some d) : Wbb P f.type d := by
 intro n hn
 refine h n ?_
 simp only [DataW.weights, ht]
 exact DataW.weights_mem_each (j := j) (t := f.type) (by simp [hf]) hd n hn
theorem Wbb.each {H : Type} {P : Program} {ts : List TypeId} {ds : List (DataW H)} (h : (DataW.weightsEach P ts ds).all (· ≤ reachBytes) = true) {j : Nat} {t : TypeId} {d : DataW H} (ht : ts[j]? = some t) (hd : ds[j]? = some d) : Wbb P t d :=
 fun n hn => by simpa using List.all_eq_true.1 h n (DataW.weights_mem_each ht hd n hn)
theorem Wtn {T : Type} {P : Program} {H : Type} {enc : TypeId × Value → H} {w : World} {base : Nat} {spare : Nat → Bool} {held : Bool} {t e : TypeId} (cells : T → List DV) {sz : Nat} (hsz : P.cellsOf e = sz) (h1 : 1 ≤ sz) (hc : ∀ g, (cells g).length = sz) (ht : P.underlying t = some (.slice e))
  {x : DataW H × List MemPlace} (he : ∀ fuel' cs y, DataW.trod enc P w base spare held fuel' e cs = some y → Wbb P e y.1 → SizeOf.sizeOf y.1 < SizeOf.sizeOf x.1 → ∃ g, CR (fun k => k < w.heap.size) w (cells g) cs)
  {fuel : Nat} {v : Value} (h : DataW.trod enc P w base spare held fuel t [v] = some x) (hx : Wbb P t x.1) :
  ∃ gs : List T, gs.length * P.bytesOf e ≤ reachBytes ∧ DRep (fun k => k < w.heap.size) w (.lst sz (gs.map cells)) v := by
 rcases Go.Deep.open_slice ht h with ⟨hcs, _⟩ | ⟨a', len, cap, m, n, D, Pl, hcs, _, hl, hm, hmm, rfl, hi⟩
 ·simp at hcs
  subst hcs
  exact ⟨[], by simp, .nil⟩
 ·simp at hcs
  subst hcs
  by_cases h0 : len = 0
  ·subst h0
   exact ⟨[], by simp, .nil⟩
  ·have hlm : len ≤ m := by rw [hmm]; split <;> omega
   have hw : len * P.bytesOf e ≤ reachBytes := by
    have := hx ((len + (m - len)) * P.bytesOf e) (by simp [DataW.weights, ht])
    exact Nat.le_trans (Nat.mul_le_mul_right _ (by omega)) this
   have hlt : ∀ i, i < len → Wbb P e (D i) := fun i hi n hn => hx n (by
    simp only [DataW.weights, ht, List.mem_cons, List.mem_append]
    exact .inr (.inl (Wbz (List.mem_map.2 ⟨i, by simpa using hi, rfl⟩) n hn)))
   have hcell : ∀ i, i < len → ∃ q : T, ∀ (j : Nat) (d : DV), (cells q)[j]? = some d → ∃ u, w.cell? ((a'.add (i * sz)).add j) = some u ∧ DRep (fun k => k < w.heap.size) w d u := fun i hil => by
    obtain ⟨cs', hc', ht'⟩ := hi i (by omega)
    rw [hsz] at hc'
    obtain ⟨_, hcl, hat⟩ := World.cells?_some hc'
    obtain ⟨g, hg⟩ := he _ _ _ ht' (hlt i hil) (by
     have : D i ∈ (List.range len).map D := List.mem_map.2 ⟨i, by simpa using hil, rfl⟩
     have := List.sizeOf_lt_of_mem this
     simp only [DataW.slice.sizeOf_spec]
     omega)
    refine ⟨g, fun j d hd => ?_⟩
    have hj : j < sz := by have := (List.getElem?_eq_some_iff.1 hd).1; rw [hc] at this; exact this
    have h9 := hat j hj
    have hjc : j < cs'.length := by rw [hg.1, hc]; exact hj
    exact ⟨cs'[j], by rw [h9]; exact List.getElem?_eq_getElem hjc, hg.2 j d _ hd (List.getElem?_eq_getElem hjc)⟩
   obtain ⟨b, off, spot⟩ := a'
   have first : ∃ u, w.cell? (((⟨b, off, spot⟩ : Addr).add (0 * sz)).add 0) = some u := by
    obtain ⟨q, h2⟩ := hcell 0 (by omega)
    obtain ⟨d, hd⟩ : ∃ d, (cells q)[0]? = some d := ⟨_, List.getElem?_eq_getElem (by rw [hc]; omega)⟩
    obtain ⟨u, hu, _⟩ := h2 0 d hd
    exact ⟨u, hu⟩
   obtain ⟨u0, hu0⟩ := first
   have hspot : spot = none := by
    have := World.cell?_spot hu0
    simpa [Addr.add] using this
   subst hspot
   obtain ⟨qs, hql, hqs⟩ := Won len hcell
   have hb : b < w.heap.size := by
    have := World.block_lt_of_cell? w _ hu0
    simpa [Addr.add] using this
   refine ⟨qs, by rw [hql]; exact hw, ?_⟩
   have hlen : (qs.map cells).length = len := by simp [hql]
   have := DRep.lst (U := fun k => k < w.heap.size) (w := w) (sz := sz) (b := b) (off := off) (c := cap) (es := qs.map cells) (g := fun i j => (w.cell? ⟨b, off + i * sz + j, none⟩).getD undef) hb hb (by omega) (fun e he => by
     obtain ⟨q, _, rfl⟩ := List.mem_map.1 he; exact hc q) (fun i j e x he hx => by
     simp only [List.getElem?_map, Option.map_eq_some_iff] at he
     obtain ⟨q, hq, rfl⟩ := he
     obtain ⟨u, hu, _⟩ := hqs i q hq j x hx
     rw [Go.WideShapes.add_plain, Go.WideShapes.add_plain] at hu
     rw [hu]; rfl) (fun i j e x he hx => by
     simp only [List.getElem?_map, Option.map_eq_some_iff] at he
     obtain ⟨q, hq, rfl⟩ := he
     obtain ⟨u, hu, hr⟩ := hqs i q hq j x hx
     rw [Go.WideShapes.add_plain, Go.WideShapes.add_plain] at hu
     rw [hu]; exact hr)
   rw [hlen] at this
   exact this
end Go.Pv
end
