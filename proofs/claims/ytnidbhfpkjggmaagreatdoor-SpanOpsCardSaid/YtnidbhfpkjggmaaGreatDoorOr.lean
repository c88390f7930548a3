/-
  SpanOps: of any name and any list of spans the law answers true.
-/
import Derived.Test.YtnidbhfpkjggmaaGreatDoorOq
import Derived.Test.YtnidbhfpkjggmaaGreatDoorOpenP
import Derived.Deep.Slices
import Derived.WideShapes
set_option linter.all false
namespace Go.Proofs.YtnidbhfpkjggmaaGreatDoor
open Go.Pv Go.RowKit

def Sp.vals (s : Sp) : List Value := [.int .i64 s.ln, .int .i64 s.ld, .int .i64 s.hn, .int .i64 s.hd, .int .i64 s.den, .bool s.no, .bool s.em]
def Sp.cells (s : Sp) : List DV := [.val (.int .i64 s.ln), .val (.int .i64 s.ld), .val (.int .i64 s.hn), .val (.int .i64 s.hd), .val (.int .i64 s.den), .val (.bool s.no), .val (.bool s.em)]
theorem Sp.cells_eq (s : Sp) : s.cells = s.vals.map DV.val := rfl
/-- The law's contract says true, whatever the list. -/
theorem spanops_K (op : ByteArray) (xs : List Sp) (k : DV → Option DV) :
    KK_serinettelaw03_SpanOps serinettelaw03_SpanOps_n0 serinettelaw03_SpanOps_n1 serinettelaw03_SpanOps_n2 serinettelaw03_SpanOps_n3 serinettelaw03_SpanOps_m4 [.val (.string op), .lst 7 (xs.map Sp.cells)] k = k (.val (.bool true)) := by
  match xs with
  | [] => exact spanops_n0 op _
  | [a] => exact spanops_n1 op _ _ _ _ _ _ _ _
  | [a, b] => exact spanops_n2 op _ _ _ _ _ _ _ _ _ _ _ _ _ _ _
  | [a, b, c] => exact spanops_n3 op _ _ _ _ _ _ _ _ _ _ _ _ _ _ _ _ _ _ _ _ _ _
  | a :: b :: c :: d :: l => exact spanops_m4 op _ _ _ _ _ _ _ _ _ _ _ _ _ _ _ _ _ _ _ _ _ _ _ _ _ _ _ _ (l.map Sp.cells) _
/-- The law answers true. -/
theorem spanops_any (op : ByteArray) (v : Value) (w : World) (hI : Inv w) (xs : List Sp) (hv : DRep (fun k => k < w.heap.size) w (.lst 7 (xs.map Sp.cells)) v) :
    Calls Tryz.prog 5 #[.string op, v] w fun e w' => e = .returned (.bool true) ∧ Below w.heap.size w w' := by
  have h := m_serinettelaw03_SpanOps [.val (.string op), .lst 7 (xs.map Sp.cells)] some (.val (.bool true)) (spanops_K op xs _)
  obtain ⟨_, x, hx, _, hc⟩ := h
  cases hx
  refine (hc (fun k => k < w.heap.size) w _ hI (fun _ h => h) rfl ?_).mono fun e w' ⟨v, he, hb, hr⟩ => ⟨by rw [he, val_eq hr], hb⟩
  intro i x v' h1 h2
  match i with
  | 0 => simp at h1 h2; subst h1; subst h2; exact .val _
  | 1 => simp at h1 h2; subst h1; subst h2; exact hv
  | i + 2 => simp at h1
theorem gather_sp {P : Nat → Sp → Prop} : ∀ N : Nat, (∀ i, i < N → ∃ q, P i q) → ∃ qs : List Sp, qs.length = N ∧ ∀ i q, qs[i]? = some q → P i q
  | 0, _ => ⟨[], rfl, fun i q h => by simp at h⟩
  | N + 1, h => by
    obtain ⟨qs, hl, hq⟩ := gather_sp N fun i hi => h i (Nat.lt_succ_of_lt hi)
    obtain ⟨q, hN⟩ := h N (Nat.lt_succ_self _)
    refine ⟨qs ++ [q], by simp [hl], fun i p hp => ?_⟩
    rw [List.getElem?_append] at hp
    split at hp
    · exact hq i p hp
    · rename_i hge
      have hi : i = N := by
        have := (List.getElem?_eq_some_iff.1 hp).1
        simp at this; omega
      subst hi
      rw [hl, Nat.sub_self] at hp
      simp at hp
      rw [← hp]; exact hN
/-- What a list of spans reads as. -/
theorem sps_of {H : Type} {enc : TypeId × Value → H} {w : World} {base : Nat} {spare : Nat → Bool} {held : Bool} {fuel : Nat} {v : Value} {x : DataW H × List MemPlace} (h : DataW.trod enc Tryz.prog w base spare held fuel 37 [v] = some x) :
    ∃ xs : List Sp, DRep (fun k => k < w.heap.size) w (.lst 7 (xs.map Sp.cells)) v := by
  rcases Go.Deep.open_slice Tryz.underlying37 h with ⟨hcs, _⟩ | ⟨a', len, cap, m, n, D, Pl, hcs, _, hl, hm, hmm, _, hi⟩
  · simp at hcs
    subst hcs
    exact ⟨[], .nil⟩
  · simp at hcs
    subst hcs
    by_cases h0 : len = 0
    · subst h0
      exact ⟨[], .nil⟩
    · have hlm : len ≤ m := by rw [hmm]; split <;> omega
      have hcell : ∀ i, i < len → ∃ q : Sp, ∀ (j : Nat) (u : Value), q.vals[j]? = some u → w.cell? ((a'.add (i * 7)).add j) = some u := fun i hil => by
        obtain ⟨cs', hc, ht⟩ := hi i (by omega)
        rw [cellsP] at hc
        obtain ⟨_, hcl, hat⟩ := World.cells?_some hc
        obtain ⟨a, b, c, d, n, o, e, rfl, _⟩ := sp_of ht
        refine ⟨⟨a, b, c, d, n, o, e⟩, fun j u hu => ?_⟩
        have hj : j < 7 := by have := (List.getElem?_eq_some_iff.1 hu).1; simpa [Sp.vals] using this
        have h9 := hat j hj
        rw [h9]
        exact hu
      obtain ⟨b, off, spot⟩ := a'
      have hspot : spot = none := by
        obtain ⟨q, h1⟩ := hcell 0 (by omega)
        have := World.cell?_spot (h1 0 _ rfl)
        simpa [Addr.add] using this
      subst hspot
      obtain ⟨qs, hql, hqs⟩ := gather_sp len hcell
      have hb : b < w.heap.size := by
        obtain ⟨q, h1⟩ := hcell 0 (by omega)
        have := World.block_lt_of_cell? w _ (h1 0 _ rfl)
        simpa [Addr.add] using this
      refine ⟨qs, ?_⟩
      have hlen : (qs.map Sp.cells).length = len := by simp [hql]
      have := DRep.lst (U := fun k => k < w.heap.size) (w := w) (sz := 7) (b := b) (off := off) (c := cap) (es := qs.map Sp.cells) (g := fun i j => match qs[i]? with | some q => q.vals.getD j undef | none => undef) hb hb (by omega) (fun e he => by
          obtain ⟨q, _, rfl⟩ := List.mem_map.1 he; rfl) (fun i j e x he hx => by
          simp only [List.getElem?_map, Option.map_eq_some_iff] at he
          obtain ⟨q, hq, rfl⟩ := he
          rw [Sp.cells_eq, List.getElem?_map] at hx
          simp only [Option.map_eq_some_iff] at hx
          obtain ⟨u, hu, rfl⟩ := hx
          have h3 := hqs i q hq j u hu
          rw [Go.WideShapes.add_plain, Go.WideShapes.add_plain] at h3
          simp only [hq, List.getD_eq_getElem?_getD, hu, Option.getD_some]
          exact h3) (fun i j e x he hx => by
          simp only [List.getElem?_map, Option.map_eq_some_iff] at he
          obtain ⟨q, hq, rfl⟩ := he
          rw [Sp.cells_eq, List.getElem?_map] at hx
          simp only [Option.map_eq_some_iff] at hx
          obtain ⟨u, hu, rfl⟩ := hx
          simp only [hq, List.getD_eq_getElem?_getD, hu, Option.getD_some]
          exact .val _)
      rw [hlen] at this
      exact this
end Go.Proofs.YtnidbhfpkjggmaaGreatDoor
