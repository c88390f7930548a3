/-
  block.copied: a diagram in memory of its own.
-/
import Derived.Test.YtdfhakhapblhgaaCi
set_option linter.all false
namespace Go.Proofs.Ytdfhakhapblhgaa
open Go Go.Pv Go.RowKit
set_option maxRecDepth 100000 in
set_option maxHeartbeats 1600000 in
theorem copied_fresh (t : BT) (op name fk fr fo : ByteArray) (n m fi ff : Int) (nums : List (Int × Int)) (kids : List BT) (v4 v10 : Value) (hq : nums.length * 16 ≤ reachBytes) (hkl : kids.length * 160 ≤ reachBytes)
    (hk : ∀ x ∈ kids, ∀ (U : Nat → Prop) (w : World) (vs : List Value), (∀ k, U k → k < w.heap.size) → CR U w x.cells vs → Calls Try.prog 30 #[.agg vs.toArray] w fun e w' => ∃ vs', e = .returned (.agg vs'.toArray) ∧ Below w.heap.size w w' ∧ FVals w' (fresh w w') x.cells vs')
    (U : Nat → Prop) (w : World) (hU : ∀ k, U k → k < w.heap.size) (h4 : DRep U w (.lst 2 (nums.map qpc)) v4) (h10 : DRep U w (.lst 11 (BT.cellsL kids)) v10) :
    Calls Try.prog 30 #[.agg #[.string op, .string name, .int .i64 n, .int .i64 m, v4, .string fk, .int .i64 fi, .int .i64 ff, .string fr, .string fo, v10]] w fun e w' =>
      ∃ u4 u10, e = .returned (.agg #[.string op, .string name, .int .i64 n, .int .i64 m, u4, .string fk, .int .i64 fi, .int .i64 ff, .string fr, .string fo, u10]) ∧ Below w.heap.size w w' ∧ ∃ G4 G10 : Nat → Prop, FRep w' G4 (.lst 2 (nums.map qpc)) u4 ∧ FRep w' G10 (.lst 11 (BT.cellsL kids)) u10 ∧ (∀ k, G4 k → fresh w w' k) ∧ (∀ k, G10 k → fresh w w' k) ∧ ∀ k, G4 k → ¬ G10 k := by
  have HK := Lib.hid hk
  have HU := Lib.hid hU
  have H4 := Lib.hid h4
  have H10 := Lib.hid h10
  clear hk hU h4 h10
  go_enter Try.func30, Try.ntmps30
  go_wp2_with fail
  refine (clone_calls (U := U) (by decide) clone_is_Q (fun _ => cf_okn hq) (fun k hk => by have := HU.out k hk; simp; omega) ((H4.out.alloc_ HU.out _).alloc_ (fun k hk => by have := HU.out k hk; simp; omega) _)).mono ?_
  rintro e w1 ⟨u4, rfl, hb1, hq4⟩
  have hA1 : w1.heap[w.heap.size]? = some (.cells #[.string op, .string name, .int .i64 n, .int .i64 m, v4, .string fk, .int .i64 fi, .int .i64 ff, .string fr, .string fo, v10] 27 (0, 0)) := by
    rw [hb1.block _ (by simp; omega), Below.heap_alloc _ _ _ (by simp), heap_alloc_new]
  obtain ⟨zs, hZ1, hzs⟩ : ∃ zs : Array Value, w1.heap[w.heap.size + 1]? = some (.cells zs 27 (0, 0)) ∧ zs.size = 11 :=
    ⟨_, (hb1.block _ (by simp)).trans (heap_alloc2 _ _ _), rfl⟩
  have hB1 : Below w.heap.size w w1 := on_below' hb1 (((Below.refl _ w).alloc (Nat.le_refl _) _).alloc (by simp) _) (by simp; omega)
  have hs1 : w.heap.size + 2 ≤ w1.heap.size := by have := hb1.size; simp at this; omega
  obtain ⟨a4, n4, c4, rfl⟩ : ∃ a n c, u4 = .slice a n c := by rcases hq4 with ⟨_, a, c, rfl⟩ | ⟨_, kb, c, cur, rfl, _⟩ <;> exact ⟨_, _, _, rfl⟩
  have R4 : (nums = [] ∧ n4 = 0) ∨ ∃ (kb : Nat) (cur : Array Value), (Value.slice a4 n4 c4) = .slice (some ⟨kb, 0, none⟩) nums.length c4 ∧ w.heap.size + 2 ≤ kb ∧ w1.heap[kb]? = some (.cells cur 38 (0, 0)) ∧ nums.length * 2 ≤ cur.size ∧ nums.length ≤ c4 ∧ ∀ (i : Nat) (x : DV) (u : Value), (nums.map qpc).flatten[i]? = some x → cur[i]? = some u → DRep U w1 x u := by
    rcases hq4 with ⟨h, a, c, he⟩ | ⟨_, kb, c, cur, he, h1, h2, h3, h4, _, h5⟩
    · cases he; exact .inl ⟨by simpa using h, rfl⟩
    · cases he
      refine .inr ⟨kb, cur, by simp, by simpa using h1, h2, by simpa using h3, by simpa using h4, fun i x u e1 e2 => ?_⟩
      exact ((h5 i x u e1 e2).1).below_ (fun k hk => by have := HU.out k hk; simp; omega) hb1
  have D10 : DRep U w1 (.lst 11 (BT.cellsL kids)) v10 := H10.out.below_ HU.out hB1
  have hU1 : ∀ k, U k → k < w1.heap.size := fun k hk => by have := HU.out k hk; omega
  have hUw : ∀ k, U k → k < w.heap.size := HU.out
  clear hq4 hb1 H4 H10 HU
  have HR4 := Lib.hid R4
  have HD10 := Lib.hid D10
  have HUw := Lib.hid hUw
  have HB1 := Lib.hid hB1
  have HA1 := Lib.hid hA1
  have HZ1 := Lib.hid hZ1
  have cA4 : w1.cell? ⟨w.heap.size, 4, none⟩ = some v4 := by simp [World.cell?, hA1]
  have zA4 : w1.frozen? ⟨w.heap.size, 4, none⟩ = false := by simp [World.frozen?, hA1]
  have cA10 : w1.cell? ⟨w.heap.size, 10, none⟩ = some v10 := by simp [World.cell?, hA1]
  clear R4 D10 hUw hB1 hA1 hZ1 hU1
  go_wp2_with fail
  have U2h : ∀ k, U k → k < (w1.setCell ⟨w.heap.size, 4, none⟩ (.slice a4 n4 c4)).heap.size := fun k hk => by rw [size_setCell]; have := HUw.out k hk; omega
  have W12 : ∀ k, k ≠ w.heap.size → (w1.setCell ⟨w.heap.size, 4, none⟩ (.slice a4 n4 c4)).heap[k]? = w1.heap[k]? := fun k hk => heap_setCell_ne _ _ _ _ hk
  have D10' : DRep U (w1.setCell ⟨w.heap.size, 4, none⟩ (.slice a4 n4 c4)) (.lst 11 (BT.cellsL kids)) v10 := HD10.out.keep (fun _ h => h) (fun k hk => W12 k (by have := HUw.out k hk; omega)) (by rw [size_setCell]; exact Nat.le_refl _)
  have hA2 := heap_setCell_eq (o := 4) (v := .slice a4 n4 c4) HA1.out
  have hB2 : Below w.heap.size w (w1.setCell ⟨w.heap.size, 4, none⟩ (.slice a4 n4 c4)) := HB1.out.setCell (Nat.le_refl _) _
  have hs2 : (w1.setCell ⟨w.heap.size, 4, none⟩ (.slice a4 n4 c4)).heap.size = w1.heap.size := size_setCell _ _ _
  have hZ2 := (W12 (w.heap.size + 1) (by omega)).trans HZ1.out
  have F4 : ∃ G4 : Nat → Prop, FRep (w1.setCell ⟨w.heap.size, 4, none⟩ (.slice a4 n4 c4)) G4 (.lst 2 (nums.map qpc)) (.slice a4 n4 c4) ∧ ∀ k, G4 k → w.heap.size + 2 ≤ k ∧ k < w1.heap.size := by
    rcases HR4.out with ⟨h1, h2⟩ | ⟨kb, cur, he, g1, g2, g3, g4, g5⟩
    · subst h1 h2; exact ⟨fun _ => False, .nil, fun _ h => h.elim⟩
    · cases he
      refine ⟨fun k => k = kb, ?_, fun k hk => by subst hk; exact ⟨g1, lt_of_heap g2⟩⟩
      have := frep_flat (sz := 2) (es := nums.map qpc) g2 (by simpa using g3) (by simpa using g4) (fun e he => by obtain ⟨q, _, rfl⟩ := List.mem_map.1 he; rfl) (fun e he x hx => by obtain ⟨q, _, rfl⟩ := List.mem_map.1 he; simp [qpc] at hx; rcases hx with rfl | rfl <;> exact ⟨_, rfl⟩) g5
      rw [List.length_map] at this
      exact this.keep (fun _ h => h) (fun k hk => W12 k (by subst hk; omega))
  clear W12 HR4 HD10 HB1 HA1 HZ1 cA4 zA4 cA10
  generalize w1.setCell ⟨w.heap.size, 4, none⟩ (.slice a4 n4 c4) = W2 at *
  rw [← hs2] at F4 hs1
  clear hs2
  refine (clone_calls (U := U) (by decide) clone_is_B (fun _ => cf_kids hkl) U2h D10').mono ?_
  rintro e w2 ⟨u10, rfl, hb2, hq10⟩
  obtain ⟨a10, n10, c10, rfl⟩ : ∃ a n c, u10 = .slice a n c := by rcases hq10 with ⟨_, a, c, rfl⟩ | ⟨_, kb, c, cur, rfl, _⟩ <;> exact ⟨_, _, _, rfl⟩
  have hA3 : w2.heap[w.heap.size]? = _ := (hb2.block _ (by omega)).trans hA2
  simp at hA3
  have hZ3 := (hb2.block (w.heap.size + 1) (by omega)).trans hZ2
  have hB3 : Below w.heap.size w w2 := on_below' hb2 hB2 (by omega)
  have hs3 : W2.heap.size ≤ w2.heap.size := hb2.size
  have F4b : ∃ G4 : Nat → Prop, FRep w2 G4 (.lst 2 (nums.map qpc)) (.slice a4 n4 c4) ∧ ∀ k, G4 k → w.heap.size + 2 ≤ k ∧ k < W2.heap.size := by
    obtain ⟨G4, g1, g2⟩ := F4
    exact ⟨G4, g1.keep (fun _ h => h) (fun k hk => hb2.block k (g2 k hk).2), g2⟩
  have R10 : (kids = [] ∧ n10 = 0) ∨ (kids ≠ [] ∧ ∃ (kb : Nat) (cur : Array Value), a10 = some ⟨kb, 0, none⟩ ∧ n10 = kids.length ∧ W2.heap.size ≤ kb ∧ w2.heap[kb]? = some (.cells cur 27 (0, 0)) ∧ kids.length * 11 ≤ cur.size ∧ kids.length ≤ c10 ∧ c10 ≤ maxLen ∧ ∀ (i : Nat) (x : DV) (u : Value), (BT.cellsL kids).flatten[i]? = some x → cur[i]? = some u → DRep U w2 x u ∧ u.oneCell' = true) := by
    have hl : (BT.cellsL kids).length = kids.length := by simp [BT.cellsL_eq]
    rcases hq10 with ⟨h, a, c, he⟩ | ⟨h, kb, c, cur, he, h1, h2, h3, h4, h6, h5⟩
    · cases he; exact .inl ⟨by rw [BT.cellsL_eq] at h; simpa using h, rfl⟩
    · cases he
      rw [hl] at h3 h4
      exact .inr ⟨fun e => h (by subst e; rfl), kb, cur, rfl, hl, h1, h2, h3, h4, h6, fun i x u e1 e2 => ⟨((h5 i x u e1 e2).1).below_ U2h hb2, (h5 i x u e1 e2).2⟩⟩
  clear hq10 F4 hb2 hA2 hZ2 hB2 D10' U2h
  have HF4 := Lib.hid F4b
  have HR10 := Lib.hid R10
  have HA3 := Lib.hid hA3
  have HZ3 := Lib.hid hZ3
  have HB3 := Lib.hid hB3
  have cA10 : w2.cell? ⟨w.heap.size, 10, none⟩ = some v10 := by simp [World.cell?, hA3]
  have zA10 : w2.frozen? ⟨w.heap.size, 10, none⟩ = false := by simp [World.frozen?, hA3]
  clear F4b R10 hA3 hZ3 hB3
  go_wp2
  have HA4 : (w2.setCell ⟨w.heap.size, 10, none⟩ (.slice a10 n10 c10)).heap[w.heap.size]? = some (.cells #[.string op, .string name, .int .i64 n, .int .i64 m, .slice a4 n4 c4, .string fk, .int .i64 fi, .int .i64 ff, .string fr, .string fo, .slice a10 n10 c10] 27 (0, 0)) := by rw [heap_setCell_eq HA3.out]; rfl
  have hne : ∀ q, q ≠ w.heap.size → (w2.setCell ⟨w.heap.size, 10, none⟩ (.slice a10 n10 c10)).heap[q]? = w2.heap[q]? := fun q hq => heap_setCell_ne _ _ _ _ hq
  have hsz3 : (w2.setCell ⟨w.heap.size, 10, none⟩ (.slice a10 n10 c10)).heap.size = w2.heap.size := size_setCell _ _ _
  have HZ4 := (hne (w.heap.size + 1) (by omega)).trans HZ3.out
  have HB4 : Below w.heap.size w (w2.setCell ⟨w.heap.size, 10, none⟩ (.slice a10 n10 c10)) := HB3.out.setCell (Nat.le_refl _) _
  have HF5 : ∃ G4 : Nat → Prop, FRep (w2.setCell ⟨w.heap.size, 10, none⟩ (.slice a10 n10 c10)) G4 (.lst 2 (nums.map qpc)) (.slice a4 n4 c4) ∧ ∀ k, G4 k → w.heap.size + 2 ≤ k ∧ k < W2.heap.size := by
    obtain ⟨G4, g1, g2⟩ := HF4.out
    exact ⟨G4, g1.keep (fun _ h => h) (fun k hk => hne k (by have := (g2 k hk).1; omega)), g2⟩
  have HR5 : (kids = [] ∧ n10 = 0) ∨ (kids ≠ [] ∧ ∃ (kb : Nat) (cur : Array Value), a10 = some ⟨kb, 0, none⟩ ∧ n10 = kids.length ∧ W2.heap.size ≤ kb ∧ (w2.setCell ⟨w.heap.size, 10, none⟩ (.slice a10 n10 c10)).heap[kb]? = some (.cells cur 27 (0, 0)) ∧ kids.length * 11 ≤ cur.size ∧ kids.length ≤ c10 ∧ c10 ≤ maxLen ∧ ∀ (i : Nat) (x : DV) (u : Value), (BT.cellsL kids).flatten[i]? = some x → cur[i]? = some u → DRep U (w2.setCell ⟨w.heap.size, 10, none⟩ (.slice a10 n10 c10)) x u ∧ u.oneCell' = true) := by
    rcases HR10.out with h | ⟨h0, kb, cur, h1, h2, h3, h4, h5, h6, h7, h8⟩
    · exact .inl h
    · exact .inr ⟨h0, kb, cur, h1, h2, h3, by rw [hne kb (by omega)]; exact h4, h5, h6, h7, fun i x u e1 e2 => ⟨((h8 i x u e1 e2).1).keep (fun _ h => h) (fun k hk => hne k (by have := HUw.out k hk; omega)) (by omega), (h8 i x u e1 e2).2⟩⟩
  clear HA3 HZ3 HB3 HF4 HR10 cA10 zA10 hne
  generalize w2.setCell ⟨w.heap.size, 10, none⟩ (.slice a10 n10 c10) = W3 at *
  rw [← hsz3] at hs3
  clear hsz3 w2
  have HF4 := Lib.hid HF5
  have HB3 := Lib.hid HB4
  have HA := Lib.hid HA4
  have HZ := Lib.hid HZ4
  have HR := Lib.hid HR5
  clear HF5 HB4 HA4 HZ4 HR5
  obtain ⟨zl⟩ := zs
  match zl, hzs with
  | [z0, z1, z2, z3, z4, z5, z6, z7, z8, z9, z10], _ =>
  rcases HR.out with ⟨rfl, rfl⟩ | ⟨hne, kb, cur, rfl, rfl, hkb2, hcur, hcs, hcc, hcm, hrep⟩
  · clear HR
    have hAr := HA.out
    have hZr := HZ.out
    clear HA HZ
    have kA0 : W3.cell? ⟨w.heap.size, 0, none⟩ = some (.string op) := by simp [World.cell?, hAr]
    have kA1 : W3.cell? ⟨w.heap.size, 1, none⟩ = some (.string name) := by simp [World.cell?, hAr]
    have kA2 : W3.cell? ⟨w.heap.size, 2, none⟩ = some (.int .i64 n) := by simp [World.cell?, hAr]
    have kA3 : W3.cell? ⟨w.heap.size, 3, none⟩ = some (.int .i64 m) := by simp [World.cell?, hAr]
    have kA4 : W3.cell? ⟨w.heap.size, 4, none⟩ = some (.slice a4 n4 c4) := by simp [World.cell?, hAr]
    have kA5 : W3.cell? ⟨w.heap.size, 5, none⟩ = some (.string fk) := by simp [World.cell?, hAr]
    have kA6 : W3.cell? ⟨w.heap.size, 6, none⟩ = some (.int .i64 fi) := by simp [World.cell?, hAr]
    have kA7 : W3.cell? ⟨w.heap.size, 7, none⟩ = some (.int .i64 ff) := by simp [World.cell?, hAr]
    have kA8 : W3.cell? ⟨w.heap.size, 8, none⟩ = some (.string fr) := by simp [World.cell?, hAr]
    have kA9 : W3.cell? ⟨w.heap.size, 9, none⟩ = some (.string fo) := by simp [World.cell?, hAr]
    have kA10 : W3.cell? ⟨w.heap.size, 10, none⟩ = some (.slice a10 0 c10) := by simp [World.cell?, hAr]
    have kZ0 : W3.cell? ⟨w.heap.size + 1, 0, none⟩ = some z0 := by simp [World.cell?, hZr]
    have kZ1 : W3.cell? ⟨w.heap.size + 1, 1, none⟩ = some z1 := by simp [World.cell?, hZr]
    have kZ2 : W3.cell? ⟨w.heap.size + 1, 2, none⟩ = some z2 := by simp [World.cell?, hZr]
    have kZ3 : W3.cell? ⟨w.heap.size + 1, 3, none⟩ = some z3 := by simp [World.cell?, hZr]
    have kZ4 : W3.cell? ⟨w.heap.size + 1, 4, none⟩ = some z4 := by simp [World.cell?, hZr]
    have kZ5 : W3.cell? ⟨w.heap.size + 1, 5, none⟩ = some z5 := by simp [World.cell?, hZr]
    have kZ6 : W3.cell? ⟨w.heap.size + 1, 6, none⟩ = some z6 := by simp [World.cell?, hZr]
    have kZ7 : W3.cell? ⟨w.heap.size + 1, 7, none⟩ = some z7 := by simp [World.cell?, hZr]
    have kZ8 : W3.cell? ⟨w.heap.size + 1, 8, none⟩ = some z8 := by simp [World.cell?, hZr]
    have kZ9 : W3.cell? ⟨w.heap.size + 1, 9, none⟩ = some z9 := by simp [World.cell?, hZr]
    have kZ10 : W3.cell? ⟨w.heap.size + 1, 10, none⟩ = some z10 := by simp [World.cell?, hZr]
    have fZ0 : W3.frozen? ⟨w.heap.size + 1, 0, none⟩ = false := by simp [World.frozen?, hZr]
    have fZ1 : W3.frozen? ⟨w.heap.size + 1, 1, none⟩ = false := by simp [World.frozen?, hZr]
    have fZ2 : W3.frozen? ⟨w.heap.size + 1, 2, none⟩ = false := by simp [World.frozen?, hZr]
    have fZ3 : W3.frozen? ⟨w.heap.size + 1, 3, none⟩ = false := by simp [World.frozen?, hZr]
    have fZ4 : W3.frozen? ⟨w.heap.size + 1, 4, none⟩ = false := by simp [World.frozen?, hZr]
    have fZ5 : W3.frozen? ⟨w.heap.size + 1, 5, none⟩ = false := by simp [World.frozen?, hZr]
    have fZ6 : W3.frozen? ⟨w.heap.size + 1, 6, none⟩ = false := by simp [World.frozen?, hZr]
    have fZ7 : W3.frozen? ⟨w.heap.size + 1, 7, none⟩ = false := by simp [World.frozen?, hZr]
    have fZ8 : W3.frozen? ⟨w.heap.size + 1, 8, none⟩ = false := by simp [World.frozen?, hZr]
    have fZ9 : W3.frozen? ⟨w.heap.size + 1, 9, none⟩ = false := by simp [World.frozen?, hZr]
    have fZ10 : W3.frozen? ⟨w.heap.size + 1, 10, none⟩ = false := by simp [World.frozen?, hZr]
    have hZc := hZr
    clear hAr hZr
    go_rounds 1
    have hZf := heap_setCell_eq (o := 10) (v := .slice a10 0 c10) (heap_setCell_eq (o := 9) (v := .string fo) (heap_setCell_eq (o := 8) (v := .string fr) (heap_setCell_eq (o := 7) (v := .int .i64 ff) (heap_setCell_eq (o := 6) (v := .int .i64 fi) (heap_setCell_eq (o := 5) (v := .string fk) (heap_setCell_eq (o := 4) (v := .slice a4 n4 c4) (heap_setCell_eq (o := 3) (v := .int .i64 m) (heap_setCell_eq (o := 2) (v := .int .i64 n) (heap_setCell_eq (o := 1) (v := .string name) (heap_setCell_eq (o := 0) (v := .string op) (hZc)))))))))))
    simp only [List.setIfInBounds_toArray, List.set_cons_zero, List.set_cons_succ] at hZf
    have hNf : ∀ q, q ≠ w.heap.size + 1 → (((((((((((W3.setCell ⟨w.heap.size + 1, 0, none⟩ (.string op)).setCell ⟨w.heap.size + 1, 1, none⟩ (.string name)).setCell ⟨w.heap.size + 1, 2, none⟩ (.int .i64 n)).setCell ⟨w.heap.size + 1, 3, none⟩ (.int .i64 m)).setCell ⟨w.heap.size + 1, 4, none⟩ (.slice a4 n4 c4)).setCell ⟨w.heap.size + 1, 5, none⟩ (.string fk)).setCell ⟨w.heap.size + 1, 6, none⟩ (.int .i64 fi)).setCell ⟨w.heap.size + 1, 7, none⟩ (.int .i64 ff)).setCell ⟨w.heap.size + 1, 8, none⟩ (.string fr)).setCell ⟨w.heap.size + 1, 9, none⟩ (.string fo)).setCell ⟨w.heap.size + 1, 10, none⟩ (.slice a10 0 c10)).heap[q]? = W3.heap[q]? := fun q hq => by simp only [heap_setCell_ne _ _ _ _ hq]
    have hSf : (((((((((((W3.setCell ⟨w.heap.size + 1, 0, none⟩ (.string op)).setCell ⟨w.heap.size + 1, 1, none⟩ (.string name)).setCell ⟨w.heap.size + 1, 2, none⟩ (.int .i64 n)).setCell ⟨w.heap.size + 1, 3, none⟩ (.int .i64 m)).setCell ⟨w.heap.size + 1, 4, none⟩ (.slice a4 n4 c4)).setCell ⟨w.heap.size + 1, 5, none⟩ (.string fk)).setCell ⟨w.heap.size + 1, 6, none⟩ (.int .i64 fi)).setCell ⟨w.heap.size + 1, 7, none⟩ (.int .i64 ff)).setCell ⟨w.heap.size + 1, 8, none⟩ (.string fr)).setCell ⟨w.heap.size + 1, 9, none⟩ (.string fo)).setCell ⟨w.heap.size + 1, 10, none⟩ (.slice a10 0 c10)).heap.size = W3.heap.size := by simp only [size_setCell]
    have hBf := (Below.setCell (p := ⟨w.heap.size + 1, 10, none⟩) (Below.setCell (p := ⟨w.heap.size + 1, 9, none⟩) (Below.setCell (p := ⟨w.heap.size + 1, 8, none⟩) (Below.setCell (p := ⟨w.heap.size + 1, 7, none⟩) (Below.setCell (p := ⟨w.heap.size + 1, 6, none⟩) (Below.setCell (p := ⟨w.heap.size + 1, 5, none⟩) (Below.setCell (p := ⟨w.heap.size + 1, 4, none⟩) (Below.setCell (p := ⟨w.heap.size + 1, 3, none⟩) (Below.setCell (p := ⟨w.heap.size + 1, 2, none⟩) (Below.setCell (p := ⟨w.heap.size + 1, 1, none⟩) (Below.setCell (p := ⟨w.heap.size + 1, 0, none⟩) HB3.out (Nat.le_succ _) (.string op)) (Nat.le_succ _) (.string name)) (Nat.le_succ _) (.int .i64 n)) (Nat.le_succ _) (.int .i64 m)) (Nat.le_succ _) (.slice a4 n4 c4)) (Nat.le_succ _) (.string fk)) (Nat.le_succ _) (.int .i64 fi)) (Nat.le_succ _) (.int .i64 ff)) (Nat.le_succ _) (.string fr)) (Nat.le_succ _) (.string fo)) (Nat.le_succ _) (.slice a10 0 c10))
    generalize (((((((((((W3.setCell ⟨w.heap.size + 1, 0, none⟩ (.string op)).setCell ⟨w.heap.size + 1, 1, none⟩ (.string name)).setCell ⟨w.heap.size + 1, 2, none⟩ (.int .i64 n)).setCell ⟨w.heap.size + 1, 3, none⟩ (.int .i64 m)).setCell ⟨w.heap.size + 1, 4, none⟩ (.slice a4 n4 c4)).setCell ⟨w.heap.size + 1, 5, none⟩ (.string fk)).setCell ⟨w.heap.size + 1, 6, none⟩ (.int .i64 fi)).setCell ⟨w.heap.size + 1, 7, none⟩ (.int .i64 ff)).setCell ⟨w.heap.size + 1, 8, none⟩ (.string fr)).setCell ⟨w.heap.size + 1, 9, none⟩ (.string fo)).setCell ⟨w.heap.size + 1, 10, none⟩ (.slice a10 0 c10)) = wz at *
    have gZ0 : wz.cell? ⟨w.heap.size + 1, 0, none⟩ = some (.string op) := by simp [World.cell?, hZf]
    have gZ1 : wz.cell? ⟨w.heap.size + 1, 1, none⟩ = some (.string name) := by simp [World.cell?, hZf]
    have gZ2 : wz.cell? ⟨w.heap.size + 1, 2, none⟩ = some (.int .i64 n) := by simp [World.cell?, hZf]
    have gZ3 : wz.cell? ⟨w.heap.size + 1, 3, none⟩ = some (.int .i64 m) := by simp [World.cell?, hZf]
    have gZ4 : wz.cell? ⟨w.heap.size + 1, 4, none⟩ = some (.slice a4 n4 c4) := by simp [World.cell?, hZf]
    have gZ5 : wz.cell? ⟨w.heap.size + 1, 5, none⟩ = some (.string fk) := by simp [World.cell?, hZf]
    have gZ6 : wz.cell? ⟨w.heap.size + 1, 6, none⟩ = some (.int .i64 fi) := by simp [World.cell?, hZf]
    have gZ7 : wz.cell? ⟨w.heap.size + 1, 7, none⟩ = some (.int .i64 ff) := by simp [World.cell?, hZf]
    have gZ8 : wz.cell? ⟨w.heap.size + 1, 8, none⟩ = some (.string fr) := by simp [World.cell?, hZf]
    have gZ9 : wz.cell? ⟨w.heap.size + 1, 9, none⟩ = some (.string fo) := by simp [World.cell?, hZf]
    have gZ10 : wz.cell? ⟨w.heap.size + 1, 10, none⟩ = some (.slice a10 0 c10) := by simp [World.cell?, hZf]
    refine bodyPost_ret (v := .agg #[.string op, .string name, .int .i64 n, .int .i64 m, .slice a4 n4 c4, .string fk, .int .i64 fi, .int .i64 ff, .string fr, .string fo, .slice a10 0 c10]) (by simp [results, Try.results30, go_sem, gZ0, gZ1, gZ2, gZ3, gZ4, gZ5, gZ6, gZ7, gZ8, gZ9, gZ10]) rfl ⟨_, _, rfl, hBf, ?_⟩
    · obtain ⟨G4, g1, g2⟩ := HF4.out
      refine ⟨G4, fun _ => False, g1.keep (fun _ h => h) (fun q hq => hNf q (by have := (g2 q hq).1; omega)), .nil, fun q hq => ⟨by have := (g2 q hq).1; omega, by have := (g2 q hq).2; omega⟩, fun _ h => h.elim, fun _ _ h => h.elim⟩
  · clear HR
    have hkb : kb < W3.heap.size := lt_of_heap hcur
    have HC := Lib.hid hcur
    have HD := Lib.hid hrep
    have hlen : kids.length ≤ 9223372036854775807 := by unfold maxLen at hcm; omega
    have hcap : c10 ≤ 9223372036854775807 := by unfold maxLen at hcm; omega
    clear hrep hcur
    go_loopw [16] (fun t wr => ∃ k : Nat, t = .int .i64 k ∧ k ≤ kids.length ∧ Hid (CopyI W3 kb cur 27 kids k wr)) (fun t _ => kids.length - (intOf t).toNat)
    case atStart => exact ⟨0, rfl, Nat.zero_le _, CopyI.start HC.out⟩
    case round =>
      obtain ⟨k, rfl, hk, hi⟩ := hrel
      have hI := hi.out
      have hAr : wr.heap[w.heap.size]? = _ := (hI.keep.block _ ⟨by omega, by omega⟩).trans HA.out
      have hZr : wr.heap[w.heap.size + 1]? = _ := (hI.keep.block _ ⟨by omega, by omega⟩).trans HZ.out
      have hws : W3.heap.size ≤ wr.heap.size := hI.keep.size
      have hbW : Below w.heap.size w wr := HB3.out.trans ⟨hI.keep.os, hI.keep.tape, hI.keep.output, hI.keep.size, fun q hq => hI.keep.block q ⟨by omega, by omega⟩⟩
      by_cases hkn : k < kids.length
      · obtain ⟨x, hx⟩ : ∃ x, kids[k]? = some x := ⟨_, List.getElem?_eq_getElem hkn⟩
        have hk11 : k * 11 + 11 ≤ kids.length * 11 := by have : (k + 1) * 11 ≤ kids.length * 11 := Nat.mul_le_mul_right 11 hkn; omega
        have get : ∀ (j : Nat) (y : DV), j < 11 → x.cells[j]? = some y → ∃ u, wr.cell? ⟨kb, k * 11 + j, none⟩ = some u ∧ wr.frozen? ⟨kb, k * 11 + j, none⟩ = false ∧ DRep U W3 y u := by
          intro j y hj hy
          obtain ⟨cur', G, r1, r2, r3, _⟩ := hI.row
          have hlt : k * 11 + j < cur.size := by omega
          have e1 : (BT.cellsL kids).flatten[k * 11 + j]? = some y := (flatten_get _ k j x.cells (cf_len kids) (by rw [cellsL_get, hx]; rfl) hj).trans hy
          have e2 : cur[k * 11 + j]? = some cur[k * 11 + j] := Array.getElem?_eq_getElem hlt
          refine ⟨cur[k * 11 + j], ?_, ?_, (HD.out _ _ _ e1 e2).1⟩
          · simp [World.cell?, r1, r3 (k * 11 + j) (by omega), e2]
          · simp [World.frozen?, r1]
        have hXU := HK.out x (List.mem_of_getElem? hx) U
        obtain ⟨opy, namey, ny, my, numsy, fky, fiy, ffy, fry, foy, kidsy⟩ := x
        obtain ⟨_, q0, p0, hv⟩ := get 0 _ (by decide) rfl; cases hv; simp only [Nat.add_zero] at q0 p0
        obtain ⟨_, q1, p1, hv⟩ := get 1 _ (by decide) rfl; cases hv
        obtain ⟨_, q2, p2, hv⟩ := get 2 _ (by decide) rfl; cases hv
        obtain ⟨_, q3, p3, hv⟩ := get 3 _ (by decide) rfl; cases hv
        obtain ⟨y4, q4, p4, d4⟩ := get 4 _ (by decide) rfl; obtain ⟨b4, m4, e4, rfl⟩ := lst_slice d4
        obtain ⟨_, q5, p5, hv⟩ := get 5 _ (by decide) rfl; cases hv
        obtain ⟨_, q6, p6, hv⟩ := get 6 _ (by decide) rfl; cases hv
        obtain ⟨_, q7, p7, hv⟩ := get 7 _ (by decide) rfl; cases hv
        obtain ⟨_, q8, p8, hv⟩ := get 8 _ (by decide) rfl; cases hv
        obtain ⟨_, q9, p9, hv⟩ := get 9 _ (by decide) rfl; cases hv
        obtain ⟨y10, q10, p10, d10⟩ := get 10 _ (by decide) rfl; obtain ⟨b10, m10, e10, rfl⟩ := lst_slice d10
        clear get
        have HX := Lib.hid hXU
        have HX2 := Lib.hid hx
        have HAr := Lib.hid hAr
        have HZr := Lib.hid hZr
        have HBW := Lib.hid hbW
        have kA10 : wr.cell? ⟨w.heap.size, 10, none⟩ = some (.slice (some ⟨kb, 0, none⟩) kids.length c10) := by simp [World.cell?, hAr]
        have hAs : w.heap.size < wr.heap.size := by omega
        have hkbs : kb < wr.heap.size := by omega
        have hkln : (k : Int) < (kids.length : Int) := by omega
        clear hXU hx hAr hZr hbW hI
        go_wp2_with fail
        have hC5 : (wr.alloc (.cells #[.string opy, .string namey, .int .i64 ny, .int .i64 my, .slice b4 m4 e4, .string fky, .int .i64 fiy, .int .i64 ffy, .string fry, .string foy, .slice b10 m10 e10] 27 (0, 0))).heap[wr.heap.size]? = _ := heap_alloc_new _ _
        have hb5 : Below wr.heap.size wr (wr.alloc (.cells #[.string opy, .string namey, .int .i64 ny, .int .i64 my, .slice b4 m4 e4, .string fky, .int .i64 fiy, .int .i64 ffy, .string fry, .string foy, .slice b10 m10 e10] 27 (0, 0))) := (Below.refl _ wr).alloc (Nat.le_refl _) _
        have hs5 : (wr.alloc (.cells #[.string opy, .string namey, .int .i64 ny, .int .i64 my, .slice b4 m4 e4, .string fky, .int .i64 fiy, .int .i64 ffy, .string fry, .string foy, .slice b10 m10 e10] 27 (0, 0))).heap.size = wr.heap.size + 1 := by simp
        have h105 : (wr.alloc (.cells #[.string opy, .string namey, .int .i64 ny, .int .i64 my, .slice b4 m4 e4, .string fky, .int .i64 fiy, .int .i64 ffy, .string fry, .string foy, .slice b10 m10 e10] 27 (0, 0))).cell? ⟨w.heap.size, 10, none⟩ = some (.slice (some ⟨kb, 0, none⟩) kids.length c10) := (hb5.cell (p := ⟨w.heap.size, 10, none⟩) hAs).trans kA10
        generalize (wr.alloc (.cells #[.string opy, .string namey, .int .i64 ny, .int .i64 my, .slice b4 m4 e4, .string fky, .int .i64 fiy, .int .i64 ffy, .string fry, .string foy, .slice b10 m10 e10] 27 (0, 0))) = w5 at *
        clear kA10
        have r0 : w5.cell? ⟨wr.heap.size, 0, none⟩ = some (.string opy) := by simp [World.cell?, hC5]
        have r1 : w5.cell? ⟨wr.heap.size, 1, none⟩ = some (.string namey) := by simp [World.cell?, hC5]
        have r2 : w5.cell? ⟨wr.heap.size, 2, none⟩ = some (.int .i64 ny) := by simp [World.cell?, hC5]
        have r3 : w5.cell? ⟨wr.heap.size, 3, none⟩ = some (.int .i64 my) := by simp [World.cell?, hC5]
        have r4 : w5.cell? ⟨wr.heap.size, 4, none⟩ = some (.slice b4 m4 e4) := by simp [World.cell?, hC5]
        have r5 : w5.cell? ⟨wr.heap.size, 5, none⟩ = some (.string fky) := by simp [World.cell?, hC5]
        have r6 : w5.cell? ⟨wr.heap.size, 6, none⟩ = some (.int .i64 fiy) := by simp [World.cell?, hC5]
        have r7 : w5.cell? ⟨wr.heap.size, 7, none⟩ = some (.int .i64 ffy) := by simp [World.cell?, hC5]
        have r8 : w5.cell? ⟨wr.heap.size, 8, none⟩ = some (.string fry) := by simp [World.cell?, hC5]
        have r9 : w5.cell? ⟨wr.heap.size, 9, none⟩ = some (.string foy) := by simp [World.cell?, hC5]
        have r10 : w5.cell? ⟨wr.heap.size, 10, none⟩ = some (.slice b10 m10 e10) := by simp [World.cell?, hC5]
        clear hC5
        refine wp_region_held_drew (S := fun w' => w'.cell? ⟨w.heap.size, 10, none⟩ = some (.slice (some ⟨kb, 0, none⟩) kids.length c10) ∧ w'.cell? ⟨wr.heap.size, 0, none⟩ = some (.string opy) ∧ w'.cell? ⟨wr.heap.size, 1, none⟩ = some (.string namey) ∧ w'.cell? ⟨wr.heap.size, 2, none⟩ = some (.int .i64 ny) ∧ w'.cell? ⟨wr.heap.size, 3, none⟩ = some (.int .i64 my) ∧ w'.cell? ⟨wr.heap.size, 4, none⟩ = some (.slice b4 m4 e4) ∧ w'.cell? ⟨wr.heap.size, 5, none⟩ = some (.string fky) ∧ w'.cell? ⟨wr.heap.size, 6, none⟩ = some (.int .i64 fiy) ∧ w'.cell? ⟨wr.heap.size, 7, none⟩ = some (.int .i64 ffy) ∧ w'.cell? ⟨wr.heap.size, 8, none⟩ = some (.string fry) ∧ w'.cell? ⟨wr.heap.size, 9, none⟩ = some (.string foy) ∧ w'.cell? ⟨wr.heap.size, 10, none⟩ = some (.slice b10 m10 e10) ∧ Keeps (fun j => j < wr.heap.size + 1 ∧ j ≠ kb) w5 w') (by kernel_rfl) ?_ ?_
        · exact ⟨h105, r0, r1, r2, r3, r4, r5, r6, r7, r8, r9, r10, Keeps.refl.drew⟩
        intro hH0
        refine wpAnyH_take (i := 0) (v := ?_) rfl (by kernel_rfl) (by kernel_rfl) (by kernel_rfl) (fun _ _ _ h => h) (Or.inl ⟨by rfl, ?_⟩) (by assumption) ?_
        rotate_left
        focus (intro wq hSq; (try dsimp only at hSq); go_simp; first | done | (with_reducible rfl))
        (try simp only [Act.put, List.getElem_toArray, List.getElem_cons_zero, List.setIfInBounds_toArray, List.set_cons_zero, List.set_cons_succ])
        refine wpAnyH_take (i := 1) (v := ?_) rfl (by kernel_rfl) (by kernel_rfl) (by kernel_rfl) (fun _ _ _ h => h) (Or.inl ⟨by rfl, ?_⟩) (by assumption) ?_
        rotate_left
        focus (intro wq hSq; (try dsimp only at hSq); go_simp; first | done | (with_reducible rfl))
        (try simp only [Act.put, List.getElem_toArray, List.getElem_cons_succ, List.getElem_cons_zero, List.setIfInBounds_toArray, List.set_cons_zero, List.set_cons_succ])
        refine wpAnyH_take (i := 2) (v := ?_) rfl (by kernel_rfl) (by kernel_rfl) (by kernel_rfl) (fun _ _ _ h => h) (Or.inl ⟨by rfl, ?_⟩) (by assumption) ?_
        rotate_left
        focus (intro wq hSq; (try dsimp only at hSq); go_simp; first | done | (with_reducible rfl))
        (try simp only [Act.put, List.getElem_toArray, List.getElem_cons_succ, List.getElem_cons_zero, List.setIfInBounds_toArray, List.set_cons_zero, List.set_cons_succ])
        refine wpAnyH_take (i := 3) (v := ?_) rfl (by kernel_rfl) (by kernel_rfl) (by kernel_rfl) (fun _ _ _ h => h) (Or.inl ⟨by rfl, ?_⟩) (by assumption) ?_
        rotate_left
        focus (intro wq hSq; (try dsimp only at hSq); go_simp; first | done | (with_reducible rfl))
        (try simp only [Act.put, List.getElem_toArray, List.getElem_cons_succ, List.getElem_cons_zero, List.setIfInBounds_toArray, List.set_cons_zero, List.set_cons_succ])
        refine wpAnyH_ready (rs := [4]) (by kernel_rfl) (by simp) ?_
        refine AllReadyH.cons rfl (fun K hK => ?_) AllReadyH.nil
        rw [if_pos (by rfl)]
        go_simp
        have hUk : ∀ q, U q → w5.heap[q]? = W3.heap[q]? := fun q hq => by have := HUw.out q hq; rw [hb5.block q (by omega)]; exact hi.out.keep.block q ⟨by omega, by omega⟩
        have D4 : DRep U w5.drew (.lst 2 (numsy.map qpc)) (.slice b4 m4 e4) := DRep.keep (w' := w5.drew) (fun _ h => h) (fun q hq => hUk q hq) (by show W3.heap.size ≤ w5.heap.size; omega) d4
        have D10 : DRep U w5.drew (.lst 11 (BT.cellsL kidsy)) (.slice b10 m10 e10) := DRep.keep (w' := w5.drew) (fun _ h => h) (fun q hq => hUk q hq) (by show W3.heap.size ≤ w5.heap.size; omega) d10
        refine (HX.out w5.drew [.string opy, .string namey, .int .i64 ny, .int .i64 my, .slice b4 m4 e4, .string fky, .int .i64 fiy, .int .i64 ffy, .string fry, .string foy, .slice b10 m10 e10] (fun q hq => by have := HUw.out q hq; show q < w5.heap.size; omega) (((CR.vals [.string opy, .string namey, .int .i64 ny, .int .i64 my]).app (CR.one D4)).app ((CR.vals [.string fky, .int .i64 fiy, .int .i64 ffy, .string fry, .string foy]).app (CR.one D10)))).mono ?_
        rintro e wq ⟨vs', rfl, hbq, hfv⟩
        obtain ⟨f4, g4, i4, f10, g10, i10, rfl⟩ := fvals_tree hfv
        have hbq2 : Below w5.heap.size w5 wq := ⟨hbq.os, hbq.tape, hbq.output, hbq.size, fun q hq => hbq.block q hq⟩
        have hwq : Below wr.heap.size wr wq := on_below' hbq2 hb5 (by omega)
        have hFV : FVals wq (fresh wr wq) _ _ := hfv.keep (fun q hq => ⟨by have := hq.1; simp at this; omega, hq.2⟩) (fun _ _ => rfl)
        have hsq : wr.heap.size + 1 ≤ wq.heap.size := by have := hbq2.size; omega
        have t10 : wq.cell? ⟨w.heap.size, 10, none⟩ = _ := (hbq2.cell (p := ⟨w.heap.size, 10, none⟩) (by show w.heap.size < w5.heap.size; omega)).trans h105
        have t0c : wq.cell? ⟨wr.heap.size, 0, none⟩ = _ := (hbq2.cell (p := ⟨wr.heap.size, 0, none⟩) (by show wr.heap.size < w5.heap.size; omega)).trans r0
        have t1c : wq.cell? ⟨wr.heap.size, 1, none⟩ = _ := (hbq2.cell (p := ⟨wr.heap.size, 1, none⟩) (by show wr.heap.size < w5.heap.size; omega)).trans r1
        have t2c : wq.cell? ⟨wr.heap.size, 2, none⟩ = _ := (hbq2.cell (p := ⟨wr.heap.size, 2, none⟩) (by show wr.heap.size < w5.heap.size; omega)).trans r2
        have t3c : wq.cell? ⟨wr.heap.size, 3, none⟩ = _ := (hbq2.cell (p := ⟨wr.heap.size, 3, none⟩) (by show wr.heap.size < w5.heap.size; omega)).trans r3
        have t4c : wq.cell? ⟨wr.heap.size, 4, none⟩ = _ := (hbq2.cell (p := ⟨wr.heap.size, 4, none⟩) (by show wr.heap.size < w5.heap.size; omega)).trans r4
        have t5c : wq.cell? ⟨wr.heap.size, 5, none⟩ = _ := (hbq2.cell (p := ⟨wr.heap.size, 5, none⟩) (by show wr.heap.size < w5.heap.size; omega)).trans r5
        have t6c : wq.cell? ⟨wr.heap.size, 6, none⟩ = _ := (hbq2.cell (p := ⟨wr.heap.size, 6, none⟩) (by show wr.heap.size < w5.heap.size; omega)).trans r6
        have t7c : wq.cell? ⟨wr.heap.size, 7, none⟩ = _ := (hbq2.cell (p := ⟨wr.heap.size, 7, none⟩) (by show wr.heap.size < w5.heap.size; omega)).trans r7
        have t8c : wq.cell? ⟨wr.heap.size, 8, none⟩ = _ := (hbq2.cell (p := ⟨wr.heap.size, 8, none⟩) (by show wr.heap.size < w5.heap.size; omega)).trans r8
        have t9c : wq.cell? ⟨wr.heap.size, 9, none⟩ = _ := (hbq2.cell (p := ⟨wr.heap.size, 9, none⟩) (by show wr.heap.size < w5.heap.size; omega)).trans r9
        have t10c : wq.cell? ⟨wr.heap.size, 10, none⟩ = _ := (hbq2.cell (p := ⟨wr.heap.size, 10, none⟩) (by show wr.heap.size < w5.heap.size; omega)).trans r10
        have qq0 : wq.cell? ⟨kb, k * 11, none⟩ = _ := (hwq.cell (p := ⟨kb, k * 11, none⟩) hkbs).trans q0
        have pp0 : wq.frozen? ⟨kb, k * 11, none⟩ = _ := (hwq.frozen (p := ⟨kb, k * 11, none⟩) hkbs).trans p0
        have qq1 : wq.cell? ⟨kb, k * 11 + 1, none⟩ = _ := (hwq.cell (p := ⟨kb, k * 11 + 1, none⟩) hkbs).trans q1
        have pp1 : wq.frozen? ⟨kb, k * 11 + 1, none⟩ = _ := (hwq.frozen (p := ⟨kb, k * 11 + 1, none⟩) hkbs).trans p1
        have qq2 : wq.cell? ⟨kb, k * 11 + 2, none⟩ = _ := (hwq.cell (p := ⟨kb, k * 11 + 2, none⟩) hkbs).trans q2
        have pp2 : wq.frozen? ⟨kb, k * 11 + 2, none⟩ = _ := (hwq.frozen (p := ⟨kb, k * 11 + 2, none⟩) hkbs).trans p2
        have qq3 : wq.cell? ⟨kb, k * 11 + 3, none⟩ = _ := (hwq.cell (p := ⟨kb, k * 11 + 3, none⟩) hkbs).trans q3
        have pp3 : wq.frozen? ⟨kb, k * 11 + 3, none⟩ = _ := (hwq.frozen (p := ⟨kb, k * 11 + 3, none⟩) hkbs).trans p3
        have qq4 : wq.cell? ⟨kb, k * 11 + 4, none⟩ = _ := (hwq.cell (p := ⟨kb, k * 11 + 4, none⟩) hkbs).trans q4
        have pp4 : wq.frozen? ⟨kb, k * 11 + 4, none⟩ = _ := (hwq.frozen (p := ⟨kb, k * 11 + 4, none⟩) hkbs).trans p4
        have qq5 : wq.cell? ⟨kb, k * 11 + 5, none⟩ = _ := (hwq.cell (p := ⟨kb, k * 11 + 5, none⟩) hkbs).trans q5
        have pp5 : wq.frozen? ⟨kb, k * 11 + 5, none⟩ = _ := (hwq.frozen (p := ⟨kb, k * 11 + 5, none⟩) hkbs).trans p5
        have qq6 : wq.cell? ⟨kb, k * 11 + 6, none⟩ = _ := (hwq.cell (p := ⟨kb, k * 11 + 6, none⟩) hkbs).trans q6
        have pp6 : wq.frozen? ⟨kb, k * 11 + 6, none⟩ = _ := (hwq.frozen (p := ⟨kb, k * 11 + 6, none⟩) hkbs).trans p6
        have qq7 : wq.cell? ⟨kb, k * 11 + 7, none⟩ = _ := (hwq.cell (p := ⟨kb, k * 11 + 7, none⟩) hkbs).trans q7
        have pp7 : wq.frozen? ⟨kb, k * 11 + 7, none⟩ = _ := (hwq.frozen (p := ⟨kb, k * 11 + 7, none⟩) hkbs).trans p7
        have qq8 : wq.cell? ⟨kb, k * 11 + 8, none⟩ = _ := (hwq.cell (p := ⟨kb, k * 11 + 8, none⟩) hkbs).trans q8
        have pp8 : wq.frozen? ⟨kb, k * 11 + 8, none⟩ = _ := (hwq.frozen (p := ⟨kb, k * 11 + 8, none⟩) hkbs).trans p8
        have qq9 : wq.cell? ⟨kb, k * 11 + 9, none⟩ = _ := (hwq.cell (p := ⟨kb, k * 11 + 9, none⟩) hkbs).trans q9
        have pp9 : wq.frozen? ⟨kb, k * 11 + 9, none⟩ = _ := (hwq.frozen (p := ⟨kb, k * 11 + 9, none⟩) hkbs).trans p9
        have qq10 : wq.cell? ⟨kb, k * 11 + 10, none⟩ = _ := (hwq.cell (p := ⟨kb, k * 11 + 10, none⟩) hkbs).trans q10
        have pp10 : wq.frozen? ⟨kb, k * 11 + 10, none⟩ = _ := (hwq.frozen (p := ⟨kb, k * 11 + 10, none⟩) hkbs).trans p10
        dsimp only
        refine hK.out _ _ ?_ (fun hHeld => ?_)
        · exact ⟨t10, t0c, t1c, t2c, t3c, t4c, t5c, t6c, t7c, t8c, t9c, t10c, ⟨hbq.os, hbq.tape, hbq.output, hbq.size, fun q hq => hbq.block q (by show q < w5.heap.size; omega)⟩⟩
        clear hK K
        (try simp only [Act.put, List.getElem_toArray, List.getElem_cons_succ, List.getElem_cons_zero, List.setIfInBounds_toArray, List.set_cons_zero, List.set_cons_succ])
        refine wpAnyH_take (i := 5) (v := ?_) rfl (by kernel_rfl) (by kernel_rfl) (by kernel_rfl) (fun _ _ _ h => h) (Or.inl ⟨by rfl, ?_⟩) (by assumption) ?_
        rotate_left
        focus (intro wq hSq; (try dsimp only at hSq); go_simp; first | done | (with_reducible rfl))
        (try simp only [Act.put, List.getElem_toArray, List.getElem_cons_succ, List.getElem_cons_zero, List.setIfInBounds_toArray, List.set_cons_zero, List.set_cons_succ])
        refine wpAnyH_ready (rs := [6]) (by kernel_rfl) (by simp) ?_
        refine AllReadyH.cons rfl (fun K hK => ?_) AllReadyH.nil
        rw [if_pos (by rfl)]
        go_simp
        have hNf : ∀ q, q ≠ kb → (((((((((((wq.setCell ⟨kb, k * 11, none⟩ (.string opy)).setCell ⟨kb, k * 11 + 1, none⟩ (.string namey)).setCell ⟨kb, k * 11 + 2, none⟩ (.int .i64 ny)).setCell ⟨kb, k * 11 + 3, none⟩ (.int .i64 my)).setCell ⟨kb, k * 11 + 4, none⟩ (.slice f4 g4 i4)).setCell ⟨kb, k * 11 + 5, none⟩ (.string fky)).setCell ⟨kb, k * 11 + 6, none⟩ (.int .i64 fiy)).setCell ⟨kb, k * 11 + 7, none⟩ (.int .i64 ffy)).setCell ⟨kb, k * 11 + 8, none⟩ (.string fry)).setCell ⟨kb, k * 11 + 9, none⟩ (.string foy)).setCell ⟨kb, k * 11 + 10, none⟩ (.slice f10 g10 i10)).heap[q]? = wq.heap[q]? := fun q hq => by simp only [heap_setCell_ne _ _ _ _ hq]
        have hSf : (((((((((((wq.setCell ⟨kb, k * 11, none⟩ (.string opy)).setCell ⟨kb, k * 11 + 1, none⟩ (.string namey)).setCell ⟨kb, k * 11 + 2, none⟩ (.int .i64 ny)).setCell ⟨kb, k * 11 + 3, none⟩ (.int .i64 my)).setCell ⟨kb, k * 11 + 4, none⟩ (.slice f4 g4 i4)).setCell ⟨kb, k * 11 + 5, none⟩ (.string fky)).setCell ⟨kb, k * 11 + 6, none⟩ (.int .i64 fiy)).setCell ⟨kb, k * 11 + 7, none⟩ (.int .i64 ffy)).setCell ⟨kb, k * 11 + 8, none⟩ (.string fry)).setCell ⟨kb, k * 11 + 9, none⟩ (.string foy)).setCell ⟨kb, k * 11 + 10, none⟩ (.slice f10 g10 i10)).heap.size = wq.heap.size := by simp only [size_setCell]
        have hKf := keeps_setCell (o := k * 11 + 10) (keeps_setCell (o := k * 11 + 9) (keeps_setCell (o := k * 11 + 8) (keeps_setCell (o := k * 11 + 7) (keeps_setCell (o := k * 11 + 6) (keeps_setCell (o := k * 11 + 5) (keeps_setCell (o := k * 11 + 4) (keeps_setCell (o := k * 11 + 3) (keeps_setCell (o := k * 11 + 2) (keeps_setCell (o := k * 11 + 1) (keeps_setCell (o := k * 11) ((Keeps.refl : Keeps (fun q => q ≠ kb) wq wq)) (fun h => h rfl) (.string opy)) (fun h => h rfl) (.string namey)) (fun h => h rfl) (.int .i64 ny)) (fun h => h rfl) (.int .i64 my)) (fun h => h rfl) (.slice f4 g4 i4)) (fun h => h rfl) (.string fky)) (fun h => h rfl) (.int .i64 fiy)) (fun h => h rfl) (.int .i64 ffy)) (fun h => h rfl) (.string fry)) (fun h => h rfl) (.string foy)) (fun h => h rfl) (.slice f10 g10 i10)
        have hZf : ∀ c T, wq.heap[kb]? = some (.cells c T (0, 0)) → k * 11 + 11 ≤ c.size → ∃ c', (((((((((((wq.setCell ⟨kb, k * 11, none⟩ (.string opy)).setCell ⟨kb, k * 11 + 1, none⟩ (.string namey)).setCell ⟨kb, k * 11 + 2, none⟩ (.int .i64 ny)).setCell ⟨kb, k * 11 + 3, none⟩ (.int .i64 my)).setCell ⟨kb, k * 11 + 4, none⟩ (.slice f4 g4 i4)).setCell ⟨kb, k * 11 + 5, none⟩ (.string fky)).setCell ⟨kb, k * 11 + 6, none⟩ (.int .i64 fiy)).setCell ⟨kb, k * 11 + 7, none⟩ (.int .i64 ffy)).setCell ⟨kb, k * 11 + 8, none⟩ (.string fry)).setCell ⟨kb, k * 11 + 9, none⟩ (.string foy)).setCell ⟨kb, k * 11 + 10, none⟩ (.slice f10 g10 i10)).heap[kb]? = some (.cells c' T (0, 0)) ∧ c'.size = c.size ∧ (∀ i, i < k * 11 ∨ k * 11 + 11 ≤ i → c'[i]? = c[i]?) ∧ ∀ j, j < 11 → c'[k * 11 + j]? = [.string opy, .string namey, .int .i64 ny, .int .i64 my, .slice f4 g4 i4, .string fky, .int .i64 fiy, .int .i64 ffy, .string fry, .string foy, .slice f10 g10 i10][j]? := fun c T h hc => ⟨_, heap_setCell_eq (o := k * 11 + 10) (v := .slice f10 g10 i10) (heap_setCell_eq (o := k * 11 + 9) (v := .string foy) (heap_setCell_eq (o := k * 11 + 8) (v := .string fry) (heap_setCell_eq (o := k * 11 + 7) (v := .int .i64 ffy) (heap_setCell_eq (o := k * 11 + 6) (v := .int .i64 fiy) (heap_setCell_eq (o := k * 11 + 5) (v := .string fky) (heap_setCell_eq (o := k * 11 + 4) (v := .slice f4 g4 i4) (heap_setCell_eq (o := k * 11 + 3) (v := .int .i64 my) (heap_setCell_eq (o := k * 11 + 2) (v := .int .i64 ny) (heap_setCell_eq (o := k * 11 + 1) (v := .string namey) (heap_setCell_eq (o := k * 11) (v := .string opy) (h))))))))))), set11 c (k * 11) (.string opy) (.string namey) (.int .i64 ny) (.int .i64 my) (.slice f4 g4 i4) (.string fky) (.int .i64 fiy) (.int .i64 ffy) (.string fry) (.string foy) (.slice f10 g10 i10) hc⟩
        generalize (((((((((((wq.setCell ⟨kb, k * 11, none⟩ (.string opy)).setCell ⟨kb, k * 11 + 1, none⟩ (.string namey)).setCell ⟨kb, k * 11 + 2, none⟩ (.int .i64 ny)).setCell ⟨kb, k * 11 + 3, none⟩ (.int .i64 my)).setCell ⟨kb, k * 11 + 4, none⟩ (.slice f4 g4 i4)).setCell ⟨kb, k * 11 + 5, none⟩ (.string fky)).setCell ⟨kb, k * 11 + 6, none⟩ (.int .i64 fiy)).setCell ⟨kb, k * 11 + 7, none⟩ (.int .i64 ffy)).setCell ⟨kb, k * 11 + 8, none⟩ (.string fry)).setCell ⟨kb, k * 11 + 9, none⟩ (.string foy)).setCell ⟨kb, k * 11 + 10, none⟩ (.slice f10 g10 i10)) = wz at *
        have hnA : w.heap.size ≠ kb := by omega
        have hnC : wr.heap.size ≠ kb := by omega
        refine hK.out _ _ ?_ (fun hHeld => ?_)
        · exact ⟨(cell_keep (hNf _ hnA)).trans t10, (cell_keep (hNf _ hnC)).trans t0c, (cell_keep (hNf _ hnC)).trans t1c, (cell_keep (hNf _ hnC)).trans t2c, (cell_keep (hNf _ hnC)).trans t3c, (cell_keep (hNf _ hnC)).trans t4c, (cell_keep (hNf _ hnC)).trans t5c, (cell_keep (hNf _ hnC)).trans t6c, (cell_keep (hNf _ hnC)).trans t7c, (cell_keep (hNf _ hnC)).trans t8c, (cell_keep (hNf _ hnC)).trans t9c, (cell_keep (hNf _ hnC)).trans t10c, ⟨hKf.os.trans hbq2.os, hKf.tape.trans hbq2.tape, hKf.output.trans hbq2.output, by have := hbq2.size; omega, fun q hq => (hNf q hq.2).trans (hbq2.block q (by omega))⟩⟩
        clear hK K
        (try simp only [Act.put, List.getElem_toArray, List.getElem_cons_succ, List.getElem_cons_zero, List.setIfInBounds_toArray, List.set_cons_zero, List.set_cons_succ])
        refine wpAnyH_done (by kernel_rfl) ?_ _
        have hI2 := CopyI.next hi.out HX2.out hkb hwq hFV hKf hZf (by omega)
        have HI2 := Lib.hid hI2
        clear hI2 hi hZf hNf hKf hSf hHeld hH0
        go_wp2
        go_roundw
        case rel => exact ⟨k + 1, by go_num, by omega, HI2⟩
        case measure => simp [intOf]; omega
      · have hkk : k = kids.length := by omega
        subst hkk
        clear hi
        have kA0 : wr.cell? ⟨w.heap.size, 0, none⟩ = some (.string op) := by simp [World.cell?, hAr]
        have kA1 : wr.cell? ⟨w.heap.size, 1, none⟩ = some (.string name) := by simp [World.cell?, hAr]
        have kA2 : wr.cell? ⟨w.heap.size, 2, none⟩ = some (.int .i64 n) := by simp [World.cell?, hAr]
        have kA3 : wr.cell? ⟨w.heap.size, 3, none⟩ = some (.int .i64 m) := by simp [World.cell?, hAr]
        have kA4 : wr.cell? ⟨w.heap.size, 4, none⟩ = some (.slice a4 n4 c4) := by simp [World.cell?, hAr]
        have kA5 : wr.cell? ⟨w.heap.size, 5, none⟩ = some (.string fk) := by simp [World.cell?, hAr]
        have kA6 : wr.cell? ⟨w.heap.size, 6, none⟩ = some (.int .i64 fi) := by simp [World.cell?, hAr]
        have kA7 : wr.cell? ⟨w.heap.size, 7, none⟩ = some (.int .i64 ff) := by simp [World.cell?, hAr]
        have kA8 : wr.cell? ⟨w.heap.size, 8, none⟩ = some (.string fr) := by simp [World.cell?, hAr]
        have kA9 : wr.cell? ⟨w.heap.size, 9, none⟩ = some (.string fo) := by simp [World.cell?, hAr]
        have kA10 : wr.cell? ⟨w.heap.size, 10, none⟩ = some (.slice (some ⟨kb, 0, none⟩) kids.length c10) := by simp [World.cell?, hAr]
        have kZ0 : wr.cell? ⟨w.heap.size + 1, 0, none⟩ = some z0 := by simp [World.cell?, hZr]
        have kZ1 : wr.cell? ⟨w.heap.size + 1, 1, none⟩ = some z1 := by simp [World.cell?, hZr]
        have kZ2 : wr.cell? ⟨w.heap.size + 1, 2, none⟩ = some z2 := by simp [World.cell?, hZr]
        have kZ3 : wr.cell? ⟨w.heap.size + 1, 3, none⟩ = some z3 := by simp [World.cell?, hZr]
        have kZ4 : wr.cell? ⟨w.heap.size + 1, 4, none⟩ = some z4 := by simp [World.cell?, hZr]
        have kZ5 : wr.cell? ⟨w.heap.size + 1, 5, none⟩ = some z5 := by simp [World.cell?, hZr]
        have kZ6 : wr.cell? ⟨w.heap.size + 1, 6, none⟩ = some z6 := by simp [World.cell?, hZr]
        have kZ7 : wr.cell? ⟨w.heap.size + 1, 7, none⟩ = some z7 := by simp [World.cell?, hZr]
        have kZ8 : wr.cell? ⟨w.heap.size + 1, 8, none⟩ = some z8 := by simp [World.cell?, hZr]
        have kZ9 : wr.cell? ⟨w.heap.size + 1, 9, none⟩ = some z9 := by simp [World.cell?, hZr]
        have kZ10 : wr.cell? ⟨w.heap.size + 1, 10, none⟩ = some z10 := by simp [World.cell?, hZr]
        have fZ0 : wr.frozen? ⟨w.heap.size + 1, 0, none⟩ = false := by simp [World.frozen?, hZr]
        have fZ1 : wr.frozen? ⟨w.heap.size + 1, 1, none⟩ = false := by simp [World.frozen?, hZr]
        have fZ2 : wr.frozen? ⟨w.heap.size + 1, 2, none⟩ = false := by simp [World.frozen?, hZr]
        have fZ3 : wr.frozen? ⟨w.heap.size + 1, 3, none⟩ = false := by simp [World.frozen?, hZr]
        have fZ4 : wr.frozen? ⟨w.heap.size + 1, 4, none⟩ = false := by simp [World.frozen?, hZr]
        have fZ5 : wr.frozen? ⟨w.heap.size + 1, 5, none⟩ = false := by simp [World.frozen?, hZr]
        have fZ6 : wr.frozen? ⟨w.heap.size + 1, 6, none⟩ = false := by simp [World.frozen?, hZr]
        have fZ7 : wr.frozen? ⟨w.heap.size + 1, 7, none⟩ = false := by simp [World.frozen?, hZr]
        have fZ8 : wr.frozen? ⟨w.heap.size + 1, 8, none⟩ = false := by simp [World.frozen?, hZr]
        have fZ9 : wr.frozen? ⟨w.heap.size + 1, 9, none⟩ = false := by simp [World.frozen?, hZr]
        have fZ10 : wr.frozen? ⟨w.heap.size + 1, 10, none⟩ = false := by simp [World.frozen?, hZr]
        have hZc := hZr
        clear hAr hZr
        go_wp2
        have hZf := heap_setCell_eq (o := 10) (v := .slice (some ⟨kb, 0, none⟩) kids.length c10) (heap_setCell_eq (o := 9) (v := .string fo) (heap_setCell_eq (o := 8) (v := .string fr) (heap_setCell_eq (o := 7) (v := .int .i64 ff) (heap_setCell_eq (o := 6) (v := .int .i64 fi) (heap_setCell_eq (o := 5) (v := .string fk) (heap_setCell_eq (o := 4) (v := .slice a4 n4 c4) (heap_setCell_eq (o := 3) (v := .int .i64 m) (heap_setCell_eq (o := 2) (v := .int .i64 n) (heap_setCell_eq (o := 1) (v := .string name) (heap_setCell_eq (o := 0) (v := .string op) (hZc)))))))))))
        simp only [List.setIfInBounds_toArray, List.set_cons_zero, List.set_cons_succ] at hZf
        have hNf : ∀ q, q ≠ w.heap.size + 1 → (((((((((((wr.setCell ⟨w.heap.size + 1, 0, none⟩ (.string op)).setCell ⟨w.heap.size + 1, 1, none⟩ (.string name)).setCell ⟨w.heap.size + 1, 2, none⟩ (.int .i64 n)).setCell ⟨w.heap.size + 1, 3, none⟩ (.int .i64 m)).setCell ⟨w.heap.size + 1, 4, none⟩ (.slice a4 n4 c4)).setCell ⟨w.heap.size + 1, 5, none⟩ (.string fk)).setCell ⟨w.heap.size + 1, 6, none⟩ (.int .i64 fi)).setCell ⟨w.heap.size + 1, 7, none⟩ (.int .i64 ff)).setCell ⟨w.heap.size + 1, 8, none⟩ (.string fr)).setCell ⟨w.heap.size + 1, 9, none⟩ (.string fo)).setCell ⟨w.heap.size + 1, 10, none⟩ (.slice (some ⟨kb, 0, none⟩) kids.length c10)).heap[q]? = wr.heap[q]? := fun q hq => by simp only [heap_setCell_ne _ _ _ _ hq]
        have hSf : (((((((((((wr.setCell ⟨w.heap.size + 1, 0, none⟩ (.string op)).setCell ⟨w.heap.size + 1, 1, none⟩ (.string name)).setCell ⟨w.heap.size + 1, 2, none⟩ (.int .i64 n)).setCell ⟨w.heap.size + 1, 3, none⟩ (.int .i64 m)).setCell ⟨w.heap.size + 1, 4, none⟩ (.slice a4 n4 c4)).setCell ⟨w.heap.size + 1, 5, none⟩ (.string fk)).setCell ⟨w.heap.size + 1, 6, none⟩ (.int .i64 fi)).setCell ⟨w.heap.size + 1, 7, none⟩ (.int .i64 ff)).setCell ⟨w.heap.size + 1, 8, none⟩ (.string fr)).setCell ⟨w.heap.size + 1, 9, none⟩ (.string fo)).setCell ⟨w.heap.size + 1, 10, none⟩ (.slice (some ⟨kb, 0, none⟩) kids.length c10)).heap.size = wr.heap.size := by simp only [size_setCell]
        have hBf := (Below.setCell (p := ⟨w.heap.size + 1, 10, none⟩) (Below.setCell (p := ⟨w.heap.size + 1, 9, none⟩) (Below.setCell (p := ⟨w.heap.size + 1, 8, none⟩) (Below.setCell (p := ⟨w.heap.size + 1, 7, none⟩) (Below.setCell (p := ⟨w.heap.size + 1, 6, none⟩) (Below.setCell (p := ⟨w.heap.size + 1, 5, none⟩) (Below.setCell (p := ⟨w.heap.size + 1, 4, none⟩) (Below.setCell (p := ⟨w.heap.size + 1, 3, none⟩) (Below.setCell (p := ⟨w.heap.size + 1, 2, none⟩) (Below.setCell (p := ⟨w.heap.size + 1, 1, none⟩) (Below.setCell (p := ⟨w.heap.size + 1, 0, none⟩) hbW (Nat.le_succ _) (.string op)) (Nat.le_succ _) (.string name)) (Nat.le_succ _) (.int .i64 n)) (Nat.le_succ _) (.int .i64 m)) (Nat.le_succ _) (.slice a4 n4 c4)) (Nat.le_succ _) (.string fk)) (Nat.le_succ _) (.int .i64 fi)) (Nat.le_succ _) (.int .i64 ff)) (Nat.le_succ _) (.string fr)) (Nat.le_succ _) (.string fo)) (Nat.le_succ _) (.slice (some ⟨kb, 0, none⟩) kids.length c10))
        generalize (((((((((((wr.setCell ⟨w.heap.size + 1, 0, none⟩ (.string op)).setCell ⟨w.heap.size + 1, 1, none⟩ (.string name)).setCell ⟨w.heap.size + 1, 2, none⟩ (.int .i64 n)).setCell ⟨w.heap.size + 1, 3, none⟩ (.int .i64 m)).setCell ⟨w.heap.size + 1, 4, none⟩ (.slice a4 n4 c4)).setCell ⟨w.heap.size + 1, 5, none⟩ (.string fk)).setCell ⟨w.heap.size + 1, 6, none⟩ (.int .i64 fi)).setCell ⟨w.heap.size + 1, 7, none⟩ (.int .i64 ff)).setCell ⟨w.heap.size + 1, 8, none⟩ (.string fr)).setCell ⟨w.heap.size + 1, 9, none⟩ (.string fo)).setCell ⟨w.heap.size + 1, 10, none⟩ (.slice (some ⟨kb, 0, none⟩) kids.length c10)) = wz at *
        have gZ0 : wz.cell? ⟨w.heap.size + 1, 0, none⟩ = some (.string op) := by simp [World.cell?, hZf]
        have gZ1 : wz.cell? ⟨w.heap.size + 1, 1, none⟩ = some (.string name) := by simp [World.cell?, hZf]
        have gZ2 : wz.cell? ⟨w.heap.size + 1, 2, none⟩ = some (.int .i64 n) := by simp [World.cell?, hZf]
        have gZ3 : wz.cell? ⟨w.heap.size + 1, 3, none⟩ = some (.int .i64 m) := by simp [World.cell?, hZf]
        have gZ4 : wz.cell? ⟨w.heap.size + 1, 4, none⟩ = some (.slice a4 n4 c4) := by simp [World.cell?, hZf]
        have gZ5 : wz.cell? ⟨w.heap.size + 1, 5, none⟩ = some (.string fk) := by simp [World.cell?, hZf]
        have gZ6 : wz.cell? ⟨w.heap.size + 1, 6, none⟩ = some (.int .i64 fi) := by simp [World.cell?, hZf]
        have gZ7 : wz.cell? ⟨w.heap.size + 1, 7, none⟩ = some (.int .i64 ff) := by simp [World.cell?, hZf]
        have gZ8 : wz.cell? ⟨w.heap.size + 1, 8, none⟩ = some (.string fr) := by simp [World.cell?, hZf]
        have gZ9 : wz.cell? ⟨w.heap.size + 1, 9, none⟩ = some (.string fo) := by simp [World.cell?, hZf]
        have gZ10 : wz.cell? ⟨w.heap.size + 1, 10, none⟩ = some (.slice (some ⟨kb, 0, none⟩) kids.length c10) := by simp [World.cell?, hZf]
        refine bodyPost_ret (v := .agg #[.string op, .string name, .int .i64 n, .int .i64 m, .slice a4 n4 c4, .string fk, .int .i64 fi, .int .i64 ff, .string fr, .string fo, .slice (some ⟨kb, 0, none⟩) kids.length c10]) (by simp [results, Try.results30, go_sem, gZ0, gZ1, gZ2, gZ3, gZ4, gZ5, gZ6, gZ7, gZ8, gZ9, gZ10]) rfl ⟨_, _, rfl, hBf, ?_⟩
        · obtain ⟨G4, g1, g2⟩ := HF4.out
          have hd := CopyI.done (c := c10) hI hkb hcs hcc
          refine ⟨G4, _, g1.keep (fun _ h => h) (fun q hq => ?_), hd.keep (fun _ h => h) (fun q hq => ?_), fun q hq => ⟨by have := (g2 q hq).1; omega, ?_⟩, fun q hq => ⟨?_, ?_⟩, fun q hq hq' => ?_⟩
          · rw [← hI.keep.block q ⟨by have := (g2 q hq).2; omega, by have := (g2 q hq).2; omega⟩]; exact hNf q (by have := (g2 q hq).1; omega)
          · exact hNf q (by omega)
          · have := (g2 q hq).2; omega
          · omega
          · omega
          · have := (g2 q hq).2; omega
end Go.Proofs.Ytdfhakhapblhgaa
