/-
  block.At, as it walks.
-/
import Derived.Test.YtdfhakhapblhgaaCk
set_option linter.all false
namespace Go.Proofs.Ytdfhakhapblhgaa
open Go Go.Pv Go.RowKit
set_option maxRecDepth 100000 in
set_option maxHeartbeats 1600000 in
theorem At_any (t : BT) (L : List Int) (hL : L.length ≤ 9223372036854775807) (hok : ∀ s, BT.at L t = some s → s.ok) (U : Nat → Prop) (w : World) (vs : List Value) (vp : Value) (hU : ∀ k, U k → k < w.heap.size) (hr : CR U w t.cells vs) (hp : DRep U w (intsD L) vp) :
    Calls Try.prog 8 #[.agg vs.toArray, vp] w fun e w' => ∃ (us : List Value) (c : Int) (s : BT), e = .returned (.tuple #[.agg us.toArray, .int .i64 c]) ∧ Below w.heap.size w w' ∧ CR (U2 U w w') w' s.cells us ∧ ((BT.at L t = some s ∧ c = 0) ∨ (BT.at L t = none ∧ s = BT.zero ∧ c = 2)) := by
  have hLoc := frozen_at L t _ _ (cellsAt_alloc (T := 27) hU hr (.cells #[.string ByteArray.empty, .string ByteArray.empty, .int .i64 0, .int .i64 0, .slice none 0 0, .string ByteArray.empty, .int .i64 0, .int .i64 0, .string ByteArray.empty, .string ByteArray.empty, .slice none 0 0] 27 (0, 0)))
  have hP2 : DRep U ((w.alloc (.cells vs.toArray 27 (0, 0))).alloc (.cells #[.string ByteArray.empty, .string ByteArray.empty, .int .i64 0, .int .i64 0, .slice none 0 0, .string ByteArray.empty, .int .i64 0, .int .i64 0, .string ByteArray.empty, .string ByteArray.empty, .slice none 0 0] 27 (0, 0))) (intsD L) vp := (hp.alloc_ hU _).alloc_ (fun k hk => by have := hU k hk; simp; omega) _
  have HU := Lib.hid hU
  have hv11 : vs.length = 11 := by rw [hr.1, BT.cells_len]
  have hB0 : Below w.heap.size w ((w.alloc (.cells vs.toArray 27 (0, 0))).alloc (.cells #[.string ByteArray.empty, .string ByteArray.empty, .int .i64 0, .int .i64 0, .slice none 0 0, .string ByteArray.empty, .int .i64 0, .int .i64 0, .string ByteArray.empty, .string ByteArray.empty, .slice none 0 0] 27 (0, 0))) := ((Below.refl _ w).alloc (Nat.le_refl _) _).alloc (by simp) _
  have hz0 := heap_alloc2 w (.cells vs.toArray 27 (0, 0)) (.cells #[.string ByteArray.empty, .string ByteArray.empty, .int .i64 0, .int .i64 0, .slice none 0 0, .string ByteArray.empty, .int .i64 0, .int .i64 0, .string ByteArray.empty, .string ByteArray.empty, .slice none 0 0] 27 (0, 0))
  have hs0 : ((w.alloc (.cells vs.toArray 27 (0, 0))).alloc (.cells #[.string ByteArray.empty, .string ByteArray.empty, .int .i64 0, .int .i64 0, .slice none 0 0, .string ByteArray.empty, .int .i64 0, .int .i64 0, .string ByteArray.empty, .string ByteArray.empty, .slice none 0 0] 27 (0, 0))).heap.size = w.heap.size + 2 := by simp
  clear hr hp hU
  match vs, hv11 with
  | [v0, v1, v2, v3, v4, v5, v6, v7, v8, v9, v10], _ =>
  have HP2 := Lib.hid hP2
  have HB0 := Lib.hid hB0
  have HZ0 := Lib.hid hz0
  have HS0 := Lib.hid hs0
  clear hP2 hB0 hz0 hs0
  rcases hLoc with ⟨hn, hloc⟩ | ⟨s, b', o', hsm, hloc, hC⟩
  · have HL := Lib.hid hloc
    clear hloc
    go_enter Try.func8, Try.ntmps8
    go_wp2_with fail
    refine (at_any hL HL.out HP2.out).mono ?_
    rintro e w1 ⟨rfl, rfl⟩
    simp only [ptrOf, Option.map_none]
    go_wp2
    refine bodyPost_ret (v := .tuple #[.agg [.string ByteArray.empty, .string ByteArray.empty, .int .i64 0, .int .i64 0, .slice none 0 0, .string ByteArray.empty, .int .i64 0, .int .i64 0, .string ByteArray.empty, .string ByteArray.empty, .slice none 0 0].toArray, .int .i64 2]) (by simp [results, Try.results8, go_sem]; rfl) rfl ⟨_, _, BT.zero, rfl, ?_, ?_, .inr ⟨hn, rfl, rfl⟩⟩
    · exact HB0.out
    · exact ((CR.vals [.string ByteArray.empty, .string ByteArray.empty, .int .i64 0, .int .i64 0]).app (CR.one .nil)).app ((CR.vals [.string ByteArray.empty, .int .i64 0, .int .i64 0, .string ByteArray.empty, .string ByteArray.empty]).app (CR.one .nil))
  · have HL := Lib.hid hloc
    have hsok := hok s hsm
    clear hloc
    obtain ⟨opy, namey, ny, my, numsy, fky, fiy, ffy, fry, foy, kidsy⟩ := s

    obtain ⟨_, q0, hv⟩ := hC 0 _ rfl; cases hv; simp only [Nat.add_zero] at q0
    obtain ⟨_, q1, hv⟩ := hC 1 _ rfl; cases hv
    obtain ⟨_, q2, hv⟩ := hC 2 _ rfl; cases hv
    obtain ⟨_, q3, hv⟩ := hC 3 _ rfl; cases hv
    obtain ⟨y4, q4, d4⟩ := hC 4 _ rfl; obtain ⟨b4, m4, e4, rfl⟩ := lst_slice d4
    obtain ⟨_, q5, hv⟩ := hC 5 _ rfl; cases hv
    obtain ⟨_, q6, hv⟩ := hC 6 _ rfl; cases hv
    obtain ⟨_, q7, hv⟩ := hC 7 _ rfl; cases hv
    obtain ⟨_, q8, hv⟩ := hC 8 _ rfl; cases hv
    obtain ⟨_, q9, hv⟩ := hC 9 _ rfl; cases hv
    obtain ⟨y10, q10, d10⟩ := hC 10 _ rfl; obtain ⟨b10, m10, e10, rfl⟩ := lst_slice d10
    clear hC
    have HSK := Lib.hid hsok
    have HSM := Lib.hid hsm
    clear hsok hsm hok
    go_enter Try.func8, Try.ntmps8
    go_wp2_with fail
    refine (at_any hL HL.out HP2.out).mono ?_
    rintro e w1 ⟨rfl, rfl⟩
    simp only [ptrOf, Option.map_some]
    generalize (w.alloc (.cells [v0, v1, v2, v3, v4, v5, v6, v7, v8, v9, v10].toArray 27 (0, 0))).alloc (.cells #[.string ByteArray.empty, .string ByteArray.empty, .int .i64 0, .int .i64 0, .slice none 0 0, .string ByteArray.empty, .int .i64 0, .int .i64 0, .string ByteArray.empty, .string ByteArray.empty, .slice none 0 0] 27 (0, 0)) = w1 at *
    have hs1 := HS0.out
    have hbs : b' < w1.heap.size := by
      have := q0
      simp only [World.cell?] at this
      split at this
      · rename_i h; exact lt_of_heap h
      · cases this
    go_wp2_with fail
    refine (copied_any _ (.mk opy namey ny my numsy fky fiy ffy fry foy kidsy) (Nat.lt_succ_self _) HSK.out U w1 [.string opy, .string namey, .int .i64 ny, .int .i64 my, .slice b4 m4 e4, .string fky, .int .i64 fiy, .int .i64 ffy, .string fry, .string foy, .slice b10 m10 e10] (fun q hq => by have := HU.out q hq; omega) (((CR.vals [.string opy, .string namey, .int .i64 ny, .int .i64 my]).app (CR.one d4)).app ((CR.vals [.string fky, .int .i64 fiy, .int .i64 ffy, .string fry, .string foy]).app (CR.one d10)))).mono ?_
    rintro e wq ⟨vs', rfl, hbq, hfv⟩
    have HFV := Lib.hid hfv
    obtain ⟨f4, g4, i4, f10, g10, i10, rfl⟩ := fvals_tree hfv
    have hZq := (hbq.block (w.heap.size + 1) (by omega)).trans HZ0.out
    have hBq : Below w.heap.size w wq := HB0.out.trans (hbq.mono (by omega))
    have hsq := hbq.size
    have HZq := Lib.hid hZq
    clear hfv
    have kZ0 : wq.cell? ⟨w.heap.size + 1, 0, none⟩ = some (.string ByteArray.empty) := by simp [World.cell?, hZq]
    have kZ1 : wq.cell? ⟨w.heap.size + 1, 1, none⟩ = some (.string ByteArray.empty) := by simp [World.cell?, hZq]
    have kZ2 : wq.cell? ⟨w.heap.size + 1, 2, none⟩ = some (.int .i64 0) := by simp [World.cell?, hZq]
    have kZ3 : wq.cell? ⟨w.heap.size + 1, 3, none⟩ = some (.int .i64 0) := by simp [World.cell?, hZq]
    have kZ4 : wq.cell? ⟨w.heap.size + 1, 4, none⟩ = some (.slice none 0 0) := by simp [World.cell?, hZq]
    have kZ5 : wq.cell? ⟨w.heap.size + 1, 5, none⟩ = some (.string ByteArray.empty) := by simp [World.cell?, hZq]
    have kZ6 : wq.cell? ⟨w.heap.size + 1, 6, none⟩ = some (.int .i64 0) := by simp [World.cell?, hZq]
    have kZ7 : wq.cell? ⟨w.heap.size + 1, 7, none⟩ = some (.int .i64 0) := by simp [World.cell?, hZq]
    have kZ8 : wq.cell? ⟨w.heap.size + 1, 8, none⟩ = some (.string ByteArray.empty) := by simp [World.cell?, hZq]
    have kZ9 : wq.cell? ⟨w.heap.size + 1, 9, none⟩ = some (.string ByteArray.empty) := by simp [World.cell?, hZq]
    have kZ10 : wq.cell? ⟨w.heap.size + 1, 10, none⟩ = some (.slice none 0 0) := by simp [World.cell?, hZq]
    have fZ0 : wq.frozen? ⟨w.heap.size + 1, 0, none⟩ = false := by simp [World.frozen?, hZq]
    have fZ1 : wq.frozen? ⟨w.heap.size + 1, 1, none⟩ = false := by simp [World.frozen?, hZq]
    have fZ2 : wq.frozen? ⟨w.heap.size + 1, 2, none⟩ = false := by simp [World.frozen?, hZq]
    have fZ3 : wq.frozen? ⟨w.heap.size + 1, 3, none⟩ = false := by simp [World.frozen?, hZq]
    have fZ4 : wq.frozen? ⟨w.heap.size + 1, 4, none⟩ = false := by simp [World.frozen?, hZq]
    have fZ5 : wq.frozen? ⟨w.heap.size + 1, 5, none⟩ = false := by simp [World.frozen?, hZq]
    have fZ6 : wq.frozen? ⟨w.heap.size + 1, 6, none⟩ = false := by simp [World.frozen?, hZq]
    have fZ7 : wq.frozen? ⟨w.heap.size + 1, 7, none⟩ = false := by simp [World.frozen?, hZq]
    have fZ8 : wq.frozen? ⟨w.heap.size + 1, 8, none⟩ = false := by simp [World.frozen?, hZq]
    have fZ9 : wq.frozen? ⟨w.heap.size + 1, 9, none⟩ = false := by simp [World.frozen?, hZq]
    have fZ10 : wq.frozen? ⟨w.heap.size + 1, 10, none⟩ = false := by simp [World.frozen?, hZq]
    clear hZq
    go_wp2
    have hZf := heap_setCell_eq (o := 10) (v := .slice f10 g10 i10) (heap_setCell_eq (o := 9) (v := .string foy) (heap_setCell_eq (o := 8) (v := .string fry) (heap_setCell_eq (o := 7) (v := .int .i64 ffy) (heap_setCell_eq (o := 6) (v := .int .i64 fiy) (heap_setCell_eq (o := 5) (v := .string fky) (heap_setCell_eq (o := 4) (v := .slice f4 g4 i4) (heap_setCell_eq (o := 3) (v := .int .i64 my) (heap_setCell_eq (o := 2) (v := .int .i64 ny) (heap_setCell_eq (o := 1) (v := .string namey) (heap_setCell_eq (o := 0) (v := .string opy) (HZq.out)))))))))))
    simp only [List.setIfInBounds_toArray, List.set_cons_zero, List.set_cons_succ] at hZf
    have hNf : ∀ q, q ≠ w.heap.size + 1 → (((((((((((wq.setCell ⟨w.heap.size + 1, 0, none⟩ (.string opy)).setCell ⟨w.heap.size + 1, 1, none⟩ (.string namey)).setCell ⟨w.heap.size + 1, 2, none⟩ (.int .i64 ny)).setCell ⟨w.heap.size + 1, 3, none⟩ (.int .i64 my)).setCell ⟨w.heap.size + 1, 4, none⟩ (.slice f4 g4 i4)).setCell ⟨w.heap.size + 1, 5, none⟩ (.string fky)).setCell ⟨w.heap.size + 1, 6, none⟩ (.int .i64 fiy)).setCell ⟨w.heap.size + 1, 7, none⟩ (.int .i64 ffy)).setCell ⟨w.heap.size + 1, 8, none⟩ (.string fry)).setCell ⟨w.heap.size + 1, 9, none⟩ (.string foy)).setCell ⟨w.heap.size + 1, 10, none⟩ (.slice f10 g10 i10)).heap[q]? = wq.heap[q]? := fun q hq => by simp only [heap_setCell_ne _ _ _ _ hq]
    have hSf : (((((((((((wq.setCell ⟨w.heap.size + 1, 0, none⟩ (.string opy)).setCell ⟨w.heap.size + 1, 1, none⟩ (.string namey)).setCell ⟨w.heap.size + 1, 2, none⟩ (.int .i64 ny)).setCell ⟨w.heap.size + 1, 3, none⟩ (.int .i64 my)).setCell ⟨w.heap.size + 1, 4, none⟩ (.slice f4 g4 i4)).setCell ⟨w.heap.size + 1, 5, none⟩ (.string fky)).setCell ⟨w.heap.size + 1, 6, none⟩ (.int .i64 fiy)).setCell ⟨w.heap.size + 1, 7, none⟩ (.int .i64 ffy)).setCell ⟨w.heap.size + 1, 8, none⟩ (.string fry)).setCell ⟨w.heap.size + 1, 9, none⟩ (.string foy)).setCell ⟨w.heap.size + 1, 10, none⟩ (.slice f10 g10 i10)).heap.size = wq.heap.size := by simp only [size_setCell]
    have hBf := (Below.setCell (p := ⟨w.heap.size + 1, 10, none⟩) (Below.setCell (p := ⟨w.heap.size + 1, 9, none⟩) (Below.setCell (p := ⟨w.heap.size + 1, 8, none⟩) (Below.setCell (p := ⟨w.heap.size + 1, 7, none⟩) (Below.setCell (p := ⟨w.heap.size + 1, 6, none⟩) (Below.setCell (p := ⟨w.heap.size + 1, 5, none⟩) (Below.setCell (p := ⟨w.heap.size + 1, 4, none⟩) (Below.setCell (p := ⟨w.heap.size + 1, 3, none⟩) (Below.setCell (p := ⟨w.heap.size + 1, 2, none⟩) (Below.setCell (p := ⟨w.heap.size + 1, 1, none⟩) (Below.setCell (p := ⟨w.heap.size + 1, 0, none⟩) hBq (by first | exact Nat.le_succ _ | (show w.heap.size ≤ w.heap.size + 1; omega)) (.string opy)) (by first | exact Nat.le_succ _ | (show w.heap.size ≤ w.heap.size + 1; omega)) (.string namey)) (by first | exact Nat.le_succ _ | (show w.heap.size ≤ w.heap.size + 1; omega)) (.int .i64 ny)) (by first | exact Nat.le_succ _ | (show w.heap.size ≤ w.heap.size + 1; omega)) (.int .i64 my)) (by first | exact Nat.le_succ _ | (show w.heap.size ≤ w.heap.size + 1; omega)) (.slice f4 g4 i4)) (by first | exact Nat.le_succ _ | (show w.heap.size ≤ w.heap.size + 1; omega)) (.string fky)) (by first | exact Nat.le_succ _ | (show w.heap.size ≤ w.heap.size + 1; omega)) (.int .i64 fiy)) (by first | exact Nat.le_succ _ | (show w.heap.size ≤ w.heap.size + 1; omega)) (.int .i64 ffy)) (by first | exact Nat.le_succ _ | (show w.heap.size ≤ w.heap.size + 1; omega)) (.string fry)) (by first | exact Nat.le_succ _ | (show w.heap.size ≤ w.heap.size + 1; omega)) (.string foy)) (by first | exact Nat.le_succ _ | (show w.heap.size ≤ w.heap.size + 1; omega)) (.slice f10 g10 i10))
    generalize (((((((((((wq.setCell ⟨w.heap.size + 1, 0, none⟩ (.string opy)).setCell ⟨w.heap.size + 1, 1, none⟩ (.string namey)).setCell ⟨w.heap.size + 1, 2, none⟩ (.int .i64 ny)).setCell ⟨w.heap.size + 1, 3, none⟩ (.int .i64 my)).setCell ⟨w.heap.size + 1, 4, none⟩ (.slice f4 g4 i4)).setCell ⟨w.heap.size + 1, 5, none⟩ (.string fky)).setCell ⟨w.heap.size + 1, 6, none⟩ (.int .i64 fiy)).setCell ⟨w.heap.size + 1, 7, none⟩ (.int .i64 ffy)).setCell ⟨w.heap.size + 1, 8, none⟩ (.string fry)).setCell ⟨w.heap.size + 1, 9, none⟩ (.string foy)).setCell ⟨w.heap.size + 1, 10, none⟩ (.slice f10 g10 i10)) = wz at *
    have gZ0 : wz.cell? ⟨w.heap.size + 1, 0, none⟩ = some (.string opy) := by simp [World.cell?, hZf]
    have gZ1 : wz.cell? ⟨w.heap.size + 1, 1, none⟩ = some (.string namey) := by simp [World.cell?, hZf]
    have gZ2 : wz.cell? ⟨w.heap.size + 1, 2, none⟩ = some (.int .i64 ny) := by simp [World.cell?, hZf]
    have gZ3 : wz.cell? ⟨w.heap.size + 1, 3, none⟩ = some (.int .i64 my) := by simp [World.cell?, hZf]
    have gZ4 : wz.cell? ⟨w.heap.size + 1, 4, none⟩ = some (.slice f4 g4 i4) := by simp [World.cell?, hZf]
    have gZ5 : wz.cell? ⟨w.heap.size + 1, 5, none⟩ = some (.string fky) := by simp [World.cell?, hZf]
    have gZ6 : wz.cell? ⟨w.heap.size + 1, 6, none⟩ = some (.int .i64 fiy) := by simp [World.cell?, hZf]
    have gZ7 : wz.cell? ⟨w.heap.size + 1, 7, none⟩ = some (.int .i64 ffy) := by simp [World.cell?, hZf]
    have gZ8 : wz.cell? ⟨w.heap.size + 1, 8, none⟩ = some (.string fry) := by simp [World.cell?, hZf]
    have gZ9 : wz.cell? ⟨w.heap.size + 1, 9, none⟩ = some (.string foy) := by simp [World.cell?, hZf]
    have gZ10 : wz.cell? ⟨w.heap.size + 1, 10, none⟩ = some (.slice f10 g10 i10) := by simp [World.cell?, hZf]
    refine bodyPost_ret (v := .tuple #[.agg [.string opy, .string namey, .int .i64 ny, .int .i64 my, .slice f4 g4 i4, .string fky, .int .i64 fiy, .int .i64 ffy, .string fry, .string foy, .slice f10 g10 i10].toArray, .int .i64 0]) (by simp [results, Try.results8, go_sem, gZ0, gZ1, gZ2, gZ3, gZ4, gZ5, gZ6, gZ7, gZ8, gZ9, gZ10]) rfl ⟨_, _, (.mk opy namey ny my numsy fky fiy ffy fry foy kidsy), rfl, hBf, ?_, .inl ⟨HSM.out, rfl⟩⟩
    obtain ⟨c1, G, c2, c3, c4⟩ := HFV.out
    refine ⟨c1, fun i d v e1 e2 => ?_⟩
    exact ((c2 i d v e1 e2).keep (fun _ h => h) (fun q hq => hNf q (by have := (c3 i q hq).1; omega))).drep (fun q hq => .inr ⟨by have := (c3 i q hq).1; omega, by have := (c3 i q hq).2; omega⟩)
end Go.Proofs.Ytdfhakhapblhgaa
