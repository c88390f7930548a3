/-
  block.Put, as it walks.
-/
import Derived.Test.YtdfhakhapblhgaaCm
import Derived.Deep.RegionHeld
set_option linter.all false
namespace Go.Proofs.Ytdfhakhapblhgaa
open Go Go.Pv Go.RowKit
set_option maxRecDepth 100000 in
set_option maxHeartbeats 3200000 in
theorem Put_any (t x : BT) (L : List Int) (hL : L.length ≤ 9223372036854775807) (ht : t.ok) (hx : x.ok) (U : Nat → Prop) (w : World) (vs xs : List Value) (vp : Value) (hU : ∀ k, U k → k < w.heap.size) (hr : CR U w t.cells vs) (hxr : CR U w x.cells xs) (hp : DRep U w (intsD L) vp) :
    Calls Try.prog 10 #[.agg vs.toArray, vp, .agg xs.toArray] w fun e w' => ∃ (rs : List Value) (c : Int) (y : BT), e = .returned (.tuple #[.agg rs.toArray, .int .i64 c]) ∧ Below w.heap.size w w' ∧ CR (U2 U w w') w' y.cells rs ∧ ((BT.put L t x = some y ∧ c = 0) ∨ (BT.at L t = none ∧ y = BT.zero ∧ c = 2)) := by
  have hU1 : ∀ k, U k → k < (w.alloc (.cells vs.toArray 27 (0, 0))).heap.size := fun k hk => by have := hU k hk; simp; omega
  have hU2 : ∀ k, U k → k < ((w.alloc (.cells vs.toArray 27 (0, 0))).alloc (.cells xs.toArray 27 (0, 0))).heap.size := fun k hk => by have := hU k hk; simp; omega
  have hU3 : ∀ k, U k → (((w.alloc (.cells vs.toArray 27 (0, 0))).alloc (.cells xs.toArray 27 (0, 0))).alloc (.cells #[.string ByteArray.empty, .string ByteArray.empty, .int .i64 0, .int .i64 0, .slice none 0 0, .string ByteArray.empty, .int .i64 0, .int .i64 0, .string ByteArray.empty, .string ByteArray.empty, .slice none 0 0] 27 (0, 0))).heap[k]? = w.heap[k]? := fun k hk => by rw [Below.heap_alloc _ _ _ (hU2 k hk), Below.heap_alloc _ _ _ (hU1 k hk), Below.heap_alloc _ _ _ (hU k hk)]
  have hs0 : (((w.alloc (.cells vs.toArray 27 (0, 0))).alloc (.cells xs.toArray 27 (0, 0))).alloc (.cells #[.string ByteArray.empty, .string ByteArray.empty, .int .i64 0, .int .i64 0, .slice none 0 0, .string ByteArray.empty, .int .i64 0, .int .i64 0, .string ByteArray.empty, .string ByteArray.empty, .slice none 0 0] 27 (0, 0))).heap.size = w.heap.size + 3 := by simp
  have hA0 : (((w.alloc (.cells vs.toArray 27 (0, 0))).alloc (.cells xs.toArray 27 (0, 0))).alloc (.cells #[.string ByteArray.empty, .string ByteArray.empty, .int .i64 0, .int .i64 0, .slice none 0 0, .string ByteArray.empty, .int .i64 0, .int .i64 0, .string ByteArray.empty, .string ByteArray.empty, .slice none 0 0] 27 (0, 0))).heap[w.heap.size]? = some (.cells vs.toArray 27 (0, 0)) := by rw [Below.heap_alloc _ _ _ (by simp; omega), Below.heap_alloc _ _ _ (by simp), heap_alloc_new]
  have hX0 : (((w.alloc (.cells vs.toArray 27 (0, 0))).alloc (.cells xs.toArray 27 (0, 0))).alloc (.cells #[.string ByteArray.empty, .string ByteArray.empty, .int .i64 0, .int .i64 0, .slice none 0 0, .string ByteArray.empty, .int .i64 0, .int .i64 0, .string ByteArray.empty, .string ByteArray.empty, .slice none 0 0] 27 (0, 0))).heap[w.heap.size + 1]? = some (.cells xs.toArray 27 (0, 0)) := by rw [Below.heap_alloc _ _ _ (by simp), heap_alloc2]
  have hZ0 : (((w.alloc (.cells vs.toArray 27 (0, 0))).alloc (.cells xs.toArray 27 (0, 0))).alloc (.cells #[.string ByteArray.empty, .string ByteArray.empty, .int .i64 0, .int .i64 0, .slice none 0 0, .string ByteArray.empty, .int .i64 0, .int .i64 0, .string ByteArray.empty, .string ByteArray.empty, .slice none 0 0] 27 (0, 0))).heap[w.heap.size + 2]? = some (.cells #[.string ByteArray.empty, .string ByteArray.empty, .int .i64 0, .int .i64 0, .slice none 0 0, .string ByteArray.empty, .int .i64 0, .int .i64 0, .string ByteArray.empty, .string ByteArray.empty, .slice none 0 0] 27 (0, 0)) := by rw [show w.heap.size + 2 = ((w.alloc (.cells vs.toArray 27 (0, 0))).alloc (.cells xs.toArray 27 (0, 0))).heap.size from by simp]; exact heap_alloc_new _ _
  have hB0 : Below w.heap.size w (((w.alloc (.cells vs.toArray 27 (0, 0))).alloc (.cells xs.toArray 27 (0, 0))).alloc (.cells #[.string ByteArray.empty, .string ByteArray.empty, .int .i64 0, .int .i64 0, .slice none 0 0, .string ByteArray.empty, .int .i64 0, .int .i64 0, .string ByteArray.empty, .string ByteArray.empty, .slice none 0 0] 27 (0, 0))) := (((Below.refl _ w).alloc (Nat.le_refl _) _).alloc (by simp) _).alloc (by simp; omega) _
  have hv11 : vs.length = 11 := by rw [hr.1, BT.cells_len]
  have hx11 : xs.length = 11 := by rw [hxr.1, BT.cells_len]
  have hC0 : CellsAt U (((w.alloc (.cells vs.toArray 27 (0, 0))).alloc (.cells xs.toArray 27 (0, 0))).alloc (.cells #[.string ByteArray.empty, .string ByteArray.empty, .int .i64 0, .int .i64 0, .slice none 0 0, .string ByteArray.empty, .int .i64 0, .int .i64 0, .string ByteArray.empty, .string ByteArray.empty, .slice none 0 0] 27 (0, 0))) w.heap.size 0 t.cells := fun i d hd => by
    have hi : i < vs.length := by have := (List.getElem?_eq_some_iff.1 hd).1; rw [hr.1]; exact this
    refine ⟨vs[i], by simp [World.cell?, hA0, hi], (hr.2 i d _ hd (List.getElem?_eq_getElem hi)).keep (fun _ h => h) hU3 (by omega)⟩
  have hP0 : DRep U (((w.alloc (.cells vs.toArray 27 (0, 0))).alloc (.cells xs.toArray 27 (0, 0))).alloc (.cells #[.string ByteArray.empty, .string ByteArray.empty, .int .i64 0, .int .i64 0, .slice none 0 0, .string ByteArray.empty, .int .i64 0, .int .i64 0, .string ByteArray.empty, .string ByteArray.empty, .slice none 0 0] 27 (0, 0))) (intsD L) vp := hp.keep (fun _ h => h) hU3 (by omega)
  have hT0 : CR U (((w.alloc (.cells vs.toArray 27 (0, 0))).alloc (.cells xs.toArray 27 (0, 0))).alloc (.cells #[.string ByteArray.empty, .string ByteArray.empty, .int .i64 0, .int .i64 0, .slice none 0 0, .string ByteArray.empty, .int .i64 0, .int .i64 0, .string ByteArray.empty, .string ByteArray.empty, .slice none 0 0] 27 (0, 0))) t.cells vs := ⟨hr.1, fun i d v e1 e2 => (hr.2 i d v e1 e2).keep (fun _ h => h) hU3 (by omega)⟩
  have hR0 : CR U (((w.alloc (.cells vs.toArray 27 (0, 0))).alloc (.cells xs.toArray 27 (0, 0))).alloc (.cells #[.string ByteArray.empty, .string ByteArray.empty, .int .i64 0, .int .i64 0, .slice none 0 0, .string ByteArray.empty, .int .i64 0, .int .i64 0, .string ByteArray.empty, .string ByteArray.empty, .slice none 0 0] 27 (0, 0))) x.cells xs := ⟨hxr.1, fun i d v e1 e2 => (hxr.2 i d v e1 e2).keep (fun _ h => h) hU3 (by omega)⟩
  have hLoc := frozen_at L t _ _ hC0
  have HU := Lib.hid hU
  clear hr hxr hp hU1 hU2 hU3 hC0 hU
  match vs, hv11, xs, hx11 with
  | [v0, v1, v2, v3, v4, v5, v6, v7, v8, v9, v10], _, [x0, x1, x2, x3, x4, x5, x6, x7, x8, x9, x10], _ =>
  have HS0 := Lib.hid hs0
  have HA0 := Lib.hid hA0
  have HX0 := Lib.hid hX0
  have HZ0 := Lib.hid hZ0
  have HB0 := Lib.hid hB0
  have HP0 := Lib.hid hP0
  have HT0 := Lib.hid hT0
  have HR0 := Lib.hid hR0
  clear hs0 hA0 hX0 hZ0 hB0 hP0 hT0 hR0
  rcases hLoc with ⟨hn, hloc⟩ | ⟨s, b1, o1, hsm, hloc, _⟩
  · have HL := Lib.hid hloc
    clear hloc
    go_enter Try.func10, Try.ntmps10
    go_wp2_with fail
    refine (at_any hL HL.out HP0.out).mono ?_
    rintro e w1 ⟨rfl, rfl⟩
    simp only [ptrOf, Option.map_none]
    go_wp2
    refine bodyPost_ret (v := .tuple #[.agg [.string ByteArray.empty, .string ByteArray.empty, .int .i64 0, .int .i64 0, .slice none 0 0, .string ByteArray.empty, .int .i64 0, .int .i64 0, .string ByteArray.empty, .string ByteArray.empty, .slice none 0 0].toArray, .int .i64 2]) (by simp [results, Try.results10, go_sem]; rfl) rfl ⟨_, _, BT.zero, rfl, ?_, ?_, .inr ⟨hn, rfl, rfl⟩⟩
    · exact HB0.out
    · exact ((CR.vals [.string ByteArray.empty, .string ByteArray.empty, .int .i64 0, .int .i64 0]).app (CR.one .nil)).app ((CR.vals [.string ByteArray.empty, .int .i64 0, .int .i64 0, .string ByteArray.empty, .string ByteArray.empty]).app (CR.one .nil))
  · have HL := Lib.hid hloc
    clear hloc
    have HSM := Lib.hid hsm
    clear hsm
    go_enter Try.func10, Try.ntmps10
    go_wp2_with fail
    refine (at_any hL HL.out HP0.out).mono ?_
    rintro e w1 ⟨rfl, rfl⟩
    simp only [ptrOf, Option.map_some]
    generalize (((w.alloc (.cells [v0, v1, v2, v3, v4, v5, v6, v7, v8, v9, v10].toArray 27 (0, 0))).alloc (.cells [x0, x1, x2, x3, x4, x5, x6, x7, x8, x9, x10].toArray 27 (0, 0))).alloc (.cells #[.string ByteArray.empty, .string ByteArray.empty, .int .i64 0, .int .i64 0, .slice none 0 0, .string ByteArray.empty, .int .i64 0, .int .i64 0, .string ByteArray.empty, .string ByteArray.empty, .slice none 0 0] 27 (0, 0))) = w1 at *
    clear HL
    have hs1 := HS0.out
    have hA1 := HA0.out
    have kA0 : w1.cell? ⟨w.heap.size, 0, none⟩ = some (v0) := by simp [World.cell?, hA1]
    have kA1 : w1.cell? ⟨w.heap.size, 1, none⟩ = some (v1) := by simp [World.cell?, hA1]
    have kA2 : w1.cell? ⟨w.heap.size, 2, none⟩ = some (v2) := by simp [World.cell?, hA1]
    have kA3 : w1.cell? ⟨w.heap.size, 3, none⟩ = some (v3) := by simp [World.cell?, hA1]
    have kA4 : w1.cell? ⟨w.heap.size, 4, none⟩ = some (v4) := by simp [World.cell?, hA1]
    have kA5 : w1.cell? ⟨w.heap.size, 5, none⟩ = some (v5) := by simp [World.cell?, hA1]
    have kA6 : w1.cell? ⟨w.heap.size, 6, none⟩ = some (v6) := by simp [World.cell?, hA1]
    have kA7 : w1.cell? ⟨w.heap.size, 7, none⟩ = some (v7) := by simp [World.cell?, hA1]
    have kA8 : w1.cell? ⟨w.heap.size, 8, none⟩ = some (v8) := by simp [World.cell?, hA1]
    have kA9 : w1.cell? ⟨w.heap.size, 9, none⟩ = some (v9) := by simp [World.cell?, hA1]
    have kA10 : w1.cell? ⟨w.heap.size, 10, none⟩ = some (v10) := by simp [World.cell?, hA1]
    clear hA1
    go_wp2_with fail
    refine (copied_any _ t (Nat.lt_succ_self _) ht U w1 [v0, v1, v2, v3, v4, v5, v6, v7, v8, v9, v10] (fun q hq => by have := HU.out q hq; omega) HT0.out).mono ?_
    rintro e wq ⟨vs', rfl, hbq, hfv⟩
    have hFC := fcells_of (T := 27) hfv (fun k hk => hk.2)
    have hXq := (hbq.block (w.heap.size + 1) (by omega)).trans HX0.out
    have hZq := (hbq.block (w.heap.size + 2) (by omega)).trans HZ0.out
    have hBq : Below w.heap.size w wq := HB0.out.trans (hbq.mono (by omega))
    have hRq : CR U wq x.cells [x0, x1, x2, x3, x4, x5, x6, x7, x8, x9, x10] := ⟨HR0.out.1, fun i d v e1 e2 => (HR0.out.2 i d v e1 e2).below_ (fun q hq => by have := HU.out q hq; omega) hbq⟩
    have hPq : DRep U wq (intsD L) vp := HP0.out.below_ (fun q hq => by have := HU.out q hq; omega) hbq
    have hsq := hbq.size
    have hF1 : ∀ q, fresh w1 wq q → w.heap.size + 3 ≤ q ∧ q < wq.heap.size := fun q hq => ⟨by have := hq.1; omega, hq.2⟩
    generalize hF : fresh w1 wq = F at *
    clear hF
    obtain ⟨opu, nameu, nu, mu, numsu, fku, fiu, ffu, fru, fou, kidsu⟩ := t
    obtain ⟨f4, g4, i4, f10, g10, i10, rfl⟩ := fvals_tree hfv
    have HFC := Lib.hid hFC
    have HXq := Lib.hid hXq
    have HZq := Lib.hid hZq
    have HBq := Lib.hid hBq
    have HRq := Lib.hid hRq
    have HPq := Lib.hid hPq
    clear hFC hXq hZq hBq hRq hPq hfv hbq kA0 kA1 kA2 kA3 kA4 kA5 kA6 kA7 kA8 kA9 kA10 HT0 HR0 HP0 HA0 HX0 HZ0 HB0
    go_wp2_with fail
    have h5s : (wq.alloc (.cells [.string opu, .string nameu, .int .i64 nu, .int .i64 mu, .slice f4 g4 i4, .string fku, .int .i64 fiu, .int .i64 ffu, .string fru, .string fou, .slice f10 g10 i10].toArray 27 (0, 0))).heap.size = wq.heap.size + 1 := by simp
    have h5b : Below wq.heap.size wq (wq.alloc (.cells [.string opu, .string nameu, .int .i64 nu, .int .i64 mu, .slice f4 g4 i4, .string fku, .int .i64 fiu, .int .i64 ffu, .string fru, .string fou, .slice f10 g10 i10].toArray 27 (0, 0))) := (Below.refl _ wq).alloc (Nat.le_refl _) _
    have hX5 := (h5b.block (w.heap.size + 1) (by omega)).trans HXq.out
    have hZ5 := (h5b.block (w.heap.size + 2) (by omega)).trans HZq.out
    have hB5 : Below w.heap.size w (wq.alloc (.cells [.string opu, .string nameu, .int .i64 nu, .int .i64 mu, .slice f4 g4 i4, .string fku, .int .i64 fiu, .int .i64 ffu, .string fru, .string fou, .slice f10 g10 i10].toArray 27 (0, 0))) := HBq.out.trans (h5b.mono (by omega))
    have hR5 : CR U (wq.alloc (.cells [.string opu, .string nameu, .int .i64 nu, .int .i64 mu, .slice f4 g4 i4, .string fku, .int .i64 fiu, .int .i64 ffu, .string fru, .string fou, .slice f10 g10 i10].toArray 27 (0, 0))) x.cells [x0, x1, x2, x3, x4, x5, x6, x7, x8, x9, x10] := ⟨HRq.out.1, fun i d v e1 e2 => (HRq.out.2 i d v e1 e2).below_ (fun q hq => by have := HU.out q hq; omega) h5b⟩
    have hP5 : DRep U (wq.alloc (.cells [.string opu, .string nameu, .int .i64 nu, .int .i64 mu, .slice f4 g4 i4, .string fku, .int .i64 fiu, .int .i64 ffu, .string fru, .string fou, .slice f10 g10 i10].toArray 27 (0, 0))) (intsD L) vp := HPq.out.below_ (fun q hq => by have := HU.out q hq; omega) h5b
    have hF5 := HFC.out
    generalize (wq.alloc (.cells [.string opu, .string nameu, .int .i64 nu, .int .i64 mu, .slice f4 g4 i4, .string fku, .int .i64 fiu, .int .i64 ffu, .string fru, .string fou, .slice f10 g10 i10].toArray 27 (0, 0))) = w5 at *
    obtain ⟨b', o', F', l1, l2, l3, l4, l5, l6⟩ := fresh_at w5 L _ s F wq.heap.size 0 hF5 (fun h => by have := (hF1 _ h).2; omega) HSM.out
    have hb' : w.heap.size + 3 ≤ b' ∧ b' < w5.heap.size := by
      rcases l4 with ⟨rfl, _⟩ | h
      · omega
      · have := hF1 _ h; omega
    obtain ⟨xs2, cur, Tc, m1, m2, m3⟩ := fcells_vals l2
    have hm11 : o' + 11 ≤ cur.size := by
      obtain ⟨G, c1, T1, e1, e2, _⟩ := l2
      rw [m2] at e1
      cases e1
      rw [BT.cells_len] at e2
      exact e2
    have HX5 := Lib.hid hX5
    have HZ5 := Lib.hid hZ5
    have HB5 := Lib.hid hB5
    have HR5 := Lib.hid hR5
    have HP5 := Lib.hid hP5
    have HL5 := Lib.hid l1
    have HU6 := Lib.hid l6
    have HM2 := Lib.hid m2
    have HL4 := Lib.hid l4
    have r0 : w5.cell? ⟨w.heap.size + 1, 0, none⟩ = some (x0) := by simp [World.cell?, hX5]
    have r1 : w5.cell? ⟨w.heap.size + 1, 1, none⟩ = some (x1) := by simp [World.cell?, hX5]
    have r2 : w5.cell? ⟨w.heap.size + 1, 2, none⟩ = some (x2) := by simp [World.cell?, hX5]
    have r3 : w5.cell? ⟨w.heap.size + 1, 3, none⟩ = some (x3) := by simp [World.cell?, hX5]
    have r4 : w5.cell? ⟨w.heap.size + 1, 4, none⟩ = some (x4) := by simp [World.cell?, hX5]
    have r5 : w5.cell? ⟨w.heap.size + 1, 5, none⟩ = some (x5) := by simp [World.cell?, hX5]
    have r6 : w5.cell? ⟨w.heap.size + 1, 6, none⟩ = some (x6) := by simp [World.cell?, hX5]
    have r7 : w5.cell? ⟨w.heap.size + 1, 7, none⟩ = some (x7) := by simp [World.cell?, hX5]
    have r8 : w5.cell? ⟨w.heap.size + 1, 8, none⟩ = some (x8) := by simp [World.cell?, hX5]
    have r9 : w5.cell? ⟨w.heap.size + 1, 9, none⟩ = some (x9) := by simp [World.cell?, hX5]
    have r10 : w5.cell? ⟨w.heap.size + 1, 10, none⟩ = some (x10) := by simp [World.cell?, hX5]
    clear hX5 hZ5 hB5 hR5 hP5 hF5 l1 l2 l4 l5 l6 m1 m2 m3 l3 h5b HFC HXq HZq HBq HRq HPq
    refine wp_region_held_drew (S := fun w' => w'.cell? ⟨w.heap.size + 1, 0, none⟩ = some x0 ∧ w'.cell? ⟨w.heap.size + 1, 1, none⟩ = some x1 ∧ w'.cell? ⟨w.heap.size + 1, 2, none⟩ = some x2 ∧ w'.cell? ⟨w.heap.size + 1, 3, none⟩ = some x3 ∧ w'.cell? ⟨w.heap.size + 1, 4, none⟩ = some x4 ∧ w'.cell? ⟨w.heap.size + 1, 5, none⟩ = some x5 ∧ w'.cell? ⟨w.heap.size + 1, 6, none⟩ = some x6 ∧ w'.cell? ⟨w.heap.size + 1, 7, none⟩ = some x7 ∧ w'.cell? ⟨w.heap.size + 1, 8, none⟩ = some x8 ∧ w'.cell? ⟨w.heap.size + 1, 9, none⟩ = some x9 ∧ w'.cell? ⟨w.heap.size + 1, 10, none⟩ = some x10) (by kernel_rfl) ?_ ?_
    · exact ⟨r0, r1, r2, r3, r4, r5, r6, r7, r8, r9, r10⟩
    intro hH0
    refine wpAnyH_take (i := 0) (v := ?_) rfl (by kernel_rfl) (by kernel_rfl) (by kernel_rfl) (fun _ _ _ h => h) (Or.inl ⟨by rfl, ?_⟩) (by assumption) ?_
    rotate_left
    focus (intro wq hSq; (try dsimp only at hSq); go_simp; first | done | (with_reducible rfl))
    (try simp only [Act.put, List.getElem_toArray, List.getElem_cons_zero, List.setIfInBounds_toArray, List.set_cons_zero, List.set_cons_succ])
    refine wpAnyH_take (i := 2) (v := ?_) rfl (by kernel_rfl) (by kernel_rfl) (by kernel_rfl) (fun _ _ _ h => h) (Or.inl ⟨by rfl, ?_⟩) (by assumption) ?_
    rotate_left
    focus (intro wq hSq; (try dsimp only at hSq); go_simp; first | done | (with_reducible rfl))
    (try simp only [Act.put, List.getElem_toArray, List.getElem_cons_succ, List.getElem_cons_zero, List.setIfInBounds_toArray, List.set_cons_zero, List.set_cons_succ])
    refine wpAnyH_ready (rs := [1]) (by kernel_rfl) (by simp) ?_
    refine AllReadyH.cons rfl (fun K hK => ?_) AllReadyH.nil
    rw [if_pos (by rfl)]
    go_simp
    refine (at_any hL HL5.out.drew (DRep.keep (w := w5) (w' := w5.drew) (fun _ h => h) (fun _ _ => rfl) (Nat.le_refl _) HP5.out)).mono ?_
    rintro e wa ⟨rfl, rfl⟩
    simp only [ptrOf, Option.map_some]
    (try dsimp only)
    refine hK.out _ _ ?_ (fun hHeld => ?_)
    · exact ⟨r0, r1, r2, r3, r4, r5, r6, r7, r8, r9, r10⟩
    clear hK K
    (try simp only [Act.put, List.getElem_toArray, List.getElem_cons_succ, List.getElem_cons_zero, List.setIfInBounds_toArray, List.set_cons_zero, List.set_cons_succ])
    refine wpAnyH_ready (rs := [3]) (by kernel_rfl) (by simp) ?_
    refine AllReadyH.cons rfl (fun K hK => ?_) AllReadyH.nil
    rw [if_pos (by rfl)]
    go_simp
    refine (copied_any _ x (Nat.lt_succ_self _) hx U w5.drew [x0, x1, x2, x3, x4, x5, x6, x7, x8, x9, x10] (fun q hq => by have := HU.out q hq; show q < w5.heap.size; omega) ⟨HR5.out.1, fun i d v e1 e2 => DRep.keep (w := w5) (w' := w5.drew) (fun _ h => h) (fun _ _ => rfl) (Nat.le_refl _) (HR5.out.2 i d v e1 e2)⟩).mono ?_
    rintro e wb ⟨xs', rfl, hbb, hfx⟩
    have hbb2 : Below w5.heap.size w5 wb := ⟨hbb.os, hbb.tape, hbb.output, hbb.size, fun q hq => hbb.block q hq⟩
    have HFX := Lib.hid hfx
    obtain ⟨opz, namez, nz, mz, numsz, fkz, fiz, ffz, frz, foz, kidsz⟩ := x
    obtain ⟨h4, j4, k4, h10, j10, k10, rfl⟩ := fvals_tree hfx
    have hsb := hbb2.size
    have hmb := (hbb2.block b' hb'.2).trans HM2.out
    have HMB := Lib.hid hmb
    have s0 : wb.cell? ⟨w.heap.size + 1, 0, none⟩ = some x0 := (hbb2.cell (p := ⟨w.heap.size + 1, 0, none⟩) (by show w.heap.size + 1 < w5.heap.size; omega)).trans r0
    have s1 : wb.cell? ⟨w.heap.size + 1, 1, none⟩ = some x1 := (hbb2.cell (p := ⟨w.heap.size + 1, 1, none⟩) (by show w.heap.size + 1 < w5.heap.size; omega)).trans r1
    have s2 : wb.cell? ⟨w.heap.size + 1, 2, none⟩ = some x2 := (hbb2.cell (p := ⟨w.heap.size + 1, 2, none⟩) (by show w.heap.size + 1 < w5.heap.size; omega)).trans r2
    have s3 : wb.cell? ⟨w.heap.size + 1, 3, none⟩ = some x3 := (hbb2.cell (p := ⟨w.heap.size + 1, 3, none⟩) (by show w.heap.size + 1 < w5.heap.size; omega)).trans r3
    have s4 : wb.cell? ⟨w.heap.size + 1, 4, none⟩ = some x4 := (hbb2.cell (p := ⟨w.heap.size + 1, 4, none⟩) (by show w.heap.size + 1 < w5.heap.size; omega)).trans r4
    have s5 : wb.cell? ⟨w.heap.size + 1, 5, none⟩ = some x5 := (hbb2.cell (p := ⟨w.heap.size + 1, 5, none⟩) (by show w.heap.size + 1 < w5.heap.size; omega)).trans r5
    have s6 : wb.cell? ⟨w.heap.size + 1, 6, none⟩ = some x6 := (hbb2.cell (p := ⟨w.heap.size + 1, 6, none⟩) (by show w.heap.size + 1 < w5.heap.size; omega)).trans r6
    have s7 : wb.cell? ⟨w.heap.size + 1, 7, none⟩ = some x7 := (hbb2.cell (p := ⟨w.heap.size + 1, 7, none⟩) (by show w.heap.size + 1 < w5.heap.size; omega)).trans r7
    have s8 : wb.cell? ⟨w.heap.size + 1, 8, none⟩ = some x8 := (hbb2.cell (p := ⟨w.heap.size + 1, 8, none⟩) (by show w.heap.size + 1 < w5.heap.size; omega)).trans r8
    have s9 : wb.cell? ⟨w.heap.size + 1, 9, none⟩ = some x9 := (hbb2.cell (p := ⟨w.heap.size + 1, 9, none⟩) (by show w.heap.size + 1 < w5.heap.size; omega)).trans r9
    have s10 : wb.cell? ⟨w.heap.size + 1, 10, none⟩ = some x10 := (hbb2.cell (p := ⟨w.heap.size + 1, 10, none⟩) (by show w.heap.size + 1 < w5.heap.size; omega)).trans r10
    obtain ⟨c0, q0⟩ : ∃ c, wb.cell? ⟨b', o', none⟩ = some c := ⟨cur[o']'(by omega), by simp [World.cell?, hmb, show o' < cur.size by omega]⟩
    have p0 : wb.frozen? ⟨b', o', none⟩ = false := by simp [World.frozen?, hmb]
    obtain ⟨c1, q1⟩ : ∃ c, wb.cell? ⟨b', o' + 1, none⟩ = some c := ⟨cur[o' + 1]'(by omega), by simp [World.cell?, hmb, show o' + 1 < cur.size by omega]⟩
    have p1 : wb.frozen? ⟨b', o' + 1, none⟩ = false := by simp [World.frozen?, hmb]
    obtain ⟨c2, q2⟩ : ∃ c, wb.cell? ⟨b', o' + 2, none⟩ = some c := ⟨cur[o' + 2]'(by omega), by simp [World.cell?, hmb, show o' + 2 < cur.size by omega]⟩
    have p2 : wb.frozen? ⟨b', o' + 2, none⟩ = false := by simp [World.frozen?, hmb]
    obtain ⟨c3, q3⟩ : ∃ c, wb.cell? ⟨b', o' + 3, none⟩ = some c := ⟨cur[o' + 3]'(by omega), by simp [World.cell?, hmb, show o' + 3 < cur.size by omega]⟩
    have p3 : wb.frozen? ⟨b', o' + 3, none⟩ = false := by simp [World.frozen?, hmb]
    obtain ⟨c4, q4⟩ : ∃ c, wb.cell? ⟨b', o' + 4, none⟩ = some c := ⟨cur[o' + 4]'(by omega), by simp [World.cell?, hmb, show o' + 4 < cur.size by omega]⟩
    have p4 : wb.frozen? ⟨b', o' + 4, none⟩ = false := by simp [World.frozen?, hmb]
    obtain ⟨c5, q5⟩ : ∃ c, wb.cell? ⟨b', o' + 5, none⟩ = some c := ⟨cur[o' + 5]'(by omega), by simp [World.cell?, hmb, show o' + 5 < cur.size by omega]⟩
    have p5 : wb.frozen? ⟨b', o' + 5, none⟩ = false := by simp [World.frozen?, hmb]
    obtain ⟨c6, q6⟩ : ∃ c, wb.cell? ⟨b', o' + 6, none⟩ = some c := ⟨cur[o' + 6]'(by omega), by simp [World.cell?, hmb, show o' + 6 < cur.size by omega]⟩
    have p6 : wb.frozen? ⟨b', o' + 6, none⟩ = false := by simp [World.frozen?, hmb]
    obtain ⟨c7, q7⟩ : ∃ c, wb.cell? ⟨b', o' + 7, none⟩ = some c := ⟨cur[o' + 7]'(by omega), by simp [World.cell?, hmb, show o' + 7 < cur.size by omega]⟩
    have p7 : wb.frozen? ⟨b', o' + 7, none⟩ = false := by simp [World.frozen?, hmb]
    obtain ⟨c8, q8⟩ : ∃ c, wb.cell? ⟨b', o' + 8, none⟩ = some c := ⟨cur[o' + 8]'(by omega), by simp [World.cell?, hmb, show o' + 8 < cur.size by omega]⟩
    have p8 : wb.frozen? ⟨b', o' + 8, none⟩ = false := by simp [World.frozen?, hmb]
    obtain ⟨c9, q9⟩ : ∃ c, wb.cell? ⟨b', o' + 9, none⟩ = some c := ⟨cur[o' + 9]'(by omega), by simp [World.cell?, hmb, show o' + 9 < cur.size by omega]⟩
    have p9 : wb.frozen? ⟨b', o' + 9, none⟩ = false := by simp [World.frozen?, hmb]
    obtain ⟨c10, q10⟩ : ∃ c, wb.cell? ⟨b', o' + 10, none⟩ = some c := ⟨cur[o' + 10]'(by omega), by simp [World.cell?, hmb, show o' + 10 < cur.size by omega]⟩
    have p10 : wb.frozen? ⟨b', o' + 10, none⟩ = false := by simp [World.frozen?, hmb]
    clear hmb hfx hbb
    dsimp only
    refine hK.out _ _ ?_ (fun hHeld => ?_)
    · exact ⟨s0, s1, s2, s3, s4, s5, s6, s7, s8, s9, s10⟩
    clear hK K
    (try simp only [Act.put, List.getElem_toArray, List.getElem_cons_succ, List.getElem_cons_zero, List.setIfInBounds_toArray, List.set_cons_zero, List.set_cons_succ])
    refine wpAnyH_take (i := 4) (v := ?_) rfl (by kernel_rfl) (by kernel_rfl) (by kernel_rfl) (fun _ _ _ h => h) (Or.inl ⟨by rfl, ?_⟩) (by assumption) ?_
    rotate_left
    focus (intro wq hSq; (try dsimp only at hSq); go_simp; first | done | (with_reducible rfl))
    (try simp only [Act.put, List.getElem_toArray, List.getElem_cons_succ, List.getElem_cons_zero, List.setIfInBounds_toArray, List.set_cons_zero, List.set_cons_succ])
    refine wpAnyH_ready (rs := [5]) (by kernel_rfl) (by simp) ?_
    refine AllReadyH.cons rfl (fun K hK => ?_) AllReadyH.nil
    rw [if_pos (by rfl)]
    go_simp
    have hNf : ∀ q, q ≠ b' → (((((((((((wb.setCell ⟨b', o', none⟩ (.string opz)).setCell ⟨b', o' + 1, none⟩ (.string namez)).setCell ⟨b', o' + 2, none⟩ (.int .i64 nz)).setCell ⟨b', o' + 3, none⟩ (.int .i64 mz)).setCell ⟨b', o' + 4, none⟩ (.slice h4 j4 k4)).setCell ⟨b', o' + 5, none⟩ (.string fkz)).setCell ⟨b', o' + 6, none⟩ (.int .i64 fiz)).setCell ⟨b', o' + 7, none⟩ (.int .i64 ffz)).setCell ⟨b', o' + 8, none⟩ (.string frz)).setCell ⟨b', o' + 9, none⟩ (.string foz)).setCell ⟨b', o' + 10, none⟩ (.slice h10 j10 k10)).heap[q]? = wb.heap[q]? := fun q hq => by simp only [heap_setCell_ne _ _ _ _ hq]
    have hSf : (((((((((((wb.setCell ⟨b', o', none⟩ (.string opz)).setCell ⟨b', o' + 1, none⟩ (.string namez)).setCell ⟨b', o' + 2, none⟩ (.int .i64 nz)).setCell ⟨b', o' + 3, none⟩ (.int .i64 mz)).setCell ⟨b', o' + 4, none⟩ (.slice h4 j4 k4)).setCell ⟨b', o' + 5, none⟩ (.string fkz)).setCell ⟨b', o' + 6, none⟩ (.int .i64 fiz)).setCell ⟨b', o' + 7, none⟩ (.int .i64 ffz)).setCell ⟨b', o' + 8, none⟩ (.string frz)).setCell ⟨b', o' + 9, none⟩ (.string foz)).setCell ⟨b', o' + 10, none⟩ (.slice h10 j10 k10)).heap.size = wb.heap.size := by simp only [size_setCell]
    have hKf := keeps_setCell (o := o' + 10) (keeps_setCell (o := o' + 9) (keeps_setCell (o := o' + 8) (keeps_setCell (o := o' + 7) (keeps_setCell (o := o' + 6) (keeps_setCell (o := o' + 5) (keeps_setCell (o := o' + 4) (keeps_setCell (o := o' + 3) (keeps_setCell (o := o' + 2) (keeps_setCell (o := o' + 1) (keeps_setCell (o := o') ((Keeps.refl : Keeps (fun q => q ≠ b') wb wb)) (fun h => h rfl) (.string opz)) (fun h => h rfl) (.string namez)) (fun h => h rfl) (.int .i64 nz)) (fun h => h rfl) (.int .i64 mz)) (fun h => h rfl) (.slice h4 j4 k4)) (fun h => h rfl) (.string fkz)) (fun h => h rfl) (.int .i64 fiz)) (fun h => h rfl) (.int .i64 ffz)) (fun h => h rfl) (.string frz)) (fun h => h rfl) (.string foz)) (fun h => h rfl) (.slice h10 j10 k10)
    have hZf := heap_setCell_eq (o := o' + 10) (v := .slice h10 j10 k10) (heap_setCell_eq (o := o' + 9) (v := .string foz) (heap_setCell_eq (o := o' + 8) (v := .string frz) (heap_setCell_eq (o := o' + 7) (v := .int .i64 ffz) (heap_setCell_eq (o := o' + 6) (v := .int .i64 fiz) (heap_setCell_eq (o := o' + 5) (v := .string fkz) (heap_setCell_eq (o := o' + 4) (v := .slice h4 j4 k4) (heap_setCell_eq (o := o' + 3) (v := .int .i64 mz) (heap_setCell_eq (o := o' + 2) (v := .int .i64 nz) (heap_setCell_eq (o := o' + 1) (v := .string namez) (heap_setCell_eq (o := o') (v := .string opz) (HMB.out)))))))))))
    have h11 := set11 cur o' (.string opz) (.string namez) (.int .i64 nz) (.int .i64 mz) (.slice h4 j4 k4) (.string fkz) (.int .i64 fiz) (.int .i64 ffz) (.string frz) (.string foz) (.slice h10 j10 k10) hm11
    generalize (((((((((((wb.setCell ⟨b', o', none⟩ (.string opz)).setCell ⟨b', o' + 1, none⟩ (.string namez)).setCell ⟨b', o' + 2, none⟩ (.int .i64 nz)).setCell ⟨b', o' + 3, none⟩ (.int .i64 mz)).setCell ⟨b', o' + 4, none⟩ (.slice h4 j4 k4)).setCell ⟨b', o' + 5, none⟩ (.string fkz)).setCell ⟨b', o' + 6, none⟩ (.int .i64 fiz)).setCell ⟨b', o' + 7, none⟩ (.int .i64 ffz)).setCell ⟨b', o' + 8, none⟩ (.string frz)).setCell ⟨b', o' + 9, none⟩ (.string foz)).setCell ⟨b', o' + 10, none⟩ (.slice h10 j10 k10)) = wz at *
    refine hK.out _ _ ?_ (fun hHeld => ?_)
    · exact ⟨(cell_keep (hNf _ (by show w.heap.size + 1 ≠ b'; omega))).trans s0, (cell_keep (hNf _ (by show w.heap.size + 1 ≠ b'; omega))).trans s1, (cell_keep (hNf _ (by show w.heap.size + 1 ≠ b'; omega))).trans s2, (cell_keep (hNf _ (by show w.heap.size + 1 ≠ b'; omega))).trans s3, (cell_keep (hNf _ (by show w.heap.size + 1 ≠ b'; omega))).trans s4, (cell_keep (hNf _ (by show w.heap.size + 1 ≠ b'; omega))).trans s5, (cell_keep (hNf _ (by show w.heap.size + 1 ≠ b'; omega))).trans s6, (cell_keep (hNf _ (by show w.heap.size + 1 ≠ b'; omega))).trans s7, (cell_keep (hNf _ (by show w.heap.size + 1 ≠ b'; omega))).trans s8, (cell_keep (hNf _ (by show w.heap.size + 1 ≠ b'; omega))).trans s9, (cell_keep (hNf _ (by show w.heap.size + 1 ≠ b'; omega))).trans s10⟩
    clear hK K
    (try simp only [Act.put, List.getElem_toArray, List.getElem_cons_succ, List.getElem_cons_zero, List.setIfInBounds_toArray, List.set_cons_zero, List.set_cons_succ])
    refine wpAnyH_done (by kernel_rfl) ?_ _
    obtain ⟨y, hy⟩ := put_some L _ s (.mk opz namez nz mz numsz fkz fiz ffz frz foz kidsz) HSM.out
    have hFb : ∀ q, fresh w5.drew wb q → w5.heap.size ≤ q ∧ q < wb.heap.size := fun q hq => ⟨hq.1, hq.2⟩
    have hFin : FCells wz (fun k => F k ∨ fresh w5.drew wb k) wq.heap.size 0 y.cells := by
      refine HU6.out wz (fresh w5.drew wb) _ y hy (fun k hk hk' => ?_) (fun c T hc => ?_) ?_ (fun k hk => ⟨fun h => by have := (hFb k hk).1; have := (hF1 k h).2; omega, by have := (hFb k hk).1; omega⟩)
      · rw [hNf k hk]
        refine hbb2.block k ?_
        rcases hk' with h | rfl
        · have := hF1 k h; omega
        · omega
      · rw [HM2.out] at hc
        cases hc
        exact ⟨_, hZf, h11.1, h11.2.1⟩
      · exact fcells_set HFX.out HMB.out h11.1 hm11 (BT.cells_len _) h11.2.2 (fun k hk => by have := (hFb k hk).1; omega) hZf hNf
    obtain ⟨rs, curB, TB, n1, n2, n3⟩ := fcells_vals hFin
    have hBz : Below w.heap.size w wz := ⟨hKf.os.trans (hbb2.os.trans HB5.out.os), hKf.tape.trans (hbb2.tape.trans HB5.out.tape), hKf.output.trans (hbb2.output.trans HB5.out.output), by omega, fun q hq => by rw [hNf q (by omega), hbb2.block q (by omega)]; exact HB5.out.block q hq⟩
    have hZz := (hNf (w.heap.size + 2) (by omega)).trans ((hbb2.block (w.heap.size + 2) (by omega)).trans HZ5.out)
    have HYP := Lib.hid hy
    have HN1 := Lib.hid n1
    have HZz := Lib.hid hZz
    have HBz := Lib.hid hBz
    obtain ⟨opy, namey, ny, my, numsy, fky, fiy, ffy, fry, foy, kidsy⟩ := y
    obtain ⟨b4, m4, e4, b10, m10, e10, rfl⟩ := fvals_tree n1
    rw [BT.cells_len] at n3
    have t0 : wz.cell? ⟨wq.heap.size, 0, none⟩ = some (.string opy) := by have := n3 0 (by decide); simp only [Nat.zero_add] at this; simp [World.cell?, n2, this]
    have t1 : wz.cell? ⟨wq.heap.size, 1, none⟩ = some (.string namey) := by have := n3 1 (by decide); simp only [Nat.zero_add] at this; simp [World.cell?, n2, this]
    have t2 : wz.cell? ⟨wq.heap.size, 2, none⟩ = some (.int .i64 ny) := by have := n3 2 (by decide); simp only [Nat.zero_add] at this; simp [World.cell?, n2, this]
    have t3 : wz.cell? ⟨wq.heap.size, 3, none⟩ = some (.int .i64 my) := by have := n3 3 (by decide); simp only [Nat.zero_add] at this; simp [World.cell?, n2, this]
    have t4 : wz.cell? ⟨wq.heap.size, 4, none⟩ = some (.slice b4 m4 e4) := by have := n3 4 (by decide); simp only [Nat.zero_add] at this; simp [World.cell?, n2, this]
    have t5 : wz.cell? ⟨wq.heap.size, 5, none⟩ = some (.string fky) := by have := n3 5 (by decide); simp only [Nat.zero_add] at this; simp [World.cell?, n2, this]
    have t6 : wz.cell? ⟨wq.heap.size, 6, none⟩ = some (.int .i64 fiy) := by have := n3 6 (by decide); simp only [Nat.zero_add] at this; simp [World.cell?, n2, this]
    have t7 : wz.cell? ⟨wq.heap.size, 7, none⟩ = some (.int .i64 ffy) := by have := n3 7 (by decide); simp only [Nat.zero_add] at this; simp [World.cell?, n2, this]
    have t8 : wz.cell? ⟨wq.heap.size, 8, none⟩ = some (.string fry) := by have := n3 8 (by decide); simp only [Nat.zero_add] at this; simp [World.cell?, n2, this]
    have t9 : wz.cell? ⟨wq.heap.size, 9, none⟩ = some (.string foy) := by have := n3 9 (by decide); simp only [Nat.zero_add] at this; simp [World.cell?, n2, this]
    have t10 : wz.cell? ⟨wq.heap.size, 10, none⟩ = some (.slice b10 m10 e10) := by have := n3 10 (by decide); simp only [Nat.zero_add] at this; simp [World.cell?, n2, this]
    have u0 : wz.cell? ⟨w.heap.size + 2, 0, none⟩ = some (.string ByteArray.empty) := by simp [World.cell?, hZz]
    have zu0 : wz.frozen? ⟨w.heap.size + 2, 0, none⟩ = false := by simp [World.frozen?, hZz]
    have u1 : wz.cell? ⟨w.heap.size + 2, 1, none⟩ = some (.string ByteArray.empty) := by simp [World.cell?, hZz]
    have zu1 : wz.frozen? ⟨w.heap.size + 2, 1, none⟩ = false := by simp [World.frozen?, hZz]
    have u2 : wz.cell? ⟨w.heap.size + 2, 2, none⟩ = some (.int .i64 0) := by simp [World.cell?, hZz]
    have zu2 : wz.frozen? ⟨w.heap.size + 2, 2, none⟩ = false := by simp [World.frozen?, hZz]
    have u3 : wz.cell? ⟨w.heap.size + 2, 3, none⟩ = some (.int .i64 0) := by simp [World.cell?, hZz]
    have zu3 : wz.frozen? ⟨w.heap.size + 2, 3, none⟩ = false := by simp [World.frozen?, hZz]
    have u4 : wz.cell? ⟨w.heap.size + 2, 4, none⟩ = some (.slice none 0 0) := by simp [World.cell?, hZz]
    have zu4 : wz.frozen? ⟨w.heap.size + 2, 4, none⟩ = false := by simp [World.frozen?, hZz]
    have u5 : wz.cell? ⟨w.heap.size + 2, 5, none⟩ = some (.string ByteArray.empty) := by simp [World.cell?, hZz]
    have zu5 : wz.frozen? ⟨w.heap.size + 2, 5, none⟩ = false := by simp [World.frozen?, hZz]
    have u6 : wz.cell? ⟨w.heap.size + 2, 6, none⟩ = some (.int .i64 0) := by simp [World.cell?, hZz]
    have zu6 : wz.frozen? ⟨w.heap.size + 2, 6, none⟩ = false := by simp [World.frozen?, hZz]
    have u7 : wz.cell? ⟨w.heap.size + 2, 7, none⟩ = some (.int .i64 0) := by simp [World.cell?, hZz]
    have zu7 : wz.frozen? ⟨w.heap.size + 2, 7, none⟩ = false := by simp [World.frozen?, hZz]
    have u8 : wz.cell? ⟨w.heap.size + 2, 8, none⟩ = some (.string ByteArray.empty) := by simp [World.cell?, hZz]
    have zu8 : wz.frozen? ⟨w.heap.size + 2, 8, none⟩ = false := by simp [World.frozen?, hZz]
    have u9 : wz.cell? ⟨w.heap.size + 2, 9, none⟩ = some (.string ByteArray.empty) := by simp [World.cell?, hZz]
    have zu9 : wz.frozen? ⟨w.heap.size + 2, 9, none⟩ = false := by simp [World.frozen?, hZz]
    have u10 : wz.cell? ⟨w.heap.size + 2, 10, none⟩ = some (.slice none 0 0) := by simp [World.cell?, hZz]
    have zu10 : wz.frozen? ⟨w.heap.size + 2, 10, none⟩ = false := by simp [World.frozen?, hZz]
    clear n1 n2 n3 hFin hy hHeld hH0 h11 hZf HU6 HM2 HMB HFX HL5 HL4 s0 q0 p0 r0 s1 q1 p1 r1 s2 q2 p2 r2 s3 q3 p3 r3 s4 q4 p4 r4 s5 q5 p5 r5 s6 q6 p6 r6 s7 q7 p7 r7 s8 q8 p8 r8 s9 q9 p9 r9 s10 q10 p10 r10
    go_wp2
    have hZf := heap_setCell_eq (o := 10) (v := .slice b10 m10 e10) (heap_setCell_eq (o := 9) (v := .string foy) (heap_setCell_eq (o := 8) (v := .string fry) (heap_setCell_eq (o := 7) (v := .int .i64 ffy) (heap_setCell_eq (o := 6) (v := .int .i64 fiy) (heap_setCell_eq (o := 5) (v := .string fky) (heap_setCell_eq (o := 4) (v := .slice b4 m4 e4) (heap_setCell_eq (o := 3) (v := .int .i64 my) (heap_setCell_eq (o := 2) (v := .int .i64 ny) (heap_setCell_eq (o := 1) (v := .string namey) (heap_setCell_eq (o := 0) (v := .string opy) (hZz)))))))))))
    simp only [List.setIfInBounds_toArray, List.set_cons_zero, List.set_cons_succ] at hZf
    have hNf : ∀ q, q ≠ w.heap.size + 2 → (((((((((((wz.setCell ⟨w.heap.size + 2, 0, none⟩ (.string opy)).setCell ⟨w.heap.size + 2, 1, none⟩ (.string namey)).setCell ⟨w.heap.size + 2, 2, none⟩ (.int .i64 ny)).setCell ⟨w.heap.size + 2, 3, none⟩ (.int .i64 my)).setCell ⟨w.heap.size + 2, 4, none⟩ (.slice b4 m4 e4)).setCell ⟨w.heap.size + 2, 5, none⟩ (.string fky)).setCell ⟨w.heap.size + 2, 6, none⟩ (.int .i64 fiy)).setCell ⟨w.heap.size + 2, 7, none⟩ (.int .i64 ffy)).setCell ⟨w.heap.size + 2, 8, none⟩ (.string fry)).setCell ⟨w.heap.size + 2, 9, none⟩ (.string foy)).setCell ⟨w.heap.size + 2, 10, none⟩ (.slice b10 m10 e10)).heap[q]? = wz.heap[q]? := fun q hq => by simp only [heap_setCell_ne _ _ _ _ hq]
    have hSf : (((((((((((wz.setCell ⟨w.heap.size + 2, 0, none⟩ (.string opy)).setCell ⟨w.heap.size + 2, 1, none⟩ (.string namey)).setCell ⟨w.heap.size + 2, 2, none⟩ (.int .i64 ny)).setCell ⟨w.heap.size + 2, 3, none⟩ (.int .i64 my)).setCell ⟨w.heap.size + 2, 4, none⟩ (.slice b4 m4 e4)).setCell ⟨w.heap.size + 2, 5, none⟩ (.string fky)).setCell ⟨w.heap.size + 2, 6, none⟩ (.int .i64 fiy)).setCell ⟨w.heap.size + 2, 7, none⟩ (.int .i64 ffy)).setCell ⟨w.heap.size + 2, 8, none⟩ (.string fry)).setCell ⟨w.heap.size + 2, 9, none⟩ (.string foy)).setCell ⟨w.heap.size + 2, 10, none⟩ (.slice b10 m10 e10)).heap.size = wz.heap.size := by simp only [size_setCell]
    have hBf := (Below.setCell (p := ⟨w.heap.size + 2, 10, none⟩) (Below.setCell (p := ⟨w.heap.size + 2, 9, none⟩) (Below.setCell (p := ⟨w.heap.size + 2, 8, none⟩) (Below.setCell (p := ⟨w.heap.size + 2, 7, none⟩) (Below.setCell (p := ⟨w.heap.size + 2, 6, none⟩) (Below.setCell (p := ⟨w.heap.size + 2, 5, none⟩) (Below.setCell (p := ⟨w.heap.size + 2, 4, none⟩) (Below.setCell (p := ⟨w.heap.size + 2, 3, none⟩) (Below.setCell (p := ⟨w.heap.size + 2, 2, none⟩) (Below.setCell (p := ⟨w.heap.size + 2, 1, none⟩) (Below.setCell (p := ⟨w.heap.size + 2, 0, none⟩) hBz (by first | exact Nat.le_succ _ | (show w.heap.size ≤ w.heap.size + 2; omega)) (.string opy)) (by first | exact Nat.le_succ _ | (show w.heap.size ≤ w.heap.size + 2; omega)) (.string namey)) (by first | exact Nat.le_succ _ | (show w.heap.size ≤ w.heap.size + 2; omega)) (.int .i64 ny)) (by first | exact Nat.le_succ _ | (show w.heap.size ≤ w.heap.size + 2; omega)) (.int .i64 my)) (by first | exact Nat.le_succ _ | (show w.heap.size ≤ w.heap.size + 2; omega)) (.slice b4 m4 e4)) (by first | exact Nat.le_succ _ | (show w.heap.size ≤ w.heap.size + 2; omega)) (.string fky)) (by first | exact Nat.le_succ _ | (show w.heap.size ≤ w.heap.size + 2; omega)) (.int .i64 fiy)) (by first | exact Nat.le_succ _ | (show w.heap.size ≤ w.heap.size + 2; omega)) (.int .i64 ffy)) (by first | exact Nat.le_succ _ | (show w.heap.size ≤ w.heap.size + 2; omega)) (.string fry)) (by first | exact Nat.le_succ _ | (show w.heap.size ≤ w.heap.size + 2; omega)) (.string foy)) (by first | exact Nat.le_succ _ | (show w.heap.size ≤ w.heap.size + 2; omega)) (.slice b10 m10 e10))
    generalize (((((((((((wz.setCell ⟨w.heap.size + 2, 0, none⟩ (.string opy)).setCell ⟨w.heap.size + 2, 1, none⟩ (.string namey)).setCell ⟨w.heap.size + 2, 2, none⟩ (.int .i64 ny)).setCell ⟨w.heap.size + 2, 3, none⟩ (.int .i64 my)).setCell ⟨w.heap.size + 2, 4, none⟩ (.slice b4 m4 e4)).setCell ⟨w.heap.size + 2, 5, none⟩ (.string fky)).setCell ⟨w.heap.size + 2, 6, none⟩ (.int .i64 fiy)).setCell ⟨w.heap.size + 2, 7, none⟩ (.int .i64 ffy)).setCell ⟨w.heap.size + 2, 8, none⟩ (.string fry)).setCell ⟨w.heap.size + 2, 9, none⟩ (.string foy)).setCell ⟨w.heap.size + 2, 10, none⟩ (.slice b10 m10 e10)) = wf at *
    have gZ0 : wf.cell? ⟨w.heap.size + 2, 0, none⟩ = some (.string opy) := by simp [World.cell?, hZf]
    have gZ1 : wf.cell? ⟨w.heap.size + 2, 1, none⟩ = some (.string namey) := by simp [World.cell?, hZf]
    have gZ2 : wf.cell? ⟨w.heap.size + 2, 2, none⟩ = some (.int .i64 ny) := by simp [World.cell?, hZf]
    have gZ3 : wf.cell? ⟨w.heap.size + 2, 3, none⟩ = some (.int .i64 my) := by simp [World.cell?, hZf]
    have gZ4 : wf.cell? ⟨w.heap.size + 2, 4, none⟩ = some (.slice b4 m4 e4) := by simp [World.cell?, hZf]
    have gZ5 : wf.cell? ⟨w.heap.size + 2, 5, none⟩ = some (.string fky) := by simp [World.cell?, hZf]
    have gZ6 : wf.cell? ⟨w.heap.size + 2, 6, none⟩ = some (.int .i64 fiy) := by simp [World.cell?, hZf]
    have gZ7 : wf.cell? ⟨w.heap.size + 2, 7, none⟩ = some (.int .i64 ffy) := by simp [World.cell?, hZf]
    have gZ8 : wf.cell? ⟨w.heap.size + 2, 8, none⟩ = some (.string fry) := by simp [World.cell?, hZf]
    have gZ9 : wf.cell? ⟨w.heap.size + 2, 9, none⟩ = some (.string foy) := by simp [World.cell?, hZf]
    have gZ10 : wf.cell? ⟨w.heap.size + 2, 10, none⟩ = some (.slice b10 m10 e10) := by simp [World.cell?, hZf]
    refine bodyPost_ret (v := .tuple #[.agg [.string opy, .string namey, .int .i64 ny, .int .i64 my, .slice b4 m4 e4, .string fky, .int .i64 fiy, .int .i64 ffy, .string fry, .string foy, .slice b10 m10 e10].toArray, .int .i64 0]) (by simp [results, Try.results10, go_sem, gZ0, gZ1, gZ2, gZ3, gZ4, gZ5, gZ6, gZ7, gZ8, gZ9, gZ10]) rfl ⟨_, _, (.mk opy namey ny my numsy fky fiy ffy fry foy kidsy), rfl, hBf, ?_, .inl ⟨HYP.out, rfl⟩⟩
    obtain ⟨c1, G, c2, c3, c4⟩ := HN1.out
    have hin : ∀ q, (F q ∨ fresh w5.drew wb q) → w.heap.size + 3 ≤ q ∧ q < wb.heap.size := fun q hq => by
      rcases hq with h | h
      · have := hF1 q h; omega
      · have := hFb q h; omega
    refine ⟨c1, fun i d v e1 e2 => ?_⟩
    exact ((c2 i d v e1 e2).keep (fun _ h => h) (fun q hq => hNf q (by have := hin q (c3 i q hq); omega))).drep (fun q hq => .inr ⟨by have := hin q (c3 i q hq); omega, by have := hin q (c3 i q hq); omega⟩)
end Go.Proofs.Ytdfhakhapblhgaa
