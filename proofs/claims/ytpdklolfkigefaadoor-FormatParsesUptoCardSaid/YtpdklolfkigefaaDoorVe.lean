/-
  Formats: what a fraction comes to in a fix that wraps; any fix: what the calls give.
-/
import Derived.Test.YtpdklolfkigefaaDoorVd
import Derived.Deep.DeepCutAuto
set_option linter.all false
namespace Go.Proofs.YtpdklolfkigefaaDoor
open Go.RowKit
set_option maxRecDepth 100000 in
set_option maxHeartbeats 8000000 in
theorem fw_in (k o : ByteArray) (m I F : Nat) (hm : m ≤ 2) (h : I + F ≤ 30) (n d : Int) (hn : -2305843009213693952 ≤ n ∧ n ≤ 2305843009213693952) (hd : 1 ≤ d ∧ d ≤ 1152921504606846976) (K H Y : Int) (hK : Hid (Z.rndE m n d (F : Int) = K)) (hH : Hid ((2 : Int) ^ (I + F) = H)) (KB : -4294967296 ≤ K ∧ K ≤ 4294967296) (hY : Hid ((K + H) % (2 * H) = Y)) (YB : 0 ≤ Y ∧ Y < 2 * H) (hk1 : Hid ((n.natAbs : Int) * 2 ^ (F : Int).toNat ≤ 2305843009213693952 * (d * 2 ^ (-(F : Int)).toNat))) (hv : Hid (Z.vld k (rnm m) o (I : Int) (F : Int) = true)) (ho : (o.toList == [119, 114, 97, 112]) = true) (hb : Hid (Z.below n d ((I : Int) + 1) = true)) (w : World) :
    Calls Tryd.prog 49 #[.agg #[.string k, .int .i64 (I : Int), .int .i64 (F : Int), .string (rnm m), .string o], .agg #[.int .i64 n, .int .i64 d]] w fun e w' => e = .returned (.agg #[.int .i64 (Q.mk (Y - H) (2 ^ F)).1, .int .i64 (Q.mk (Y - H) (2 ^ F)).2]) ∧ Below w.heap.size w w' := by
  have hB := pb_of h
  have B1 := hB.h
  have B2 := hB.i
  have B3 := hB.f
  clear hB
  have y1 : IntKind.i64.wrap ((I : Int) + 1) = (I : Int) + 1 := Z.i64_in _ (by omega)
  rw [hH.out] at B1
  have z1 : d * 2 ^ (-(F : Int)).toNat = d := by rw [show (-(F : Int)).toNat = 0 by omega, Int.pow_zero, Int.mul_one]
  have Z1 := Lib.hid z1
  clear z1
  have y2 : IntKind.i64.wrap (-H) = -H := Z.i64_in _ (by omega)
  obtain ⟨a, b, hr⟩ : ∃ a b, Hid (Q.mk (Y - H) (2 ^ F) = (a, b)) := ⟨_, _, rfl⟩
  rw [hr.out]
  have y3 : IntKind.i64.wrap (K + H) = K + H := Z.i64_in _ (by omega)
  have y4 : IntKind.i64.wrap (2 * H) = 2 * H := Z.i64_in _ (by omega)
  have y5 : IntKind.i64.wrap (2 * H - 1) = 2 * H - 1 := Z.i64_in _ (by omega)
  have y6 : bits .and .i64 (K + H) (2 * H - 1) = Y := by
    have e : 2 * H = 2 ^ (I + F + 1) := by rw [Int.pow_succ, hH.out, Int.mul_comm]
    rw [e, i64_mask _ _ (by omega), ← e]; exact hY.out
  have y7 : IntKind.i64.wrap (Y - H) = Y - H := Z.i64_in _ (by omega)
  have g1 : decide (Y - H < -H) = false := decide_eq_false (by omega)
  have g2 : decide (H ≤ Y - H) = false := decide_eq_false (by omega)
  go_enter Tryd.func49, Tryd.ntmps49
  go_wp2_with fail
  refine (isbelow_any _ _ _ (by omega) (by omega) (by omega) _).mono ?_
  rintro e w1 ⟨rfl, hw1⟩
  have hmw1 : Below w.heap.size w w1 := on_below hw1 (by repeat' (first | (with_reducible exact Below.refl _ _) | (with_reducible assumption) | (with_reducible refine drewN_below ?_ _) | (with_reducible refine Below.drew ?_) | (with_reducible refine Below.alloc ?_ ?_ _) | (with_reducible refine Below.setCell ?_ ?_ _) | (simp; done) | omega | (simp; omega))) (by first | (with_reducible assumption) | (simp; done) | omega | (simp; omega))
  have cG0w1 : w1.cell? ⟨w.heap.size, 0, none⟩ = some (.string k) := by rw [hw1.cell (p := ⟨w.heap.size, 0, none⟩) (by first | (with_reducible assumption) | (simp; done) | omega | (simp; omega))]; simp [go_sem]
  have cG1w1 : w1.cell? ⟨w.heap.size, 1, none⟩ = some (.int .i64 (I : Int)) := by rw [hw1.cell (p := ⟨w.heap.size, 1, none⟩) (by first | (with_reducible assumption) | (simp; done) | omega | (simp; omega))]; simp [go_sem]
  have cG2w1 : w1.cell? ⟨w.heap.size, 2, none⟩ = some (.int .i64 (F : Int)) := by rw [hw1.cell (p := ⟨w.heap.size, 2, none⟩) (by first | (with_reducible assumption) | (simp; done) | omega | (simp; omega))]; simp [go_sem]
  have cG3w1 : w1.cell? ⟨w.heap.size, 3, none⟩ = some (.string (rnm m)) := by rw [hw1.cell (p := ⟨w.heap.size, 3, none⟩) (by first | (with_reducible assumption) | (simp; done) | omega | (simp; omega))]; simp [go_sem]
  have cG4w1 : w1.cell? ⟨w.heap.size, 4, none⟩ = some (.string o) := by rw [hw1.cell (p := ⟨w.heap.size, 4, none⟩) (by first | (with_reducible assumption) | (simp; done) | omega | (simp; omega))]; simp [go_sem]
  have bGw1 : w.heap.size < w1.heap.size := by have := hw1.size; first | omega | (simp at this; omega)
  have dGw1 : w.heap.size < w1.heap.size + 1 := Nat.lt_succ_of_lt bGw1
  have cV0w1 : w1.cell? ⟨w.heap.size + 1, 0, none⟩ = some (.int .i64 n) := by rw [hw1.cell (p := ⟨w.heap.size + 1, 0, none⟩) (by first | (with_reducible assumption) | (simp; done) | omega | (simp; omega))]; simp [go_sem]
  have cV1w1 : w1.cell? ⟨w.heap.size + 1, 1, none⟩ = some (.int .i64 d) := by rw [hw1.cell (p := ⟨w.heap.size + 1, 1, none⟩) (by first | (with_reducible assumption) | (simp; done) | omega | (simp; omega))]; simp [go_sem]
  have zV0w1 : w1.frozen? ⟨w.heap.size + 1, 0, none⟩ = false := by rw [hw1.frozen (p := ⟨w.heap.size + 1, 0, none⟩) (by first | (with_reducible assumption) | (simp; done) | omega | (simp; omega))]; simp [go_sem]
  have zV1w1 : w1.frozen? ⟨w.heap.size + 1, 1, none⟩ = false := by rw [hw1.frozen (p := ⟨w.heap.size + 1, 1, none⟩) (by first | (with_reducible assumption) | (simp; done) | omega | (simp; omega))]; simp [go_sem]
  have bVw1 : w.heap.size + 1 < w1.heap.size := by have := hw1.size; first | omega | (simp at this; omega)
  have dVw1 : w.heap.size + 1 < w1.heap.size + 1 := Nat.lt_succ_of_lt bVw1
  have cR0w1 : w1.cell? ⟨w.heap.size + 2, 0, none⟩ = some (.int .i64 0) := by rw [hw1.cell (p := ⟨w.heap.size + 2, 0, none⟩) (by first | (with_reducible assumption) | (simp; done) | omega | (simp; omega))]; simp [go_sem]
  have cR1w1 : w1.cell? ⟨w.heap.size + 2, 1, none⟩ = some (.int .i64 0) := by rw [hw1.cell (p := ⟨w.heap.size + 2, 1, none⟩) (by first | (with_reducible assumption) | (simp; done) | omega | (simp; omega))]; simp [go_sem]
  have zR0w1 : w1.frozen? ⟨w.heap.size + 2, 0, none⟩ = false := by rw [hw1.frozen (p := ⟨w.heap.size + 2, 0, none⟩) (by first | (with_reducible assumption) | (simp; done) | omega | (simp; omega))]; simp [go_sem]
  have zR1w1 : w1.frozen? ⟨w.heap.size + 2, 1, none⟩ = false := by rw [hw1.frozen (p := ⟨w.heap.size + 2, 1, none⟩) (by first | (with_reducible assumption) | (simp; done) | omega | (simp; omega))]; simp [go_sem]
  have bRw1 : w.heap.size + 2 < w1.heap.size := by have := hw1.size; first | omega | (simp at this; omega)
  have dRw1 : w.heap.size + 2 < w1.heap.size + 1 := Nat.lt_succ_of_lt bRw1
  have hBw1 : Below w.heap.size w w1 := hmw1
  have zw1 : w.heap.size ≤ w1.heap.size := hBw1.size
  clear hmw1 hw1
  rw [hb.out]
  go_wp2_with fail
  refine (rounded_any m hm _ _ _ (by omega) (by omega) (by omega) hk1.out (by rw [Z1.out]; omega) _).mono ?_
  rintro e w2 ⟨rfl, hw2⟩
  have hmw2 : Below w1.heap.size w1 w2 := on_below hw2 (by repeat' (first | (with_reducible exact Below.refl _ _) | (with_reducible assumption) | (with_reducible refine drewN_below ?_ _) | (with_reducible refine Below.drew ?_) | (with_reducible refine Below.alloc ?_ ?_ _) | (with_reducible refine Below.setCell ?_ ?_ _) | (simp; done) | omega | (simp; omega))) (by first | (with_reducible assumption) | (simp; done) | omega | (simp; omega))
  have cG0w2 := (hmw2.cell (p := ⟨w.heap.size, 0, none⟩) bGw1).trans cG0w1
  have cG1w2 := (hmw2.cell (p := ⟨w.heap.size, 1, none⟩) bGw1).trans cG1w1
  have cG2w2 := (hmw2.cell (p := ⟨w.heap.size, 2, none⟩) bGw1).trans cG2w1
  have cG3w2 := (hmw2.cell (p := ⟨w.heap.size, 3, none⟩) bGw1).trans cG3w1
  have cG4w2 := (hmw2.cell (p := ⟨w.heap.size, 4, none⟩) bGw1).trans cG4w1
  have bGw2 : w.heap.size < w2.heap.size := Nat.lt_of_lt_of_le bGw1 hmw2.size
  have dGw2 : w.heap.size < w2.heap.size + 1 := Nat.lt_succ_of_lt bGw2
  have cV0w2 := (hmw2.cell (p := ⟨w.heap.size + 1, 0, none⟩) bVw1).trans cV0w1
  have cV1w2 := (hmw2.cell (p := ⟨w.heap.size + 1, 1, none⟩) bVw1).trans cV1w1
  have zV0w2 := (hmw2.frozen (p := ⟨w.heap.size + 1, 0, none⟩) bVw1).trans zV0w1
  have zV1w2 := (hmw2.frozen (p := ⟨w.heap.size + 1, 1, none⟩) bVw1).trans zV1w1
  have bVw2 : w.heap.size + 1 < w2.heap.size := Nat.lt_of_lt_of_le bVw1 hmw2.size
  have dVw2 : w.heap.size + 1 < w2.heap.size + 1 := Nat.lt_succ_of_lt bVw2
  have cR0w2 := (hmw2.cell (p := ⟨w.heap.size + 2, 0, none⟩) bRw1).trans cR0w1
  have cR1w2 := (hmw2.cell (p := ⟨w.heap.size + 2, 1, none⟩) bRw1).trans cR1w1
  have zR0w2 := (hmw2.frozen (p := ⟨w.heap.size + 2, 0, none⟩) bRw1).trans zR0w1
  have zR1w2 := (hmw2.frozen (p := ⟨w.heap.size + 2, 1, none⟩) bRw1).trans zR1w1
  have bRw2 : w.heap.size + 2 < w2.heap.size := Nat.lt_of_lt_of_le bRw1 hmw2.size
  have dRw2 : w.heap.size + 2 < w2.heap.size + 1 := Nat.lt_succ_of_lt bRw2
  have hBw2 : Below w.heap.size w w2 := Below.trans hBw1 (hmw2.mono hBw1.size)
  have zw2 : w.heap.size ≤ w2.heap.size := hBw2.size
  clear hmw2 hw2 zw1 hBw1 dRw1 bRw1 zR1w1 zR0w1 cR1w1 cR0w1 dVw1 bVw1 zV1w1 zV0w1 cV1w1 cV0w1 dGw1 bGw1 cG4w1 cG3w1 cG2w1 cG1w1 cG0w1
  rw [hK.out]
  go_wp2_with fail
  have xG : w.heap.size < w2.heap.size := by omega
  have xV : w.heap.size + 1 < w2.heap.size := by omega
  have xR : w.heap.size + 2 < w2.heap.size := by omega
  refine wp_region_held_drew (S := (fun w' => w'.cell? ⟨w.heap.size, 0, none⟩ = some (.string k) ∧ w'.cell? ⟨w.heap.size, 1, none⟩ = some (.int .i64 (I : Int)) ∧ w'.cell? ⟨w.heap.size, 2, none⟩ = some (.int .i64 (F : Int)) ∧ w'.cell? ⟨w.heap.size, 3, none⟩ = some (.string (rnm m)) ∧ w'.cell? ⟨w.heap.size, 4, none⟩ = some (.string o) ∧ w'.cell? ⟨w.heap.size + 1, 0, none⟩ = some (.int .i64 n) ∧ w'.cell? ⟨w.heap.size + 1, 1, none⟩ = some (.int .i64 d) ∧ w'.frozen? ⟨w.heap.size + 1, 0, none⟩ = false ∧ w'.frozen? ⟨w.heap.size + 1, 1, none⟩ = false ∧ w'.cell? ⟨w.heap.size + 2, 0, none⟩ = some (.int .i64 0) ∧ w'.cell? ⟨w.heap.size + 2, 1, none⟩ = some (.int .i64 0) ∧ w'.frozen? ⟨w.heap.size + 2, 0, none⟩ = false ∧ w'.frozen? ⟨w.heap.size + 2, 1, none⟩ = false ∧ w2.heap.size ≤ w'.heap.size ∧ Below w2.heap.size w2 w')) (by kernel_rfl) ?_ ?_
  · (refine ⟨?_, ?_, ?_, ?_, ?_, ?_, ?_, ?_, ?_, ?_, ?_, ?_, ?_, ?_, ?_⟩ <;> first | assumption | ((repeat' (first | (with_reducible exact Below.refl _ _) | (with_reducible assumption) | (with_reducible refine drewN_below ?_ _) | (with_reducible refine Below.drew ?_) | (with_reducible refine Below.alloc ?_ ?_ _) | (with_reducible refine Below.setCell ?_ ?_ _) | (simp; done) | omega | (simp; omega))); done) | (simp [*]; done) | (simp [go_sem, *]; done) | (simp; omega))
  intro hH0
  refine wpAnyH_take (i := 0) (v := ?_) rfl (by kernel_rfl) (by kernel_rfl) (by kernel_rfl) (fun _ _ _ h => h) (Or.inl ⟨by rfl, ?_⟩) (by assumption) ?_
  rotate_left
  focus (intro wq hSq; (try dsimp only at hSq); go_simp; first | done | (with_reducible rfl))
  (try simp only [Act.put, List.getElem_toArray, List.getElem_cons_zero, List.setIfInBounds_toArray, List.set_cons_zero, List.set_cons_succ])
  refine wpAnyH_take (i := 1) (v := ?_) rfl (by kernel_rfl) (by kernel_rfl) (by kernel_rfl) (fun _ _ _ h => h) (Or.inl ⟨by rfl, ?_⟩) (by assumption) ?_
  rotate_left
  focus (intro wq hSq; (try dsimp only at hSq); go_simp; first | done | (with_reducible rfl))
  (try simp only [Act.put, List.getElem_toArray, List.getElem_cons_succ, List.getElem_cons_zero, List.setIfInBounds_toArray, List.set_cons_zero, List.set_cons_succ])
  refine wpAnyH_take (i := 4) (v := ?_) rfl (by kernel_rfl) (by kernel_rfl) (by kernel_rfl) (fun _ _ _ h => h) (Or.inl ⟨by rfl, ?_⟩) (by assumption) ?_
  rotate_left
  focus (intro wq hSq; (try dsimp only at hSq); go_simp; first | done | (with_reducible rfl))
  (try simp only [Act.put, List.getElem_toArray, List.getElem_cons_succ, List.getElem_cons_zero, List.setIfInBounds_toArray, List.set_cons_zero, List.set_cons_succ])
  refine wpAnyH_take (i := 9) (v := ?_) rfl (by kernel_rfl) (by kernel_rfl) (by kernel_rfl) (fun _ _ _ h => h) (Or.inl ⟨by rfl, ?_⟩) (by assumption) ?_
  rotate_left
  focus (intro wq hSq; (try dsimp only at hSq); go_simp; first | done | (with_reducible rfl))
  (try simp only [Act.put, List.getElem_toArray, List.getElem_cons_succ, List.getElem_cons_zero, List.setIfInBounds_toArray, List.set_cons_zero, List.set_cons_succ])
  refine wpAnyH_ready (rs := [2]) (by kernel_rfl) (by simp) ?_
  refine AllReadyH.cons rfl (fun K hK => ?_) AllReadyH.nil
  rw [if_pos (by rfl)]
  go_simp
  refine (half_any _ _ _ _ _ h _).mono ?_
  rintro e wr ⟨rfl, hbr⟩
  obtain ⟨hcr, hfr, hzr, hBr⟩ := after (a := w2) (B := w2.heap.size) (w2.heap.size) hbr (by first | (with_reducible assumption) | (simp; done) | omega | (simp; omega)) (by repeat' (first | (with_reducible exact Below.refl _ _) | (with_reducible assumption) | (with_reducible refine drewN_below ?_ _) | (with_reducible refine Below.drew ?_) | (with_reducible refine Below.alloc ?_ ?_ _) | (with_reducible refine Below.setCell ?_ ?_ _) | (simp; done) | omega | (simp; omega))) (by omega)
  have yG := Nat.lt_of_lt_of_le xG hzr
  have yV := Nat.lt_of_lt_of_le xV hzr
  have yR := Nat.lt_of_lt_of_le xR hzr
  rw [hH.out]
  dsimp only
  refine hK.out _ _ ?_ (fun hHeld => ?_)
  · (refine ⟨?_, ?_, ?_, ?_, ?_, ?_, ?_, ?_, ?_, ?_, ?_, ?_, ?_, ?_, ?_⟩ <;> first | assumption | ((repeat' (first | (with_reducible exact Below.refl _ _) | (with_reducible assumption) | (with_reducible refine drewN_below ?_ _) | (with_reducible refine Below.drew ?_) | (with_reducible refine Below.alloc ?_ ?_ _) | (with_reducible refine Below.setCell ?_ ?_ _) | (simp; done) | omega | (simp; omega))); done) | (simp [*]; done) | (simp [go_sem, *]; done) | (simp; omega))
  clear hK K
  (try simp only [Act.put, List.getElem_toArray, List.getElem_cons_succ, List.getElem_cons_zero, List.setIfInBounds_toArray, List.set_cons_zero, List.set_cons_succ])
  refine wpAnyH_take (i := 3) (v := ?_) rfl (by kernel_rfl) (by kernel_rfl) (by kernel_rfl) (fun _ _ _ h => h) (Or.inl ⟨by rfl, ?_⟩) (by assumption) ?_
  rotate_left
  focus (intro wq hSq; (try dsimp only at hSq); go_simp; first | done | (with_reducible rfl))
  (try simp only [Act.put, List.getElem_toArray, List.getElem_cons_succ, List.getElem_cons_zero, List.setIfInBounds_toArray, List.set_cons_zero, List.set_cons_succ])
  refine wpAnyH_ready (rs := [5]) (by kernel_rfl) (by simp) ?_
  refine AllReadyH.cons rfl (fun K hK => ?_) AllReadyH.nil
  rw [if_pos (by rfl)]
  go_simp
  refine (half_any _ _ _ _ _ h _).mono ?_
  rintro e wr ⟨rfl, hbr⟩
  obtain ⟨hcr, hfr, hzr, hBr⟩ := after (a := w2) (B := w2.heap.size) (w2.heap.size) hbr (by first | (with_reducible assumption) | (simp; done) | omega | (simp; omega)) (by repeat' (first | (with_reducible exact Below.refl _ _) | (with_reducible assumption) | (with_reducible refine drewN_below ?_ _) | (with_reducible refine Below.drew ?_) | (with_reducible refine Below.alloc ?_ ?_ _) | (with_reducible refine Below.setCell ?_ ?_ _) | (simp; done) | omega | (simp; omega))) (by omega)
  have yG := Nat.lt_of_lt_of_le xG hzr
  have yV := Nat.lt_of_lt_of_le xV hzr
  have yR := Nat.lt_of_lt_of_le xR hzr
  rw [hH.out]
  dsimp only
  refine hK.out _ _ ?_ (fun hHeld => ?_)
  · (refine ⟨?_, ?_, ?_, ?_, ?_, ?_, ?_, ?_, ?_, ?_, ?_, ?_, ?_, ?_, ?_⟩ <;> first | assumption | ((repeat' (first | (with_reducible exact Below.refl _ _) | (with_reducible assumption) | (with_reducible refine drewN_below ?_ _) | (with_reducible refine Below.drew ?_) | (with_reducible refine Below.alloc ?_ ?_ _) | (with_reducible refine Below.setCell ?_ ?_ _) | (simp; done) | omega | (simp; omega))); done) | (simp [*]; done) | (simp [go_sem, *]; done) | (simp; omega))
  clear hK K
  (try simp only [Act.put, List.getElem_toArray, List.getElem_cons_succ, List.getElem_cons_zero, List.setIfInBounds_toArray, List.set_cons_zero, List.set_cons_succ])
  refine wpAnyH_take (i := 6) (v := ?_) rfl (by kernel_rfl) (by kernel_rfl) (by kernel_rfl) (fun _ _ _ h => h) (Or.inl ⟨by rfl, ?_⟩) (by assumption) ?_
  rotate_left
  focus (intro wq hSq; (try dsimp only at hSq); go_simp; first | done | (with_reducible rfl))
  (try simp only [Act.put, List.getElem_toArray, List.getElem_cons_succ, List.getElem_cons_zero, List.setIfInBounds_toArray, List.set_cons_zero, List.set_cons_succ])
  refine wpAnyH_take (i := 7) (v := ?_) rfl (by kernel_rfl) (by kernel_rfl) (by kernel_rfl) (fun _ _ _ h => h) (Or.inl ⟨by rfl, ?_⟩) (by assumption) ?_
  rotate_left
  focus (intro wq hSq; (try dsimp only at hSq); go_simp; first | done | (with_reducible rfl))
  (try simp only [Act.put, List.getElem_toArray, List.getElem_cons_succ, List.getElem_cons_zero, List.setIfInBounds_toArray, List.set_cons_zero, List.set_cons_succ])
  refine wpAnyH_take (i := 8) (v := ?_) rfl (by kernel_rfl) (by kernel_rfl) (by kernel_rfl) (fun _ _ _ h => h) (Or.inl ⟨by rfl, ?_⟩) (by assumption) ?_
  rotate_left
  focus (intro wq hSq; (try dsimp only at hSq); go_simp; first | done | (with_reducible rfl))
  (try simp only [Act.put, List.getElem_toArray, List.getElem_cons_succ, List.getElem_cons_zero, List.setIfInBounds_toArray, List.set_cons_zero, List.set_cons_succ])
  refine wpAnyH_ready (rs := [10]) (by kernel_rfl) (by simp) ?_
  refine AllReadyH.cons rfl (fun K hK => ?_) AllReadyH.nil
  rw [if_pos (by rfl)]
  go_simp
  refine (half_any _ _ _ _ _ h _).mono ?_
  rintro e wr ⟨rfl, hbr⟩
  obtain ⟨hcr, hfr, hzr, hBr⟩ := after (a := w2) (B := w2.heap.size) (w2.heap.size) hbr (by first | (with_reducible assumption) | (simp; done) | omega | (simp; omega)) (by repeat' (first | (with_reducible exact Below.refl _ _) | (with_reducible assumption) | (with_reducible refine drewN_below ?_ _) | (with_reducible refine Below.drew ?_) | (with_reducible refine Below.alloc ?_ ?_ _) | (with_reducible refine Below.setCell ?_ ?_ _) | (simp; done) | omega | (simp; omega))) (by omega)
  have yG := Nat.lt_of_lt_of_le xG hzr
  have yV := Nat.lt_of_lt_of_le xV hzr
  have yR := Nat.lt_of_lt_of_le xR hzr
  rw [hH.out]
  dsimp only
  refine hK.out _ _ ?_ (fun hHeld => ?_)
  · (refine ⟨?_, ?_, ?_, ?_, ?_, ?_, ?_, ?_, ?_, ?_, ?_, ?_, ?_, ?_, ?_⟩ <;> first | assumption | ((repeat' (first | (with_reducible exact Below.refl _ _) | (with_reducible assumption) | (with_reducible refine drewN_below ?_ _) | (with_reducible refine Below.drew ?_) | (with_reducible refine Below.alloc ?_ ?_ _) | (with_reducible refine Below.setCell ?_ ?_ _) | (simp; done) | omega | (simp; omega))); done) | (simp [*]; done) | (simp [go_sem, *]; done) | (simp; omega))
  clear hK K
  (try simp only [Act.put, List.getElem_toArray, List.getElem_cons_succ, List.getElem_cons_zero, List.setIfInBounds_toArray, List.set_cons_zero, List.set_cons_succ])
  refine wpAnyH_take (i := 11) (v := ?_) rfl (by kernel_rfl) (by kernel_rfl) (by kernel_rfl) (fun _ _ _ h => h) (Or.inl ⟨by rfl, ?_⟩) (by assumption) ?_
  rotate_left
  focus (intro wq hSq; (try dsimp only at hSq); go_simp; first | done | (with_reducible rfl))
  (try simp only [Act.put, List.getElem_toArray, List.getElem_cons_succ, List.getElem_cons_zero, List.setIfInBounds_toArray, List.set_cons_zero, List.set_cons_succ])
  refine wpAnyH_take (i := 12) (v := ?_) rfl (by kernel_rfl) (by kernel_rfl) (by kernel_rfl) (fun _ _ _ h => h) (Or.inl ⟨by rfl, ?_⟩) (by assumption) ?_
  rotate_left
  focus (intro wq hSq; (try dsimp only at hSq); go_simp; first | done | (with_reducible rfl))
  (try simp only [Act.put, List.getElem_toArray, List.getElem_cons_succ, List.getElem_cons_zero, List.setIfInBounds_toArray, List.set_cons_zero, List.set_cons_succ])
  refine wpAnyH_done (by kernel_rfl) ?_ _
  obtain ⟨s0, s1, s2, s3, s4, s5, s6, s7, s8, s9, s10, s11, s12, s13, s14⟩ := (by assumption : wr.cell? ⟨w.heap.size, 0, none⟩ = some (.string k) ∧ wr.cell? ⟨w.heap.size, 1, none⟩ = some (.int .i64 (I : Int)) ∧ wr.cell? ⟨w.heap.size, 2, none⟩ = some (.int .i64 (F : Int)) ∧ wr.cell? ⟨w.heap.size, 3, none⟩ = some (.string (rnm m)) ∧ wr.cell? ⟨w.heap.size, 4, none⟩ = some (.string o) ∧ wr.cell? ⟨w.heap.size + 1, 0, none⟩ = some (.int .i64 n) ∧ wr.cell? ⟨w.heap.size + 1, 1, none⟩ = some (.int .i64 d) ∧ wr.frozen? ⟨w.heap.size + 1, 0, none⟩ = false ∧ wr.frozen? ⟨w.heap.size + 1, 1, none⟩ = false ∧ wr.cell? ⟨w.heap.size + 2, 0, none⟩ = some (.int .i64 0) ∧ wr.cell? ⟨w.heap.size + 2, 1, none⟩ = some (.int .i64 0) ∧ wr.frozen? ⟨w.heap.size + 2, 0, none⟩ = false ∧ wr.frozen? ⟨w.heap.size + 2, 1, none⟩ = false ∧ w2.heap.size ≤ wr.heap.size ∧ Below w2.heap.size w2 wr)
  have cG0w3 := s0
  have cG1w3 := s1
  have cG2w3 := s2
  have cG3w3 := s3
  have cG4w3 := s4
  have cV0w3 := s5
  have cV1w3 := s6
  have zV0w3 := s7
  have zV1w3 := s8
  have cR0w3 := s9
  have cR1w3 := s10
  have zR0w3 := s11
  have zR1w3 := s12
  have bGw3 : w.heap.size < wr.heap.size := Nat.lt_of_lt_of_le xG s13
  have dGw3 : w.heap.size < wr.heap.size + 1 := Nat.lt_succ_of_lt bGw3
  have bVw3 : w.heap.size + 1 < wr.heap.size := Nat.lt_of_lt_of_le xV s13
  have dVw3 : w.heap.size + 1 < wr.heap.size + 1 := Nat.lt_succ_of_lt bVw3
  have bRw3 : w.heap.size + 2 < wr.heap.size := Nat.lt_of_lt_of_le xR s13
  have dRw3 : w.heap.size + 2 < wr.heap.size + 1 := Nat.lt_succ_of_lt bRw3
  have hBw3 : Below w.heap.size w wr := Below.trans hBw2 (s14.mono hBw2.size)
  have zw3 : w.heap.size ≤ wr.heap.size := hBw3.size
  clear s0 s1 s2 s3 s4 s5 s6 s7 s8 s9 s10 s11 s12 s13 s14 xG xV xR hcr hfr hzr hBr hbr zw2 hBw2 dRw2 bRw2 zR1w2 zR0w2 cR1w2 cR0w2 dVw2 bVw2 zV1w2 zV0w2 cV1w2 cV0w2 dGw2 bGw2 cG4w2 cG3w2 cG2w2 cG1w2 cG0w2
  repeat (clear hcr hfr hzr hBr hbr)
  skip
  obtain ⟨w3, ew3⟩ : ∃ x, x = wr := ⟨_, rfl⟩
  subst ew3
  go_wp2_with fail
  refine (half_any _ _ _ _ _ h _).mono ?_
  rintro e w4 ⟨rfl, hw4⟩
  have hmw4 : Below w3.heap.size w3 w4 := on_below hw4 (by repeat' (first | (with_reducible exact Below.refl _ _) | (with_reducible assumption) | (with_reducible refine drewN_below ?_ _) | (with_reducible refine Below.drew ?_) | (with_reducible refine Below.alloc ?_ ?_ _) | (with_reducible refine Below.setCell ?_ ?_ _) | (simp; done) | omega | (simp; omega))) (by first | (with_reducible assumption) | (simp; done) | omega | (simp; omega))
  have cG0w4 := (hmw4.cell (p := ⟨w.heap.size, 0, none⟩) bGw3).trans cG0w3
  have cG1w4 := (hmw4.cell (p := ⟨w.heap.size, 1, none⟩) bGw3).trans cG1w3
  have cG2w4 := (hmw4.cell (p := ⟨w.heap.size, 2, none⟩) bGw3).trans cG2w3
  have cG3w4 := (hmw4.cell (p := ⟨w.heap.size, 3, none⟩) bGw3).trans cG3w3
  have cG4w4 := (hmw4.cell (p := ⟨w.heap.size, 4, none⟩) bGw3).trans cG4w3
  have bGw4 : w.heap.size < w4.heap.size := Nat.lt_of_lt_of_le bGw3 hmw4.size
  have dGw4 : w.heap.size < w4.heap.size + 1 := Nat.lt_succ_of_lt bGw4
  have cV0w4 := (hmw4.cell (p := ⟨w.heap.size + 1, 0, none⟩) bVw3).trans cV0w3
  have cV1w4 := (hmw4.cell (p := ⟨w.heap.size + 1, 1, none⟩) bVw3).trans cV1w3
  have zV0w4 := (hmw4.frozen (p := ⟨w.heap.size + 1, 0, none⟩) bVw3).trans zV0w3
  have zV1w4 := (hmw4.frozen (p := ⟨w.heap.size + 1, 1, none⟩) bVw3).trans zV1w3
  have bVw4 : w.heap.size + 1 < w4.heap.size := Nat.lt_of_lt_of_le bVw3 hmw4.size
  have dVw4 : w.heap.size + 1 < w4.heap.size + 1 := Nat.lt_succ_of_lt bVw4
  have cR0w4 := (hmw4.cell (p := ⟨w.heap.size + 2, 0, none⟩) bRw3).trans cR0w3
  have cR1w4 := (hmw4.cell (p := ⟨w.heap.size + 2, 1, none⟩) bRw3).trans cR1w3
  have zR0w4 := (hmw4.frozen (p := ⟨w.heap.size + 2, 0, none⟩) bRw3).trans zR0w3
  have zR1w4 := (hmw4.frozen (p := ⟨w.heap.size + 2, 1, none⟩) bRw3).trans zR1w3
  have bRw4 : w.heap.size + 2 < w4.heap.size := Nat.lt_of_lt_of_le bRw3 hmw4.size
  have dRw4 : w.heap.size + 2 < w4.heap.size + 1 := Nat.lt_succ_of_lt bRw4
  have hBw4 : Below w.heap.size w w4 := Below.trans hBw3 (hmw4.mono hBw3.size)
  have zw4 : w.heap.size ≤ w4.heap.size := hBw4.size
  clear hmw4 hw4 zw3 hBw3 dRw3 bRw3 dVw3 bVw3 dGw3 bGw3 zR1w3 zR0w3 cR1w3 cR0w3 zV1w3 zV0w3 cV1w3 cV0w3 cG4w3 cG3w3 cG2w3 cG1w3 cG0w3
  rw [hH.out]
  go_wp2_with fail
  refine (half_any _ _ _ _ _ h _).mono ?_
  rintro e w5 ⟨rfl, hw5⟩
  have hmw5 : Below w4.heap.size w4 w5 := on_below hw5 (by repeat' (first | (with_reducible exact Below.refl _ _) | (with_reducible assumption) | (with_reducible refine drewN_below ?_ _) | (with_reducible refine Below.drew ?_) | (with_reducible refine Below.alloc ?_ ?_ _) | (with_reducible refine Below.setCell ?_ ?_ _) | (simp; done) | omega | (simp; omega))) (by first | (with_reducible assumption) | (simp; done) | omega | (simp; omega))
  have cG0w5 := (hmw5.cell (p := ⟨w.heap.size, 0, none⟩) bGw4).trans cG0w4
  have cG1w5 := (hmw5.cell (p := ⟨w.heap.size, 1, none⟩) bGw4).trans cG1w4
  have cG2w5 := (hmw5.cell (p := ⟨w.heap.size, 2, none⟩) bGw4).trans cG2w4
  have cG3w5 := (hmw5.cell (p := ⟨w.heap.size, 3, none⟩) bGw4).trans cG3w4
  have cG4w5 := (hmw5.cell (p := ⟨w.heap.size, 4, none⟩) bGw4).trans cG4w4
  have bGw5 : w.heap.size < w5.heap.size := Nat.lt_of_lt_of_le bGw4 hmw5.size
  have dGw5 : w.heap.size < w5.heap.size + 1 := Nat.lt_succ_of_lt bGw5
  have cV0w5 := (hmw5.cell (p := ⟨w.heap.size + 1, 0, none⟩) bVw4).trans cV0w4
  have cV1w5 := (hmw5.cell (p := ⟨w.heap.size + 1, 1, none⟩) bVw4).trans cV1w4
  have zV0w5 := (hmw5.frozen (p := ⟨w.heap.size + 1, 0, none⟩) bVw4).trans zV0w4
  have zV1w5 := (hmw5.frozen (p := ⟨w.heap.size + 1, 1, none⟩) bVw4).trans zV1w4
  have bVw5 : w.heap.size + 1 < w5.heap.size := Nat.lt_of_lt_of_le bVw4 hmw5.size
  have dVw5 : w.heap.size + 1 < w5.heap.size + 1 := Nat.lt_succ_of_lt bVw5
  have cR0w5 := (hmw5.cell (p := ⟨w.heap.size + 2, 0, none⟩) bRw4).trans cR0w4
  have cR1w5 := (hmw5.cell (p := ⟨w.heap.size + 2, 1, none⟩) bRw4).trans cR1w4
  have zR0w5 := (hmw5.frozen (p := ⟨w.heap.size + 2, 0, none⟩) bRw4).trans zR0w4
  have zR1w5 := (hmw5.frozen (p := ⟨w.heap.size + 2, 1, none⟩) bRw4).trans zR1w4
  have bRw5 : w.heap.size + 2 < w5.heap.size := Nat.lt_of_lt_of_le bRw4 hmw5.size
  have dRw5 : w.heap.size + 2 < w5.heap.size + 1 := Nat.lt_succ_of_lt bRw5
  have hBw5 : Below w.heap.size w w5 := Below.trans hBw4 (hmw5.mono hBw4.size)
  have zw5 : w.heap.size ≤ w5.heap.size := hBw5.size
  clear hmw5 hw5 zw4 hBw4 dRw4 bRw4 zR1w4 zR0w4 cR1w4 cR0w4 dVw4 bVw4 zV1w4 zV0w4 cV1w4 cV0w4 dGw4 bGw4 cG4w4 cG3w4 cG2w4 cG1w4 cG0w4
  rw [hH.out]
  go_wp2_with fail
  refine (steps_any _ _ _ _ _ _ (by omega) (by omega) _).mono ?_
  rintro e w6 ⟨rfl, hw6⟩
  have hmw6 : Below w5.heap.size w5 w6 := on_below hw6 (by repeat' (first | (with_reducible exact Below.refl _ _) | (with_reducible assumption) | (with_reducible refine drewN_below ?_ _) | (with_reducible refine Below.drew ?_) | (with_reducible refine Below.alloc ?_ ?_ _) | (with_reducible refine Below.setCell ?_ ?_ _) | (simp; done) | omega | (simp; omega))) (by first | (with_reducible assumption) | (simp; done) | omega | (simp; omega))
  have cG0w6 := (hmw6.cell (p := ⟨w.heap.size, 0, none⟩) bGw5).trans cG0w5
  have cG1w6 := (hmw6.cell (p := ⟨w.heap.size, 1, none⟩) bGw5).trans cG1w5
  have cG2w6 := (hmw6.cell (p := ⟨w.heap.size, 2, none⟩) bGw5).trans cG2w5
  have cG3w6 := (hmw6.cell (p := ⟨w.heap.size, 3, none⟩) bGw5).trans cG3w5
  have cG4w6 := (hmw6.cell (p := ⟨w.heap.size, 4, none⟩) bGw5).trans cG4w5
  have bGw6 : w.heap.size < w6.heap.size := Nat.lt_of_lt_of_le bGw5 hmw6.size
  have dGw6 : w.heap.size < w6.heap.size + 1 := Nat.lt_succ_of_lt bGw6
  have cV0w6 := (hmw6.cell (p := ⟨w.heap.size + 1, 0, none⟩) bVw5).trans cV0w5
  have cV1w6 := (hmw6.cell (p := ⟨w.heap.size + 1, 1, none⟩) bVw5).trans cV1w5
  have zV0w6 := (hmw6.frozen (p := ⟨w.heap.size + 1, 0, none⟩) bVw5).trans zV0w5
  have zV1w6 := (hmw6.frozen (p := ⟨w.heap.size + 1, 1, none⟩) bVw5).trans zV1w5
  have bVw6 : w.heap.size + 1 < w6.heap.size := Nat.lt_of_lt_of_le bVw5 hmw6.size
  have dVw6 : w.heap.size + 1 < w6.heap.size + 1 := Nat.lt_succ_of_lt bVw6
  have cR0w6 := (hmw6.cell (p := ⟨w.heap.size + 2, 0, none⟩) bRw5).trans cR0w5
  have cR1w6 := (hmw6.cell (p := ⟨w.heap.size + 2, 1, none⟩) bRw5).trans cR1w5
  have zR0w6 := (hmw6.frozen (p := ⟨w.heap.size + 2, 0, none⟩) bRw5).trans zR0w5
  have zR1w6 := (hmw6.frozen (p := ⟨w.heap.size + 2, 1, none⟩) bRw5).trans zR1w5
  have bRw6 : w.heap.size + 2 < w6.heap.size := Nat.lt_of_lt_of_le bRw5 hmw6.size
  have dRw6 : w.heap.size + 2 < w6.heap.size + 1 := Nat.lt_succ_of_lt bRw6
  have hBw6 : Below w.heap.size w w6 := Below.trans hBw5 (hmw6.mono hBw5.size)
  have zw6 : w.heap.size ≤ w6.heap.size := hBw6.size
  clear hmw6 hw6 zw5 hBw5 dRw5 bRw5 zR1w5 zR0w5 cR1w5 cR0w5 dVw5 bVw5 zV1w5 zV0w5 cV1w5 cV0w5 dGw5 bGw5 cG4w5 cG3w5 cG2w5 cG1w5 cG0w5
  rw [hr.out]
  have cR0z : w6.cell? ⟨w.heap.size + 1 + 1, 0, none⟩ = some (.int .i64 0) := cR0w6
  have cR1z : w6.cell? ⟨w.heap.size + 1 + 1, 1, none⟩ = some (.int .i64 0) := cR1w6
  go_wp2
  exact bodyPost_ret (v := .agg #[.int .i64 a, .int .i64 b]) (by simp [results, Tryd.results49, go_sem, cR0z, cR1z]) rfl ⟨rfl, (by repeat' (first | (with_reducible exact Below.refl _ _) | (with_reducible assumption) | (with_reducible refine drewN_below ?_ _) | (with_reducible refine Below.drew ?_) | (with_reducible refine Below.alloc ?_ ?_ _) | (with_reducible refine Below.setCell ?_ ?_ _) | (simp; done) | omega | (simp; omega)))⟩

set_option maxRecDepth 100000 in
set_option maxHeartbeats 8000000 in
theorem fw_out (k o : ByteArray) (m I F : Nat) (hm : m ≤ 2) (h : I + F ≤ 30) (n d : Int) (hn : -2305843009213693952 ≤ n ∧ n ≤ 2305843009213693952) (hd : 1 ≤ d ∧ d ≤ 1152921504606846976) (t D : Int) (hD : Hid (d * 2 ^ (I + 1) = D)) (DB : 1 ≤ D ∧ D ≤ 2305843009213693952) (hT : Hid (n.tmod D = t)) (TB : -2305843009213693952 ≤ t ∧ t ≤ 2305843009213693952) (K H Y : Int) (hK : Hid (Z.rndE m t d (F : Int) = K)) (hH : Hid ((2 : Int) ^ (I + F) = H)) (KB : -4294967296 ≤ K ∧ K ≤ 4294967296) (hY : Hid ((K + H) % (2 * H) = Y)) (YB : 0 ≤ Y ∧ Y < 2 * H) (hk1 : Hid ((t.natAbs : Int) * 2 ^ (F : Int).toNat ≤ 2305843009213693952 * (d * 2 ^ (-(F : Int)).toNat))) (hv : Hid (Z.vld k (rnm m) o (I : Int) (F : Int) = true)) (ho : (o.toList == [119, 114, 97, 112]) = true) (hb : Hid (Z.below n d ((I : Int) + 1) = false)) (w : World) :
    Calls Tryd.prog 49 #[.agg #[.string k, .int .i64 (I : Int), .int .i64 (F : Int), .string (rnm m), .string o], .agg #[.int .i64 n, .int .i64 d]] w fun e w' => e = .returned (.agg #[.int .i64 (Q.mk (Y - H) (2 ^ F)).1, .int .i64 (Q.mk (Y - H) (2 ^ F)).2]) ∧ Below w.heap.size w w' := by
  have hB := pb_of h
  have B1 := hB.h
  have B2 := hB.i
  have B3 := hB.f
  clear hB
  have y1 : IntKind.i64.wrap ((I : Int) + 1) = (I : Int) + 1 := Z.i64_in _ (by omega)
  rw [hH.out] at B1
  have z1 : d * 2 ^ (-(F : Int)).toNat = d := by rw [show (-(F : Int)).toNat = 0 by omega, Int.pow_zero, Int.mul_one]
  have Z1 := Lib.hid z1
  clear z1
  have y2 : IntKind.i64.wrap (-H) = -H := Z.i64_in _ (by omega)
  obtain ⟨a, b, hr⟩ : ∃ a b, Hid (Q.mk (Y - H) (2 ^ F) = (a, b)) := ⟨_, _, rfl⟩
  rw [hr.out]
  have y3 : IntKind.i64.wrap (K + H) = K + H := Z.i64_in _ (by omega)
  have y4 : IntKind.i64.wrap (2 * H) = 2 * H := Z.i64_in _ (by omega)
  have y5 : IntKind.i64.wrap (2 * H - 1) = 2 * H - 1 := Z.i64_in _ (by omega)
  have y6 : bits .and .i64 (K + H) (2 * H - 1) = Y := by
    have e : 2 * H = 2 ^ (I + F + 1) := by rw [Int.pow_succ, hH.out, Int.mul_comm]
    rw [e, i64_mask _ _ (by omega), ← e]; exact hY.out
  have y7 : IntKind.i64.wrap (Y - H) = Y - H := Z.i64_in _ (by omega)
  have g1 : decide (Y - H < -H) = false := decide_eq_false (by omega)
  have g2 : decide (H ≤ Y - H) = false := decide_eq_false (by omega)
  have y8 : IntKind.i64.wrap (d * 2 ^ (I + 1)) = D := by rw [hD.out]; exact Z.i64_in _ (by omega)
  have y9 : IntKind.i64.wrap (n.tmod D) = t := by rw [hT.out]; exact Z.i64_in _ (by omega)
  have y10 : ¬ D = 0 := by omega
  have y11 : (D == 0) = false := by rw [beq_eq_false_iff_ne]; omega
  go_enter Tryd.func49, Tryd.ntmps49
  go_wp2_with fail
  refine (isbelow_any _ _ _ (by omega) (by omega) (by omega) _).mono ?_
  rintro e w1 ⟨rfl, hw1⟩
  have hmw1 : Below w.heap.size w w1 := on_below hw1 (by repeat' (first | (with_reducible exact Below.refl _ _) | (with_reducible assumption) | (with_reducible refine drewN_below ?_ _) | (with_reducible refine Below.drew ?_) | (with_reducible refine Below.alloc ?_ ?_ _) | (with_reducible refine Below.setCell ?_ ?_ _) | (simp; done) | omega | (simp; omega))) (by first | (with_reducible assumption) | (simp; done) | omega | (simp; omega))
  have cG0w1 : w1.cell? ⟨w.heap.size, 0, none⟩ = some (.string k) := by rw [hw1.cell (p := ⟨w.heap.size, 0, none⟩) (by first | (with_reducible assumption) | (simp; done) | omega | (simp; omega))]; simp [go_sem]
  have cG1w1 : w1.cell? ⟨w.heap.size, 1, none⟩ = some (.int .i64 (I : Int)) := by rw [hw1.cell (p := ⟨w.heap.size, 1, none⟩) (by first | (with_reducible assumption) | (simp; done) | omega | (simp; omega))]; simp [go_sem]
  have cG2w1 : w1.cell? ⟨w.heap.size, 2, none⟩ = some (.int .i64 (F : Int)) := by rw [hw1.cell (p := ⟨w.heap.size, 2, none⟩) (by first | (with_reducible assumption) | (simp; done) | omega | (simp; omega))]; simp [go_sem]
  have cG3w1 : w1.cell? ⟨w.heap.size, 3, none⟩ = some (.string (rnm m)) := by rw [hw1.cell (p := ⟨w.heap.size, 3, none⟩) (by first | (with_reducible assumption) | (simp; done) | omega | (simp; omega))]; simp [go_sem]
  have cG4w1 : w1.cell? ⟨w.heap.size, 4, none⟩ = some (.string o) := by rw [hw1.cell (p := ⟨w.heap.size, 4, none⟩) (by first | (with_reducible assumption) | (simp; done) | omega | (simp; omega))]; simp [go_sem]
  have bGw1 : w.heap.size < w1.heap.size := by have := hw1.size; first | omega | (simp at this; omega)
  have dGw1 : w.heap.size < w1.heap.size + 1 := Nat.lt_succ_of_lt bGw1
  have cV0w1 : w1.cell? ⟨w.heap.size + 1, 0, none⟩ = some (.int .i64 n) := by rw [hw1.cell (p := ⟨w.heap.size + 1, 0, none⟩) (by first | (with_reducible assumption) | (simp; done) | omega | (simp; omega))]; simp [go_sem]
  have cV1w1 : w1.cell? ⟨w.heap.size + 1, 1, none⟩ = some (.int .i64 d) := by rw [hw1.cell (p := ⟨w.heap.size + 1, 1, none⟩) (by first | (with_reducible assumption) | (simp; done) | omega | (simp; omega))]; simp [go_sem]
  have zV0w1 : w1.frozen? ⟨w.heap.size + 1, 0, none⟩ = false := by rw [hw1.frozen (p := ⟨w.heap.size + 1, 0, none⟩) (by first | (with_reducible assumption) | (simp; done) | omega | (simp; omega))]; simp [go_sem]
  have zV1w1 : w1.frozen? ⟨w.heap.size + 1, 1, none⟩ = false := by rw [hw1.frozen (p := ⟨w.heap.size + 1, 1, none⟩) (by first | (with_reducible assumption) | (simp; done) | omega | (simp; omega))]; simp [go_sem]
  have bVw1 : w.heap.size + 1 < w1.heap.size := by have := hw1.size; first | omega | (simp at this; omega)
  have dVw1 : w.heap.size + 1 < w1.heap.size + 1 := Nat.lt_succ_of_lt bVw1
  have cR0w1 : w1.cell? ⟨w.heap.size + 2, 0, none⟩ = some (.int .i64 0) := by rw [hw1.cell (p := ⟨w.heap.size + 2, 0, none⟩) (by first | (with_reducible assumption) | (simp; done) | omega | (simp; omega))]; simp [go_sem]
  have cR1w1 : w1.cell? ⟨w.heap.size + 2, 1, none⟩ = some (.int .i64 0) := by rw [hw1.cell (p := ⟨w.heap.size + 2, 1, none⟩) (by first | (with_reducible assumption) | (simp; done) | omega | (simp; omega))]; simp [go_sem]
  have zR0w1 : w1.frozen? ⟨w.heap.size + 2, 0, none⟩ = false := by rw [hw1.frozen (p := ⟨w.heap.size + 2, 0, none⟩) (by first | (with_reducible assumption) | (simp; done) | omega | (simp; omega))]; simp [go_sem]
  have zR1w1 : w1.frozen? ⟨w.heap.size + 2, 1, none⟩ = false := by rw [hw1.frozen (p := ⟨w.heap.size + 2, 1, none⟩) (by first | (with_reducible assumption) | (simp; done) | omega | (simp; omega))]; simp [go_sem]
  have bRw1 : w.heap.size + 2 < w1.heap.size := by have := hw1.size; first | omega | (simp at this; omega)
  have dRw1 : w.heap.size + 2 < w1.heap.size + 1 := Nat.lt_succ_of_lt bRw1
  have hBw1 : Below w.heap.size w w1 := hmw1
  have zw1 : w.heap.size ≤ w1.heap.size := hBw1.size
  clear hmw1 hw1
  rw [hb.out]
  go_upto_region 4 with fail
  go_cut [] (fun  wx => wx.cell? ⟨w.heap.size, 0, none⟩ = some (.string k) ∧ wx.cell? ⟨w.heap.size, 1, none⟩ = some (.int .i64 (I : Int)) ∧ wx.cell? ⟨w.heap.size, 2, none⟩ = some (.int .i64 (F : Int)) ∧ wx.cell? ⟨w.heap.size, 3, none⟩ = some (.string (rnm m)) ∧ wx.cell? ⟨w.heap.size, 4, none⟩ = some (.string o) ∧ w.heap.size < wx.heap.size ∧ wx.cell? ⟨w.heap.size + 1, 0, none⟩ = some (.int .i64 t) ∧ wx.cell? ⟨w.heap.size + 1, 1, none⟩ = some (.int .i64 d) ∧ w.heap.size + 1 < wx.heap.size ∧ wx.frozen? ⟨w.heap.size + 1, 0, none⟩ = false ∧ wx.frozen? ⟨w.heap.size + 1, 1, none⟩ = false ∧ wx.cell? ⟨w.heap.size + 2, 0, none⟩ = some (.int .i64 0) ∧ wx.cell? ⟨w.heap.size + 2, 1, none⟩ = some (.int .i64 0) ∧ w.heap.size + 2 < wx.heap.size ∧ wx.frozen? ⟨w.heap.size + 2, 0, none⟩ = false ∧ wx.frozen? ⟨w.heap.size + 2, 1, none⟩ = false ∧ Below w.heap.size w wx)
  case first =>
    go_region
    go_wp2
    rw [hT.out]
    go_meet
    (refine ⟨?_, ?_, ?_, ?_, ?_, ?_, ?_, ?_, ?_, ?_, ?_, ?_, ?_, ?_, ?_, ?_, ?_⟩ <;> first | assumption | (simp [go_sem, *]; done) | omega | (simp; omega) | (repeat' (first | (with_reducible exact Below.refl _ _) | (with_reducible assumption) | (with_reducible refine drewN_below ?_ _) | (with_reducible refine Below.drew ?_) | (with_reducible refine Below.alloc ?_ ?_ _) | (with_reducible refine Below.setCell ?_ ?_ _) | (simp; done) | omega | (simp; omega))))
  case rest =>
    obtain ⟨cG0w2, cG1w2, cG2w2, cG3w2, cG4w2, bGw2, cV0w2, cV1w2, bVw2, zV0w2, zV1w2, cR0w2, cR1w2, bRw2, zR0w2, zR1w2, hBw2⟩ := hcut
    have dGw2 : w.heap.size < wc.heap.size + 1 := Nat.lt_succ_of_lt bGw2
    have dVw2 : w.heap.size + 1 < wc.heap.size + 1 := Nat.lt_succ_of_lt bVw2
    have dRw2 : w.heap.size + 2 < wc.heap.size + 1 := Nat.lt_succ_of_lt bRw2
    have zw2 : w.heap.size ≤ wc.heap.size := hBw2.size
    obtain ⟨w2, ew2⟩ : ∃ x, x = wc := ⟨_, rfl⟩
    subst ew2
    clear zw1 hBw1 dRw1 bRw1 zR1w1 zR0w1 cR1w1 cR0w1 dVw1 bVw1 zV1w1 zV0w1 cV1w1 cV0w1 dGw1 bGw1 cG4w1 cG3w1 cG2w1 cG1w1 cG0w1
    go_wp2_with fail
    refine (rounded_any m hm _ _ _ (by omega) (by omega) (by omega) hk1.out (by rw [Z1.out]; omega) _).mono ?_
    rintro e w3 ⟨rfl, hw3⟩
    have hmw3 : Below w2.heap.size w2 w3 := on_below hw3 (by repeat' (first | (with_reducible exact Below.refl _ _) | (with_reducible assumption) | (with_reducible refine drewN_below ?_ _) | (with_reducible refine Below.drew ?_) | (with_reducible refine Below.alloc ?_ ?_ _) | (with_reducible refine Below.setCell ?_ ?_ _) | (simp; done) | omega | (simp; omega))) (by first | (with_reducible assumption) | (simp; done) | omega | (simp; omega))
    have cG0w3 := (hmw3.cell (p := ⟨w.heap.size, 0, none⟩) bGw2).trans cG0w2
    have cG1w3 := (hmw3.cell (p := ⟨w.heap.size, 1, none⟩) bGw2).trans cG1w2
    have cG2w3 := (hmw3.cell (p := ⟨w.heap.size, 2, none⟩) bGw2).trans cG2w2
    have cG3w3 := (hmw3.cell (p := ⟨w.heap.size, 3, none⟩) bGw2).trans cG3w2
    have cG4w3 := (hmw3.cell (p := ⟨w.heap.size, 4, none⟩) bGw2).trans cG4w2
    have bGw3 : w.heap.size < w3.heap.size := Nat.lt_of_lt_of_le bGw2 hmw3.size
    have dGw3 : w.heap.size < w3.heap.size + 1 := Nat.lt_succ_of_lt bGw3
    have cV0w3 := (hmw3.cell (p := ⟨w.heap.size + 1, 0, none⟩) bVw2).trans cV0w2
    have cV1w3 := (hmw3.cell (p := ⟨w.heap.size + 1, 1, none⟩) bVw2).trans cV1w2
    have zV0w3 := (hmw3.frozen (p := ⟨w.heap.size + 1, 0, none⟩) bVw2).trans zV0w2
    have zV1w3 := (hmw3.frozen (p := ⟨w.heap.size + 1, 1, none⟩) bVw2).trans zV1w2
    have bVw3 : w.heap.size + 1 < w3.heap.size := Nat.lt_of_lt_of_le bVw2 hmw3.size
    have dVw3 : w.heap.size + 1 < w3.heap.size + 1 := Nat.lt_succ_of_lt bVw3
    have cR0w3 := (hmw3.cell (p := ⟨w.heap.size + 2, 0, none⟩) bRw2).trans cR0w2
    have cR1w3 := (hmw3.cell (p := ⟨w.heap.size + 2, 1, none⟩) bRw2).trans cR1w2
    have zR0w3 := (hmw3.frozen (p := ⟨w.heap.size + 2, 0, none⟩) bRw2).trans zR0w2
    have zR1w3 := (hmw3.frozen (p := ⟨w.heap.size + 2, 1, none⟩) bRw2).trans zR1w2
    have bRw3 : w.heap.size + 2 < w3.heap.size := Nat.lt_of_lt_of_le bRw2 hmw3.size
    have dRw3 : w.heap.size + 2 < w3.heap.size + 1 := Nat.lt_succ_of_lt bRw3
    have hBw3 : Below w.heap.size w w3 := Below.trans hBw2 (hmw3.mono hBw2.size)
    have zw3 : w.heap.size ≤ w3.heap.size := hBw3.size
    clear hmw3 hw3 zw2 dRw2 dVw2 dGw2 hBw2 zR1w2 zR0w2 bRw2 cR1w2 cR0w2 zV1w2 zV0w2 bVw2 cV1w2 cV0w2 bGw2 cG4w2 cG3w2 cG2w2 cG1w2 cG0w2
    rw [hK.out]
    go_wp2_with fail
    have xG : w.heap.size < w3.heap.size := by omega
    have xV : w.heap.size + 1 < w3.heap.size := by omega
    have xR : w.heap.size + 2 < w3.heap.size := by omega
    refine wp_region_held_drew (S := (fun w' => w'.cell? ⟨w.heap.size, 0, none⟩ = some (.string k) ∧ w'.cell? ⟨w.heap.size, 1, none⟩ = some (.int .i64 (I : Int)) ∧ w'.cell? ⟨w.heap.size, 2, none⟩ = some (.int .i64 (F : Int)) ∧ w'.cell? ⟨w.heap.size, 3, none⟩ = some (.string (rnm m)) ∧ w'.cell? ⟨w.heap.size, 4, none⟩ = some (.string o) ∧ w'.cell? ⟨w.heap.size + 1, 0, none⟩ = some (.int .i64 t) ∧ w'.cell? ⟨w.heap.size + 1, 1, none⟩ = some (.int .i64 d) ∧ w'.frozen? ⟨w.heap.size + 1, 0, none⟩ = false ∧ w'.frozen? ⟨w.heap.size + 1, 1, none⟩ = false ∧ w'.cell? ⟨w.heap.size + 2, 0, none⟩ = some (.int .i64 0) ∧ w'.cell? ⟨w.heap.size + 2, 1, none⟩ = some (.int .i64 0) ∧ w'.frozen? ⟨w.heap.size + 2, 0, none⟩ = false ∧ w'.frozen? ⟨w.heap.size + 2, 1, none⟩ = false ∧ w3.heap.size ≤ w'.heap.size ∧ Below w3.heap.size w3 w')) (by kernel_rfl) ?_ ?_
    · (refine ⟨?_, ?_, ?_, ?_, ?_, ?_, ?_, ?_, ?_, ?_, ?_, ?_, ?_, ?_, ?_⟩ <;> first | assumption | ((repeat' (first | (with_reducible exact Below.refl _ _) | (with_reducible assumption) | (with_reducible refine drewN_below ?_ _) | (with_reducible refine Below.drew ?_) | (with_reducible refine Below.alloc ?_ ?_ _) | (with_reducible refine Below.setCell ?_ ?_ _) | (simp; done) | omega | (simp; omega))); done) | (simp [*]; done) | (simp [go_sem, *]; done) | (simp; omega))
    intro hH0
    refine wpAnyH_take (i := 0) (v := ?_) rfl (by kernel_rfl) (by kernel_rfl) (by kernel_rfl) (fun _ _ _ h => h) (Or.inl ⟨by rfl, ?_⟩) (by assumption) ?_
    rotate_left
    focus (intro wq hSq; (try dsimp only at hSq); go_simp; first | done | (with_reducible rfl))
    (try simp only [Act.put, List.getElem_toArray, List.getElem_cons_zero, List.setIfInBounds_toArray, List.set_cons_zero, List.set_cons_succ])
    refine wpAnyH_take (i := 1) (v := ?_) rfl (by kernel_rfl) (by kernel_rfl) (by kernel_rfl) (fun _ _ _ h => h) (Or.inl ⟨by rfl, ?_⟩) (by assumption) ?_
    rotate_left
    focus (intro wq hSq; (try dsimp only at hSq); go_simp; first | done | (with_reducible rfl))
    (try simp only [Act.put, List.getElem_toArray, List.getElem_cons_succ, List.getElem_cons_zero, List.setIfInBounds_toArray, List.set_cons_zero, List.set_cons_succ])
    refine wpAnyH_take (i := 4) (v := ?_) rfl (by kernel_rfl) (by kernel_rfl) (by kernel_rfl) (fun _ _ _ h => h) (Or.inl ⟨by rfl, ?_⟩) (by assumption) ?_
    rotate_left
    focus (intro wq hSq; (try dsimp only at hSq); go_simp; first | done | (with_reducible rfl))
    (try simp only [Act.put, List.getElem_toArray, List.getElem_cons_succ, List.getElem_cons_zero, List.setIfInBounds_toArray, List.set_cons_zero, List.set_cons_succ])
    refine wpAnyH_take (i := 9) (v := ?_) rfl (by kernel_rfl) (by kernel_rfl) (by kernel_rfl) (fun _ _ _ h => h) (Or.inl ⟨by rfl, ?_⟩) (by assumption) ?_
    rotate_left
    focus (intro wq hSq; (try dsimp only at hSq); go_simp; first | done | (with_reducible rfl))
    (try simp only [Act.put, List.getElem_toArray, List.getElem_cons_succ, List.getElem_cons_zero, List.setIfInBounds_toArray, List.set_cons_zero, List.set_cons_succ])
    refine wpAnyH_ready (rs := [2]) (by kernel_rfl) (by simp) ?_
    refine AllReadyH.cons rfl (fun K hK => ?_) AllReadyH.nil
    rw [if_pos (by rfl)]
    go_simp
    refine (half_any _ _ _ _ _ h _).mono ?_
    rintro e wr ⟨rfl, hbr⟩
    obtain ⟨hcr, hfr, hzr, hBr⟩ := after (a := w3) (B := w3.heap.size) (w3.heap.size) hbr (by first | (with_reducible assumption) | (simp; done) | omega | (simp; omega)) (by repeat' (first | (with_reducible exact Below.refl _ _) | (with_reducible assumption) | (with_reducible refine drewN_below ?_ _) | (with_reducible refine Below.drew ?_) | (with_reducible refine Below.alloc ?_ ?_ _) | (with_reducible refine Below.setCell ?_ ?_ _) | (simp; done) | omega | (simp; omega))) (by omega)
    have yG := Nat.lt_of_lt_of_le xG hzr
    have yV := Nat.lt_of_lt_of_le xV hzr
    have yR := Nat.lt_of_lt_of_le xR hzr
    rw [hH.out]
    dsimp only
    refine hK.out _ _ ?_ (fun hHeld => ?_)
    · (refine ⟨?_, ?_, ?_, ?_, ?_, ?_, ?_, ?_, ?_, ?_, ?_, ?_, ?_, ?_, ?_⟩ <;> first | assumption | ((repeat' (first | (with_reducible exact Below.refl _ _) | (with_reducible assumption) | (with_reducible refine drewN_below ?_ _) | (with_reducible refine Below.drew ?_) | (with_reducible refine Below.alloc ?_ ?_ _) | (with_reducible refine Below.setCell ?_ ?_ _) | (simp; done) | omega | (simp; omega))); done) | (simp [*]; done) | (simp [go_sem, *]; done) | (simp; omega))
    clear hK K
    (try simp only [Act.put, List.getElem_toArray, List.getElem_cons_succ, List.getElem_cons_zero, List.setIfInBounds_toArray, List.set_cons_zero, List.set_cons_succ])
    refine wpAnyH_take (i := 3) (v := ?_) rfl (by kernel_rfl) (by kernel_rfl) (by kernel_rfl) (fun _ _ _ h => h) (Or.inl ⟨by rfl, ?_⟩) (by assumption) ?_
    rotate_left
    focus (intro wq hSq; (try dsimp only at hSq); go_simp; first | done | (with_reducible rfl))
    (try simp only [Act.put, List.getElem_toArray, List.getElem_cons_succ, List.getElem_cons_zero, List.setIfInBounds_toArray, List.set_cons_zero, List.set_cons_succ])
    refine wpAnyH_ready (rs := [5]) (by kernel_rfl) (by simp) ?_
    refine AllReadyH.cons rfl (fun K hK => ?_) AllReadyH.nil
    rw [if_pos (by rfl)]
    go_simp
    refine (half_any _ _ _ _ _ h _).mono ?_
    rintro e wr ⟨rfl, hbr⟩
    obtain ⟨hcr, hfr, hzr, hBr⟩ := after (a := w3) (B := w3.heap.size) (w3.heap.size) hbr (by first | (with_reducible assumption) | (simp; done) | omega | (simp; omega)) (by repeat' (first | (with_reducible exact Below.refl _ _) | (with_reducible assumption) | (with_reducible refine drewN_below ?_ _) | (with_reducible refine Below.drew ?_) | (with_reducible refine Below.alloc ?_ ?_ _) | (with_reducible refine Below.setCell ?_ ?_ _) | (simp; done) | omega | (simp; omega))) (by omega)
    have yG := Nat.lt_of_lt_of_le xG hzr
    have yV := Nat.lt_of_lt_of_le xV hzr
    have yR := Nat.lt_of_lt_of_le xR hzr
    rw [hH.out]
    dsimp only
    refine hK.out _ _ ?_ (fun hHeld => ?_)
    · (refine ⟨?_, ?_, ?_, ?_, ?_, ?_, ?_, ?_, ?_, ?_, ?_, ?_, ?_, ?_, ?_⟩ <;> first | assumption | ((repeat' (first | (with_reducible exact Below.refl _ _) | (with_reducible assumption) | (with_reducible refine drewN_below ?_ _) | (with_reducible refine Below.drew ?_) | (with_reducible refine Below.alloc ?_ ?_ _) | (with_reducible refine Below.setCell ?_ ?_ _) | (simp; done) | omega | (simp; omega))); done) | (simp [*]; done) | (simp [go_sem, *]; done) | (simp; omega))
    clear hK K
    (try simp only [Act.put, List.getElem_toArray, List.getElem_cons_succ, List.getElem_cons_zero, List.setIfInBounds_toArray, List.set_cons_zero, List.set_cons_succ])
    refine wpAnyH_take (i := 6) (v := ?_) rfl (by kernel_rfl) (by kernel_rfl) (by kernel_rfl) (fun _ _ _ h => h) (Or.inl ⟨by rfl, ?_⟩) (by assumption) ?_
    rotate_left
    focus (intro wq hSq; (try dsimp only at hSq); go_simp; first | done | (with_reducible rfl))
    (try simp only [Act.put, List.getElem_toArray, List.getElem_cons_succ, List.getElem_cons_zero, List.setIfInBounds_toArray, List.set_cons_zero, List.set_cons_succ])
    refine wpAnyH_take (i := 7) (v := ?_) rfl (by kernel_rfl) (by kernel_rfl) (by kernel_rfl) (fun _ _ _ h => h) (Or.inl ⟨by rfl, ?_⟩) (by assumption) ?_
    rotate_left
    focus (intro wq hSq; (try dsimp only at hSq); go_simp; first | done | (with_reducible rfl))
    (try simp only [Act.put, List.getElem_toArray, List.getElem_cons_succ, List.getElem_cons_zero, List.setIfInBounds_toArray, List.set_cons_zero, List.set_cons_succ])
    refine wpAnyH_take (i := 8) (v := ?_) rfl (by kernel_rfl) (by kernel_rfl) (by kernel_rfl) (fun _ _ _ h => h) (Or.inl ⟨by rfl, ?_⟩) (by assumption) ?_
    rotate_left
    focus (intro wq hSq; (try dsimp only at hSq); go_simp; first | done | (with_reducible rfl))
    (try simp only [Act.put, List.getElem_toArray, List.getElem_cons_succ, List.getElem_cons_zero, List.setIfInBounds_toArray, List.set_cons_zero, List.set_cons_succ])
    refine wpAnyH_ready (rs := [10]) (by kernel_rfl) (by simp) ?_
    refine AllReadyH.cons rfl (fun K hK => ?_) AllReadyH.nil
    rw [if_pos (by rfl)]
    go_simp
    refine (half_any _ _ _ _ _ h _).mono ?_
    rintro e wr ⟨rfl, hbr⟩
    obtain ⟨hcr, hfr, hzr, hBr⟩ := after (a := w3) (B := w3.heap.size) (w3.heap.size) hbr (by first | (with_reducible assumption) | (simp; done) | omega | (simp; omega)) (by repeat' (first | (with_reducible exact Below.refl _ _) | (with_reducible assumption) | (with_reducible refine drewN_below ?_ _) | (with_reducible refine Below.drew ?_) | (with_reducible refine Below.alloc ?_ ?_ _) | (with_reducible refine Below.setCell ?_ ?_ _) | (simp; done) | omega | (simp; omega))) (by omega)
    have yG := Nat.lt_of_lt_of_le xG hzr
    have yV := Nat.lt_of_lt_of_le xV hzr
    have yR := Nat.lt_of_lt_of_le xR hzr
    rw [hH.out]
    dsimp only
    refine hK.out _ _ ?_ (fun hHeld => ?_)
    · (refine ⟨?_, ?_, ?_, ?_, ?_, ?_, ?_, ?_, ?_, ?_, ?_, ?_, ?_, ?_, ?_⟩ <;> first | assumption | ((repeat' (first | (with_reducible exact Below.refl _ _) | (with_reducible assumption) | (with_reducible refine drewN_below ?_ _) | (with_reducible refine Below.drew ?_) | (with_reducible refine Below.alloc ?_ ?_ _) | (with_reducible refine Below.setCell ?_ ?_ _) | (simp; done) | omega | (simp; omega))); done) | (simp [*]; done) | (simp [go_sem, *]; done) | (simp; omega))
    clear hK K
    (try simp only [Act.put, List.getElem_toArray, List.getElem_cons_succ, List.getElem_cons_zero, List.setIfInBounds_toArray, List.set_cons_zero, List.set_cons_succ])
    refine wpAnyH_take (i := 11) (v := ?_) rfl (by kernel_rfl) (by kernel_rfl) (by kernel_rfl) (fun _ _ _ h => h) (Or.inl ⟨by rfl, ?_⟩) (by assumption) ?_
    rotate_left
    focus (intro wq hSq; (try dsimp only at hSq); go_simp; first | done | (with_reducible rfl))
    (try simp only [Act.put, List.getElem_toArray, List.getElem_cons_succ, List.getElem_cons_zero, List.setIfInBounds_toArray, List.set_cons_zero, List.set_cons_succ])
    refine wpAnyH_take (i := 12) (v := ?_) rfl (by kernel_rfl) (by kernel_rfl) (by kernel_rfl) (fun _ _ _ h => h) (Or.inl ⟨by rfl, ?_⟩) (by assumption) ?_
    rotate_left
    focus (intro wq hSq; (try dsimp only at hSq); go_simp; first | done | (with_reducible rfl))
    (try simp only [Act.put, List.getElem_toArray, List.getElem_cons_succ, List.getElem_cons_zero, List.setIfInBounds_toArray, List.set_cons_zero, List.set_cons_succ])
    refine wpAnyH_done (by kernel_rfl) ?_ _
    obtain ⟨s0, s1, s2, s3, s4, s5, s6, s7, s8, s9, s10, s11, s12, s13, s14⟩ := (by assumption : wr.cell? ⟨w.heap.size, 0, none⟩ = some (.string k) ∧ wr.cell? ⟨w.heap.size, 1, none⟩ = some (.int .i64 (I : Int)) ∧ wr.cell? ⟨w.heap.size, 2, none⟩ = some (.int .i64 (F : Int)) ∧ wr.cell? ⟨w.heap.size, 3, none⟩ = some (.string (rnm m)) ∧ wr.cell? ⟨w.heap.size, 4, none⟩ = some (.string o) ∧ wr.cell? ⟨w.heap.size + 1, 0, none⟩ = some (.int .i64 t) ∧ wr.cell? ⟨w.heap.size + 1, 1, none⟩ = some (.int .i64 d) ∧ wr.frozen? ⟨w.heap.size + 1, 0, none⟩ = false ∧ wr.frozen? ⟨w.heap.size + 1, 1, none⟩ = false ∧ wr.cell? ⟨w.heap.size + 2, 0, none⟩ = some (.int .i64 0) ∧ wr.cell? ⟨w.heap.size + 2, 1, none⟩ = some (.int .i64 0) ∧ wr.frozen? ⟨w.heap.size + 2, 0, none⟩ = false ∧ wr.frozen? ⟨w.heap.size + 2, 1, none⟩ = false ∧ w3.heap.size ≤ wr.heap.size ∧ Below w3.heap.size w3 wr)
    have cG0w4 := s0
    have cG1w4 := s1
    have cG2w4 := s2
    have cG3w4 := s3
    have cG4w4 := s4
    have cV0w4 := s5
    have cV1w4 := s6
    have zV0w4 := s7
    have zV1w4 := s8
    have cR0w4 := s9
    have cR1w4 := s10
    have zR0w4 := s11
    have zR1w4 := s12
    have bGw4 : w.heap.size < wr.heap.size := Nat.lt_of_lt_of_le xG s13
    have dGw4 : w.heap.size < wr.heap.size + 1 := Nat.lt_succ_of_lt bGw4
    have bVw4 : w.heap.size + 1 < wr.heap.size := Nat.lt_of_lt_of_le xV s13
    have dVw4 : w.heap.size + 1 < wr.heap.size + 1 := Nat.lt_succ_of_lt bVw4
    have bRw4 : w.heap.size + 2 < wr.heap.size := Nat.lt_of_lt_of_le xR s13
    have dRw4 : w.heap.size + 2 < wr.heap.size + 1 := Nat.lt_succ_of_lt bRw4
    have hBw4 : Below w.heap.size w wr := Below.trans hBw3 (s14.mono hBw3.size)
    have zw4 : w.heap.size ≤ wr.heap.size := hBw4.size
    clear s0 s1 s2 s3 s4 s5 s6 s7 s8 s9 s10 s11 s12 s13 s14 xG xV xR hcr hfr hzr hBr hbr zw3 hBw3 dRw3 bRw3 zR1w3 zR0w3 cR1w3 cR0w3 dVw3 bVw3 zV1w3 zV0w3 cV1w3 cV0w3 dGw3 bGw3 cG4w3 cG3w3 cG2w3 cG1w3 cG0w3
    repeat (clear hcr hfr hzr hBr hbr)
    skip
    obtain ⟨w4, ew4⟩ : ∃ x, x = wr := ⟨_, rfl⟩
    subst ew4
    go_wp2_with fail
    refine (half_any _ _ _ _ _ h _).mono ?_
    rintro e w5 ⟨rfl, hw5⟩
    have hmw5 : Below w4.heap.size w4 w5 := on_below hw5 (by repeat' (first | (with_reducible exact Below.refl _ _) | (with_reducible assumption) | (with_reducible refine drewN_below ?_ _) | (with_reducible refine Below.drew ?_) | (with_reducible refine Below.alloc ?_ ?_ _) | (with_reducible refine Below.setCell ?_ ?_ _) | (simp; done) | omega | (simp; omega))) (by first | (with_reducible assumption) | (simp; done) | omega | (simp; omega))
    have cG0w5 := (hmw5.cell (p := ⟨w.heap.size, 0, none⟩) bGw4).trans cG0w4
    have cG1w5 := (hmw5.cell (p := ⟨w.heap.size, 1, none⟩) bGw4).trans cG1w4
    have cG2w5 := (hmw5.cell (p := ⟨w.heap.size, 2, none⟩) bGw4).trans cG2w4
    have cG3w5 := (hmw5.cell (p := ⟨w.heap.size, 3, none⟩) bGw4).trans cG3w4
    have cG4w5 := (hmw5.cell (p := ⟨w.heap.size, 4, none⟩) bGw4).trans cG4w4
    have bGw5 : w.heap.size < w5.heap.size := Nat.lt_of_lt_of_le bGw4 hmw5.size
    have dGw5 : w.heap.size < w5.heap.size + 1 := Nat.lt_succ_of_lt bGw5
    have cV0w5 := (hmw5.cell (p := ⟨w.heap.size + 1, 0, none⟩) bVw4).trans cV0w4
    have cV1w5 := (hmw5.cell (p := ⟨w.heap.size + 1, 1, none⟩) bVw4).trans cV1w4
    have zV0w5 := (hmw5.frozen (p := ⟨w.heap.size + 1, 0, none⟩) bVw4).trans zV0w4
    have zV1w5 := (hmw5.frozen (p := ⟨w.heap.size + 1, 1, none⟩) bVw4).trans zV1w4
    have bVw5 : w.heap.size + 1 < w5.heap.size := Nat.lt_of_lt_of_le bVw4 hmw5.size
    have dVw5 : w.heap.size + 1 < w5.heap.size + 1 := Nat.lt_succ_of_lt bVw5
    have cR0w5 := (hmw5.cell (p := ⟨w.heap.size + 2, 0, none⟩) bRw4).trans cR0w4
    have cR1w5 := (hmw5.cell (p := ⟨w.heap.size + 2, 1, none⟩) bRw4).trans cR1w4
    have zR0w5 := (hmw5.frozen (p := ⟨w.heap.size + 2, 0, none⟩) bRw4).trans zR0w4
    have zR1w5 := (hmw5.frozen (p := ⟨w.heap.size + 2, 1, none⟩) bRw4).trans zR1w4
    have bRw5 : w.heap.size + 2 < w5.heap.size := Nat.lt_of_lt_of_le bRw4 hmw5.size
    have dRw5 : w.heap.size + 2 < w5.heap.size + 1 := Nat.lt_succ_of_lt bRw5
    have hBw5 : Below w.heap.size w w5 := Below.trans hBw4 (hmw5.mono hBw4.size)
    have zw5 : w.heap.size ≤ w5.heap.size := hBw5.size
    clear hmw5 hw5 zw4 hBw4 dRw4 bRw4 dVw4 bVw4 dGw4 bGw4 zR1w4 zR0w4 cR1w4 cR0w4 zV1w4 zV0w4 cV1w4 cV0w4 cG4w4 cG3w4 cG2w4 cG1w4 cG0w4
    rw [hH.out]
    go_wp2_with fail
    refine (half_any _ _ _ _ _ h _).mono ?_
    rintro e w6 ⟨rfl, hw6⟩
    have hmw6 : Below w5.heap.size w5 w6 := on_below hw6 (by repeat' (first | (with_reducible exact Below.refl _ _) | (with_reducible assumption) | (with_reducible refine drewN_below ?_ _) | (with_reducible refine Below.drew ?_) | (with_reducible refine Below.alloc ?_ ?_ _) | (with_reducible refine Below.setCell ?_ ?_ _) | (simp; done) | omega | (simp; omega))) (by first | (with_reducible assumption) | (simp; done) | omega | (simp; omega))
    have cG0w6 := (hmw6.cell (p := ⟨w.heap.size, 0, none⟩) bGw5).trans cG0w5
    have cG1w6 := (hmw6.cell (p := ⟨w.heap.size, 1, none⟩) bGw5).trans cG1w5
    have cG2w6 := (hmw6.cell (p := ⟨w.heap.size, 2, none⟩) bGw5).trans cG2w5
    have cG3w6 := (hmw6.cell (p := ⟨w.heap.size, 3, none⟩) bGw5).trans cG3w5
    have cG4w6 := (hmw6.cell (p := ⟨w.heap.size, 4, none⟩) bGw5).trans cG4w5
    have bGw6 : w.heap.size < w6.heap.size := Nat.lt_of_lt_of_le bGw5 hmw6.size
    have dGw6 : w.heap.size < w6.heap.size + 1 := Nat.lt_succ_of_lt bGw6
    have cV0w6 := (hmw6.cell (p := ⟨w.heap.size + 1, 0, none⟩) bVw5).trans cV0w5
    have cV1w6 := (hmw6.cell (p := ⟨w.heap.size + 1, 1, none⟩) bVw5).trans cV1w5
    have zV0w6 := (hmw6.frozen (p := ⟨w.heap.size + 1, 0, none⟩) bVw5).trans zV0w5
    have zV1w6 := (hmw6.frozen (p := ⟨w.heap.size + 1, 1, none⟩) bVw5).trans zV1w5
    have bVw6 : w.heap.size + 1 < w6.heap.size := Nat.lt_of_lt_of_le bVw5 hmw6.size
    have dVw6 : w.heap.size + 1 < w6.heap.size + 1 := Nat.lt_succ_of_lt bVw6
    have cR0w6 := (hmw6.cell (p := ⟨w.heap.size + 2, 0, none⟩) bRw5).trans cR0w5
    have cR1w6 := (hmw6.cell (p := ⟨w.heap.size + 2, 1, none⟩) bRw5).trans cR1w5
    have zR0w6 := (hmw6.frozen (p := ⟨w.heap.size + 2, 0, none⟩) bRw5).trans zR0w5
    have zR1w6 := (hmw6.frozen (p := ⟨w.heap.size + 2, 1, none⟩) bRw5).trans zR1w5
    have bRw6 : w.heap.size + 2 < w6.heap.size := Nat.lt_of_lt_of_le bRw5 hmw6.size
    have dRw6 : w.heap.size + 2 < w6.heap.size + 1 := Nat.lt_succ_of_lt bRw6
    have hBw6 : Below w.heap.size w w6 := Below.trans hBw5 (hmw6.mono hBw5.size)
    have zw6 : w.heap.size ≤ w6.heap.size := hBw6.size
    clear hmw6 hw6 zw5 hBw5 dRw5 bRw5 zR1w5 zR0w5 cR1w5 cR0w5 dVw5 bVw5 zV1w5 zV0w5 cV1w5 cV0w5 dGw5 bGw5 cG4w5 cG3w5 cG2w5 cG1w5 cG0w5
    rw [hH.out]
    go_wp2_with fail
    refine (steps_any _ _ _ _ _ _ (by omega) (by omega) _).mono ?_
    rintro e w7 ⟨rfl, hw7⟩
    have hmw7 : Below w6.heap.size w6 w7 := on_below hw7 (by repeat' (first | (with_reducible exact Below.refl _ _) | (with_reducible assumption) | (with_reducible refine drewN_below ?_ _) | (with_reducible refine Below.drew ?_) | (with_reducible refine Below.alloc ?_ ?_ _) | (with_reducible refine Below.setCell ?_ ?_ _) | (simp; done) | omega | (simp; omega))) (by first | (with_reducible assumption) | (simp; done) | omega | (simp; omega))
    have cG0w7 := (hmw7.cell (p := ⟨w.heap.size, 0, none⟩) bGw6).trans cG0w6
    have cG1w7 := (hmw7.cell (p := ⟨w.heap.size, 1, none⟩) bGw6).trans cG1w6
    have cG2w7 := (hmw7.cell (p := ⟨w.heap.size, 2, none⟩) bGw6).trans cG2w6
    have cG3w7 := (hmw7.cell (p := ⟨w.heap.size, 3, none⟩) bGw6).trans cG3w6
    have cG4w7 := (hmw7.cell (p := ⟨w.heap.size, 4, none⟩) bGw6).trans cG4w6
    have bGw7 : w.heap.size < w7.heap.size := Nat.lt_of_lt_of_le bGw6 hmw7.size
    have dGw7 : w.heap.size < w7.heap.size + 1 := Nat.lt_succ_of_lt bGw7
    have cV0w7 := (hmw7.cell (p := ⟨w.heap.size + 1, 0, none⟩) bVw6).trans cV0w6
    have cV1w7 := (hmw7.cell (p := ⟨w.heap.size + 1, 1, none⟩) bVw6).trans cV1w6
    have zV0w7 := (hmw7.frozen (p := ⟨w.heap.size + 1, 0, none⟩) bVw6).trans zV0w6
    have zV1w7 := (hmw7.frozen (p := ⟨w.heap.size + 1, 1, none⟩) bVw6).trans zV1w6
    have bVw7 : w.heap.size + 1 < w7.heap.size := Nat.lt_of_lt_of_le bVw6 hmw7.size
    have dVw7 : w.heap.size + 1 < w7.heap.size + 1 := Nat.lt_succ_of_lt bVw7
    have cR0w7 := (hmw7.cell (p := ⟨w.heap.size + 2, 0, none⟩) bRw6).trans cR0w6
    have cR1w7 := (hmw7.cell (p := ⟨w.heap.size + 2, 1, none⟩) bRw6).trans cR1w6
    have zR0w7 := (hmw7.frozen (p := ⟨w.heap.size + 2, 0, none⟩) bRw6).trans zR0w6
    have zR1w7 := (hmw7.frozen (p := ⟨w.heap.size + 2, 1, none⟩) bRw6).trans zR1w6
    have bRw7 : w.heap.size + 2 < w7.heap.size := Nat.lt_of_lt_of_le bRw6 hmw7.size
    have dRw7 : w.heap.size + 2 < w7.heap.size + 1 := Nat.lt_succ_of_lt bRw7
    have hBw7 : Below w.heap.size w w7 := Below.trans hBw6 (hmw7.mono hBw6.size)
    have zw7 : w.heap.size ≤ w7.heap.size := hBw7.size
    clear hmw7 hw7 zw6 hBw6 dRw6 bRw6 zR1w6 zR0w6 cR1w6 cR0w6 dVw6 bVw6 zV1w6 zV0w6 cV1w6 cV0w6 dGw6 bGw6 cG4w6 cG3w6 cG2w6 cG1w6 cG0w6
    rw [hr.out]
    have cR0z : w7.cell? ⟨w.heap.size + 1 + 1, 0, none⟩ = some (.int .i64 0) := cR0w7
    have cR1z : w7.cell? ⟨w.heap.size + 1 + 1, 1, none⟩ = some (.int .i64 0) := cR1w7
    go_wp2
    exact bodyPost_ret (v := .agg #[.int .i64 a, .int .i64 b]) (by simp [results, Tryd.results49, go_sem, cR0z, cR1z]) rfl ⟨rfl, (by repeat' (first | (with_reducible exact Below.refl _ _) | (with_reducible assumption) | (with_reducible refine drewN_below ?_ _) | (with_reducible refine Below.drew ?_) | (with_reducible refine Below.alloc ?_ ?_ _) | (with_reducible refine Below.setCell ?_ ?_ _) | (simp; done) | omega | (simp; omega)))⟩

end Go.Proofs.YtpdklolfkigefaaDoor
