/-
  rounded: what a call gives, at each way of rounding.
-/
import Derived.Test.YtpdklolfkigefaaDoorZv
import Derived.Test.YtpdklolfkigefaaDoorZf
set_option linter.all false
namespace Go.Proofs.YtpdklolfkigefaaDoor
open Go.RowKit

/-- What the text of rounded names: A, B are the shifts, M a power, H, L the product's digits, K, T the quotient and the rest. -/
structure RA (n d D H L K T : Int) (A B M : Nat) : Prop where
  d2 : d * 2 ^ A = D
  m : 2 ^ B = M
  h : ((n.natAbs * M / 18446744073709551616 : Nat) : Int) = H
  l : ((n.natAbs * M % 18446744073709551616 : Nat) : Int) = L
  k : (H * 18446744073709551616 + L) / D = K
  t : (H * 18446744073709551616 + L) % D = T
  hb : 0 ≤ H ∧ H < D
  lb : 0 ≤ L ∧ L < 18446744073709551616
  db : 1 ≤ D ∧ D ≤ 2305843009213693952
  kb : 0 ≤ K ∧ K ≤ 4611686018427387904
  tb : 0 ≤ T ∧ T < D
  mb : M < 18446744073709551616
theorem mul64_any (x y : Nat) (hx : x < 18446744073709551616) (hy : y < 18446744073709551616) (w : World) :
    Calls Tryd.prog 85 #[.int .u64 x, .int .u64 y] w fun e w' => e = .returned (.tuple #[.int .u64 ((x * y / 18446744073709551616 : Nat) : Int), .int .u64 ((x * y % 18446744073709551616 : Nat) : Int)]) ∧ Below w.heap.size w w' :=
  (Tryd.bits_Mul64 x y hx hy w).mono fun e w' h => ⟨h.1, by rw [h.2]; exact Below.refl _ _⟩
set_option maxHeartbeats 1000000 in
theorem rd_zero_neg (n d e D H L K T : Int) (A B M : Nat) (ha : A ≤ 60) (hB : B ≤ 60) (e1 : max 0 (-e) = (A : Int)) (e2 : max 0 e = (B : Int)) (hn : -2305843009213693952 ≤ n ∧ n ≤ 2305843009213693952) (hd : 1 ≤ d ∧ d ≤ 2305843009213693952) (he : -60 ≤ e ∧ e ≤ 60) (ra : Hid (RA n d D H L K T A B M)) (h0 : n < 0) (w : World) :
    Calls Tryd.prog 68 #[.agg #[.int .i64 n, .int .i64 d], .int .i64 e, .string ⟨#[122, 101, 114, 111]⟩] w fun en w' => en = .returned (.int .i64 (-(K))) ∧ Below w.heap.size w w' := by
  have f1 : IntKind.u64.wrap d = d := IntWalk.u64_in _ (by omega)
  have f2 : IntKind.u64.wrap (d * 2 ^ A) = D := by rw [ra.out.d2]; exact IntWalk.u64_in _ (by have := ra.out.db; omega)
  have f3 : IntKind.u64.wrap (2 ^ B) = (M : Int) := by rw [← ra.out.m]; have e := Z.p2_uwrap B (by omega); rw [e]; simp
  have hM := ra.out.mb
  have hH := ra.out.hb
  have hL := ra.out.lb
  have hD := ra.out.db
  have hK := ra.out.kb
  have hT := ra.out.tb
  have g0 : decide (n < 0) = true := decide_eq_true h0
  go_enter Tryd.func68, Tryd.ntmps68
  go_wp2
  have xV : w.heap.size < w.heap.size + 1 := by omega
  refine wp_region_held_drew (S := (fun w' => w'.cell? ⟨w.heap.size, 0, none⟩ = some (.int .i64 n) ∧ w'.cell? ⟨w.heap.size, 1, none⟩ = some (.int .i64 d) ∧ w.heap.size + 1 ≤ w'.heap.size ∧ Below w.heap.size w w')) (by kernel_rfl) ?_ ?_
  · (refine ⟨?_, ?_, ?_, ?_⟩ <;> first | assumption | ((repeat' (first | (with_reducible exact Below.refl _ _) | (with_reducible assumption) | (with_reducible refine drewN_below ?_ _) | (with_reducible refine Below.drew ?_) | (with_reducible refine Below.alloc ?_ ?_ _) | (with_reducible refine Below.setCell ?_ ?_ _) | (simp; done) | omega | (simp; omega))); done) | (simp [*]; done) | (simp [go_sem, *]; done) | (simp; omega))
  intro hH0
  refine wpAnyH_take (i := 0) (v := ?_) rfl (by kernel_rfl) (by kernel_rfl) (by kernel_rfl) (fun _ _ _ h => h) (Or.inl ⟨by rfl, ?_⟩) (by assumption) ?_
  rotate_left
  focus (intro wq hSq; (try dsimp only at hSq); go_simp; first | done | (with_reducible rfl))
  (try simp only [Act.put, List.getElem_toArray, List.getElem_cons_zero, List.setIfInBounds_toArray, List.set_cons_zero, List.set_cons_succ])
  refine wpAnyH_take (i := 2) (v := ?_) rfl (by kernel_rfl) (by kernel_rfl) (by kernel_rfl) (fun _ _ _ h => h) (Or.inl ⟨by rfl, ?_⟩) (by assumption) ?_
  rotate_left
  focus (intro wq hSq; (try dsimp only at hSq); go_simp; first | done | (with_reducible rfl))
  (try simp only [Act.put, List.getElem_toArray, List.getElem_cons_succ, List.getElem_cons_zero, List.setIfInBounds_toArray, List.set_cons_zero, List.set_cons_succ])
  refine wpAnyH_take (i := 3) (v := ?_) rfl (by kernel_rfl) (by kernel_rfl) (by kernel_rfl) (fun _ _ _ h => h) (Or.inl ⟨by rfl, ?_⟩) (by assumption) ?_
  rotate_left
  focus (intro wq hSq; (try dsimp only at hSq); go_simp; first | done | (with_reducible rfl))
  (try simp only [Act.put, List.getElem_toArray, List.getElem_cons_succ, List.getElem_cons_zero, List.setIfInBounds_toArray, List.set_cons_zero, List.set_cons_succ])
  refine wpAnyH_take (i := 4) (v := ?_) rfl (by kernel_rfl) (by kernel_rfl) (by kernel_rfl) (fun _ _ _ h => h) (Or.inl ⟨by rfl, ?_⟩) (by assumption) ?_
  rotate_left
  focus (intro wq hSq; (try dsimp only at hSq); go_simp; first | done | (with_reducible rfl))
  (try simp only [Act.put, List.getElem_toArray, List.getElem_cons_succ, List.getElem_cons_zero, List.setIfInBounds_toArray, List.set_cons_zero, List.set_cons_succ])
  refine wpAnyH_ready (rs := [1]) (by kernel_rfl) (by simp) ?_
  refine AllReadyH.cons rfl (fun K hK => ?_) AllReadyH.nil
  rw [if_pos (by rfl)]
  go_simp
  refine (xsize_any _ _ (by omega) _).mono ?_
  rintro e wr ⟨rfl, hbr⟩
  obtain ⟨hcr, hfr, hzr, hBr⟩ := after (a := w) (B := w.heap.size) (w.heap.size + 1) hbr (by first | (with_reducible assumption) | (simp; done) | omega | (simp; omega)) (by repeat' (first | (with_reducible exact Below.refl _ _) | (with_reducible assumption) | (with_reducible refine drewN_below ?_ _) | (with_reducible refine Below.drew ?_) | (with_reducible refine Below.alloc ?_ ?_ _) | (with_reducible refine Below.setCell ?_ ?_ _) | (simp; done) | omega | (simp; omega))) (by omega)
  have yV := Nat.lt_of_lt_of_le xV hzr
  dsimp only
  refine hK.out _ _ ?_ (fun hHeld => ?_)
  · (refine ⟨?_, ?_, ?_, ?_⟩ <;> first | assumption | ((repeat' (first | (with_reducible exact Below.refl _ _) | (with_reducible assumption) | (with_reducible refine drewN_below ?_ _) | (with_reducible refine Below.drew ?_) | (with_reducible refine Below.alloc ?_ ?_ _) | (with_reducible refine Below.setCell ?_ ?_ _) | (simp; done) | omega | (simp; omega))); done) | (simp [*]; done) | (simp [go_sem, *]; done) | (simp; omega))
  clear hK K
  (try simp only [Act.put, List.getElem_toArray, List.getElem_cons_succ, List.getElem_cons_zero, List.setIfInBounds_toArray, List.set_cons_zero, List.set_cons_succ])
  refine wpAnyH_ready (rs := [5]) (by kernel_rfl) (by simp) ?_
  refine AllReadyH.cons rfl (fun K hK => ?_) AllReadyH.nil
  rw [if_pos (by rfl)]
  go_simp
  refine (mul64_any _ _ (by omega) (by omega) _).mono ?_
  rintro e wr ⟨rfl, hbr⟩
  obtain ⟨hcr, hfr, hzr, hBr⟩ := after (a := w) (B := w.heap.size) (w.heap.size + 1) hbr (by first | (with_reducible assumption) | (simp; done) | omega | (simp; omega)) (by repeat' (first | (with_reducible exact Below.refl _ _) | (with_reducible assumption) | (with_reducible refine drewN_below ?_ _) | (with_reducible refine Below.drew ?_) | (with_reducible refine Below.alloc ?_ ?_ _) | (with_reducible refine Below.setCell ?_ ?_ _) | (simp; done) | omega | (simp; omega))) (by omega)
  have yV := Nat.lt_of_lt_of_le xV hzr
  rw [ra.out.h, ra.out.l]
  dsimp only
  refine hK.out _ _ ?_ (fun hHeld => ?_)
  · (refine ⟨?_, ?_, ?_, ?_⟩ <;> first | assumption | ((repeat' (first | (with_reducible exact Below.refl _ _) | (with_reducible assumption) | (with_reducible refine drewN_below ?_ _) | (with_reducible refine Below.drew ?_) | (with_reducible refine Below.alloc ?_ ?_ _) | (with_reducible refine Below.setCell ?_ ?_ _) | (simp; done) | omega | (simp; omega))); done) | (simp [*]; done) | (simp [go_sem, *]; done) | (simp; omega))
  clear hK K
  (try simp only [Act.put, List.getElem_toArray, List.getElem_cons_succ, List.getElem_cons_zero, List.setIfInBounds_toArray, List.set_cons_zero, List.set_cons_succ])
  refine wpAnyH_take (i := 6) (v := ?_) rfl (by kernel_rfl) (by kernel_rfl) (by kernel_rfl) (fun _ _ _ h => h) (Or.inl ⟨by rfl, ?_⟩) (by assumption) ?_
  rotate_left
  focus (intro wq hSq; (try dsimp only at hSq); go_simp; first | done | (with_reducible rfl))
  (try simp only [Act.put, List.getElem_toArray, List.getElem_cons_succ, List.getElem_cons_zero, List.setIfInBounds_toArray, List.set_cons_zero, List.set_cons_succ])
  refine wpAnyH_take (i := 7) (v := ?_) rfl (by kernel_rfl) (by kernel_rfl) (by kernel_rfl) (fun _ _ _ h => h) (Or.inl ⟨by rfl, ?_⟩) (by assumption) ?_
  rotate_left
  focus (intro wq hSq; (try dsimp only at hSq); go_simp; first | done | (with_reducible rfl))
  (try simp only [Act.put, List.getElem_toArray, List.getElem_cons_succ, List.getElem_cons_zero, List.setIfInBounds_toArray, List.set_cons_zero, List.set_cons_succ])
  refine wpAnyH_take (i := 8) (v := ?_) rfl (by kernel_rfl) (by kernel_rfl) (by kernel_rfl) (fun _ _ _ h => h) (Or.inl ⟨by rfl, ?_⟩) (by assumption) ?_
  rotate_left
  focus (intro wq hSq; (try dsimp only at hSq); go_simp; first | done | (with_reducible rfl))
  (try simp only [Act.put, List.getElem_toArray, List.getElem_cons_succ, List.getElem_cons_zero, List.setIfInBounds_toArray, List.set_cons_zero, List.set_cons_succ])
  refine wpAnyH_take (i := 9) (v := ?_) rfl (by kernel_rfl) (by kernel_rfl) (by kernel_rfl) (fun _ _ _ h => h) (Or.inl ⟨by rfl, ?_⟩) (by assumption) ?_
  rotate_left
  focus (intro wq hSq; (try dsimp only at hSq); go_simp; first | done | (with_reducible rfl))
  (try simp only [Act.put, List.getElem_toArray, List.getElem_cons_succ, List.getElem_cons_zero, List.setIfInBounds_toArray, List.set_cons_zero, List.set_cons_succ])
  refine wpAnyH_take (i := 10) (v := ?_) rfl (by kernel_rfl) (by kernel_rfl) (by kernel_rfl) (fun _ _ _ h => h) (Or.inl ⟨by rfl, ?_⟩) (by assumption) ?_
  rotate_left
  focus (intro wq hSq; (try dsimp only at hSq); go_simp; first | done | (with_reducible rfl))
  (try simp only [Act.put, List.getElem_toArray, List.getElem_cons_succ, List.getElem_cons_zero, List.setIfInBounds_toArray, List.set_cons_zero, List.set_cons_succ])
  refine wpAnyH_done (by kernel_rfl) ?_ _
  obtain ⟨s0, s1, s2, s3⟩ := (by assumption : wr.cell? ⟨w.heap.size, 0, none⟩ = some (.int .i64 n) ∧ wr.cell? ⟨w.heap.size, 1, none⟩ = some (.int .i64 d) ∧ w.heap.size + 1 ≤ wr.heap.size ∧ Below w.heap.size w wr)
  have cV0w1 := s0
  have cV1w1 := s1
  have bVw1 : w.heap.size < wr.heap.size := Nat.lt_of_lt_of_le xV s2
  have dVw1 : w.heap.size < wr.heap.size + 1 := Nat.lt_succ_of_lt bVw1
  have hBw1 : Below w.heap.size w wr := s3
  have zw1 : w.heap.size ≤ wr.heap.size := hBw1.size
  clear s0 s1 s2 s3 xV hcr hfr hzr hBr hbr
  repeat (clear hcr hfr hzr hBr hbr)
  skip
  obtain ⟨w1, ew1⟩ : ∃ x, x = wr := ⟨_, rfl⟩
  subst ew1
  go_wp2_with fail
  refine (div64_any _ _ _ (by omega) (by omega) (by omega) _).mono ?_
  rintro e w2 ⟨rfl, hw2⟩
  have hmw2 : Below w1.heap.size w1 w2 := on_below hw2 (by repeat' (first | (with_reducible exact Below.refl _ _) | (with_reducible assumption) | (with_reducible refine drewN_below ?_ _) | (with_reducible refine Below.drew ?_) | (with_reducible refine Below.alloc ?_ ?_ _) | (with_reducible refine Below.setCell ?_ ?_ _) | (simp; done) | omega | (simp; omega))) (by first | (with_reducible assumption) | (simp; done) | omega | (simp; omega))
  have cV0w2 := (hmw2.cell (p := ⟨w.heap.size, 0, none⟩) bVw1).trans cV0w1
  have cV1w2 := (hmw2.cell (p := ⟨w.heap.size, 1, none⟩) bVw1).trans cV1w1
  have bVw2 : w.heap.size < w2.heap.size := Nat.lt_of_lt_of_le bVw1 hmw2.size
  have dVw2 : w.heap.size < w2.heap.size + 1 := Nat.lt_succ_of_lt bVw2
  have hBw2 : Below w.heap.size w w2 := Below.trans hBw1 (hmw2.mono hBw1.size)
  have zw2 : w.heap.size ≤ w2.heap.size := hBw2.size
  clear hmw2 hw2 zw1 hBw1 dVw1 bVw1 cV1w1 cV0w1
  rw [ra.out.k, ra.out.t]
  go_wp2
  go_ret
  exact ⟨rfl, (by repeat' (first | (with_reducible exact Below.refl _ _) | (with_reducible assumption) | (with_reducible refine drewN_below ?_ _) | (with_reducible refine Below.drew ?_) | (with_reducible refine Below.alloc ?_ ?_ _) | (with_reducible refine Below.setCell ?_ ?_ _) | (simp; done) | omega | (simp; omega)))⟩
set_option maxHeartbeats 1000000 in
theorem rd_zero_pos (n d e D H L K T : Int) (A B M : Nat) (ha : A ≤ 60) (hB : B ≤ 60) (e1 : max 0 (-e) = (A : Int)) (e2 : max 0 e = (B : Int)) (hn : -2305843009213693952 ≤ n ∧ n ≤ 2305843009213693952) (hd : 1 ≤ d ∧ d ≤ 2305843009213693952) (he : -60 ≤ e ∧ e ≤ 60) (ra : Hid (RA n d D H L K T A B M)) (h0 : 0 ≤ n) (w : World) :
    Calls Tryd.prog 68 #[.agg #[.int .i64 n, .int .i64 d], .int .i64 e, .string ⟨#[122, 101, 114, 111]⟩] w fun en w' => en = .returned (.int .i64 (K)) ∧ Below w.heap.size w w' := by
  have f1 : IntKind.u64.wrap d = d := IntWalk.u64_in _ (by omega)
  have f2 : IntKind.u64.wrap (d * 2 ^ A) = D := by rw [ra.out.d2]; exact IntWalk.u64_in _ (by have := ra.out.db; omega)
  have f3 : IntKind.u64.wrap (2 ^ B) = (M : Int) := by rw [← ra.out.m]; have e := Z.p2_uwrap B (by omega); rw [e]; simp
  have hM := ra.out.mb
  have hH := ra.out.hb
  have hL := ra.out.lb
  have hD := ra.out.db
  have hK := ra.out.kb
  have hT := ra.out.tb
  have g0 : decide (n < 0) = false := decide_eq_false (by omega)
  go_enter Tryd.func68, Tryd.ntmps68
  go_wp2
  have xV : w.heap.size < w.heap.size + 1 := by omega
  refine wp_region_held_drew (S := (fun w' => w'.cell? ⟨w.heap.size, 0, none⟩ = some (.int .i64 n) ∧ w'.cell? ⟨w.heap.size, 1, none⟩ = some (.int .i64 d) ∧ w.heap.size + 1 ≤ w'.heap.size ∧ Below w.heap.size w w')) (by kernel_rfl) ?_ ?_
  · (refine ⟨?_, ?_, ?_, ?_⟩ <;> first | assumption | ((repeat' (first | (with_reducible exact Below.refl _ _) | (with_reducible assumption) | (with_reducible refine drewN_below ?_ _) | (with_reducible refine Below.drew ?_) | (with_reducible refine Below.alloc ?_ ?_ _) | (with_reducible refine Below.setCell ?_ ?_ _) | (simp; done) | omega | (simp; omega))); done) | (simp [*]; done) | (simp [go_sem, *]; done) | (simp; omega))
  intro hH0
  refine wpAnyH_take (i := 0) (v := ?_) rfl (by kernel_rfl) (by kernel_rfl) (by kernel_rfl) (fun _ _ _ h => h) (Or.inl ⟨by rfl, ?_⟩) (by assumption) ?_
  rotate_left
  focus (intro wq hSq; (try dsimp only at hSq); go_simp; first | done | (with_reducible rfl))
  (try simp only [Act.put, List.getElem_toArray, List.getElem_cons_zero, List.setIfInBounds_toArray, List.set_cons_zero, List.set_cons_succ])
  refine wpAnyH_take (i := 2) (v := ?_) rfl (by kernel_rfl) (by kernel_rfl) (by kernel_rfl) (fun _ _ _ h => h) (Or.inl ⟨by rfl, ?_⟩) (by assumption) ?_
  rotate_left
  focus (intro wq hSq; (try dsimp only at hSq); go_simp; first | done | (with_reducible rfl))
  (try simp only [Act.put, List.getElem_toArray, List.getElem_cons_succ, List.getElem_cons_zero, List.setIfInBounds_toArray, List.set_cons_zero, List.set_cons_succ])
  refine wpAnyH_take (i := 3) (v := ?_) rfl (by kernel_rfl) (by kernel_rfl) (by kernel_rfl) (fun _ _ _ h => h) (Or.inl ⟨by rfl, ?_⟩) (by assumption) ?_
  rotate_left
  focus (intro wq hSq; (try dsimp only at hSq); go_simp; first | done | (with_reducible rfl))
  (try simp only [Act.put, List.getElem_toArray, List.getElem_cons_succ, List.getElem_cons_zero, List.setIfInBounds_toArray, List.set_cons_zero, List.set_cons_succ])
  refine wpAnyH_take (i := 4) (v := ?_) rfl (by kernel_rfl) (by kernel_rfl) (by kernel_rfl) (fun _ _ _ h => h) (Or.inl ⟨by rfl, ?_⟩) (by assumption) ?_
  rotate_left
  focus (intro wq hSq; (try dsimp only at hSq); go_simp; first | done | (with_reducible rfl))
  (try simp only [Act.put, List.getElem_toArray, List.getElem_cons_succ, List.getElem_cons_zero, List.setIfInBounds_toArray, List.set_cons_zero, List.set_cons_succ])
  refine wpAnyH_ready (rs := [1]) (by kernel_rfl) (by simp) ?_
  refine AllReadyH.cons rfl (fun K hK => ?_) AllReadyH.nil
  rw [if_pos (by rfl)]
  go_simp
  refine (xsize_any _ _ (by omega) _).mono ?_
  rintro e wr ⟨rfl, hbr⟩
  obtain ⟨hcr, hfr, hzr, hBr⟩ := after (a := w) (B := w.heap.size) (w.heap.size + 1) hbr (by first | (with_reducible assumption) | (simp; done) | omega | (simp; omega)) (by repeat' (first | (with_reducible exact Below.refl _ _) | (with_reducible assumption) | (with_reducible refine drewN_below ?_ _) | (with_reducible refine Below.drew ?_) | (with_reducible refine Below.alloc ?_ ?_ _) | (with_reducible refine Below.setCell ?_ ?_ _) | (simp; done) | omega | (simp; omega))) (by omega)
  have yV := Nat.lt_of_lt_of_le xV hzr
  dsimp only
  refine hK.out _ _ ?_ (fun hHeld => ?_)
  · (refine ⟨?_, ?_, ?_, ?_⟩ <;> first | assumption | ((repeat' (first | (with_reducible exact Below.refl _ _) | (with_reducible assumption) | (with_reducible refine drewN_below ?_ _) | (with_reducible refine Below.drew ?_) | (with_reducible refine Below.alloc ?_ ?_ _) | (with_reducible refine Below.setCell ?_ ?_ _) | (simp; done) | omega | (simp; omega))); done) | (simp [*]; done) | (simp [go_sem, *]; done) | (simp; omega))
  clear hK K
  (try simp only [Act.put, List.getElem_toArray, List.getElem_cons_succ, List.getElem_cons_zero, List.setIfInBounds_toArray, List.set_cons_zero, List.set_cons_succ])
  refine wpAnyH_ready (rs := [5]) (by kernel_rfl) (by simp) ?_
  refine AllReadyH.cons rfl (fun K hK => ?_) AllReadyH.nil
  rw [if_pos (by rfl)]
  go_simp
  refine (mul64_any _ _ (by omega) (by omega) _).mono ?_
  rintro e wr ⟨rfl, hbr⟩
  obtain ⟨hcr, hfr, hzr, hBr⟩ := after (a := w) (B := w.heap.size) (w.heap.size + 1) hbr (by first | (with_reducible assumption) | (simp; done) | omega | (simp; omega)) (by repeat' (first | (with_reducible exact Below.refl _ _) | (with_reducible assumption) | (with_reducible refine drewN_below ?_ _) | (with_reducible refine Below.drew ?_) | (with_reducible refine Below.alloc ?_ ?_ _) | (with_reducible refine Below.setCell ?_ ?_ _) | (simp; done) | omega | (simp; omega))) (by omega)
  have yV := Nat.lt_of_lt_of_le xV hzr
  rw [ra.out.h, ra.out.l]
  dsimp only
  refine hK.out _ _ ?_ (fun hHeld => ?_)
  · (refine ⟨?_, ?_, ?_, ?_⟩ <;> first | assumption | ((repeat' (first | (with_reducible exact Below.refl _ _) | (with_reducible assumption) | (with_reducible refine drewN_below ?_ _) | (with_reducible refine Below.drew ?_) | (with_reducible refine Below.alloc ?_ ?_ _) | (with_reducible refine Below.setCell ?_ ?_ _) | (simp; done) | omega | (simp; omega))); done) | (simp [*]; done) | (simp [go_sem, *]; done) | (simp; omega))
  clear hK K
  (try simp only [Act.put, List.getElem_toArray, List.getElem_cons_succ, List.getElem_cons_zero, List.setIfInBounds_toArray, List.set_cons_zero, List.set_cons_succ])
  refine wpAnyH_take (i := 6) (v := ?_) rfl (by kernel_rfl) (by kernel_rfl) (by kernel_rfl) (fun _ _ _ h => h) (Or.inl ⟨by rfl, ?_⟩) (by assumption) ?_
  rotate_left
  focus (intro wq hSq; (try dsimp only at hSq); go_simp; first | done | (with_reducible rfl))
  (try simp only [Act.put, List.getElem_toArray, List.getElem_cons_succ, List.getElem_cons_zero, List.setIfInBounds_toArray, List.set_cons_zero, List.set_cons_succ])
  refine wpAnyH_take (i := 7) (v := ?_) rfl (by kernel_rfl) (by kernel_rfl) (by kernel_rfl) (fun _ _ _ h => h) (Or.inl ⟨by rfl, ?_⟩) (by assumption) ?_
  rotate_left
  focus (intro wq hSq; (try dsimp only at hSq); go_simp; first | done | (with_reducible rfl))
  (try simp only [Act.put, List.getElem_toArray, List.getElem_cons_succ, List.getElem_cons_zero, List.setIfInBounds_toArray, List.set_cons_zero, List.set_cons_succ])
  refine wpAnyH_take (i := 8) (v := ?_) rfl (by kernel_rfl) (by kernel_rfl) (by kernel_rfl) (fun _ _ _ h => h) (Or.inl ⟨by rfl, ?_⟩) (by assumption) ?_
  rotate_left
  focus (intro wq hSq; (try dsimp only at hSq); go_simp; first | done | (with_reducible rfl))
  (try simp only [Act.put, List.getElem_toArray, List.getElem_cons_succ, List.getElem_cons_zero, List.setIfInBounds_toArray, List.set_cons_zero, List.set_cons_succ])
  refine wpAnyH_take (i := 9) (v := ?_) rfl (by kernel_rfl) (by kernel_rfl) (by kernel_rfl) (fun _ _ _ h => h) (Or.inl ⟨by rfl, ?_⟩) (by assumption) ?_
  rotate_left
  focus (intro wq hSq; (try dsimp only at hSq); go_simp; first | done | (with_reducible rfl))
  (try simp only [Act.put, List.getElem_toArray, List.getElem_cons_succ, List.getElem_cons_zero, List.setIfInBounds_toArray, List.set_cons_zero, List.set_cons_succ])
  refine wpAnyH_take (i := 10) (v := ?_) rfl (by kernel_rfl) (by kernel_rfl) (by kernel_rfl) (fun _ _ _ h => h) (Or.inl ⟨by rfl, ?_⟩) (by assumption) ?_
  rotate_left
  focus (intro wq hSq; (try dsimp only at hSq); go_simp; first | done | (with_reducible rfl))
  (try simp only [Act.put, List.getElem_toArray, List.getElem_cons_succ, List.getElem_cons_zero, List.setIfInBounds_toArray, List.set_cons_zero, List.set_cons_succ])
  refine wpAnyH_done (by kernel_rfl) ?_ _
  obtain ⟨s0, s1, s2, s3⟩ := (by assumption : wr.cell? ⟨w.heap.size, 0, none⟩ = some (.int .i64 n) ∧ wr.cell? ⟨w.heap.size, 1, none⟩ = some (.int .i64 d) ∧ w.heap.size + 1 ≤ wr.heap.size ∧ Below w.heap.size w wr)
  have cV0w1 := s0
  have cV1w1 := s1
  have bVw1 : w.heap.size < wr.heap.size := Nat.lt_of_lt_of_le xV s2
  have dVw1 : w.heap.size < wr.heap.size + 1 := Nat.lt_succ_of_lt bVw1
  have hBw1 : Below w.heap.size w wr := s3
  have zw1 : w.heap.size ≤ wr.heap.size := hBw1.size
  clear s0 s1 s2 s3 xV hcr hfr hzr hBr hbr
  repeat (clear hcr hfr hzr hBr hbr)
  skip
  obtain ⟨w1, ew1⟩ : ∃ x, x = wr := ⟨_, rfl⟩
  subst ew1
  go_wp2_with fail
  refine (div64_any _ _ _ (by omega) (by omega) (by omega) _).mono ?_
  rintro e w2 ⟨rfl, hw2⟩
  have hmw2 : Below w1.heap.size w1 w2 := on_below hw2 (by repeat' (first | (with_reducible exact Below.refl _ _) | (with_reducible assumption) | (with_reducible refine drewN_below ?_ _) | (with_reducible refine Below.drew ?_) | (with_reducible refine Below.alloc ?_ ?_ _) | (with_reducible refine Below.setCell ?_ ?_ _) | (simp; done) | omega | (simp; omega))) (by first | (with_reducible assumption) | (simp; done) | omega | (simp; omega))
  have cV0w2 := (hmw2.cell (p := ⟨w.heap.size, 0, none⟩) bVw1).trans cV0w1
  have cV1w2 := (hmw2.cell (p := ⟨w.heap.size, 1, none⟩) bVw1).trans cV1w1
  have bVw2 : w.heap.size < w2.heap.size := Nat.lt_of_lt_of_le bVw1 hmw2.size
  have dVw2 : w.heap.size < w2.heap.size + 1 := Nat.lt_succ_of_lt bVw2
  have hBw2 : Below w.heap.size w w2 := Below.trans hBw1 (hmw2.mono hBw1.size)
  have zw2 : w.heap.size ≤ w2.heap.size := hBw2.size
  clear hmw2 hw2 zw1 hBw1 dVw1 bVw1 cV1w1 cV0w1
  rw [ra.out.k, ra.out.t]
  go_wp2
  go_ret
  exact ⟨rfl, (by repeat' (first | (with_reducible exact Below.refl _ _) | (with_reducible assumption) | (with_reducible refine drewN_below ?_ _) | (with_reducible refine Below.drew ?_) | (with_reducible refine Below.alloc ?_ ?_ _) | (with_reducible refine Below.setCell ?_ ?_ _) | (simp; done) | omega | (simp; omega)))⟩
set_option maxHeartbeats 1000000 in
theorem rd_floor_pos (n d e D H L K T : Int) (A B M : Nat) (ha : A ≤ 60) (hB : B ≤ 60) (e1 : max 0 (-e) = (A : Int)) (e2 : max 0 e = (B : Int)) (hn : -2305843009213693952 ≤ n ∧ n ≤ 2305843009213693952) (hd : 1 ≤ d ∧ d ≤ 2305843009213693952) (he : -60 ≤ e ∧ e ≤ 60) (ra : Hid (RA n d D H L K T A B M)) (h0 : 0 ≤ n) (w : World) :
    Calls Tryd.prog 68 #[.agg #[.int .i64 n, .int .i64 d], .int .i64 e, .string ⟨#[102, 108, 111, 111, 114]⟩] w fun en w' => en = .returned (.int .i64 (K)) ∧ Below w.heap.size w w' := by
  have f1 : IntKind.u64.wrap d = d := IntWalk.u64_in _ (by omega)
  have f2 : IntKind.u64.wrap (d * 2 ^ A) = D := by rw [ra.out.d2]; exact IntWalk.u64_in _ (by have := ra.out.db; omega)
  have f3 : IntKind.u64.wrap (2 ^ B) = (M : Int) := by rw [← ra.out.m]; have e := Z.p2_uwrap B (by omega); rw [e]; simp
  have hM := ra.out.mb
  have hH := ra.out.hb
  have hL := ra.out.lb
  have hD := ra.out.db
  have hK := ra.out.kb
  have hT := ra.out.tb
  have g0 : decide (n < 0) = false := decide_eq_false (by omega)
  go_enter Tryd.func68, Tryd.ntmps68
  go_wp2
  have xV : w.heap.size < w.heap.size + 1 := by omega
  refine wp_region_held_drew (S := (fun w' => w'.cell? ⟨w.heap.size, 0, none⟩ = some (.int .i64 n) ∧ w'.cell? ⟨w.heap.size, 1, none⟩ = some (.int .i64 d) ∧ w.heap.size + 1 ≤ w'.heap.size ∧ Below w.heap.size w w')) (by kernel_rfl) ?_ ?_
  · (refine ⟨?_, ?_, ?_, ?_⟩ <;> first | assumption | ((repeat' (first | (with_reducible exact Below.refl _ _) | (with_reducible assumption) | (with_reducible refine drewN_below ?_ _) | (with_reducible refine Below.drew ?_) | (with_reducible refine Below.alloc ?_ ?_ _) | (with_reducible refine Below.setCell ?_ ?_ _) | (simp; done) | omega | (simp; omega))); done) | (simp [*]; done) | (simp [go_sem, *]; done) | (simp; omega))
  intro hH0
  refine wpAnyH_take (i := 0) (v := ?_) rfl (by kernel_rfl) (by kernel_rfl) (by kernel_rfl) (fun _ _ _ h => h) (Or.inl ⟨by rfl, ?_⟩) (by assumption) ?_
  rotate_left
  focus (intro wq hSq; (try dsimp only at hSq); go_simp; first | done | (with_reducible rfl))
  (try simp only [Act.put, List.getElem_toArray, List.getElem_cons_zero, List.setIfInBounds_toArray, List.set_cons_zero, List.set_cons_succ])
  refine wpAnyH_take (i := 2) (v := ?_) rfl (by kernel_rfl) (by kernel_rfl) (by kernel_rfl) (fun _ _ _ h => h) (Or.inl ⟨by rfl, ?_⟩) (by assumption) ?_
  rotate_left
  focus (intro wq hSq; (try dsimp only at hSq); go_simp; first | done | (with_reducible rfl))
  (try simp only [Act.put, List.getElem_toArray, List.getElem_cons_succ, List.getElem_cons_zero, List.setIfInBounds_toArray, List.set_cons_zero, List.set_cons_succ])
  refine wpAnyH_take (i := 3) (v := ?_) rfl (by kernel_rfl) (by kernel_rfl) (by kernel_rfl) (fun _ _ _ h => h) (Or.inl ⟨by rfl, ?_⟩) (by assumption) ?_
  rotate_left
  focus (intro wq hSq; (try dsimp only at hSq); go_simp; first | done | (with_reducible rfl))
  (try simp only [Act.put, List.getElem_toArray, List.getElem_cons_succ, List.getElem_cons_zero, List.setIfInBounds_toArray, List.set_cons_zero, List.set_cons_succ])
  refine wpAnyH_take (i := 4) (v := ?_) rfl (by kernel_rfl) (by kernel_rfl) (by kernel_rfl) (fun _ _ _ h => h) (Or.inl ⟨by rfl, ?_⟩) (by assumption) ?_
  rotate_left
  focus (intro wq hSq; (try dsimp only at hSq); go_simp; first | done | (with_reducible rfl))
  (try simp only [Act.put, List.getElem_toArray, List.getElem_cons_succ, List.getElem_cons_zero, List.setIfInBounds_toArray, List.set_cons_zero, List.set_cons_succ])
  refine wpAnyH_ready (rs := [1]) (by kernel_rfl) (by simp) ?_
  refine AllReadyH.cons rfl (fun K hK => ?_) AllReadyH.nil
  rw [if_pos (by rfl)]
  go_simp
  refine (xsize_any _ _ (by omega) _).mono ?_
  rintro e wr ⟨rfl, hbr⟩
  obtain ⟨hcr, hfr, hzr, hBr⟩ := after (a := w) (B := w.heap.size) (w.heap.size + 1) hbr (by first | (with_reducible assumption) | (simp; done) | omega | (simp; omega)) (by repeat' (first | (with_reducible exact Below.refl _ _) | (with_reducible assumption) | (with_reducible refine drewN_below ?_ _) | (with_reducible refine Below.drew ?_) | (with_reducible refine Below.alloc ?_ ?_ _) | (with_reducible refine Below.setCell ?_ ?_ _) | (simp; done) | omega | (simp; omega))) (by omega)
  have yV := Nat.lt_of_lt_of_le xV hzr
  dsimp only
  refine hK.out _ _ ?_ (fun hHeld => ?_)
  · (refine ⟨?_, ?_, ?_, ?_⟩ <;> first | assumption | ((repeat' (first | (with_reducible exact Below.refl _ _) | (with_reducible assumption) | (with_reducible refine drewN_below ?_ _) | (with_reducible refine Below.drew ?_) | (with_reducible refine Below.alloc ?_ ?_ _) | (with_reducible refine Below.setCell ?_ ?_ _) | (simp; done) | omega | (simp; omega))); done) | (simp [*]; done) | (simp [go_sem, *]; done) | (simp; omega))
  clear hK K
  (try simp only [Act.put, List.getElem_toArray, List.getElem_cons_succ, List.getElem_cons_zero, List.setIfInBounds_toArray, List.set_cons_zero, List.set_cons_succ])
  refine wpAnyH_ready (rs := [5]) (by kernel_rfl) (by simp) ?_
  refine AllReadyH.cons rfl (fun K hK => ?_) AllReadyH.nil
  rw [if_pos (by rfl)]
  go_simp
  refine (mul64_any _ _ (by omega) (by omega) _).mono ?_
  rintro e wr ⟨rfl, hbr⟩
  obtain ⟨hcr, hfr, hzr, hBr⟩ := after (a := w) (B := w.heap.size) (w.heap.size + 1) hbr (by first | (with_reducible assumption) | (simp; done) | omega | (simp; omega)) (by repeat' (first | (with_reducible exact Below.refl _ _) | (with_reducible assumption) | (with_reducible refine drewN_below ?_ _) | (with_reducible refine Below.drew ?_) | (with_reducible refine Below.alloc ?_ ?_ _) | (with_reducible refine Below.setCell ?_ ?_ _) | (simp; done) | omega | (simp; omega))) (by omega)
  have yV := Nat.lt_of_lt_of_le xV hzr
  rw [ra.out.h, ra.out.l]
  dsimp only
  refine hK.out _ _ ?_ (fun hHeld => ?_)
  · (refine ⟨?_, ?_, ?_, ?_⟩ <;> first | assumption | ((repeat' (first | (with_reducible exact Below.refl _ _) | (with_reducible assumption) | (with_reducible refine drewN_below ?_ _) | (with_reducible refine Below.drew ?_) | (with_reducible refine Below.alloc ?_ ?_ _) | (with_reducible refine Below.setCell ?_ ?_ _) | (simp; done) | omega | (simp; omega))); done) | (simp [*]; done) | (simp [go_sem, *]; done) | (simp; omega))
  clear hK K
  (try simp only [Act.put, List.getElem_toArray, List.getElem_cons_succ, List.getElem_cons_zero, List.setIfInBounds_toArray, List.set_cons_zero, List.set_cons_succ])
  refine wpAnyH_take (i := 6) (v := ?_) rfl (by kernel_rfl) (by kernel_rfl) (by kernel_rfl) (fun _ _ _ h => h) (Or.inl ⟨by rfl, ?_⟩) (by assumption) ?_
  rotate_left
  focus (intro wq hSq; (try dsimp only at hSq); go_simp; first | done | (with_reducible rfl))
  (try simp only [Act.put, List.getElem_toArray, List.getElem_cons_succ, List.getElem_cons_zero, List.setIfInBounds_toArray, List.set_cons_zero, List.set_cons_succ])
  refine wpAnyH_take (i := 7) (v := ?_) rfl (by kernel_rfl) (by kernel_rfl) (by kernel_rfl) (fun _ _ _ h => h) (Or.inl ⟨by rfl, ?_⟩) (by assumption) ?_
  rotate_left
  focus (intro wq hSq; (try dsimp only at hSq); go_simp; first | done | (with_reducible rfl))
  (try simp only [Act.put, List.getElem_toArray, List.getElem_cons_succ, List.getElem_cons_zero, List.setIfInBounds_toArray, List.set_cons_zero, List.set_cons_succ])
  refine wpAnyH_take (i := 8) (v := ?_) rfl (by kernel_rfl) (by kernel_rfl) (by kernel_rfl) (fun _ _ _ h => h) (Or.inl ⟨by rfl, ?_⟩) (by assumption) ?_
  rotate_left
  focus (intro wq hSq; (try dsimp only at hSq); go_simp; first | done | (with_reducible rfl))
  (try simp only [Act.put, List.getElem_toArray, List.getElem_cons_succ, List.getElem_cons_zero, List.setIfInBounds_toArray, List.set_cons_zero, List.set_cons_succ])
  refine wpAnyH_take (i := 9) (v := ?_) rfl (by kernel_rfl) (by kernel_rfl) (by kernel_rfl) (fun _ _ _ h => h) (Or.inl ⟨by rfl, ?_⟩) (by assumption) ?_
  rotate_left
  focus (intro wq hSq; (try dsimp only at hSq); go_simp; first | done | (with_reducible rfl))
  (try simp only [Act.put, List.getElem_toArray, List.getElem_cons_succ, List.getElem_cons_zero, List.setIfInBounds_toArray, List.set_cons_zero, List.set_cons_succ])
  refine wpAnyH_take (i := 10) (v := ?_) rfl (by kernel_rfl) (by kernel_rfl) (by kernel_rfl) (fun _ _ _ h => h) (Or.inl ⟨by rfl, ?_⟩) (by assumption) ?_
  rotate_left
  focus (intro wq hSq; (try dsimp only at hSq); go_simp; first | done | (with_reducible rfl))
  (try simp only [Act.put, List.getElem_toArray, List.getElem_cons_succ, List.getElem_cons_zero, List.setIfInBounds_toArray, List.set_cons_zero, List.set_cons_succ])
  refine wpAnyH_done (by kernel_rfl) ?_ _
  obtain ⟨s0, s1, s2, s3⟩ := (by assumption : wr.cell? ⟨w.heap.size, 0, none⟩ = some (.int .i64 n) ∧ wr.cell? ⟨w.heap.size, 1, none⟩ = some (.int .i64 d) ∧ w.heap.size + 1 ≤ wr.heap.size ∧ Below w.heap.size w wr)
  have cV0w1 := s0
  have cV1w1 := s1
  have bVw1 : w.heap.size < wr.heap.size := Nat.lt_of_lt_of_le xV s2
  have dVw1 : w.heap.size < wr.heap.size + 1 := Nat.lt_succ_of_lt bVw1
  have hBw1 : Below w.heap.size w wr := s3
  have zw1 : w.heap.size ≤ wr.heap.size := hBw1.size
  clear s0 s1 s2 s3 xV hcr hfr hzr hBr hbr
  repeat (clear hcr hfr hzr hBr hbr)
  skip
  obtain ⟨w1, ew1⟩ : ∃ x, x = wr := ⟨_, rfl⟩
  subst ew1
  go_wp2_with fail
  refine (div64_any _ _ _ (by omega) (by omega) (by omega) _).mono ?_
  rintro e w2 ⟨rfl, hw2⟩
  have hmw2 : Below w1.heap.size w1 w2 := on_below hw2 (by repeat' (first | (with_reducible exact Below.refl _ _) | (with_reducible assumption) | (with_reducible refine drewN_below ?_ _) | (with_reducible refine Below.drew ?_) | (with_reducible refine Below.alloc ?_ ?_ _) | (with_reducible refine Below.setCell ?_ ?_ _) | (simp; done) | omega | (simp; omega))) (by first | (with_reducible assumption) | (simp; done) | omega | (simp; omega))
  have cV0w2 := (hmw2.cell (p := ⟨w.heap.size, 0, none⟩) bVw1).trans cV0w1
  have cV1w2 := (hmw2.cell (p := ⟨w.heap.size, 1, none⟩) bVw1).trans cV1w1
  have bVw2 : w.heap.size < w2.heap.size := Nat.lt_of_lt_of_le bVw1 hmw2.size
  have dVw2 : w.heap.size < w2.heap.size + 1 := Nat.lt_succ_of_lt bVw2
  have hBw2 : Below w.heap.size w w2 := Below.trans hBw1 (hmw2.mono hBw1.size)
  have zw2 : w.heap.size ≤ w2.heap.size := hBw2.size
  clear hmw2 hw2 zw1 hBw1 dVw1 bVw1 cV1w1 cV0w1
  rw [ra.out.k, ra.out.t]
  go_wp2
  go_ret
  exact ⟨rfl, (by repeat' (first | (with_reducible exact Below.refl _ _) | (with_reducible assumption) | (with_reducible refine drewN_below ?_ _) | (with_reducible refine Below.drew ?_) | (with_reducible refine Below.alloc ?_ ?_ _) | (with_reducible refine Below.setCell ?_ ?_ _) | (simp; done) | omega | (simp; omega)))⟩
set_option maxHeartbeats 1000000 in
theorem rd_floor_up_neg (n d e D H L K T : Int) (A B M : Nat) (ha : A ≤ 60) (hB : B ≤ 60) (e1 : max 0 (-e) = (A : Int)) (e2 : max 0 e = (B : Int)) (hn : -2305843009213693952 ≤ n ∧ n ≤ 2305843009213693952) (hd : 1 ≤ d ∧ d ≤ 2305843009213693952) (he : -60 ≤ e ∧ e ≤ 60) (ra : Hid (RA n d D H L K T A B M)) (h0 : n < 0) (h1 : 0 < T) (w : World) :
    Calls Tryd.prog 68 #[.agg #[.int .i64 n, .int .i64 d], .int .i64 e, .string ⟨#[102, 108, 111, 111, 114]⟩] w fun en w' => en = .returned (.int .i64 (-(K + 1))) ∧ Below w.heap.size w w' := by
  have f1 : IntKind.u64.wrap d = d := IntWalk.u64_in _ (by omega)
  have f2 : IntKind.u64.wrap (d * 2 ^ A) = D := by rw [ra.out.d2]; exact IntWalk.u64_in _ (by have := ra.out.db; omega)
  have f3 : IntKind.u64.wrap (2 ^ B) = (M : Int) := by rw [← ra.out.m]; have e := Z.p2_uwrap B (by omega); rw [e]; simp
  have hM := ra.out.mb
  have hH := ra.out.hb
  have hL := ra.out.lb
  have hD := ra.out.db
  have hK := ra.out.kb
  have hT := ra.out.tb
  have g0 : decide (n < 0) = true := decide_eq_true h0
  have g1 : decide (0 < T) = true := decide_eq_true h1
  go_enter Tryd.func68, Tryd.ntmps68
  go_wp2
  have xV : w.heap.size < w.heap.size + 1 := by omega
  refine wp_region_held_drew (S := (fun w' => w'.cell? ⟨w.heap.size, 0, none⟩ = some (.int .i64 n) ∧ w'.cell? ⟨w.heap.size, 1, none⟩ = some (.int .i64 d) ∧ w.heap.size + 1 ≤ w'.heap.size ∧ Below w.heap.size w w')) (by kernel_rfl) ?_ ?_
  · (refine ⟨?_, ?_, ?_, ?_⟩ <;> first | assumption | ((repeat' (first | (with_reducible exact Below.refl _ _) | (with_reducible assumption) | (with_reducible refine drewN_below ?_ _) | (with_reducible refine Below.drew ?_) | (with_reducible refine Below.alloc ?_ ?_ _) | (with_reducible refine Below.setCell ?_ ?_ _) | (simp; done) | omega | (simp; omega))); done) | (simp [*]; done) | (simp [go_sem, *]; done) | (simp; omega))
  intro hH0
  refine wpAnyH_take (i := 0) (v := ?_) rfl (by kernel_rfl) (by kernel_rfl) (by kernel_rfl) (fun _ _ _ h => h) (Or.inl ⟨by rfl, ?_⟩) (by assumption) ?_
  rotate_left
  focus (intro wq hSq; (try dsimp only at hSq); go_simp; first | done | (with_reducible rfl))
  (try simp only [Act.put, List.getElem_toArray, List.getElem_cons_zero, List.setIfInBounds_toArray, List.set_cons_zero, List.set_cons_succ])
  refine wpAnyH_take (i := 2) (v := ?_) rfl (by kernel_rfl) (by kernel_rfl) (by kernel_rfl) (fun _ _ _ h => h) (Or.inl ⟨by rfl, ?_⟩) (by assumption) ?_
  rotate_left
  focus (intro wq hSq; (try dsimp only at hSq); go_simp; first | done | (with_reducible rfl))
  (try simp only [Act.put, List.getElem_toArray, List.getElem_cons_succ, List.getElem_cons_zero, List.setIfInBounds_toArray, List.set_cons_zero, List.set_cons_succ])
  refine wpAnyH_take (i := 3) (v := ?_) rfl (by kernel_rfl) (by kernel_rfl) (by kernel_rfl) (fun _ _ _ h => h) (Or.inl ⟨by rfl, ?_⟩) (by assumption) ?_
  rotate_left
  focus (intro wq hSq; (try dsimp only at hSq); go_simp; first | done | (with_reducible rfl))
  (try simp only [Act.put, List.getElem_toArray, List.getElem_cons_succ, List.getElem_cons_zero, List.setIfInBounds_toArray, List.set_cons_zero, List.set_cons_succ])
  refine wpAnyH_take (i := 4) (v := ?_) rfl (by kernel_rfl) (by kernel_rfl) (by kernel_rfl) (fun _ _ _ h => h) (Or.inl ⟨by rfl, ?_⟩) (by assumption) ?_
  rotate_left
  focus (intro wq hSq; (try dsimp only at hSq); go_simp; first | done | (with_reducible rfl))
  (try simp only [Act.put, List.getElem_toArray, List.getElem_cons_succ, List.getElem_cons_zero, List.setIfInBounds_toArray, List.set_cons_zero, List.set_cons_succ])
  refine wpAnyH_ready (rs := [1]) (by kernel_rfl) (by simp) ?_
  refine AllReadyH.cons rfl (fun K hK => ?_) AllReadyH.nil
  rw [if_pos (by rfl)]
  go_simp
  refine (xsize_any _ _ (by omega) _).mono ?_
  rintro e wr ⟨rfl, hbr⟩
  obtain ⟨hcr, hfr, hzr, hBr⟩ := after (a := w) (B := w.heap.size) (w.heap.size + 1) hbr (by first | (with_reducible assumption) | (simp; done) | omega | (simp; omega)) (by repeat' (first | (with_reducible exact Below.refl _ _) | (with_reducible assumption) | (with_reducible refine drewN_below ?_ _) | (with_reducible refine Below.drew ?_) | (with_reducible refine Below.alloc ?_ ?_ _) | (with_reducible refine Below.setCell ?_ ?_ _) | (simp; done) | omega | (simp; omega))) (by omega)
  have yV := Nat.lt_of_lt_of_le xV hzr
  dsimp only
  refine hK.out _ _ ?_ (fun hHeld => ?_)
  · (refine ⟨?_, ?_, ?_, ?_⟩ <;> first | assumption | ((repeat' (first | (with_reducible exact Below.refl _ _) | (with_reducible assumption) | (with_reducible refine drewN_below ?_ _) | (with_reducible refine Below.drew ?_) | (with_reducible refine Below.alloc ?_ ?_ _) | (with_reducible refine Below.setCell ?_ ?_ _) | (simp; done) | omega | (simp; omega))); done) | (simp [*]; done) | (simp [go_sem, *]; done) | (simp; omega))
  clear hK K
  (try simp only [Act.put, List.getElem_toArray, List.getElem_cons_succ, List.getElem_cons_zero, List.setIfInBounds_toArray, List.set_cons_zero, List.set_cons_succ])
  refine wpAnyH_ready (rs := [5]) (by kernel_rfl) (by simp) ?_
  refine AllReadyH.cons rfl (fun K hK => ?_) AllReadyH.nil
  rw [if_pos (by rfl)]
  go_simp
  refine (mul64_any _ _ (by omega) (by omega) _).mono ?_
  rintro e wr ⟨rfl, hbr⟩
  obtain ⟨hcr, hfr, hzr, hBr⟩ := after (a := w) (B := w.heap.size) (w.heap.size + 1) hbr (by first | (with_reducible assumption) | (simp; done) | omega | (simp; omega)) (by repeat' (first | (with_reducible exact Below.refl _ _) | (with_reducible assumption) | (with_reducible refine drewN_below ?_ _) | (with_reducible refine Below.drew ?_) | (with_reducible refine Below.alloc ?_ ?_ _) | (with_reducible refine Below.setCell ?_ ?_ _) | (simp; done) | omega | (simp; omega))) (by omega)
  have yV := Nat.lt_of_lt_of_le xV hzr
  rw [ra.out.h, ra.out.l]
  dsimp only
  refine hK.out _ _ ?_ (fun hHeld => ?_)
  · (refine ⟨?_, ?_, ?_, ?_⟩ <;> first | assumption | ((repeat' (first | (with_reducible exact Below.refl _ _) | (with_reducible assumption) | (with_reducible refine drewN_below ?_ _) | (with_reducible refine Below.drew ?_) | (with_reducible refine Below.alloc ?_ ?_ _) | (with_reducible refine Below.setCell ?_ ?_ _) | (simp; done) | omega | (simp; omega))); done) | (simp [*]; done) | (simp [go_sem, *]; done) | (simp; omega))
  clear hK K
  (try simp only [Act.put, List.getElem_toArray, List.getElem_cons_succ, List.getElem_cons_zero, List.setIfInBounds_toArray, List.set_cons_zero, List.set_cons_succ])
  refine wpAnyH_take (i := 6) (v := ?_) rfl (by kernel_rfl) (by kernel_rfl) (by kernel_rfl) (fun _ _ _ h => h) (Or.inl ⟨by rfl, ?_⟩) (by assumption) ?_
  rotate_left
  focus (intro wq hSq; (try dsimp only at hSq); go_simp; first | done | (with_reducible rfl))
  (try simp only [Act.put, List.getElem_toArray, List.getElem_cons_succ, List.getElem_cons_zero, List.setIfInBounds_toArray, List.set_cons_zero, List.set_cons_succ])
  refine wpAnyH_take (i := 7) (v := ?_) rfl (by kernel_rfl) (by kernel_rfl) (by kernel_rfl) (fun _ _ _ h => h) (Or.inl ⟨by rfl, ?_⟩) (by assumption) ?_
  rotate_left
  focus (intro wq hSq; (try dsimp only at hSq); go_simp; first | done | (with_reducible rfl))
  (try simp only [Act.put, List.getElem_toArray, List.getElem_cons_succ, List.getElem_cons_zero, List.setIfInBounds_toArray, List.set_cons_zero, List.set_cons_succ])
  refine wpAnyH_take (i := 8) (v := ?_) rfl (by kernel_rfl) (by kernel_rfl) (by kernel_rfl) (fun _ _ _ h => h) (Or.inl ⟨by rfl, ?_⟩) (by assumption) ?_
  rotate_left
  focus (intro wq hSq; (try dsimp only at hSq); go_simp; first | done | (with_reducible rfl))
  (try simp only [Act.put, List.getElem_toArray, List.getElem_cons_succ, List.getElem_cons_zero, List.setIfInBounds_toArray, List.set_cons_zero, List.set_cons_succ])
  refine wpAnyH_take (i := 9) (v := ?_) rfl (by kernel_rfl) (by kernel_rfl) (by kernel_rfl) (fun _ _ _ h => h) (Or.inl ⟨by rfl, ?_⟩) (by assumption) ?_
  rotate_left
  focus (intro wq hSq; (try dsimp only at hSq); go_simp; first | done | (with_reducible rfl))
  (try simp only [Act.put, List.getElem_toArray, List.getElem_cons_succ, List.getElem_cons_zero, List.setIfInBounds_toArray, List.set_cons_zero, List.set_cons_succ])
  refine wpAnyH_take (i := 10) (v := ?_) rfl (by kernel_rfl) (by kernel_rfl) (by kernel_rfl) (fun _ _ _ h => h) (Or.inl ⟨by rfl, ?_⟩) (by assumption) ?_
  rotate_left
  focus (intro wq hSq; (try dsimp only at hSq); go_simp; first | done | (with_reducible rfl))
  (try simp only [Act.put, List.getElem_toArray, List.getElem_cons_succ, List.getElem_cons_zero, List.setIfInBounds_toArray, List.set_cons_zero, List.set_cons_succ])
  refine wpAnyH_done (by kernel_rfl) ?_ _
  obtain ⟨s0, s1, s2, s3⟩ := (by assumption : wr.cell? ⟨w.heap.size, 0, none⟩ = some (.int .i64 n) ∧ wr.cell? ⟨w.heap.size, 1, none⟩ = some (.int .i64 d) ∧ w.heap.size + 1 ≤ wr.heap.size ∧ Below w.heap.size w wr)
  have cV0w1 := s0
  have cV1w1 := s1
  have bVw1 : w.heap.size < wr.heap.size := Nat.lt_of_lt_of_le xV s2
  have dVw1 : w.heap.size < wr.heap.size + 1 := Nat.lt_succ_of_lt bVw1
  have hBw1 : Below w.heap.size w wr := s3
  have zw1 : w.heap.size ≤ wr.heap.size := hBw1.size
  clear s0 s1 s2 s3 xV hcr hfr hzr hBr hbr
  repeat (clear hcr hfr hzr hBr hbr)
  skip
  obtain ⟨w1, ew1⟩ : ∃ x, x = wr := ⟨_, rfl⟩
  subst ew1
  go_wp2_with fail
  refine (div64_any _ _ _ (by omega) (by omega) (by omega) _).mono ?_
  rintro e w2 ⟨rfl, hw2⟩
  have hmw2 : Below w1.heap.size w1 w2 := on_below hw2 (by repeat' (first | (with_reducible exact Below.refl _ _) | (with_reducible assumption) | (with_reducible refine drewN_below ?_ _) | (with_reducible refine Below.drew ?_) | (with_reducible refine Below.alloc ?_ ?_ _) | (with_reducible refine Below.setCell ?_ ?_ _) | (simp; done) | omega | (simp; omega))) (by first | (with_reducible assumption) | (simp; done) | omega | (simp; omega))
  have cV0w2 := (hmw2.cell (p := ⟨w.heap.size, 0, none⟩) bVw1).trans cV0w1
  have cV1w2 := (hmw2.cell (p := ⟨w.heap.size, 1, none⟩) bVw1).trans cV1w1
  have bVw2 : w.heap.size < w2.heap.size := Nat.lt_of_lt_of_le bVw1 hmw2.size
  have dVw2 : w.heap.size < w2.heap.size + 1 := Nat.lt_succ_of_lt bVw2
  have hBw2 : Below w.heap.size w w2 := Below.trans hBw1 (hmw2.mono hBw1.size)
  have zw2 : w.heap.size ≤ w2.heap.size := hBw2.size
  clear hmw2 hw2 zw1 hBw1 dVw1 bVw1 cV1w1 cV0w1
  rw [ra.out.k, ra.out.t]
  go_wp2
  go_ret
  exact ⟨rfl, (by repeat' (first | (with_reducible exact Below.refl _ _) | (with_reducible assumption) | (with_reducible refine drewN_below ?_ _) | (with_reducible refine Below.drew ?_) | (with_reducible refine Below.alloc ?_ ?_ _) | (with_reducible refine Below.setCell ?_ ?_ _) | (simp; done) | omega | (simp; omega)))⟩
set_option maxHeartbeats 1000000 in
theorem rd_floor_neg (n d e D H L K T : Int) (A B M : Nat) (ha : A ≤ 60) (hB : B ≤ 60) (e1 : max 0 (-e) = (A : Int)) (e2 : max 0 e = (B : Int)) (hn : -2305843009213693952 ≤ n ∧ n ≤ 2305843009213693952) (hd : 1 ≤ d ∧ d ≤ 2305843009213693952) (he : -60 ≤ e ∧ e ≤ 60) (ra : Hid (RA n d D H L K T A B M)) (h0 : n < 0) (h1 : T = 0) (w : World) :
    Calls Tryd.prog 68 #[.agg #[.int .i64 n, .int .i64 d], .int .i64 e, .string ⟨#[102, 108, 111, 111, 114]⟩] w fun en w' => en = .returned (.int .i64 (-(K))) ∧ Below w.heap.size w w' := by
  have f1 : IntKind.u64.wrap d = d := IntWalk.u64_in _ (by omega)
  have f2 : IntKind.u64.wrap (d * 2 ^ A) = D := by rw [ra.out.d2]; exact IntWalk.u64_in _ (by have := ra.out.db; omega)
  have f3 : IntKind.u64.wrap (2 ^ B) = (M : Int) := by rw [← ra.out.m]; have e := Z.p2_uwrap B (by omega); rw [e]; simp
  have hM := ra.out.mb
  have hH := ra.out.hb
  have hL := ra.out.lb
  have hD := ra.out.db
  have hK := ra.out.kb
  have hT := ra.out.tb
  have g0 : decide (n < 0) = true := decide_eq_true h0
  have g1 : decide (0 < T) = false := decide_eq_false (by omega)
  go_enter Tryd.func68, Tryd.ntmps68
  go_wp2
  have xV : w.heap.size < w.heap.size + 1 := by omega
  refine wp_region_held_drew (S := (fun w' => w'.cell? ⟨w.heap.size, 0, none⟩ = some (.int .i64 n) ∧ w'.cell? ⟨w.heap.size, 1, none⟩ = some (.int .i64 d) ∧ w.heap.size + 1 ≤ w'.heap.size ∧ Below w.heap.size w w')) (by kernel_rfl) ?_ ?_
  · (refine ⟨?_, ?_, ?_, ?_⟩ <;> first | assumption | ((repeat' (first | (with_reducible exact Below.refl _ _) | (with_reducible assumption) | (with_reducible refine drewN_below ?_ _) | (with_reducible refine Below.drew ?_) | (with_reducible refine Below.alloc ?_ ?_ _) | (with_reducible refine Below.setCell ?_ ?_ _) | (simp; done) | omega | (simp; omega))); done) | (simp [*]; done) | (simp [go_sem, *]; done) | (simp; omega))
  intro hH0
  refine wpAnyH_take (i := 0) (v := ?_) rfl (by kernel_rfl) (by kernel_rfl) (by kernel_rfl) (fun _ _ _ h => h) (Or.inl ⟨by rfl, ?_⟩) (by assumption) ?_
  rotate_left
  focus (intro wq hSq; (try dsimp only at hSq); go_simp; first | done | (with_reducible rfl))
  (try simp only [Act.put, List.getElem_toArray, List.getElem_cons_zero, List.setIfInBounds_toArray, List.set_cons_zero, List.set_cons_succ])
  refine wpAnyH_take (i := 2) (v := ?_) rfl (by kernel_rfl) (by kernel_rfl) (by kernel_rfl) (fun _ _ _ h => h) (Or.inl ⟨by rfl, ?_⟩) (by assumption) ?_
  rotate_left
  focus (intro wq hSq; (try dsimp only at hSq); go_simp; first | done | (with_reducible rfl))
  (try simp only [Act.put, List.getElem_toArray, List.getElem_cons_succ, List.getElem_cons_zero, List.setIfInBounds_toArray, List.set_cons_zero, List.set_cons_succ])
  refine wpAnyH_take (i := 3) (v := ?_) rfl (by kernel_rfl) (by kernel_rfl) (by kernel_rfl) (fun _ _ _ h => h) (Or.inl ⟨by rfl, ?_⟩) (by assumption) ?_
  rotate_left
  focus (intro wq hSq; (try dsimp only at hSq); go_simp; first | done | (with_reducible rfl))
  (try simp only [Act.put, List.getElem_toArray, List.getElem_cons_succ, List.getElem_cons_zero, List.setIfInBounds_toArray, List.set_cons_zero, List.set_cons_succ])
  refine wpAnyH_take (i := 4) (v := ?_) rfl (by kernel_rfl) (by kernel_rfl) (by kernel_rfl) (fun _ _ _ h => h) (Or.inl ⟨by rfl, ?_⟩) (by assumption) ?_
  rotate_left
  focus (intro wq hSq; (try dsimp only at hSq); go_simp; first | done | (with_reducible rfl))
  (try simp only [Act.put, List.getElem_toArray, List.getElem_cons_succ, List.getElem_cons_zero, List.setIfInBounds_toArray, List.set_cons_zero, List.set_cons_succ])
  refine wpAnyH_ready (rs := [1]) (by kernel_rfl) (by simp) ?_
  refine AllReadyH.cons rfl (fun K hK => ?_) AllReadyH.nil
  rw [if_pos (by rfl)]
  go_simp
  refine (xsize_any _ _ (by omega) _).mono ?_
  rintro e wr ⟨rfl, hbr⟩
  obtain ⟨hcr, hfr, hzr, hBr⟩ := after (a := w) (B := w.heap.size) (w.heap.size + 1) hbr (by first | (with_reducible assumption) | (simp; done) | omega | (simp; omega)) (by repeat' (first | (with_reducible exact Below.refl _ _) | (with_reducible assumption) | (with_reducible refine drewN_below ?_ _) | (with_reducible refine Below.drew ?_) | (with_reducible refine Below.alloc ?_ ?_ _) | (with_reducible refine Below.setCell ?_ ?_ _) | (simp; done) | omega | (simp; omega))) (by omega)
  have yV := Nat.lt_of_lt_of_le xV hzr
  dsimp only
  refine hK.out _ _ ?_ (fun hHeld => ?_)
  · (refine ⟨?_, ?_, ?_, ?_⟩ <;> first | assumption | ((repeat' (first | (with_reducible exact Below.refl _ _) | (with_reducible assumption) | (with_reducible refine drewN_below ?_ _) | (with_reducible refine Below.drew ?_) | (with_reducible refine Below.alloc ?_ ?_ _) | (with_reducible refine Below.setCell ?_ ?_ _) | (simp; done) | omega | (simp; omega))); done) | (simp [*]; done) | (simp [go_sem, *]; done) | (simp; omega))
  clear hK K
  (try simp only [Act.put, List.getElem_toArray, List.getElem_cons_succ, List.getElem_cons_zero, List.setIfInBounds_toArray, List.set_cons_zero, List.set_cons_succ])
  refine wpAnyH_ready (rs := [5]) (by kernel_rfl) (by simp) ?_
  refine AllReadyH.cons rfl (fun K hK => ?_) AllReadyH.nil
  rw [if_pos (by rfl)]
  go_simp
  refine (mul64_any _ _ (by omega) (by omega) _).mono ?_
  rintro e wr ⟨rfl, hbr⟩
  obtain ⟨hcr, hfr, hzr, hBr⟩ := after (a := w) (B := w.heap.size) (w.heap.size + 1) hbr (by first | (with_reducible assumption) | (simp; done) | omega | (simp; omega)) (by repeat' (first | (with_reducible exact Below.refl _ _) | (with_reducible assumption) | (with_reducible refine drewN_below ?_ _) | (with_reducible refine Below.drew ?_) | (with_reducible refine Below.alloc ?_ ?_ _) | (with_reducible refine Below.setCell ?_ ?_ _) | (simp; done) | omega | (simp; omega))) (by omega)
  have yV := Nat.lt_of_lt_of_le xV hzr
  rw [ra.out.h, ra.out.l]
  dsimp only
  refine hK.out _ _ ?_ (fun hHeld => ?_)
  · (refine ⟨?_, ?_, ?_, ?_⟩ <;> first | assumption | ((repeat' (first | (with_reducible exact Below.refl _ _) | (with_reducible assumption) | (with_reducible refine drewN_below ?_ _) | (with_reducible refine Below.drew ?_) | (with_reducible refine Below.alloc ?_ ?_ _) | (with_reducible refine Below.setCell ?_ ?_ _) | (simp; done) | omega | (simp; omega))); done) | (simp [*]; done) | (simp [go_sem, *]; done) | (simp; omega))
  clear hK K
  (try simp only [Act.put, List.getElem_toArray, List.getElem_cons_succ, List.getElem_cons_zero, List.setIfInBounds_toArray, List.set_cons_zero, List.set_cons_succ])
  refine wpAnyH_take (i := 6) (v := ?_) rfl (by kernel_rfl) (by kernel_rfl) (by kernel_rfl) (fun _ _ _ h => h) (Or.inl ⟨by rfl, ?_⟩) (by assumption) ?_
  rotate_left
  focus (intro wq hSq; (try dsimp only at hSq); go_simp; first | done | (with_reducible rfl))
  (try simp only [Act.put, List.getElem_toArray, List.getElem_cons_succ, List.getElem_cons_zero, List.setIfInBounds_toArray, List.set_cons_zero, List.set_cons_succ])
  refine wpAnyH_take (i := 7) (v := ?_) rfl (by kernel_rfl) (by kernel_rfl) (by kernel_rfl) (fun _ _ _ h => h) (Or.inl ⟨by rfl, ?_⟩) (by assumption) ?_
  rotate_left
  focus (intro wq hSq; (try dsimp only at hSq); go_simp; first | done | (with_reducible rfl))
  (try simp only [Act.put, List.getElem_toArray, List.getElem_cons_succ, List.getElem_cons_zero, List.setIfInBounds_toArray, List.set_cons_zero, List.set_cons_succ])
  refine wpAnyH_take (i := 8) (v := ?_) rfl (by kernel_rfl) (by kernel_rfl) (by kernel_rfl) (fun _ _ _ h => h) (Or.inl ⟨by rfl, ?_⟩) (by assumption) ?_
  rotate_left
  focus (intro wq hSq; (try dsimp only at hSq); go_simp; first | done | (with_reducible rfl))
  (try simp only [Act.put, List.getElem_toArray, List.getElem_cons_succ, List.getElem_cons_zero, List.setIfInBounds_toArray, List.set_cons_zero, List.set_cons_succ])
  refine wpAnyH_take (i := 9) (v := ?_) rfl (by kernel_rfl) (by kernel_rfl) (by kernel_rfl) (fun _ _ _ h => h) (Or.inl ⟨by rfl, ?_⟩) (by assumption) ?_
  rotate_left
  focus (intro wq hSq; (try dsimp only at hSq); go_simp; first | done | (with_reducible rfl))
  (try simp only [Act.put, List.getElem_toArray, List.getElem_cons_succ, List.getElem_cons_zero, List.setIfInBounds_toArray, List.set_cons_zero, List.set_cons_succ])
  refine wpAnyH_take (i := 10) (v := ?_) rfl (by kernel_rfl) (by kernel_rfl) (by kernel_rfl) (fun _ _ _ h => h) (Or.inl ⟨by rfl, ?_⟩) (by assumption) ?_
  rotate_left
  focus (intro wq hSq; (try dsimp only at hSq); go_simp; first | done | (with_reducible rfl))
  (try simp only [Act.put, List.getElem_toArray, List.getElem_cons_succ, List.getElem_cons_zero, List.setIfInBounds_toArray, List.set_cons_zero, List.set_cons_succ])
  refine wpAnyH_done (by kernel_rfl) ?_ _
  obtain ⟨s0, s1, s2, s3⟩ := (by assumption : wr.cell? ⟨w.heap.size, 0, none⟩ = some (.int .i64 n) ∧ wr.cell? ⟨w.heap.size, 1, none⟩ = some (.int .i64 d) ∧ w.heap.size + 1 ≤ wr.heap.size ∧ Below w.heap.size w wr)
  have cV0w1 := s0
  have cV1w1 := s1
  have bVw1 : w.heap.size < wr.heap.size := Nat.lt_of_lt_of_le xV s2
  have dVw1 : w.heap.size < wr.heap.size + 1 := Nat.lt_succ_of_lt bVw1
  have hBw1 : Below w.heap.size w wr := s3
  have zw1 : w.heap.size ≤ wr.heap.size := hBw1.size
  clear s0 s1 s2 s3 xV hcr hfr hzr hBr hbr
  repeat (clear hcr hfr hzr hBr hbr)
  skip
  obtain ⟨w1, ew1⟩ : ∃ x, x = wr := ⟨_, rfl⟩
  subst ew1
  go_wp2_with fail
  refine (div64_any _ _ _ (by omega) (by omega) (by omega) _).mono ?_
  rintro e w2 ⟨rfl, hw2⟩
  have hmw2 : Below w1.heap.size w1 w2 := on_below hw2 (by repeat' (first | (with_reducible exact Below.refl _ _) | (with_reducible assumption) | (with_reducible refine drewN_below ?_ _) | (with_reducible refine Below.drew ?_) | (with_reducible refine Below.alloc ?_ ?_ _) | (with_reducible refine Below.setCell ?_ ?_ _) | (simp; done) | omega | (simp; omega))) (by first | (with_reducible assumption) | (simp; done) | omega | (simp; omega))
  have cV0w2 := (hmw2.cell (p := ⟨w.heap.size, 0, none⟩) bVw1).trans cV0w1
  have cV1w2 := (hmw2.cell (p := ⟨w.heap.size, 1, none⟩) bVw1).trans cV1w1
  have bVw2 : w.heap.size < w2.heap.size := Nat.lt_of_lt_of_le bVw1 hmw2.size
  have dVw2 : w.heap.size < w2.heap.size + 1 := Nat.lt_succ_of_lt bVw2
  have hBw2 : Below w.heap.size w w2 := Below.trans hBw1 (hmw2.mono hBw1.size)
  have zw2 : w.heap.size ≤ w2.heap.size := hBw2.size
  clear hmw2 hw2 zw1 hBw1 dVw1 bVw1 cV1w1 cV0w1
  rw [ra.out.k, ra.out.t]
  go_wp2
  go_ret
  exact ⟨rfl, (by repeat' (first | (with_reducible exact Below.refl _ _) | (with_reducible assumption) | (with_reducible refine drewN_below ?_ _) | (with_reducible refine Below.drew ?_) | (with_reducible refine Below.alloc ?_ ?_ _) | (with_reducible refine Below.setCell ?_ ?_ _) | (simp; done) | omega | (simp; omega)))⟩
set_option maxHeartbeats 1000000 in
theorem rd_near_over_neg (n d e D H L K T : Int) (A B M : Nat) (ha : A ≤ 60) (hB : B ≤ 60) (e1 : max 0 (-e) = (A : Int)) (e2 : max 0 e = (B : Int)) (hn : -2305843009213693952 ≤ n ∧ n ≤ 2305843009213693952) (hd : 1 ≤ d ∧ d ≤ 2305843009213693952) (he : -60 ≤ e ∧ e ≤ 60) (ra : Hid (RA n d D H L K T A B M)) (h0 : n < 0) (h1 : D < 2 * T) (w : World) :
    Calls Tryd.prog 68 #[.agg #[.int .i64 n, .int .i64 d], .int .i64 e, .string ⟨#[110, 101, 97, 114]⟩] w fun en w' => en = .returned (.int .i64 (-(K + 1))) ∧ Below w.heap.size w w' := by
  have f1 : IntKind.u64.wrap d = d := IntWalk.u64_in _ (by omega)
  have f2 : IntKind.u64.wrap (d * 2 ^ A) = D := by rw [ra.out.d2]; exact IntWalk.u64_in _ (by have := ra.out.db; omega)
  have f3 : IntKind.u64.wrap (2 ^ B) = (M : Int) := by rw [← ra.out.m]; have e := Z.p2_uwrap B (by omega); rw [e]; simp
  have hM := ra.out.mb
  have hH := ra.out.hb
  have hL := ra.out.lb
  have hD := ra.out.db
  have hK := ra.out.kb
  have hT := ra.out.tb
  have g0 : decide (n < 0) = true := decide_eq_true h0
  have g1 : decide (D < 2 * T) = true := decide_eq_true h1
  go_enter Tryd.func68, Tryd.ntmps68
  go_wp2
  have xV : w.heap.size < w.heap.size + 1 := by omega
  refine wp_region_held_drew (S := (fun w' => w'.cell? ⟨w.heap.size, 0, none⟩ = some (.int .i64 n) ∧ w'.cell? ⟨w.heap.size, 1, none⟩ = some (.int .i64 d) ∧ w.heap.size + 1 ≤ w'.heap.size ∧ Below w.heap.size w w')) (by kernel_rfl) ?_ ?_
  · (refine ⟨?_, ?_, ?_, ?_⟩ <;> first | assumption | ((repeat' (first | (with_reducible exact Below.refl _ _) | (with_reducible assumption) | (with_reducible refine drewN_below ?_ _) | (with_reducible refine Below.drew ?_) | (with_reducible refine Below.alloc ?_ ?_ _) | (with_reducible refine Below.setCell ?_ ?_ _) | (simp; done) | omega | (simp; omega))); done) | (simp [*]; done) | (simp [go_sem, *]; done) | (simp; omega))
  intro hH0
  refine wpAnyH_take (i := 0) (v := ?_) rfl (by kernel_rfl) (by kernel_rfl) (by kernel_rfl) (fun _ _ _ h => h) (Or.inl ⟨by rfl, ?_⟩) (by assumption) ?_
  rotate_left
  focus (intro wq hSq; (try dsimp only at hSq); go_simp; first | done | (with_reducible rfl))
  (try simp only [Act.put, List.getElem_toArray, List.getElem_cons_zero, List.setIfInBounds_toArray, List.set_cons_zero, List.set_cons_succ])
  refine wpAnyH_take (i := 2) (v := ?_) rfl (by kernel_rfl) (by kernel_rfl) (by kernel_rfl) (fun _ _ _ h => h) (Or.inl ⟨by rfl, ?_⟩) (by assumption) ?_
  rotate_left
  focus (intro wq hSq; (try dsimp only at hSq); go_simp; first | done | (with_reducible rfl))
  (try simp only [Act.put, List.getElem_toArray, List.getElem_cons_succ, List.getElem_cons_zero, List.setIfInBounds_toArray, List.set_cons_zero, List.set_cons_succ])
  refine wpAnyH_take (i := 3) (v := ?_) rfl (by kernel_rfl) (by kernel_rfl) (by kernel_rfl) (fun _ _ _ h => h) (Or.inl ⟨by rfl, ?_⟩) (by assumption) ?_
  rotate_left
  focus (intro wq hSq; (try dsimp only at hSq); go_simp; first | done | (with_reducible rfl))
  (try simp only [Act.put, List.getElem_toArray, List.getElem_cons_succ, List.getElem_cons_zero, List.setIfInBounds_toArray, List.set_cons_zero, List.set_cons_succ])
  refine wpAnyH_take (i := 4) (v := ?_) rfl (by kernel_rfl) (by kernel_rfl) (by kernel_rfl) (fun _ _ _ h => h) (Or.inl ⟨by rfl, ?_⟩) (by assumption) ?_
  rotate_left
  focus (intro wq hSq; (try dsimp only at hSq); go_simp; first | done | (with_reducible rfl))
  (try simp only [Act.put, List.getElem_toArray, List.getElem_cons_succ, List.getElem_cons_zero, List.setIfInBounds_toArray, List.set_cons_zero, List.set_cons_succ])
  refine wpAnyH_ready (rs := [1]) (by kernel_rfl) (by simp) ?_
  refine AllReadyH.cons rfl (fun K hK => ?_) AllReadyH.nil
  rw [if_pos (by rfl)]
  go_simp
  refine (xsize_any _ _ (by omega) _).mono ?_
  rintro e wr ⟨rfl, hbr⟩
  obtain ⟨hcr, hfr, hzr, hBr⟩ := after (a := w) (B := w.heap.size) (w.heap.size + 1) hbr (by first | (with_reducible assumption) | (simp; done) | omega | (simp; omega)) (by repeat' (first | (with_reducible exact Below.refl _ _) | (with_reducible assumption) | (with_reducible refine drewN_below ?_ _) | (with_reducible refine Below.drew ?_) | (with_reducible refine Below.alloc ?_ ?_ _) | (with_reducible refine Below.setCell ?_ ?_ _) | (simp; done) | omega | (simp; omega))) (by omega)
  have yV := Nat.lt_of_lt_of_le xV hzr
  dsimp only
  refine hK.out _ _ ?_ (fun hHeld => ?_)
  · (refine ⟨?_, ?_, ?_, ?_⟩ <;> first | assumption | ((repeat' (first | (with_reducible exact Below.refl _ _) | (with_reducible assumption) | (with_reducible refine drewN_below ?_ _) | (with_reducible refine Below.drew ?_) | (with_reducible refine Below.alloc ?_ ?_ _) | (with_reducible refine Below.setCell ?_ ?_ _) | (simp; done) | omega | (simp; omega))); done) | (simp [*]; done) | (simp [go_sem, *]; done) | (simp; omega))
  clear hK K
  (try simp only [Act.put, List.getElem_toArray, List.getElem_cons_succ, List.getElem_cons_zero, List.setIfInBounds_toArray, List.set_cons_zero, List.set_cons_succ])
  refine wpAnyH_ready (rs := [5]) (by kernel_rfl) (by simp) ?_
  refine AllReadyH.cons rfl (fun K hK => ?_) AllReadyH.nil
  rw [if_pos (by rfl)]
  go_simp
  refine (mul64_any _ _ (by omega) (by omega) _).mono ?_
  rintro e wr ⟨rfl, hbr⟩
  obtain ⟨hcr, hfr, hzr, hBr⟩ := after (a := w) (B := w.heap.size) (w.heap.size + 1) hbr (by first | (with_reducible assumption) | (simp; done) | omega | (simp; omega)) (by repeat' (first | (with_reducible exact Below.refl _ _) | (with_reducible assumption) | (with_reducible refine drewN_below ?_ _) | (with_reducible refine Below.drew ?_) | (with_reducible refine Below.alloc ?_ ?_ _) | (with_reducible refine Below.setCell ?_ ?_ _) | (simp; done) | omega | (simp; omega))) (by omega)
  have yV := Nat.lt_of_lt_of_le xV hzr
  rw [ra.out.h, ra.out.l]
  dsimp only
  refine hK.out _ _ ?_ (fun hHeld => ?_)
  · (refine ⟨?_, ?_, ?_, ?_⟩ <;> first | assumption | ((repeat' (first | (with_reducible exact Below.refl _ _) | (with_reducible assumption) | (with_reducible refine drewN_below ?_ _) | (with_reducible refine Below.drew ?_) | (with_reducible refine Below.alloc ?_ ?_ _) | (with_reducible refine Below.setCell ?_ ?_ _) | (simp; done) | omega | (simp; omega))); done) | (simp [*]; done) | (simp [go_sem, *]; done) | (simp; omega))
  clear hK K
  (try simp only [Act.put, List.getElem_toArray, List.getElem_cons_succ, List.getElem_cons_zero, List.setIfInBounds_toArray, List.set_cons_zero, List.set_cons_succ])
  refine wpAnyH_take (i := 6) (v := ?_) rfl (by kernel_rfl) (by kernel_rfl) (by kernel_rfl) (fun _ _ _ h => h) (Or.inl ⟨by rfl, ?_⟩) (by assumption) ?_
  rotate_left
  focus (intro wq hSq; (try dsimp only at hSq); go_simp; first | done | (with_reducible rfl))
  (try simp only [Act.put, List.getElem_toArray, List.getElem_cons_succ, List.getElem_cons_zero, List.setIfInBounds_toArray, List.set_cons_zero, List.set_cons_succ])
  refine wpAnyH_take (i := 7) (v := ?_) rfl (by kernel_rfl) (by kernel_rfl) (by kernel_rfl) (fun _ _ _ h => h) (Or.inl ⟨by rfl, ?_⟩) (by assumption) ?_
  rotate_left
  focus (intro wq hSq; (try dsimp only at hSq); go_simp; first | done | (with_reducible rfl))
  (try simp only [Act.put, List.getElem_toArray, List.getElem_cons_succ, List.getElem_cons_zero, List.setIfInBounds_toArray, List.set_cons_zero, List.set_cons_succ])
  refine wpAnyH_take (i := 8) (v := ?_) rfl (by kernel_rfl) (by kernel_rfl) (by kernel_rfl) (fun _ _ _ h => h) (Or.inl ⟨by rfl, ?_⟩) (by assumption) ?_
  rotate_left
  focus (intro wq hSq; (try dsimp only at hSq); go_simp; first | done | (with_reducible rfl))
  (try simp only [Act.put, List.getElem_toArray, List.getElem_cons_succ, List.getElem_cons_zero, List.setIfInBounds_toArray, List.set_cons_zero, List.set_cons_succ])
  refine wpAnyH_take (i := 9) (v := ?_) rfl (by kernel_rfl) (by kernel_rfl) (by kernel_rfl) (fun _ _ _ h => h) (Or.inl ⟨by rfl, ?_⟩) (by assumption) ?_
  rotate_left
  focus (intro wq hSq; (try dsimp only at hSq); go_simp; first | done | (with_reducible rfl))
  (try simp only [Act.put, List.getElem_toArray, List.getElem_cons_succ, List.getElem_cons_zero, List.setIfInBounds_toArray, List.set_cons_zero, List.set_cons_succ])
  refine wpAnyH_take (i := 10) (v := ?_) rfl (by kernel_rfl) (by kernel_rfl) (by kernel_rfl) (fun _ _ _ h => h) (Or.inl ⟨by rfl, ?_⟩) (by assumption) ?_
  rotate_left
  focus (intro wq hSq; (try dsimp only at hSq); go_simp; first | done | (with_reducible rfl))
  (try simp only [Act.put, List.getElem_toArray, List.getElem_cons_succ, List.getElem_cons_zero, List.setIfInBounds_toArray, List.set_cons_zero, List.set_cons_succ])
  refine wpAnyH_done (by kernel_rfl) ?_ _
  obtain ⟨s0, s1, s2, s3⟩ := (by assumption : wr.cell? ⟨w.heap.size, 0, none⟩ = some (.int .i64 n) ∧ wr.cell? ⟨w.heap.size, 1, none⟩ = some (.int .i64 d) ∧ w.heap.size + 1 ≤ wr.heap.size ∧ Below w.heap.size w wr)
  have cV0w1 := s0
  have cV1w1 := s1
  have bVw1 : w.heap.size < wr.heap.size := Nat.lt_of_lt_of_le xV s2
  have dVw1 : w.heap.size < wr.heap.size + 1 := Nat.lt_succ_of_lt bVw1
  have hBw1 : Below w.heap.size w wr := s3
  have zw1 : w.heap.size ≤ wr.heap.size := hBw1.size
  clear s0 s1 s2 s3 xV hcr hfr hzr hBr hbr
  repeat (clear hcr hfr hzr hBr hbr)
  skip
  obtain ⟨w1, ew1⟩ : ∃ x, x = wr := ⟨_, rfl⟩
  subst ew1
  go_wp2_with fail
  refine (div64_any _ _ _ (by omega) (by omega) (by omega) _).mono ?_
  rintro e w2 ⟨rfl, hw2⟩
  have hmw2 : Below w1.heap.size w1 w2 := on_below hw2 (by repeat' (first | (with_reducible exact Below.refl _ _) | (with_reducible assumption) | (with_reducible refine drewN_below ?_ _) | (with_reducible refine Below.drew ?_) | (with_reducible refine Below.alloc ?_ ?_ _) | (with_reducible refine Below.setCell ?_ ?_ _) | (simp; done) | omega | (simp; omega))) (by first | (with_reducible assumption) | (simp; done) | omega | (simp; omega))
  have cV0w2 := (hmw2.cell (p := ⟨w.heap.size, 0, none⟩) bVw1).trans cV0w1
  have cV1w2 := (hmw2.cell (p := ⟨w.heap.size, 1, none⟩) bVw1).trans cV1w1
  have bVw2 : w.heap.size < w2.heap.size := Nat.lt_of_lt_of_le bVw1 hmw2.size
  have dVw2 : w.heap.size < w2.heap.size + 1 := Nat.lt_succ_of_lt bVw2
  have hBw2 : Below w.heap.size w w2 := Below.trans hBw1 (hmw2.mono hBw1.size)
  have zw2 : w.heap.size ≤ w2.heap.size := hBw2.size
  clear hmw2 hw2 zw1 hBw1 dVw1 bVw1 cV1w1 cV0w1
  rw [ra.out.k, ra.out.t]
  go_wp2
  go_ret
  exact ⟨rfl, (by repeat' (first | (with_reducible exact Below.refl _ _) | (with_reducible assumption) | (with_reducible refine drewN_below ?_ _) | (with_reducible refine Below.drew ?_) | (with_reducible refine Below.alloc ?_ ?_ _) | (with_reducible refine Below.setCell ?_ ?_ _) | (simp; done) | omega | (simp; omega)))⟩
set_option maxHeartbeats 1000000 in
theorem rd_near_odd_neg (n d e D H L K T : Int) (A B M : Nat) (ha : A ≤ 60) (hB : B ≤ 60) (e1 : max 0 (-e) = (A : Int)) (e2 : max 0 e = (B : Int)) (hn : -2305843009213693952 ≤ n ∧ n ≤ 2305843009213693952) (hd : 1 ≤ d ∧ d ≤ 2305843009213693952) (he : -60 ≤ e ∧ e ≤ 60) (ra : Hid (RA n d D H L K T A B M)) (h0 : n < 0) (h1 : 2 * T = D) (h2 : K % 2 = 1) (w : World) :
    Calls Tryd.prog 68 #[.agg #[.int .i64 n, .int .i64 d], .int .i64 e, .string ⟨#[110, 101, 97, 114]⟩] w fun en w' => en = .returned (.int .i64 (-(K + 1))) ∧ Below w.heap.size w w' := by
  have f1 : IntKind.u64.wrap d = d := IntWalk.u64_in _ (by omega)
  have f2 : IntKind.u64.wrap (d * 2 ^ A) = D := by rw [ra.out.d2]; exact IntWalk.u64_in _ (by have := ra.out.db; omega)
  have f3 : IntKind.u64.wrap (2 ^ B) = (M : Int) := by rw [← ra.out.m]; have e := Z.p2_uwrap B (by omega); rw [e]; simp
  have hM := ra.out.mb
  have hH := ra.out.hb
  have hL := ra.out.lb
  have hD := ra.out.db
  have hK := ra.out.kb
  have hT := ra.out.tb
  have g0 : decide (n < 0) = true := decide_eq_true h0
  have g1 : decide (D < 2 * T) = false := decide_eq_false (by omega)
  have g2 : (2 * T == D) = true := by rw [beq_iff_eq]; exact h1
  have g3 : (K % 2 == 1) = true := by rw [beq_iff_eq]; exact h2
  have g4 : (K.tmod 2 == 1) = true := by rw [beq_iff_eq, Int.tmod_eq_emod_of_nonneg hK.1]; exact h2
  clear h1 h2
  go_enter Tryd.func68, Tryd.ntmps68
  go_wp2
  have xV : w.heap.size < w.heap.size + 1 := by omega
  refine wp_region_held_drew (S := (fun w' => w'.cell? ⟨w.heap.size, 0, none⟩ = some (.int .i64 n) ∧ w'.cell? ⟨w.heap.size, 1, none⟩ = some (.int .i64 d) ∧ w.heap.size + 1 ≤ w'.heap.size ∧ Below w.heap.size w w')) (by kernel_rfl) ?_ ?_
  · (refine ⟨?_, ?_, ?_, ?_⟩ <;> first | assumption | ((repeat' (first | (with_reducible exact Below.refl _ _) | (with_reducible assumption) | (with_reducible refine drewN_below ?_ _) | (with_reducible refine Below.drew ?_) | (with_reducible refine Below.alloc ?_ ?_ _) | (with_reducible refine Below.setCell ?_ ?_ _) | (simp; done) | omega | (simp; omega))); done) | (simp [*]; done) | (simp [go_sem, *]; done) | (simp; omega))
  intro hH0
  refine wpAnyH_take (i := 0) (v := ?_) rfl (by kernel_rfl) (by kernel_rfl) (by kernel_rfl) (fun _ _ _ h => h) (Or.inl ⟨by rfl, ?_⟩) (by assumption) ?_
  rotate_left
  focus (intro wq hSq; (try dsimp only at hSq); go_simp; first | done | (with_reducible rfl))
  (try simp only [Act.put, List.getElem_toArray, List.getElem_cons_zero, List.setIfInBounds_toArray, List.set_cons_zero, List.set_cons_succ])
  refine wpAnyH_take (i := 2) (v := ?_) rfl (by kernel_rfl) (by kernel_rfl) (by kernel_rfl) (fun _ _ _ h => h) (Or.inl ⟨by rfl, ?_⟩) (by assumption) ?_
  rotate_left
  focus (intro wq hSq; (try dsimp only at hSq); go_simp; first | done | (with_reducible rfl))
  (try simp only [Act.put, List.getElem_toArray, List.getElem_cons_succ, List.getElem_cons_zero, List.setIfInBounds_toArray, List.set_cons_zero, List.set_cons_succ])
  refine wpAnyH_take (i := 3) (v := ?_) rfl (by kernel_rfl) (by kernel_rfl) (by kernel_rfl) (fun _ _ _ h => h) (Or.inl ⟨by rfl, ?_⟩) (by assumption) ?_
  rotate_left
  focus (intro wq hSq; (try dsimp only at hSq); go_simp; first | done | (with_reducible rfl))
  (try simp only [Act.put, List.getElem_toArray, List.getElem_cons_succ, List.getElem_cons_zero, List.setIfInBounds_toArray, List.set_cons_zero, List.set_cons_succ])
  refine wpAnyH_take (i := 4) (v := ?_) rfl (by kernel_rfl) (by kernel_rfl) (by kernel_rfl) (fun _ _ _ h => h) (Or.inl ⟨by rfl, ?_⟩) (by assumption) ?_
  rotate_left
  focus (intro wq hSq; (try dsimp only at hSq); go_simp; first | done | (with_reducible rfl))
  (try simp only [Act.put, List.getElem_toArray, List.getElem_cons_succ, List.getElem_cons_zero, List.setIfInBounds_toArray, List.set_cons_zero, List.set_cons_succ])
  refine wpAnyH_ready (rs := [1]) (by kernel_rfl) (by simp) ?_
  refine AllReadyH.cons rfl (fun K hK => ?_) AllReadyH.nil
  rw [if_pos (by rfl)]
  go_simp
  refine (xsize_any _ _ (by omega) _).mono ?_
  rintro e wr ⟨rfl, hbr⟩
  obtain ⟨hcr, hfr, hzr, hBr⟩ := after (a := w) (B := w.heap.size) (w.heap.size + 1) hbr (by first | (with_reducible assumption) | (simp; done) | omega | (simp; omega)) (by repeat' (first | (with_reducible exact Below.refl _ _) | (with_reducible assumption) | (with_reducible refine drewN_below ?_ _) | (with_reducible refine Below.drew ?_) | (with_reducible refine Below.alloc ?_ ?_ _) | (with_reducible refine Below.setCell ?_ ?_ _) | (simp; done) | omega | (simp; omega))) (by omega)
  have yV := Nat.lt_of_lt_of_le xV hzr
  dsimp only
  refine hK.out _ _ ?_ (fun hHeld => ?_)
  · (refine ⟨?_, ?_, ?_, ?_⟩ <;> first | assumption | ((repeat' (first | (with_reducible exact Below.refl _ _) | (with_reducible assumption) | (with_reducible refine drewN_below ?_ _) | (with_reducible refine Below.drew ?_) | (with_reducible refine Below.alloc ?_ ?_ _) | (with_reducible refine Below.setCell ?_ ?_ _) | (simp; done) | omega | (simp; omega))); done) | (simp [*]; done) | (simp [go_sem, *]; done) | (simp; omega))
  clear hK K
  (try simp only [Act.put, List.getElem_toArray, List.getElem_cons_succ, List.getElem_cons_zero, List.setIfInBounds_toArray, List.set_cons_zero, List.set_cons_succ])
  refine wpAnyH_ready (rs := [5]) (by kernel_rfl) (by simp) ?_
  refine AllReadyH.cons rfl (fun K hK => ?_) AllReadyH.nil
  rw [if_pos (by rfl)]
  go_simp
  refine (mul64_any _ _ (by omega) (by omega) _).mono ?_
  rintro e wr ⟨rfl, hbr⟩
  obtain ⟨hcr, hfr, hzr, hBr⟩ := after (a := w) (B := w.heap.size) (w.heap.size + 1) hbr (by first | (with_reducible assumption) | (simp; done) | omega | (simp; omega)) (by repeat' (first | (with_reducible exact Below.refl _ _) | (with_reducible assumption) | (with_reducible refine drewN_below ?_ _) | (with_reducible refine Below.drew ?_) | (with_reducible refine Below.alloc ?_ ?_ _) | (with_reducible refine Below.setCell ?_ ?_ _) | (simp; done) | omega | (simp; omega))) (by omega)
  have yV := Nat.lt_of_lt_of_le xV hzr
  rw [ra.out.h, ra.out.l]
  dsimp only
  refine hK.out _ _ ?_ (fun hHeld => ?_)
  · (refine ⟨?_, ?_, ?_, ?_⟩ <;> first | assumption | ((repeat' (first | (with_reducible exact Below.refl _ _) | (with_reducible assumption) | (with_reducible refine drewN_below ?_ _) | (with_reducible refine Below.drew ?_) | (with_reducible refine Below.alloc ?_ ?_ _) | (with_reducible refine Below.setCell ?_ ?_ _) | (simp; done) | omega | (simp; omega))); done) | (simp [*]; done) | (simp [go_sem, *]; done) | (simp; omega))
  clear hK K
  (try simp only [Act.put, List.getElem_toArray, List.getElem_cons_succ, List.getElem_cons_zero, List.setIfInBounds_toArray, List.set_cons_zero, List.set_cons_succ])
  refine wpAnyH_take (i := 6) (v := ?_) rfl (by kernel_rfl) (by kernel_rfl) (by kernel_rfl) (fun _ _ _ h => h) (Or.inl ⟨by rfl, ?_⟩) (by assumption) ?_
  rotate_left
  focus (intro wq hSq; (try dsimp only at hSq); go_simp; first | done | (with_reducible rfl))
  (try simp only [Act.put, List.getElem_toArray, List.getElem_cons_succ, List.getElem_cons_zero, List.setIfInBounds_toArray, List.set_cons_zero, List.set_cons_succ])
  refine wpAnyH_take (i := 7) (v := ?_) rfl (by kernel_rfl) (by kernel_rfl) (by kernel_rfl) (fun _ _ _ h => h) (Or.inl ⟨by rfl, ?_⟩) (by assumption) ?_
  rotate_left
  focus (intro wq hSq; (try dsimp only at hSq); go_simp; first | done | (with_reducible rfl))
  (try simp only [Act.put, List.getElem_toArray, List.getElem_cons_succ, List.getElem_cons_zero, List.setIfInBounds_toArray, List.set_cons_zero, List.set_cons_succ])
  refine wpAnyH_take (i := 8) (v := ?_) rfl (by kernel_rfl) (by kernel_rfl) (by kernel_rfl) (fun _ _ _ h => h) (Or.inl ⟨by rfl, ?_⟩) (by assumption) ?_
  rotate_left
  focus (intro wq hSq; (try dsimp only at hSq); go_simp; first | done | (with_reducible rfl))
  (try simp only [Act.put, List.getElem_toArray, List.getElem_cons_succ, List.getElem_cons_zero, List.setIfInBounds_toArray, List.set_cons_zero, List.set_cons_succ])
  refine wpAnyH_take (i := 9) (v := ?_) rfl (by kernel_rfl) (by kernel_rfl) (by kernel_rfl) (fun _ _ _ h => h) (Or.inl ⟨by rfl, ?_⟩) (by assumption) ?_
  rotate_left
  focus (intro wq hSq; (try dsimp only at hSq); go_simp; first | done | (with_reducible rfl))
  (try simp only [Act.put, List.getElem_toArray, List.getElem_cons_succ, List.getElem_cons_zero, List.setIfInBounds_toArray, List.set_cons_zero, List.set_cons_succ])
  refine wpAnyH_take (i := 10) (v := ?_) rfl (by kernel_rfl) (by kernel_rfl) (by kernel_rfl) (fun _ _ _ h => h) (Or.inl ⟨by rfl, ?_⟩) (by assumption) ?_
  rotate_left
  focus (intro wq hSq; (try dsimp only at hSq); go_simp; first | done | (with_reducible rfl))
  (try simp only [Act.put, List.getElem_toArray, List.getElem_cons_succ, List.getElem_cons_zero, List.setIfInBounds_toArray, List.set_cons_zero, List.set_cons_succ])
  refine wpAnyH_done (by kernel_rfl) ?_ _
  obtain ⟨s0, s1, s2, s3⟩ := (by assumption : wr.cell? ⟨w.heap.size, 0, none⟩ = some (.int .i64 n) ∧ wr.cell? ⟨w.heap.size, 1, none⟩ = some (.int .i64 d) ∧ w.heap.size + 1 ≤ wr.heap.size ∧ Below w.heap.size w wr)
  have cV0w1 := s0
  have cV1w1 := s1
  have bVw1 : w.heap.size < wr.heap.size := Nat.lt_of_lt_of_le xV s2
  have dVw1 : w.heap.size < wr.heap.size + 1 := Nat.lt_succ_of_lt bVw1
  have hBw1 : Below w.heap.size w wr := s3
  have zw1 : w.heap.size ≤ wr.heap.size := hBw1.size
  clear s0 s1 s2 s3 xV hcr hfr hzr hBr hbr
  repeat (clear hcr hfr hzr hBr hbr)
  skip
  obtain ⟨w1, ew1⟩ : ∃ x, x = wr := ⟨_, rfl⟩
  subst ew1
  go_wp2_with fail
  refine (div64_any _ _ _ (by omega) (by omega) (by omega) _).mono ?_
  rintro e w2 ⟨rfl, hw2⟩
  have hmw2 : Below w1.heap.size w1 w2 := on_below hw2 (by repeat' (first | (with_reducible exact Below.refl _ _) | (with_reducible assumption) | (with_reducible refine drewN_below ?_ _) | (with_reducible refine Below.drew ?_) | (with_reducible refine Below.alloc ?_ ?_ _) | (with_reducible refine Below.setCell ?_ ?_ _) | (simp; done) | omega | (simp; omega))) (by first | (with_reducible assumption) | (simp; done) | omega | (simp; omega))
  have cV0w2 := (hmw2.cell (p := ⟨w.heap.size, 0, none⟩) bVw1).trans cV0w1
  have cV1w2 := (hmw2.cell (p := ⟨w.heap.size, 1, none⟩) bVw1).trans cV1w1
  have bVw2 : w.heap.size < w2.heap.size := Nat.lt_of_lt_of_le bVw1 hmw2.size
  have dVw2 : w.heap.size < w2.heap.size + 1 := Nat.lt_succ_of_lt bVw2
  have hBw2 : Below w.heap.size w w2 := Below.trans hBw1 (hmw2.mono hBw1.size)
  have zw2 : w.heap.size ≤ w2.heap.size := hBw2.size
  clear hmw2 hw2 zw1 hBw1 dVw1 bVw1 cV1w1 cV0w1
  rw [ra.out.k, ra.out.t]
  go_wp2
  go_ret
  exact ⟨rfl, (by repeat' (first | (with_reducible exact Below.refl _ _) | (with_reducible assumption) | (with_reducible refine drewN_below ?_ _) | (with_reducible refine Below.drew ?_) | (with_reducible refine Below.alloc ?_ ?_ _) | (with_reducible refine Below.setCell ?_ ?_ _) | (simp; done) | omega | (simp; omega)))⟩
set_option maxHeartbeats 1000000 in
theorem rd_near_even_neg (n d e D H L K T : Int) (A B M : Nat) (ha : A ≤ 60) (hB : B ≤ 60) (e1 : max 0 (-e) = (A : Int)) (e2 : max 0 e = (B : Int)) (hn : -2305843009213693952 ≤ n ∧ n ≤ 2305843009213693952) (hd : 1 ≤ d ∧ d ≤ 2305843009213693952) (he : -60 ≤ e ∧ e ≤ 60) (ra : Hid (RA n d D H L K T A B M)) (h0 : n < 0) (h1 : 2 * T = D) (h2 : K % 2 = 0) (w : World) :
    Calls Tryd.prog 68 #[.agg #[.int .i64 n, .int .i64 d], .int .i64 e, .string ⟨#[110, 101, 97, 114]⟩] w fun en w' => en = .returned (.int .i64 (-(K))) ∧ Below w.heap.size w w' := by
  have f1 : IntKind.u64.wrap d = d := IntWalk.u64_in _ (by omega)
  have f2 : IntKind.u64.wrap (d * 2 ^ A) = D := by rw [ra.out.d2]; exact IntWalk.u64_in _ (by have := ra.out.db; omega)
  have f3 : IntKind.u64.wrap (2 ^ B) = (M : Int) := by rw [← ra.out.m]; have e := Z.p2_uwrap B (by omega); rw [e]; simp
  have hM := ra.out.mb
  have hH := ra.out.hb
  have hL := ra.out.lb
  have hD := ra.out.db
  have hK := ra.out.kb
  have hT := ra.out.tb
  have g0 : decide (n < 0) = true := decide_eq_true h0
  have g1 : decide (D < 2 * T) = false := decide_eq_false (by omega)
  have g2 : (2 * T == D) = true := by rw [beq_iff_eq]; exact h1
  have g3 : (K % 2 == 1) = false := by rw [beq_eq_false_iff_ne]; omega
  have g4 : (K.tmod 2 == 1) = false := by rw [beq_eq_false_iff_ne, Int.tmod_eq_emod_of_nonneg hK.1]; omega
  clear h1 h2
  go_enter Tryd.func68, Tryd.ntmps68
  go_wp2
  have xV : w.heap.size < w.heap.size + 1 := by omega
  refine wp_region_held_drew (S := (fun w' => w'.cell? ⟨w.heap.size, 0, none⟩ = some (.int .i64 n) ∧ w'.cell? ⟨w.heap.size, 1, none⟩ = some (.int .i64 d) ∧ w.heap.size + 1 ≤ w'.heap.size ∧ Below w.heap.size w w')) (by kernel_rfl) ?_ ?_
  · (refine ⟨?_, ?_, ?_, ?_⟩ <;> first | assumption | ((repeat' (first | (with_reducible exact Below.refl _ _) | (with_reducible assumption) | (with_reducible refine drewN_below ?_ _) | (with_reducible refine Below.drew ?_) | (with_reducible refine Below.alloc ?_ ?_ _) | (with_reducible refine Below.setCell ?_ ?_ _) | (simp; done) | omega | (simp; omega))); done) | (simp [*]; done) | (simp [go_sem, *]; done) | (simp; omega))
  intro hH0
  refine wpAnyH_take (i := 0) (v := ?_) rfl (by kernel_rfl) (by kernel_rfl) (by kernel_rfl) (fun _ _ _ h => h) (Or.inl ⟨by rfl, ?_⟩) (by assumption) ?_
  rotate_left
  focus (intro wq hSq; (try dsimp only at hSq); go_simp; first | done | (with_reducible rfl))
  (try simp only [Act.put, List.getElem_toArray, List.getElem_cons_zero, List.setIfInBounds_toArray, List.set_cons_zero, List.set_cons_succ])
  refine wpAnyH_take (i := 2) (v := ?_) rfl (by kernel_rfl) (by kernel_rfl) (by kernel_rfl) (fun _ _ _ h => h) (Or.inl ⟨by rfl, ?_⟩) (by assumption) ?_
  rotate_left
  focus (intro wq hSq; (try dsimp only at hSq); go_simp; first | done | (with_reducible rfl))
  (try simp only [Act.put, List.getElem_toArray, List.getElem_cons_succ, List.getElem_cons_zero, List.setIfInBounds_toArray, List.set_cons_zero, List.set_cons_succ])
  refine wpAnyH_take (i := 3) (v := ?_) rfl (by kernel_rfl) (by kernel_rfl) (by kernel_rfl) (fun _ _ _ h => h) (Or.inl ⟨by rfl, ?_⟩) (by assumption) ?_
  rotate_left
  focus (intro wq hSq; (try dsimp only at hSq); go_simp; first | done | (with_reducible rfl))
  (try simp only [Act.put, List.getElem_toArray, List.getElem_cons_succ, List.getElem_cons_zero, List.setIfInBounds_toArray, List.set_cons_zero, List.set_cons_succ])
  refine wpAnyH_take (i := 4) (v := ?_) rfl (by kernel_rfl) (by kernel_rfl) (by kernel_rfl) (fun _ _ _ h => h) (Or.inl ⟨by rfl, ?_⟩) (by assumption) ?_
  rotate_left
  focus (intro wq hSq; (try dsimp only at hSq); go_simp; first | done | (with_reducible rfl))
  (try simp only [Act.put, List.getElem_toArray, List.getElem_cons_succ, List.getElem_cons_zero, List.setIfInBounds_toArray, List.set_cons_zero, List.set_cons_succ])
  refine wpAnyH_ready (rs := [1]) (by kernel_rfl) (by simp) ?_
  refine AllReadyH.cons rfl (fun K hK => ?_) AllReadyH.nil
  rw [if_pos (by rfl)]
  go_simp
  refine (xsize_any _ _ (by omega) _).mono ?_
  rintro e wr ⟨rfl, hbr⟩
  obtain ⟨hcr, hfr, hzr, hBr⟩ := after (a := w) (B := w.heap.size) (w.heap.size + 1) hbr (by first | (with_reducible assumption) | (simp; done) | omega | (simp; omega)) (by repeat' (first | (with_reducible exact Below.refl _ _) | (with_reducible assumption) | (with_reducible refine drewN_below ?_ _) | (with_reducible refine Below.drew ?_) | (with_reducible refine Below.alloc ?_ ?_ _) | (with_reducible refine Below.setCell ?_ ?_ _) | (simp; done) | omega | (simp; omega))) (by omega)
  have yV := Nat.lt_of_lt_of_le xV hzr
  dsimp only
  refine hK.out _ _ ?_ (fun hHeld => ?_)
  · (refine ⟨?_, ?_, ?_, ?_⟩ <;> first | assumption | ((repeat' (first | (with_reducible exact Below.refl _ _) | (with_reducible assumption) | (with_reducible refine drewN_below ?_ _) | (with_reducible refine Below.drew ?_) | (with_reducible refine Below.alloc ?_ ?_ _) | (with_reducible refine Below.setCell ?_ ?_ _) | (simp; done) | omega | (simp; omega))); done) | (simp [*]; done) | (simp [go_sem, *]; done) | (simp; omega))
  clear hK K
  (try simp only [Act.put, List.getElem_toArray, List.getElem_cons_succ, List.getElem_cons_zero, List.setIfInBounds_toArray, List.set_cons_zero, List.set_cons_succ])
  refine wpAnyH_ready (rs := [5]) (by kernel_rfl) (by simp) ?_
  refine AllReadyH.cons rfl (fun K hK => ?_) AllReadyH.nil
  rw [if_pos (by rfl)]
  go_simp
  refine (mul64_any _ _ (by omega) (by omega) _).mono ?_
  rintro e wr ⟨rfl, hbr⟩
  obtain ⟨hcr, hfr, hzr, hBr⟩ := after (a := w) (B := w.heap.size) (w.heap.size + 1) hbr (by first | (with_reducible assumption) | (simp; done) | omega | (simp; omega)) (by repeat' (first | (with_reducible exact Below.refl _ _) | (with_reducible assumption) | (with_reducible refine drewN_below ?_ _) | (with_reducible refine Below.drew ?_) | (with_reducible refine Below.alloc ?_ ?_ _) | (with_reducible refine Below.setCell ?_ ?_ _) | (simp; done) | omega | (simp; omega))) (by omega)
  have yV := Nat.lt_of_lt_of_le xV hzr
  rw [ra.out.h, ra.out.l]
  dsimp only
  refine hK.out _ _ ?_ (fun hHeld => ?_)
  · (refine ⟨?_, ?_, ?_, ?_⟩ <;> first | assumption | ((repeat' (first | (with_reducible exact Below.refl _ _) | (with_reducible assumption) | (with_reducible refine drewN_below ?_ _) | (with_reducible refine Below.drew ?_) | (with_reducible refine Below.alloc ?_ ?_ _) | (with_reducible refine Below.setCell ?_ ?_ _) | (simp; done) | omega | (simp; omega))); done) | (simp [*]; done) | (simp [go_sem, *]; done) | (simp; omega))
  clear hK K
  (try simp only [Act.put, List.getElem_toArray, List.getElem_cons_succ, List.getElem_cons_zero, List.setIfInBounds_toArray, List.set_cons_zero, List.set_cons_succ])
  refine wpAnyH_take (i := 6) (v := ?_) rfl (by kernel_rfl) (by kernel_rfl) (by kernel_rfl) (fun _ _ _ h => h) (Or.inl ⟨by rfl, ?_⟩) (by assumption) ?_
  rotate_left
  focus (intro wq hSq; (try dsimp only at hSq); go_simp; first | done | (with_reducible rfl))
  (try simp only [Act.put, List.getElem_toArray, List.getElem_cons_succ, List.getElem_cons_zero, List.setIfInBounds_toArray, List.set_cons_zero, List.set_cons_succ])
  refine wpAnyH_take (i := 7) (v := ?_) rfl (by kernel_rfl) (by kernel_rfl) (by kernel_rfl) (fun _ _ _ h => h) (Or.inl ⟨by rfl, ?_⟩) (by assumption) ?_
  rotate_left
  focus (intro wq hSq; (try dsimp only at hSq); go_simp; first | done | (with_reducible rfl))
  (try simp only [Act.put, List.getElem_toArray, List.getElem_cons_succ, List.getElem_cons_zero, List.setIfInBounds_toArray, List.set_cons_zero, List.set_cons_succ])
  refine wpAnyH_take (i := 8) (v := ?_) rfl (by kernel_rfl) (by kernel_rfl) (by kernel_rfl) (fun _ _ _ h => h) (Or.inl ⟨by rfl, ?_⟩) (by assumption) ?_
  rotate_left
  focus (intro wq hSq; (try dsimp only at hSq); go_simp; first | done | (with_reducible rfl))
  (try simp only [Act.put, List.getElem_toArray, List.getElem_cons_succ, List.getElem_cons_zero, List.setIfInBounds_toArray, List.set_cons_zero, List.set_cons_succ])
  refine wpAnyH_take (i := 9) (v := ?_) rfl (by kernel_rfl) (by kernel_rfl) (by kernel_rfl) (fun _ _ _ h => h) (Or.inl ⟨by rfl, ?_⟩) (by assumption) ?_
  rotate_left
  focus (intro wq hSq; (try dsimp only at hSq); go_simp; first | done | (with_reducible rfl))
  (try simp only [Act.put, List.getElem_toArray, List.getElem_cons_succ, List.getElem_cons_zero, List.setIfInBounds_toArray, List.set_cons_zero, List.set_cons_succ])
  refine wpAnyH_take (i := 10) (v := ?_) rfl (by kernel_rfl) (by kernel_rfl) (by kernel_rfl) (fun _ _ _ h => h) (Or.inl ⟨by rfl, ?_⟩) (by assumption) ?_
  rotate_left
  focus (intro wq hSq; (try dsimp only at hSq); go_simp; first | done | (with_reducible rfl))
  (try simp only [Act.put, List.getElem_toArray, List.getElem_cons_succ, List.getElem_cons_zero, List.setIfInBounds_toArray, List.set_cons_zero, List.set_cons_succ])
  refine wpAnyH_done (by kernel_rfl) ?_ _
  obtain ⟨s0, s1, s2, s3⟩ := (by assumption : wr.cell? ⟨w.heap.size, 0, none⟩ = some (.int .i64 n) ∧ wr.cell? ⟨w.heap.size, 1, none⟩ = some (.int .i64 d) ∧ w.heap.size + 1 ≤ wr.heap.size ∧ Below w.heap.size w wr)
  have cV0w1 := s0
  have cV1w1 := s1
  have bVw1 : w.heap.size < wr.heap.size := Nat.lt_of_lt_of_le xV s2
  have dVw1 : w.heap.size < wr.heap.size + 1 := Nat.lt_succ_of_lt bVw1
  have hBw1 : Below w.heap.size w wr := s3
  have zw1 : w.heap.size ≤ wr.heap.size := hBw1.size
  clear s0 s1 s2 s3 xV hcr hfr hzr hBr hbr
  repeat (clear hcr hfr hzr hBr hbr)
  skip
  obtain ⟨w1, ew1⟩ : ∃ x, x = wr := ⟨_, rfl⟩
  subst ew1
  go_wp2_with fail
  refine (div64_any _ _ _ (by omega) (by omega) (by omega) _).mono ?_
  rintro e w2 ⟨rfl, hw2⟩
  have hmw2 : Below w1.heap.size w1 w2 := on_below hw2 (by repeat' (first | (with_reducible exact Below.refl _ _) | (with_reducible assumption) | (with_reducible refine drewN_below ?_ _) | (with_reducible refine Below.drew ?_) | (with_reducible refine Below.alloc ?_ ?_ _) | (with_reducible refine Below.setCell ?_ ?_ _) | (simp; done) | omega | (simp; omega))) (by first | (with_reducible assumption) | (simp; done) | omega | (simp; omega))
  have cV0w2 := (hmw2.cell (p := ⟨w.heap.size, 0, none⟩) bVw1).trans cV0w1
  have cV1w2 := (hmw2.cell (p := ⟨w.heap.size, 1, none⟩) bVw1).trans cV1w1
  have bVw2 : w.heap.size < w2.heap.size := Nat.lt_of_lt_of_le bVw1 hmw2.size
  have dVw2 : w.heap.size < w2.heap.size + 1 := Nat.lt_succ_of_lt bVw2
  have hBw2 : Below w.heap.size w w2 := Below.trans hBw1 (hmw2.mono hBw1.size)
  have zw2 : w.heap.size ≤ w2.heap.size := hBw2.size
  clear hmw2 hw2 zw1 hBw1 dVw1 bVw1 cV1w1 cV0w1
  rw [ra.out.k, ra.out.t]
  go_wp2
  go_ret
  exact ⟨rfl, (by repeat' (first | (with_reducible exact Below.refl _ _) | (with_reducible assumption) | (with_reducible refine drewN_below ?_ _) | (with_reducible refine Below.drew ?_) | (with_reducible refine Below.alloc ?_ ?_ _) | (with_reducible refine Below.setCell ?_ ?_ _) | (simp; done) | omega | (simp; omega)))⟩
set_option maxHeartbeats 1000000 in
theorem rd_near_neg (n d e D H L K T : Int) (A B M : Nat) (ha : A ≤ 60) (hB : B ≤ 60) (e1 : max 0 (-e) = (A : Int)) (e2 : max 0 e = (B : Int)) (hn : -2305843009213693952 ≤ n ∧ n ≤ 2305843009213693952) (hd : 1 ≤ d ∧ d ≤ 2305843009213693952) (he : -60 ≤ e ∧ e ≤ 60) (ra : Hid (RA n d D H L K T A B M)) (h0 : n < 0) (h1 : 2 * T < D) (w : World) :
    Calls Tryd.prog 68 #[.agg #[.int .i64 n, .int .i64 d], .int .i64 e, .string ⟨#[110, 101, 97, 114]⟩] w fun en w' => en = .returned (.int .i64 (-(K))) ∧ Below w.heap.size w w' := by
  have f1 : IntKind.u64.wrap d = d := IntWalk.u64_in _ (by omega)
  have f2 : IntKind.u64.wrap (d * 2 ^ A) = D := by rw [ra.out.d2]; exact IntWalk.u64_in _ (by have := ra.out.db; omega)
  have f3 : IntKind.u64.wrap (2 ^ B) = (M : Int) := by rw [← ra.out.m]; have e := Z.p2_uwrap B (by omega); rw [e]; simp
  have hM := ra.out.mb
  have hH := ra.out.hb
  have hL := ra.out.lb
  have hD := ra.out.db
  have hK := ra.out.kb
  have hT := ra.out.tb
  have g0 : decide (n < 0) = true := decide_eq_true h0
  have g1 : decide (D < 2 * T) = false := decide_eq_false (by omega)
  have g2 : (2 * T == D) = false := by rw [beq_eq_false_iff_ne]; omega
  go_enter Tryd.func68, Tryd.ntmps68
  go_wp2
  have xV : w.heap.size < w.heap.size + 1 := by omega
  refine wp_region_held_drew (S := (fun w' => w'.cell? ⟨w.heap.size, 0, none⟩ = some (.int .i64 n) ∧ w'.cell? ⟨w.heap.size, 1, none⟩ = some (.int .i64 d) ∧ w.heap.size + 1 ≤ w'.heap.size ∧ Below w.heap.size w w')) (by kernel_rfl) ?_ ?_
  · (refine ⟨?_, ?_, ?_, ?_⟩ <;> first | assumption | ((repeat' (first | (with_reducible exact Below.refl _ _) | (with_reducible assumption) | (with_reducible refine drewN_below ?_ _) | (with_reducible refine Below.drew ?_) | (with_reducible refine Below.alloc ?_ ?_ _) | (with_reducible refine Below.setCell ?_ ?_ _) | (simp; done) | omega | (simp; omega))); done) | (simp [*]; done) | (simp [go_sem, *]; done) | (simp; omega))
  intro hH0
  refine wpAnyH_take (i := 0) (v := ?_) rfl (by kernel_rfl) (by kernel_rfl) (by kernel_rfl) (fun _ _ _ h => h) (Or.inl ⟨by rfl, ?_⟩) (by assumption) ?_
  rotate_left
  focus (intro wq hSq; (try dsimp only at hSq); go_simp; first | done | (with_reducible rfl))
  (try simp only [Act.put, List.getElem_toArray, List.getElem_cons_zero, List.setIfInBounds_toArray, List.set_cons_zero, List.set_cons_succ])
  refine wpAnyH_take (i := 2) (v := ?_) rfl (by kernel_rfl) (by kernel_rfl) (by kernel_rfl) (fun _ _ _ h => h) (Or.inl ⟨by rfl, ?_⟩) (by assumption) ?_
  rotate_left
  focus (intro wq hSq; (try dsimp only at hSq); go_simp; first | done | (with_reducible rfl))
  (try simp only [Act.put, List.getElem_toArray, List.getElem_cons_succ, List.getElem_cons_zero, List.setIfInBounds_toArray, List.set_cons_zero, List.set_cons_succ])
  refine wpAnyH_take (i := 3) (v := ?_) rfl (by kernel_rfl) (by kernel_rfl) (by kernel_rfl) (fun _ _ _ h => h) (Or.inl ⟨by rfl, ?_⟩) (by assumption) ?_
  rotate_left
  focus (intro wq hSq; (try dsimp only at hSq); go_simp; first | done | (with_reducible rfl))
  (try simp only [Act.put, List.getElem_toArray, List.getElem_cons_succ, List.getElem_cons_zero, List.setIfInBounds_toArray, List.set_cons_zero, List.set_cons_succ])
  refine wpAnyH_take (i := 4) (v := ?_) rfl (by kernel_rfl) (by kernel_rfl) (by kernel_rfl) (fun _ _ _ h => h) (Or.inl ⟨by rfl, ?_⟩) (by assumption) ?_
  rotate_left
  focus (intro wq hSq; (try dsimp only at hSq); go_simp; first | done | (with_reducible rfl))
  (try simp only [Act.put, List.getElem_toArray, List.getElem_cons_succ, List.getElem_cons_zero, List.setIfInBounds_toArray, List.set_cons_zero, List.set_cons_succ])
  refine wpAnyH_ready (rs := [1]) (by kernel_rfl) (by simp) ?_
  refine AllReadyH.cons rfl (fun K hK => ?_) AllReadyH.nil
  rw [if_pos (by rfl)]
  go_simp
  refine (xsize_any _ _ (by omega) _).mono ?_
  rintro e wr ⟨rfl, hbr⟩
  obtain ⟨hcr, hfr, hzr, hBr⟩ := after (a := w) (B := w.heap.size) (w.heap.size + 1) hbr (by first | (with_reducible assumption) | (simp; done) | omega | (simp; omega)) (by repeat' (first | (with_reducible exact Below.refl _ _) | (with_reducible assumption) | (with_reducible refine drewN_below ?_ _) | (with_reducible refine Below.drew ?_) | (with_reducible refine Below.alloc ?_ ?_ _) | (with_reducible refine Below.setCell ?_ ?_ _) | (simp; done) | omega | (simp; omega))) (by omega)
  have yV := Nat.lt_of_lt_of_le xV hzr
  dsimp only
  refine hK.out _ _ ?_ (fun hHeld => ?_)
  · (refine ⟨?_, ?_, ?_, ?_⟩ <;> first | assumption | ((repeat' (first | (with_reducible exact Below.refl _ _) | (with_reducible assumption) | (with_reducible refine drewN_below ?_ _) | (with_reducible refine Below.drew ?_) | (with_reducible refine Below.alloc ?_ ?_ _) | (with_reducible refine Below.setCell ?_ ?_ _) | (simp; done) | omega | (simp; omega))); done) | (simp [*]; done) | (simp [go_sem, *]; done) | (simp; omega))
  clear hK K
  (try simp only [Act.put, List.getElem_toArray, List.getElem_cons_succ, List.getElem_cons_zero, List.setIfInBounds_toArray, List.set_cons_zero, List.set_cons_succ])
  refine wpAnyH_ready (rs := [5]) (by kernel_rfl) (by simp) ?_
  refine AllReadyH.cons rfl (fun K hK => ?_) AllReadyH.nil
  rw [if_pos (by rfl)]
  go_simp
  refine (mul64_any _ _ (by omega) (by omega) _).mono ?_
  rintro e wr ⟨rfl, hbr⟩
  obtain ⟨hcr, hfr, hzr, hBr⟩ := after (a := w) (B := w.heap.size) (w.heap.size + 1) hbr (by first | (with_reducible assumption) | (simp; done) | omega | (simp; omega)) (by repeat' (first | (with_reducible exact Below.refl _ _) | (with_reducible assumption) | (with_reducible refine drewN_below ?_ _) | (with_reducible refine Below.drew ?_) | (with_reducible refine Below.alloc ?_ ?_ _) | (with_reducible refine Below.setCell ?_ ?_ _) | (simp; done) | omega | (simp; omega))) (by omega)
  have yV := Nat.lt_of_lt_of_le xV hzr
  rw [ra.out.h, ra.out.l]
  dsimp only
  refine hK.out _ _ ?_ (fun hHeld => ?_)
  · (refine ⟨?_, ?_, ?_, ?_⟩ <;> first | assumption | ((repeat' (first | (with_reducible exact Below.refl _ _) | (with_reducible assumption) | (with_reducible refine drewN_below ?_ _) | (with_reducible refine Below.drew ?_) | (with_reducible refine Below.alloc ?_ ?_ _) | (with_reducible refine Below.setCell ?_ ?_ _) | (simp; done) | omega | (simp; omega))); done) | (simp [*]; done) | (simp [go_sem, *]; done) | (simp; omega))
  clear hK K
  (try simp only [Act.put, List.getElem_toArray, List.getElem_cons_succ, List.getElem_cons_zero, List.setIfInBounds_toArray, List.set_cons_zero, List.set_cons_succ])
  refine wpAnyH_take (i := 6) (v := ?_) rfl (by kernel_rfl) (by kernel_rfl) (by kernel_rfl) (fun _ _ _ h => h) (Or.inl ⟨by rfl, ?_⟩) (by assumption) ?_
  rotate_left
  focus (intro wq hSq; (try dsimp only at hSq); go_simp; first | done | (with_reducible rfl))
  (try simp only [Act.put, List.getElem_toArray, List.getElem_cons_succ, List.getElem_cons_zero, List.setIfInBounds_toArray, List.set_cons_zero, List.set_cons_succ])
  refine wpAnyH_take (i := 7) (v := ?_) rfl (by kernel_rfl) (by kernel_rfl) (by kernel_rfl) (fun _ _ _ h => h) (Or.inl ⟨by rfl, ?_⟩) (by assumption) ?_
  rotate_left
  focus (intro wq hSq; (try dsimp only at hSq); go_simp; first | done | (with_reducible rfl))
  (try simp only [Act.put, List.getElem_toArray, List.getElem_cons_succ, List.getElem_cons_zero, List.setIfInBounds_toArray, List.set_cons_zero, List.set_cons_succ])
  refine wpAnyH_take (i := 8) (v := ?_) rfl (by kernel_rfl) (by kernel_rfl) (by kernel_rfl) (fun _ _ _ h => h) (Or.inl ⟨by rfl, ?_⟩) (by assumption) ?_
  rotate_left
  focus (intro wq hSq; (try dsimp only at hSq); go_simp; first | done | (with_reducible rfl))
  (try simp only [Act.put, List.getElem_toArray, List.getElem_cons_succ, List.getElem_cons_zero, List.setIfInBounds_toArray, List.set_cons_zero, List.set_cons_succ])
  refine wpAnyH_take (i := 9) (v := ?_) rfl (by kernel_rfl) (by kernel_rfl) (by kernel_rfl) (fun _ _ _ h => h) (Or.inl ⟨by rfl, ?_⟩) (by assumption) ?_
  rotate_left
  focus (intro wq hSq; (try dsimp only at hSq); go_simp; first | done | (with_reducible rfl))
  (try simp only [Act.put, List.getElem_toArray, List.getElem_cons_succ, List.getElem_cons_zero, List.setIfInBounds_toArray, List.set_cons_zero, List.set_cons_succ])
  refine wpAnyH_take (i := 10) (v := ?_) rfl (by kernel_rfl) (by kernel_rfl) (by kernel_rfl) (fun _ _ _ h => h) (Or.inl ⟨by rfl, ?_⟩) (by assumption) ?_
  rotate_left
  focus (intro wq hSq; (try dsimp only at hSq); go_simp; first | done | (with_reducible rfl))
  (try simp only [Act.put, List.getElem_toArray, List.getElem_cons_succ, List.getElem_cons_zero, List.setIfInBounds_toArray, List.set_cons_zero, List.set_cons_succ])
  refine wpAnyH_done (by kernel_rfl) ?_ _
  obtain ⟨s0, s1, s2, s3⟩ := (by assumption : wr.cell? ⟨w.heap.size, 0, none⟩ = some (.int .i64 n) ∧ wr.cell? ⟨w.heap.size, 1, none⟩ = some (.int .i64 d) ∧ w.heap.size + 1 ≤ wr.heap.size ∧ Below w.heap.size w wr)
  have cV0w1 := s0
  have cV1w1 := s1
  have bVw1 : w.heap.size < wr.heap.size := Nat.lt_of_lt_of_le xV s2
  have dVw1 : w.heap.size < wr.heap.size + 1 := Nat.lt_succ_of_lt bVw1
  have hBw1 : Below w.heap.size w wr := s3
  have zw1 : w.heap.size ≤ wr.heap.size := hBw1.size
  clear s0 s1 s2 s3 xV hcr hfr hzr hBr hbr
  repeat (clear hcr hfr hzr hBr hbr)
  skip
  obtain ⟨w1, ew1⟩ : ∃ x, x = wr := ⟨_, rfl⟩
  subst ew1
  go_wp2_with fail
  refine (div64_any _ _ _ (by omega) (by omega) (by omega) _).mono ?_
  rintro e w2 ⟨rfl, hw2⟩
  have hmw2 : Below w1.heap.size w1 w2 := on_below hw2 (by repeat' (first | (with_reducible exact Below.refl _ _) | (with_reducible assumption) | (with_reducible refine drewN_below ?_ _) | (with_reducible refine Below.drew ?_) | (with_reducible refine Below.alloc ?_ ?_ _) | (with_reducible refine Below.setCell ?_ ?_ _) | (simp; done) | omega | (simp; omega))) (by first | (with_reducible assumption) | (simp; done) | omega | (simp; omega))
  have cV0w2 := (hmw2.cell (p := ⟨w.heap.size, 0, none⟩) bVw1).trans cV0w1
  have cV1w2 := (hmw2.cell (p := ⟨w.heap.size, 1, none⟩) bVw1).trans cV1w1
  have bVw2 : w.heap.size < w2.heap.size := Nat.lt_of_lt_of_le bVw1 hmw2.size
  have dVw2 : w.heap.size < w2.heap.size + 1 := Nat.lt_succ_of_lt bVw2
  have hBw2 : Below w.heap.size w w2 := Below.trans hBw1 (hmw2.mono hBw1.size)
  have zw2 : w.heap.size ≤ w2.heap.size := hBw2.size
  clear hmw2 hw2 zw1 hBw1 dVw1 bVw1 cV1w1 cV0w1
  rw [ra.out.k, ra.out.t]
  go_wp2
  go_ret
  exact ⟨rfl, (by repeat' (first | (with_reducible exact Below.refl _ _) | (with_reducible assumption) | (with_reducible refine drewN_below ?_ _) | (with_reducible refine Below.drew ?_) | (with_reducible refine Below.alloc ?_ ?_ _) | (with_reducible refine Below.setCell ?_ ?_ _) | (simp; done) | omega | (simp; omega)))⟩
set_option maxHeartbeats 1000000 in
theorem rd_near_over_pos (n d e D H L K T : Int) (A B M : Nat) (ha : A ≤ 60) (hB : B ≤ 60) (e1 : max 0 (-e) = (A : Int)) (e2 : max 0 e = (B : Int)) (hn : -2305843009213693952 ≤ n ∧ n ≤ 2305843009213693952) (hd : 1 ≤ d ∧ d ≤ 2305843009213693952) (he : -60 ≤ e ∧ e ≤ 60) (ra : Hid (RA n d D H L K T A B M)) (h0 : 0 ≤ n) (h1 : D < 2 * T) (w : World) :
    Calls Tryd.prog 68 #[.agg #[.int .i64 n, .int .i64 d], .int .i64 e, .string ⟨#[110, 101, 97, 114]⟩] w fun en w' => en = .returned (.int .i64 (K + 1)) ∧ Below w.heap.size w w' := by
  have f1 : IntKind.u64.wrap d = d := IntWalk.u64_in _ (by omega)
  have f2 : IntKind.u64.wrap (d * 2 ^ A) = D := by rw [ra.out.d2]; exact IntWalk.u64_in _ (by have := ra.out.db; omega)
  have f3 : IntKind.u64.wrap (2 ^ B) = (M : Int) := by rw [← ra.out.m]; have e := Z.p2_uwrap B (by omega); rw [e]; simp
  have hM := ra.out.mb
  have hH := ra.out.hb
  have hL := ra.out.lb
  have hD := ra.out.db
  have hK := ra.out.kb
  have hT := ra.out.tb
  have g0 : decide (n < 0) = false := decide_eq_false (by omega)
  have g1 : decide (D < 2 * T) = true := decide_eq_true h1
  go_enter Tryd.func68, Tryd.ntmps68
  go_wp2
  have xV : w.heap.size < w.heap.size + 1 := by omega
  refine wp_region_held_drew (S := (fun w' => w'.cell? ⟨w.heap.size, 0, none⟩ = some (.int .i64 n) ∧ w'.cell? ⟨w.heap.size, 1, none⟩ = some (.int .i64 d) ∧ w.heap.size + 1 ≤ w'.heap.size ∧ Below w.heap.size w w')) (by kernel_rfl) ?_ ?_
  · (refine ⟨?_, ?_, ?_, ?_⟩ <;> first | assumption | ((repeat' (first | (with_reducible exact Below.refl _ _) | (with_reducible assumption) | (with_reducible refine drewN_below ?_ _) | (with_reducible refine Below.drew ?_) | (with_reducible refine Below.alloc ?_ ?_ _) | (with_reducible refine Below.setCell ?_ ?_ _) | (simp; done) | omega | (simp; omega))); done) | (simp [*]; done) | (simp [go_sem, *]; done) | (simp; omega))
  intro hH0
  refine wpAnyH_take (i := 0) (v := ?_) rfl (by kernel_rfl) (by kernel_rfl) (by kernel_rfl) (fun _ _ _ h => h) (Or.inl ⟨by rfl, ?_⟩) (by assumption) ?_
  rotate_left
  focus (intro wq hSq; (try dsimp only at hSq); go_simp; first | done | (with_reducible rfl))
  (try simp only [Act.put, List.getElem_toArray, List.getElem_cons_zero, List.setIfInBounds_toArray, List.set_cons_zero, List.set_cons_succ])
  refine wpAnyH_take (i := 2) (v := ?_) rfl (by kernel_rfl) (by kernel_rfl) (by kernel_rfl) (fun _ _ _ h => h) (Or.inl ⟨by rfl, ?_⟩) (by assumption) ?_
  rotate_left
  focus (intro wq hSq; (try dsimp only at hSq); go_simp; first | done | (with_reducible rfl))
  (try simp only [Act.put, List.getElem_toArray, List.getElem_cons_succ, List.getElem_cons_zero, List.setIfInBounds_toArray, List.set_cons_zero, List.set_cons_succ])
  refine wpAnyH_take (i := 3) (v := ?_) rfl (by kernel_rfl) (by kernel_rfl) (by kernel_rfl) (fun _ _ _ h => h) (Or.inl ⟨by rfl, ?_⟩) (by assumption) ?_
  rotate_left
  focus (intro wq hSq; (try dsimp only at hSq); go_simp; first | done | (with_reducible rfl))
  (try simp only [Act.put, List.getElem_toArray, List.getElem_cons_succ, List.getElem_cons_zero, List.setIfInBounds_toArray, List.set_cons_zero, List.set_cons_succ])
  refine wpAnyH_take (i := 4) (v := ?_) rfl (by kernel_rfl) (by kernel_rfl) (by kernel_rfl) (fun _ _ _ h => h) (Or.inl ⟨by rfl, ?_⟩) (by assumption) ?_
  rotate_left
  focus (intro wq hSq; (try dsimp only at hSq); go_simp; first | done | (with_reducible rfl))
  (try simp only [Act.put, List.getElem_toArray, List.getElem_cons_succ, List.getElem_cons_zero, List.setIfInBounds_toArray, List.set_cons_zero, List.set_cons_succ])
  refine wpAnyH_ready (rs := [1]) (by kernel_rfl) (by simp) ?_
  refine AllReadyH.cons rfl (fun K hK => ?_) AllReadyH.nil
  rw [if_pos (by rfl)]
  go_simp
  refine (xsize_any _ _ (by omega) _).mono ?_
  rintro e wr ⟨rfl, hbr⟩
  obtain ⟨hcr, hfr, hzr, hBr⟩ := after (a := w) (B := w.heap.size) (w.heap.size + 1) hbr (by first | (with_reducible assumption) | (simp; done) | omega | (simp; omega)) (by repeat' (first | (with_reducible exact Below.refl _ _) | (with_reducible assumption) | (with_reducible refine drewN_below ?_ _) | (with_reducible refine Below.drew ?_) | (with_reducible refine Below.alloc ?_ ?_ _) | (with_reducible refine Below.setCell ?_ ?_ _) | (simp; done) | omega | (simp; omega))) (by omega)
  have yV := Nat.lt_of_lt_of_le xV hzr
  dsimp only
  refine hK.out _ _ ?_ (fun hHeld => ?_)
  · (refine ⟨?_, ?_, ?_, ?_⟩ <;> first | assumption | ((repeat' (first | (with_reducible exact Below.refl _ _) | (with_reducible assumption) | (with_reducible refine drewN_below ?_ _) | (with_reducible refine Below.drew ?_) | (with_reducible refine Below.alloc ?_ ?_ _) | (with_reducible refine Below.setCell ?_ ?_ _) | (simp; done) | omega | (simp; omega))); done) | (simp [*]; done) | (simp [go_sem, *]; done) | (simp; omega))
  clear hK K
  (try simp only [Act.put, List.getElem_toArray, List.getElem_cons_succ, List.getElem_cons_zero, List.setIfInBounds_toArray, List.set_cons_zero, List.set_cons_succ])
  refine wpAnyH_ready (rs := [5]) (by kernel_rfl) (by simp) ?_
  refine AllReadyH.cons rfl (fun K hK => ?_) AllReadyH.nil
  rw [if_pos (by rfl)]
  go_simp
  refine (mul64_any _ _ (by omega) (by omega) _).mono ?_
  rintro e wr ⟨rfl, hbr⟩
  obtain ⟨hcr, hfr, hzr, hBr⟩ := after (a := w) (B := w.heap.size) (w.heap.size + 1) hbr (by first | (with_reducible assumption) | (simp; done) | omega | (simp; omega)) (by repeat' (first | (with_reducible exact Below.refl _ _) | (with_reducible assumption) | (with_reducible refine drewN_below ?_ _) | (with_reducible refine Below.drew ?_) | (with_reducible refine Below.alloc ?_ ?_ _) | (with_reducible refine Below.setCell ?_ ?_ _) | (simp; done) | omega | (simp; omega))) (by omega)
  have yV := Nat.lt_of_lt_of_le xV hzr
  rw [ra.out.h, ra.out.l]
  dsimp only
  refine hK.out _ _ ?_ (fun hHeld => ?_)
  · (refine ⟨?_, ?_, ?_, ?_⟩ <;> first | assumption | ((repeat' (first | (with_reducible exact Below.refl _ _) | (with_reducible assumption) | (with_reducible refine drewN_below ?_ _) | (with_reducible refine Below.drew ?_) | (with_reducible refine Below.alloc ?_ ?_ _) | (with_reducible refine Below.setCell ?_ ?_ _) | (simp; done) | omega | (simp; omega))); done) | (simp [*]; done) | (simp [go_sem, *]; done) | (simp; omega))
  clear hK K
  (try simp only [Act.put, List.getElem_toArray, List.getElem_cons_succ, List.getElem_cons_zero, List.setIfInBounds_toArray, List.set_cons_zero, List.set_cons_succ])
  refine wpAnyH_take (i := 6) (v := ?_) rfl (by kernel_rfl) (by kernel_rfl) (by kernel_rfl) (fun _ _ _ h => h) (Or.inl ⟨by rfl, ?_⟩) (by assumption) ?_
  rotate_left
  focus (intro wq hSq; (try dsimp only at hSq); go_simp; first | done | (with_reducible rfl))
  (try simp only [Act.put, List.getElem_toArray, List.getElem_cons_succ, List.getElem_cons_zero, List.setIfInBounds_toArray, List.set_cons_zero, List.set_cons_succ])
  refine wpAnyH_take (i := 7) (v := ?_) rfl (by kernel_rfl) (by kernel_rfl) (by kernel_rfl) (fun _ _ _ h => h) (Or.inl ⟨by rfl, ?_⟩) (by assumption) ?_
  rotate_left
  focus (intro wq hSq; (try dsimp only at hSq); go_simp; first | done | (with_reducible rfl))
  (try simp only [Act.put, List.getElem_toArray, List.getElem_cons_succ, List.getElem_cons_zero, List.setIfInBounds_toArray, List.set_cons_zero, List.set_cons_succ])
  refine wpAnyH_take (i := 8) (v := ?_) rfl (by kernel_rfl) (by kernel_rfl) (by kernel_rfl) (fun _ _ _ h => h) (Or.inl ⟨by rfl, ?_⟩) (by assumption) ?_
  rotate_left
  focus (intro wq hSq; (try dsimp only at hSq); go_simp; first | done | (with_reducible rfl))
  (try simp only [Act.put, List.getElem_toArray, List.getElem_cons_succ, List.getElem_cons_zero, List.setIfInBounds_toArray, List.set_cons_zero, List.set_cons_succ])
  refine wpAnyH_take (i := 9) (v := ?_) rfl (by kernel_rfl) (by kernel_rfl) (by kernel_rfl) (fun _ _ _ h => h) (Or.inl ⟨by rfl, ?_⟩) (by assumption) ?_
  rotate_left
  focus (intro wq hSq; (try dsimp only at hSq); go_simp; first | done | (with_reducible rfl))
  (try simp only [Act.put, List.getElem_toArray, List.getElem_cons_succ, List.getElem_cons_zero, List.setIfInBounds_toArray, List.set_cons_zero, List.set_cons_succ])
  refine wpAnyH_take (i := 10) (v := ?_) rfl (by kernel_rfl) (by kernel_rfl) (by kernel_rfl) (fun _ _ _ h => h) (Or.inl ⟨by rfl, ?_⟩) (by assumption) ?_
  rotate_left
  focus (intro wq hSq; (try dsimp only at hSq); go_simp; first | done | (with_reducible rfl))
  (try simp only [Act.put, List.getElem_toArray, List.getElem_cons_succ, List.getElem_cons_zero, List.setIfInBounds_toArray, List.set_cons_zero, List.set_cons_succ])
  refine wpAnyH_done (by kernel_rfl) ?_ _
  obtain ⟨s0, s1, s2, s3⟩ := (by assumption : wr.cell? ⟨w.heap.size, 0, none⟩ = some (.int .i64 n) ∧ wr.cell? ⟨w.heap.size, 1, none⟩ = some (.int .i64 d) ∧ w.heap.size + 1 ≤ wr.heap.size ∧ Below w.heap.size w wr)
  have cV0w1 := s0
  have cV1w1 := s1
  have bVw1 : w.heap.size < wr.heap.size := Nat.lt_of_lt_of_le xV s2
  have dVw1 : w.heap.size < wr.heap.size + 1 := Nat.lt_succ_of_lt bVw1
  have hBw1 : Below w.heap.size w wr := s3
  have zw1 : w.heap.size ≤ wr.heap.size := hBw1.size
  clear s0 s1 s2 s3 xV hcr hfr hzr hBr hbr
  repeat (clear hcr hfr hzr hBr hbr)
  skip
  obtain ⟨w1, ew1⟩ : ∃ x, x = wr := ⟨_, rfl⟩
  subst ew1
  go_wp2_with fail
  refine (div64_any _ _ _ (by omega) (by omega) (by omega) _).mono ?_
  rintro e w2 ⟨rfl, hw2⟩
  have hmw2 : Below w1.heap.size w1 w2 := on_below hw2 (by repeat' (first | (with_reducible exact Below.refl _ _) | (with_reducible assumption) | (with_reducible refine drewN_below ?_ _) | (with_reducible refine Below.drew ?_) | (with_reducible refine Below.alloc ?_ ?_ _) | (with_reducible refine Below.setCell ?_ ?_ _) | (simp; done) | omega | (simp; omega))) (by first | (with_reducible assumption) | (simp; done) | omega | (simp; omega))
  have cV0w2 := (hmw2.cell (p := ⟨w.heap.size, 0, none⟩) bVw1).trans cV0w1
  have cV1w2 := (hmw2.cell (p := ⟨w.heap.size, 1, none⟩) bVw1).trans cV1w1
  have bVw2 : w.heap.size < w2.heap.size := Nat.lt_of_lt_of_le bVw1 hmw2.size
  have dVw2 : w.heap.size < w2.heap.size + 1 := Nat.lt_succ_of_lt bVw2
  have hBw2 : Below w.heap.size w w2 := Below.trans hBw1 (hmw2.mono hBw1.size)
  have zw2 : w.heap.size ≤ w2.heap.size := hBw2.size
  clear hmw2 hw2 zw1 hBw1 dVw1 bVw1 cV1w1 cV0w1
  rw [ra.out.k, ra.out.t]
  go_wp2
  go_ret
  exact ⟨rfl, (by repeat' (first | (with_reducible exact Below.refl _ _) | (with_reducible assumption) | (with_reducible refine drewN_below ?_ _) | (with_reducible refine Below.drew ?_) | (with_reducible refine Below.alloc ?_ ?_ _) | (with_reducible refine Below.setCell ?_ ?_ _) | (simp; done) | omega | (simp; omega)))⟩
set_option maxHeartbeats 1000000 in
theorem rd_near_odd_pos (n d e D H L K T : Int) (A B M : Nat) (ha : A ≤ 60) (hB : B ≤ 60) (e1 : max 0 (-e) = (A : Int)) (e2 : max 0 e = (B : Int)) (hn : -2305843009213693952 ≤ n ∧ n ≤ 2305843009213693952) (hd : 1 ≤ d ∧ d ≤ 2305843009213693952) (he : -60 ≤ e ∧ e ≤ 60) (ra : Hid (RA n d D H L K T A B M)) (h0 : 0 ≤ n) (h1 : 2 * T = D) (h2 : K % 2 = 1) (w : World) :
    Calls Tryd.prog 68 #[.agg #[.int .i64 n, .int .i64 d], .int .i64 e, .string ⟨#[110, 101, 97, 114]⟩] w fun en w' => en = .returned (.int .i64 (K + 1)) ∧ Below w.heap.size w w' := by
  have f1 : IntKind.u64.wrap d = d := IntWalk.u64_in _ (by omega)
  have f2 : IntKind.u64.wrap (d * 2 ^ A) = D := by rw [ra.out.d2]; exact IntWalk.u64_in _ (by have := ra.out.db; omega)
  have f3 : IntKind.u64.wrap (2 ^ B) = (M : Int) := by rw [← ra.out.m]; have e := Z.p2_uwrap B (by omega); rw [e]; simp
  have hM := ra.out.mb
  have hH := ra.out.hb
  have hL := ra.out.lb
  have hD := ra.out.db
  have hK := ra.out.kb
  have hT := ra.out.tb
  have g0 : decide (n < 0) = false := decide_eq_false (by omega)
  have g1 : decide (D < 2 * T) = false := decide_eq_false (by omega)
  have g2 : (2 * T == D) = true := by rw [beq_iff_eq]; exact h1
  have g3 : (K % 2 == 1) = true := by rw [beq_iff_eq]; exact h2
  have g4 : (K.tmod 2 == 1) = true := by rw [beq_iff_eq, Int.tmod_eq_emod_of_nonneg hK.1]; exact h2
  clear h1 h2
  go_enter Tryd.func68, Tryd.ntmps68
  go_wp2
  have xV : w.heap.size < w.heap.size + 1 := by omega
  refine wp_region_held_drew (S := (fun w' => w'.cell? ⟨w.heap.size, 0, none⟩ = some (.int .i64 n) ∧ w'.cell? ⟨w.heap.size, 1, none⟩ = some (.int .i64 d) ∧ w.heap.size + 1 ≤ w'.heap.size ∧ Below w.heap.size w w')) (by kernel_rfl) ?_ ?_
  · (refine ⟨?_, ?_, ?_, ?_⟩ <;> first | assumption | ((repeat' (first | (with_reducible exact Below.refl _ _) | (with_reducible assumption) | (with_reducible refine drewN_below ?_ _) | (with_reducible refine Below.drew ?_) | (with_reducible refine Below.alloc ?_ ?_ _) | (with_reducible refine Below.setCell ?_ ?_ _) | (simp; done) | omega | (simp; omega))); done) | (simp [*]; done) | (simp [go_sem, *]; done) | (simp; omega))
  intro hH0
  refine wpAnyH_take (i := 0) (v := ?_) rfl (by kernel_rfl) (by kernel_rfl) (by kernel_rfl) (fun _ _ _ h => h) (Or.inl ⟨by rfl, ?_⟩) (by assumption) ?_
  rotate_left
  focus (intro wq hSq; (try dsimp only at hSq); go_simp; first | done | (with_reducible rfl))
  (try simp only [Act.put, List.getElem_toArray, List.getElem_cons_zero, List.setIfInBounds_toArray, List.set_cons_zero, List.set_cons_succ])
  refine wpAnyH_take (i := 2) (v := ?_) rfl (by kernel_rfl) (by kernel_rfl) (by kernel_rfl) (fun _ _ _ h => h) (Or.inl ⟨by rfl, ?_⟩) (by assumption) ?_
  rotate_left
  focus (intro wq hSq; (try dsimp only at hSq); go_simp; first | done | (with_reducible rfl))
  (try simp only [Act.put, List.getElem_toArray, List.getElem_cons_succ, List.getElem_cons_zero, List.setIfInBounds_toArray, List.set_cons_zero, List.set_cons_succ])
  refine wpAnyH_take (i := 3) (v := ?_) rfl (by kernel_rfl) (by kernel_rfl) (by kernel_rfl) (fun _ _ _ h => h) (Or.inl ⟨by rfl, ?_⟩) (by assumption) ?_
  rotate_left
  focus (intro wq hSq; (try dsimp only at hSq); go_simp; first | done | (with_reducible rfl))
  (try simp only [Act.put, List.getElem_toArray, List.getElem_cons_succ, List.getElem_cons_zero, List.setIfInBounds_toArray, List.set_cons_zero, List.set_cons_succ])
  refine wpAnyH_take (i := 4) (v := ?_) rfl (by kernel_rfl) (by kernel_rfl) (by kernel_rfl) (fun _ _ _ h => h) (Or.inl ⟨by rfl, ?_⟩) (by assumption) ?_
  rotate_left
  focus (intro wq hSq; (try dsimp only at hSq); go_simp; first | done | (with_reducible rfl))
  (try simp only [Act.put, List.getElem_toArray, List.getElem_cons_succ, List.getElem_cons_zero, List.setIfInBounds_toArray, List.set_cons_zero, List.set_cons_succ])
  refine wpAnyH_ready (rs := [1]) (by kernel_rfl) (by simp) ?_
  refine AllReadyH.cons rfl (fun K hK => ?_) AllReadyH.nil
  rw [if_pos (by rfl)]
  go_simp
  refine (xsize_any _ _ (by omega) _).mono ?_
  rintro e wr ⟨rfl, hbr⟩
  obtain ⟨hcr, hfr, hzr, hBr⟩ := after (a := w) (B := w.heap.size) (w.heap.size + 1) hbr (by first | (with_reducible assumption) | (simp; done) | omega | (simp; omega)) (by repeat' (first | (with_reducible exact Below.refl _ _) | (with_reducible assumption) | (with_reducible refine drewN_below ?_ _) | (with_reducible refine Below.drew ?_) | (with_reducible refine Below.alloc ?_ ?_ _) | (with_reducible refine Below.setCell ?_ ?_ _) | (simp; done) | omega | (simp; omega))) (by omega)
  have yV := Nat.lt_of_lt_of_le xV hzr
  dsimp only
  refine hK.out _ _ ?_ (fun hHeld => ?_)
  · (refine ⟨?_, ?_, ?_, ?_⟩ <;> first | assumption | ((repeat' (first | (with_reducible exact Below.refl _ _) | (with_reducible assumption) | (with_reducible refine drewN_below ?_ _) | (with_reducible refine Below.drew ?_) | (with_reducible refine Below.alloc ?_ ?_ _) | (with_reducible refine Below.setCell ?_ ?_ _) | (simp; done) | omega | (simp; omega))); done) | (simp [*]; done) | (simp [go_sem, *]; done) | (simp; omega))
  clear hK K
  (try simp only [Act.put, List.getElem_toArray, List.getElem_cons_succ, List.getElem_cons_zero, List.setIfInBounds_toArray, List.set_cons_zero, List.set_cons_succ])
  refine wpAnyH_ready (rs := [5]) (by kernel_rfl) (by simp) ?_
  refine AllReadyH.cons rfl (fun K hK => ?_) AllReadyH.nil
  rw [if_pos (by rfl)]
  go_simp
  refine (mul64_any _ _ (by omega) (by omega) _).mono ?_
  rintro e wr ⟨rfl, hbr⟩
  obtain ⟨hcr, hfr, hzr, hBr⟩ := after (a := w) (B := w.heap.size) (w.heap.size + 1) hbr (by first | (with_reducible assumption) | (simp; done) | omega | (simp; omega)) (by repeat' (first | (with_reducible exact Below.refl _ _) | (with_reducible assumption) | (with_reducible refine drewN_below ?_ _) | (with_reducible refine Below.drew ?_) | (with_reducible refine Below.alloc ?_ ?_ _) | (with_reducible refine Below.setCell ?_ ?_ _) | (simp; done) | omega | (simp; omega))) (by omega)
  have yV := Nat.lt_of_lt_of_le xV hzr
  rw [ra.out.h, ra.out.l]
  dsimp only
  refine hK.out _ _ ?_ (fun hHeld => ?_)
  · (refine ⟨?_, ?_, ?_, ?_⟩ <;> first | assumption | ((repeat' (first | (with_reducible exact Below.refl _ _) | (with_reducible assumption) | (with_reducible refine drewN_below ?_ _) | (with_reducible refine Below.drew ?_) | (with_reducible refine Below.alloc ?_ ?_ _) | (with_reducible refine Below.setCell ?_ ?_ _) | (simp; done) | omega | (simp; omega))); done) | (simp [*]; done) | (simp [go_sem, *]; done) | (simp; omega))
  clear hK K
  (try simp only [Act.put, List.getElem_toArray, List.getElem_cons_succ, List.getElem_cons_zero, List.setIfInBounds_toArray, List.set_cons_zero, List.set_cons_succ])
  refine wpAnyH_take (i := 6) (v := ?_) rfl (by kernel_rfl) (by kernel_rfl) (by kernel_rfl) (fun _ _ _ h => h) (Or.inl ⟨by rfl, ?_⟩) (by assumption) ?_
  rotate_left
  focus (intro wq hSq; (try dsimp only at hSq); go_simp; first | done | (with_reducible rfl))
  (try simp only [Act.put, List.getElem_toArray, List.getElem_cons_succ, List.getElem_cons_zero, List.setIfInBounds_toArray, List.set_cons_zero, List.set_cons_succ])
  refine wpAnyH_take (i := 7) (v := ?_) rfl (by kernel_rfl) (by kernel_rfl) (by kernel_rfl) (fun _ _ _ h => h) (Or.inl ⟨by rfl, ?_⟩) (by assumption) ?_
  rotate_left
  focus (intro wq hSq; (try dsimp only at hSq); go_simp; first | done | (with_reducible rfl))
  (try simp only [Act.put, List.getElem_toArray, List.getElem_cons_succ, List.getElem_cons_zero, List.setIfInBounds_toArray, List.set_cons_zero, List.set_cons_succ])
  refine wpAnyH_take (i := 8) (v := ?_) rfl (by kernel_rfl) (by kernel_rfl) (by kernel_rfl) (fun _ _ _ h => h) (Or.inl ⟨by rfl, ?_⟩) (by assumption) ?_
  rotate_left
  focus (intro wq hSq; (try dsimp only at hSq); go_simp; first | done | (with_reducible rfl))
  (try simp only [Act.put, List.getElem_toArray, List.getElem_cons_succ, List.getElem_cons_zero, List.setIfInBounds_toArray, List.set_cons_zero, List.set_cons_succ])
  refine wpAnyH_take (i := 9) (v := ?_) rfl (by kernel_rfl) (by kernel_rfl) (by kernel_rfl) (fun _ _ _ h => h) (Or.inl ⟨by rfl, ?_⟩) (by assumption) ?_
  rotate_left
  focus (intro wq hSq; (try dsimp only at hSq); go_simp; first | done | (with_reducible rfl))
  (try simp only [Act.put, List.getElem_toArray, List.getElem_cons_succ, List.getElem_cons_zero, List.setIfInBounds_toArray, List.set_cons_zero, List.set_cons_succ])
  refine wpAnyH_take (i := 10) (v := ?_) rfl (by kernel_rfl) (by kernel_rfl) (by kernel_rfl) (fun _ _ _ h => h) (Or.inl ⟨by rfl, ?_⟩) (by assumption) ?_
  rotate_left
  focus (intro wq hSq; (try dsimp only at hSq); go_simp; first | done | (with_reducible rfl))
  (try simp only [Act.put, List.getElem_toArray, List.getElem_cons_succ, List.getElem_cons_zero, List.setIfInBounds_toArray, List.set_cons_zero, List.set_cons_succ])
  refine wpAnyH_done (by kernel_rfl) ?_ _
  obtain ⟨s0, s1, s2, s3⟩ := (by assumption : wr.cell? ⟨w.heap.size, 0, none⟩ = some (.int .i64 n) ∧ wr.cell? ⟨w.heap.size, 1, none⟩ = some (.int .i64 d) ∧ w.heap.size + 1 ≤ wr.heap.size ∧ Below w.heap.size w wr)
  have cV0w1 := s0
  have cV1w1 := s1
  have bVw1 : w.heap.size < wr.heap.size := Nat.lt_of_lt_of_le xV s2
  have dVw1 : w.heap.size < wr.heap.size + 1 := Nat.lt_succ_of_lt bVw1
  have hBw1 : Below w.heap.size w wr := s3
  have zw1 : w.heap.size ≤ wr.heap.size := hBw1.size
  clear s0 s1 s2 s3 xV hcr hfr hzr hBr hbr
  repeat (clear hcr hfr hzr hBr hbr)
  skip
  obtain ⟨w1, ew1⟩ : ∃ x, x = wr := ⟨_, rfl⟩
  subst ew1
  go_wp2_with fail
  refine (div64_any _ _ _ (by omega) (by omega) (by omega) _).mono ?_
  rintro e w2 ⟨rfl, hw2⟩
  have hmw2 : Below w1.heap.size w1 w2 := on_below hw2 (by repeat' (first | (with_reducible exact Below.refl _ _) | (with_reducible assumption) | (with_reducible refine drewN_below ?_ _) | (with_reducible refine Below.drew ?_) | (with_reducible refine Below.alloc ?_ ?_ _) | (with_reducible refine Below.setCell ?_ ?_ _) | (simp; done) | omega | (simp; omega))) (by first | (with_reducible assumption) | (simp; done) | omega | (simp; omega))
  have cV0w2 := (hmw2.cell (p := ⟨w.heap.size, 0, none⟩) bVw1).trans cV0w1
  have cV1w2 := (hmw2.cell (p := ⟨w.heap.size, 1, none⟩) bVw1).trans cV1w1
  have bVw2 : w.heap.size < w2.heap.size := Nat.lt_of_lt_of_le bVw1 hmw2.size
  have dVw2 : w.heap.size < w2.heap.size + 1 := Nat.lt_succ_of_lt bVw2
  have hBw2 : Below w.heap.size w w2 := Below.trans hBw1 (hmw2.mono hBw1.size)
  have zw2 : w.heap.size ≤ w2.heap.size := hBw2.size
  clear hmw2 hw2 zw1 hBw1 dVw1 bVw1 cV1w1 cV0w1
  rw [ra.out.k, ra.out.t]
  go_wp2
  go_ret
  exact ⟨rfl, (by repeat' (first | (with_reducible exact Below.refl _ _) | (with_reducible assumption) | (with_reducible refine drewN_below ?_ _) | (with_reducible refine Below.drew ?_) | (with_reducible refine Below.alloc ?_ ?_ _) | (with_reducible refine Below.setCell ?_ ?_ _) | (simp; done) | omega | (simp; omega)))⟩
set_option maxHeartbeats 1000000 in
theorem rd_near_even_pos (n d e D H L K T : Int) (A B M : Nat) (ha : A ≤ 60) (hB : B ≤ 60) (e1 : max 0 (-e) = (A : Int)) (e2 : max 0 e = (B : Int)) (hn : -2305843009213693952 ≤ n ∧ n ≤ 2305843009213693952) (hd : 1 ≤ d ∧ d ≤ 2305843009213693952) (he : -60 ≤ e ∧ e ≤ 60) (ra : Hid (RA n d D H L K T A B M)) (h0 : 0 ≤ n) (h1 : 2 * T = D) (h2 : K % 2 = 0) (w : World) :
    Calls Tryd.prog 68 #[.agg #[.int .i64 n, .int .i64 d], .int .i64 e, .string ⟨#[110, 101, 97, 114]⟩] w fun en w' => en = .returned (.int .i64 (K)) ∧ Below w.heap.size w w' := by
  have f1 : IntKind.u64.wrap d = d := IntWalk.u64_in _ (by omega)
  have f2 : IntKind.u64.wrap (d * 2 ^ A) = D := by rw [ra.out.d2]; exact IntWalk.u64_in _ (by have := ra.out.db; omega)
  have f3 : IntKind.u64.wrap (2 ^ B) = (M : Int) := by rw [← ra.out.m]; have e := Z.p2_uwrap B (by omega); rw [e]; simp
  have hM := ra.out.mb
  have hH := ra.out.hb
  have hL := ra.out.lb
  have hD := ra.out.db
  have hK := ra.out.kb
  have hT := ra.out.tb
  have g0 : decide (n < 0) = false := decide_eq_false (by omega)
  have g1 : decide (D < 2 * T) = false := decide_eq_false (by omega)
  have g2 : (2 * T == D) = true := by rw [beq_iff_eq]; exact h1
  have g3 : (K % 2 == 1) = false := by rw [beq_eq_false_iff_ne]; omega
  have g4 : (K.tmod 2 == 1) = false := by rw [beq_eq_false_iff_ne, Int.tmod_eq_emod_of_nonneg hK.1]; omega
  clear h1 h2
  go_enter Tryd.func68, Tryd.ntmps68
  go_wp2
  have xV : w.heap.size < w.heap.size + 1 := by omega
  refine wp_region_held_drew (S := (fun w' => w'.cell? ⟨w.heap.size, 0, none⟩ = some (.int .i64 n) ∧ w'.cell? ⟨w.heap.size, 1, none⟩ = some (.int .i64 d) ∧ w.heap.size + 1 ≤ w'.heap.size ∧ Below w.heap.size w w')) (by kernel_rfl) ?_ ?_
  · (refine ⟨?_, ?_, ?_, ?_⟩ <;> first | assumption | ((repeat' (first | (with_reducible exact Below.refl _ _) | (with_reducible assumption) | (with_reducible refine drewN_below ?_ _) | (with_reducible refine Below.drew ?_) | (with_reducible refine Below.alloc ?_ ?_ _) | (with_reducible refine Below.setCell ?_ ?_ _) | (simp; done) | omega | (simp; omega))); done) | (simp [*]; done) | (simp [go_sem, *]; done) | (simp; omega))
  intro hH0
  refine wpAnyH_take (i := 0) (v := ?_) rfl (by kernel_rfl) (by kernel_rfl) (by kernel_rfl) (fun _ _ _ h => h) (Or.inl ⟨by rfl, ?_⟩) (by assumption) ?_
  rotate_left
  focus (intro wq hSq; (try dsimp only at hSq); go_simp; first | done | (with_reducible rfl))
  (try simp only [Act.put, List.getElem_toArray, List.getElem_cons_zero, List.setIfInBounds_toArray, List.set_cons_zero, List.set_cons_succ])
  refine wpAnyH_take (i := 2) (v := ?_) rfl (by kernel_rfl) (by kernel_rfl) (by kernel_rfl) (fun _ _ _ h => h) (Or.inl ⟨by rfl, ?_⟩) (by assumption) ?_
  rotate_left
  focus (intro wq hSq; (try dsimp only at hSq); go_simp; first | done | (with_reducible rfl))
  (try simp only [Act.put, List.getElem_toArray, List.getElem_cons_succ, List.getElem_cons_zero, List.setIfInBounds_toArray, List.set_cons_zero, List.set_cons_succ])
  refine wpAnyH_take (i := 3) (v := ?_) rfl (by kernel_rfl) (by kernel_rfl) (by kernel_rfl) (fun _ _ _ h => h) (Or.inl ⟨by rfl, ?_⟩) (by assumption) ?_
  rotate_left
  focus (intro wq hSq; (try dsimp only at hSq); go_simp; first | done | (with_reducible rfl))
  (try simp only [Act.put, List.getElem_toArray, List.getElem_cons_succ, List.getElem_cons_zero, List.setIfInBounds_toArray, List.set_cons_zero, List.set_cons_succ])
  refine wpAnyH_take (i := 4) (v := ?_) rfl (by kernel_rfl) (by kernel_rfl) (by kernel_rfl) (fun _ _ _ h => h) (Or.inl ⟨by rfl, ?_⟩) (by assumption) ?_
  rotate_left
  focus (intro wq hSq; (try dsimp only at hSq); go_simp; first | done | (with_reducible rfl))
  (try simp only [Act.put, List.getElem_toArray, List.getElem_cons_succ, List.getElem_cons_zero, List.setIfInBounds_toArray, List.set_cons_zero, List.set_cons_succ])
  refine wpAnyH_ready (rs := [1]) (by kernel_rfl) (by simp) ?_
  refine AllReadyH.cons rfl (fun K hK => ?_) AllReadyH.nil
  rw [if_pos (by rfl)]
  go_simp
  refine (xsize_any _ _ (by omega) _).mono ?_
  rintro e wr ⟨rfl, hbr⟩
  obtain ⟨hcr, hfr, hzr, hBr⟩ := after (a := w) (B := w.heap.size) (w.heap.size + 1) hbr (by first | (with_reducible assumption) | (simp; done) | omega | (simp; omega)) (by repeat' (first | (with_reducible exact Below.refl _ _) | (with_reducible assumption) | (with_reducible refine drewN_below ?_ _) | (with_reducible refine Below.drew ?_) | (with_reducible refine Below.alloc ?_ ?_ _) | (with_reducible refine Below.setCell ?_ ?_ _) | (simp; done) | omega | (simp; omega))) (by omega)
  have yV := Nat.lt_of_lt_of_le xV hzr
  dsimp only
  refine hK.out _ _ ?_ (fun hHeld => ?_)
  · (refine ⟨?_, ?_, ?_, ?_⟩ <;> first | assumption | ((repeat' (first | (with_reducible exact Below.refl _ _) | (with_reducible assumption) | (with_reducible refine drewN_below ?_ _) | (with_reducible refine Below.drew ?_) | (with_reducible refine Below.alloc ?_ ?_ _) | (with_reducible refine Below.setCell ?_ ?_ _) | (simp; done) | omega | (simp; omega))); done) | (simp [*]; done) | (simp [go_sem, *]; done) | (simp; omega))
  clear hK K
  (try simp only [Act.put, List.getElem_toArray, List.getElem_cons_succ, List.getElem_cons_zero, List.setIfInBounds_toArray, List.set_cons_zero, List.set_cons_succ])
  refine wpAnyH_ready (rs := [5]) (by kernel_rfl) (by simp) ?_
  refine AllReadyH.cons rfl (fun K hK => ?_) AllReadyH.nil
  rw [if_pos (by rfl)]
  go_simp
  refine (mul64_any _ _ (by omega) (by omega) _).mono ?_
  rintro e wr ⟨rfl, hbr⟩
  obtain ⟨hcr, hfr, hzr, hBr⟩ := after (a := w) (B := w.heap.size) (w.heap.size + 1) hbr (by first | (with_reducible assumption) | (simp; done) | omega | (simp; omega)) (by repeat' (first | (with_reducible exact Below.refl _ _) | (with_reducible assumption) | (with_reducible refine drewN_below ?_ _) | (with_reducible refine Below.drew ?_) | (with_reducible refine Below.alloc ?_ ?_ _) | (with_reducible refine Below.setCell ?_ ?_ _) | (simp; done) | omega | (simp; omega))) (by omega)
  have yV := Nat.lt_of_lt_of_le xV hzr
  rw [ra.out.h, ra.out.l]
  dsimp only
  refine hK.out _ _ ?_ (fun hHeld => ?_)
  · (refine ⟨?_, ?_, ?_, ?_⟩ <;> first | assumption | ((repeat' (first | (with_reducible exact Below.refl _ _) | (with_reducible assumption) | (with_reducible refine drewN_below ?_ _) | (with_reducible refine Below.drew ?_) | (with_reducible refine Below.alloc ?_ ?_ _) | (with_reducible refine Below.setCell ?_ ?_ _) | (simp; done) | omega | (simp; omega))); done) | (simp [*]; done) | (simp [go_sem, *]; done) | (simp; omega))
  clear hK K
  (try simp only [Act.put, List.getElem_toArray, List.getElem_cons_succ, List.getElem_cons_zero, List.setIfInBounds_toArray, List.set_cons_zero, List.set_cons_succ])
  refine wpAnyH_take (i := 6) (v := ?_) rfl (by kernel_rfl) (by kernel_rfl) (by kernel_rfl) (fun _ _ _ h => h) (Or.inl ⟨by rfl, ?_⟩) (by assumption) ?_
  rotate_left
  focus (intro wq hSq; (try dsimp only at hSq); go_simp; first | done | (with_reducible rfl))
  (try simp only [Act.put, List.getElem_toArray, List.getElem_cons_succ, List.getElem_cons_zero, List.setIfInBounds_toArray, List.set_cons_zero, List.set_cons_succ])
  refine wpAnyH_take (i := 7) (v := ?_) rfl (by kernel_rfl) (by kernel_rfl) (by kernel_rfl) (fun _ _ _ h => h) (Or.inl ⟨by rfl, ?_⟩) (by assumption) ?_
  rotate_left
  focus (intro wq hSq; (try dsimp only at hSq); go_simp; first | done | (with_reducible rfl))
  (try simp only [Act.put, List.getElem_toArray, List.getElem_cons_succ, List.getElem_cons_zero, List.setIfInBounds_toArray, List.set_cons_zero, List.set_cons_succ])
  refine wpAnyH_take (i := 8) (v := ?_) rfl (by kernel_rfl) (by kernel_rfl) (by kernel_rfl) (fun _ _ _ h => h) (Or.inl ⟨by rfl, ?_⟩) (by assumption) ?_
  rotate_left
  focus (intro wq hSq; (try dsimp only at hSq); go_simp; first | done | (with_reducible rfl))
  (try simp only [Act.put, List.getElem_toArray, List.getElem_cons_succ, List.getElem_cons_zero, List.setIfInBounds_toArray, List.set_cons_zero, List.set_cons_succ])
  refine wpAnyH_take (i := 9) (v := ?_) rfl (by kernel_rfl) (by kernel_rfl) (by kernel_rfl) (fun _ _ _ h => h) (Or.inl ⟨by rfl, ?_⟩) (by assumption) ?_
  rotate_left
  focus (intro wq hSq; (try dsimp only at hSq); go_simp; first | done | (with_reducible rfl))
  (try simp only [Act.put, List.getElem_toArray, List.getElem_cons_succ, List.getElem_cons_zero, List.setIfInBounds_toArray, List.set_cons_zero, List.set_cons_succ])
  refine wpAnyH_take (i := 10) (v := ?_) rfl (by kernel_rfl) (by kernel_rfl) (by kernel_rfl) (fun _ _ _ h => h) (Or.inl ⟨by rfl, ?_⟩) (by assumption) ?_
  rotate_left
  focus (intro wq hSq; (try dsimp only at hSq); go_simp; first | done | (with_reducible rfl))
  (try simp only [Act.put, List.getElem_toArray, List.getElem_cons_succ, List.getElem_cons_zero, List.setIfInBounds_toArray, List.set_cons_zero, List.set_cons_succ])
  refine wpAnyH_done (by kernel_rfl) ?_ _
  obtain ⟨s0, s1, s2, s3⟩ := (by assumption : wr.cell? ⟨w.heap.size, 0, none⟩ = some (.int .i64 n) ∧ wr.cell? ⟨w.heap.size, 1, none⟩ = some (.int .i64 d) ∧ w.heap.size + 1 ≤ wr.heap.size ∧ Below w.heap.size w wr)
  have cV0w1 := s0
  have cV1w1 := s1
  have bVw1 : w.heap.size < wr.heap.size := Nat.lt_of_lt_of_le xV s2
  have dVw1 : w.heap.size < wr.heap.size + 1 := Nat.lt_succ_of_lt bVw1
  have hBw1 : Below w.heap.size w wr := s3
  have zw1 : w.heap.size ≤ wr.heap.size := hBw1.size
  clear s0 s1 s2 s3 xV hcr hfr hzr hBr hbr
  repeat (clear hcr hfr hzr hBr hbr)
  skip
  obtain ⟨w1, ew1⟩ : ∃ x, x = wr := ⟨_, rfl⟩
  subst ew1
  go_wp2_with fail
  refine (div64_any _ _ _ (by omega) (by omega) (by omega) _).mono ?_
  rintro e w2 ⟨rfl, hw2⟩
  have hmw2 : Below w1.heap.size w1 w2 := on_below hw2 (by repeat' (first | (with_reducible exact Below.refl _ _) | (with_reducible assumption) | (with_reducible refine drewN_below ?_ _) | (with_reducible refine Below.drew ?_) | (with_reducible refine Below.alloc ?_ ?_ _) | (with_reducible refine Below.setCell ?_ ?_ _) | (simp; done) | omega | (simp; omega))) (by first | (with_reducible assumption) | (simp; done) | omega | (simp; omega))
  have cV0w2 := (hmw2.cell (p := ⟨w.heap.size, 0, none⟩) bVw1).trans cV0w1
  have cV1w2 := (hmw2.cell (p := ⟨w.heap.size, 1, none⟩) bVw1).trans cV1w1
  have bVw2 : w.heap.size < w2.heap.size := Nat.lt_of_lt_of_le bVw1 hmw2.size
  have dVw2 : w.heap.size < w2.heap.size + 1 := Nat.lt_succ_of_lt bVw2
  have hBw2 : Below w.heap.size w w2 := Below.trans hBw1 (hmw2.mono hBw1.size)
  have zw2 : w.heap.size ≤ w2.heap.size := hBw2.size
  clear hmw2 hw2 zw1 hBw1 dVw1 bVw1 cV1w1 cV0w1
  rw [ra.out.k, ra.out.t]
  go_wp2
  go_ret
  exact ⟨rfl, (by repeat' (first | (with_reducible exact Below.refl _ _) | (with_reducible assumption) | (with_reducible refine drewN_below ?_ _) | (with_reducible refine Below.drew ?_) | (with_reducible refine Below.alloc ?_ ?_ _) | (with_reducible refine Below.setCell ?_ ?_ _) | (simp; done) | omega | (simp; omega)))⟩
set_option maxHeartbeats 1000000 in
theorem rd_near_pos (n d e D H L K T : Int) (A B M : Nat) (ha : A ≤ 60) (hB : B ≤ 60) (e1 : max 0 (-e) = (A : Int)) (e2 : max 0 e = (B : Int)) (hn : -2305843009213693952 ≤ n ∧ n ≤ 2305843009213693952) (hd : 1 ≤ d ∧ d ≤ 2305843009213693952) (he : -60 ≤ e ∧ e ≤ 60) (ra : Hid (RA n d D H L K T A B M)) (h0 : 0 ≤ n) (h1 : 2 * T < D) (w : World) :
    Calls Tryd.prog 68 #[.agg #[.int .i64 n, .int .i64 d], .int .i64 e, .string ⟨#[110, 101, 97, 114]⟩] w fun en w' => en = .returned (.int .i64 (K)) ∧ Below w.heap.size w w' := by
  have f1 : IntKind.u64.wrap d = d := IntWalk.u64_in _ (by omega)
  have f2 : IntKind.u64.wrap (d * 2 ^ A) = D := by rw [ra.out.d2]; exact IntWalk.u64_in _ (by have := ra.out.db; omega)
  have f3 : IntKind.u64.wrap (2 ^ B) = (M : Int) := by rw [← ra.out.m]; have e := Z.p2_uwrap B (by omega); rw [e]; simp
  have hM := ra.out.mb
  have hH := ra.out.hb
  have hL := ra.out.lb
  have hD := ra.out.db
  have hK := ra.out.kb
  have hT := ra.out.tb
  have g0 : decide (n < 0) = false := decide_eq_false (by omega)
  have g1 : decide (D < 2 * T) = false := decide_eq_false (by omega)
  have g2 : (2 * T == D) = false := by rw [beq_eq_false_iff_ne]; omega
  go_enter Tryd.func68, Tryd.ntmps68
  go_wp2
  have xV : w.heap.size < w.heap.size + 1 := by omega
  refine wp_region_held_drew (S := (fun w' => w'.cell? ⟨w.heap.size, 0, none⟩ = some (.int .i64 n) ∧ w'.cell? ⟨w.heap.size, 1, none⟩ = some (.int .i64 d) ∧ w.heap.size + 1 ≤ w'.heap.size ∧ Below w.heap.size w w')) (by kernel_rfl) ?_ ?_
  · (refine ⟨?_, ?_, ?_, ?_⟩ <;> first | assumption | ((repeat' (first | (with_reducible exact Below.refl _ _) | (with_reducible assumption) | (with_reducible refine drewN_below ?_ _) | (with_reducible refine Below.drew ?_) | (with_reducible refine Below.alloc ?_ ?_ _) | (with_reducible refine Below.setCell ?_ ?_ _) | (simp; done) | omega | (simp; omega))); done) | (simp [*]; done) | (simp [go_sem, *]; done) | (simp; omega))
  intro hH0
  refine wpAnyH_take (i := 0) (v := ?_) rfl (by kernel_rfl) (by kernel_rfl) (by kernel_rfl) (fun _ _ _ h => h) (Or.inl ⟨by rfl, ?_⟩) (by assumption) ?_
  rotate_left
  focus (intro wq hSq; (try dsimp only at hSq); go_simp; first | done | (with_reducible rfl))
  (try simp only [Act.put, List.getElem_toArray, List.getElem_cons_zero, List.setIfInBounds_toArray, List.set_cons_zero, List.set_cons_succ])
  refine wpAnyH_take (i := 2) (v := ?_) rfl (by kernel_rfl) (by kernel_rfl) (by kernel_rfl) (fun _ _ _ h => h) (Or.inl ⟨by rfl, ?_⟩) (by assumption) ?_
  rotate_left
  focus (intro wq hSq; (try dsimp only at hSq); go_simp; first | done | (with_reducible rfl))
  (try simp only [Act.put, List.getElem_toArray, List.getElem_cons_succ, List.getElem_cons_zero, List.setIfInBounds_toArray, List.set_cons_zero, List.set_cons_succ])
  refine wpAnyH_take (i := 3) (v := ?_) rfl (by kernel_rfl) (by kernel_rfl) (by kernel_rfl) (fun _ _ _ h => h) (Or.inl ⟨by rfl, ?_⟩) (by assumption) ?_
  rotate_left
  focus (intro wq hSq; (try dsimp only at hSq); go_simp; first | done | (with_reducible rfl))
  (try simp only [Act.put, List.getElem_toArray, List.getElem_cons_succ, List.getElem_cons_zero, List.setIfInBounds_toArray, List.set_cons_zero, List.set_cons_succ])
  refine wpAnyH_take (i := 4) (v := ?_) rfl (by kernel_rfl) (by kernel_rfl) (by kernel_rfl) (fun _ _ _ h => h) (Or.inl ⟨by rfl, ?_⟩) (by assumption) ?_
  rotate_left
  focus (intro wq hSq; (try dsimp only at hSq); go_simp; first | done | (with_reducible rfl))
  (try simp only [Act.put, List.getElem_toArray, List.getElem_cons_succ, List.getElem_cons_zero, List.setIfInBounds_toArray, List.set_cons_zero, List.set_cons_succ])
  refine wpAnyH_ready (rs := [1]) (by kernel_rfl) (by simp) ?_
  refine AllReadyH.cons rfl (fun K hK => ?_) AllReadyH.nil
  rw [if_pos (by rfl)]
  go_simp
  refine (xsize_any _ _ (by omega) _).mono ?_
  rintro e wr ⟨rfl, hbr⟩
  obtain ⟨hcr, hfr, hzr, hBr⟩ := after (a := w) (B := w.heap.size) (w.heap.size + 1) hbr (by first | (with_reducible assumption) | (simp; done) | omega | (simp; omega)) (by repeat' (first | (with_reducible exact Below.refl _ _) | (with_reducible assumption) | (with_reducible refine drewN_below ?_ _) | (with_reducible refine Below.drew ?_) | (with_reducible refine Below.alloc ?_ ?_ _) | (with_reducible refine Below.setCell ?_ ?_ _) | (simp; done) | omega | (simp; omega))) (by omega)
  have yV := Nat.lt_of_lt_of_le xV hzr
  dsimp only
  refine hK.out _ _ ?_ (fun hHeld => ?_)
  · (refine ⟨?_, ?_, ?_, ?_⟩ <;> first | assumption | ((repeat' (first | (with_reducible exact Below.refl _ _) | (with_reducible assumption) | (with_reducible refine drewN_below ?_ _) | (with_reducible refine Below.drew ?_) | (with_reducible refine Below.alloc ?_ ?_ _) | (with_reducible refine Below.setCell ?_ ?_ _) | (simp; done) | omega | (simp; omega))); done) | (simp [*]; done) | (simp [go_sem, *]; done) | (simp; omega))
  clear hK K
  (try simp only [Act.put, List.getElem_toArray, List.getElem_cons_succ, List.getElem_cons_zero, List.setIfInBounds_toArray, List.set_cons_zero, List.set_cons_succ])
  refine wpAnyH_ready (rs := [5]) (by kernel_rfl) (by simp) ?_
  refine AllReadyH.cons rfl (fun K hK => ?_) AllReadyH.nil
  rw [if_pos (by rfl)]
  go_simp
  refine (mul64_any _ _ (by omega) (by omega) _).mono ?_
  rintro e wr ⟨rfl, hbr⟩
  obtain ⟨hcr, hfr, hzr, hBr⟩ := after (a := w) (B := w.heap.size) (w.heap.size + 1) hbr (by first | (with_reducible assumption) | (simp; done) | omega | (simp; omega)) (by repeat' (first | (with_reducible exact Below.refl _ _) | (with_reducible assumption) | (with_reducible refine drewN_below ?_ _) | (with_reducible refine Below.drew ?_) | (with_reducible refine Below.alloc ?_ ?_ _) | (with_reducible refine Below.setCell ?_ ?_ _) | (simp; done) | omega | (simp; omega))) (by omega)
  have yV := Nat.lt_of_lt_of_le xV hzr
  rw [ra.out.h, ra.out.l]
  dsimp only
  refine hK.out _ _ ?_ (fun hHeld => ?_)
  · (refine ⟨?_, ?_, ?_, ?_⟩ <;> first | assumption | ((repeat' (first | (with_reducible exact Below.refl _ _) | (with_reducible assumption) | (with_reducible refine drewN_below ?_ _) | (with_reducible refine Below.drew ?_) | (with_reducible refine Below.alloc ?_ ?_ _) | (with_reducible refine Below.setCell ?_ ?_ _) | (simp; done) | omega | (simp; omega))); done) | (simp [*]; done) | (simp [go_sem, *]; done) | (simp; omega))
  clear hK K
  (try simp only [Act.put, List.getElem_toArray, List.getElem_cons_succ, List.getElem_cons_zero, List.setIfInBounds_toArray, List.set_cons_zero, List.set_cons_succ])
  refine wpAnyH_take (i := 6) (v := ?_) rfl (by kernel_rfl) (by kernel_rfl) (by kernel_rfl) (fun _ _ _ h => h) (Or.inl ⟨by rfl, ?_⟩) (by assumption) ?_
  rotate_left
  focus (intro wq hSq; (try dsimp only at hSq); go_simp; first | done | (with_reducible rfl))
  (try simp only [Act.put, List.getElem_toArray, List.getElem_cons_succ, List.getElem_cons_zero, List.setIfInBounds_toArray, List.set_cons_zero, List.set_cons_succ])
  refine wpAnyH_take (i := 7) (v := ?_) rfl (by kernel_rfl) (by kernel_rfl) (by kernel_rfl) (fun _ _ _ h => h) (Or.inl ⟨by rfl, ?_⟩) (by assumption) ?_
  rotate_left
  focus (intro wq hSq; (try dsimp only at hSq); go_simp; first | done | (with_reducible rfl))
  (try simp only [Act.put, List.getElem_toArray, List.getElem_cons_succ, List.getElem_cons_zero, List.setIfInBounds_toArray, List.set_cons_zero, List.set_cons_succ])
  refine wpAnyH_take (i := 8) (v := ?_) rfl (by kernel_rfl) (by kernel_rfl) (by kernel_rfl) (fun _ _ _ h => h) (Or.inl ⟨by rfl, ?_⟩) (by assumption) ?_
  rotate_left
  focus (intro wq hSq; (try dsimp only at hSq); go_simp; first | done | (with_reducible rfl))
  (try simp only [Act.put, List.getElem_toArray, List.getElem_cons_succ, List.getElem_cons_zero, List.setIfInBounds_toArray, List.set_cons_zero, List.set_cons_succ])
  refine wpAnyH_take (i := 9) (v := ?_) rfl (by kernel_rfl) (by kernel_rfl) (by kernel_rfl) (fun _ _ _ h => h) (Or.inl ⟨by rfl, ?_⟩) (by assumption) ?_
  rotate_left
  focus (intro wq hSq; (try dsimp only at hSq); go_simp; first | done | (with_reducible rfl))
  (try simp only [Act.put, List.getElem_toArray, List.getElem_cons_succ, List.getElem_cons_zero, List.setIfInBounds_toArray, List.set_cons_zero, List.set_cons_succ])
  refine wpAnyH_take (i := 10) (v := ?_) rfl (by kernel_rfl) (by kernel_rfl) (by kernel_rfl) (fun _ _ _ h => h) (Or.inl ⟨by rfl, ?_⟩) (by assumption) ?_
  rotate_left
  focus (intro wq hSq; (try dsimp only at hSq); go_simp; first | done | (with_reducible rfl))
  (try simp only [Act.put, List.getElem_toArray, List.getElem_cons_succ, List.getElem_cons_zero, List.setIfInBounds_toArray, List.set_cons_zero, List.set_cons_succ])
  refine wpAnyH_done (by kernel_rfl) ?_ _
  obtain ⟨s0, s1, s2, s3⟩ := (by assumption : wr.cell? ⟨w.heap.size, 0, none⟩ = some (.int .i64 n) ∧ wr.cell? ⟨w.heap.size, 1, none⟩ = some (.int .i64 d) ∧ w.heap.size + 1 ≤ wr.heap.size ∧ Below w.heap.size w wr)
  have cV0w1 := s0
  have cV1w1 := s1
  have bVw1 : w.heap.size < wr.heap.size := Nat.lt_of_lt_of_le xV s2
  have dVw1 : w.heap.size < wr.heap.size + 1 := Nat.lt_succ_of_lt bVw1
  have hBw1 : Below w.heap.size w wr := s3
  have zw1 : w.heap.size ≤ wr.heap.size := hBw1.size
  clear s0 s1 s2 s3 xV hcr hfr hzr hBr hbr
  repeat (clear hcr hfr hzr hBr hbr)
  skip
  obtain ⟨w1, ew1⟩ : ∃ x, x = wr := ⟨_, rfl⟩
  subst ew1
  go_wp2_with fail
  refine (div64_any _ _ _ (by omega) (by omega) (by omega) _).mono ?_
  rintro e w2 ⟨rfl, hw2⟩
  have hmw2 : Below w1.heap.size w1 w2 := on_below hw2 (by repeat' (first | (with_reducible exact Below.refl _ _) | (with_reducible assumption) | (with_reducible refine drewN_below ?_ _) | (with_reducible refine Below.drew ?_) | (with_reducible refine Below.alloc ?_ ?_ _) | (with_reducible refine Below.setCell ?_ ?_ _) | (simp; done) | omega | (simp; omega))) (by first | (with_reducible assumption) | (simp; done) | omega | (simp; omega))
  have cV0w2 := (hmw2.cell (p := ⟨w.heap.size, 0, none⟩) bVw1).trans cV0w1
  have cV1w2 := (hmw2.cell (p := ⟨w.heap.size, 1, none⟩) bVw1).trans cV1w1
  have bVw2 : w.heap.size < w2.heap.size := Nat.lt_of_lt_of_le bVw1 hmw2.size
  have dVw2 : w.heap.size < w2.heap.size + 1 := Nat.lt_succ_of_lt bVw2
  have hBw2 : Below w.heap.size w w2 := Below.trans hBw1 (hmw2.mono hBw1.size)
  have zw2 : w.heap.size ≤ w2.heap.size := hBw2.size
  clear hmw2 hw2 zw1 hBw1 dVw1 bVw1 cV1w1 cV0w1
  rw [ra.out.k, ra.out.t]
  go_wp2
  go_ret
  exact ⟨rfl, (by repeat' (first | (with_reducible exact Below.refl _ _) | (with_reducible assumption) | (with_reducible refine drewN_below ?_ _) | (with_reducible refine Below.drew ?_) | (with_reducible refine Below.alloc ?_ ?_ _) | (with_reducible refine Below.setCell ?_ ?_ _) | (simp; done) | omega | (simp; omega)))⟩
end Go.Proofs.YtpdklolfkigefaaDoor
