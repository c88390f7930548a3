/-
  The law on what a format of any fields makes of any numbers: the walk.
-/
import Derived.Test.YtmadhpbdianddaaDoorWh
import Derived.Test.YtmadhpbdianddaaDoorVt
import Derived.Deep.DeepCutAuto
namespace Go.Proofs.YtmadhpbdianddaaDoor
open Go.RowKit
set_option maxRecDepth 100000 in
set_option maxHeartbeats 16000000 in
theorem formatsays_any (k r o : ByteArray) (I F : Int) (an ad bn bd c : Int) (hI : -9223372036854775808 ≤ I ∧ I ≤ 9223372036854775807) (hF : -9223372036854775808 ≤ F ∧ F ≤ 9223372036854775807) (hc : -9223372036854775808 ≤ c ∧ c ≤ 9223372036854775807) (w : World) :
    Calls Tryd.prog 3 #[.agg #[.string k, .int .i64 I, .int .i64 F, .string r, .string o, .int .i64 an, .int .i64 ad, .int .i64 bn, .int .i64 bd, .int .i64 c]] w fun e w' => e = .returned (.bool true) ∧ Below w.heap.size w w' := by
  obtain ⟨l1, l2, hl⟩ : ∃ l1 l2, Hid (Z.lstQ k r o I F = (l1, l2)) := ⟨_, _, rfl⟩
  obtain ⟨g1, g2, hg⟩ : ∃ g1 g2, Hid (Z.grtQ k r o I F = (g1, g2)) := ⟨_, _, rfl⟩
  obtain ⟨s1, s2, hs⟩ : ∃ s1 s2, Hid (Z.stpQ k r o I F = (s1, s2)) := ⟨_, _, rfl⟩
  obtain ⟨x1, x2, hx⟩ : ∃ x1 x2, Hid (Z.fitQ k r o I F an ad = (x1, x2)) := ⟨_, _, rfl⟩
  obtain ⟨p1, p2, hp⟩ : ∃ p1 p2, Hid (Z.addQ k r o I F (an, ad) (bn, bd) = (p1, p2)) := ⟨_, _, rfl⟩
  obtain ⟨m1, m2, hm⟩ : ∃ m1 m2, Hid (Z.mulQ k r o I F (an, ad) (bn, bd) = (m1, m2)) := ⟨_, _, rfl⟩
  obtain ⟨q1, q2, hq⟩ : ∃ q1 q2, Hid (Z.codQ k r o I F an ad = (q1, q2)) := ⟨_, _, rfl⟩
  obtain ⟨b1, b2, be, hb⟩ : ∃ b1 b2 be, Hid (Z.bndQ k r o I F = ((b1, b2), be)) := ⟨_, _, _, rfl⟩
  obtain ⟨v1, v2, ve, hv⟩ : ∃ v1 v2 ve, Hid (Z.valQ k r o I F c = ((v1, v2), ve)) := ⟨_, _, _, rfl⟩
  obtain ⟨vl, hvl⟩ : ∃ vl, Hid (Z.vld k r o I F = vl) := ⟨_, rfl⟩
  obtain ⟨is, his⟩ : ∃ is, Hid (Z.isQ k r o I F an ad = is) := ⟨_, rfl⟩
  go_enter Tryd.func3, Tryd.ntmps3
  go_wp2_with fail
  have xC : w.heap.size < w.heap.size + 4 := by omega
  have xG : w.heap.size + 1 < w.heap.size + 4 := by omega
  have xA : w.heap.size + 2 < w.heap.size + 4 := by omega
  have xB : w.heap.size + 3 < w.heap.size + 4 := by omega
  refine wp_region_held_drew (S := (fun w' => w'.cell? ⟨w.heap.size, 0, none⟩ = some (.string k) ∧ w'.cell? ⟨w.heap.size, 1, none⟩ = some (.int .i64 I) ∧ w'.cell? ⟨w.heap.size, 2, none⟩ = some (.int .i64 F) ∧ w'.cell? ⟨w.heap.size, 3, none⟩ = some (.string r) ∧ w'.cell? ⟨w.heap.size, 4, none⟩ = some (.string o) ∧ w'.cell? ⟨w.heap.size, 5, none⟩ = some (.int .i64 an) ∧ w'.cell? ⟨w.heap.size, 6, none⟩ = some (.int .i64 ad) ∧ w'.cell? ⟨w.heap.size, 7, none⟩ = some (.int .i64 bn) ∧ w'.cell? ⟨w.heap.size, 8, none⟩ = some (.int .i64 bd) ∧ w'.cell? ⟨w.heap.size, 9, none⟩ = some (.int .i64 c) ∧ w'.cell? ⟨w.heap.size + 1, 0, none⟩ = some (.string k) ∧ w'.cell? ⟨w.heap.size + 1, 1, none⟩ = some (.int .i64 I) ∧ w'.cell? ⟨w.heap.size + 1, 2, none⟩ = some (.int .i64 F) ∧ w'.cell? ⟨w.heap.size + 1, 3, none⟩ = some (.string r) ∧ w'.cell? ⟨w.heap.size + 1, 4, none⟩ = some (.string o) ∧ w'.cell? ⟨w.heap.size + 2, 0, none⟩ = some (.int .i64 an) ∧ w'.cell? ⟨w.heap.size + 2, 1, none⟩ = some (.int .i64 ad) ∧ w'.cell? ⟨w.heap.size + 3, 0, none⟩ = some (.int .i64 bn) ∧ w'.cell? ⟨w.heap.size + 3, 1, none⟩ = some (.int .i64 bd) ∧ w.heap.size + 4 ≤ w'.heap.size ∧ Below w.heap.size w w')) (by kernel_rfl) ?_ ?_
  · (refine ⟨?_, ?_, ?_, ?_, ?_, ?_, ?_, ?_, ?_, ?_, ?_, ?_, ?_, ?_, ?_, ?_, ?_, ?_, ?_, ?_, ?_⟩ <;> first | assumption | ((repeat' (first | (with_reducible exact Below.refl _ _) | (with_reducible assumption) | (with_reducible refine drewN_below ?_ _) | (with_reducible refine Below.drew ?_) | (with_reducible refine Below.alloc ?_ ?_ _) | (with_reducible refine Below.setCell ?_ ?_ _) | (simp; done) | omega | (simp; omega))); done) | (simp [*]; done) | (simp [go_sem, *]; done) | (simp; omega))
  intro hH0
  refine wpAnyH_take (i := 0) (v := ?_) rfl (by kernel_rfl) (by kernel_rfl) (by kernel_rfl) (fun _ _ _ h => h) (Or.inl ⟨by rfl, ?_⟩) (by assumption) ?_
  rotate_left
  focus (intro wq hSq; (try dsimp only at hSq); go_simp; first | done | (with_reducible rfl))
  (try simp only [Act.put, List.getElem_toArray, List.getElem_cons_zero, List.setIfInBounds_toArray, List.set_cons_zero, List.set_cons_succ])
  refine wpAnyH_take (i := 2) (v := ?_) rfl (by kernel_rfl) (by kernel_rfl) (by kernel_rfl) (fun _ _ _ h => h) (Or.inl ⟨by rfl, ?_⟩) (by assumption) ?_
  rotate_left
  focus (intro wq hSq; (try dsimp only at hSq); go_simp; first | done | (with_reducible rfl))
  (try simp only [Act.put, List.getElem_toArray, List.getElem_cons_succ, List.getElem_cons_zero, List.setIfInBounds_toArray, List.set_cons_zero, List.set_cons_succ])
  refine wpAnyH_ready (rs := [1]) (by kernel_rfl) (by simp) ?_
  refine AllReadyH.cons rfl (fun K hK => ?_) AllReadyH.nil
  rw [if_pos (by rfl)]
  go_simp
  refine (valid_any _ _ _ _ _ hI hF _).mono ?_
  rintro e wr ⟨rfl, hbr⟩
  obtain ⟨hcr, hfr, hzr, hBr⟩ := after (a := w) (B := w.heap.size) (w.heap.size + 4) hbr (by first | (with_reducible assumption) | (simp; done) | omega | (simp; omega)) (by repeat' (first | (with_reducible exact Below.refl _ _) | (with_reducible assumption) | (with_reducible refine drewN_below ?_ _) | (with_reducible refine Below.drew ?_) | (with_reducible refine Below.alloc ?_ ?_ _) | (with_reducible refine Below.setCell ?_ ?_ _) | (simp; done) | omega | (simp; omega))) (by omega)
  have yC := Nat.lt_of_lt_of_le xC hzr
  have yG := Nat.lt_of_lt_of_le xG hzr
  have yA := Nat.lt_of_lt_of_le xA hzr
  have yB := Nat.lt_of_lt_of_le xB hzr
  rw [hvl.out]
  dsimp only
  refine hK.out _ _ ?_ (fun hHeld => ?_)
  · (refine ⟨?_, ?_, ?_, ?_, ?_, ?_, ?_, ?_, ?_, ?_, ?_, ?_, ?_, ?_, ?_, ?_, ?_, ?_, ?_, ?_, ?_⟩ <;> first | assumption | ((repeat' (first | (with_reducible exact Below.refl _ _) | (with_reducible assumption) | (with_reducible refine drewN_below ?_ _) | (with_reducible refine Below.drew ?_) | (with_reducible refine Below.alloc ?_ ?_ _) | (with_reducible refine Below.setCell ?_ ?_ _) | (simp; done) | omega | (simp; omega))); done) | (simp [*]; done) | (simp [go_sem, *]; done) | (simp; omega))
  clear hK K
  (try simp only [Act.put, List.getElem_toArray, List.getElem_cons_succ, List.getElem_cons_zero, List.setIfInBounds_toArray, List.set_cons_zero, List.set_cons_succ])
  refine wpAnyH_ready (rs := [3]) (by kernel_rfl) (by simp) ?_
  refine AllReadyH.cons rfl (fun K hK => ?_) AllReadyH.nil
  rw [if_pos (by rfl)]
  go_simp
  refine (rvalid_any _ _ _ _ _ hI hF _).mono ?_
  rintro e wr ⟨rfl, hbr⟩
  obtain ⟨hcr, hfr, hzr, hBr⟩ := after (a := w) (B := w.heap.size) (w.heap.size + 4) hbr (by first | (with_reducible assumption) | (simp; done) | omega | (simp; omega)) (by repeat' (first | (with_reducible exact Below.refl _ _) | (with_reducible assumption) | (with_reducible refine drewN_below ?_ _) | (with_reducible refine Below.drew ?_) | (with_reducible refine Below.alloc ?_ ?_ _) | (with_reducible refine Below.setCell ?_ ?_ _) | (simp; done) | omega | (simp; omega))) (by omega)
  have yC := Nat.lt_of_lt_of_le xC hzr
  have yG := Nat.lt_of_lt_of_le xG hzr
  have yA := Nat.lt_of_lt_of_le xA hzr
  have yB := Nat.lt_of_lt_of_le xB hzr
  rw [hvl.out]
  dsimp only
  refine hK.out _ _ ?_ (fun hHeld => ?_)
  · (refine ⟨?_, ?_, ?_, ?_, ?_, ?_, ?_, ?_, ?_, ?_, ?_, ?_, ?_, ?_, ?_, ?_, ?_, ?_, ?_, ?_, ?_⟩ <;> first | assumption | ((repeat' (first | (with_reducible exact Below.refl _ _) | (with_reducible assumption) | (with_reducible refine drewN_below ?_ _) | (with_reducible refine Below.drew ?_) | (with_reducible refine Below.alloc ?_ ?_ _) | (with_reducible refine Below.setCell ?_ ?_ _) | (simp; done) | omega | (simp; omega))); done) | (simp [*]; done) | (simp [go_sem, *]; done) | (simp; omega))
  clear hK K
  (try simp only [Act.put, List.getElem_toArray, List.getElem_cons_succ, List.getElem_cons_zero, List.setIfInBounds_toArray, List.set_cons_zero, List.set_cons_succ])
  refine wpAnyH_take (i := 4) (v := ?_) rfl (by kernel_rfl) (by kernel_rfl) (by kernel_rfl) (fun _ _ _ h => h) (Or.inl ⟨by rfl, ?_⟩) (by assumption) ?_
  rotate_left
  focus (intro wq hSq; (try dsimp only at hSq); go_simp; first | done | (with_reducible rfl))
  (try simp only [Act.put, List.getElem_toArray, List.getElem_cons_succ, List.getElem_cons_zero, List.setIfInBounds_toArray, List.set_cons_zero, List.set_cons_succ])
  refine wpAnyH_take (i := 5) (v := ?_) rfl (by kernel_rfl) (by kernel_rfl) (by kernel_rfl) (fun _ _ _ h => h) (Or.inl ⟨by rfl, ?_⟩) (by assumption) ?_
  rotate_left
  focus (intro wq hSq; (try dsimp only at hSq); go_simp; first | done | (with_reducible rfl))
  (try simp only [Act.put, List.getElem_toArray, List.getElem_cons_succ, List.getElem_cons_zero, List.setIfInBounds_toArray, List.set_cons_zero, List.set_cons_succ])
  refine wpAnyH_take (i := 6) (v := ?_) rfl (by kernel_rfl) (by kernel_rfl) (by kernel_rfl) (fun _ _ _ h => h) (Or.inl ⟨by rfl, ?_⟩) (by assumption) ?_
  rotate_left
  focus (intro wq hSq; (try dsimp only at hSq); go_simp; first | done | (with_reducible rfl))
  (try simp only [Act.put, List.getElem_toArray, List.getElem_cons_succ, List.getElem_cons_zero, List.setIfInBounds_toArray, List.set_cons_zero, List.set_cons_succ])
  refine wpAnyH_take (i := 8) (v := ?_) rfl (by kernel_rfl) (by kernel_rfl) (by kernel_rfl) (fun _ _ _ h => h) (Or.inl ⟨by rfl, ?_⟩) (by assumption) ?_
  rotate_left
  focus (intro wq hSq; (try dsimp only at hSq); go_simp; first | done | (with_reducible rfl))
  (try simp only [Act.put, List.getElem_toArray, List.getElem_cons_succ, List.getElem_cons_zero, List.setIfInBounds_toArray, List.set_cons_zero, List.set_cons_succ])
  refine wpAnyH_ready (rs := [7]) (by kernel_rfl) (by simp) ?_
  refine AllReadyH.cons rfl (fun K hK => ?_) AllReadyH.nil
  rw [if_pos (by rfl)]
  go_simp
  refine (Least_any _ _ _ _ _ hI hF _).mono ?_
  rintro e wr ⟨rfl, hbr⟩
  obtain ⟨hcr, hfr, hzr, hBr⟩ := after (a := w) (B := w.heap.size) (w.heap.size + 4) hbr (by first | (with_reducible assumption) | (simp; done) | omega | (simp; omega)) (by repeat' (first | (with_reducible exact Below.refl _ _) | (with_reducible assumption) | (with_reducible refine drewN_below ?_ _) | (with_reducible refine Below.drew ?_) | (with_reducible refine Below.alloc ?_ ?_ _) | (with_reducible refine Below.setCell ?_ ?_ _) | (simp; done) | omega | (simp; omega))) (by omega)
  have yC := Nat.lt_of_lt_of_le xC hzr
  have yG := Nat.lt_of_lt_of_le xG hzr
  have yA := Nat.lt_of_lt_of_le xA hzr
  have yB := Nat.lt_of_lt_of_le xB hzr
  rw [hl.out]
  dsimp only
  refine hK.out _ _ ?_ (fun hHeld => ?_)
  · (refine ⟨?_, ?_, ?_, ?_, ?_, ?_, ?_, ?_, ?_, ?_, ?_, ?_, ?_, ?_, ?_, ?_, ?_, ?_, ?_, ?_, ?_⟩ <;> first | assumption | ((repeat' (first | (with_reducible exact Below.refl _ _) | (with_reducible assumption) | (with_reducible refine drewN_below ?_ _) | (with_reducible refine Below.drew ?_) | (with_reducible refine Below.alloc ?_ ?_ _) | (with_reducible refine Below.setCell ?_ ?_ _) | (simp; done) | omega | (simp; omega))); done) | (simp [*]; done) | (simp [go_sem, *]; done) | (simp; omega))
  clear hK K
  (try simp only [Act.put, List.getElem_toArray, List.getElem_cons_succ, List.getElem_cons_zero, List.setIfInBounds_toArray, List.set_cons_zero, List.set_cons_succ])
  refine wpAnyH_ready (rs := [9]) (by kernel_rfl) (by simp) ?_
  refine AllReadyH.cons rfl (fun K hK => ?_) AllReadyH.nil
  rw [if_pos (by rfl)]
  go_simp
  refine (rLeast_any _ _ _ _ _ hI hF _).mono ?_
  rintro e wr ⟨rfl, hbr⟩
  obtain ⟨hcr, hfr, hzr, hBr⟩ := after (a := w) (B := w.heap.size) (w.heap.size + 4) hbr (by first | (with_reducible assumption) | (simp; done) | omega | (simp; omega)) (by repeat' (first | (with_reducible exact Below.refl _ _) | (with_reducible assumption) | (with_reducible refine drewN_below ?_ _) | (with_reducible refine Below.drew ?_) | (with_reducible refine Below.alloc ?_ ?_ _) | (with_reducible refine Below.setCell ?_ ?_ _) | (simp; done) | omega | (simp; omega))) (by omega)
  have yC := Nat.lt_of_lt_of_le xC hzr
  have yG := Nat.lt_of_lt_of_le xG hzr
  have yA := Nat.lt_of_lt_of_le xA hzr
  have yB := Nat.lt_of_lt_of_le xB hzr
  rw [hl.out]
  dsimp only
  refine hK.out _ _ ?_ (fun hHeld => ?_)
  · (refine ⟨?_, ?_, ?_, ?_, ?_, ?_, ?_, ?_, ?_, ?_, ?_, ?_, ?_, ?_, ?_, ?_, ?_, ?_, ?_, ?_, ?_⟩ <;> first | assumption | ((repeat' (first | (with_reducible exact Below.refl _ _) | (with_reducible assumption) | (with_reducible refine drewN_below ?_ _) | (with_reducible refine Below.drew ?_) | (with_reducible refine Below.alloc ?_ ?_ _) | (with_reducible refine Below.setCell ?_ ?_ _) | (simp; done) | omega | (simp; omega))); done) | (simp [*]; done) | (simp [go_sem, *]; done) | (simp; omega))
  clear hK K
  (try simp only [Act.put, List.getElem_toArray, List.getElem_cons_succ, List.getElem_cons_zero, List.setIfInBounds_toArray, List.set_cons_zero, List.set_cons_succ])
  refine wpAnyH_take (i := 10) (v := ?_) rfl (by kernel_rfl) (by kernel_rfl) (by kernel_rfl) (fun _ _ _ h => h) (Or.inl ⟨by rfl, ?_⟩) (by assumption) ?_
  rotate_left
  focus (intro wq hSq; (try dsimp only at hSq); go_simp; first | done | (with_reducible rfl))
  (try simp only [Act.put, List.getElem_toArray, List.getElem_cons_succ, List.getElem_cons_zero, List.setIfInBounds_toArray, List.set_cons_zero, List.set_cons_succ])
  refine wpAnyH_take (i := 11) (v := ?_) rfl (by kernel_rfl) (by kernel_rfl) (by kernel_rfl) (fun _ _ _ h => h) (Or.inl ⟨by rfl, ?_⟩) (by assumption) ?_
  rotate_left
  focus (intro wq hSq; (try dsimp only at hSq); go_simp; first | done | (with_reducible rfl))
  (try simp only [Act.put, List.getElem_toArray, List.getElem_cons_succ, List.getElem_cons_zero, List.setIfInBounds_toArray, List.set_cons_zero, List.set_cons_succ])
  refine wpAnyH_take (i := 12) (v := ?_) rfl (by kernel_rfl) (by kernel_rfl) (by kernel_rfl) (fun _ _ _ h => h) (Or.inl ⟨by rfl, ?_⟩) (by assumption) ?_
  rotate_left
  focus (intro wq hSq; (try dsimp only at hSq); go_simp; first | done | (with_reducible rfl))
  (try simp only [Act.put, List.getElem_toArray, List.getElem_cons_succ, List.getElem_cons_zero, List.setIfInBounds_toArray, List.set_cons_zero, List.set_cons_succ])
  refine wpAnyH_take (i := 13) (v := ?_) rfl (by kernel_rfl) (by kernel_rfl) (by kernel_rfl) (fun _ _ _ h => h) (Or.inl ⟨by rfl, ?_⟩) (by assumption) ?_
  rotate_left
  focus (intro wq hSq; (try dsimp only at hSq); go_simp; first | done | (with_reducible rfl))
  (try simp only [Act.put, List.getElem_toArray, List.getElem_cons_succ, List.getElem_cons_zero, List.setIfInBounds_toArray, List.set_cons_zero, List.set_cons_succ])
  refine wpAnyH_take (i := 15) (v := ?_) rfl (by kernel_rfl) (by kernel_rfl) (by kernel_rfl) (fun _ _ _ h => h) (Or.inl ⟨by rfl, ?_⟩) (by assumption) ?_
  rotate_left
  focus (intro wq hSq; (try dsimp only at hSq); go_simp; first | done | (with_reducible rfl))
  (try simp only [Act.put, List.getElem_toArray, List.getElem_cons_succ, List.getElem_cons_zero, List.setIfInBounds_toArray, List.set_cons_zero, List.set_cons_succ])
  refine wpAnyH_ready (rs := [14]) (by kernel_rfl) (by simp) ?_
  refine AllReadyH.cons rfl (fun K hK => ?_) AllReadyH.nil
  rw [if_pos (by rfl)]
  go_simp
  refine (Greatest_any _ _ _ _ _ hI hF _).mono ?_
  rintro e wr ⟨rfl, hbr⟩
  obtain ⟨hcr, hfr, hzr, hBr⟩ := after (a := w) (B := w.heap.size) (w.heap.size + 4) hbr (by first | (with_reducible assumption) | (simp; done) | omega | (simp; omega)) (by repeat' (first | (with_reducible exact Below.refl _ _) | (with_reducible assumption) | (with_reducible refine drewN_below ?_ _) | (with_reducible refine Below.drew ?_) | (with_reducible refine Below.alloc ?_ ?_ _) | (with_reducible refine Below.setCell ?_ ?_ _) | (simp; done) | omega | (simp; omega))) (by omega)
  have yC := Nat.lt_of_lt_of_le xC hzr
  have yG := Nat.lt_of_lt_of_le xG hzr
  have yA := Nat.lt_of_lt_of_le xA hzr
  have yB := Nat.lt_of_lt_of_le xB hzr
  rw [hg.out]
  dsimp only
  refine hK.out _ _ ?_ (fun hHeld => ?_)
  · (refine ⟨?_, ?_, ?_, ?_, ?_, ?_, ?_, ?_, ?_, ?_, ?_, ?_, ?_, ?_, ?_, ?_, ?_, ?_, ?_, ?_, ?_⟩ <;> first | assumption | ((repeat' (first | (with_reducible exact Below.refl _ _) | (with_reducible assumption) | (with_reducible refine drewN_below ?_ _) | (with_reducible refine Below.drew ?_) | (with_reducible refine Below.alloc ?_ ?_ _) | (with_reducible refine Below.setCell ?_ ?_ _) | (simp; done) | omega | (simp; omega))); done) | (simp [*]; done) | (simp [go_sem, *]; done) | (simp; omega))
  clear hK K
  (try simp only [Act.put, List.getElem_toArray, List.getElem_cons_succ, List.getElem_cons_zero, List.setIfInBounds_toArray, List.set_cons_zero, List.set_cons_succ])
  refine wpAnyH_ready (rs := [16]) (by kernel_rfl) (by simp) ?_
  refine AllReadyH.cons rfl (fun K hK => ?_) AllReadyH.nil
  rw [if_pos (by rfl)]
  go_simp
  refine (rGreatest_any _ _ _ _ _ hI hF _).mono ?_
  rintro e wr ⟨rfl, hbr⟩
  obtain ⟨hcr, hfr, hzr, hBr⟩ := after (a := w) (B := w.heap.size) (w.heap.size + 4) hbr (by first | (with_reducible assumption) | (simp; done) | omega | (simp; omega)) (by repeat' (first | (with_reducible exact Below.refl _ _) | (with_reducible assumption) | (with_reducible refine drewN_below ?_ _) | (with_reducible refine Below.drew ?_) | (with_reducible refine Below.alloc ?_ ?_ _) | (with_reducible refine Below.setCell ?_ ?_ _) | (simp; done) | omega | (simp; omega))) (by omega)
  have yC := Nat.lt_of_lt_of_le xC hzr
  have yG := Nat.lt_of_lt_of_le xG hzr
  have yA := Nat.lt_of_lt_of_le xA hzr
  have yB := Nat.lt_of_lt_of_le xB hzr
  rw [hg.out]
  dsimp only
  refine hK.out _ _ ?_ (fun hHeld => ?_)
  · (refine ⟨?_, ?_, ?_, ?_, ?_, ?_, ?_, ?_, ?_, ?_, ?_, ?_, ?_, ?_, ?_, ?_, ?_, ?_, ?_, ?_, ?_⟩ <;> first | assumption | ((repeat' (first | (with_reducible exact Below.refl _ _) | (with_reducible assumption) | (with_reducible refine drewN_below ?_ _) | (with_reducible refine Below.drew ?_) | (with_reducible refine Below.alloc ?_ ?_ _) | (with_reducible refine Below.setCell ?_ ?_ _) | (simp; done) | omega | (simp; omega))); done) | (simp [*]; done) | (simp [go_sem, *]; done) | (simp; omega))
  clear hK K
  (try simp only [Act.put, List.getElem_toArray, List.getElem_cons_succ, List.getElem_cons_zero, List.setIfInBounds_toArray, List.set_cons_zero, List.set_cons_succ])
  refine wpAnyH_take (i := 17) (v := ?_) rfl (by kernel_rfl) (by kernel_rfl) (by kernel_rfl) (fun _ _ _ h => h) (Or.inl ⟨by rfl, ?_⟩) (by assumption) ?_
  rotate_left
  focus (intro wq hSq; (try dsimp only at hSq); go_simp; first | done | (with_reducible rfl))
  (try simp only [Act.put, List.getElem_toArray, List.getElem_cons_succ, List.getElem_cons_zero, List.setIfInBounds_toArray, List.set_cons_zero, List.set_cons_succ])
  refine wpAnyH_take (i := 18) (v := ?_) rfl (by kernel_rfl) (by kernel_rfl) (by kernel_rfl) (fun _ _ _ h => h) (Or.inl ⟨by rfl, ?_⟩) (by assumption) ?_
  rotate_left
  focus (intro wq hSq; (try dsimp only at hSq); go_simp; first | done | (with_reducible rfl))
  (try simp only [Act.put, List.getElem_toArray, List.getElem_cons_succ, List.getElem_cons_zero, List.setIfInBounds_toArray, List.set_cons_zero, List.set_cons_succ])
  refine wpAnyH_take (i := 19) (v := ?_) rfl (by kernel_rfl) (by kernel_rfl) (by kernel_rfl) (fun _ _ _ h => h) (Or.inl ⟨by rfl, ?_⟩) (by assumption) ?_
  rotate_left
  focus (intro wq hSq; (try dsimp only at hSq); go_simp; first | done | (with_reducible rfl))
  (try simp only [Act.put, List.getElem_toArray, List.getElem_cons_succ, List.getElem_cons_zero, List.setIfInBounds_toArray, List.set_cons_zero, List.set_cons_succ])
  refine wpAnyH_take (i := 20) (v := ?_) rfl (by kernel_rfl) (by kernel_rfl) (by kernel_rfl) (fun _ _ _ h => h) (Or.inl ⟨by rfl, ?_⟩) (by assumption) ?_
  rotate_left
  focus (intro wq hSq; (try dsimp only at hSq); go_simp; first | done | (with_reducible rfl))
  (try simp only [Act.put, List.getElem_toArray, List.getElem_cons_succ, List.getElem_cons_zero, List.setIfInBounds_toArray, List.set_cons_zero, List.set_cons_succ])
  refine wpAnyH_take (i := 22) (v := ?_) rfl (by kernel_rfl) (by kernel_rfl) (by kernel_rfl) (fun _ _ _ h => h) (Or.inl ⟨by rfl, ?_⟩) (by assumption) ?_
  rotate_left
  focus (intro wq hSq; (try dsimp only at hSq); go_simp; first | done | (with_reducible rfl))
  (try simp only [Act.put, List.getElem_toArray, List.getElem_cons_succ, List.getElem_cons_zero, List.setIfInBounds_toArray, List.set_cons_zero, List.set_cons_succ])
  refine wpAnyH_ready (rs := [21]) (by kernel_rfl) (by simp) ?_
  refine AllReadyH.cons rfl (fun K hK => ?_) AllReadyH.nil
  rw [if_pos (by rfl)]
  go_simp
  refine (Step_any _ _ _ _ _ hI hF _).mono ?_
  rintro e wr ⟨rfl, hbr⟩
  obtain ⟨hcr, hfr, hzr, hBr⟩ := after (a := w) (B := w.heap.size) (w.heap.size + 4) hbr (by first | (with_reducible assumption) | (simp; done) | omega | (simp; omega)) (by repeat' (first | (with_reducible exact Below.refl _ _) | (with_reducible assumption) | (with_reducible refine drewN_below ?_ _) | (with_reducible refine Below.drew ?_) | (with_reducible refine Below.alloc ?_ ?_ _) | (with_reducible refine Below.setCell ?_ ?_ _) | (simp; done) | omega | (simp; omega))) (by omega)
  have yC := Nat.lt_of_lt_of_le xC hzr
  have yG := Nat.lt_of_lt_of_le xG hzr
  have yA := Nat.lt_of_lt_of_le xA hzr
  have yB := Nat.lt_of_lt_of_le xB hzr
  rw [hs.out]
  dsimp only
  refine hK.out _ _ ?_ (fun hHeld => ?_)
  · (refine ⟨?_, ?_, ?_, ?_, ?_, ?_, ?_, ?_, ?_, ?_, ?_, ?_, ?_, ?_, ?_, ?_, ?_, ?_, ?_, ?_, ?_⟩ <;> first | assumption | ((repeat' (first | (with_reducible exact Below.refl _ _) | (with_reducible assumption) | (with_reducible refine drewN_below ?_ _) | (with_reducible refine Below.drew ?_) | (with_reducible refine Below.alloc ?_ ?_ _) | (with_reducible refine Below.setCell ?_ ?_ _) | (simp; done) | omega | (simp; omega))); done) | (simp [*]; done) | (simp [go_sem, *]; done) | (simp; omega))
  clear hK K
  (try simp only [Act.put, List.getElem_toArray, List.getElem_cons_succ, List.getElem_cons_zero, List.setIfInBounds_toArray, List.set_cons_zero, List.set_cons_succ])
  refine wpAnyH_ready (rs := [23]) (by kernel_rfl) (by simp) ?_
  refine AllReadyH.cons rfl (fun K hK => ?_) AllReadyH.nil
  rw [if_pos (by rfl)]
  go_simp
  refine (rStep_any _ _ _ _ _ hI hF _).mono ?_
  rintro e wr ⟨rfl, hbr⟩
  obtain ⟨hcr, hfr, hzr, hBr⟩ := after (a := w) (B := w.heap.size) (w.heap.size + 4) hbr (by first | (with_reducible assumption) | (simp; done) | omega | (simp; omega)) (by repeat' (first | (with_reducible exact Below.refl _ _) | (with_reducible assumption) | (with_reducible refine drewN_below ?_ _) | (with_reducible refine Below.drew ?_) | (with_reducible refine Below.alloc ?_ ?_ _) | (with_reducible refine Below.setCell ?_ ?_ _) | (simp; done) | omega | (simp; omega))) (by omega)
  have yC := Nat.lt_of_lt_of_le xC hzr
  have yG := Nat.lt_of_lt_of_le xG hzr
  have yA := Nat.lt_of_lt_of_le xA hzr
  have yB := Nat.lt_of_lt_of_le xB hzr
  rw [hs.out]
  dsimp only
  refine hK.out _ _ ?_ (fun hHeld => ?_)
  · (refine ⟨?_, ?_, ?_, ?_, ?_, ?_, ?_, ?_, ?_, ?_, ?_, ?_, ?_, ?_, ?_, ?_, ?_, ?_, ?_, ?_, ?_⟩ <;> first | assumption | ((repeat' (first | (with_reducible exact Below.refl _ _) | (with_reducible assumption) | (with_reducible refine drewN_below ?_ _) | (with_reducible refine Below.drew ?_) | (with_reducible refine Below.alloc ?_ ?_ _) | (with_reducible refine Below.setCell ?_ ?_ _) | (simp; done) | omega | (simp; omega))); done) | (simp [*]; done) | (simp [go_sem, *]; done) | (simp; omega))
  clear hK K
  (try simp only [Act.put, List.getElem_toArray, List.getElem_cons_succ, List.getElem_cons_zero, List.setIfInBounds_toArray, List.set_cons_zero, List.set_cons_succ])
  refine wpAnyH_take (i := 24) (v := ?_) rfl (by kernel_rfl) (by kernel_rfl) (by kernel_rfl) (fun _ _ _ h => h) (Or.inl ⟨by rfl, ?_⟩) (by assumption) ?_
  rotate_left
  focus (intro wq hSq; (try dsimp only at hSq); go_simp; first | done | (with_reducible rfl))
  (try simp only [Act.put, List.getElem_toArray, List.getElem_cons_succ, List.getElem_cons_zero, List.setIfInBounds_toArray, List.set_cons_zero, List.set_cons_succ])
  refine wpAnyH_take (i := 25) (v := ?_) rfl (by kernel_rfl) (by kernel_rfl) (by kernel_rfl) (fun _ _ _ h => h) (Or.inl ⟨by rfl, ?_⟩) (by assumption) ?_
  rotate_left
  focus (intro wq hSq; (try dsimp only at hSq); go_simp; first | done | (with_reducible rfl))
  (try simp only [Act.put, List.getElem_toArray, List.getElem_cons_succ, List.getElem_cons_zero, List.setIfInBounds_toArray, List.set_cons_zero, List.set_cons_succ])
  refine wpAnyH_done (by kernel_rfl) ?_ _
  obtain ⟨s0, s1, s2, s3, s4, s5, s6, s7, s8, s9, s10, s11, s12, s13, s14, s15, s16, s17, s18, s19, s20⟩ := (by assumption : wr.cell? ⟨w.heap.size, 0, none⟩ = some (.string k) ∧ wr.cell? ⟨w.heap.size, 1, none⟩ = some (.int .i64 I) ∧ wr.cell? ⟨w.heap.size, 2, none⟩ = some (.int .i64 F) ∧ wr.cell? ⟨w.heap.size, 3, none⟩ = some (.string r) ∧ wr.cell? ⟨w.heap.size, 4, none⟩ = some (.string o) ∧ wr.cell? ⟨w.heap.size, 5, none⟩ = some (.int .i64 an) ∧ wr.cell? ⟨w.heap.size, 6, none⟩ = some (.int .i64 ad) ∧ wr.cell? ⟨w.heap.size, 7, none⟩ = some (.int .i64 bn) ∧ wr.cell? ⟨w.heap.size, 8, none⟩ = some (.int .i64 bd) ∧ wr.cell? ⟨w.heap.size, 9, none⟩ = some (.int .i64 c) ∧ wr.cell? ⟨w.heap.size + 1, 0, none⟩ = some (.string k) ∧ wr.cell? ⟨w.heap.size + 1, 1, none⟩ = some (.int .i64 I) ∧ wr.cell? ⟨w.heap.size + 1, 2, none⟩ = some (.int .i64 F) ∧ wr.cell? ⟨w.heap.size + 1, 3, none⟩ = some (.string r) ∧ wr.cell? ⟨w.heap.size + 1, 4, none⟩ = some (.string o) ∧ wr.cell? ⟨w.heap.size + 2, 0, none⟩ = some (.int .i64 an) ∧ wr.cell? ⟨w.heap.size + 2, 1, none⟩ = some (.int .i64 ad) ∧ wr.cell? ⟨w.heap.size + 3, 0, none⟩ = some (.int .i64 bn) ∧ wr.cell? ⟨w.heap.size + 3, 1, none⟩ = some (.int .i64 bd) ∧ w.heap.size + 4 ≤ wr.heap.size ∧ Below w.heap.size w wr)
  have cC0w1 := s0
  have cC1w1 := s1
  have cC2w1 := s2
  have cC3w1 := s3
  have cC4w1 := s4
  have cC5w1 := s5
  have cC6w1 := s6
  have cC7w1 := s7
  have cC8w1 := s8
  have cC9w1 := s9
  have cG0w1 := s10
  have cG1w1 := s11
  have cG2w1 := s12
  have cG3w1 := s13
  have cG4w1 := s14
  have cA0w1 := s15
  have cA1w1 := s16
  have cB0w1 := s17
  have cB1w1 := s18
  have bCw1 : w.heap.size < wr.heap.size := Nat.lt_of_lt_of_le xC s19
  have dCw1 : w.heap.size < wr.heap.size + 1 := Nat.lt_succ_of_lt bCw1
  have bGw1 : w.heap.size + 1 < wr.heap.size := Nat.lt_of_lt_of_le xG s19
  have dGw1 : w.heap.size + 1 < wr.heap.size + 1 := Nat.lt_succ_of_lt bGw1
  have bAw1 : w.heap.size + 2 < wr.heap.size := Nat.lt_of_lt_of_le xA s19
  have dAw1 : w.heap.size + 2 < wr.heap.size + 1 := Nat.lt_succ_of_lt bAw1
  have bBw1 : w.heap.size + 3 < wr.heap.size := Nat.lt_of_lt_of_le xB s19
  have dBw1 : w.heap.size + 3 < wr.heap.size + 1 := Nat.lt_succ_of_lt bBw1
  have hBw1 : Below w.heap.size w wr := s20
  have zw1 : w.heap.size ≤ wr.heap.size := hBw1.size
  clear s0 s1 s2 s3 s4 s5 s6 s7 s8 s9 s10 s11 s12 s13 s14 s15 s16 s17 s18 s19 s20 xC xG xA xB hcr hfr hzr hBr hbr
  repeat (clear hcr hfr hzr hBr hbr)
  skip
  obtain ⟨w1, ew1⟩ : ∃ x, x = wr := ⟨_, rfl⟩
  subst ew1
  go_wp2_with fail
  have xC : w.heap.size < w1.heap.size := by omega
  have xG : w.heap.size + 1 < w1.heap.size := by omega
  have xA : w.heap.size + 2 < w1.heap.size := by omega
  have xB : w.heap.size + 3 < w1.heap.size := by omega
  refine wp_region_held_drew (S := (fun w' => w'.cell? ⟨w.heap.size, 0, none⟩ = some (.string k) ∧ w'.cell? ⟨w.heap.size, 1, none⟩ = some (.int .i64 I) ∧ w'.cell? ⟨w.heap.size, 2, none⟩ = some (.int .i64 F) ∧ w'.cell? ⟨w.heap.size, 3, none⟩ = some (.string r) ∧ w'.cell? ⟨w.heap.size, 4, none⟩ = some (.string o) ∧ w'.cell? ⟨w.heap.size, 5, none⟩ = some (.int .i64 an) ∧ w'.cell? ⟨w.heap.size, 6, none⟩ = some (.int .i64 ad) ∧ w'.cell? ⟨w.heap.size, 7, none⟩ = some (.int .i64 bn) ∧ w'.cell? ⟨w.heap.size, 8, none⟩ = some (.int .i64 bd) ∧ w'.cell? ⟨w.heap.size, 9, none⟩ = some (.int .i64 c) ∧ w'.cell? ⟨w.heap.size + 1, 0, none⟩ = some (.string k) ∧ w'.cell? ⟨w.heap.size + 1, 1, none⟩ = some (.int .i64 I) ∧ w'.cell? ⟨w.heap.size + 1, 2, none⟩ = some (.int .i64 F) ∧ w'.cell? ⟨w.heap.size + 1, 3, none⟩ = some (.string r) ∧ w'.cell? ⟨w.heap.size + 1, 4, none⟩ = some (.string o) ∧ w'.cell? ⟨w.heap.size + 2, 0, none⟩ = some (.int .i64 an) ∧ w'.cell? ⟨w.heap.size + 2, 1, none⟩ = some (.int .i64 ad) ∧ w'.cell? ⟨w.heap.size + 3, 0, none⟩ = some (.int .i64 bn) ∧ w'.cell? ⟨w.heap.size + 3, 1, none⟩ = some (.int .i64 bd) ∧ w1.heap.size ≤ w'.heap.size ∧ Below w1.heap.size w1 w')) (by kernel_rfl) ?_ ?_
  · (refine ⟨?_, ?_, ?_, ?_, ?_, ?_, ?_, ?_, ?_, ?_, ?_, ?_, ?_, ?_, ?_, ?_, ?_, ?_, ?_, ?_, ?_⟩ <;> first | assumption | ((repeat' (first | (with_reducible exact Below.refl _ _) | (with_reducible assumption) | (with_reducible refine drewN_below ?_ _) | (with_reducible refine Below.drew ?_) | (with_reducible refine Below.alloc ?_ ?_ _) | (with_reducible refine Below.setCell ?_ ?_ _) | (simp; done) | omega | (simp; omega))); done) | (simp [*]; done) | (simp [go_sem, *]; done) | (simp; omega))
  intro hH0
  refine wpAnyH_take (i := 0) (v := ?_) rfl (by kernel_rfl) (by kernel_rfl) (by kernel_rfl) (fun _ _ _ h => h) (Or.inl ⟨by rfl, ?_⟩) (by assumption) ?_
  rotate_left
  focus (intro wq hSq; (try dsimp only at hSq); go_simp; first | done | (with_reducible rfl))
  (try simp only [Act.put, List.getElem_toArray, List.getElem_cons_zero, List.setIfInBounds_toArray, List.set_cons_zero, List.set_cons_succ])
  refine wpAnyH_take (i := 1) (v := ?_) rfl (by kernel_rfl) (by kernel_rfl) (by kernel_rfl) (fun _ _ _ h => h) (Or.inl ⟨by rfl, ?_⟩) (by assumption) ?_
  rotate_left
  focus (intro wq hSq; (try dsimp only at hSq); go_simp; first | done | (with_reducible rfl))
  (try simp only [Act.put, List.getElem_toArray, List.getElem_cons_succ, List.getElem_cons_zero, List.setIfInBounds_toArray, List.set_cons_zero, List.set_cons_succ])
  refine wpAnyH_take (i := 3) (v := ?_) rfl (by kernel_rfl) (by kernel_rfl) (by kernel_rfl) (fun _ _ _ h => h) (Or.inl ⟨by rfl, ?_⟩) (by assumption) ?_
  rotate_left
  focus (intro wq hSq; (try dsimp only at hSq); go_simp; first | done | (with_reducible rfl))
  (try simp only [Act.put, List.getElem_toArray, List.getElem_cons_succ, List.getElem_cons_zero, List.setIfInBounds_toArray, List.set_cons_zero, List.set_cons_succ])
  refine wpAnyH_take (i := 4) (v := ?_) rfl (by kernel_rfl) (by kernel_rfl) (by kernel_rfl) (fun _ _ _ h => h) (Or.inl ⟨by rfl, ?_⟩) (by assumption) ?_
  rotate_left
  focus (intro wq hSq; (try dsimp only at hSq); go_simp; first | done | (with_reducible rfl))
  (try simp only [Act.put, List.getElem_toArray, List.getElem_cons_succ, List.getElem_cons_zero, List.setIfInBounds_toArray, List.set_cons_zero, List.set_cons_succ])
  refine wpAnyH_ready (rs := [2]) (by kernel_rfl) (by simp) ?_
  refine AllReadyH.cons rfl (fun K hK => ?_) AllReadyH.nil
  rw [if_pos (by rfl)]
  go_simp
  refine (Fit_any _ _ _ _ _ _ _ hI hF _).mono ?_
  rintro e wr ⟨rfl, hbr⟩
  obtain ⟨hcr, hfr, hzr, hBr⟩ := after (a := w1) (B := w1.heap.size) (w1.heap.size) hbr (by first | (with_reducible assumption) | (simp; done) | omega | (simp; omega)) (by repeat' (first | (with_reducible exact Below.refl _ _) | (with_reducible assumption) | (with_reducible refine drewN_below ?_ _) | (with_reducible refine Below.drew ?_) | (with_reducible refine Below.alloc ?_ ?_ _) | (with_reducible refine Below.setCell ?_ ?_ _) | (simp; done) | omega | (simp; omega))) (by omega)
  have yC := Nat.lt_of_lt_of_le xC hzr
  have yG := Nat.lt_of_lt_of_le xG hzr
  have yA := Nat.lt_of_lt_of_le xA hzr
  have yB := Nat.lt_of_lt_of_le xB hzr
  rw [hx.out]
  dsimp only
  refine hK.out _ _ ?_ (fun hHeld => ?_)
  · (refine ⟨?_, ?_, ?_, ?_, ?_, ?_, ?_, ?_, ?_, ?_, ?_, ?_, ?_, ?_, ?_, ?_, ?_, ?_, ?_, ?_, ?_⟩ <;> first | assumption | ((repeat' (first | (with_reducible exact Below.refl _ _) | (with_reducible assumption) | (with_reducible refine drewN_below ?_ _) | (with_reducible refine Below.drew ?_) | (with_reducible refine Below.alloc ?_ ?_ _) | (with_reducible refine Below.setCell ?_ ?_ _) | (simp; done) | omega | (simp; omega))); done) | (simp [*]; done) | (simp [go_sem, *]; done) | (simp; omega))
  clear hK K
  (try simp only [Act.put, List.getElem_toArray, List.getElem_cons_succ, List.getElem_cons_zero, List.setIfInBounds_toArray, List.set_cons_zero, List.set_cons_succ])
  refine wpAnyH_ready (rs := [5]) (by kernel_rfl) (by simp) ?_
  refine AllReadyH.cons rfl (fun K hK => ?_) AllReadyH.nil
  rw [if_pos (by rfl)]
  go_simp
  refine (rFit_any _ _ _ _ _ _ _ hI hF _).mono ?_
  rintro e wr ⟨rfl, hbr⟩
  obtain ⟨hcr, hfr, hzr, hBr⟩ := after (a := w1) (B := w1.heap.size) (w1.heap.size) hbr (by first | (with_reducible assumption) | (simp; done) | omega | (simp; omega)) (by repeat' (first | (with_reducible exact Below.refl _ _) | (with_reducible assumption) | (with_reducible refine drewN_below ?_ _) | (with_reducible refine Below.drew ?_) | (with_reducible refine Below.alloc ?_ ?_ _) | (with_reducible refine Below.setCell ?_ ?_ _) | (simp; done) | omega | (simp; omega))) (by omega)
  have yC := Nat.lt_of_lt_of_le xC hzr
  have yG := Nat.lt_of_lt_of_le xG hzr
  have yA := Nat.lt_of_lt_of_le xA hzr
  have yB := Nat.lt_of_lt_of_le xB hzr
  rw [hx.out]
  dsimp only
  refine hK.out _ _ ?_ (fun hHeld => ?_)
  · (refine ⟨?_, ?_, ?_, ?_, ?_, ?_, ?_, ?_, ?_, ?_, ?_, ?_, ?_, ?_, ?_, ?_, ?_, ?_, ?_, ?_, ?_⟩ <;> first | assumption | ((repeat' (first | (with_reducible exact Below.refl _ _) | (with_reducible assumption) | (with_reducible refine drewN_below ?_ _) | (with_reducible refine Below.drew ?_) | (with_reducible refine Below.alloc ?_ ?_ _) | (with_reducible refine Below.setCell ?_ ?_ _) | (simp; done) | omega | (simp; omega))); done) | (simp [*]; done) | (simp [go_sem, *]; done) | (simp; omega))
  clear hK K
  (try simp only [Act.put, List.getElem_toArray, List.getElem_cons_succ, List.getElem_cons_zero, List.setIfInBounds_toArray, List.set_cons_zero, List.set_cons_succ])
  refine wpAnyH_take (i := 6) (v := ?_) rfl (by kernel_rfl) (by kernel_rfl) (by kernel_rfl) (fun _ _ _ h => h) (Or.inl ⟨by rfl, ?_⟩) (by assumption) ?_
  rotate_left
  focus (intro wq hSq; (try dsimp only at hSq); go_simp; first | done | (with_reducible rfl))
  (try simp only [Act.put, List.getElem_toArray, List.getElem_cons_succ, List.getElem_cons_zero, List.setIfInBounds_toArray, List.set_cons_zero, List.set_cons_succ])
  refine wpAnyH_take (i := 7) (v := ?_) rfl (by kernel_rfl) (by kernel_rfl) (by kernel_rfl) (fun _ _ _ h => h) (Or.inl ⟨by rfl, ?_⟩) (by assumption) ?_
  rotate_left
  focus (intro wq hSq; (try dsimp only at hSq); go_simp; first | done | (with_reducible rfl))
  (try simp only [Act.put, List.getElem_toArray, List.getElem_cons_succ, List.getElem_cons_zero, List.setIfInBounds_toArray, List.set_cons_zero, List.set_cons_succ])
  refine wpAnyH_take (i := 8) (v := ?_) rfl (by kernel_rfl) (by kernel_rfl) (by kernel_rfl) (fun _ _ _ h => h) (Or.inl ⟨by rfl, ?_⟩) (by assumption) ?_
  rotate_left
  focus (intro wq hSq; (try dsimp only at hSq); go_simp; first | done | (with_reducible rfl))
  (try simp only [Act.put, List.getElem_toArray, List.getElem_cons_succ, List.getElem_cons_zero, List.setIfInBounds_toArray, List.set_cons_zero, List.set_cons_succ])
  refine wpAnyH_take (i := 9) (v := ?_) rfl (by kernel_rfl) (by kernel_rfl) (by kernel_rfl) (fun _ _ _ h => h) (Or.inl ⟨by rfl, ?_⟩) (by assumption) ?_
  rotate_left
  focus (intro wq hSq; (try dsimp only at hSq); go_simp; first | done | (with_reducible rfl))
  (try simp only [Act.put, List.getElem_toArray, List.getElem_cons_succ, List.getElem_cons_zero, List.setIfInBounds_toArray, List.set_cons_zero, List.set_cons_succ])
  refine wpAnyH_take (i := 11) (v := ?_) rfl (by kernel_rfl) (by kernel_rfl) (by kernel_rfl) (fun _ _ _ h => h) (Or.inl ⟨by rfl, ?_⟩) (by assumption) ?_
  rotate_left
  focus (intro wq hSq; (try dsimp only at hSq); go_simp; first | done | (with_reducible rfl))
  (try simp only [Act.put, List.getElem_toArray, List.getElem_cons_succ, List.getElem_cons_zero, List.setIfInBounds_toArray, List.set_cons_zero, List.set_cons_succ])
  refine wpAnyH_take (i := 12) (v := ?_) rfl (by kernel_rfl) (by kernel_rfl) (by kernel_rfl) (fun _ _ _ h => h) (Or.inl ⟨by rfl, ?_⟩) (by assumption) ?_
  rotate_left
  focus (intro wq hSq; (try dsimp only at hSq); go_simp; first | done | (with_reducible rfl))
  (try simp only [Act.put, List.getElem_toArray, List.getElem_cons_succ, List.getElem_cons_zero, List.setIfInBounds_toArray, List.set_cons_zero, List.set_cons_succ])
  refine wpAnyH_ready (rs := [10]) (by kernel_rfl) (by simp) ?_
  refine AllReadyH.cons rfl (fun K hK => ?_) AllReadyH.nil
  rw [if_pos (by rfl)]
  go_simp
  refine (Is_any _ _ _ _ _ _ _ hI hF _).mono ?_
  rintro e wr ⟨rfl, hbr⟩
  obtain ⟨hcr, hfr, hzr, hBr⟩ := after (a := w1) (B := w1.heap.size) (w1.heap.size) hbr (by first | (with_reducible assumption) | (simp; done) | omega | (simp; omega)) (by repeat' (first | (with_reducible exact Below.refl _ _) | (with_reducible assumption) | (with_reducible refine drewN_below ?_ _) | (with_reducible refine Below.drew ?_) | (with_reducible refine Below.alloc ?_ ?_ _) | (with_reducible refine Below.setCell ?_ ?_ _) | (simp; done) | omega | (simp; omega))) (by omega)
  have yC := Nat.lt_of_lt_of_le xC hzr
  have yG := Nat.lt_of_lt_of_le xG hzr
  have yA := Nat.lt_of_lt_of_le xA hzr
  have yB := Nat.lt_of_lt_of_le xB hzr
  rw [his.out]
  dsimp only
  refine hK.out _ _ ?_ (fun hHeld => ?_)
  · (refine ⟨?_, ?_, ?_, ?_, ?_, ?_, ?_, ?_, ?_, ?_, ?_, ?_, ?_, ?_, ?_, ?_, ?_, ?_, ?_, ?_, ?_⟩ <;> first | assumption | ((repeat' (first | (with_reducible exact Below.refl _ _) | (with_reducible assumption) | (with_reducible refine drewN_below ?_ _) | (with_reducible refine Below.drew ?_) | (with_reducible refine Below.alloc ?_ ?_ _) | (with_reducible refine Below.setCell ?_ ?_ _) | (simp; done) | omega | (simp; omega))); done) | (simp [*]; done) | (simp [go_sem, *]; done) | (simp; omega))
  clear hK K
  (try simp only [Act.put, List.getElem_toArray, List.getElem_cons_succ, List.getElem_cons_zero, List.setIfInBounds_toArray, List.set_cons_zero, List.set_cons_succ])
  refine wpAnyH_ready (rs := [13]) (by kernel_rfl) (by simp) ?_
  refine AllReadyH.cons rfl (fun K hK => ?_) AllReadyH.nil
  rw [if_pos (by rfl)]
  go_simp
  refine (rIs_any _ _ _ _ _ _ _ hI hF _).mono ?_
  rintro e wr ⟨rfl, hbr⟩
  obtain ⟨hcr, hfr, hzr, hBr⟩ := after (a := w1) (B := w1.heap.size) (w1.heap.size) hbr (by first | (with_reducible assumption) | (simp; done) | omega | (simp; omega)) (by repeat' (first | (with_reducible exact Below.refl _ _) | (with_reducible assumption) | (with_reducible refine drewN_below ?_ _) | (with_reducible refine Below.drew ?_) | (with_reducible refine Below.alloc ?_ ?_ _) | (with_reducible refine Below.setCell ?_ ?_ _) | (simp; done) | omega | (simp; omega))) (by omega)
  have yC := Nat.lt_of_lt_of_le xC hzr
  have yG := Nat.lt_of_lt_of_le xG hzr
  have yA := Nat.lt_of_lt_of_le xA hzr
  have yB := Nat.lt_of_lt_of_le xB hzr
  rw [his.out]
  dsimp only
  refine hK.out _ _ ?_ (fun hHeld => ?_)
  · (refine ⟨?_, ?_, ?_, ?_, ?_, ?_, ?_, ?_, ?_, ?_, ?_, ?_, ?_, ?_, ?_, ?_, ?_, ?_, ?_, ?_, ?_⟩ <;> first | assumption | ((repeat' (first | (with_reducible exact Below.refl _ _) | (with_reducible assumption) | (with_reducible refine drewN_below ?_ _) | (with_reducible refine Below.drew ?_) | (with_reducible refine Below.alloc ?_ ?_ _) | (with_reducible refine Below.setCell ?_ ?_ _) | (simp; done) | omega | (simp; omega))); done) | (simp [*]; done) | (simp [go_sem, *]; done) | (simp; omega))
  clear hK K
  (try simp only [Act.put, List.getElem_toArray, List.getElem_cons_succ, List.getElem_cons_zero, List.setIfInBounds_toArray, List.set_cons_zero, List.set_cons_succ])
  refine wpAnyH_take (i := 14) (v := ?_) rfl (by kernel_rfl) (by kernel_rfl) (by kernel_rfl) (fun _ _ _ h => h) (Or.inl ⟨by rfl, ?_⟩) (by assumption) ?_
  rotate_left
  focus (intro wq hSq; (try dsimp only at hSq); go_simp; first | done | (with_reducible rfl))
  (try simp only [Act.put, List.getElem_toArray, List.getElem_cons_succ, List.getElem_cons_zero, List.setIfInBounds_toArray, List.set_cons_zero, List.set_cons_succ])
  refine wpAnyH_take (i := 15) (v := ?_) rfl (by kernel_rfl) (by kernel_rfl) (by kernel_rfl) (fun _ _ _ h => h) (Or.inl ⟨by rfl, ?_⟩) (by assumption) ?_
  rotate_left
  focus (intro wq hSq; (try dsimp only at hSq); go_simp; first | done | (with_reducible rfl))
  (try simp only [Act.put, List.getElem_toArray, List.getElem_cons_succ, List.getElem_cons_zero, List.setIfInBounds_toArray, List.set_cons_zero, List.set_cons_succ])
  refine wpAnyH_take (i := 16) (v := ?_) rfl (by kernel_rfl) (by kernel_rfl) (by kernel_rfl) (fun _ _ _ h => h) (Or.inl ⟨by rfl, ?_⟩) (by assumption) ?_
  rotate_left
  focus (intro wq hSq; (try dsimp only at hSq); go_simp; first | done | (with_reducible rfl))
  (try simp only [Act.put, List.getElem_toArray, List.getElem_cons_succ, List.getElem_cons_zero, List.setIfInBounds_toArray, List.set_cons_zero, List.set_cons_succ])
  refine wpAnyH_take (i := 17) (v := ?_) rfl (by kernel_rfl) (by kernel_rfl) (by kernel_rfl) (fun _ _ _ h => h) (Or.inl ⟨by rfl, ?_⟩) (by assumption) ?_
  rotate_left
  focus (intro wq hSq; (try dsimp only at hSq); go_simp; first | done | (with_reducible rfl))
  (try simp only [Act.put, List.getElem_toArray, List.getElem_cons_succ, List.getElem_cons_zero, List.setIfInBounds_toArray, List.set_cons_zero, List.set_cons_succ])
  refine wpAnyH_take (i := 18) (v := ?_) rfl (by kernel_rfl) (by kernel_rfl) (by kernel_rfl) (fun _ _ _ h => h) (Or.inl ⟨by rfl, ?_⟩) (by assumption) ?_
  rotate_left
  focus (intro wq hSq; (try dsimp only at hSq); go_simp; first | done | (with_reducible rfl))
  (try simp only [Act.put, List.getElem_toArray, List.getElem_cons_succ, List.getElem_cons_zero, List.setIfInBounds_toArray, List.set_cons_zero, List.set_cons_succ])
  refine wpAnyH_take (i := 19) (v := ?_) rfl (by kernel_rfl) (by kernel_rfl) (by kernel_rfl) (fun _ _ _ h => h) (Or.inl ⟨by rfl, ?_⟩) (by assumption) ?_
  rotate_left
  focus (intro wq hSq; (try dsimp only at hSq); go_simp; first | done | (with_reducible rfl))
  (try simp only [Act.put, List.getElem_toArray, List.getElem_cons_succ, List.getElem_cons_zero, List.setIfInBounds_toArray, List.set_cons_zero, List.set_cons_succ])
  refine wpAnyH_take (i := 21) (v := ?_) rfl (by kernel_rfl) (by kernel_rfl) (by kernel_rfl) (fun _ _ _ h => h) (Or.inl ⟨by rfl, ?_⟩) (by assumption) ?_
  rotate_left
  focus (intro wq hSq; (try dsimp only at hSq); go_simp; first | done | (with_reducible rfl))
  (try simp only [Act.put, List.getElem_toArray, List.getElem_cons_succ, List.getElem_cons_zero, List.setIfInBounds_toArray, List.set_cons_zero, List.set_cons_succ])
  refine wpAnyH_take (i := 22) (v := ?_) rfl (by kernel_rfl) (by kernel_rfl) (by kernel_rfl) (fun _ _ _ h => h) (Or.inl ⟨by rfl, ?_⟩) (by assumption) ?_
  rotate_left
  focus (intro wq hSq; (try dsimp only at hSq); go_simp; first | done | (with_reducible rfl))
  (try simp only [Act.put, List.getElem_toArray, List.getElem_cons_succ, List.getElem_cons_zero, List.setIfInBounds_toArray, List.set_cons_zero, List.set_cons_succ])
  refine wpAnyH_take (i := 23) (v := ?_) rfl (by kernel_rfl) (by kernel_rfl) (by kernel_rfl) (fun _ _ _ h => h) (Or.inl ⟨by rfl, ?_⟩) (by assumption) ?_
  rotate_left
  focus (intro wq hSq; (try dsimp only at hSq); go_simp; first | done | (with_reducible rfl))
  (try simp only [Act.put, List.getElem_toArray, List.getElem_cons_succ, List.getElem_cons_zero, List.setIfInBounds_toArray, List.set_cons_zero, List.set_cons_succ])
  refine wpAnyH_ready (rs := [20]) (by kernel_rfl) (by simp) ?_
  refine AllReadyH.cons rfl (fun K hK => ?_) AllReadyH.nil
  rw [if_pos (by rfl)]
  go_simp
  refine (Add_any _ _ _ _ _ _ _ _ _ hI hF _).mono ?_
  rintro e wr ⟨rfl, hbr⟩
  obtain ⟨hcr, hfr, hzr, hBr⟩ := after (a := w1) (B := w1.heap.size) (w1.heap.size) hbr (by first | (with_reducible assumption) | (simp; done) | omega | (simp; omega)) (by repeat' (first | (with_reducible exact Below.refl _ _) | (with_reducible assumption) | (with_reducible refine drewN_below ?_ _) | (with_reducible refine Below.drew ?_) | (with_reducible refine Below.alloc ?_ ?_ _) | (with_reducible refine Below.setCell ?_ ?_ _) | (simp; done) | omega | (simp; omega))) (by omega)
  have yC := Nat.lt_of_lt_of_le xC hzr
  have yG := Nat.lt_of_lt_of_le xG hzr
  have yA := Nat.lt_of_lt_of_le xA hzr
  have yB := Nat.lt_of_lt_of_le xB hzr
  rw [hp.out]
  dsimp only
  refine hK.out _ _ ?_ (fun hHeld => ?_)
  · (refine ⟨?_, ?_, ?_, ?_, ?_, ?_, ?_, ?_, ?_, ?_, ?_, ?_, ?_, ?_, ?_, ?_, ?_, ?_, ?_, ?_, ?_⟩ <;> first | assumption | ((repeat' (first | (with_reducible exact Below.refl _ _) | (with_reducible assumption) | (with_reducible refine drewN_below ?_ _) | (with_reducible refine Below.drew ?_) | (with_reducible refine Below.alloc ?_ ?_ _) | (with_reducible refine Below.setCell ?_ ?_ _) | (simp; done) | omega | (simp; omega))); done) | (simp [*]; done) | (simp [go_sem, *]; done) | (simp; omega))
  clear hK K
  (try simp only [Act.put, List.getElem_toArray, List.getElem_cons_succ, List.getElem_cons_zero, List.setIfInBounds_toArray, List.set_cons_zero, List.set_cons_succ])
  refine wpAnyH_ready (rs := [24]) (by kernel_rfl) (by simp) ?_
  refine AllReadyH.cons rfl (fun K hK => ?_) AllReadyH.nil
  rw [if_pos (by rfl)]
  go_simp
  refine (rAdd_any _ _ _ _ _ _ _ _ _ hI hF _).mono ?_
  rintro e wr ⟨rfl, hbr⟩
  obtain ⟨hcr, hfr, hzr, hBr⟩ := after (a := w1) (B := w1.heap.size) (w1.heap.size) hbr (by first | (with_reducible assumption) | (simp; done) | omega | (simp; omega)) (by repeat' (first | (with_reducible exact Below.refl _ _) | (with_reducible assumption) | (with_reducible refine drewN_below ?_ _) | (with_reducible refine Below.drew ?_) | (with_reducible refine Below.alloc ?_ ?_ _) | (with_reducible refine Below.setCell ?_ ?_ _) | (simp; done) | omega | (simp; omega))) (by omega)
  have yC := Nat.lt_of_lt_of_le xC hzr
  have yG := Nat.lt_of_lt_of_le xG hzr
  have yA := Nat.lt_of_lt_of_le xA hzr
  have yB := Nat.lt_of_lt_of_le xB hzr
  rw [hp.out]
  dsimp only
  refine hK.out _ _ ?_ (fun hHeld => ?_)
  · (refine ⟨?_, ?_, ?_, ?_, ?_, ?_, ?_, ?_, ?_, ?_, ?_, ?_, ?_, ?_, ?_, ?_, ?_, ?_, ?_, ?_, ?_⟩ <;> first | assumption | ((repeat' (first | (with_reducible exact Below.refl _ _) | (with_reducible assumption) | (with_reducible refine drewN_below ?_ _) | (with_reducible refine Below.drew ?_) | (with_reducible refine Below.alloc ?_ ?_ _) | (with_reducible refine Below.setCell ?_ ?_ _) | (simp; done) | omega | (simp; omega))); done) | (simp [*]; done) | (simp [go_sem, *]; done) | (simp; omega))
  clear hK K
  (try simp only [Act.put, List.getElem_toArray, List.getElem_cons_succ, List.getElem_cons_zero, List.setIfInBounds_toArray, List.set_cons_zero, List.set_cons_succ])
  refine wpAnyH_take (i := 25) (v := ?_) rfl (by kernel_rfl) (by kernel_rfl) (by kernel_rfl) (fun _ _ _ h => h) (Or.inl ⟨by rfl, ?_⟩) (by assumption) ?_
  rotate_left
  focus (intro wq hSq; (try dsimp only at hSq); go_simp; first | done | (with_reducible rfl))
  (try simp only [Act.put, List.getElem_toArray, List.getElem_cons_succ, List.getElem_cons_zero, List.setIfInBounds_toArray, List.set_cons_zero, List.set_cons_succ])
  refine wpAnyH_take (i := 26) (v := ?_) rfl (by kernel_rfl) (by kernel_rfl) (by kernel_rfl) (fun _ _ _ h => h) (Or.inl ⟨by rfl, ?_⟩) (by assumption) ?_
  rotate_left
  focus (intro wq hSq; (try dsimp only at hSq); go_simp; first | done | (with_reducible rfl))
  (try simp only [Act.put, List.getElem_toArray, List.getElem_cons_succ, List.getElem_cons_zero, List.setIfInBounds_toArray, List.set_cons_zero, List.set_cons_succ])
  refine wpAnyH_take (i := 27) (v := ?_) rfl (by kernel_rfl) (by kernel_rfl) (by kernel_rfl) (fun _ _ _ h => h) (Or.inl ⟨by rfl, ?_⟩) (by assumption) ?_
  rotate_left
  focus (intro wq hSq; (try dsimp only at hSq); go_simp; first | done | (with_reducible rfl))
  (try simp only [Act.put, List.getElem_toArray, List.getElem_cons_succ, List.getElem_cons_zero, List.setIfInBounds_toArray, List.set_cons_zero, List.set_cons_succ])
  refine wpAnyH_take (i := 28) (v := ?_) rfl (by kernel_rfl) (by kernel_rfl) (by kernel_rfl) (fun _ _ _ h => h) (Or.inl ⟨by rfl, ?_⟩) (by assumption) ?_
  rotate_left
  focus (intro wq hSq; (try dsimp only at hSq); go_simp; first | done | (with_reducible rfl))
  (try simp only [Act.put, List.getElem_toArray, List.getElem_cons_succ, List.getElem_cons_zero, List.setIfInBounds_toArray, List.set_cons_zero, List.set_cons_succ])
  refine wpAnyH_take (i := 29) (v := ?_) rfl (by kernel_rfl) (by kernel_rfl) (by kernel_rfl) (fun _ _ _ h => h) (Or.inl ⟨by rfl, ?_⟩) (by assumption) ?_
  rotate_left
  focus (intro wq hSq; (try dsimp only at hSq); go_simp; first | done | (with_reducible rfl))
  (try simp only [Act.put, List.getElem_toArray, List.getElem_cons_succ, List.getElem_cons_zero, List.setIfInBounds_toArray, List.set_cons_zero, List.set_cons_succ])
  refine wpAnyH_take (i := 30) (v := ?_) rfl (by kernel_rfl) (by kernel_rfl) (by kernel_rfl) (fun _ _ _ h => h) (Or.inl ⟨by rfl, ?_⟩) (by assumption) ?_
  rotate_left
  focus (intro wq hSq; (try dsimp only at hSq); go_simp; first | done | (with_reducible rfl))
  (try simp only [Act.put, List.getElem_toArray, List.getElem_cons_succ, List.getElem_cons_zero, List.setIfInBounds_toArray, List.set_cons_zero, List.set_cons_succ])
  refine wpAnyH_take (i := 32) (v := ?_) rfl (by kernel_rfl) (by kernel_rfl) (by kernel_rfl) (fun _ _ _ h => h) (Or.inl ⟨by rfl, ?_⟩) (by assumption) ?_
  rotate_left
  focus (intro wq hSq; (try dsimp only at hSq); go_simp; first | done | (with_reducible rfl))
  (try simp only [Act.put, List.getElem_toArray, List.getElem_cons_succ, List.getElem_cons_zero, List.setIfInBounds_toArray, List.set_cons_zero, List.set_cons_succ])
  refine wpAnyH_take (i := 33) (v := ?_) rfl (by kernel_rfl) (by kernel_rfl) (by kernel_rfl) (fun _ _ _ h => h) (Or.inl ⟨by rfl, ?_⟩) (by assumption) ?_
  rotate_left
  focus (intro wq hSq; (try dsimp only at hSq); go_simp; first | done | (with_reducible rfl))
  (try simp only [Act.put, List.getElem_toArray, List.getElem_cons_succ, List.getElem_cons_zero, List.setIfInBounds_toArray, List.set_cons_zero, List.set_cons_succ])
  refine wpAnyH_take (i := 34) (v := ?_) rfl (by kernel_rfl) (by kernel_rfl) (by kernel_rfl) (fun _ _ _ h => h) (Or.inl ⟨by rfl, ?_⟩) (by assumption) ?_
  rotate_left
  focus (intro wq hSq; (try dsimp only at hSq); go_simp; first | done | (with_reducible rfl))
  (try simp only [Act.put, List.getElem_toArray, List.getElem_cons_succ, List.getElem_cons_zero, List.setIfInBounds_toArray, List.set_cons_zero, List.set_cons_succ])
  refine wpAnyH_ready (rs := [31]) (by kernel_rfl) (by simp) ?_
  refine AllReadyH.cons rfl (fun K hK => ?_) AllReadyH.nil
  rw [if_pos (by rfl)]
  go_simp
  refine (Mul_any _ _ _ _ _ _ _ _ _ hI hF _).mono ?_
  rintro e wr ⟨rfl, hbr⟩
  obtain ⟨hcr, hfr, hzr, hBr⟩ := after (a := w1) (B := w1.heap.size) (w1.heap.size) hbr (by first | (with_reducible assumption) | (simp; done) | omega | (simp; omega)) (by repeat' (first | (with_reducible exact Below.refl _ _) | (with_reducible assumption) | (with_reducible refine drewN_below ?_ _) | (with_reducible refine Below.drew ?_) | (with_reducible refine Below.alloc ?_ ?_ _) | (with_reducible refine Below.setCell ?_ ?_ _) | (simp; done) | omega | (simp; omega))) (by omega)
  have yC := Nat.lt_of_lt_of_le xC hzr
  have yG := Nat.lt_of_lt_of_le xG hzr
  have yA := Nat.lt_of_lt_of_le xA hzr
  have yB := Nat.lt_of_lt_of_le xB hzr
  rw [hm.out]
  dsimp only
  refine hK.out _ _ ?_ (fun hHeld => ?_)
  · (refine ⟨?_, ?_, ?_, ?_, ?_, ?_, ?_, ?_, ?_, ?_, ?_, ?_, ?_, ?_, ?_, ?_, ?_, ?_, ?_, ?_, ?_⟩ <;> first | assumption | ((repeat' (first | (with_reducible exact Below.refl _ _) | (with_reducible assumption) | (with_reducible refine drewN_below ?_ _) | (with_reducible refine Below.drew ?_) | (with_reducible refine Below.alloc ?_ ?_ _) | (with_reducible refine Below.setCell ?_ ?_ _) | (simp; done) | omega | (simp; omega))); done) | (simp [*]; done) | (simp [go_sem, *]; done) | (simp; omega))
  clear hK K
  (try simp only [Act.put, List.getElem_toArray, List.getElem_cons_succ, List.getElem_cons_zero, List.setIfInBounds_toArray, List.set_cons_zero, List.set_cons_succ])
  refine wpAnyH_ready (rs := [35]) (by kernel_rfl) (by simp) ?_
  refine AllReadyH.cons rfl (fun K hK => ?_) AllReadyH.nil
  rw [if_pos (by rfl)]
  go_simp
  refine (rMul_any _ _ _ _ _ _ _ _ _ hI hF _).mono ?_
  rintro e wr ⟨rfl, hbr⟩
  obtain ⟨hcr, hfr, hzr, hBr⟩ := after (a := w1) (B := w1.heap.size) (w1.heap.size) hbr (by first | (with_reducible assumption) | (simp; done) | omega | (simp; omega)) (by repeat' (first | (with_reducible exact Below.refl _ _) | (with_reducible assumption) | (with_reducible refine drewN_below ?_ _) | (with_reducible refine Below.drew ?_) | (with_reducible refine Below.alloc ?_ ?_ _) | (with_reducible refine Below.setCell ?_ ?_ _) | (simp; done) | omega | (simp; omega))) (by omega)
  have yC := Nat.lt_of_lt_of_le xC hzr
  have yG := Nat.lt_of_lt_of_le xG hzr
  have yA := Nat.lt_of_lt_of_le xA hzr
  have yB := Nat.lt_of_lt_of_le xB hzr
  rw [hm.out]
  dsimp only
  refine hK.out _ _ ?_ (fun hHeld => ?_)
  · (refine ⟨?_, ?_, ?_, ?_, ?_, ?_, ?_, ?_, ?_, ?_, ?_, ?_, ?_, ?_, ?_, ?_, ?_, ?_, ?_, ?_, ?_⟩ <;> first | assumption | ((repeat' (first | (with_reducible exact Below.refl _ _) | (with_reducible assumption) | (with_reducible refine drewN_below ?_ _) | (with_reducible refine Below.drew ?_) | (with_reducible refine Below.alloc ?_ ?_ _) | (with_reducible refine Below.setCell ?_ ?_ _) | (simp; done) | omega | (simp; omega))); done) | (simp [*]; done) | (simp [go_sem, *]; done) | (simp; omega))
  clear hK K
  (try simp only [Act.put, List.getElem_toArray, List.getElem_cons_succ, List.getElem_cons_zero, List.setIfInBounds_toArray, List.set_cons_zero, List.set_cons_succ])
  refine wpAnyH_take (i := 36) (v := ?_) rfl (by kernel_rfl) (by kernel_rfl) (by kernel_rfl) (fun _ _ _ h => h) (Or.inl ⟨by rfl, ?_⟩) (by assumption) ?_
  rotate_left
  focus (intro wq hSq; (try dsimp only at hSq); go_simp; first | done | (with_reducible rfl))
  (try simp only [Act.put, List.getElem_toArray, List.getElem_cons_succ, List.getElem_cons_zero, List.setIfInBounds_toArray, List.set_cons_zero, List.set_cons_succ])
  refine wpAnyH_take (i := 37) (v := ?_) rfl (by kernel_rfl) (by kernel_rfl) (by kernel_rfl) (fun _ _ _ h => h) (Or.inl ⟨by rfl, ?_⟩) (by assumption) ?_
  rotate_left
  focus (intro wq hSq; (try dsimp only at hSq); go_simp; first | done | (with_reducible rfl))
  (try simp only [Act.put, List.getElem_toArray, List.getElem_cons_succ, List.getElem_cons_zero, List.setIfInBounds_toArray, List.set_cons_zero, List.set_cons_succ])
  refine wpAnyH_done (by kernel_rfl) ?_ _
  obtain ⟨s0, s1, s2, s3, s4, s5, s6, s7, s8, s9, s10, s11, s12, s13, s14, s15, s16, s17, s18, s19, s20⟩ := (by assumption : wr.cell? ⟨w.heap.size, 0, none⟩ = some (.string k) ∧ wr.cell? ⟨w.heap.size, 1, none⟩ = some (.int .i64 I) ∧ wr.cell? ⟨w.heap.size, 2, none⟩ = some (.int .i64 F) ∧ wr.cell? ⟨w.heap.size, 3, none⟩ = some (.string r) ∧ wr.cell? ⟨w.heap.size, 4, none⟩ = some (.string o) ∧ wr.cell? ⟨w.heap.size, 5, none⟩ = some (.int .i64 an) ∧ wr.cell? ⟨w.heap.size, 6, none⟩ = some (.int .i64 ad) ∧ wr.cell? ⟨w.heap.size, 7, none⟩ = some (.int .i64 bn) ∧ wr.cell? ⟨w.heap.size, 8, none⟩ = some (.int .i64 bd) ∧ wr.cell? ⟨w.heap.size, 9, none⟩ = some (.int .i64 c) ∧ wr.cell? ⟨w.heap.size + 1, 0, none⟩ = some (.string k) ∧ wr.cell? ⟨w.heap.size + 1, 1, none⟩ = some (.int .i64 I) ∧ wr.cell? ⟨w.heap.size + 1, 2, none⟩ = some (.int .i64 F) ∧ wr.cell? ⟨w.heap.size + 1, 3, none⟩ = some (.string r) ∧ wr.cell? ⟨w.heap.size + 1, 4, none⟩ = some (.string o) ∧ wr.cell? ⟨w.heap.size + 2, 0, none⟩ = some (.int .i64 an) ∧ wr.cell? ⟨w.heap.size + 2, 1, none⟩ = some (.int .i64 ad) ∧ wr.cell? ⟨w.heap.size + 3, 0, none⟩ = some (.int .i64 bn) ∧ wr.cell? ⟨w.heap.size + 3, 1, none⟩ = some (.int .i64 bd) ∧ w1.heap.size ≤ wr.heap.size ∧ Below w1.heap.size w1 wr)
  have cC0w2 := s0
  have cC1w2 := s1
  have cC2w2 := s2
  have cC3w2 := s3
  have cC4w2 := s4
  have cC5w2 := s5
  have cC6w2 := s6
  have cC7w2 := s7
  have cC8w2 := s8
  have cC9w2 := s9
  have cG0w2 := s10
  have cG1w2 := s11
  have cG2w2 := s12
  have cG3w2 := s13
  have cG4w2 := s14
  have cA0w2 := s15
  have cA1w2 := s16
  have cB0w2 := s17
  have cB1w2 := s18
  have bCw2 : w.heap.size < wr.heap.size := Nat.lt_of_lt_of_le xC s19
  have dCw2 : w.heap.size < wr.heap.size + 1 := Nat.lt_succ_of_lt bCw2
  have bGw2 : w.heap.size + 1 < wr.heap.size := Nat.lt_of_lt_of_le xG s19
  have dGw2 : w.heap.size + 1 < wr.heap.size + 1 := Nat.lt_succ_of_lt bGw2
  have bAw2 : w.heap.size + 2 < wr.heap.size := Nat.lt_of_lt_of_le xA s19
  have dAw2 : w.heap.size + 2 < wr.heap.size + 1 := Nat.lt_succ_of_lt bAw2
  have bBw2 : w.heap.size + 3 < wr.heap.size := Nat.lt_of_lt_of_le xB s19
  have dBw2 : w.heap.size + 3 < wr.heap.size + 1 := Nat.lt_succ_of_lt bBw2
  have hBw2 : Below w.heap.size w wr := Below.trans hBw1 (s20.mono hBw1.size)
  have zw2 : w.heap.size ≤ wr.heap.size := hBw2.size
  clear s0 s1 s2 s3 s4 s5 s6 s7 s8 s9 s10 s11 s12 s13 s14 s15 s16 s17 s18 s19 s20 xC xG xA xB hcr hfr hzr hBr hbr zw1 hBw1 dBw1 bBw1 dAw1 bAw1 dGw1 bGw1 dCw1 bCw1 cB1w1 cB0w1 cA1w1 cA0w1 cG4w1 cG3w1 cG2w1 cG1w1 cG0w1 cC9w1 cC8w1 cC7w1 cC6w1 cC5w1 cC4w1 cC3w1 cC2w1 cC1w1 cC0w1
  repeat (clear hcr hfr hzr hBr hbr)
  skip
  obtain ⟨w2, ew2⟩ : ∃ x, x = wr := ⟨_, rfl⟩
  subst ew2
  go_wp2_with fail
  refine (Bound_any _ _ _ _ _ hI hF _).mono ?_
  rintro e w3 ⟨rfl, hw3⟩
  have hmw3 : Below w2.heap.size w2 w3 := on_below hw3 (by repeat' (first | (with_reducible exact Below.refl _ _) | (with_reducible assumption) | (with_reducible refine drewN_below ?_ _) | (with_reducible refine Below.drew ?_) | (with_reducible refine Below.alloc ?_ ?_ _) | (with_reducible refine Below.setCell ?_ ?_ _) | (simp; done) | omega | (simp; omega))) (by first | (with_reducible assumption) | (simp; done) | omega | (simp; omega))
  have cC0w3 := (hmw3.cell (p := ⟨w.heap.size, 0, none⟩) bCw2).trans cC0w2
  have cC1w3 := (hmw3.cell (p := ⟨w.heap.size, 1, none⟩) bCw2).trans cC1w2
  have cC2w3 := (hmw3.cell (p := ⟨w.heap.size, 2, none⟩) bCw2).trans cC2w2
  have cC3w3 := (hmw3.cell (p := ⟨w.heap.size, 3, none⟩) bCw2).trans cC3w2
  have cC4w3 := (hmw3.cell (p := ⟨w.heap.size, 4, none⟩) bCw2).trans cC4w2
  have cC5w3 := (hmw3.cell (p := ⟨w.heap.size, 5, none⟩) bCw2).trans cC5w2
  have cC6w3 := (hmw3.cell (p := ⟨w.heap.size, 6, none⟩) bCw2).trans cC6w2
  have cC7w3 := (hmw3.cell (p := ⟨w.heap.size, 7, none⟩) bCw2).trans cC7w2
  have cC8w3 := (hmw3.cell (p := ⟨w.heap.size, 8, none⟩) bCw2).trans cC8w2
  have cC9w3 := (hmw3.cell (p := ⟨w.heap.size, 9, none⟩) bCw2).trans cC9w2
  have bCw3 : w.heap.size < w3.heap.size := Nat.lt_of_lt_of_le bCw2 hmw3.size
  have dCw3 : w.heap.size < w3.heap.size + 1 := Nat.lt_succ_of_lt bCw3
  have cG0w3 := (hmw3.cell (p := ⟨w.heap.size + 1, 0, none⟩) bGw2).trans cG0w2
  have cG1w3 := (hmw3.cell (p := ⟨w.heap.size + 1, 1, none⟩) bGw2).trans cG1w2
  have cG2w3 := (hmw3.cell (p := ⟨w.heap.size + 1, 2, none⟩) bGw2).trans cG2w2
  have cG3w3 := (hmw3.cell (p := ⟨w.heap.size + 1, 3, none⟩) bGw2).trans cG3w2
  have cG4w3 := (hmw3.cell (p := ⟨w.heap.size + 1, 4, none⟩) bGw2).trans cG4w2
  have bGw3 : w.heap.size + 1 < w3.heap.size := Nat.lt_of_lt_of_le bGw2 hmw3.size
  have dGw3 : w.heap.size + 1 < w3.heap.size + 1 := Nat.lt_succ_of_lt bGw3
  have cA0w3 := (hmw3.cell (p := ⟨w.heap.size + 2, 0, none⟩) bAw2).trans cA0w2
  have cA1w3 := (hmw3.cell (p := ⟨w.heap.size + 2, 1, none⟩) bAw2).trans cA1w2
  have bAw3 : w.heap.size + 2 < w3.heap.size := Nat.lt_of_lt_of_le bAw2 hmw3.size
  have dAw3 : w.heap.size + 2 < w3.heap.size + 1 := Nat.lt_succ_of_lt bAw3
  have cB0w3 := (hmw3.cell (p := ⟨w.heap.size + 3, 0, none⟩) bBw2).trans cB0w2
  have cB1w3 := (hmw3.cell (p := ⟨w.heap.size + 3, 1, none⟩) bBw2).trans cB1w2
  have bBw3 : w.heap.size + 3 < w3.heap.size := Nat.lt_of_lt_of_le bBw2 hmw3.size
  have dBw3 : w.heap.size + 3 < w3.heap.size + 1 := Nat.lt_succ_of_lt bBw3
  have hBw3 : Below w.heap.size w w3 := Below.trans hBw2 (hmw3.mono hBw2.size)
  have zw3 : w.heap.size ≤ w3.heap.size := hBw3.size
  clear hmw3 hw3 zw2 hBw2 dBw2 bBw2 dAw2 bAw2 dGw2 bGw2 dCw2 bCw2 cB1w2 cB0w2 cA1w2 cA0w2 cG4w2 cG3w2 cG2w2 cG1w2 cG0w2 cC9w2 cC8w2 cC7w2 cC6w2 cC5w2 cC4w2 cC3w2 cC2w2 cC1w2 cC0w2
  rw [hb.out]
  have oCN : ¬ w.heap.size = w3.heap.size := by omega
  have pCN : ¬ w3.heap.size = w.heap.size := by omega
  have oGN : ¬ w.heap.size + 1 = w3.heap.size := by omega
  have pGN : ¬ w3.heap.size = w.heap.size + 1 := by omega
  have oAN : ¬ w.heap.size + 2 = w3.heap.size := by omega
  have pAN : ¬ w3.heap.size = w.heap.size + 2 := by omega
  have oBN : ¬ w.heap.size + 3 = w3.heap.size := by omega
  have pBN : ¬ w3.heap.size = w.heap.size + 3 := by omega
  have lowN : w.heap.size ≤ w3.heap.size := by omega
  go_wp2_with fail
  refine (rBound_any _ _ _ _ _ hI hF _).mono ?_
  rintro e w4 ⟨rfl, hw4⟩
  have hmw4 : Below w3.heap.size w3 w4 := on_below hw4 (by repeat' (first | (with_reducible exact Below.refl _ _) | (with_reducible assumption) | (with_reducible refine drewN_below ?_ _) | (with_reducible refine Below.drew ?_) | (with_reducible refine Below.alloc ?_ ?_ _) | (with_reducible refine Below.setCell ?_ ?_ _) | (simp; done) | omega | (simp; omega))) (by first | (with_reducible assumption) | (simp; done) | omega | (simp; omega))
  have cC0w4 := (hmw4.cell (p := ⟨w.heap.size, 0, none⟩) bCw3).trans cC0w3
  have cC1w4 := (hmw4.cell (p := ⟨w.heap.size, 1, none⟩) bCw3).trans cC1w3
  have cC2w4 := (hmw4.cell (p := ⟨w.heap.size, 2, none⟩) bCw3).trans cC2w3
  have cC3w4 := (hmw4.cell (p := ⟨w.heap.size, 3, none⟩) bCw3).trans cC3w3
  have cC4w4 := (hmw4.cell (p := ⟨w.heap.size, 4, none⟩) bCw3).trans cC4w3
  have cC5w4 := (hmw4.cell (p := ⟨w.heap.size, 5, none⟩) bCw3).trans cC5w3
  have cC6w4 := (hmw4.cell (p := ⟨w.heap.size, 6, none⟩) bCw3).trans cC6w3
  have cC7w4 := (hmw4.cell (p := ⟨w.heap.size, 7, none⟩) bCw3).trans cC7w3
  have cC8w4 := (hmw4.cell (p := ⟨w.heap.size, 8, none⟩) bCw3).trans cC8w3
  have cC9w4 := (hmw4.cell (p := ⟨w.heap.size, 9, none⟩) bCw3).trans cC9w3
  have bCw4 : w.heap.size < w4.heap.size := Nat.lt_of_lt_of_le bCw3 hmw4.size
  have dCw4 : w.heap.size < w4.heap.size + 1 := Nat.lt_succ_of_lt bCw4
  have cG0w4 := (hmw4.cell (p := ⟨w.heap.size + 1, 0, none⟩) bGw3).trans cG0w3
  have cG1w4 := (hmw4.cell (p := ⟨w.heap.size + 1, 1, none⟩) bGw3).trans cG1w3
  have cG2w4 := (hmw4.cell (p := ⟨w.heap.size + 1, 2, none⟩) bGw3).trans cG2w3
  have cG3w4 := (hmw4.cell (p := ⟨w.heap.size + 1, 3, none⟩) bGw3).trans cG3w3
  have cG4w4 := (hmw4.cell (p := ⟨w.heap.size + 1, 4, none⟩) bGw3).trans cG4w3
  have bGw4 : w.heap.size + 1 < w4.heap.size := Nat.lt_of_lt_of_le bGw3 hmw4.size
  have dGw4 : w.heap.size + 1 < w4.heap.size + 1 := Nat.lt_succ_of_lt bGw4
  have cA0w4 := (hmw4.cell (p := ⟨w.heap.size + 2, 0, none⟩) bAw3).trans cA0w3
  have cA1w4 := (hmw4.cell (p := ⟨w.heap.size + 2, 1, none⟩) bAw3).trans cA1w3
  have bAw4 : w.heap.size + 2 < w4.heap.size := Nat.lt_of_lt_of_le bAw3 hmw4.size
  have dAw4 : w.heap.size + 2 < w4.heap.size + 1 := Nat.lt_succ_of_lt bAw4
  have cB0w4 := (hmw4.cell (p := ⟨w.heap.size + 3, 0, none⟩) bBw3).trans cB0w3
  have cB1w4 := (hmw4.cell (p := ⟨w.heap.size + 3, 1, none⟩) bBw3).trans cB1w3
  have bBw4 : w.heap.size + 3 < w4.heap.size := Nat.lt_of_lt_of_le bBw3 hmw4.size
  have dBw4 : w.heap.size + 3 < w4.heap.size + 1 := Nat.lt_succ_of_lt bBw4
  have cN0w4 : w4.cell? ⟨w3.heap.size, 0, none⟩ = some (.int .i64 b1) := by rw [hw4.cell (p := ⟨w3.heap.size, 0, none⟩) (by first | (with_reducible assumption) | (simp; done) | omega | (simp; omega))]; simp [go_sem]
  have cN1w4 : w4.cell? ⟨w3.heap.size, 1, none⟩ = some (.int .i64 b2) := by rw [hw4.cell (p := ⟨w3.heap.size, 1, none⟩) (by first | (with_reducible assumption) | (simp; done) | omega | (simp; omega))]; simp [go_sem]
  have zN0w4 : w4.frozen? ⟨w3.heap.size, 0, none⟩ = false := by rw [hw4.frozen (p := ⟨w3.heap.size, 0, none⟩) (by first | (with_reducible assumption) | (simp; done) | omega | (simp; omega))]; simp [go_sem]
  have zN1w4 : w4.frozen? ⟨w3.heap.size, 1, none⟩ = false := by rw [hw4.frozen (p := ⟨w3.heap.size, 1, none⟩) (by first | (with_reducible assumption) | (simp; done) | omega | (simp; omega))]; simp [go_sem]
  have bNw4 : w3.heap.size < w4.heap.size := by have := hw4.size; first | omega | (simp at this; omega)
  have dNw4 : w3.heap.size < w4.heap.size + 1 := Nat.lt_succ_of_lt bNw4
  have hBw4 : Below w.heap.size w w4 := Below.trans hBw3 (hmw4.mono hBw3.size)
  have zw4 : w.heap.size ≤ w4.heap.size := hBw4.size
  clear hmw4 hw4 zw3 hBw3 dBw3 bBw3 cB1w3 cB0w3 dAw3 bAw3 cA1w3 cA0w3 dGw3 bGw3 cG4w3 cG3w3 cG2w3 cG1w3 cG0w3 dCw3 bCw3 cC9w3 cC8w3 cC7w3 cC6w3 cC5w3 cC4w3 cC3w3 cC2w3 cC1w3 cC0w3
  rw [hb.out]
  have oCO : ¬ w.heap.size = w4.heap.size := by omega
  have pCO : ¬ w4.heap.size = w.heap.size := by omega
  have oGO : ¬ w.heap.size + 1 = w4.heap.size := by omega
  have pGO : ¬ w4.heap.size = w.heap.size + 1 := by omega
  have oAO : ¬ w.heap.size + 2 = w4.heap.size := by omega
  have pAO : ¬ w4.heap.size = w.heap.size + 2 := by omega
  have oBO : ¬ w.heap.size + 3 = w4.heap.size := by omega
  have pBO : ¬ w4.heap.size = w.heap.size + 3 := by omega
  have oNO : ¬ w3.heap.size = w4.heap.size := by omega
  have pNO : ¬ w4.heap.size = w3.heap.size := by omega
  have lowO : w.heap.size ≤ w4.heap.size := by omega
  go_wp2_with fail
  refine (Code_any _ _ _ _ _ _ _ hI hF _).mono ?_
  rintro e w5 ⟨rfl, hw5⟩
  have hmw5 : Below w4.heap.size w4 w5 := on_below hw5 (by repeat' (first | (with_reducible exact Below.refl _ _) | (with_reducible assumption) | (with_reducible refine drewN_below ?_ _) | (with_reducible refine Below.drew ?_) | (with_reducible refine Below.alloc ?_ ?_ _) | (with_reducible refine Below.setCell ?_ ?_ _) | (simp; done) | omega | (simp; omega))) (by first | (with_reducible assumption) | (simp; done) | omega | (simp; omega))
  have cC0w5 := (hmw5.cell (p := ⟨w.heap.size, 0, none⟩) bCw4).trans cC0w4
  have cC1w5 := (hmw5.cell (p := ⟨w.heap.size, 1, none⟩) bCw4).trans cC1w4
  have cC2w5 := (hmw5.cell (p := ⟨w.heap.size, 2, none⟩) bCw4).trans cC2w4
  have cC3w5 := (hmw5.cell (p := ⟨w.heap.size, 3, none⟩) bCw4).trans cC3w4
  have cC4w5 := (hmw5.cell (p := ⟨w.heap.size, 4, none⟩) bCw4).trans cC4w4
  have cC5w5 := (hmw5.cell (p := ⟨w.heap.size, 5, none⟩) bCw4).trans cC5w4
  have cC6w5 := (hmw5.cell (p := ⟨w.heap.size, 6, none⟩) bCw4).trans cC6w4
  have cC7w5 := (hmw5.cell (p := ⟨w.heap.size, 7, none⟩) bCw4).trans cC7w4
  have cC8w5 := (hmw5.cell (p := ⟨w.heap.size, 8, none⟩) bCw4).trans cC8w4
  have cC9w5 := (hmw5.cell (p := ⟨w.heap.size, 9, none⟩) bCw4).trans cC9w4
  have bCw5 : w.heap.size < w5.heap.size := Nat.lt_of_lt_of_le bCw4 hmw5.size
  have dCw5 : w.heap.size < w5.heap.size + 1 := Nat.lt_succ_of_lt bCw5
  have cG0w5 := (hmw5.cell (p := ⟨w.heap.size + 1, 0, none⟩) bGw4).trans cG0w4
  have cG1w5 := (hmw5.cell (p := ⟨w.heap.size + 1, 1, none⟩) bGw4).trans cG1w4
  have cG2w5 := (hmw5.cell (p := ⟨w.heap.size + 1, 2, none⟩) bGw4).trans cG2w4
  have cG3w5 := (hmw5.cell (p := ⟨w.heap.size + 1, 3, none⟩) bGw4).trans cG3w4
  have cG4w5 := (hmw5.cell (p := ⟨w.heap.size + 1, 4, none⟩) bGw4).trans cG4w4
  have bGw5 : w.heap.size + 1 < w5.heap.size := Nat.lt_of_lt_of_le bGw4 hmw5.size
  have dGw5 : w.heap.size + 1 < w5.heap.size + 1 := Nat.lt_succ_of_lt bGw5
  have cA0w5 := (hmw5.cell (p := ⟨w.heap.size + 2, 0, none⟩) bAw4).trans cA0w4
  have cA1w5 := (hmw5.cell (p := ⟨w.heap.size + 2, 1, none⟩) bAw4).trans cA1w4
  have bAw5 : w.heap.size + 2 < w5.heap.size := Nat.lt_of_lt_of_le bAw4 hmw5.size
  have dAw5 : w.heap.size + 2 < w5.heap.size + 1 := Nat.lt_succ_of_lt bAw5
  have cB0w5 := (hmw5.cell (p := ⟨w.heap.size + 3, 0, none⟩) bBw4).trans cB0w4
  have cB1w5 := (hmw5.cell (p := ⟨w.heap.size + 3, 1, none⟩) bBw4).trans cB1w4
  have bBw5 : w.heap.size + 3 < w5.heap.size := Nat.lt_of_lt_of_le bBw4 hmw5.size
  have dBw5 : w.heap.size + 3 < w5.heap.size + 1 := Nat.lt_succ_of_lt bBw5
  have cN0w5 := (hmw5.cell (p := ⟨w3.heap.size, 0, none⟩) bNw4).trans cN0w4
  have cN1w5 := (hmw5.cell (p := ⟨w3.heap.size, 1, none⟩) bNw4).trans cN1w4
  have zN0w5 := (hmw5.frozen (p := ⟨w3.heap.size, 0, none⟩) bNw4).trans zN0w4
  have zN1w5 := (hmw5.frozen (p := ⟨w3.heap.size, 1, none⟩) bNw4).trans zN1w4
  have bNw5 : w3.heap.size < w5.heap.size := Nat.lt_of_lt_of_le bNw4 hmw5.size
  have dNw5 : w3.heap.size < w5.heap.size + 1 := Nat.lt_succ_of_lt bNw5
  have cO0w5 : w5.cell? ⟨w4.heap.size, 0, none⟩ = some (.int .i64 b1) := by rw [hw5.cell (p := ⟨w4.heap.size, 0, none⟩) (by first | (with_reducible assumption) | (simp; done) | omega | (simp; omega))]; simp [go_sem]
  have cO1w5 : w5.cell? ⟨w4.heap.size, 1, none⟩ = some (.int .i64 b2) := by rw [hw5.cell (p := ⟨w4.heap.size, 1, none⟩) (by first | (with_reducible assumption) | (simp; done) | omega | (simp; omega))]; simp [go_sem]
  have zO0w5 : w5.frozen? ⟨w4.heap.size, 0, none⟩ = false := by rw [hw5.frozen (p := ⟨w4.heap.size, 0, none⟩) (by first | (with_reducible assumption) | (simp; done) | omega | (simp; omega))]; simp [go_sem]
  have zO1w5 : w5.frozen? ⟨w4.heap.size, 1, none⟩ = false := by rw [hw5.frozen (p := ⟨w4.heap.size, 1, none⟩) (by first | (with_reducible assumption) | (simp; done) | omega | (simp; omega))]; simp [go_sem]
  have bOw5 : w4.heap.size < w5.heap.size := by have := hw5.size; first | omega | (simp at this; omega)
  have dOw5 : w4.heap.size < w5.heap.size + 1 := Nat.lt_succ_of_lt bOw5
  have hBw5 : Below w.heap.size w w5 := Below.trans hBw4 (hmw5.mono hBw4.size)
  have zw5 : w.heap.size ≤ w5.heap.size := hBw5.size
  clear hmw5 hw5 zw4 hBw4 dNw4 bNw4 zN1w4 zN0w4 cN1w4 cN0w4 dBw4 bBw4 cB1w4 cB0w4 dAw4 bAw4 cA1w4 cA0w4 dGw4 bGw4 cG4w4 cG3w4 cG2w4 cG1w4 cG0w4 dCw4 bCw4 cC9w4 cC8w4 cC7w4 cC6w4 cC5w4 cC4w4 cC3w4 cC2w4 cC1w4 cC0w4
  rw [hq.out]
  go_wp2_with fail
  refine (rCode_any _ _ _ _ _ _ _ hI hF _).mono ?_
  rintro e w6 ⟨rfl, hw6⟩
  have hmw6 : Below w5.heap.size w5 w6 := on_below hw6 (by repeat' (first | (with_reducible exact Below.refl _ _) | (with_reducible assumption) | (with_reducible refine drewN_below ?_ _) | (with_reducible refine Below.drew ?_) | (with_reducible refine Below.alloc ?_ ?_ _) | (with_reducible refine Below.setCell ?_ ?_ _) | (simp; done) | omega | (simp; omega))) (by first | (with_reducible assumption) | (simp; done) | omega | (simp; omega))
  have cC0w6 := (hmw6.cell (p := ⟨w.heap.size, 0, none⟩) bCw5).trans cC0w5
  have cC1w6 := (hmw6.cell (p := ⟨w.heap.size, 1, none⟩) bCw5).trans cC1w5
  have cC2w6 := (hmw6.cell (p := ⟨w.heap.size, 2, none⟩) bCw5).trans cC2w5
  have cC3w6 := (hmw6.cell (p := ⟨w.heap.size, 3, none⟩) bCw5).trans cC3w5
  have cC4w6 := (hmw6.cell (p := ⟨w.heap.size, 4, none⟩) bCw5).trans cC4w5
  have cC5w6 := (hmw6.cell (p := ⟨w.heap.size, 5, none⟩) bCw5).trans cC5w5
  have cC6w6 := (hmw6.cell (p := ⟨w.heap.size, 6, none⟩) bCw5).trans cC6w5
  have cC7w6 := (hmw6.cell (p := ⟨w.heap.size, 7, none⟩) bCw5).trans cC7w5
  have cC8w6 := (hmw6.cell (p := ⟨w.heap.size, 8, none⟩) bCw5).trans cC8w5
  have cC9w6 := (hmw6.cell (p := ⟨w.heap.size, 9, none⟩) bCw5).trans cC9w5
  have bCw6 : w.heap.size < w6.heap.size := Nat.lt_of_lt_of_le bCw5 hmw6.size
  have dCw6 : w.heap.size < w6.heap.size + 1 := Nat.lt_succ_of_lt bCw6
  have cG0w6 := (hmw6.cell (p := ⟨w.heap.size + 1, 0, none⟩) bGw5).trans cG0w5
  have cG1w6 := (hmw6.cell (p := ⟨w.heap.size + 1, 1, none⟩) bGw5).trans cG1w5
  have cG2w6 := (hmw6.cell (p := ⟨w.heap.size + 1, 2, none⟩) bGw5).trans cG2w5
  have cG3w6 := (hmw6.cell (p := ⟨w.heap.size + 1, 3, none⟩) bGw5).trans cG3w5
  have cG4w6 := (hmw6.cell (p := ⟨w.heap.size + 1, 4, none⟩) bGw5).trans cG4w5
  have bGw6 : w.heap.size + 1 < w6.heap.size := Nat.lt_of_lt_of_le bGw5 hmw6.size
  have dGw6 : w.heap.size + 1 < w6.heap.size + 1 := Nat.lt_succ_of_lt bGw6
  have cA0w6 := (hmw6.cell (p := ⟨w.heap.size + 2, 0, none⟩) bAw5).trans cA0w5
  have cA1w6 := (hmw6.cell (p := ⟨w.heap.size + 2, 1, none⟩) bAw5).trans cA1w5
  have bAw6 : w.heap.size + 2 < w6.heap.size := Nat.lt_of_lt_of_le bAw5 hmw6.size
  have dAw6 : w.heap.size + 2 < w6.heap.size + 1 := Nat.lt_succ_of_lt bAw6
  have cB0w6 := (hmw6.cell (p := ⟨w.heap.size + 3, 0, none⟩) bBw5).trans cB0w5
  have cB1w6 := (hmw6.cell (p := ⟨w.heap.size + 3, 1, none⟩) bBw5).trans cB1w5
  have bBw6 : w.heap.size + 3 < w6.heap.size := Nat.lt_of_lt_of_le bBw5 hmw6.size
  have dBw6 : w.heap.size + 3 < w6.heap.size + 1 := Nat.lt_succ_of_lt bBw6
  have cN0w6 := (hmw6.cell (p := ⟨w3.heap.size, 0, none⟩) bNw5).trans cN0w5
  have cN1w6 := (hmw6.cell (p := ⟨w3.heap.size, 1, none⟩) bNw5).trans cN1w5
  have zN0w6 := (hmw6.frozen (p := ⟨w3.heap.size, 0, none⟩) bNw5).trans zN0w5
  have zN1w6 := (hmw6.frozen (p := ⟨w3.heap.size, 1, none⟩) bNw5).trans zN1w5
  have bNw6 : w3.heap.size < w6.heap.size := Nat.lt_of_lt_of_le bNw5 hmw6.size
  have dNw6 : w3.heap.size < w6.heap.size + 1 := Nat.lt_succ_of_lt bNw6
  have cO0w6 := (hmw6.cell (p := ⟨w4.heap.size, 0, none⟩) bOw5).trans cO0w5
  have cO1w6 := (hmw6.cell (p := ⟨w4.heap.size, 1, none⟩) bOw5).trans cO1w5
  have zO0w6 := (hmw6.frozen (p := ⟨w4.heap.size, 0, none⟩) bOw5).trans zO0w5
  have zO1w6 := (hmw6.frozen (p := ⟨w4.heap.size, 1, none⟩) bOw5).trans zO1w5
  have bOw6 : w4.heap.size < w6.heap.size := Nat.lt_of_lt_of_le bOw5 hmw6.size
  have dOw6 : w4.heap.size < w6.heap.size + 1 := Nat.lt_succ_of_lt bOw6
  have hBw6 : Below w.heap.size w w6 := Below.trans hBw5 (hmw6.mono hBw5.size)
  have zw6 : w.heap.size ≤ w6.heap.size := hBw6.size
  clear hmw6 hw6 zw5 hBw5 dOw5 bOw5 zO1w5 zO0w5 cO1w5 cO0w5 dNw5 bNw5 zN1w5 zN0w5 cN1w5 cN0w5 dBw5 bBw5 cB1w5 cB0w5 dAw5 bAw5 cA1w5 cA0w5 dGw5 bGw5 cG4w5 cG3w5 cG2w5 cG1w5 cG0w5 dCw5 bCw5 cC9w5 cC8w5 cC7w5 cC6w5 cC5w5 cC4w5 cC3w5 cC2w5 cC1w5 cC0w5
  rw [hq.out]
  go_upto_region 17 with fail
  go_cut [8] (fun s8 wx => s8 = .int .i64 ve ∧ wx.cell? ⟨w.heap.size + 1, 0, none⟩ = some (.string k) ∧ wx.cell? ⟨w.heap.size + 1, 1, none⟩ = some (.int .i64 I) ∧ wx.cell? ⟨w.heap.size + 1, 2, none⟩ = some (.int .i64 F) ∧ wx.cell? ⟨w.heap.size + 1, 3, none⟩ = some (.string r) ∧ wx.cell? ⟨w.heap.size + 1, 4, none⟩ = some (.string o) ∧ w.heap.size + 1 < wx.heap.size ∧ wx.cell? ⟨w3.heap.size, 0, none⟩ = some (.int .i64 v1) ∧ wx.cell? ⟨w3.heap.size, 1, none⟩ = some (.int .i64 v2) ∧ w3.heap.size < wx.heap.size ∧ wx.frozen? ⟨w3.heap.size, 0, none⟩ = false ∧ wx.frozen? ⟨w3.heap.size, 1, none⟩ = false ∧ wx.cell? ⟨w4.heap.size, 0, none⟩ = some (.int .i64 b1) ∧ wx.cell? ⟨w4.heap.size, 1, none⟩ = some (.int .i64 b2) ∧ w4.heap.size < wx.heap.size ∧ wx.frozen? ⟨w4.heap.size, 0, none⟩ = false ∧ wx.frozen? ⟨w4.heap.size, 1, none⟩ = false ∧ Below w.heap.size w wx)
  case first =>
    go_wp2_with fail
    refine (Value_any _ _ _ _ _ _ hI hF hc _).mono ?_
    rintro e w7 ⟨rfl, hw7⟩
    have hmw7 : Below w6.heap.size w6 w7 := on_below hw7 (by repeat' (first | (with_reducible exact Below.refl _ _) | (with_reducible assumption) | (with_reducible refine drewN_below ?_ _) | (with_reducible refine Below.drew ?_) | (with_reducible refine Below.alloc ?_ ?_ _) | (with_reducible refine Below.setCell ?_ ?_ _) | (simp; done) | omega | (simp; omega))) (by first | (with_reducible assumption) | (simp; done) | omega | (simp; omega))
    have cC0w7 := (hmw7.cell (p := ⟨w.heap.size, 0, none⟩) bCw6).trans cC0w6
    have cC1w7 := (hmw7.cell (p := ⟨w.heap.size, 1, none⟩) bCw6).trans cC1w6
    have cC2w7 := (hmw7.cell (p := ⟨w.heap.size, 2, none⟩) bCw6).trans cC2w6
    have cC3w7 := (hmw7.cell (p := ⟨w.heap.size, 3, none⟩) bCw6).trans cC3w6
    have cC4w7 := (hmw7.cell (p := ⟨w.heap.size, 4, none⟩) bCw6).trans cC4w6
    have cC5w7 := (hmw7.cell (p := ⟨w.heap.size, 5, none⟩) bCw6).trans cC5w6
    have cC6w7 := (hmw7.cell (p := ⟨w.heap.size, 6, none⟩) bCw6).trans cC6w6
    have cC7w7 := (hmw7.cell (p := ⟨w.heap.size, 7, none⟩) bCw6).trans cC7w6
    have cC8w7 := (hmw7.cell (p := ⟨w.heap.size, 8, none⟩) bCw6).trans cC8w6
    have cC9w7 := (hmw7.cell (p := ⟨w.heap.size, 9, none⟩) bCw6).trans cC9w6
    have bCw7 : w.heap.size < w7.heap.size := Nat.lt_of_lt_of_le bCw6 hmw7.size
    have dCw7 : w.heap.size < w7.heap.size + 1 := Nat.lt_succ_of_lt bCw7
    have cG0w7 := (hmw7.cell (p := ⟨w.heap.size + 1, 0, none⟩) bGw6).trans cG0w6
    have cG1w7 := (hmw7.cell (p := ⟨w.heap.size + 1, 1, none⟩) bGw6).trans cG1w6
    have cG2w7 := (hmw7.cell (p := ⟨w.heap.size + 1, 2, none⟩) bGw6).trans cG2w6
    have cG3w7 := (hmw7.cell (p := ⟨w.heap.size + 1, 3, none⟩) bGw6).trans cG3w6
    have cG4w7 := (hmw7.cell (p := ⟨w.heap.size + 1, 4, none⟩) bGw6).trans cG4w6
    have bGw7 : w.heap.size + 1 < w7.heap.size := Nat.lt_of_lt_of_le bGw6 hmw7.size
    have dGw7 : w.heap.size + 1 < w7.heap.size + 1 := Nat.lt_succ_of_lt bGw7
    have cA0w7 := (hmw7.cell (p := ⟨w.heap.size + 2, 0, none⟩) bAw6).trans cA0w6
    have cA1w7 := (hmw7.cell (p := ⟨w.heap.size + 2, 1, none⟩) bAw6).trans cA1w6
    have bAw7 : w.heap.size + 2 < w7.heap.size := Nat.lt_of_lt_of_le bAw6 hmw7.size
    have dAw7 : w.heap.size + 2 < w7.heap.size + 1 := Nat.lt_succ_of_lt bAw7
    have cB0w7 := (hmw7.cell (p := ⟨w.heap.size + 3, 0, none⟩) bBw6).trans cB0w6
    have cB1w7 := (hmw7.cell (p := ⟨w.heap.size + 3, 1, none⟩) bBw6).trans cB1w6
    have bBw7 : w.heap.size + 3 < w7.heap.size := Nat.lt_of_lt_of_le bBw6 hmw7.size
    have dBw7 : w.heap.size + 3 < w7.heap.size + 1 := Nat.lt_succ_of_lt bBw7
    have cN0w7 := (hmw7.cell (p := ⟨w3.heap.size, 0, none⟩) bNw6).trans cN0w6
    have cN1w7 := (hmw7.cell (p := ⟨w3.heap.size, 1, none⟩) bNw6).trans cN1w6
    have zN0w7 := (hmw7.frozen (p := ⟨w3.heap.size, 0, none⟩) bNw6).trans zN0w6
    have zN1w7 := (hmw7.frozen (p := ⟨w3.heap.size, 1, none⟩) bNw6).trans zN1w6
    have bNw7 : w3.heap.size < w7.heap.size := Nat.lt_of_lt_of_le bNw6 hmw7.size
    have dNw7 : w3.heap.size < w7.heap.size + 1 := Nat.lt_succ_of_lt bNw7
    have cO0w7 := (hmw7.cell (p := ⟨w4.heap.size, 0, none⟩) bOw6).trans cO0w6
    have cO1w7 := (hmw7.cell (p := ⟨w4.heap.size, 1, none⟩) bOw6).trans cO1w6
    have zO0w7 := (hmw7.frozen (p := ⟨w4.heap.size, 0, none⟩) bOw6).trans zO0w6
    have zO1w7 := (hmw7.frozen (p := ⟨w4.heap.size, 1, none⟩) bOw6).trans zO1w6
    have bOw7 : w4.heap.size < w7.heap.size := Nat.lt_of_lt_of_le bOw6 hmw7.size
    have dOw7 : w4.heap.size < w7.heap.size + 1 := Nat.lt_succ_of_lt bOw7
    have hBw7 : Below w.heap.size w w7 := Below.trans hBw6 (hmw7.mono hBw6.size)
    have zw7 : w.heap.size ≤ w7.heap.size := hBw7.size
    clear hmw7 hw7 zw6 hBw6 dOw6 bOw6 zO1w6 zO0w6 cO1w6 cO0w6 dNw6 bNw6 zN1w6 zN0w6 cN1w6 cN0w6 dBw6 bBw6 cB1w6 cB0w6 dAw6 bAw6 cA1w6 cA0w6 dGw6 bGw6 cG4w6 cG3w6 cG2w6 cG1w6 cG0w6 dCw6 bCw6 cC9w6 cC8w6 cC7w6 cC6w6 cC5w6 cC4w6 cC3w6 cC2w6 cC1w6 cC0w6
    rw [hv.out]
    go_wp2
    go_meet
    (refine ⟨rfl, ?_, ?_, ?_, ?_, ?_, ?_, ?_, ?_, ?_, ?_, ?_, ?_, ?_, ?_, ?_, ?_, ?_⟩ <;> first | assumption | (simp [go_sem, *]; done) | omega | (simp; omega) | (repeat' (first | (with_reducible exact Below.refl _ _) | (with_reducible assumption) | (with_reducible refine drewN_below ?_ _) | (with_reducible refine Below.drew ?_) | (with_reducible refine Below.alloc ?_ ?_ _) | (with_reducible refine Below.setCell ?_ ?_ _) | (simp; done) | omega | (simp; omega))))
  case rest =>
    obtain ⟨rfl, cG0w8, cG1w8, cG2w8, cG3w8, cG4w8, bGw8, cN0w8, cN1w8, bNw8, zN0w8, zN1w8, cO0w8, cO1w8, bOw8, zO0w8, zO1w8, hBw8⟩ := hcut
    have dGw8 : w.heap.size + 1 < wc.heap.size + 1 := Nat.lt_succ_of_lt bGw8
    have dNw8 : w3.heap.size < wc.heap.size + 1 := Nat.lt_succ_of_lt bNw8
    have dOw8 : w4.heap.size < wc.heap.size + 1 := Nat.lt_succ_of_lt bOw8
    have zw8 : w.heap.size ≤ wc.heap.size := hBw8.size
    obtain ⟨w8, ew8⟩ : ∃ x, x = wc := ⟨_, rfl⟩
    subst ew8
    clear zw6 hBw6 dOw6 bOw6 zO1w6 zO0w6 cO1w6 cO0w6 dNw6 bNw6 zN1w6 zN0w6 cN1w6 cN0w6 dBw6 bBw6 cB1w6 cB0w6 dAw6 bAw6 cA1w6 cA0w6 dGw6 bGw6 cG4w6 cG3w6 cG2w6 cG1w6 cG0w6 dCw6 bCw6 cC9w6 cC8w6 cC7w6 cC6w6 cC5w6 cC4w6 cC3w6 cC2w6 cC1w6 cC0w6
    go_upto_region 18 with fail
    go_cut [10] (fun s10 wx => s10 = .int .i64 ve ∧ wx.cell? ⟨w.heap.size + 1, 0, none⟩ = some (.string k) ∧ wx.cell? ⟨w.heap.size + 1, 1, none⟩ = some (.int .i64 I) ∧ wx.cell? ⟨w.heap.size + 1, 2, none⟩ = some (.int .i64 F) ∧ wx.cell? ⟨w.heap.size + 1, 3, none⟩ = some (.string r) ∧ wx.cell? ⟨w.heap.size + 1, 4, none⟩ = some (.string o) ∧ w.heap.size + 1 < wx.heap.size ∧ wx.cell? ⟨w3.heap.size, 0, none⟩ = some (.int .i64 v1) ∧ wx.cell? ⟨w3.heap.size, 1, none⟩ = some (.int .i64 v2) ∧ w3.heap.size < wx.heap.size ∧ wx.frozen? ⟨w3.heap.size, 0, none⟩ = false ∧ wx.frozen? ⟨w3.heap.size, 1, none⟩ = false ∧ wx.cell? ⟨w4.heap.size, 0, none⟩ = some (.int .i64 v1) ∧ wx.cell? ⟨w4.heap.size, 1, none⟩ = some (.int .i64 v2) ∧ w4.heap.size < wx.heap.size ∧ wx.frozen? ⟨w4.heap.size, 0, none⟩ = false ∧ wx.frozen? ⟨w4.heap.size, 1, none⟩ = false ∧ Below w.heap.size w wx)
    case first =>
      go_wp2_with fail
      refine (rValue_any _ _ _ _ _ _ hI hF hc _).mono ?_
      rintro e w9 ⟨rfl, hw9⟩
      have hmw9 : Below w8.heap.size w8 w9 := on_below hw9 (by repeat' (first | (with_reducible exact Below.refl _ _) | (with_reducible assumption) | (with_reducible refine drewN_below ?_ _) | (with_reducible refine Below.drew ?_) | (with_reducible refine Below.alloc ?_ ?_ _) | (with_reducible refine Below.setCell ?_ ?_ _) | (simp; done) | omega | (simp; omega))) (by first | (with_reducible assumption) | (simp; done) | omega | (simp; omega))
      have cG0w9 := (hmw9.cell (p := ⟨w.heap.size + 1, 0, none⟩) bGw8).trans cG0w8
      have cG1w9 := (hmw9.cell (p := ⟨w.heap.size + 1, 1, none⟩) bGw8).trans cG1w8
      have cG2w9 := (hmw9.cell (p := ⟨w.heap.size + 1, 2, none⟩) bGw8).trans cG2w8
      have cG3w9 := (hmw9.cell (p := ⟨w.heap.size + 1, 3, none⟩) bGw8).trans cG3w8
      have cG4w9 := (hmw9.cell (p := ⟨w.heap.size + 1, 4, none⟩) bGw8).trans cG4w8
      have bGw9 : w.heap.size + 1 < w9.heap.size := Nat.lt_of_lt_of_le bGw8 hmw9.size
      have dGw9 : w.heap.size + 1 < w9.heap.size + 1 := Nat.lt_succ_of_lt bGw9
      have cN0w9 := (hmw9.cell (p := ⟨w3.heap.size, 0, none⟩) bNw8).trans cN0w8
      have cN1w9 := (hmw9.cell (p := ⟨w3.heap.size, 1, none⟩) bNw8).trans cN1w8
      have zN0w9 := (hmw9.frozen (p := ⟨w3.heap.size, 0, none⟩) bNw8).trans zN0w8
      have zN1w9 := (hmw9.frozen (p := ⟨w3.heap.size, 1, none⟩) bNw8).trans zN1w8
      have bNw9 : w3.heap.size < w9.heap.size := Nat.lt_of_lt_of_le bNw8 hmw9.size
      have dNw9 : w3.heap.size < w9.heap.size + 1 := Nat.lt_succ_of_lt bNw9
      have cO0w9 := (hmw9.cell (p := ⟨w4.heap.size, 0, none⟩) bOw8).trans cO0w8
      have cO1w9 := (hmw9.cell (p := ⟨w4.heap.size, 1, none⟩) bOw8).trans cO1w8
      have zO0w9 := (hmw9.frozen (p := ⟨w4.heap.size, 0, none⟩) bOw8).trans zO0w8
      have zO1w9 := (hmw9.frozen (p := ⟨w4.heap.size, 1, none⟩) bOw8).trans zO1w8
      have bOw9 : w4.heap.size < w9.heap.size := Nat.lt_of_lt_of_le bOw8 hmw9.size
      have dOw9 : w4.heap.size < w9.heap.size + 1 := Nat.lt_succ_of_lt bOw9
      have hBw9 : Below w.heap.size w w9 := Below.trans hBw8 (hmw9.mono hBw8.size)
      have zw9 : w.heap.size ≤ w9.heap.size := hBw9.size
      clear hmw9 hw9 zw8 dOw8 dNw8 dGw8 hBw8 zO1w8 zO0w8 bOw8 cO1w8 cO0w8 zN1w8 zN0w8 bNw8 cN1w8 cN0w8 bGw8 cG4w8 cG3w8 cG2w8 cG1w8 cG0w8
      rw [hv.out]
      go_wp2
      go_meet
      (refine ⟨rfl, ?_, ?_, ?_, ?_, ?_, ?_, ?_, ?_, ?_, ?_, ?_, ?_, ?_, ?_, ?_, ?_, ?_⟩ <;> first | assumption | (simp [go_sem, *]; done) | omega | (simp; omega) | (repeat' (first | (with_reducible exact Below.refl _ _) | (with_reducible assumption) | (with_reducible refine drewN_below ?_ _) | (with_reducible refine Below.drew ?_) | (with_reducible refine Below.alloc ?_ ?_ _) | (with_reducible refine Below.setCell ?_ ?_ _) | (simp; done) | omega | (simp; omega))))
    case rest =>
      obtain ⟨rfl, cG0w10, cG1w10, cG2w10, cG3w10, cG4w10, bGw10, cN0w10, cN1w10, bNw10, zN0w10, zN1w10, cO0w10, cO1w10, bOw10, zO0w10, zO1w10, hBw10⟩ := hcut
      have dGw10 : w.heap.size + 1 < wc.heap.size + 1 := Nat.lt_succ_of_lt bGw10
      have dNw10 : w3.heap.size < wc.heap.size + 1 := Nat.lt_succ_of_lt bNw10
      have dOw10 : w4.heap.size < wc.heap.size + 1 := Nat.lt_succ_of_lt bOw10
      have zw10 : w.heap.size ≤ wc.heap.size := hBw10.size
      obtain ⟨w10, ew10⟩ : ∃ x, x = wc := ⟨_, rfl⟩
      subst ew10
      clear zw8 dOw8 dNw8 dGw8 hBw8 zO1w8 zO0w8 bOw8 cO1w8 cO0w8 zN1w8 zN0w8 bNw8 cN1w8 cN0w8 bGw8 cG4w8 cG3w8 cG2w8 cG1w8 cG0w8
      go_wp2_with fail
      refine (awake_any _).mono ?_
      rintro e w11 ⟨rfl, hw11⟩
      have hmw11 : Below w10.heap.size w10 w11 := on_below hw11 (by repeat' (first | (with_reducible exact Below.refl _ _) | (with_reducible assumption) | (with_reducible refine drewN_below ?_ _) | (with_reducible refine Below.drew ?_) | (with_reducible refine Below.alloc ?_ ?_ _) | (with_reducible refine Below.setCell ?_ ?_ _) | (simp; done) | omega | (simp; omega))) (by first | (with_reducible assumption) | (simp; done) | omega | (simp; omega))
      have cG0w11 := (hmw11.cell (p := ⟨w.heap.size + 1, 0, none⟩) bGw10).trans cG0w10
      have cG1w11 := (hmw11.cell (p := ⟨w.heap.size + 1, 1, none⟩) bGw10).trans cG1w10
      have cG2w11 := (hmw11.cell (p := ⟨w.heap.size + 1, 2, none⟩) bGw10).trans cG2w10
      have cG3w11 := (hmw11.cell (p := ⟨w.heap.size + 1, 3, none⟩) bGw10).trans cG3w10
      have cG4w11 := (hmw11.cell (p := ⟨w.heap.size + 1, 4, none⟩) bGw10).trans cG4w10
      have bGw11 : w.heap.size + 1 < w11.heap.size := Nat.lt_of_lt_of_le bGw10 hmw11.size
      have dGw11 : w.heap.size + 1 < w11.heap.size + 1 := Nat.lt_succ_of_lt bGw11
      have cN0w11 := (hmw11.cell (p := ⟨w3.heap.size, 0, none⟩) bNw10).trans cN0w10
      have cN1w11 := (hmw11.cell (p := ⟨w3.heap.size, 1, none⟩) bNw10).trans cN1w10
      have zN0w11 := (hmw11.frozen (p := ⟨w3.heap.size, 0, none⟩) bNw10).trans zN0w10
      have zN1w11 := (hmw11.frozen (p := ⟨w3.heap.size, 1, none⟩) bNw10).trans zN1w10
      have bNw11 : w3.heap.size < w11.heap.size := Nat.lt_of_lt_of_le bNw10 hmw11.size
      have dNw11 : w3.heap.size < w11.heap.size + 1 := Nat.lt_succ_of_lt bNw11
      have cO0w11 := (hmw11.cell (p := ⟨w4.heap.size, 0, none⟩) bOw10).trans cO0w10
      have cO1w11 := (hmw11.cell (p := ⟨w4.heap.size, 1, none⟩) bOw10).trans cO1w10
      have zO0w11 := (hmw11.frozen (p := ⟨w4.heap.size, 0, none⟩) bOw10).trans zO0w10
      have zO1w11 := (hmw11.frozen (p := ⟨w4.heap.size, 1, none⟩) bOw10).trans zO1w10
      have bOw11 : w4.heap.size < w11.heap.size := Nat.lt_of_lt_of_le bOw10 hmw11.size
      have dOw11 : w4.heap.size < w11.heap.size + 1 := Nat.lt_succ_of_lt bOw11
      have hBw11 : Below w.heap.size w w11 := Below.trans hBw10 (hmw11.mono hBw10.size)
      have zw11 : w.heap.size ≤ w11.heap.size := hBw11.size
      clear hmw11 hw11 zw10 dOw10 dNw10 dGw10 hBw10 zO1w10 zO0w10 bOw10 cO1w10 cO0w10 zN1w10 zN0w10 bNw10 cN1w10 cN0w10 bGw10 cG4w10 cG3w10 cG2w10 cG1w10 cG0w10
      go_wp2
      go_ret
      exact ⟨rfl, (by repeat' (first | (with_reducible exact Below.refl _ _) | (with_reducible assumption) | (with_reducible refine drewN_below ?_ _) | (with_reducible refine Below.drew ?_) | (with_reducible refine Below.alloc ?_ ?_ _) | (with_reducible refine Below.setCell ?_ ?_ _) | (simp; done) | omega | (simp; omega)))⟩

end Go.Proofs.YtmadhpbdianddaaDoor
