/-
  The law on tests and binary digits by any name: the walk.
-/
import Derived.Test.YtpoalckncfkdgaaRbits
import Derived.Test.YtpoalckncfkdgaaSays
namespace Go.Proofs.Ytpoalckncfkdgaa
open Go.RowKit

/-- Two numbers in boxes of the call's own, and a list of names at S. -/
def Laid (w wr : World) (S n : Nat) (an ad bn bd : Int) : Prop :=
  wr.cell? ⟨w.heap.size, 0, none⟩ = some (.int .i64 an) ∧ wr.cell? ⟨w.heap.size, 1, none⟩ = some (.int .i64 ad) ∧
  wr.cell? ⟨w.heap.size + 1, 0, none⟩ = some (.int .i64 bn) ∧ wr.cell? ⟨w.heap.size + 1, 1, none⟩ = some (.int .i64 bd) ∧
  (∀ i, i < n → ∃ t : ByteArray, wr.cell? ⟨S, i, none⟩ = some (.string t)) ∧ w.heap.size + 1 < wr.heap.size ∧ S < wr.heap.size ∧ Below w.heap.size w wr
theorem Laid.on {w wr w' : World} {S n : Nat} {an ad bn bd : Int} (h : Laid w wr S n an ad bn bd) (hb : Below wr.heap.size wr w') : Laid w w' S n an ad bn bd := by
  obtain ⟨a0, a1, b0, b1, hs, hz, hS, hB⟩ := h
  refine ⟨(hb.cell (p := ⟨_, _, none⟩) (Nat.lt_of_succ_lt hz)).trans a0, (hb.cell (p := ⟨_, _, none⟩) (Nat.lt_of_succ_lt hz)).trans a1, (hb.cell (p := ⟨_, _, none⟩) hz).trans b0, (hb.cell (p := ⟨_, _, none⟩) hz).trans b1, fun i hi => ?_, Nat.lt_of_lt_of_le hz hb.size, Nat.lt_of_lt_of_le hS hb.size, Below.trans hB (hb.mono hB.size)⟩
  obtain ⟨t, ht⟩ := hs i hi
  exact ⟨t, (hb.cell (p := ⟨_, _, none⟩) hS).trans ht⟩

set_option maxRecDepth 100000 in
set_option maxHeartbeats 3200000 in
theorem tests_any (s : ByteArray) (an ad bn bd : Int) (w : World) :
    Calls Try.prog 5 #[.string s, .agg #[.int .i64 an, .int .i64 ad], .agg #[.int .i64 bn, .int .i64 bd]] w fun e w' => e = .returned (.bool true) ∧ Below w.heap.size w w' := by
  go_enter Try.func5, Try.ntmps5
  go_wp2
  go_loopw [14] (fun t wr => ∃ k : Nat, t = .int .i64 k ∧ k ≤ 5 ∧ Laid w wr (w.heap.size + 2) 5 an ad bn bd) (fun t _ => 5 - (intOf t).toNat)
  case atStart =>
    refine ⟨0, by first | rfl | go_num, by omega, ?_⟩
    refine ⟨by simp [go_sem], by simp [go_sem], by simp [go_sem], by simp [go_sem], fun i hi => ?_, by first | (simp; done) | (simp; omega), by first | (simp; done) | (simp; omega), (by repeat' (first | (with_reducible exact Below.refl _ _) | (with_reducible assumption) | (with_reducible refine drewN_below ?_ _) | (with_reducible refine Below.drew ?_) | (with_reducible refine Below.alloc ?_ ?_ _) | (with_reducible refine Below.setCell ?_ ?_ _) | (simp; done) | omega | (simp; omega)))⟩
    have hi' : i = 0 ∨ i = 1 ∨ i = 2 ∨ i = 3 ∨ i = 4 := by omega
    rcases hi' with rfl | rfl | rfl | rfl | rfl
    · exact ⟨s, by simp [go_sem]⟩
    · exact ⟨⟨#[108, 116]⟩, by simp [go_sem]⟩
    · exact ⟨⟨#[108, 101]⟩, by simp [go_sem]⟩
    · exact ⟨⟨#[101, 113]⟩, by simp [go_sem]⟩
    · exact ⟨⟨#[110, 101]⟩, by simp [go_sem]⟩
  case round =>
    obtain ⟨k, rfl, hk, hlaid⟩ := hrel
    have HL := Lib.hid hlaid
    obtain ⟨a0, a1, b0, b1, hs, hz, hS, hB⟩ := hlaid
    by_cases hlt : k < 5
    · obtain ⟨t, ht⟩ := hs k hlt
      clear hs
      obtain ⟨x, y, hv⟩ : ∃ x y, Hid (Q.tst t.toList (an, ad) (bn, bd) = (x, y)) := ⟨_, _, rfl⟩
      have hlt' : (k : Int) < 5 := by omega
      have xA : w.heap.size < wr.heap.size := Nat.lt_of_succ_lt hz
      go_wp2
      obtain ⟨w5, e5⟩ : ∃ x, x = wr := ⟨_, rfl⟩
      subst e5
      have hBw5 := hB
      have xA : w.heap.size < w5.heap.size := by omega
      have xB : w.heap.size + 1 < w5.heap.size := by omega
      refine wp_region_held_drew (S := (fun w' => w'.cell? ⟨w.heap.size, 0, none⟩ = some (.int .i64 an) ∧ w'.cell? ⟨w.heap.size, 1, none⟩ = some (.int .i64 ad) ∧ w'.cell? ⟨w.heap.size + 1, 0, none⟩ = some (.int .i64 bn) ∧ w'.cell? ⟨w.heap.size + 1, 1, none⟩ = some (.int .i64 bd) ∧ w5.heap.size ≤ w'.heap.size ∧ Below w5.heap.size w5 w')) (by kernel_rfl) ?_ ?_
      · (refine ⟨?_, ?_, ?_, ?_, ?_, ?_⟩ <;> first | assumption | ((repeat' (first | (with_reducible exact Below.refl _ _) | (with_reducible assumption) | (with_reducible refine drewN_below ?_ _) | (with_reducible refine Below.drew ?_) | (with_reducible refine Below.alloc ?_ ?_ _) | (with_reducible refine Below.setCell ?_ ?_ _) | (simp; done) | omega | (simp; omega))); done) | (simp [*]; done) | (simp [go_sem, *]; done) | (simp; omega))
      intro hH0
      refine wpAnyH_take (i := 0) (v := ?_) rfl (by kernel_rfl) (by kernel_rfl) (by kernel_rfl) (fun _ _ _ h => h) (Or.inl ⟨by rfl, ?_⟩) (by assumption) ?_
      rotate_left
      focus (intro wq hSq; (try dsimp only at hSq); go_simp; first | done | (with_reducible rfl))
      (try simp only [Act.put, List.getElem_toArray, List.getElem_cons_zero, List.setIfInBounds_toArray, List.set_cons_zero, List.set_cons_succ])
      refine wpAnyH_take (i := 1) (v := ?_) rfl (by kernel_rfl) (by kernel_rfl) (by kernel_rfl) (fun _ _ _ h => h) (Or.inl ⟨by rfl, ?_⟩) (by assumption) ?_
      rotate_left
      focus (intro wq hSq; (try dsimp only at hSq); go_simp; first | done | (with_reducible rfl))
      (try simp only [Act.put, List.getElem_toArray, List.getElem_cons_succ, List.getElem_cons_zero, List.setIfInBounds_toArray, List.set_cons_zero, List.set_cons_succ])
      refine wpAnyH_take (i := 2) (v := ?_) rfl (by kernel_rfl) (by kernel_rfl) (by kernel_rfl) (fun _ _ _ h => h) (Or.inl ⟨by rfl, ?_⟩) (by assumption) ?_
      rotate_left
      focus (intro wq hSq; (try dsimp only at hSq); go_simp; first | done | (with_reducible rfl))
      (try simp only [Act.put, List.getElem_toArray, List.getElem_cons_succ, List.getElem_cons_zero, List.setIfInBounds_toArray, List.set_cons_zero, List.set_cons_succ])
      refine wpAnyH_take (i := 4) (v := ?_) rfl (by kernel_rfl) (by kernel_rfl) (by kernel_rfl) (fun _ _ _ h => h) (Or.inl ⟨by rfl, ?_⟩) (by assumption) ?_
      rotate_left
      focus (intro wq hSq; (try dsimp only at hSq); go_simp; first | done | (with_reducible rfl))
      (try simp only [Act.put, List.getElem_toArray, List.getElem_cons_succ, List.getElem_cons_zero, List.setIfInBounds_toArray, List.set_cons_zero, List.set_cons_succ])
      refine wpAnyH_take (i := 5) (v := ?_) rfl (by kernel_rfl) (by kernel_rfl) (by kernel_rfl) (fun _ _ _ h => h) (Or.inl ⟨by rfl, ?_⟩) (by assumption) ?_
      rotate_left
      focus (intro wq hSq; (try dsimp only at hSq); go_simp; first | done | (with_reducible rfl))
      (try simp only [Act.put, List.getElem_toArray, List.getElem_cons_succ, List.getElem_cons_zero, List.setIfInBounds_toArray, List.set_cons_zero, List.set_cons_succ])
      refine wpAnyH_take (i := 6) (v := ?_) rfl (by kernel_rfl) (by kernel_rfl) (by kernel_rfl) (fun _ _ _ h => h) (Or.inl ⟨by rfl, ?_⟩) (by assumption) ?_
      rotate_left
      focus (intro wq hSq; (try dsimp only at hSq); go_simp; first | done | (with_reducible rfl))
      (try simp only [Act.put, List.getElem_toArray, List.getElem_cons_succ, List.getElem_cons_zero, List.setIfInBounds_toArray, List.set_cons_zero, List.set_cons_succ])
      refine wpAnyH_ready (rs := [3]) (by kernel_rfl) (by simp) ?_
      refine AllReadyH.cons rfl (fun K hK => ?_) AllReadyH.nil
      rw [if_pos (by rfl)]
      go_simp
      refine (test_any _ _ _ _ _ _).mono ?_
      rintro e wr ⟨rfl, hbr⟩
      obtain ⟨hcr, hfr, hzr, hBr⟩ := after (a := w5) (B := w5.heap.size) (w5.heap.size) hbr (by first | (with_reducible assumption) | (simp; done) | omega | (simp; omega)) (by repeat' (first | (with_reducible exact Below.refl _ _) | (with_reducible assumption) | (with_reducible refine drewN_below ?_ _) | (with_reducible refine Below.drew ?_) | (with_reducible refine Below.alloc ?_ ?_ _) | (with_reducible refine Below.setCell ?_ ?_ _) | (simp; done) | omega | (simp; omega))) (by omega)
      have yA := Nat.lt_of_lt_of_le xA hzr
      have yB := Nat.lt_of_lt_of_le xB hzr
      rw [hv.out]
      dsimp only
      refine hK.out _ _ ?_ (fun hHeld => ?_)
      · (refine ⟨?_, ?_, ?_, ?_, ?_, ?_⟩ <;> first | assumption | ((repeat' (first | (with_reducible exact Below.refl _ _) | (with_reducible assumption) | (with_reducible refine drewN_below ?_ _) | (with_reducible refine Below.drew ?_) | (with_reducible refine Below.alloc ?_ ?_ _) | (with_reducible refine Below.setCell ?_ ?_ _) | (simp; done) | omega | (simp; omega))); done) | (simp [*]; done) | (simp [go_sem, *]; done) | (simp; omega))
      clear hK K
      (try simp only [Act.put, List.getElem_toArray, List.getElem_cons_succ, List.getElem_cons_zero, List.setIfInBounds_toArray, List.set_cons_zero, List.set_cons_succ])
      refine wpAnyH_ready (rs := [7]) (by kernel_rfl) (by simp) ?_
      refine AllReadyH.cons rfl (fun K hK => ?_) AllReadyH.nil
      rw [if_pos (by rfl)]
      go_simp
      refine (rtest_any _ _ _ _ _ _).mono ?_
      rintro e wr ⟨rfl, hbr⟩
      obtain ⟨hcr, hfr, hzr, hBr⟩ := after (a := w5) (B := w5.heap.size) (w5.heap.size) hbr (by first | (with_reducible assumption) | (simp; done) | omega | (simp; omega)) (by repeat' (first | (with_reducible exact Below.refl _ _) | (with_reducible assumption) | (with_reducible refine drewN_below ?_ _) | (with_reducible refine Below.drew ?_) | (with_reducible refine Below.alloc ?_ ?_ _) | (with_reducible refine Below.setCell ?_ ?_ _) | (simp; done) | omega | (simp; omega))) (by omega)
      have yA := Nat.lt_of_lt_of_le xA hzr
      have yB := Nat.lt_of_lt_of_le xB hzr
      rw [hv.out]
      dsimp only
      refine hK.out _ _ ?_ (fun hHeld => ?_)
      · (refine ⟨?_, ?_, ?_, ?_, ?_, ?_⟩ <;> first | assumption | ((repeat' (first | (with_reducible exact Below.refl _ _) | (with_reducible assumption) | (with_reducible refine drewN_below ?_ _) | (with_reducible refine Below.drew ?_) | (with_reducible refine Below.alloc ?_ ?_ _) | (with_reducible refine Below.setCell ?_ ?_ _) | (simp; done) | omega | (simp; omega))); done) | (simp [*]; done) | (simp [go_sem, *]; done) | (simp; omega))
      clear hK K
      (try simp only [Act.put, List.getElem_toArray, List.getElem_cons_succ, List.getElem_cons_zero, List.setIfInBounds_toArray, List.set_cons_zero, List.set_cons_succ])
      refine wpAnyH_take (i := 8) (v := ?_) rfl (by kernel_rfl) (by kernel_rfl) (by kernel_rfl) (fun _ _ _ h => h) (Or.inl ⟨by rfl, ?_⟩) (by assumption) ?_
      rotate_left
      focus (intro wq hSq; (try dsimp only at hSq); go_simp; first | done | (with_reducible rfl))
      (try simp only [Act.put, List.getElem_toArray, List.getElem_cons_succ, List.getElem_cons_zero, List.setIfInBounds_toArray, List.set_cons_zero, List.set_cons_succ])
      refine wpAnyH_done (by kernel_rfl) ?_ _
      obtain ⟨s0, s1, s2, s3, s4, s5⟩ := (by assumption : wr.cell? ⟨w.heap.size, 0, none⟩ = some (.int .i64 an) ∧ wr.cell? ⟨w.heap.size, 1, none⟩ = some (.int .i64 ad) ∧ wr.cell? ⟨w.heap.size + 1, 0, none⟩ = some (.int .i64 bn) ∧ wr.cell? ⟨w.heap.size + 1, 1, none⟩ = some (.int .i64 bd) ∧ w5.heap.size ≤ wr.heap.size ∧ Below w5.heap.size w5 wr)
      have cA0w6 := s0
      have cA1w6 := s1
      have cB0w6 := s2
      have cB1w6 := s3
      have bAw6 : w.heap.size < wr.heap.size := Nat.lt_of_lt_of_le xA s4
      have dAw6 : w.heap.size < wr.heap.size + 1 := Nat.lt_succ_of_lt bAw6
      have bBw6 : w.heap.size + 1 < wr.heap.size := Nat.lt_of_lt_of_le xB s4
      have dBw6 : w.heap.size + 1 < wr.heap.size + 1 := Nat.lt_succ_of_lt bBw6
      have hBw6 : Below w.heap.size w wr := Below.trans hBw5 (s5.mono hBw5.size)
      have zw6 : w.heap.size ≤ wr.heap.size := hBw6.size
      have hkeep : Below w5.heap.size w5 wr := s5
      clear s0 s1 s2 s3 s4 s5 xA xB hcr hfr hzr hBr hbr
      repeat (clear hcr hfr hzr hBr hbr)
      skip
      obtain ⟨w6, ew6⟩ : ∃ x, x = wr := ⟨_, rfl⟩
      subst ew6
      go_wp2
      go_roundw
      case rel => exact ⟨k + 1, by go_num, by omega, HL.out.on (by repeat' (first | (with_reducible exact Below.refl _ _) | (with_reducible assumption) | (with_reducible refine drewN_below ?_ _) | (with_reducible refine Below.drew ?_) | (with_reducible refine Below.alloc ?_ ?_ _) | (with_reducible refine Below.setCell ?_ ?_ _) | (simp; done) | omega | (simp; omega)))⟩
      case measure => simp [intOf]; omega
    · have hk5 : ¬ (k : Int) < 5 := by omega
      clear hs hk hlt
      clear hS HL
      obtain ⟨w2, hw2⟩ : ∃ x, x = wr := ⟨_, rfl⟩
      subst hw2
      have xA : w.heap.size < w2.heap.size := Nat.lt_of_succ_lt hz
      go_wp2
      go_loopw [31] (fun t wr => ∃ k : Nat, t = .int .i64 k ∧ k ≤ 6 ∧ Laid w wr w2.heap.size 6 an ad bn bd) (fun t _ => 6 - (intOf t).toNat)
      case atStart =>
        refine ⟨0, by first | rfl | go_num, by omega, ?_⟩
        refine ⟨by simp [go_sem, *], by simp [go_sem, *], by simp [go_sem, *], by simp [go_sem, *], fun i hi => ?_, by first | (simp; done) | (simp; omega), by first | (simp; done) | (simp; omega), (by repeat' (first | (with_reducible exact Below.refl _ _) | (with_reducible assumption) | (with_reducible refine drewN_below ?_ _) | (with_reducible refine Below.drew ?_) | (with_reducible refine Below.alloc ?_ ?_ _) | (with_reducible refine Below.setCell ?_ ?_ _) | (simp; done) | omega | (simp; omega)))⟩
        have hi' : i = 0 ∨ i = 1 ∨ i = 2 ∨ i = 3 ∨ i = 4 ∨ i = 5 := by omega
        rcases hi' with rfl | rfl | rfl | rfl | rfl | rfl
        · exact ⟨s, by simp [go_sem]⟩
        · exact ⟨⟨#[97, 110, 100]⟩, by simp [go_sem]⟩
        · exact ⟨⟨#[111, 114]⟩, by simp [go_sem]⟩
        · exact ⟨⟨#[120, 111, 114]⟩, by simp [go_sem]⟩
        · exact ⟨⟨#[115, 104, 108]⟩, by simp [go_sem]⟩
        · exact ⟨⟨#[115, 104, 114]⟩, by simp [go_sem]⟩
      case round =>
        obtain ⟨k, rfl, hk, hlaid⟩ := hrel
        have HL := Lib.hid hlaid
        obtain ⟨a0, a1, b0, b1, hs, hz, hS, hB⟩ := hlaid
        by_cases hlt : k < 6
        · obtain ⟨t, ht⟩ := hs k hlt
          clear hs
          obtain ⟨x, y, hv⟩ : ∃ x y, Hid (Q.bts t.toList (an, ad) (bn, bd) = (x, y)) := ⟨_, _, rfl⟩
          have hlt' : (k : Int) < 6 := by omega
          have xA : w.heap.size < wr.heap.size := Nat.lt_of_succ_lt hz
          go_wp2
          obtain ⟨w5, e5⟩ : ∃ x, x = wr := ⟨_, rfl⟩
          subst e5
          have hBw5 := hB
          have xA : w.heap.size < w5.heap.size := by omega
          have xB : w.heap.size + 1 < w5.heap.size := by omega
          refine wp_region_held_drew (S := (fun w' => w'.cell? ⟨w.heap.size, 0, none⟩ = some (.int .i64 an) ∧ w'.cell? ⟨w.heap.size, 1, none⟩ = some (.int .i64 ad) ∧ w'.cell? ⟨w.heap.size + 1, 0, none⟩ = some (.int .i64 bn) ∧ w'.cell? ⟨w.heap.size + 1, 1, none⟩ = some (.int .i64 bd) ∧ w5.heap.size ≤ w'.heap.size ∧ Below w5.heap.size w5 w')) (by kernel_rfl) ?_ ?_
          · (refine ⟨?_, ?_, ?_, ?_, ?_, ?_⟩ <;> first | assumption | ((repeat' (first | (with_reducible exact Below.refl _ _) | (with_reducible assumption) | (with_reducible refine drewN_below ?_ _) | (with_reducible refine Below.drew ?_) | (with_reducible refine Below.alloc ?_ ?_ _) | (with_reducible refine Below.setCell ?_ ?_ _) | (simp; done) | omega | (simp; omega))); done) | (simp [*]; done) | (simp [go_sem, *]; done) | (simp; omega))
          intro hH0
          refine wpAnyH_take (i := 0) (v := ?_) rfl (by kernel_rfl) (by kernel_rfl) (by kernel_rfl) (fun _ _ _ h => h) (Or.inl ⟨by rfl, ?_⟩) (by assumption) ?_
          rotate_left
          focus (intro wq hSq; (try dsimp only at hSq); go_simp; first | done | (with_reducible rfl))
          (try simp only [Act.put, List.getElem_toArray, List.getElem_cons_zero, List.setIfInBounds_toArray, List.set_cons_zero, List.set_cons_succ])
          refine wpAnyH_take (i := 1) (v := ?_) rfl (by kernel_rfl) (by kernel_rfl) (by kernel_rfl) (fun _ _ _ h => h) (Or.inl ⟨by rfl, ?_⟩) (by assumption) ?_
          rotate_left
          focus (intro wq hSq; (try dsimp only at hSq); go_simp; first | done | (with_reducible rfl))
          (try simp only [Act.put, List.getElem_toArray, List.getElem_cons_succ, List.getElem_cons_zero, List.setIfInBounds_toArray, List.set_cons_zero, List.set_cons_succ])
          refine wpAnyH_take (i := 2) (v := ?_) rfl (by kernel_rfl) (by kernel_rfl) (by kernel_rfl) (fun _ _ _ h => h) (Or.inl ⟨by rfl, ?_⟩) (by assumption) ?_
          rotate_left
          focus (intro wq hSq; (try dsimp only at hSq); go_simp; first | done | (with_reducible rfl))
          (try simp only [Act.put, List.getElem_toArray, List.getElem_cons_succ, List.getElem_cons_zero, List.setIfInBounds_toArray, List.set_cons_zero, List.set_cons_succ])
          refine wpAnyH_take (i := 4) (v := ?_) rfl (by kernel_rfl) (by kernel_rfl) (by kernel_rfl) (fun _ _ _ h => h) (Or.inl ⟨by rfl, ?_⟩) (by assumption) ?_
          rotate_left
          focus (intro wq hSq; (try dsimp only at hSq); go_simp; first | done | (with_reducible rfl))
          (try simp only [Act.put, List.getElem_toArray, List.getElem_cons_succ, List.getElem_cons_zero, List.setIfInBounds_toArray, List.set_cons_zero, List.set_cons_succ])
          refine wpAnyH_take (i := 5) (v := ?_) rfl (by kernel_rfl) (by kernel_rfl) (by kernel_rfl) (fun _ _ _ h => h) (Or.inl ⟨by rfl, ?_⟩) (by assumption) ?_
          rotate_left
          focus (intro wq hSq; (try dsimp only at hSq); go_simp; first | done | (with_reducible rfl))
          (try simp only [Act.put, List.getElem_toArray, List.getElem_cons_succ, List.getElem_cons_zero, List.setIfInBounds_toArray, List.set_cons_zero, List.set_cons_succ])
          refine wpAnyH_take (i := 6) (v := ?_) rfl (by kernel_rfl) (by kernel_rfl) (by kernel_rfl) (fun _ _ _ h => h) (Or.inl ⟨by rfl, ?_⟩) (by assumption) ?_
          rotate_left
          focus (intro wq hSq; (try dsimp only at hSq); go_simp; first | done | (with_reducible rfl))
          (try simp only [Act.put, List.getElem_toArray, List.getElem_cons_succ, List.getElem_cons_zero, List.setIfInBounds_toArray, List.set_cons_zero, List.set_cons_succ])
          refine wpAnyH_ready (rs := [3]) (by kernel_rfl) (by simp) ?_
          refine AllReadyH.cons rfl (fun K hK => ?_) AllReadyH.nil
          rw [if_pos (by rfl)]
          go_simp
          refine (bits_any _ _ _ _ _ _).mono ?_
          rintro e wr ⟨rfl, hbr⟩
          obtain ⟨hcr, hfr, hzr, hBr⟩ := after (a := w5) (B := w5.heap.size) (w5.heap.size) hbr (by first | (with_reducible assumption) | (simp; done) | omega | (simp; omega)) (by repeat' (first | (with_reducible exact Below.refl _ _) | (with_reducible assumption) | (with_reducible refine drewN_below ?_ _) | (with_reducible refine Below.drew ?_) | (with_reducible refine Below.alloc ?_ ?_ _) | (with_reducible refine Below.setCell ?_ ?_ _) | (simp; done) | omega | (simp; omega))) (by omega)
          have yA := Nat.lt_of_lt_of_le xA hzr
          have yB := Nat.lt_of_lt_of_le xB hzr
          rw [hv.out]
          dsimp only
          refine hK.out _ _ ?_ (fun hHeld => ?_)
          · (refine ⟨?_, ?_, ?_, ?_, ?_, ?_⟩ <;> first | assumption | ((repeat' (first | (with_reducible exact Below.refl _ _) | (with_reducible assumption) | (with_reducible refine drewN_below ?_ _) | (with_reducible refine Below.drew ?_) | (with_reducible refine Below.alloc ?_ ?_ _) | (with_reducible refine Below.setCell ?_ ?_ _) | (simp; done) | omega | (simp; omega))); done) | (simp [*]; done) | (simp [go_sem, *]; done) | (simp; omega))
          clear hK K
          (try simp only [Act.put, List.getElem_toArray, List.getElem_cons_succ, List.getElem_cons_zero, List.setIfInBounds_toArray, List.set_cons_zero, List.set_cons_succ])
          refine wpAnyH_ready (rs := [7]) (by kernel_rfl) (by simp) ?_
          refine AllReadyH.cons rfl (fun K hK => ?_) AllReadyH.nil
          rw [if_pos (by rfl)]
          go_simp
          refine (rbits_any _ _ _ _ _ _).mono ?_
          rintro e wr ⟨rfl, hbr⟩
          obtain ⟨hcr, hfr, hzr, hBr⟩ := after (a := w5) (B := w5.heap.size) (w5.heap.size) hbr (by first | (with_reducible assumption) | (simp; done) | omega | (simp; omega)) (by repeat' (first | (with_reducible exact Below.refl _ _) | (with_reducible assumption) | (with_reducible refine drewN_below ?_ _) | (with_reducible refine Below.drew ?_) | (with_reducible refine Below.alloc ?_ ?_ _) | (with_reducible refine Below.setCell ?_ ?_ _) | (simp; done) | omega | (simp; omega))) (by omega)
          have yA := Nat.lt_of_lt_of_le xA hzr
          have yB := Nat.lt_of_lt_of_le xB hzr
          rw [hv.out]
          dsimp only
          refine hK.out _ _ ?_ (fun hHeld => ?_)
          · (refine ⟨?_, ?_, ?_, ?_, ?_, ?_⟩ <;> first | assumption | ((repeat' (first | (with_reducible exact Below.refl _ _) | (with_reducible assumption) | (with_reducible refine drewN_below ?_ _) | (with_reducible refine Below.drew ?_) | (with_reducible refine Below.alloc ?_ ?_ _) | (with_reducible refine Below.setCell ?_ ?_ _) | (simp; done) | omega | (simp; omega))); done) | (simp [*]; done) | (simp [go_sem, *]; done) | (simp; omega))
          clear hK K
          (try simp only [Act.put, List.getElem_toArray, List.getElem_cons_succ, List.getElem_cons_zero, List.setIfInBounds_toArray, List.set_cons_zero, List.set_cons_succ])
          refine wpAnyH_take (i := 8) (v := ?_) rfl (by kernel_rfl) (by kernel_rfl) (by kernel_rfl) (fun _ _ _ h => h) (Or.inl ⟨by rfl, ?_⟩) (by assumption) ?_
          rotate_left
          focus (intro wq hSq; (try dsimp only at hSq); go_simp; first | done | (with_reducible rfl))
          (try simp only [Act.put, List.getElem_toArray, List.getElem_cons_succ, List.getElem_cons_zero, List.setIfInBounds_toArray, List.set_cons_zero, List.set_cons_succ])
          refine wpAnyH_done (by kernel_rfl) ?_ _
          obtain ⟨s0, s1, s2, s3, s4, s5⟩ := (by assumption : wr.cell? ⟨w.heap.size, 0, none⟩ = some (.int .i64 an) ∧ wr.cell? ⟨w.heap.size, 1, none⟩ = some (.int .i64 ad) ∧ wr.cell? ⟨w.heap.size + 1, 0, none⟩ = some (.int .i64 bn) ∧ wr.cell? ⟨w.heap.size + 1, 1, none⟩ = some (.int .i64 bd) ∧ w5.heap.size ≤ wr.heap.size ∧ Below w5.heap.size w5 wr)
          have cA0w6 := s0
          have cA1w6 := s1
          have cB0w6 := s2
          have cB1w6 := s3
          have bAw6 : w.heap.size < wr.heap.size := Nat.lt_of_lt_of_le xA s4
          have dAw6 : w.heap.size < wr.heap.size + 1 := Nat.lt_succ_of_lt bAw6
          have bBw6 : w.heap.size + 1 < wr.heap.size := Nat.lt_of_lt_of_le xB s4
          have dBw6 : w.heap.size + 1 < wr.heap.size + 1 := Nat.lt_succ_of_lt bBw6
          have hBw6 : Below w.heap.size w wr := Below.trans hBw5 (s5.mono hBw5.size)
          have zw6 : w.heap.size ≤ wr.heap.size := hBw6.size
          have hkeep : Below w5.heap.size w5 wr := s5
          clear s0 s1 s2 s3 s4 s5 xA xB hcr hfr hzr hBr hbr
          repeat (clear hcr hfr hzr hBr hbr)
          skip
          obtain ⟨w6, ew6⟩ : ∃ x, x = wr := ⟨_, rfl⟩
          subst ew6
          go_wp2
          go_roundw
          case rel => exact ⟨k + 1, by go_num, by omega, HL.out.on (by repeat' (first | (with_reducible exact Below.refl _ _) | (with_reducible assumption) | (with_reducible refine drewN_below ?_ _) | (with_reducible refine Below.drew ?_) | (with_reducible refine Below.alloc ?_ ?_ _) | (with_reducible refine Below.setCell ?_ ?_ _) | (simp; done) | omega | (simp; omega)))⟩
          case measure => simp [intOf]; omega
        · have hk5 : ¬ (k : Int) < 6 := by omega
          clear hs hk hlt
          clear hS HL
          go_wp2_with fail
          refine (awake_any _).mono ?_
          rintro e w3 ⟨rfl, hb3⟩
          have hB3 : Below w.heap.size w w3 := on_below hb3 (by repeat' (first | (with_reducible exact Below.refl _ _) | (with_reducible assumption) | (with_reducible refine drewN_below ?_ _) | (with_reducible refine Below.drew ?_) | (with_reducible refine Below.alloc ?_ ?_ _) | (with_reducible refine Below.setCell ?_ ?_ _) | (simp; done) | omega | (simp; omega))) (by first | exact hB.size | (simp; omega))
          go_wp2
          go_ret
          exact ⟨rfl, (by repeat' (first | (with_reducible exact Below.refl _ _) | (with_reducible assumption) | (with_reducible refine drewN_below ?_ _) | (with_reducible refine Below.drew ?_) | (with_reducible refine Below.alloc ?_ ?_ _) | (with_reducible refine Below.setCell ?_ ?_ _) | (simp; done) | omega | (simp; omega)))⟩

end Go.Proofs.Ytpoalckncfkdgaa
