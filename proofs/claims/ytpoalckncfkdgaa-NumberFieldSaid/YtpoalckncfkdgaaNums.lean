/-
  The laws' own 'numbers', of whatever list.
-/
import Derived.Test.YtpoalckncfkdgaaOpsd
namespace Go.Proofs.Ytpoalckncfkdgaa
open Go.RowKit
theorem all_no {qs : List (Int × Int)} {k : Nat} (hk : k < qs.length) (h : Q.isq (qs.getD k (0, 0)).1 (qs.getD k (0, 0)).2 = false) : (qs.all fun q => Q.isq q.1 q.2) = false := by
  rw [List.all_eq_false]
  refine ⟨qs.getD k (0, 0), ?_, by simpa using h⟩
  rw [List.getD_eq_getElem?_getD, List.getElem?_eq_getElem hk]; exact List.getElem_mem hk
theorem all_yes {qs : List (Int × Int)} (h : ∀ i, i < qs.length → Q.isq (qs.getD i (0, 0)).1 (qs.getD i (0, 0)).2 = true) : (qs.all fun q => Q.isq q.1 q.2) = true := by
  rw [List.all_eq_true]
  intro q hq
  obtain ⟨i, hi, rfl⟩ := List.getElem_of_mem hq
  have := h i hi
  rw [List.getD_eq_getElem?_getD, List.getElem?_eq_getElem hi] at this
  exact this

set_option maxRecDepth 100000 in
set_option maxHeartbeats 1600000 in
theorem numbers_any (qs : List (Int × Int)) (b off cap : Nat) (w : World) (hcap : qs.length ≤ cap) (hmax : cap ≤ 9223372036854775807)
    (hq : ∀ i, i < qs.length → w.cell? ⟨b, off + i * 2, none⟩ = some (.int .i64 (qs.getD i (0, 0)).1) ∧ w.cell? ⟨b, off + i * 2 + 1, none⟩ = some (.int .i64 (qs.getD i (0, 0)).2)) (hb : b < w.heap.size) :
    Calls Try.prog 50 #[.slice (some ⟨b, off, none⟩) qs.length cap] w fun e w' => e = .returned (.bool (qs.all fun q => Q.isq q.1 q.2)) ∧ Below w.heap.size w w' := by
  obtain ⟨N, hN⟩ : ∃ N, N = qs.length := ⟨_, rfl⟩
  obtain ⟨r, hr⟩ : ∃ r, (qs.all fun q => Q.isq q.1 q.2) = r := ⟨_, rfl⟩
  rw [hr, ← hN]
  have HR := Lib.hid hr
  rw [← hN] at hcap hq
  have HN := Lib.hid hN
  have HQ := Lib.hid hq
  clear hr hN hq
  go_enter Try.func50, Try.ntmps50
  go_wp2
  go_loopw [7] (fun t wr => ∃ k : Nat, t = .int .i64 k ∧ k ≤ N ∧ Hid (∀ i, i < k → Q.isq (qs.getD i (0, 0)).1 (qs.getD i (0, 0)).2 = true) ∧ Below w.heap.size w wr) (fun t _ => N - (intOf t).toNat)
  case atStart => exact ⟨0, rfl, Nat.zero_le _, fun i h => absurd h (Nat.not_lt_zero _), Below.refl _ _⟩
  case round =>
    obtain ⟨k, rfl, hk, hall, hbel⟩ := hrel
    by_cases hlt : k < N
    · have hlt' : (k : Int) < (N : Int) := by omega
      obtain ⟨c1, c2⟩ := HQ.out k hlt
      obtain ⟨x, hx⟩ : ∃ x, (qs.getD k (0, 0)).1 = x := ⟨_, rfl⟩
      obtain ⟨y, hy⟩ : ∃ y, (qs.getD k (0, 0)).2 = y := ⟨_, rfl⟩
      rw [hx] at c1
      rw [hy] at c2
      have d1 := (hbel.cell (p := ⟨b, off + k * 2, none⟩) hb).trans c1
      have d2 := (hbel.cell (p := ⟨b, off + k * 2 + 1, none⟩) hb).trans c2
      clear c1 c2
      have HX := Lib.hid hx
      have HY := Lib.hid hy
      clear hx hy
      have hszr := hbel.size
      cases hi : Q.isq x y
      · have hrf : r = false := by rw [← HR.out]; exact all_no (k := k) (by have := HN.out; omega) (by rw [HX.out, HY.out]; exact hi)
        subst hrf
        go_wp2_with fail
        refine (is_any _ _ _).mono ?_
        rintro e w2 ⟨rfl, hb2⟩
        rw [hi]
        have hB2 : Below w.heap.size w w2 := on_below hb2 (by repeat' (first | (with_reducible exact Below.refl _ _) | (with_reducible assumption) | (with_reducible refine drewN_below ?_ _) | (with_reducible refine Below.drew ?_) | (with_reducible refine Below.alloc ?_ ?_ _) | (with_reducible refine Below.setCell ?_ ?_ _) | (simp; done) | omega | (simp; omega))) (by have := hbel.size; simp; omega)
        go_wp2
        go_ret
        exact ⟨rfl, hB2⟩
      · go_wp2_with fail
        refine (is_any _ _ _).mono ?_
        rintro e w2 ⟨rfl, hb2⟩
        rw [hi]
        have hB2 : Below w.heap.size w w2 := on_below hb2 (by repeat' (first | (with_reducible exact Below.refl _ _) | (with_reducible assumption) | (with_reducible refine drewN_below ?_ _) | (with_reducible refine Below.drew ?_) | (with_reducible refine Below.alloc ?_ ?_ _) | (with_reducible refine Below.setCell ?_ ?_ _) | (simp; done) | omega | (simp; omega))) (by have := hbel.size; simp; omega)
        clear hb2 hbel hszr d1 d2
        go_wp2
        go_roundw
        case rel => exact ⟨k + 1, by go_num, by omega, fun i h => by rcases Nat.lt_succ_iff_lt_or_eq.1 h with h | rfl; exact hall.out i h; rw [HX.out, HY.out]; exact hi, hB2⟩
        case measure => simp [intOf]; omega
    · have hrt : r = true := by rw [← HR.out]; exact all_yes fun i h => hall.out i (by have := HN.out; omega)
      subst hrt
      go_wp2
      go_ret
      exact ⟨rfl, hbel⟩
end Go.Proofs.Ytpoalckncfkdgaa
