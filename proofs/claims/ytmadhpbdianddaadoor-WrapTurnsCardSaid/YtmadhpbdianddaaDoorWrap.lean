/-
  The law on whole turns: the walk.
-/
import Derived.Test.YtmadhpbdianddaaDoorZk
import Derived.Test.YtmadhpbdianddaaDoorVt
namespace Go.Proofs.YtmadhpbdianddaaDoor
open Go.RowKit
set_option maxRecDepth 100000 in
set_option maxHeartbeats 16000000 in
theorem wrapturns_any (k r o : ByteArray) (I F : Int) (an ad c : Int) (hI : -9223372036854775808 ≤ I ∧ I ≤ 9223372036854775807) (hF : -9223372036854775808 ≤ F ∧ F ≤ 9223372036854775807) (hc : -9223372036854775808 ≤ c ∧ c ≤ 9223372036854775807) (w : World) :
    Calls Tryd.prog 6 #[.agg #[.string k, .int .i64 I, .int .i64 F, .string r, .string o], .agg #[.int .i64 an, .int .i64 ad], .int .i64 c] w fun e w' => e = .returned (.bool true) ∧ Below w.heap.size w w' := by
  cases hk : (k.toList == [102, 105, 120])
  · go_enter Tryd.func6, Tryd.ntmps6
    go_wp2_with fail
    refine (awake_any _).mono ?_
    rintro e w1 ⟨rfl, hw1⟩
    have hmw1 : Below w.heap.size w w1 := on_below hw1 (by repeat' (first | (with_reducible exact Below.refl _ _) | (with_reducible assumption) | (with_reducible refine drewN_below ?_ _) | (with_reducible refine Below.drew ?_) | (with_reducible refine Below.alloc ?_ ?_ _) | (with_reducible refine Below.setCell ?_ ?_ _) | (simp; done) | omega | (simp; omega))) (by first | (with_reducible assumption) | (simp; done) | omega | (simp; omega))
    have cG0w1 : w1.cell? ⟨w.heap.size, 0, none⟩ = some (.string k) := by rw [hw1.cell (p := ⟨w.heap.size, 0, none⟩) (by first | (with_reducible assumption) | (simp; done) | omega | (simp; omega))]; simp [go_sem]
    have cG1w1 : w1.cell? ⟨w.heap.size, 1, none⟩ = some (.int .i64 I) := by rw [hw1.cell (p := ⟨w.heap.size, 1, none⟩) (by first | (with_reducible assumption) | (simp; done) | omega | (simp; omega))]; simp [go_sem]
    have cG2w1 : w1.cell? ⟨w.heap.size, 2, none⟩ = some (.int .i64 F) := by rw [hw1.cell (p := ⟨w.heap.size, 2, none⟩) (by first | (with_reducible assumption) | (simp; done) | omega | (simp; omega))]; simp [go_sem]
    have cG3w1 : w1.cell? ⟨w.heap.size, 3, none⟩ = some (.string r) := by rw [hw1.cell (p := ⟨w.heap.size, 3, none⟩) (by first | (with_reducible assumption) | (simp; done) | omega | (simp; omega))]; simp [go_sem]
    have cG4w1 : w1.cell? ⟨w.heap.size, 4, none⟩ = some (.string o) := by rw [hw1.cell (p := ⟨w.heap.size, 4, none⟩) (by first | (with_reducible assumption) | (simp; done) | omega | (simp; omega))]; simp [go_sem]
    have bGw1 : w.heap.size < w1.heap.size := by have := hw1.size; first | omega | (simp at this; omega)
    have dGw1 : w.heap.size < w1.heap.size + 1 := Nat.lt_succ_of_lt bGw1
    have cA0w1 : w1.cell? ⟨w.heap.size + 1, 0, none⟩ = some (.int .i64 an) := by rw [hw1.cell (p := ⟨w.heap.size + 1, 0, none⟩) (by first | (with_reducible assumption) | (simp; done) | omega | (simp; omega))]; simp [go_sem]
    have cA1w1 : w1.cell? ⟨w.heap.size + 1, 1, none⟩ = some (.int .i64 ad) := by rw [hw1.cell (p := ⟨w.heap.size + 1, 1, none⟩) (by first | (with_reducible assumption) | (simp; done) | omega | (simp; omega))]; simp [go_sem]
    have bAw1 : w.heap.size + 1 < w1.heap.size := by have := hw1.size; first | omega | (simp at this; omega)
    have dAw1 : w.heap.size + 1 < w1.heap.size + 1 := Nat.lt_succ_of_lt bAw1
    have hBw1 : Below w.heap.size w w1 := hmw1
    have zw1 : w.heap.size ≤ w1.heap.size := hBw1.size
    clear hmw1 hw1
    go_wp2
    go_ret
    exact ⟨rfl, (by repeat' (first | (with_reducible exact Below.refl _ _) | (with_reducible assumption) | (with_reducible refine drewN_below ?_ _) | (with_reducible refine Below.drew ?_) | (with_reducible refine Below.alloc ?_ ?_ _) | (with_reducible refine Below.setCell ?_ ?_ _) | (simp; done) | omega | (simp; omega)))⟩
  · cases hv : Z.vld k r o I F
    · go_enter Tryd.func6, Tryd.ntmps6
      go_wp2_with fail
      refine (valid_any _ _ _ _ _ hI hF _).mono ?_
      rintro e w1 ⟨rfl, hw1⟩
      have hmw1 : Below w.heap.size w w1 := on_below hw1 (by repeat' (first | (with_reducible exact Below.refl _ _) | (with_reducible assumption) | (with_reducible refine drewN_below ?_ _) | (with_reducible refine Below.drew ?_) | (with_reducible refine Below.alloc ?_ ?_ _) | (with_reducible refine Below.setCell ?_ ?_ _) | (simp; done) | omega | (simp; omega))) (by first | (with_reducible assumption) | (simp; done) | omega | (simp; omega))
      have cG0w1 : w1.cell? ⟨w.heap.size, 0, none⟩ = some (.string k) := by rw [hw1.cell (p := ⟨w.heap.size, 0, none⟩) (by first | (with_reducible assumption) | (simp; done) | omega | (simp; omega))]; simp [go_sem]
      have cG1w1 : w1.cell? ⟨w.heap.size, 1, none⟩ = some (.int .i64 I) := by rw [hw1.cell (p := ⟨w.heap.size, 1, none⟩) (by first | (with_reducible assumption) | (simp; done) | omega | (simp; omega))]; simp [go_sem]
      have cG2w1 : w1.cell? ⟨w.heap.size, 2, none⟩ = some (.int .i64 F) := by rw [hw1.cell (p := ⟨w.heap.size, 2, none⟩) (by first | (with_reducible assumption) | (simp; done) | omega | (simp; omega))]; simp [go_sem]
      have cG3w1 : w1.cell? ⟨w.heap.size, 3, none⟩ = some (.string r) := by rw [hw1.cell (p := ⟨w.heap.size, 3, none⟩) (by first | (with_reducible assumption) | (simp; done) | omega | (simp; omega))]; simp [go_sem]
      have cG4w1 : w1.cell? ⟨w.heap.size, 4, none⟩ = some (.string o) := by rw [hw1.cell (p := ⟨w.heap.size, 4, none⟩) (by first | (with_reducible assumption) | (simp; done) | omega | (simp; omega))]; simp [go_sem]
      have bGw1 : w.heap.size < w1.heap.size := by have := hw1.size; first | omega | (simp at this; omega)
      have dGw1 : w.heap.size < w1.heap.size + 1 := Nat.lt_succ_of_lt bGw1
      have cA0w1 : w1.cell? ⟨w.heap.size + 1, 0, none⟩ = some (.int .i64 an) := by rw [hw1.cell (p := ⟨w.heap.size + 1, 0, none⟩) (by first | (with_reducible assumption) | (simp; done) | omega | (simp; omega))]; simp [go_sem]
      have cA1w1 : w1.cell? ⟨w.heap.size + 1, 1, none⟩ = some (.int .i64 ad) := by rw [hw1.cell (p := ⟨w.heap.size + 1, 1, none⟩) (by first | (with_reducible assumption) | (simp; done) | omega | (simp; omega))]; simp [go_sem]
      have bAw1 : w.heap.size + 1 < w1.heap.size := by have := hw1.size; first | omega | (simp at this; omega)
      have dAw1 : w.heap.size + 1 < w1.heap.size + 1 := Nat.lt_succ_of_lt bAw1
      have hBw1 : Below w.heap.size w w1 := hmw1
      have zw1 : w.heap.size ≤ w1.heap.size := hBw1.size
      clear hmw1 hw1
      rw [hv]
      go_wp2_with fail
      refine (awake_any _).mono ?_
      rintro e w2 ⟨rfl, hw2⟩
      have hmw2 : Below w1.heap.size w1 w2 := on_below hw2 (by repeat' (first | (with_reducible exact Below.refl _ _) | (with_reducible assumption) | (with_reducible refine drewN_below ?_ _) | (with_reducible refine Below.drew ?_) | (with_reducible refine Below.alloc ?_ ?_ _) | (with_reducible refine Below.setCell ?_ ?_ _) | (simp; done) | omega | (simp; omega))) (by first | (with_reducible assumption) | (simp; done) | omega | (simp; omega))
      have cG0w2 := (hmw2.cell (p := ⟨w.heap.size, 0, none⟩) bGw1).trans cG0w1
      have cG1w2 := (hmw2.cell (p := ⟨w.heap.size, 1, none⟩) bGw1).trans cG1w1
      have cG2w2 := (hmw2.cell (p := ⟨w.heap.size, 2, none⟩) bGw1).trans cG2w1
      have cG3w2 := (hmw2.cell (p := ⟨w.heap.size, 3, none⟩) bGw1).trans cG3w1
      have cG4w2 := (hmw2.cell (p := ⟨w.heap.size, 4, none⟩) bGw1).trans cG4w1
      have bGw2 : w.heap.size < w2.heap.size := Nat.lt_of_lt_of_le bGw1 hmw2.size
      have dGw2 : w.heap.size < w2.heap.size + 1 := Nat.lt_succ_of_lt bGw2
      have cA0w2 := (hmw2.cell (p := ⟨w.heap.size + 1, 0, none⟩) bAw1).trans cA0w1
      have cA1w2 := (hmw2.cell (p := ⟨w.heap.size + 1, 1, none⟩) bAw1).trans cA1w1
      have bAw2 : w.heap.size + 1 < w2.heap.size := Nat.lt_of_lt_of_le bAw1 hmw2.size
      have dAw2 : w.heap.size + 1 < w2.heap.size + 1 := Nat.lt_succ_of_lt bAw2
      have hBw2 : Below w.heap.size w w2 := Below.trans hBw1 (hmw2.mono hBw1.size)
      have zw2 : w.heap.size ≤ w2.heap.size := hBw2.size
      clear hmw2 hw2 zw1 hBw1 dAw1 bAw1 cA1w1 cA0w1 dGw1 bGw1 cG4w1 cG3w1 cG2w1 cG1w1 cG0w1
      go_wp2
      go_ret
      exact ⟨rfl, (by repeat' (first | (with_reducible exact Below.refl _ _) | (with_reducible assumption) | (with_reducible refine drewN_below ?_ _) | (with_reducible refine Below.drew ?_) | (with_reducible refine Below.alloc ?_ ?_ _) | (with_reducible refine Below.setCell ?_ ?_ _) | (simp; done) | omega | (simp; omega)))⟩
    · have hx : Z.isfx k r o I F = true := by unfold Z.isfx; rw [hv, hk]; rfl
      have hturn : ∀ t1 t2, Q.mk (2 ^ (I.toNat + 1)) 1 = (t1, t2) → (o.toList == [119, 114, 97, 112]) = true → (r.toList == [122, 101, 114, 111]) = false → ∀ m1 m2, Q.add (an, ad) (t1, t2) = (m1, m2) → Q.isq m1 m2 = true → Z.fitQ k r o I F m1 m2 = Z.fitQ k r o I F an ad := by
        intro t1 t2 ht ho hz m1 m2 hm hq
        have h1 := Z.fit_turn (an := an) (ad := ad) hx ho hz (by rw [ht, hm]; exact hq)
        rw [ht, hm] at h1
        exact h1
      have hcode : (Z.valQ k r o I F c = ((0, 0), 2)) ∨ ∃ q1 q2, Z.valQ k r o I F c = ((q1, q2), 0) ∧ Z.codQ k r o I F q1 q2 = (c, 0) := by
        by_cases hr : 0 ≤ c ∧ c < 2 * 2 ^ (I.toNat + F.toNat)
        · right
          have h1 := Z.code_value hx hr
          exact ⟨_, _, h1.1, h1.2⟩
        · left
          unfold Z.valQ
          rw [if_neg (by intro hh; exact hr hh.2)]
      have HTURN := Lib.hid hturn
      have HCODE := Lib.hid hcode
      clear hturn hcode hx
      obtain ⟨p1, p2, p3, p4, p5, _⟩ := vld_parts hv
      obtain ⟨i, rfl⟩ := Int.eq_ofNat_of_zero_le p1
      rw [show ((i : Int)).toNat = i by omega] at HTURN
      have hB := Z.p2_bd (i + 1) (by omega)
      have y1 : IntKind.i64.wrap ((i : Int) + 1) = (i : Int) + 1 := Z.i64_in _ (by omega)
      have y2 : IntKind.i64.wrap (2 ^ (i + 1)) = 2 ^ (i + 1) := Z.i64_in _ (by omega)
      obtain ⟨t1, t2, hT⟩ : ∃ t1 t2, Hid (Q.mk (2 ^ (i + 1)) 1 = (t1, t2)) := ⟨_, _, rfl⟩
      obtain ⟨m1, m2, hM⟩ : ∃ m1 m2, Hid (Q.add (an, ad) (t1, t2) = (m1, m2)) := ⟨_, _, rfl⟩
      cases ho : (o.toList == [119, 114, 97, 112])
      · skip
        rcases HCODE.out with hq | ⟨q1, q2, hq, hcd⟩
        · skip
          have HQ := Lib.hid hq
          clear hq
          clear HCODE HTURN
          go_enter Tryd.func6, Tryd.ntmps6
          go_wp2_with fail
          refine (valid_any _ _ _ _ _ hI hF _).mono ?_
          rintro e w1 ⟨rfl, hw1⟩
          have hmw1 : Below w.heap.size w w1 := on_below hw1 (by repeat' (first | (with_reducible exact Below.refl _ _) | (with_reducible assumption) | (with_reducible refine drewN_below ?_ _) | (with_reducible refine Below.drew ?_) | (with_reducible refine Below.alloc ?_ ?_ _) | (with_reducible refine Below.setCell ?_ ?_ _) | (simp; done) | omega | (simp; omega))) (by first | (with_reducible assumption) | (simp; done) | omega | (simp; omega))
          have cG0w1 : w1.cell? ⟨w.heap.size, 0, none⟩ = some (.string k) := by rw [hw1.cell (p := ⟨w.heap.size, 0, none⟩) (by first | (with_reducible assumption) | (simp; done) | omega | (simp; omega))]; simp [go_sem]
          have cG1w1 : w1.cell? ⟨w.heap.size, 1, none⟩ = some (.int .i64 (i : Int)) := by rw [hw1.cell (p := ⟨w.heap.size, 1, none⟩) (by first | (with_reducible assumption) | (simp; done) | omega | (simp; omega))]; simp [go_sem]
          have cG2w1 : w1.cell? ⟨w.heap.size, 2, none⟩ = some (.int .i64 F) := by rw [hw1.cell (p := ⟨w.heap.size, 2, none⟩) (by first | (with_reducible assumption) | (simp; done) | omega | (simp; omega))]; simp [go_sem]
          have cG3w1 : w1.cell? ⟨w.heap.size, 3, none⟩ = some (.string r) := by rw [hw1.cell (p := ⟨w.heap.size, 3, none⟩) (by first | (with_reducible assumption) | (simp; done) | omega | (simp; omega))]; simp [go_sem]
          have cG4w1 : w1.cell? ⟨w.heap.size, 4, none⟩ = some (.string o) := by rw [hw1.cell (p := ⟨w.heap.size, 4, none⟩) (by first | (with_reducible assumption) | (simp; done) | omega | (simp; omega))]; simp [go_sem]
          have bGw1 : w.heap.size < w1.heap.size := by have := hw1.size; first | omega | (simp at this; omega)
          have dGw1 : w.heap.size < w1.heap.size + 1 := Nat.lt_succ_of_lt bGw1
          have cA0w1 : w1.cell? ⟨w.heap.size + 1, 0, none⟩ = some (.int .i64 an) := by rw [hw1.cell (p := ⟨w.heap.size + 1, 0, none⟩) (by first | (with_reducible assumption) | (simp; done) | omega | (simp; omega))]; simp [go_sem]
          have cA1w1 : w1.cell? ⟨w.heap.size + 1, 1, none⟩ = some (.int .i64 ad) := by rw [hw1.cell (p := ⟨w.heap.size + 1, 1, none⟩) (by first | (with_reducible assumption) | (simp; done) | omega | (simp; omega))]; simp [go_sem]
          have bAw1 : w.heap.size + 1 < w1.heap.size := by have := hw1.size; first | omega | (simp at this; omega)
          have dAw1 : w.heap.size + 1 < w1.heap.size + 1 := Nat.lt_succ_of_lt bAw1
          have hBw1 : Below w.heap.size w w1 := hmw1
          have zw1 : w.heap.size ≤ w1.heap.size := hBw1.size
          clear hmw1 hw1
          rw [hv]
          go_wp2_with fail
          refine (rwhole_any _ (by omega) _).mono ?_
          rintro e w2 ⟨rfl, hw2⟩
          have hmw2 : Below w1.heap.size w1 w2 := on_below hw2 (by repeat' (first | (with_reducible exact Below.refl _ _) | (with_reducible assumption) | (with_reducible refine drewN_below ?_ _) | (with_reducible refine Below.drew ?_) | (with_reducible refine Below.alloc ?_ ?_ _) | (with_reducible refine Below.setCell ?_ ?_ _) | (simp; done) | omega | (simp; omega))) (by first | (with_reducible assumption) | (simp; done) | omega | (simp; omega))
          have cG0w2 := (hmw2.cell (p := ⟨w.heap.size, 0, none⟩) bGw1).trans cG0w1
          have cG1w2 := (hmw2.cell (p := ⟨w.heap.size, 1, none⟩) bGw1).trans cG1w1
          have cG2w2 := (hmw2.cell (p := ⟨w.heap.size, 2, none⟩) bGw1).trans cG2w1
          have cG3w2 := (hmw2.cell (p := ⟨w.heap.size, 3, none⟩) bGw1).trans cG3w1
          have cG4w2 := (hmw2.cell (p := ⟨w.heap.size, 4, none⟩) bGw1).trans cG4w1
          have bGw2 : w.heap.size < w2.heap.size := Nat.lt_of_lt_of_le bGw1 hmw2.size
          have dGw2 : w.heap.size < w2.heap.size + 1 := Nat.lt_succ_of_lt bGw2
          have cA0w2 := (hmw2.cell (p := ⟨w.heap.size + 1, 0, none⟩) bAw1).trans cA0w1
          have cA1w2 := (hmw2.cell (p := ⟨w.heap.size + 1, 1, none⟩) bAw1).trans cA1w1
          have bAw2 : w.heap.size + 1 < w2.heap.size := Nat.lt_of_lt_of_le bAw1 hmw2.size
          have dAw2 : w.heap.size + 1 < w2.heap.size + 1 := Nat.lt_succ_of_lt bAw2
          have hBw2 : Below w.heap.size w w2 := Below.trans hBw1 (hmw2.mono hBw1.size)
          have zw2 : w.heap.size ≤ w2.heap.size := hBw2.size
          clear hmw2 hw2 zw1 hBw1 dAw1 bAw1 cA1w1 cA0w1 dGw1 bGw1 cG4w1 cG3w1 cG2w1 cG1w1 cG0w1
          rw [hT.out]
          go_wp2_with fail
          refine (radd_any _ _ _ _ _).mono ?_
          rintro e w3 ⟨rfl, hw3⟩
          have hmw3 : Below w2.heap.size w2 w3 := on_below hw3 (by repeat' (first | (with_reducible exact Below.refl _ _) | (with_reducible assumption) | (with_reducible refine drewN_below ?_ _) | (with_reducible refine Below.drew ?_) | (with_reducible refine Below.alloc ?_ ?_ _) | (with_reducible refine Below.setCell ?_ ?_ _) | (simp; done) | omega | (simp; omega))) (by first | (with_reducible assumption) | (simp; done) | omega | (simp; omega))
          have cG0w3 := (hmw3.cell (p := ⟨w.heap.size, 0, none⟩) bGw2).trans cG0w2
          have cG1w3 := (hmw3.cell (p := ⟨w.heap.size, 1, none⟩) bGw2).trans cG1w2
          have cG2w3 := (hmw3.cell (p := ⟨w.heap.size, 2, none⟩) bGw2).trans cG2w2
          have cG3w3 := (hmw3.cell (p := ⟨w.heap.size, 3, none⟩) bGw2).trans cG3w2
          have cG4w3 := (hmw3.cell (p := ⟨w.heap.size, 4, none⟩) bGw2).trans cG4w2
          have bGw3 : w.heap.size < w3.heap.size := Nat.lt_of_lt_of_le bGw2 hmw3.size
          have dGw3 : w.heap.size < w3.heap.size + 1 := Nat.lt_succ_of_lt bGw3
          have cA0w3 := (hmw3.cell (p := ⟨w.heap.size + 1, 0, none⟩) bAw2).trans cA0w2
          have cA1w3 := (hmw3.cell (p := ⟨w.heap.size + 1, 1, none⟩) bAw2).trans cA1w2
          have bAw3 : w.heap.size + 1 < w3.heap.size := Nat.lt_of_lt_of_le bAw2 hmw3.size
          have dAw3 : w.heap.size + 1 < w3.heap.size + 1 := Nat.lt_succ_of_lt bAw3
          have cT0w3 : w3.cell? ⟨w2.heap.size, 0, none⟩ = some (.int .i64 t1) := by rw [hw3.cell (p := ⟨w2.heap.size, 0, none⟩) (by first | (with_reducible assumption) | (simp; done) | omega | (simp; omega))]; simp [go_sem]
          have cT1w3 : w3.cell? ⟨w2.heap.size, 1, none⟩ = some (.int .i64 t2) := by rw [hw3.cell (p := ⟨w2.heap.size, 1, none⟩) (by first | (with_reducible assumption) | (simp; done) | omega | (simp; omega))]; simp [go_sem]
          have bTw3 : w2.heap.size < w3.heap.size := by have := hw3.size; first | omega | (simp at this; omega)
          have dTw3 : w2.heap.size < w3.heap.size + 1 := Nat.lt_succ_of_lt bTw3
          have hBw3 : Below w.heap.size w w3 := Below.trans hBw2 (hmw3.mono hBw2.size)
          have zw3 : w.heap.size ≤ w3.heap.size := hBw3.size
          clear hmw3 hw3 zw2 hBw2 dAw2 bAw2 cA1w2 cA0w2 dGw2 bGw2 cG4w2 cG3w2 cG2w2 cG1w2 cG0w2
          rw [hM.out]
          go_wp2_with fail
          go_quiet (fail)
          go_wp2_with fail
          refine (Value_any _ _ _ _ _ _ hI hF hc _).mono ?_
          rintro e w4 ⟨rfl, hw4⟩
          have hmw4 : Below w3.heap.size w3 w4 := on_below hw4 (by repeat' (first | (with_reducible exact Below.refl _ _) | (with_reducible assumption) | (with_reducible refine drewN_below ?_ _) | (with_reducible refine Below.drew ?_) | (with_reducible refine Below.alloc ?_ ?_ _) | (with_reducible refine Below.setCell ?_ ?_ _) | (simp; done) | omega | (simp; omega))) (by first | (with_reducible assumption) | (simp; done) | omega | (simp; omega))
          have cG0w4 := (hmw4.cell (p := ⟨w.heap.size, 0, none⟩) bGw3).trans cG0w3
          have cG1w4 := (hmw4.cell (p := ⟨w.heap.size, 1, none⟩) bGw3).trans cG1w3
          have cG2w4 := (hmw4.cell (p := ⟨w.heap.size, 2, none⟩) bGw3).trans cG2w3
          have cG3w4 := (hmw4.cell (p := ⟨w.heap.size, 3, none⟩) bGw3).trans cG3w3
          have cG4w4 := (hmw4.cell (p := ⟨w.heap.size, 4, none⟩) bGw3).trans cG4w3
          have bGw4 : w.heap.size < w4.heap.size := Nat.lt_of_lt_of_le bGw3 hmw4.size
          have dGw4 : w.heap.size < w4.heap.size + 1 := Nat.lt_succ_of_lt bGw4
          have cA0w4 := (hmw4.cell (p := ⟨w.heap.size + 1, 0, none⟩) bAw3).trans cA0w3
          have cA1w4 := (hmw4.cell (p := ⟨w.heap.size + 1, 1, none⟩) bAw3).trans cA1w3
          have bAw4 : w.heap.size + 1 < w4.heap.size := Nat.lt_of_lt_of_le bAw3 hmw4.size
          have dAw4 : w.heap.size + 1 < w4.heap.size + 1 := Nat.lt_succ_of_lt bAw4
          have cT0w4 := (hmw4.cell (p := ⟨w2.heap.size, 0, none⟩) bTw3).trans cT0w3
          have cT1w4 := (hmw4.cell (p := ⟨w2.heap.size, 1, none⟩) bTw3).trans cT1w3
          have bTw4 : w2.heap.size < w4.heap.size := Nat.lt_of_lt_of_le bTw3 hmw4.size
          have dTw4 : w2.heap.size < w4.heap.size + 1 := Nat.lt_succ_of_lt bTw4
          have cM0w4 : w4.cell? ⟨w3.heap.size, 0, none⟩ = some (.int .i64 m1) := by rw [hw4.cell (p := ⟨w3.heap.size, 0, none⟩) (by first | (with_reducible assumption) | (simp; done) | omega | (simp; omega))]; simp [go_sem]
          have cM1w4 : w4.cell? ⟨w3.heap.size, 1, none⟩ = some (.int .i64 m2) := by rw [hw4.cell (p := ⟨w3.heap.size, 1, none⟩) (by first | (with_reducible assumption) | (simp; done) | omega | (simp; omega))]; simp [go_sem]
          have bMw4 : w3.heap.size < w4.heap.size := by have := hw4.size; first | omega | (simp at this; omega)
          have dMw4 : w3.heap.size < w4.heap.size + 1 := Nat.lt_succ_of_lt bMw4
          have hBw4 : Below w.heap.size w w4 := Below.trans hBw3 (hmw4.mono hBw3.size)
          have zw4 : w.heap.size ≤ w4.heap.size := hBw4.size
          clear hmw4 hw4 zw3 hBw3 dTw3 bTw3 cT1w3 cT0w3 dAw3 bAw3 cA1w3 cA0w3 dGw3 bGw3 cG4w3 cG3w3 cG2w3 cG1w3 cG0w3
          rw [HQ.out]
          go_wp2_with fail
          refine (awake_any _).mono ?_
          rintro e w5 ⟨rfl, hw5⟩
          have hmw5 : Below w4.heap.size w4 w5 := on_below hw5 (by repeat' (first | (with_reducible exact Below.refl _ _) | (with_reducible assumption) | (with_reducible refine drewN_below ?_ _) | (with_reducible refine Below.drew ?_) | (with_reducible refine Below.alloc ?_ ?_ _) | (with_reducible refine Below.setCell ?_ ?_ _) | (simp; done) | omega | (simp; omega))) (by first | (with_reducible assumption) | (simp; done) | omega | (simp; omega))
          have cG0w5 := (hmw5.cell (p := ⟨w.heap.size, 0, none⟩) bGw4).trans cG0w4
          have cG1w5 := (hmw5.cell (p := ⟨w.heap.size, 1, none⟩) bGw4).trans cG1w4
          have cG2w5 := (hmw5.cell (p := ⟨w.heap.size, 2, none⟩) bGw4).trans cG2w4
          have cG3w5 := (hmw5.cell (p := ⟨w.heap.size, 3, none⟩) bGw4).trans cG3w4
          have cG4w5 := (hmw5.cell (p := ⟨w.heap.size, 4, none⟩) bGw4).trans cG4w4
          have bGw5 : w.heap.size < w5.heap.size := Nat.lt_of_lt_of_le bGw4 hmw5.size
          have dGw5 : w.heap.size < w5.heap.size + 1 := Nat.lt_succ_of_lt bGw5
          have cA0w5 := (hmw5.cell (p := ⟨w.heap.size + 1, 0, none⟩) bAw4).trans cA0w4
          have cA1w5 := (hmw5.cell (p := ⟨w.heap.size + 1, 1, none⟩) bAw4).trans cA1w4
          have bAw5 : w.heap.size + 1 < w5.heap.size := Nat.lt_of_lt_of_le bAw4 hmw5.size
          have dAw5 : w.heap.size + 1 < w5.heap.size + 1 := Nat.lt_succ_of_lt bAw5
          have cT0w5 := (hmw5.cell (p := ⟨w2.heap.size, 0, none⟩) bTw4).trans cT0w4
          have cT1w5 := (hmw5.cell (p := ⟨w2.heap.size, 1, none⟩) bTw4).trans cT1w4
          have bTw5 : w2.heap.size < w5.heap.size := Nat.lt_of_lt_of_le bTw4 hmw5.size
          have dTw5 : w2.heap.size < w5.heap.size + 1 := Nat.lt_succ_of_lt bTw5
          have cM0w5 := (hmw5.cell (p := ⟨w3.heap.size, 0, none⟩) bMw4).trans cM0w4
          have cM1w5 := (hmw5.cell (p := ⟨w3.heap.size, 1, none⟩) bMw4).trans cM1w4
          have bMw5 : w3.heap.size < w5.heap.size := Nat.lt_of_lt_of_le bMw4 hmw5.size
          have dMw5 : w3.heap.size < w5.heap.size + 1 := Nat.lt_succ_of_lt bMw5
          have cQ0w5 : w5.cell? ⟨w4.heap.size, 0, none⟩ = some (.int .i64 0) := by rw [hw5.cell (p := ⟨w4.heap.size, 0, none⟩) (by first | (with_reducible assumption) | (simp; done) | omega | (simp; omega))]; simp [go_sem]
          have cQ1w5 : w5.cell? ⟨w4.heap.size, 1, none⟩ = some (.int .i64 0) := by rw [hw5.cell (p := ⟨w4.heap.size, 1, none⟩) (by first | (with_reducible assumption) | (simp; done) | omega | (simp; omega))]; simp [go_sem]
          have bQw5 : w4.heap.size < w5.heap.size := by have := hw5.size; first | omega | (simp at this; omega)
          have dQw5 : w4.heap.size < w5.heap.size + 1 := Nat.lt_succ_of_lt bQw5
          have hBw5 : Below w.heap.size w w5 := Below.trans hBw4 (hmw5.mono hBw4.size)
          have zw5 : w.heap.size ≤ w5.heap.size := hBw5.size
          clear hmw5 hw5 zw4 hBw4 dMw4 bMw4 cM1w4 cM0w4 dTw4 bTw4 cT1w4 cT0w4 dAw4 bAw4 cA1w4 cA0w4 dGw4 bGw4 cG4w4 cG3w4 cG2w4 cG1w4 cG0w4
          go_wp2
          go_ret
          exact ⟨rfl, (by repeat' (first | (with_reducible exact Below.refl _ _) | (with_reducible assumption) | (with_reducible refine drewN_below ?_ _) | (with_reducible refine Below.drew ?_) | (with_reducible refine Below.alloc ?_ ?_ _) | (with_reducible refine Below.setCell ?_ ?_ _) | (simp; done) | omega | (simp; omega)))⟩
        · skip
          have HQ := Lib.hid hq
          clear hq
          have HCD := Lib.hid hcd
          clear hcd
          clear HCODE HTURN
          go_enter Tryd.func6, Tryd.ntmps6
          go_wp2_with fail
          refine (valid_any _ _ _ _ _ hI hF _).mono ?_
          rintro e w1 ⟨rfl, hw1⟩
          have hmw1 : Below w.heap.size w w1 := on_below hw1 (by repeat' (first | (with_reducible exact Below.refl _ _) | (with_reducible assumption) | (with_reducible refine drewN_below ?_ _) | (with_reducible refine Below.drew ?_) | (with_reducible refine Below.alloc ?_ ?_ _) | (with_reducible refine Below.setCell ?_ ?_ _) | (simp; done) | omega | (simp; omega))) (by first | (with_reducible assumption) | (simp; done) | omega | (simp; omega))
          have cG0w1 : w1.cell? ⟨w.heap.size, 0, none⟩ = some (.string k) := by rw [hw1.cell (p := ⟨w.heap.size, 0, none⟩) (by first | (with_reducible assumption) | (simp; done) | omega | (simp; omega))]; simp [go_sem]
          have cG1w1 : w1.cell? ⟨w.heap.size, 1, none⟩ = some (.int .i64 (i : Int)) := by rw [hw1.cell (p := ⟨w.heap.size, 1, none⟩) (by first | (with_reducible assumption) | (simp; done) | omega | (simp; omega))]; simp [go_sem]
          have cG2w1 : w1.cell? ⟨w.heap.size, 2, none⟩ = some (.int .i64 F) := by rw [hw1.cell (p := ⟨w.heap.size, 2, none⟩) (by first | (with_reducible assumption) | (simp; done) | omega | (simp; omega))]; simp [go_sem]
          have cG3w1 : w1.cell? ⟨w.heap.size, 3, none⟩ = some (.string r) := by rw [hw1.cell (p := ⟨w.heap.size, 3, none⟩) (by first | (with_reducible assumption) | (simp; done) | omega | (simp; omega))]; simp [go_sem]
          have cG4w1 : w1.cell? ⟨w.heap.size, 4, none⟩ = some (.string o) := by rw [hw1.cell (p := ⟨w.heap.size, 4, none⟩) (by first | (with_reducible assumption) | (simp; done) | omega | (simp; omega))]; simp [go_sem]
          have bGw1 : w.heap.size < w1.heap.size := by have := hw1.size; first | omega | (simp at this; omega)
          have dGw1 : w.heap.size < w1.heap.size + 1 := Nat.lt_succ_of_lt bGw1
          have cA0w1 : w1.cell? ⟨w.heap.size + 1, 0, none⟩ = some (.int .i64 an) := by rw [hw1.cell (p := ⟨w.heap.size + 1, 0, none⟩) (by first | (with_reducible assumption) | (simp; done) | omega | (simp; omega))]; simp [go_sem]
          have cA1w1 : w1.cell? ⟨w.heap.size + 1, 1, none⟩ = some (.int .i64 ad) := by rw [hw1.cell (p := ⟨w.heap.size + 1, 1, none⟩) (by first | (with_reducible assumption) | (simp; done) | omega | (simp; omega))]; simp [go_sem]
          have bAw1 : w.heap.size + 1 < w1.heap.size := by have := hw1.size; first | omega | (simp at this; omega)
          have dAw1 : w.heap.size + 1 < w1.heap.size + 1 := Nat.lt_succ_of_lt bAw1
          have hBw1 : Below w.heap.size w w1 := hmw1
          have zw1 : w.heap.size ≤ w1.heap.size := hBw1.size
          clear hmw1 hw1
          rw [hv]
          go_wp2_with fail
          refine (rwhole_any _ (by omega) _).mono ?_
          rintro e w2 ⟨rfl, hw2⟩
          have hmw2 : Below w1.heap.size w1 w2 := on_below hw2 (by repeat' (first | (with_reducible exact Below.refl _ _) | (with_reducible assumption) | (with_reducible refine drewN_below ?_ _) | (with_reducible refine Below.drew ?_) | (with_reducible refine Below.alloc ?_ ?_ _) | (with_reducible refine Below.setCell ?_ ?_ _) | (simp; done) | omega | (simp; omega))) (by first | (with_reducible assumption) | (simp; done) | omega | (simp; omega))
          have cG0w2 := (hmw2.cell (p := ⟨w.heap.size, 0, none⟩) bGw1).trans cG0w1
          have cG1w2 := (hmw2.cell (p := ⟨w.heap.size, 1, none⟩) bGw1).trans cG1w1
          have cG2w2 := (hmw2.cell (p := ⟨w.heap.size, 2, none⟩) bGw1).trans cG2w1
          have cG3w2 := (hmw2.cell (p := ⟨w.heap.size, 3, none⟩) bGw1).trans cG3w1
          have cG4w2 := (hmw2.cell (p := ⟨w.heap.size, 4, none⟩) bGw1).trans cG4w1
          have bGw2 : w.heap.size < w2.heap.size := Nat.lt_of_lt_of_le bGw1 hmw2.size
          have dGw2 : w.heap.size < w2.heap.size + 1 := Nat.lt_succ_of_lt bGw2
          have cA0w2 := (hmw2.cell (p := ⟨w.heap.size + 1, 0, none⟩) bAw1).trans cA0w1
          have cA1w2 := (hmw2.cell (p := ⟨w.heap.size + 1, 1, none⟩) bAw1).trans cA1w1
          have bAw2 : w.heap.size + 1 < w2.heap.size := Nat.lt_of_lt_of_le bAw1 hmw2.size
          have dAw2 : w.heap.size + 1 < w2.heap.size + 1 := Nat.lt_succ_of_lt bAw2
          have hBw2 : Below w.heap.size w w2 := Below.trans hBw1 (hmw2.mono hBw1.size)
          have zw2 : w.heap.size ≤ w2.heap.size := hBw2.size
          clear hmw2 hw2 zw1 hBw1 dAw1 bAw1 cA1w1 cA0w1 dGw1 bGw1 cG4w1 cG3w1 cG2w1 cG1w1 cG0w1
          rw [hT.out]
          go_wp2_with fail
          refine (radd_any _ _ _ _ _).mono ?_
          rintro e w3 ⟨rfl, hw3⟩
          have hmw3 : Below w2.heap.size w2 w3 := on_below hw3 (by repeat' (first | (with_reducible exact Below.refl _ _) | (with_reducible assumption) | (with_reducible refine drewN_below ?_ _) | (with_reducible refine Below.drew ?_) | (with_reducible refine Below.alloc ?_ ?_ _) | (with_reducible refine Below.setCell ?_ ?_ _) | (simp; done) | omega | (simp; omega))) (by first | (with_reducible assumption) | (simp; done) | omega | (simp; omega))
          have cG0w3 := (hmw3.cell (p := ⟨w.heap.size, 0, none⟩) bGw2).trans cG0w2
          have cG1w3 := (hmw3.cell (p := ⟨w.heap.size, 1, none⟩) bGw2).trans cG1w2
          have cG2w3 := (hmw3.cell (p := ⟨w.heap.size, 2, none⟩) bGw2).trans cG2w2
          have cG3w3 := (hmw3.cell (p := ⟨w.heap.size, 3, none⟩) bGw2).trans cG3w2
          have cG4w3 := (hmw3.cell (p := ⟨w.heap.size, 4, none⟩) bGw2).trans cG4w2
          have bGw3 : w.heap.size < w3.heap.size := Nat.lt_of_lt_of_le bGw2 hmw3.size
          have dGw3 : w.heap.size < w3.heap.size + 1 := Nat.lt_succ_of_lt bGw3
          have cA0w3 := (hmw3.cell (p := ⟨w.heap.size + 1, 0, none⟩) bAw2).trans cA0w2
          have cA1w3 := (hmw3.cell (p := ⟨w.heap.size + 1, 1, none⟩) bAw2).trans cA1w2
          have bAw3 : w.heap.size + 1 < w3.heap.size := Nat.lt_of_lt_of_le bAw2 hmw3.size
          have dAw3 : w.heap.size + 1 < w3.heap.size + 1 := Nat.lt_succ_of_lt bAw3
          have cT0w3 : w3.cell? ⟨w2.heap.size, 0, none⟩ = some (.int .i64 t1) := by rw [hw3.cell (p := ⟨w2.heap.size, 0, none⟩) (by first | (with_reducible assumption) | (simp; done) | omega | (simp; omega))]; simp [go_sem]
          have cT1w3 : w3.cell? ⟨w2.heap.size, 1, none⟩ = some (.int .i64 t2) := by rw [hw3.cell (p := ⟨w2.heap.size, 1, none⟩) (by first | (with_reducible assumption) | (simp; done) | omega | (simp; omega))]; simp [go_sem]
          have bTw3 : w2.heap.size < w3.heap.size := by have := hw3.size; first | omega | (simp at this; omega)
          have dTw3 : w2.heap.size < w3.heap.size + 1 := Nat.lt_succ_of_lt bTw3
          have hBw3 : Below w.heap.size w w3 := Below.trans hBw2 (hmw3.mono hBw2.size)
          have zw3 : w.heap.size ≤ w3.heap.size := hBw3.size
          clear hmw3 hw3 zw2 hBw2 dAw2 bAw2 cA1w2 cA0w2 dGw2 bGw2 cG4w2 cG3w2 cG2w2 cG1w2 cG0w2
          rw [hM.out]
          go_wp2_with fail
          go_quiet (fail)
          go_wp2_with fail
          refine (Value_any _ _ _ _ _ _ hI hF hc _).mono ?_
          rintro e w4 ⟨rfl, hw4⟩
          have hmw4 : Below w3.heap.size w3 w4 := on_below hw4 (by repeat' (first | (with_reducible exact Below.refl _ _) | (with_reducible assumption) | (with_reducible refine drewN_below ?_ _) | (with_reducible refine Below.drew ?_) | (with_reducible refine Below.alloc ?_ ?_ _) | (with_reducible refine Below.setCell ?_ ?_ _) | (simp; done) | omega | (simp; omega))) (by first | (with_reducible assumption) | (simp; done) | omega | (simp; omega))
          have cG0w4 := (hmw4.cell (p := ⟨w.heap.size, 0, none⟩) bGw3).trans cG0w3
          have cG1w4 := (hmw4.cell (p := ⟨w.heap.size, 1, none⟩) bGw3).trans cG1w3
          have cG2w4 := (hmw4.cell (p := ⟨w.heap.size, 2, none⟩) bGw3).trans cG2w3
          have cG3w4 := (hmw4.cell (p := ⟨w.heap.size, 3, none⟩) bGw3).trans cG3w3
          have cG4w4 := (hmw4.cell (p := ⟨w.heap.size, 4, none⟩) bGw3).trans cG4w3
          have bGw4 : w.heap.size < w4.heap.size := Nat.lt_of_lt_of_le bGw3 hmw4.size
          have dGw4 : w.heap.size < w4.heap.size + 1 := Nat.lt_succ_of_lt bGw4
          have cA0w4 := (hmw4.cell (p := ⟨w.heap.size + 1, 0, none⟩) bAw3).trans cA0w3
          have cA1w4 := (hmw4.cell (p := ⟨w.heap.size + 1, 1, none⟩) bAw3).trans cA1w3
          have bAw4 : w.heap.size + 1 < w4.heap.size := Nat.lt_of_lt_of_le bAw3 hmw4.size
          have dAw4 : w.heap.size + 1 < w4.heap.size + 1 := Nat.lt_succ_of_lt bAw4
          have cT0w4 := (hmw4.cell (p := ⟨w2.heap.size, 0, none⟩) bTw3).trans cT0w3
          have cT1w4 := (hmw4.cell (p := ⟨w2.heap.size, 1, none⟩) bTw3).trans cT1w3
          have bTw4 : w2.heap.size < w4.heap.size := Nat.lt_of_lt_of_le bTw3 hmw4.size
          have dTw4 : w2.heap.size < w4.heap.size + 1 := Nat.lt_succ_of_lt bTw4
          have cM0w4 : w4.cell? ⟨w3.heap.size, 0, none⟩ = some (.int .i64 m1) := by rw [hw4.cell (p := ⟨w3.heap.size, 0, none⟩) (by first | (with_reducible assumption) | (simp; done) | omega | (simp; omega))]; simp [go_sem]
          have cM1w4 : w4.cell? ⟨w3.heap.size, 1, none⟩ = some (.int .i64 m2) := by rw [hw4.cell (p := ⟨w3.heap.size, 1, none⟩) (by first | (with_reducible assumption) | (simp; done) | omega | (simp; omega))]; simp [go_sem]
          have bMw4 : w3.heap.size < w4.heap.size := by have := hw4.size; first | omega | (simp at this; omega)
          have dMw4 : w3.heap.size < w4.heap.size + 1 := Nat.lt_succ_of_lt bMw4
          have hBw4 : Below w.heap.size w w4 := Below.trans hBw3 (hmw4.mono hBw3.size)
          have zw4 : w.heap.size ≤ w4.heap.size := hBw4.size
          clear hmw4 hw4 zw3 hBw3 dTw3 bTw3 cT1w3 cT0w3 dAw3 bAw3 cA1w3 cA0w3 dGw3 bGw3 cG4w3 cG3w3 cG2w3 cG1w3 cG0w3
          rw [HQ.out]
          go_wp2_with fail
          refine (Code_any _ _ _ _ _ _ _ hI hF _).mono ?_
          rintro e w5 ⟨rfl, hw5⟩
          have hmw5 : Below w4.heap.size w4 w5 := on_below hw5 (by repeat' (first | (with_reducible exact Below.refl _ _) | (with_reducible assumption) | (with_reducible refine drewN_below ?_ _) | (with_reducible refine Below.drew ?_) | (with_reducible refine Below.alloc ?_ ?_ _) | (with_reducible refine Below.setCell ?_ ?_ _) | (simp; done) | omega | (simp; omega))) (by first | (with_reducible assumption) | (simp; done) | omega | (simp; omega))
          have cG0w5 := (hmw5.cell (p := ⟨w.heap.size, 0, none⟩) bGw4).trans cG0w4
          have cG1w5 := (hmw5.cell (p := ⟨w.heap.size, 1, none⟩) bGw4).trans cG1w4
          have cG2w5 := (hmw5.cell (p := ⟨w.heap.size, 2, none⟩) bGw4).trans cG2w4
          have cG3w5 := (hmw5.cell (p := ⟨w.heap.size, 3, none⟩) bGw4).trans cG3w4
          have cG4w5 := (hmw5.cell (p := ⟨w.heap.size, 4, none⟩) bGw4).trans cG4w4
          have bGw5 : w.heap.size < w5.heap.size := Nat.lt_of_lt_of_le bGw4 hmw5.size
          have dGw5 : w.heap.size < w5.heap.size + 1 := Nat.lt_succ_of_lt bGw5
          have cA0w5 := (hmw5.cell (p := ⟨w.heap.size + 1, 0, none⟩) bAw4).trans cA0w4
          have cA1w5 := (hmw5.cell (p := ⟨w.heap.size + 1, 1, none⟩) bAw4).trans cA1w4
          have bAw5 : w.heap.size + 1 < w5.heap.size := Nat.lt_of_lt_of_le bAw4 hmw5.size
          have dAw5 : w.heap.size + 1 < w5.heap.size + 1 := Nat.lt_succ_of_lt bAw5
          have cT0w5 := (hmw5.cell (p := ⟨w2.heap.size, 0, none⟩) bTw4).trans cT0w4
          have cT1w5 := (hmw5.cell (p := ⟨w2.heap.size, 1, none⟩) bTw4).trans cT1w4
          have bTw5 : w2.heap.size < w5.heap.size := Nat.lt_of_lt_of_le bTw4 hmw5.size
          have dTw5 : w2.heap.size < w5.heap.size + 1 := Nat.lt_succ_of_lt bTw5
          have cM0w5 := (hmw5.cell (p := ⟨w3.heap.size, 0, none⟩) bMw4).trans cM0w4
          have cM1w5 := (hmw5.cell (p := ⟨w3.heap.size, 1, none⟩) bMw4).trans cM1w4
          have bMw5 : w3.heap.size < w5.heap.size := Nat.lt_of_lt_of_le bMw4 hmw5.size
          have dMw5 : w3.heap.size < w5.heap.size + 1 := Nat.lt_succ_of_lt bMw5
          have cQ0w5 : w5.cell? ⟨w4.heap.size, 0, none⟩ = some (.int .i64 q1) := by rw [hw5.cell (p := ⟨w4.heap.size, 0, none⟩) (by first | (with_reducible assumption) | (simp; done) | omega | (simp; omega))]; simp [go_sem]
          have cQ1w5 : w5.cell? ⟨w4.heap.size, 1, none⟩ = some (.int .i64 q2) := by rw [hw5.cell (p := ⟨w4.heap.size, 1, none⟩) (by first | (with_reducible assumption) | (simp; done) | omega | (simp; omega))]; simp [go_sem]
          have bQw5 : w4.heap.size < w5.heap.size := by have := hw5.size; first | omega | (simp at this; omega)
          have dQw5 : w4.heap.size < w5.heap.size + 1 := Nat.lt_succ_of_lt bQw5
          have hBw5 : Below w.heap.size w w5 := Below.trans hBw4 (hmw5.mono hBw4.size)
          have zw5 : w.heap.size ≤ w5.heap.size := hBw5.size
          clear hmw5 hw5 zw4 hBw4 dMw4 bMw4 cM1w4 cM0w4 dTw4 bTw4 cT1w4 cT0w4 dAw4 bAw4 cA1w4 cA0w4 dGw4 bGw4 cG4w4 cG3w4 cG2w4 cG1w4 cG0w4
          rw [HCD.out]
          go_wp2_with fail
          refine (awake_any _).mono ?_
          rintro e w6 ⟨rfl, hw6⟩
          have hmw6 : Below w5.heap.size w5 w6 := on_below hw6 (by repeat' (first | (with_reducible exact Below.refl _ _) | (with_reducible assumption) | (with_reducible refine drewN_below ?_ _) | (with_reducible refine Below.drew ?_) | (with_reducible refine Below.alloc ?_ ?_ _) | (with_reducible refine Below.setCell ?_ ?_ _) | (simp; done) | omega | (simp; omega))) (by first | (with_reducible assumption) | (simp; done) | omega | (simp; omega))
          have cG0w6 := (hmw6.cell (p := ⟨w.heap.size, 0, none⟩) bGw5).trans cG0w5
          have cG1w6 := (hmw6.cell (p := ⟨w.heap.size, 1, none⟩) bGw5).trans cG1w5
          have cG2w6 := (hmw6.cell (p := ⟨w.heap.size, 2, none⟩) bGw5).trans cG2w5
          have cG3w6 := (hmw6.cell (p := ⟨w.heap.size, 3, none⟩) bGw5).trans cG3w5
          have cG4w6 := (hmw6.cell (p := ⟨w.heap.size, 4, none⟩) bGw5).trans cG4w5
          have bGw6 : w.heap.size < w6.heap.size := Nat.lt_of_lt_of_le bGw5 hmw6.size
          have dGw6 : w.heap.size < w6.heap.size + 1 := Nat.lt_succ_of_lt bGw6
          have cA0w6 := (hmw6.cell (p := ⟨w.heap.size + 1, 0, none⟩) bAw5).trans cA0w5
          have cA1w6 := (hmw6.cell (p := ⟨w.heap.size + 1, 1, none⟩) bAw5).trans cA1w5
          have bAw6 : w.heap.size + 1 < w6.heap.size := Nat.lt_of_lt_of_le bAw5 hmw6.size
          have dAw6 : w.heap.size + 1 < w6.heap.size + 1 := Nat.lt_succ_of_lt bAw6
          have cT0w6 := (hmw6.cell (p := ⟨w2.heap.size, 0, none⟩) bTw5).trans cT0w5
          have cT1w6 := (hmw6.cell (p := ⟨w2.heap.size, 1, none⟩) bTw5).trans cT1w5
          have bTw6 : w2.heap.size < w6.heap.size := Nat.lt_of_lt_of_le bTw5 hmw6.size
          have dTw6 : w2.heap.size < w6.heap.size + 1 := Nat.lt_succ_of_lt bTw6
          have cM0w6 := (hmw6.cell (p := ⟨w3.heap.size, 0, none⟩) bMw5).trans cM0w5
          have cM1w6 := (hmw6.cell (p := ⟨w3.heap.size, 1, none⟩) bMw5).trans cM1w5
          have bMw6 : w3.heap.size < w6.heap.size := Nat.lt_of_lt_of_le bMw5 hmw6.size
          have dMw6 : w3.heap.size < w6.heap.size + 1 := Nat.lt_succ_of_lt bMw6
          have cQ0w6 := (hmw6.cell (p := ⟨w4.heap.size, 0, none⟩) bQw5).trans cQ0w5
          have cQ1w6 := (hmw6.cell (p := ⟨w4.heap.size, 1, none⟩) bQw5).trans cQ1w5
          have bQw6 : w4.heap.size < w6.heap.size := Nat.lt_of_lt_of_le bQw5 hmw6.size
          have dQw6 : w4.heap.size < w6.heap.size + 1 := Nat.lt_succ_of_lt bQw6
          have hBw6 : Below w.heap.size w w6 := Below.trans hBw5 (hmw6.mono hBw5.size)
          have zw6 : w.heap.size ≤ w6.heap.size := hBw6.size
          clear hmw6 hw6 zw5 hBw5 dQw5 bQw5 cQ1w5 cQ0w5 dMw5 bMw5 cM1w5 cM0w5 dTw5 bTw5 cT1w5 cT0w5 dAw5 bAw5 cA1w5 cA0w5 dGw5 bGw5 cG4w5 cG3w5 cG2w5 cG1w5 cG0w5
          go_wp2
          go_ret
          exact ⟨rfl, (by repeat' (first | (with_reducible exact Below.refl _ _) | (with_reducible assumption) | (with_reducible refine drewN_below ?_ _) | (with_reducible refine Below.drew ?_) | (with_reducible refine Below.alloc ?_ ?_ _) | (with_reducible refine Below.setCell ?_ ?_ _) | (simp; done) | omega | (simp; omega)))⟩
      · cases hz : (r.toList == [122, 101, 114, 111])
        rotate_left
        · skip
          rcases HCODE.out with hq | ⟨q1, q2, hq, hcd⟩
          · skip
            have HQ := Lib.hid hq
            clear hq
            clear HCODE HTURN
            go_enter Tryd.func6, Tryd.ntmps6
            go_wp2_with fail
            refine (valid_any _ _ _ _ _ hI hF _).mono ?_
            rintro e w1 ⟨rfl, hw1⟩
            have hmw1 : Below w.heap.size w w1 := on_below hw1 (by repeat' (first | (with_reducible exact Below.refl _ _) | (with_reducible assumption) | (with_reducible refine drewN_below ?_ _) | (with_reducible refine Below.drew ?_) | (with_reducible refine Below.alloc ?_ ?_ _) | (with_reducible refine Below.setCell ?_ ?_ _) | (simp; done) | omega | (simp; omega))) (by first | (with_reducible assumption) | (simp; done) | omega | (simp; omega))
            have cG0w1 : w1.cell? ⟨w.heap.size, 0, none⟩ = some (.string k) := by rw [hw1.cell (p := ⟨w.heap.size, 0, none⟩) (by first | (with_reducible assumption) | (simp; done) | omega | (simp; omega))]; simp [go_sem]
            have cG1w1 : w1.cell? ⟨w.heap.size, 1, none⟩ = some (.int .i64 (i : Int)) := by rw [hw1.cell (p := ⟨w.heap.size, 1, none⟩) (by first | (with_reducible assumption) | (simp; done) | omega | (simp; omega))]; simp [go_sem]
            have cG2w1 : w1.cell? ⟨w.heap.size, 2, none⟩ = some (.int .i64 F) := by rw [hw1.cell (p := ⟨w.heap.size, 2, none⟩) (by first | (with_reducible assumption) | (simp; done) | omega | (simp; omega))]; simp [go_sem]
            have cG3w1 : w1.cell? ⟨w.heap.size, 3, none⟩ = some (.string r) := by rw [hw1.cell (p := ⟨w.heap.size, 3, none⟩) (by first | (with_reducible assumption) | (simp; done) | omega | (simp; omega))]; simp [go_sem]
            have cG4w1 : w1.cell? ⟨w.heap.size, 4, none⟩ = some (.string o) := by rw [hw1.cell (p := ⟨w.heap.size, 4, none⟩) (by first | (with_reducible assumption) | (simp; done) | omega | (simp; omega))]; simp [go_sem]
            have bGw1 : w.heap.size < w1.heap.size := by have := hw1.size; first | omega | (simp at this; omega)
            have dGw1 : w.heap.size < w1.heap.size + 1 := Nat.lt_succ_of_lt bGw1
            have cA0w1 : w1.cell? ⟨w.heap.size + 1, 0, none⟩ = some (.int .i64 an) := by rw [hw1.cell (p := ⟨w.heap.size + 1, 0, none⟩) (by first | (with_reducible assumption) | (simp; done) | omega | (simp; omega))]; simp [go_sem]
            have cA1w1 : w1.cell? ⟨w.heap.size + 1, 1, none⟩ = some (.int .i64 ad) := by rw [hw1.cell (p := ⟨w.heap.size + 1, 1, none⟩) (by first | (with_reducible assumption) | (simp; done) | omega | (simp; omega))]; simp [go_sem]
            have bAw1 : w.heap.size + 1 < w1.heap.size := by have := hw1.size; first | omega | (simp at this; omega)
            have dAw1 : w.heap.size + 1 < w1.heap.size + 1 := Nat.lt_succ_of_lt bAw1
            have hBw1 : Below w.heap.size w w1 := hmw1
            have zw1 : w.heap.size ≤ w1.heap.size := hBw1.size
            clear hmw1 hw1
            rw [hv]
            go_wp2_with fail
            refine (rwhole_any _ (by omega) _).mono ?_
            rintro e w2 ⟨rfl, hw2⟩
            have hmw2 : Below w1.heap.size w1 w2 := on_below hw2 (by repeat' (first | (with_reducible exact Below.refl _ _) | (with_reducible assumption) | (with_reducible refine drewN_below ?_ _) | (with_reducible refine Below.drew ?_) | (with_reducible refine Below.alloc ?_ ?_ _) | (with_reducible refine Below.setCell ?_ ?_ _) | (simp; done) | omega | (simp; omega))) (by first | (with_reducible assumption) | (simp; done) | omega | (simp; omega))
            have cG0w2 := (hmw2.cell (p := ⟨w.heap.size, 0, none⟩) bGw1).trans cG0w1
            have cG1w2 := (hmw2.cell (p := ⟨w.heap.size, 1, none⟩) bGw1).trans cG1w1
            have cG2w2 := (hmw2.cell (p := ⟨w.heap.size, 2, none⟩) bGw1).trans cG2w1
            have cG3w2 := (hmw2.cell (p := ⟨w.heap.size, 3, none⟩) bGw1).trans cG3w1
            have cG4w2 := (hmw2.cell (p := ⟨w.heap.size, 4, none⟩) bGw1).trans cG4w1
            have bGw2 : w.heap.size < w2.heap.size := Nat.lt_of_lt_of_le bGw1 hmw2.size
            have dGw2 : w.heap.size < w2.heap.size + 1 := Nat.lt_succ_of_lt bGw2
            have cA0w2 := (hmw2.cell (p := ⟨w.heap.size + 1, 0, none⟩) bAw1).trans cA0w1
            have cA1w2 := (hmw2.cell (p := ⟨w.heap.size + 1, 1, none⟩) bAw1).trans cA1w1
            have bAw2 : w.heap.size + 1 < w2.heap.size := Nat.lt_of_lt_of_le bAw1 hmw2.size
            have dAw2 : w.heap.size + 1 < w2.heap.size + 1 := Nat.lt_succ_of_lt bAw2
            have hBw2 : Below w.heap.size w w2 := Below.trans hBw1 (hmw2.mono hBw1.size)
            have zw2 : w.heap.size ≤ w2.heap.size := hBw2.size
            clear hmw2 hw2 zw1 hBw1 dAw1 bAw1 cA1w1 cA0w1 dGw1 bGw1 cG4w1 cG3w1 cG2w1 cG1w1 cG0w1
            rw [hT.out]
            go_wp2_with fail
            refine (radd_any _ _ _ _ _).mono ?_
            rintro e w3 ⟨rfl, hw3⟩
            have hmw3 : Below w2.heap.size w2 w3 := on_below hw3 (by repeat' (first | (with_reducible exact Below.refl _ _) | (with_reducible assumption) | (with_reducible refine drewN_below ?_ _) | (with_reducible refine Below.drew ?_) | (with_reducible refine Below.alloc ?_ ?_ _) | (with_reducible refine Below.setCell ?_ ?_ _) | (simp; done) | omega | (simp; omega))) (by first | (with_reducible assumption) | (simp; done) | omega | (simp; omega))
            have cG0w3 := (hmw3.cell (p := ⟨w.heap.size, 0, none⟩) bGw2).trans cG0w2
            have cG1w3 := (hmw3.cell (p := ⟨w.heap.size, 1, none⟩) bGw2).trans cG1w2
            have cG2w3 := (hmw3.cell (p := ⟨w.heap.size, 2, none⟩) bGw2).trans cG2w2
            have cG3w3 := (hmw3.cell (p := ⟨w.heap.size, 3, none⟩) bGw2).trans cG3w2
            have cG4w3 := (hmw3.cell (p := ⟨w.heap.size, 4, none⟩) bGw2).trans cG4w2
            have bGw3 : w.heap.size < w3.heap.size := Nat.lt_of_lt_of_le bGw2 hmw3.size
            have dGw3 : w.heap.size < w3.heap.size + 1 := Nat.lt_succ_of_lt bGw3
            have cA0w3 := (hmw3.cell (p := ⟨w.heap.size + 1, 0, none⟩) bAw2).trans cA0w2
            have cA1w3 := (hmw3.cell (p := ⟨w.heap.size + 1, 1, none⟩) bAw2).trans cA1w2
            have bAw3 : w.heap.size + 1 < w3.heap.size := Nat.lt_of_lt_of_le bAw2 hmw3.size
            have dAw3 : w.heap.size + 1 < w3.heap.size + 1 := Nat.lt_succ_of_lt bAw3
            have cT0w3 : w3.cell? ⟨w2.heap.size, 0, none⟩ = some (.int .i64 t1) := by rw [hw3.cell (p := ⟨w2.heap.size, 0, none⟩) (by first | (with_reducible assumption) | (simp; done) | omega | (simp; omega))]; simp [go_sem]
            have cT1w3 : w3.cell? ⟨w2.heap.size, 1, none⟩ = some (.int .i64 t2) := by rw [hw3.cell (p := ⟨w2.heap.size, 1, none⟩) (by first | (with_reducible assumption) | (simp; done) | omega | (simp; omega))]; simp [go_sem]
            have bTw3 : w2.heap.size < w3.heap.size := by have := hw3.size; first | omega | (simp at this; omega)
            have dTw3 : w2.heap.size < w3.heap.size + 1 := Nat.lt_succ_of_lt bTw3
            have hBw3 : Below w.heap.size w w3 := Below.trans hBw2 (hmw3.mono hBw2.size)
            have zw3 : w.heap.size ≤ w3.heap.size := hBw3.size
            clear hmw3 hw3 zw2 hBw2 dAw2 bAw2 cA1w2 cA0w2 dGw2 bGw2 cG4w2 cG3w2 cG2w2 cG1w2 cG0w2
            rw [hM.out]
            go_wp2_with fail
            go_quiet (fail)
            go_wp2_with fail
            refine (Value_any _ _ _ _ _ _ hI hF hc _).mono ?_
            rintro e w4 ⟨rfl, hw4⟩
            have hmw4 : Below w3.heap.size w3 w4 := on_below hw4 (by repeat' (first | (with_reducible exact Below.refl _ _) | (with_reducible assumption) | (with_reducible refine drewN_below ?_ _) | (with_reducible refine Below.drew ?_) | (with_reducible refine Below.alloc ?_ ?_ _) | (with_reducible refine Below.setCell ?_ ?_ _) | (simp; done) | omega | (simp; omega))) (by first | (with_reducible assumption) | (simp; done) | omega | (simp; omega))
            have cG0w4 := (hmw4.cell (p := ⟨w.heap.size, 0, none⟩) bGw3).trans cG0w3
            have cG1w4 := (hmw4.cell (p := ⟨w.heap.size, 1, none⟩) bGw3).trans cG1w3
            have cG2w4 := (hmw4.cell (p := ⟨w.heap.size, 2, none⟩) bGw3).trans cG2w3
            have cG3w4 := (hmw4.cell (p := ⟨w.heap.size, 3, none⟩) bGw3).trans cG3w3
            have cG4w4 := (hmw4.cell (p := ⟨w.heap.size, 4, none⟩) bGw3).trans cG4w3
            have bGw4 : w.heap.size < w4.heap.size := Nat.lt_of_lt_of_le bGw3 hmw4.size
            have dGw4 : w.heap.size < w4.heap.size + 1 := Nat.lt_succ_of_lt bGw4
            have cA0w4 := (hmw4.cell (p := ⟨w.heap.size + 1, 0, none⟩) bAw3).trans cA0w3
            have cA1w4 := (hmw4.cell (p := ⟨w.heap.size + 1, 1, none⟩) bAw3).trans cA1w3
            have bAw4 : w.heap.size + 1 < w4.heap.size := Nat.lt_of_lt_of_le bAw3 hmw4.size
            have dAw4 : w.heap.size + 1 < w4.heap.size + 1 := Nat.lt_succ_of_lt bAw4
            have cT0w4 := (hmw4.cell (p := ⟨w2.heap.size, 0, none⟩) bTw3).trans cT0w3
            have cT1w4 := (hmw4.cell (p := ⟨w2.heap.size, 1, none⟩) bTw3).trans cT1w3
            have bTw4 : w2.heap.size < w4.heap.size := Nat.lt_of_lt_of_le bTw3 hmw4.size
            have dTw4 : w2.heap.size < w4.heap.size + 1 := Nat.lt_succ_of_lt bTw4
            have cM0w4 : w4.cell? ⟨w3.heap.size, 0, none⟩ = some (.int .i64 m1) := by rw [hw4.cell (p := ⟨w3.heap.size, 0, none⟩) (by first | (with_reducible assumption) | (simp; done) | omega | (simp; omega))]; simp [go_sem]
            have cM1w4 : w4.cell? ⟨w3.heap.size, 1, none⟩ = some (.int .i64 m2) := by rw [hw4.cell (p := ⟨w3.heap.size, 1, none⟩) (by first | (with_reducible assumption) | (simp; done) | omega | (simp; omega))]; simp [go_sem]
            have bMw4 : w3.heap.size < w4.heap.size := by have := hw4.size; first | omega | (simp at this; omega)
            have dMw4 : w3.heap.size < w4.heap.size + 1 := Nat.lt_succ_of_lt bMw4
            have hBw4 : Below w.heap.size w w4 := Below.trans hBw3 (hmw4.mono hBw3.size)
            have zw4 : w.heap.size ≤ w4.heap.size := hBw4.size
            clear hmw4 hw4 zw3 hBw3 dTw3 bTw3 cT1w3 cT0w3 dAw3 bAw3 cA1w3 cA0w3 dGw3 bGw3 cG4w3 cG3w3 cG2w3 cG1w3 cG0w3
            rw [HQ.out]
            go_wp2_with fail
            refine (awake_any _).mono ?_
            rintro e w5 ⟨rfl, hw5⟩
            have hmw5 : Below w4.heap.size w4 w5 := on_below hw5 (by repeat' (first | (with_reducible exact Below.refl _ _) | (with_reducible assumption) | (with_reducible refine drewN_below ?_ _) | (with_reducible refine Below.drew ?_) | (with_reducible refine Below.alloc ?_ ?_ _) | (with_reducible refine Below.setCell ?_ ?_ _) | (simp; done) | omega | (simp; omega))) (by first | (with_reducible assumption) | (simp; done) | omega | (simp; omega))
            have cG0w5 := (hmw5.cell (p := ⟨w.heap.size, 0, none⟩) bGw4).trans cG0w4
            have cG1w5 := (hmw5.cell (p := ⟨w.heap.size, 1, none⟩) bGw4).trans cG1w4
            have cG2w5 := (hmw5.cell (p := ⟨w.heap.size, 2, none⟩) bGw4).trans cG2w4
            have cG3w5 := (hmw5.cell (p := ⟨w.heap.size, 3, none⟩) bGw4).trans cG3w4
            have cG4w5 := (hmw5.cell (p := ⟨w.heap.size, 4, none⟩) bGw4).trans cG4w4
            have bGw5 : w.heap.size < w5.heap.size := Nat.lt_of_lt_of_le bGw4 hmw5.size
            have dGw5 : w.heap.size < w5.heap.size + 1 := Nat.lt_succ_of_lt bGw5
            have cA0w5 := (hmw5.cell (p := ⟨w.heap.size + 1, 0, none⟩) bAw4).trans cA0w4
            have cA1w5 := (hmw5.cell (p := ⟨w.heap.size + 1, 1, none⟩) bAw4).trans cA1w4
            have bAw5 : w.heap.size + 1 < w5.heap.size := Nat.lt_of_lt_of_le bAw4 hmw5.size
            have dAw5 : w.heap.size + 1 < w5.heap.size + 1 := Nat.lt_succ_of_lt bAw5
            have cT0w5 := (hmw5.cell (p := ⟨w2.heap.size, 0, none⟩) bTw4).trans cT0w4
            have cT1w5 := (hmw5.cell (p := ⟨w2.heap.size, 1, none⟩) bTw4).trans cT1w4
            have bTw5 : w2.heap.size < w5.heap.size := Nat.lt_of_lt_of_le bTw4 hmw5.size
            have dTw5 : w2.heap.size < w5.heap.size + 1 := Nat.lt_succ_of_lt bTw5
            have cM0w5 := (hmw5.cell (p := ⟨w3.heap.size, 0, none⟩) bMw4).trans cM0w4
            have cM1w5 := (hmw5.cell (p := ⟨w3.heap.size, 1, none⟩) bMw4).trans cM1w4
            have bMw5 : w3.heap.size < w5.heap.size := Nat.lt_of_lt_of_le bMw4 hmw5.size
            have dMw5 : w3.heap.size < w5.heap.size + 1 := Nat.lt_succ_of_lt bMw5
            have cQ0w5 : w5.cell? ⟨w4.heap.size, 0, none⟩ = some (.int .i64 0) := by rw [hw5.cell (p := ⟨w4.heap.size, 0, none⟩) (by first | (with_reducible assumption) | (simp; done) | omega | (simp; omega))]; simp [go_sem]
            have cQ1w5 : w5.cell? ⟨w4.heap.size, 1, none⟩ = some (.int .i64 0) := by rw [hw5.cell (p := ⟨w4.heap.size, 1, none⟩) (by first | (with_reducible assumption) | (simp; done) | omega | (simp; omega))]; simp [go_sem]
            have bQw5 : w4.heap.size < w5.heap.size := by have := hw5.size; first | omega | (simp at this; omega)
            have dQw5 : w4.heap.size < w5.heap.size + 1 := Nat.lt_succ_of_lt bQw5
            have hBw5 : Below w.heap.size w w5 := Below.trans hBw4 (hmw5.mono hBw4.size)
            have zw5 : w.heap.size ≤ w5.heap.size := hBw5.size
            clear hmw5 hw5 zw4 hBw4 dMw4 bMw4 cM1w4 cM0w4 dTw4 bTw4 cT1w4 cT0w4 dAw4 bAw4 cA1w4 cA0w4 dGw4 bGw4 cG4w4 cG3w4 cG2w4 cG1w4 cG0w4
            go_wp2
            go_ret
            exact ⟨rfl, (by repeat' (first | (with_reducible exact Below.refl _ _) | (with_reducible assumption) | (with_reducible refine drewN_below ?_ _) | (with_reducible refine Below.drew ?_) | (with_reducible refine Below.alloc ?_ ?_ _) | (with_reducible refine Below.setCell ?_ ?_ _) | (simp; done) | omega | (simp; omega)))⟩
          · skip
            have HQ := Lib.hid hq
            clear hq
            have HCD := Lib.hid hcd
            clear hcd
            clear HCODE HTURN
            go_enter Tryd.func6, Tryd.ntmps6
            go_wp2_with fail
            refine (valid_any _ _ _ _ _ hI hF _).mono ?_
            rintro e w1 ⟨rfl, hw1⟩
            have hmw1 : Below w.heap.size w w1 := on_below hw1 (by repeat' (first | (with_reducible exact Below.refl _ _) | (with_reducible assumption) | (with_reducible refine drewN_below ?_ _) | (with_reducible refine Below.drew ?_) | (with_reducible refine Below.alloc ?_ ?_ _) | (with_reducible refine Below.setCell ?_ ?_ _) | (simp; done) | omega | (simp; omega))) (by first | (with_reducible assumption) | (simp; done) | omega | (simp; omega))
            have cG0w1 : w1.cell? ⟨w.heap.size, 0, none⟩ = some (.string k) := by rw [hw1.cell (p := ⟨w.heap.size, 0, none⟩) (by first | (with_reducible assumption) | (simp; done) | omega | (simp; omega))]; simp [go_sem]
            have cG1w1 : w1.cell? ⟨w.heap.size, 1, none⟩ = some (.int .i64 (i : Int)) := by rw [hw1.cell (p := ⟨w.heap.size, 1, none⟩) (by first | (with_reducible assumption) | (simp; done) | omega | (simp; omega))]; simp [go_sem]
            have cG2w1 : w1.cell? ⟨w.heap.size, 2, none⟩ = some (.int .i64 F) := by rw [hw1.cell (p := ⟨w.heap.size, 2, none⟩) (by first | (with_reducible assumption) | (simp; done) | omega | (simp; omega))]; simp [go_sem]
            have cG3w1 : w1.cell? ⟨w.heap.size, 3, none⟩ = some (.string r) := by rw [hw1.cell (p := ⟨w.heap.size, 3, none⟩) (by first | (with_reducible assumption) | (simp; done) | omega | (simp; omega))]; simp [go_sem]
            have cG4w1 : w1.cell? ⟨w.heap.size, 4, none⟩ = some (.string o) := by rw [hw1.cell (p := ⟨w.heap.size, 4, none⟩) (by first | (with_reducible assumption) | (simp; done) | omega | (simp; omega))]; simp [go_sem]
            have bGw1 : w.heap.size < w1.heap.size := by have := hw1.size; first | omega | (simp at this; omega)
            have dGw1 : w.heap.size < w1.heap.size + 1 := Nat.lt_succ_of_lt bGw1
            have cA0w1 : w1.cell? ⟨w.heap.size + 1, 0, none⟩ = some (.int .i64 an) := by rw [hw1.cell (p := ⟨w.heap.size + 1, 0, none⟩) (by first | (with_reducible assumption) | (simp; done) | omega | (simp; omega))]; simp [go_sem]
            have cA1w1 : w1.cell? ⟨w.heap.size + 1, 1, none⟩ = some (.int .i64 ad) := by rw [hw1.cell (p := ⟨w.heap.size + 1, 1, none⟩) (by first | (with_reducible assumption) | (simp; done) | omega | (simp; omega))]; simp [go_sem]
            have bAw1 : w.heap.size + 1 < w1.heap.size := by have := hw1.size; first | omega | (simp at this; omega)
            have dAw1 : w.heap.size + 1 < w1.heap.size + 1 := Nat.lt_succ_of_lt bAw1
            have hBw1 : Below w.heap.size w w1 := hmw1
            have zw1 : w.heap.size ≤ w1.heap.size := hBw1.size
            clear hmw1 hw1
            rw [hv]
            go_wp2_with fail
            refine (rwhole_any _ (by omega) _).mono ?_
            rintro e w2 ⟨rfl, hw2⟩
            have hmw2 : Below w1.heap.size w1 w2 := on_below hw2 (by repeat' (first | (with_reducible exact Below.refl _ _) | (with_reducible assumption) | (with_reducible refine drewN_below ?_ _) | (with_reducible refine Below.drew ?_) | (with_reducible refine Below.alloc ?_ ?_ _) | (with_reducible refine Below.setCell ?_ ?_ _) | (simp; done) | omega | (simp; omega))) (by first | (with_reducible assumption) | (simp; done) | omega | (simp; omega))
            have cG0w2 := (hmw2.cell (p := ⟨w.heap.size, 0, none⟩) bGw1).trans cG0w1
            have cG1w2 := (hmw2.cell (p := ⟨w.heap.size, 1, none⟩) bGw1).trans cG1w1
            have cG2w2 := (hmw2.cell (p := ⟨w.heap.size, 2, none⟩) bGw1).trans cG2w1
            have cG3w2 := (hmw2.cell (p := ⟨w.heap.size, 3, none⟩) bGw1).trans cG3w1
            have cG4w2 := (hmw2.cell (p := ⟨w.heap.size, 4, none⟩) bGw1).trans cG4w1
            have bGw2 : w.heap.size < w2.heap.size := Nat.lt_of_lt_of_le bGw1 hmw2.size
            have dGw2 : w.heap.size < w2.heap.size + 1 := Nat.lt_succ_of_lt bGw2
            have cA0w2 := (hmw2.cell (p := ⟨w.heap.size + 1, 0, none⟩) bAw1).trans cA0w1
            have cA1w2 := (hmw2.cell (p := ⟨w.heap.size + 1, 1, none⟩) bAw1).trans cA1w1
            have bAw2 : w.heap.size + 1 < w2.heap.size := Nat.lt_of_lt_of_le bAw1 hmw2.size
            have dAw2 : w.heap.size + 1 < w2.heap.size + 1 := Nat.lt_succ_of_lt bAw2
            have hBw2 : Below w.heap.size w w2 := Below.trans hBw1 (hmw2.mono hBw1.size)
            have zw2 : w.heap.size ≤ w2.heap.size := hBw2.size
            clear hmw2 hw2 zw1 hBw1 dAw1 bAw1 cA1w1 cA0w1 dGw1 bGw1 cG4w1 cG3w1 cG2w1 cG1w1 cG0w1
            rw [hT.out]
            go_wp2_with fail
            refine (radd_any _ _ _ _ _).mono ?_
            rintro e w3 ⟨rfl, hw3⟩
            have hmw3 : Below w2.heap.size w2 w3 := on_below hw3 (by repeat' (first | (with_reducible exact Below.refl _ _) | (with_reducible assumption) | (with_reducible refine drewN_below ?_ _) | (with_reducible refine Below.drew ?_) | (with_reducible refine Below.alloc ?_ ?_ _) | (with_reducible refine Below.setCell ?_ ?_ _) | (simp; done) | omega | (simp; omega))) (by first | (with_reducible assumption) | (simp; done) | omega | (simp; omega))
            have cG0w3 := (hmw3.cell (p := ⟨w.heap.size, 0, none⟩) bGw2).trans cG0w2
            have cG1w3 := (hmw3.cell (p := ⟨w.heap.size, 1, none⟩) bGw2).trans cG1w2
            have cG2w3 := (hmw3.cell (p := ⟨w.heap.size, 2, none⟩) bGw2).trans cG2w2
            have cG3w3 := (hmw3.cell (p := ⟨w.heap.size, 3, none⟩) bGw2).trans cG3w2
            have cG4w3 := (hmw3.cell (p := ⟨w.heap.size, 4, none⟩) bGw2).trans cG4w2
            have bGw3 : w.heap.size < w3.heap.size := Nat.lt_of_lt_of_le bGw2 hmw3.size
            have dGw3 : w.heap.size < w3.heap.size + 1 := Nat.lt_succ_of_lt bGw3
            have cA0w3 := (hmw3.cell (p := ⟨w.heap.size + 1, 0, none⟩) bAw2).trans cA0w2
            have cA1w3 := (hmw3.cell (p := ⟨w.heap.size + 1, 1, none⟩) bAw2).trans cA1w2
            have bAw3 : w.heap.size + 1 < w3.heap.size := Nat.lt_of_lt_of_le bAw2 hmw3.size
            have dAw3 : w.heap.size + 1 < w3.heap.size + 1 := Nat.lt_succ_of_lt bAw3
            have cT0w3 : w3.cell? ⟨w2.heap.size, 0, none⟩ = some (.int .i64 t1) := by rw [hw3.cell (p := ⟨w2.heap.size, 0, none⟩) (by first | (with_reducible assumption) | (simp; done) | omega | (simp; omega))]; simp [go_sem]
            have cT1w3 : w3.cell? ⟨w2.heap.size, 1, none⟩ = some (.int .i64 t2) := by rw [hw3.cell (p := ⟨w2.heap.size, 1, none⟩) (by first | (with_reducible assumption) | (simp; done) | omega | (simp; omega))]; simp [go_sem]
            have bTw3 : w2.heap.size < w3.heap.size := by have := hw3.size; first | omega | (simp at this; omega)
            have dTw3 : w2.heap.size < w3.heap.size + 1 := Nat.lt_succ_of_lt bTw3
            have hBw3 : Below w.heap.size w w3 := Below.trans hBw2 (hmw3.mono hBw2.size)
            have zw3 : w.heap.size ≤ w3.heap.size := hBw3.size
            clear hmw3 hw3 zw2 hBw2 dAw2 bAw2 cA1w2 cA0w2 dGw2 bGw2 cG4w2 cG3w2 cG2w2 cG1w2 cG0w2
            rw [hM.out]
            go_wp2_with fail
            go_quiet (fail)
            go_wp2_with fail
            refine (Value_any _ _ _ _ _ _ hI hF hc _).mono ?_
            rintro e w4 ⟨rfl, hw4⟩
            have hmw4 : Below w3.heap.size w3 w4 := on_below hw4 (by repeat' (first | (with_reducible exact Below.refl _ _) | (with_reducible assumption) | (with_reducible refine drewN_below ?_ _) | (with_reducible refine Below.drew ?_) | (with_reducible refine Below.alloc ?_ ?_ _) | (with_reducible refine Below.setCell ?_ ?_ _) | (simp; done) | omega | (simp; omega))) (by first | (with_reducible assumption) | (simp; done) | omega | (simp; omega))
            have cG0w4 := (hmw4.cell (p := ⟨w.heap.size, 0, none⟩) bGw3).trans cG0w3
            have cG1w4 := (hmw4.cell (p := ⟨w.heap.size, 1, none⟩) bGw3).trans cG1w3
            have cG2w4 := (hmw4.cell (p := ⟨w.heap.size, 2, none⟩) bGw3).trans cG2w3
            have cG3w4 := (hmw4.cell (p := ⟨w.heap.size, 3, none⟩) bGw3).trans cG3w3
            have cG4w4 := (hmw4.cell (p := ⟨w.heap.size, 4, none⟩) bGw3).trans cG4w3
            have bGw4 : w.heap.size < w4.heap.size := Nat.lt_of_lt_of_le bGw3 hmw4.size
            have dGw4 : w.heap.size < w4.heap.size + 1 := Nat.lt_succ_of_lt bGw4
            have cA0w4 := (hmw4.cell (p := ⟨w.heap.size + 1, 0, none⟩) bAw3).trans cA0w3
            have cA1w4 := (hmw4.cell (p := ⟨w.heap.size + 1, 1, none⟩) bAw3).trans cA1w3
            have bAw4 : w.heap.size + 1 < w4.heap.size := Nat.lt_of_lt_of_le bAw3 hmw4.size
            have dAw4 : w.heap.size + 1 < w4.heap.size + 1 := Nat.lt_succ_of_lt bAw4
            have cT0w4 := (hmw4.cell (p := ⟨w2.heap.size, 0, none⟩) bTw3).trans cT0w3
            have cT1w4 := (hmw4.cell (p := ⟨w2.heap.size, 1, none⟩) bTw3).trans cT1w3
            have bTw4 : w2.heap.size < w4.heap.size := Nat.lt_of_lt_of_le bTw3 hmw4.size
            have dTw4 : w2.heap.size < w4.heap.size + 1 := Nat.lt_succ_of_lt bTw4
            have cM0w4 : w4.cell? ⟨w3.heap.size, 0, none⟩ = some (.int .i64 m1) := by rw [hw4.cell (p := ⟨w3.heap.size, 0, none⟩) (by first | (with_reducible assumption) | (simp; done) | omega | (simp; omega))]; simp [go_sem]
            have cM1w4 : w4.cell? ⟨w3.heap.size, 1, none⟩ = some (.int .i64 m2) := by rw [hw4.cell (p := ⟨w3.heap.size, 1, none⟩) (by first | (with_reducible assumption) | (simp; done) | omega | (simp; omega))]; simp [go_sem]
            have bMw4 : w3.heap.size < w4.heap.size := by have := hw4.size; first | omega | (simp at this; omega)
            have dMw4 : w3.heap.size < w4.heap.size + 1 := Nat.lt_succ_of_lt bMw4
            have hBw4 : Below w.heap.size w w4 := Below.trans hBw3 (hmw4.mono hBw3.size)
            have zw4 : w.heap.size ≤ w4.heap.size := hBw4.size
            clear hmw4 hw4 zw3 hBw3 dTw3 bTw3 cT1w3 cT0w3 dAw3 bAw3 cA1w3 cA0w3 dGw3 bGw3 cG4w3 cG3w3 cG2w3 cG1w3 cG0w3
            rw [HQ.out]
            go_wp2_with fail
            refine (Code_any _ _ _ _ _ _ _ hI hF _).mono ?_
            rintro e w5 ⟨rfl, hw5⟩
            have hmw5 : Below w4.heap.size w4 w5 := on_below hw5 (by repeat' (first | (with_reducible exact Below.refl _ _) | (with_reducible assumption) | (with_reducible refine drewN_below ?_ _) | (with_reducible refine Below.drew ?_) | (with_reducible refine Below.alloc ?_ ?_ _) | (with_reducible refine Below.setCell ?_ ?_ _) | (simp; done) | omega | (simp; omega))) (by first | (with_reducible assumption) | (simp; done) | omega | (simp; omega))
            have cG0w5 := (hmw5.cell (p := ⟨w.heap.size, 0, none⟩) bGw4).trans cG0w4
            have cG1w5 := (hmw5.cell (p := ⟨w.heap.size, 1, none⟩) bGw4).trans cG1w4
            have cG2w5 := (hmw5.cell (p := ⟨w.heap.size, 2, none⟩) bGw4).trans cG2w4
            have cG3w5 := (hmw5.cell (p := ⟨w.heap.size, 3, none⟩) bGw4).trans cG3w4
            have cG4w5 := (hmw5.cell (p := ⟨w.heap.size, 4, none⟩) bGw4).trans cG4w4
            have bGw5 : w.heap.size < w5.heap.size := Nat.lt_of_lt_of_le bGw4 hmw5.size
            have dGw5 : w.heap.size < w5.heap.size + 1 := Nat.lt_succ_of_lt bGw5
            have cA0w5 := (hmw5.cell (p := ⟨w.heap.size + 1, 0, none⟩) bAw4).trans cA0w4
            have cA1w5 := (hmw5.cell (p := ⟨w.heap.size + 1, 1, none⟩) bAw4).trans cA1w4
            have bAw5 : w.heap.size + 1 < w5.heap.size := Nat.lt_of_lt_of_le bAw4 hmw5.size
            have dAw5 : w.heap.size + 1 < w5.heap.size + 1 := Nat.lt_succ_of_lt bAw5
            have cT0w5 := (hmw5.cell (p := ⟨w2.heap.size, 0, none⟩) bTw4).trans cT0w4
            have cT1w5 := (hmw5.cell (p := ⟨w2.heap.size, 1, none⟩) bTw4).trans cT1w4
            have bTw5 : w2.heap.size < w5.heap.size := Nat.lt_of_lt_of_le bTw4 hmw5.size
            have dTw5 : w2.heap.size < w5.heap.size + 1 := Nat.lt_succ_of_lt bTw5
            have cM0w5 := (hmw5.cell (p := ⟨w3.heap.size, 0, none⟩) bMw4).trans cM0w4
            have cM1w5 := (hmw5.cell (p := ⟨w3.heap.size, 1, none⟩) bMw4).trans cM1w4
            have bMw5 : w3.heap.size < w5.heap.size := Nat.lt_of_lt_of_le bMw4 hmw5.size
            have dMw5 : w3.heap.size < w5.heap.size + 1 := Nat.lt_succ_of_lt bMw5
            have cQ0w5 : w5.cell? ⟨w4.heap.size, 0, none⟩ = some (.int .i64 q1) := by rw [hw5.cell (p := ⟨w4.heap.size, 0, none⟩) (by first | (with_reducible assumption) | (simp; done) | omega | (simp; omega))]; simp [go_sem]
            have cQ1w5 : w5.cell? ⟨w4.heap.size, 1, none⟩ = some (.int .i64 q2) := by rw [hw5.cell (p := ⟨w4.heap.size, 1, none⟩) (by first | (with_reducible assumption) | (simp; done) | omega | (simp; omega))]; simp [go_sem]
            have bQw5 : w4.heap.size < w5.heap.size := by have := hw5.size; first | omega | (simp at this; omega)
            have dQw5 : w4.heap.size < w5.heap.size + 1 := Nat.lt_succ_of_lt bQw5
            have hBw5 : Below w.heap.size w w5 := Below.trans hBw4 (hmw5.mono hBw4.size)
            have zw5 : w.heap.size ≤ w5.heap.size := hBw5.size
            clear hmw5 hw5 zw4 hBw4 dMw4 bMw4 cM1w4 cM0w4 dTw4 bTw4 cT1w4 cT0w4 dAw4 bAw4 cA1w4 cA0w4 dGw4 bGw4 cG4w4 cG3w4 cG2w4 cG1w4 cG0w4
            rw [HCD.out]
            go_wp2_with fail
            refine (awake_any _).mono ?_
            rintro e w6 ⟨rfl, hw6⟩
            have hmw6 : Below w5.heap.size w5 w6 := on_below hw6 (by repeat' (first | (with_reducible exact Below.refl _ _) | (with_reducible assumption) | (with_reducible refine drewN_below ?_ _) | (with_reducible refine Below.drew ?_) | (with_reducible refine Below.alloc ?_ ?_ _) | (with_reducible refine Below.setCell ?_ ?_ _) | (simp; done) | omega | (simp; omega))) (by first | (with_reducible assumption) | (simp; done) | omega | (simp; omega))
            have cG0w6 := (hmw6.cell (p := ⟨w.heap.size, 0, none⟩) bGw5).trans cG0w5
            have cG1w6 := (hmw6.cell (p := ⟨w.heap.size, 1, none⟩) bGw5).trans cG1w5
            have cG2w6 := (hmw6.cell (p := ⟨w.heap.size, 2, none⟩) bGw5).trans cG2w5
            have cG3w6 := (hmw6.cell (p := ⟨w.heap.size, 3, none⟩) bGw5).trans cG3w5
            have cG4w6 := (hmw6.cell (p := ⟨w.heap.size, 4, none⟩) bGw5).trans cG4w5
            have bGw6 : w.heap.size < w6.heap.size := Nat.lt_of_lt_of_le bGw5 hmw6.size
            have dGw6 : w.heap.size < w6.heap.size + 1 := Nat.lt_succ_of_lt bGw6
            have cA0w6 := (hmw6.cell (p := ⟨w.heap.size + 1, 0, none⟩) bAw5).trans cA0w5
            have cA1w6 := (hmw6.cell (p := ⟨w.heap.size + 1, 1, none⟩) bAw5).trans cA1w5
            have bAw6 : w.heap.size + 1 < w6.heap.size := Nat.lt_of_lt_of_le bAw5 hmw6.size
            have dAw6 : w.heap.size + 1 < w6.heap.size + 1 := Nat.lt_succ_of_lt bAw6
            have cT0w6 := (hmw6.cell (p := ⟨w2.heap.size, 0, none⟩) bTw5).trans cT0w5
            have cT1w6 := (hmw6.cell (p := ⟨w2.heap.size, 1, none⟩) bTw5).trans cT1w5
            have bTw6 : w2.heap.size < w6.heap.size := Nat.lt_of_lt_of_le bTw5 hmw6.size
            have dTw6 : w2.heap.size < w6.heap.size + 1 := Nat.lt_succ_of_lt bTw6
            have cM0w6 := (hmw6.cell (p := ⟨w3.heap.size, 0, none⟩) bMw5).trans cM0w5
            have cM1w6 := (hmw6.cell (p := ⟨w3.heap.size, 1, none⟩) bMw5).trans cM1w5
            have bMw6 : w3.heap.size < w6.heap.size := Nat.lt_of_lt_of_le bMw5 hmw6.size
            have dMw6 : w3.heap.size < w6.heap.size + 1 := Nat.lt_succ_of_lt bMw6
            have cQ0w6 := (hmw6.cell (p := ⟨w4.heap.size, 0, none⟩) bQw5).trans cQ0w5
            have cQ1w6 := (hmw6.cell (p := ⟨w4.heap.size, 1, none⟩) bQw5).trans cQ1w5
            have bQw6 : w4.heap.size < w6.heap.size := Nat.lt_of_lt_of_le bQw5 hmw6.size
            have dQw6 : w4.heap.size < w6.heap.size + 1 := Nat.lt_succ_of_lt bQw6
            have hBw6 : Below w.heap.size w w6 := Below.trans hBw5 (hmw6.mono hBw5.size)
            have zw6 : w.heap.size ≤ w6.heap.size := hBw6.size
            clear hmw6 hw6 zw5 hBw5 dQw5 bQw5 cQ1w5 cQ0w5 dMw5 bMw5 cM1w5 cM0w5 dTw5 bTw5 cT1w5 cT0w5 dAw5 bAw5 cA1w5 cA0w5 dGw5 bGw5 cG4w5 cG3w5 cG2w5 cG1w5 cG0w5
            go_wp2
            go_ret
            exact ⟨rfl, (by repeat' (first | (with_reducible exact Below.refl _ _) | (with_reducible assumption) | (with_reducible refine drewN_below ?_ _) | (with_reducible refine Below.drew ?_) | (with_reducible refine Below.alloc ?_ ?_ _) | (with_reducible refine Below.setCell ?_ ?_ _) | (simp; done) | omega | (simp; omega)))⟩
        · cases hm : Q.isq m1 m2
          · skip
            rcases HCODE.out with hq | ⟨q1, q2, hq, hcd⟩
            · skip
              have HQ := Lib.hid hq
              clear hq
              clear HCODE HTURN
              go_enter Tryd.func6, Tryd.ntmps6
              go_wp2_with fail
              refine (valid_any _ _ _ _ _ hI hF _).mono ?_
              rintro e w1 ⟨rfl, hw1⟩
              have hmw1 : Below w.heap.size w w1 := on_below hw1 (by repeat' (first | (with_reducible exact Below.refl _ _) | (with_reducible assumption) | (with_reducible refine drewN_below ?_ _) | (with_reducible refine Below.drew ?_) | (with_reducible refine Below.alloc ?_ ?_ _) | (with_reducible refine Below.setCell ?_ ?_ _) | (simp; done) | omega | (simp; omega))) (by first | (with_reducible assumption) | (simp; done) | omega | (simp; omega))
              have cG0w1 : w1.cell? ⟨w.heap.size, 0, none⟩ = some (.string k) := by rw [hw1.cell (p := ⟨w.heap.size, 0, none⟩) (by first | (with_reducible assumption) | (simp; done) | omega | (simp; omega))]; simp [go_sem]
              have cG1w1 : w1.cell? ⟨w.heap.size, 1, none⟩ = some (.int .i64 (i : Int)) := by rw [hw1.cell (p := ⟨w.heap.size, 1, none⟩) (by first | (with_reducible assumption) | (simp; done) | omega | (simp; omega))]; simp [go_sem]
              have cG2w1 : w1.cell? ⟨w.heap.size, 2, none⟩ = some (.int .i64 F) := by rw [hw1.cell (p := ⟨w.heap.size, 2, none⟩) (by first | (with_reducible assumption) | (simp; done) | omega | (simp; omega))]; simp [go_sem]
              have cG3w1 : w1.cell? ⟨w.heap.size, 3, none⟩ = some (.string r) := by rw [hw1.cell (p := ⟨w.heap.size, 3, none⟩) (by first | (with_reducible assumption) | (simp; done) | omega | (simp; omega))]; simp [go_sem]
              have cG4w1 : w1.cell? ⟨w.heap.size, 4, none⟩ = some (.string o) := by rw [hw1.cell (p := ⟨w.heap.size, 4, none⟩) (by first | (with_reducible assumption) | (simp; done) | omega | (simp; omega))]; simp [go_sem]
              have bGw1 : w.heap.size < w1.heap.size := by have := hw1.size; first | omega | (simp at this; omega)
              have dGw1 : w.heap.size < w1.heap.size + 1 := Nat.lt_succ_of_lt bGw1
              have cA0w1 : w1.cell? ⟨w.heap.size + 1, 0, none⟩ = some (.int .i64 an) := by rw [hw1.cell (p := ⟨w.heap.size + 1, 0, none⟩) (by first | (with_reducible assumption) | (simp; done) | omega | (simp; omega))]; simp [go_sem]
              have cA1w1 : w1.cell? ⟨w.heap.size + 1, 1, none⟩ = some (.int .i64 ad) := by rw [hw1.cell (p := ⟨w.heap.size + 1, 1, none⟩) (by first | (with_reducible assumption) | (simp; done) | omega | (simp; omega))]; simp [go_sem]
              have bAw1 : w.heap.size + 1 < w1.heap.size := by have := hw1.size; first | omega | (simp at this; omega)
              have dAw1 : w.heap.size + 1 < w1.heap.size + 1 := Nat.lt_succ_of_lt bAw1
              have hBw1 : Below w.heap.size w w1 := hmw1
              have zw1 : w.heap.size ≤ w1.heap.size := hBw1.size
              clear hmw1 hw1
              rw [hv]
              go_wp2_with fail
              refine (rwhole_any _ (by omega) _).mono ?_
              rintro e w2 ⟨rfl, hw2⟩
              have hmw2 : Below w1.heap.size w1 w2 := on_below hw2 (by repeat' (first | (with_reducible exact Below.refl _ _) | (with_reducible assumption) | (with_reducible refine drewN_below ?_ _) | (with_reducible refine Below.drew ?_) | (with_reducible refine Below.alloc ?_ ?_ _) | (with_reducible refine Below.setCell ?_ ?_ _) | (simp; done) | omega | (simp; omega))) (by first | (with_reducible assumption) | (simp; done) | omega | (simp; omega))
              have cG0w2 := (hmw2.cell (p := ⟨w.heap.size, 0, none⟩) bGw1).trans cG0w1
              have cG1w2 := (hmw2.cell (p := ⟨w.heap.size, 1, none⟩) bGw1).trans cG1w1
              have cG2w2 := (hmw2.cell (p := ⟨w.heap.size, 2, none⟩) bGw1).trans cG2w1
              have cG3w2 := (hmw2.cell (p := ⟨w.heap.size, 3, none⟩) bGw1).trans cG3w1
              have cG4w2 := (hmw2.cell (p := ⟨w.heap.size, 4, none⟩) bGw1).trans cG4w1
              have bGw2 : w.heap.size < w2.heap.size := Nat.lt_of_lt_of_le bGw1 hmw2.size
              have dGw2 : w.heap.size < w2.heap.size + 1 := Nat.lt_succ_of_lt bGw2
              have cA0w2 := (hmw2.cell (p := ⟨w.heap.size + 1, 0, none⟩) bAw1).trans cA0w1
              have cA1w2 := (hmw2.cell (p := ⟨w.heap.size + 1, 1, none⟩) bAw1).trans cA1w1
              have bAw2 : w.heap.size + 1 < w2.heap.size := Nat.lt_of_lt_of_le bAw1 hmw2.size
              have dAw2 : w.heap.size + 1 < w2.heap.size + 1 := Nat.lt_succ_of_lt bAw2
              have hBw2 : Below w.heap.size w w2 := Below.trans hBw1 (hmw2.mono hBw1.size)
              have zw2 : w.heap.size ≤ w2.heap.size := hBw2.size
              clear hmw2 hw2 zw1 hBw1 dAw1 bAw1 cA1w1 cA0w1 dGw1 bGw1 cG4w1 cG3w1 cG2w1 cG1w1 cG0w1
              rw [hT.out]
              go_wp2_with fail
              refine (radd_any _ _ _ _ _).mono ?_
              rintro e w3 ⟨rfl, hw3⟩
              have hmw3 : Below w2.heap.size w2 w3 := on_below hw3 (by repeat' (first | (with_reducible exact Below.refl _ _) | (with_reducible assumption) | (with_reducible refine drewN_below ?_ _) | (with_reducible refine Below.drew ?_) | (with_reducible refine Below.alloc ?_ ?_ _) | (with_reducible refine Below.setCell ?_ ?_ _) | (simp; done) | omega | (simp; omega))) (by first | (with_reducible assumption) | (simp; done) | omega | (simp; omega))
              have cG0w3 := (hmw3.cell (p := ⟨w.heap.size, 0, none⟩) bGw2).trans cG0w2
              have cG1w3 := (hmw3.cell (p := ⟨w.heap.size, 1, none⟩) bGw2).trans cG1w2
              have cG2w3 := (hmw3.cell (p := ⟨w.heap.size, 2, none⟩) bGw2).trans cG2w2
              have cG3w3 := (hmw3.cell (p := ⟨w.heap.size, 3, none⟩) bGw2).trans cG3w2
              have cG4w3 := (hmw3.cell (p := ⟨w.heap.size, 4, none⟩) bGw2).trans cG4w2
              have bGw3 : w.heap.size < w3.heap.size := Nat.lt_of_lt_of_le bGw2 hmw3.size
              have dGw3 : w.heap.size < w3.heap.size + 1 := Nat.lt_succ_of_lt bGw3
              have cA0w3 := (hmw3.cell (p := ⟨w.heap.size + 1, 0, none⟩) bAw2).trans cA0w2
              have cA1w3 := (hmw3.cell (p := ⟨w.heap.size + 1, 1, none⟩) bAw2).trans cA1w2
              have bAw3 : w.heap.size + 1 < w3.heap.size := Nat.lt_of_lt_of_le bAw2 hmw3.size
              have dAw3 : w.heap.size + 1 < w3.heap.size + 1 := Nat.lt_succ_of_lt bAw3
              have cT0w3 : w3.cell? ⟨w2.heap.size, 0, none⟩ = some (.int .i64 t1) := by rw [hw3.cell (p := ⟨w2.heap.size, 0, none⟩) (by first | (with_reducible assumption) | (simp; done) | omega | (simp; omega))]; simp [go_sem]
              have cT1w3 : w3.cell? ⟨w2.heap.size, 1, none⟩ = some (.int .i64 t2) := by rw [hw3.cell (p := ⟨w2.heap.size, 1, none⟩) (by first | (with_reducible assumption) | (simp; done) | omega | (simp; omega))]; simp [go_sem]
              have bTw3 : w2.heap.size < w3.heap.size := by have := hw3.size; first | omega | (simp at this; omega)
              have dTw3 : w2.heap.size < w3.heap.size + 1 := Nat.lt_succ_of_lt bTw3
              have hBw3 : Below w.heap.size w w3 := Below.trans hBw2 (hmw3.mono hBw2.size)
              have zw3 : w.heap.size ≤ w3.heap.size := hBw3.size
              clear hmw3 hw3 zw2 hBw2 dAw2 bAw2 cA1w2 cA0w2 dGw2 bGw2 cG4w2 cG3w2 cG2w2 cG1w2 cG0w2
              rw [hM.out]
              go_wp2_with fail
              have xG : w.heap.size < w3.heap.size + 1 := by omega
              have xA : w.heap.size + 1 < w3.heap.size + 1 := by omega
              have xT : w2.heap.size < w3.heap.size + 1 := by omega
              have xM : w3.heap.size < w3.heap.size + 1 := by omega
              refine wp_region_held_drew (S := (fun w' => w'.cell? ⟨w.heap.size, 0, none⟩ = some (.string k) ∧ w'.cell? ⟨w.heap.size, 1, none⟩ = some (.int .i64 (i : Int)) ∧ w'.cell? ⟨w.heap.size, 2, none⟩ = some (.int .i64 F) ∧ w'.cell? ⟨w.heap.size, 3, none⟩ = some (.string r) ∧ w'.cell? ⟨w.heap.size, 4, none⟩ = some (.string o) ∧ w'.cell? ⟨w.heap.size + 1, 0, none⟩ = some (.int .i64 an) ∧ w'.cell? ⟨w.heap.size + 1, 1, none⟩ = some (.int .i64 ad) ∧ w'.cell? ⟨w2.heap.size, 0, none⟩ = some (.int .i64 t1) ∧ w'.cell? ⟨w2.heap.size, 1, none⟩ = some (.int .i64 t2) ∧ w'.cell? ⟨w3.heap.size, 0, none⟩ = some (.int .i64 m1) ∧ w'.cell? ⟨w3.heap.size, 1, none⟩ = some (.int .i64 m2) ∧ w3.heap.size + 1 ≤ w'.heap.size ∧ Below w3.heap.size w3 w')) (by kernel_rfl) ?_ ?_
              · (refine ⟨?_, ?_, ?_, ?_, ?_, ?_, ?_, ?_, ?_, ?_, ?_, ?_, ?_⟩ <;> first | assumption | ((repeat' (first | (with_reducible exact Below.refl _ _) | (with_reducible assumption) | (with_reducible refine drewN_below ?_ _) | (with_reducible refine Below.drew ?_) | (with_reducible refine Below.alloc ?_ ?_ _) | (with_reducible refine Below.setCell ?_ ?_ _) | (simp; done) | omega | (simp; omega))); done) | (simp [*]; done) | (simp [go_sem, *]; done) | (simp; omega))
              intro hH0
              refine wpAnyH_take (i := 0) (v := ?_) rfl (by kernel_rfl) (by kernel_rfl) (by kernel_rfl) (fun _ _ _ h => h) (Or.inl ⟨by rfl, ?_⟩) (by assumption) ?_
              rotate_left
              focus (intro wq hSq; (try dsimp only at hSq); go_simp; first | done | (with_reducible rfl))
              (try simp only [Act.put, List.getElem_toArray, List.getElem_cons_zero, List.setIfInBounds_toArray, List.set_cons_zero, List.set_cons_succ])
              refine wpAnyH_take (i := 1) (v := ?_) rfl (by kernel_rfl) (by kernel_rfl) (by kernel_rfl) (fun _ _ _ h => h) (Or.inl ⟨by rfl, ?_⟩) (by assumption) ?_
              rotate_left
              focus (intro wq hSq; (try dsimp only at hSq); go_simp; first | done | (with_reducible rfl))
              (try simp only [Act.put, List.getElem_toArray, List.getElem_cons_succ, List.getElem_cons_zero, List.setIfInBounds_toArray, List.set_cons_zero, List.set_cons_succ])
              refine wpAnyH_take (i := 2) (v := ?_) rfl (by kernel_rfl) (by kernel_rfl) (by kernel_rfl) (fun _ _ _ h => h) (Or.inl ⟨by rfl, ?_⟩) (by assumption) ?_
              rotate_left
              focus (intro wq hSq; (try dsimp only at hSq); go_simp; first | done | (with_reducible rfl))
              (try simp only [Act.put, List.getElem_toArray, List.getElem_cons_succ, List.getElem_cons_zero, List.setIfInBounds_toArray, List.set_cons_zero, List.set_cons_succ])
              refine wpAnyH_take (i := 3) (v := ?_) rfl (by kernel_rfl) (by kernel_rfl) (by kernel_rfl) (fun _ _ _ h => h) (Or.inl ⟨by rfl, ?_⟩) (by assumption) ?_
              rotate_left
              focus (intro wq hSq; (try dsimp only at hSq); go_simp; first | done | (with_reducible rfl))
              (try simp only [Act.put, List.getElem_toArray, List.getElem_cons_succ, List.getElem_cons_zero, List.setIfInBounds_toArray, List.set_cons_zero, List.set_cons_succ])
              refine wpAnyH_take (i := 4) (v := ?_) rfl (by kernel_rfl) (by kernel_rfl) (by kernel_rfl) (fun _ _ _ h => h) (Or.inl ⟨by rfl, ?_⟩) (by assumption) ?_
              rotate_left
              focus (intro wq hSq; (try dsimp only at hSq); go_simp; first | done | (with_reducible rfl))
              (try simp only [Act.put, List.getElem_toArray, List.getElem_cons_succ, List.getElem_cons_zero, List.setIfInBounds_toArray, List.set_cons_zero, List.set_cons_succ])
              refine wpAnyH_take (i := 5) (v := ?_) rfl (by kernel_rfl) (by kernel_rfl) (by kernel_rfl) (fun _ _ _ h => h) (Or.inl ⟨by rfl, ?_⟩) (by assumption) ?_
              rotate_left
              focus (intro wq hSq; (try dsimp only at hSq); go_simp; first | done | (with_reducible rfl))
              (try simp only [Act.put, List.getElem_toArray, List.getElem_cons_succ, List.getElem_cons_zero, List.setIfInBounds_toArray, List.set_cons_zero, List.set_cons_succ])
              refine wpAnyH_take (i := 6) (v := ?_) rfl (by kernel_rfl) (by kernel_rfl) (by kernel_rfl) (fun _ _ _ h => h) (Or.inl ⟨by rfl, ?_⟩) (by assumption) ?_
              rotate_left
              focus (intro wq hSq; (try dsimp only at hSq); go_simp; first | done | (with_reducible rfl))
              (try simp only [Act.put, List.getElem_toArray, List.getElem_cons_succ, List.getElem_cons_zero, List.setIfInBounds_toArray, List.set_cons_zero, List.set_cons_succ])
              refine wpAnyH_take (i := 7) (v := ?_) rfl (by kernel_rfl) (by kernel_rfl) (by kernel_rfl) (fun _ _ _ h => h) (Or.inl ⟨by rfl, ?_⟩) (by assumption) ?_
              rotate_left
              focus (intro wq hSq; (try dsimp only at hSq); go_simp; first | done | (with_reducible rfl))
              (try simp only [Act.put, List.getElem_toArray, List.getElem_cons_succ, List.getElem_cons_zero, List.setIfInBounds_toArray, List.set_cons_zero, List.set_cons_succ])
              refine wpAnyH_take (i := 8) (v := ?_) rfl (by kernel_rfl) (by kernel_rfl) (by kernel_rfl) (fun _ _ _ h => h) (Or.inl ⟨by rfl, ?_⟩) (by assumption) ?_
              rotate_left
              focus (intro wq hSq; (try dsimp only at hSq); go_simp; first | done | (with_reducible rfl))
              (try simp only [Act.put, List.getElem_toArray, List.getElem_cons_succ, List.getElem_cons_zero, List.setIfInBounds_toArray, List.set_cons_zero, List.set_cons_succ])
              refine wpAnyH_take (i := 9) (v := ?_) rfl (by kernel_rfl) (by kernel_rfl) (by kernel_rfl) (fun _ _ _ h => h) (Or.inl ⟨by rfl, ?_⟩) (by assumption) ?_
              rotate_left
              focus (intro wq hSq; (try dsimp only at hSq); go_simp; first | done | (with_reducible rfl))
              (try simp only [Act.put, List.getElem_toArray, List.getElem_cons_succ, List.getElem_cons_zero, List.setIfInBounds_toArray, List.set_cons_zero, List.set_cons_succ])
              refine wpAnyH_ready (rs := [10]) (by kernel_rfl) (by simp) ?_
              refine AllReadyH.cons rfl (fun K hK => ?_) AllReadyH.nil
              rw [if_pos (by rfl)]
              go_simp
              refine (ris_any _ _ _).mono ?_
              rintro e wr ⟨rfl, hbr⟩
              obtain ⟨hcr, hfr, hzr, hBr⟩ := after (a := w3) (B := w3.heap.size) (w3.heap.size + 1) hbr (by first | (with_reducible assumption) | (simp; done) | omega | (simp; omega)) (by repeat' (first | (with_reducible exact Below.refl _ _) | (with_reducible assumption) | (with_reducible refine drewN_below ?_ _) | (with_reducible refine Below.drew ?_) | (with_reducible refine Below.alloc ?_ ?_ _) | (with_reducible refine Below.setCell ?_ ?_ _) | (simp; done) | omega | (simp; omega))) (by omega)
              have yG := Nat.lt_of_lt_of_le xG hzr
              have yA := Nat.lt_of_lt_of_le xA hzr
              have yT := Nat.lt_of_lt_of_le xT hzr
              have yM := Nat.lt_of_lt_of_le xM hzr
              rw [hm]
              dsimp only
              refine hK.out _ _ ?_ (fun hHeld => ?_)
              · (refine ⟨?_, ?_, ?_, ?_, ?_, ?_, ?_, ?_, ?_, ?_, ?_, ?_, ?_⟩ <;> first | assumption | ((repeat' (first | (with_reducible exact Below.refl _ _) | (with_reducible assumption) | (with_reducible refine drewN_below ?_ _) | (with_reducible refine Below.drew ?_) | (with_reducible refine Below.alloc ?_ ?_ _) | (with_reducible refine Below.setCell ?_ ?_ _) | (simp; done) | omega | (simp; omega))); done) | (simp [*]; done) | (simp [go_sem, *]; done) | (simp; omega))
              clear hK K
              (try simp only [Act.put, List.getElem_toArray, List.getElem_cons_succ, List.getElem_cons_zero, List.setIfInBounds_toArray, List.set_cons_zero, List.set_cons_succ])
              refine wpAnyH_take (i := 11) (v := ?_) rfl (by kernel_rfl) (by kernel_rfl) (by kernel_rfl) (fun _ _ _ h => h) (Or.inl ⟨by rfl, ?_⟩) (by assumption) ?_
              rotate_left
              focus (intro wq hSq; (try dsimp only at hSq); go_simp; first | done | (with_reducible rfl))
              (try simp only [Act.put, List.getElem_toArray, List.getElem_cons_succ, List.getElem_cons_zero, List.setIfInBounds_toArray, List.set_cons_zero, List.set_cons_succ])
              refine wpAnyH_take (i := 12) (v := ?_) rfl (by kernel_rfl) (by kernel_rfl) (by kernel_rfl) (fun _ _ _ h => h) (Or.inl ⟨by rfl, ?_⟩) (by assumption) ?_
              rotate_left
              focus (intro wq hSq; (try dsimp only at hSq); go_simp; first | done | (with_reducible rfl))
              (try simp only [Act.put, List.getElem_toArray, List.getElem_cons_succ, List.getElem_cons_zero, List.setIfInBounds_toArray, List.set_cons_zero, List.set_cons_succ])
              refine wpAnyH_take (i := 13) (v := undef) rfl (by kernel_rfl) (by kernel_rfl) (by kernel_rfl) (fun _ _ _ h => h) (Or.inr ⟨by rfl, rfl⟩) (by assumption) ?_
              (try simp only [Act.put, List.getElem_toArray, List.getElem_cons_succ, List.getElem_cons_zero, List.setIfInBounds_toArray, List.set_cons_zero, List.set_cons_succ])
              refine wpAnyH_take (i := 14) (v := undef) rfl (by kernel_rfl) (by kernel_rfl) (by kernel_rfl) (fun _ _ _ h => h) (Or.inr ⟨by rfl, rfl⟩) (by assumption) ?_
              (try simp only [Act.put, List.getElem_toArray, List.getElem_cons_succ, List.getElem_cons_zero, List.setIfInBounds_toArray, List.set_cons_zero, List.set_cons_succ])
              refine wpAnyH_take (i := 16) (v := undef) rfl (by kernel_rfl) (by kernel_rfl) (by kernel_rfl) (fun _ _ _ h => h) (Or.inr ⟨by rfl, rfl⟩) (by assumption) ?_
              (try simp only [Act.put, List.getElem_toArray, List.getElem_cons_succ, List.getElem_cons_zero, List.setIfInBounds_toArray, List.set_cons_zero, List.set_cons_succ])
              refine wpAnyH_take (i := 17) (v := undef) rfl (by kernel_rfl) (by kernel_rfl) (by kernel_rfl) (fun _ _ _ h => h) (Or.inr ⟨by rfl, rfl⟩) (by assumption) ?_
              (try simp only [Act.put, List.getElem_toArray, List.getElem_cons_succ, List.getElem_cons_zero, List.setIfInBounds_toArray, List.set_cons_zero, List.set_cons_succ])
              refine wpAnyH_take (i := 15) (v := undef) rfl (by kernel_rfl) (by kernel_rfl) (by kernel_rfl) (fun _ _ _ h => h) (Or.inr ⟨by rfl, rfl⟩) (by assumption) ?_
              (try simp only [Act.put, List.getElem_toArray, List.getElem_cons_succ, List.getElem_cons_zero, List.setIfInBounds_toArray, List.set_cons_zero, List.set_cons_succ])
              refine wpAnyH_take (i := 18) (v := undef) rfl (by kernel_rfl) (by kernel_rfl) (by kernel_rfl) (fun _ _ _ h => h) (Or.inr ⟨by rfl, rfl⟩) (by assumption) ?_
              (try simp only [Act.put, List.getElem_toArray, List.getElem_cons_succ, List.getElem_cons_zero, List.setIfInBounds_toArray, List.set_cons_zero, List.set_cons_succ])
              refine wpAnyH_take (i := 19) (v := undef) rfl (by kernel_rfl) (by kernel_rfl) (by kernel_rfl) (fun _ _ _ h => h) (Or.inr ⟨by rfl, rfl⟩) (by assumption) ?_
              (try simp only [Act.put, List.getElem_toArray, List.getElem_cons_succ, List.getElem_cons_zero, List.setIfInBounds_toArray, List.set_cons_zero, List.set_cons_succ])
              refine wpAnyH_take (i := 20) (v := ?_) rfl (by kernel_rfl) (by kernel_rfl) (by kernel_rfl) (fun _ _ _ h => h) (Or.inl ⟨by rfl, ?_⟩) (by assumption) ?_
              rotate_left
              focus (intro wq hSq; (try dsimp only at hSq); go_simp; first | done | (with_reducible rfl))
              (try simp only [Act.put, List.getElem_toArray, List.getElem_cons_succ, List.getElem_cons_zero, List.setIfInBounds_toArray, List.set_cons_zero, List.set_cons_succ])
              refine wpAnyH_done (by kernel_rfl) ?_ _
              obtain ⟨s0, s1, s2, s3, s4, s5, s6, s7, s8, s9, s10, s11, s12⟩ := (by assumption : wr.cell? ⟨w.heap.size, 0, none⟩ = some (.string k) ∧ wr.cell? ⟨w.heap.size, 1, none⟩ = some (.int .i64 (i : Int)) ∧ wr.cell? ⟨w.heap.size, 2, none⟩ = some (.int .i64 F) ∧ wr.cell? ⟨w.heap.size, 3, none⟩ = some (.string r) ∧ wr.cell? ⟨w.heap.size, 4, none⟩ = some (.string o) ∧ wr.cell? ⟨w.heap.size + 1, 0, none⟩ = some (.int .i64 an) ∧ wr.cell? ⟨w.heap.size + 1, 1, none⟩ = some (.int .i64 ad) ∧ wr.cell? ⟨w2.heap.size, 0, none⟩ = some (.int .i64 t1) ∧ wr.cell? ⟨w2.heap.size, 1, none⟩ = some (.int .i64 t2) ∧ wr.cell? ⟨w3.heap.size, 0, none⟩ = some (.int .i64 m1) ∧ wr.cell? ⟨w3.heap.size, 1, none⟩ = some (.int .i64 m2) ∧ w3.heap.size + 1 ≤ wr.heap.size ∧ Below w3.heap.size w3 wr)
              have cG0w4 := s0
              have cG1w4 := s1
              have cG2w4 := s2
              have cG3w4 := s3
              have cG4w4 := s4
              have cA0w4 := s5
              have cA1w4 := s6
              have cT0w4 := s7
              have cT1w4 := s8
              have cM0w4 := s9
              have cM1w4 := s10
              have bGw4 : w.heap.size < wr.heap.size := Nat.lt_of_lt_of_le xG s11
              have dGw4 : w.heap.size < wr.heap.size + 1 := Nat.lt_succ_of_lt bGw4
              have bAw4 : w.heap.size + 1 < wr.heap.size := Nat.lt_of_lt_of_le xA s11
              have dAw4 : w.heap.size + 1 < wr.heap.size + 1 := Nat.lt_succ_of_lt bAw4
              have bTw4 : w2.heap.size < wr.heap.size := Nat.lt_of_lt_of_le xT s11
              have dTw4 : w2.heap.size < wr.heap.size + 1 := Nat.lt_succ_of_lt bTw4
              have bMw4 : w3.heap.size < wr.heap.size := Nat.lt_of_lt_of_le xM s11
              have dMw4 : w3.heap.size < wr.heap.size + 1 := Nat.lt_succ_of_lt bMw4
              have hBw4 : Below w.heap.size w wr := Below.trans hBw3 (s12.mono hBw3.size)
              have zw4 : w.heap.size ≤ wr.heap.size := hBw4.size
              clear s0 s1 s2 s3 s4 s5 s6 s7 s8 s9 s10 s11 s12 xG xA xT xM hcr hfr hzr hBr hbr zw3 hBw3 dTw3 bTw3 cT1w3 cT0w3 dAw3 bAw3 cA1w3 cA0w3 dGw3 bGw3 cG4w3 cG3w3 cG2w3 cG1w3 cG0w3
              repeat (clear hcr hfr hzr hBr hbr)
              skip
              obtain ⟨w4, ew4⟩ : ∃ x, x = wr := ⟨_, rfl⟩
              subst ew4
              go_wp2_with fail
              refine (Value_any _ _ _ _ _ _ hI hF hc _).mono ?_
              rintro e w5 ⟨rfl, hw5⟩
              have hmw5 : Below w4.heap.size w4 w5 := on_below hw5 (by repeat' (first | (with_reducible exact Below.refl _ _) | (with_reducible assumption) | (with_reducible refine drewN_below ?_ _) | (with_reducible refine Below.drew ?_) | (with_reducible refine Below.alloc ?_ ?_ _) | (with_reducible refine Below.setCell ?_ ?_ _) | (simp; done) | omega | (simp; omega))) (by first | (with_reducible assumption) | (simp; done) | omega | (simp; omega))
              have cG0w5 := (hmw5.cell (p := ⟨w.heap.size, 0, none⟩) bGw4).trans cG0w4
              have cG1w5 := (hmw5.cell (p := ⟨w.heap.size, 1, none⟩) bGw4).trans cG1w4
              have cG2w5 := (hmw5.cell (p := ⟨w.heap.size, 2, none⟩) bGw4).trans cG2w4
              have cG3w5 := (hmw5.cell (p := ⟨w.heap.size, 3, none⟩) bGw4).trans cG3w4
              have cG4w5 := (hmw5.cell (p := ⟨w.heap.size, 4, none⟩) bGw4).trans cG4w4
              have bGw5 : w.heap.size < w5.heap.size := Nat.lt_of_lt_of_le bGw4 hmw5.size
              have dGw5 : w.heap.size < w5.heap.size + 1 := Nat.lt_succ_of_lt bGw5
              have cA0w5 := (hmw5.cell (p := ⟨w.heap.size + 1, 0, none⟩) bAw4).trans cA0w4
              have cA1w5 := (hmw5.cell (p := ⟨w.heap.size + 1, 1, none⟩) bAw4).trans cA1w4
              have bAw5 : w.heap.size + 1 < w5.heap.size := Nat.lt_of_lt_of_le bAw4 hmw5.size
              have dAw5 : w.heap.size + 1 < w5.heap.size + 1 := Nat.lt_succ_of_lt bAw5
              have cT0w5 := (hmw5.cell (p := ⟨w2.heap.size, 0, none⟩) bTw4).trans cT0w4
              have cT1w5 := (hmw5.cell (p := ⟨w2.heap.size, 1, none⟩) bTw4).trans cT1w4
              have bTw5 : w2.heap.size < w5.heap.size := Nat.lt_of_lt_of_le bTw4 hmw5.size
              have dTw5 : w2.heap.size < w5.heap.size + 1 := Nat.lt_succ_of_lt bTw5
              have cM0w5 := (hmw5.cell (p := ⟨w3.heap.size, 0, none⟩) bMw4).trans cM0w4
              have cM1w5 := (hmw5.cell (p := ⟨w3.heap.size, 1, none⟩) bMw4).trans cM1w4
              have bMw5 : w3.heap.size < w5.heap.size := Nat.lt_of_lt_of_le bMw4 hmw5.size
              have dMw5 : w3.heap.size < w5.heap.size + 1 := Nat.lt_succ_of_lt bMw5
              have hBw5 : Below w.heap.size w w5 := Below.trans hBw4 (hmw5.mono hBw4.size)
              have zw5 : w.heap.size ≤ w5.heap.size := hBw5.size
              clear hmw5 hw5 zw4 hBw4 dMw4 bMw4 dTw4 bTw4 dAw4 bAw4 dGw4 bGw4 cM1w4 cM0w4 cT1w4 cT0w4 cA1w4 cA0w4 cG4w4 cG3w4 cG2w4 cG1w4 cG0w4
              rw [HQ.out]
              go_wp2_with fail
              refine (awake_any _).mono ?_
              rintro e w6 ⟨rfl, hw6⟩
              have hmw6 : Below w5.heap.size w5 w6 := on_below hw6 (by repeat' (first | (with_reducible exact Below.refl _ _) | (with_reducible assumption) | (with_reducible refine drewN_below ?_ _) | (with_reducible refine Below.drew ?_) | (with_reducible refine Below.alloc ?_ ?_ _) | (with_reducible refine Below.setCell ?_ ?_ _) | (simp; done) | omega | (simp; omega))) (by first | (with_reducible assumption) | (simp; done) | omega | (simp; omega))
              have cG0w6 := (hmw6.cell (p := ⟨w.heap.size, 0, none⟩) bGw5).trans cG0w5
              have cG1w6 := (hmw6.cell (p := ⟨w.heap.size, 1, none⟩) bGw5).trans cG1w5
              have cG2w6 := (hmw6.cell (p := ⟨w.heap.size, 2, none⟩) bGw5).trans cG2w5
              have cG3w6 := (hmw6.cell (p := ⟨w.heap.size, 3, none⟩) bGw5).trans cG3w5
              have cG4w6 := (hmw6.cell (p := ⟨w.heap.size, 4, none⟩) bGw5).trans cG4w5
              have bGw6 : w.heap.size < w6.heap.size := Nat.lt_of_lt_of_le bGw5 hmw6.size
              have dGw6 : w.heap.size < w6.heap.size + 1 := Nat.lt_succ_of_lt bGw6
              have cA0w6 := (hmw6.cell (p := ⟨w.heap.size + 1, 0, none⟩) bAw5).trans cA0w5
              have cA1w6 := (hmw6.cell (p := ⟨w.heap.size + 1, 1, none⟩) bAw5).trans cA1w5
              have bAw6 : w.heap.size + 1 < w6.heap.size := Nat.lt_of_lt_of_le bAw5 hmw6.size
              have dAw6 : w.heap.size + 1 < w6.heap.size + 1 := Nat.lt_succ_of_lt bAw6
              have cT0w6 := (hmw6.cell (p := ⟨w2.heap.size, 0, none⟩) bTw5).trans cT0w5
              have cT1w6 := (hmw6.cell (p := ⟨w2.heap.size, 1, none⟩) bTw5).trans cT1w5
              have bTw6 : w2.heap.size < w6.heap.size := Nat.lt_of_lt_of_le bTw5 hmw6.size
              have dTw6 : w2.heap.size < w6.heap.size + 1 := Nat.lt_succ_of_lt bTw6
              have cM0w6 := (hmw6.cell (p := ⟨w3.heap.size, 0, none⟩) bMw5).trans cM0w5
              have cM1w6 := (hmw6.cell (p := ⟨w3.heap.size, 1, none⟩) bMw5).trans cM1w5
              have bMw6 : w3.heap.size < w6.heap.size := Nat.lt_of_lt_of_le bMw5 hmw6.size
              have dMw6 : w3.heap.size < w6.heap.size + 1 := Nat.lt_succ_of_lt bMw6
              have cQ0w6 : w6.cell? ⟨w5.heap.size, 0, none⟩ = some (.int .i64 0) := by rw [hw6.cell (p := ⟨w5.heap.size, 0, none⟩) (by first | (with_reducible assumption) | (simp; done) | omega | (simp; omega))]; simp [go_sem]
              have cQ1w6 : w6.cell? ⟨w5.heap.size, 1, none⟩ = some (.int .i64 0) := by rw [hw6.cell (p := ⟨w5.heap.size, 1, none⟩) (by first | (with_reducible assumption) | (simp; done) | omega | (simp; omega))]; simp [go_sem]
              have bQw6 : w5.heap.size < w6.heap.size := by have := hw6.size; first | omega | (simp at this; omega)
              have dQw6 : w5.heap.size < w6.heap.size + 1 := Nat.lt_succ_of_lt bQw6
              have hBw6 : Below w.heap.size w w6 := Below.trans hBw5 (hmw6.mono hBw5.size)
              have zw6 : w.heap.size ≤ w6.heap.size := hBw6.size
              clear hmw6 hw6 zw5 hBw5 dMw5 bMw5 cM1w5 cM0w5 dTw5 bTw5 cT1w5 cT0w5 dAw5 bAw5 cA1w5 cA0w5 dGw5 bGw5 cG4w5 cG3w5 cG2w5 cG1w5 cG0w5
              go_wp2
              go_ret
              exact ⟨rfl, (by repeat' (first | (with_reducible exact Below.refl _ _) | (with_reducible assumption) | (with_reducible refine drewN_below ?_ _) | (with_reducible refine Below.drew ?_) | (with_reducible refine Below.alloc ?_ ?_ _) | (with_reducible refine Below.setCell ?_ ?_ _) | (simp; done) | omega | (simp; omega)))⟩
            · skip
              have HQ := Lib.hid hq
              clear hq
              have HCD := Lib.hid hcd
              clear hcd
              clear HCODE HTURN
              go_enter Tryd.func6, Tryd.ntmps6
              go_wp2_with fail
              refine (valid_any _ _ _ _ _ hI hF _).mono ?_
              rintro e w1 ⟨rfl, hw1⟩
              have hmw1 : Below w.heap.size w w1 := on_below hw1 (by repeat' (first | (with_reducible exact Below.refl _ _) | (with_reducible assumption) | (with_reducible refine drewN_below ?_ _) | (with_reducible refine Below.drew ?_) | (with_reducible refine Below.alloc ?_ ?_ _) | (with_reducible refine Below.setCell ?_ ?_ _) | (simp; done) | omega | (simp; omega))) (by first | (with_reducible assumption) | (simp; done) | omega | (simp; omega))
              have cG0w1 : w1.cell? ⟨w.heap.size, 0, none⟩ = some (.string k) := by rw [hw1.cell (p := ⟨w.heap.size, 0, none⟩) (by first | (with_reducible assumption) | (simp; done) | omega | (simp; omega))]; simp [go_sem]
              have cG1w1 : w1.cell? ⟨w.heap.size, 1, none⟩ = some (.int .i64 (i : Int)) := by rw [hw1.cell (p := ⟨w.heap.size, 1, none⟩) (by first | (with_reducible assumption) | (simp; done) | omega | (simp; omega))]; simp [go_sem]
              have cG2w1 : w1.cell? ⟨w.heap.size, 2, none⟩ = some (.int .i64 F) := by rw [hw1.cell (p := ⟨w.heap.size, 2, none⟩) (by first | (with_reducible assumption) | (simp; done) | omega | (simp; omega))]; simp [go_sem]
              have cG3w1 : w1.cell? ⟨w.heap.size, 3, none⟩ = some (.string r) := by rw [hw1.cell (p := ⟨w.heap.size, 3, none⟩) (by first | (with_reducible assumption) | (simp; done) | omega | (simp; omega))]; simp [go_sem]
              have cG4w1 : w1.cell? ⟨w.heap.size, 4, none⟩ = some (.string o) := by rw [hw1.cell (p := ⟨w.heap.size, 4, none⟩) (by first | (with_reducible assumption) | (simp; done) | omega | (simp; omega))]; simp [go_sem]
              have bGw1 : w.heap.size < w1.heap.size := by have := hw1.size; first | omega | (simp at this; omega)
              have dGw1 : w.heap.size < w1.heap.size + 1 := Nat.lt_succ_of_lt bGw1
              have cA0w1 : w1.cell? ⟨w.heap.size + 1, 0, none⟩ = some (.int .i64 an) := by rw [hw1.cell (p := ⟨w.heap.size + 1, 0, none⟩) (by first | (with_reducible assumption) | (simp; done) | omega | (simp; omega))]; simp [go_sem]
              have cA1w1 : w1.cell? ⟨w.heap.size + 1, 1, none⟩ = some (.int .i64 ad) := by rw [hw1.cell (p := ⟨w.heap.size + 1, 1, none⟩) (by first | (with_reducible assumption) | (simp; done) | omega | (simp; omega))]; simp [go_sem]
              have bAw1 : w.heap.size + 1 < w1.heap.size := by have := hw1.size; first | omega | (simp at this; omega)
              have dAw1 : w.heap.size + 1 < w1.heap.size + 1 := Nat.lt_succ_of_lt bAw1
              have hBw1 : Below w.heap.size w w1 := hmw1
              have zw1 : w.heap.size ≤ w1.heap.size := hBw1.size
              clear hmw1 hw1
              rw [hv]
              go_wp2_with fail
              refine (rwhole_any _ (by omega) _).mono ?_
              rintro e w2 ⟨rfl, hw2⟩
              have hmw2 : Below w1.heap.size w1 w2 := on_below hw2 (by repeat' (first | (with_reducible exact Below.refl _ _) | (with_reducible assumption) | (with_reducible refine drewN_below ?_ _) | (with_reducible refine Below.drew ?_) | (with_reducible refine Below.alloc ?_ ?_ _) | (with_reducible refine Below.setCell ?_ ?_ _) | (simp; done) | omega | (simp; omega))) (by first | (with_reducible assumption) | (simp; done) | omega | (simp; omega))
              have cG0w2 := (hmw2.cell (p := ⟨w.heap.size, 0, none⟩) bGw1).trans cG0w1
              have cG1w2 := (hmw2.cell (p := ⟨w.heap.size, 1, none⟩) bGw1).trans cG1w1
              have cG2w2 := (hmw2.cell (p := ⟨w.heap.size, 2, none⟩) bGw1).trans cG2w1
              have cG3w2 := (hmw2.cell (p := ⟨w.heap.size, 3, none⟩) bGw1).trans cG3w1
              have cG4w2 := (hmw2.cell (p := ⟨w.heap.size, 4, none⟩) bGw1).trans cG4w1
              have bGw2 : w.heap.size < w2.heap.size := Nat.lt_of_lt_of_le bGw1 hmw2.size
              have dGw2 : w.heap.size < w2.heap.size + 1 := Nat.lt_succ_of_lt bGw2
              have cA0w2 := (hmw2.cell (p := ⟨w.heap.size + 1, 0, none⟩) bAw1).trans cA0w1
              have cA1w2 := (hmw2.cell (p := ⟨w.heap.size + 1, 1, none⟩) bAw1).trans cA1w1
              have bAw2 : w.heap.size + 1 < w2.heap.size := Nat.lt_of_lt_of_le bAw1 hmw2.size
              have dAw2 : w.heap.size + 1 < w2.heap.size + 1 := Nat.lt_succ_of_lt bAw2
              have hBw2 : Below w.heap.size w w2 := Below.trans hBw1 (hmw2.mono hBw1.size)
              have zw2 : w.heap.size ≤ w2.heap.size := hBw2.size
              clear hmw2 hw2 zw1 hBw1 dAw1 bAw1 cA1w1 cA0w1 dGw1 bGw1 cG4w1 cG3w1 cG2w1 cG1w1 cG0w1
              rw [hT.out]
              go_wp2_with fail
              refine (radd_any _ _ _ _ _).mono ?_
              rintro e w3 ⟨rfl, hw3⟩
              have hmw3 : Below w2.heap.size w2 w3 := on_below hw3 (by repeat' (first | (with_reducible exact Below.refl _ _) | (with_reducible assumption) | (with_reducible refine drewN_below ?_ _) | (with_reducible refine Below.drew ?_) | (with_reducible refine Below.alloc ?_ ?_ _) | (with_reducible refine Below.setCell ?_ ?_ _) | (simp; done) | omega | (simp; omega))) (by first | (with_reducible assumption) | (simp; done) | omega | (simp; omega))
              have cG0w3 := (hmw3.cell (p := ⟨w.heap.size, 0, none⟩) bGw2).trans cG0w2
              have cG1w3 := (hmw3.cell (p := ⟨w.heap.size, 1, none⟩) bGw2).trans cG1w2
              have cG2w3 := (hmw3.cell (p := ⟨w.heap.size, 2, none⟩) bGw2).trans cG2w2
              have cG3w3 := (hmw3.cell (p := ⟨w.heap.size, 3, none⟩) bGw2).trans cG3w2
              have cG4w3 := (hmw3.cell (p := ⟨w.heap.size, 4, none⟩) bGw2).trans cG4w2
              have bGw3 : w.heap.size < w3.heap.size := Nat.lt_of_lt_of_le bGw2 hmw3.size
              have dGw3 : w.heap.size < w3.heap.size + 1 := Nat.lt_succ_of_lt bGw3
              have cA0w3 := (hmw3.cell (p := ⟨w.heap.size + 1, 0, none⟩) bAw2).trans cA0w2
              have cA1w3 := (hmw3.cell (p := ⟨w.heap.size + 1, 1, none⟩) bAw2).trans cA1w2
              have bAw3 : w.heap.size + 1 < w3.heap.size := Nat.lt_of_lt_of_le bAw2 hmw3.size
              have dAw3 : w.heap.size + 1 < w3.heap.size + 1 := Nat.lt_succ_of_lt bAw3
              have cT0w3 : w3.cell? ⟨w2.heap.size, 0, none⟩ = some (.int .i64 t1) := by rw [hw3.cell (p := ⟨w2.heap.size, 0, none⟩) (by first | (with_reducible assumption) | (simp; done) | omega | (simp; omega))]; simp [go_sem]
              have cT1w3 : w3.cell? ⟨w2.heap.size, 1, none⟩ = some (.int .i64 t2) := by rw [hw3.cell (p := ⟨w2.heap.size, 1, none⟩) (by first | (with_reducible assumption) | (simp; done) | omega | (simp; omega))]; simp [go_sem]
              have bTw3 : w2.heap.size < w3.heap.size := by have := hw3.size; first | omega | (simp at this; omega)
              have dTw3 : w2.heap.size < w3.heap.size + 1 := Nat.lt_succ_of_lt bTw3
              have hBw3 : Below w.heap.size w w3 := Below.trans hBw2 (hmw3.mono hBw2.size)
              have zw3 : w.heap.size ≤ w3.heap.size := hBw3.size
              clear hmw3 hw3 zw2 hBw2 dAw2 bAw2 cA1w2 cA0w2 dGw2 bGw2 cG4w2 cG3w2 cG2w2 cG1w2 cG0w2
              rw [hM.out]
              go_wp2_with fail
              have xG : w.heap.size < w3.heap.size + 1 := by omega
              have xA : w.heap.size + 1 < w3.heap.size + 1 := by omega
              have xT : w2.heap.size < w3.heap.size + 1 := by omega
              have xM : w3.heap.size < w3.heap.size + 1 := by omega
              refine wp_region_held_drew (S := (fun w' => w'.cell? ⟨w.heap.size, 0, none⟩ = some (.string k) ∧ w'.cell? ⟨w.heap.size, 1, none⟩ = some (.int .i64 (i : Int)) ∧ w'.cell? ⟨w.heap.size, 2, none⟩ = some (.int .i64 F) ∧ w'.cell? ⟨w.heap.size, 3, none⟩ = some (.string r) ∧ w'.cell? ⟨w.heap.size, 4, none⟩ = some (.string o) ∧ w'.cell? ⟨w.heap.size + 1, 0, none⟩ = some (.int .i64 an) ∧ w'.cell? ⟨w.heap.size + 1, 1, none⟩ = some (.int .i64 ad) ∧ w'.cell? ⟨w2.heap.size, 0, none⟩ = some (.int .i64 t1) ∧ w'.cell? ⟨w2.heap.size, 1, none⟩ = some (.int .i64 t2) ∧ w'.cell? ⟨w3.heap.size, 0, none⟩ = some (.int .i64 m1) ∧ w'.cell? ⟨w3.heap.size, 1, none⟩ = some (.int .i64 m2) ∧ w3.heap.size + 1 ≤ w'.heap.size ∧ Below w3.heap.size w3 w')) (by kernel_rfl) ?_ ?_
              · (refine ⟨?_, ?_, ?_, ?_, ?_, ?_, ?_, ?_, ?_, ?_, ?_, ?_, ?_⟩ <;> first | assumption | ((repeat' (first | (with_reducible exact Below.refl _ _) | (with_reducible assumption) | (with_reducible refine drewN_below ?_ _) | (with_reducible refine Below.drew ?_) | (with_reducible refine Below.alloc ?_ ?_ _) | (with_reducible refine Below.setCell ?_ ?_ _) | (simp; done) | omega | (simp; omega))); done) | (simp [*]; done) | (simp [go_sem, *]; done) | (simp; omega))
              intro hH0
              refine wpAnyH_take (i := 0) (v := ?_) rfl (by kernel_rfl) (by kernel_rfl) (by kernel_rfl) (fun _ _ _ h => h) (Or.inl ⟨by rfl, ?_⟩) (by assumption) ?_
              rotate_left
              focus (intro wq hSq; (try dsimp only at hSq); go_simp; first | done | (with_reducible rfl))
              (try simp only [Act.put, List.getElem_toArray, List.getElem_cons_zero, List.setIfInBounds_toArray, List.set_cons_zero, List.set_cons_succ])
              refine wpAnyH_take (i := 1) (v := ?_) rfl (by kernel_rfl) (by kernel_rfl) (by kernel_rfl) (fun _ _ _ h => h) (Or.inl ⟨by rfl, ?_⟩) (by assumption) ?_
              rotate_left
              focus (intro wq hSq; (try dsimp only at hSq); go_simp; first | done | (with_reducible rfl))
              (try simp only [Act.put, List.getElem_toArray, List.getElem_cons_succ, List.getElem_cons_zero, List.setIfInBounds_toArray, List.set_cons_zero, List.set_cons_succ])
              refine wpAnyH_take (i := 2) (v := ?_) rfl (by kernel_rfl) (by kernel_rfl) (by kernel_rfl) (fun _ _ _ h => h) (Or.inl ⟨by rfl, ?_⟩) (by assumption) ?_
              rotate_left
              focus (intro wq hSq; (try dsimp only at hSq); go_simp; first | done | (with_reducible rfl))
              (try simp only [Act.put, List.getElem_toArray, List.getElem_cons_succ, List.getElem_cons_zero, List.setIfInBounds_toArray, List.set_cons_zero, List.set_cons_succ])
              refine wpAnyH_take (i := 3) (v := ?_) rfl (by kernel_rfl) (by kernel_rfl) (by kernel_rfl) (fun _ _ _ h => h) (Or.inl ⟨by rfl, ?_⟩) (by assumption) ?_
              rotate_left
              focus (intro wq hSq; (try dsimp only at hSq); go_simp; first | done | (with_reducible rfl))
              (try simp only [Act.put, List.getElem_toArray, List.getElem_cons_succ, List.getElem_cons_zero, List.setIfInBounds_toArray, List.set_cons_zero, List.set_cons_succ])
              refine wpAnyH_take (i := 4) (v := ?_) rfl (by kernel_rfl) (by kernel_rfl) (by kernel_rfl) (fun _ _ _ h => h) (Or.inl ⟨by rfl, ?_⟩) (by assumption) ?_
              rotate_left
              focus (intro wq hSq; (try dsimp only at hSq); go_simp; first | done | (with_reducible rfl))
              (try simp only [Act.put, List.getElem_toArray, List.getElem_cons_succ, List.getElem_cons_zero, List.setIfInBounds_toArray, List.set_cons_zero, List.set_cons_succ])
              refine wpAnyH_take (i := 5) (v := ?_) rfl (by kernel_rfl) (by kernel_rfl) (by kernel_rfl) (fun _ _ _ h => h) (Or.inl ⟨by rfl, ?_⟩) (by assumption) ?_
              rotate_left
              focus (intro wq hSq; (try dsimp only at hSq); go_simp; first | done | (with_reducible rfl))
              (try simp only [Act.put, List.getElem_toArray, List.getElem_cons_succ, List.getElem_cons_zero, List.setIfInBounds_toArray, List.set_cons_zero, List.set_cons_succ])
              refine wpAnyH_take (i := 6) (v := ?_) rfl (by kernel_rfl) (by kernel_rfl) (by kernel_rfl) (fun _ _ _ h => h) (Or.inl ⟨by rfl, ?_⟩) (by assumption) ?_
              rotate_left
              focus (intro wq hSq; (try dsimp only at hSq); go_simp; first | done | (with_reducible rfl))
              (try simp only [Act.put, List.getElem_toArray, List.getElem_cons_succ, List.getElem_cons_zero, List.setIfInBounds_toArray, List.set_cons_zero, List.set_cons_succ])
              refine wpAnyH_take (i := 7) (v := ?_) rfl (by kernel_rfl) (by kernel_rfl) (by kernel_rfl) (fun _ _ _ h => h) (Or.inl ⟨by rfl, ?_⟩) (by assumption) ?_
              rotate_left
              focus (intro wq hSq; (try dsimp only at hSq); go_simp; first | done | (with_reducible rfl))
              (try simp only [Act.put, List.getElem_toArray, List.getElem_cons_succ, List.getElem_cons_zero, List.setIfInBounds_toArray, List.set_cons_zero, List.set_cons_succ])
              refine wpAnyH_take (i := 8) (v := ?_) rfl (by kernel_rfl) (by kernel_rfl) (by kernel_rfl) (fun _ _ _ h => h) (Or.inl ⟨by rfl, ?_⟩) (by assumption) ?_
              rotate_left
              focus (intro wq hSq; (try dsimp only at hSq); go_simp; first | done | (with_reducible rfl))
              (try simp only [Act.put, List.getElem_toArray, List.getElem_cons_succ, List.getElem_cons_zero, List.setIfInBounds_toArray, List.set_cons_zero, List.set_cons_succ])
              refine wpAnyH_take (i := 9) (v := ?_) rfl (by kernel_rfl) (by kernel_rfl) (by kernel_rfl) (fun _ _ _ h => h) (Or.inl ⟨by rfl, ?_⟩) (by assumption) ?_
              rotate_left
              focus (intro wq hSq; (try dsimp only at hSq); go_simp; first | done | (with_reducible rfl))
              (try simp only [Act.put, List.getElem_toArray, List.getElem_cons_succ, List.getElem_cons_zero, List.setIfInBounds_toArray, List.set_cons_zero, List.set_cons_succ])
              refine wpAnyH_ready (rs := [10]) (by kernel_rfl) (by simp) ?_
              refine AllReadyH.cons rfl (fun K hK => ?_) AllReadyH.nil
              rw [if_pos (by rfl)]
              go_simp
              refine (ris_any _ _ _).mono ?_
              rintro e wr ⟨rfl, hbr⟩
              obtain ⟨hcr, hfr, hzr, hBr⟩ := after (a := w3) (B := w3.heap.size) (w3.heap.size + 1) hbr (by first | (with_reducible assumption) | (simp; done) | omega | (simp; omega)) (by repeat' (first | (with_reducible exact Below.refl _ _) | (with_reducible assumption) | (with_reducible refine drewN_below ?_ _) | (with_reducible refine Below.drew ?_) | (with_reducible refine Below.alloc ?_ ?_ _) | (with_reducible refine Below.setCell ?_ ?_ _) | (simp; done) | omega | (simp; omega))) (by omega)
              have yG := Nat.lt_of_lt_of_le xG hzr
              have yA := Nat.lt_of_lt_of_le xA hzr
              have yT := Nat.lt_of_lt_of_le xT hzr
              have yM := Nat.lt_of_lt_of_le xM hzr
              rw [hm]
              dsimp only
              refine hK.out _ _ ?_ (fun hHeld => ?_)
              · (refine ⟨?_, ?_, ?_, ?_, ?_, ?_, ?_, ?_, ?_, ?_, ?_, ?_, ?_⟩ <;> first | assumption | ((repeat' (first | (with_reducible exact Below.refl _ _) | (with_reducible assumption) | (with_reducible refine drewN_below ?_ _) | (with_reducible refine Below.drew ?_) | (with_reducible refine Below.alloc ?_ ?_ _) | (with_reducible refine Below.setCell ?_ ?_ _) | (simp; done) | omega | (simp; omega))); done) | (simp [*]; done) | (simp [go_sem, *]; done) | (simp; omega))
              clear hK K
              (try simp only [Act.put, List.getElem_toArray, List.getElem_cons_succ, List.getElem_cons_zero, List.setIfInBounds_toArray, List.set_cons_zero, List.set_cons_succ])
              refine wpAnyH_take (i := 11) (v := ?_) rfl (by kernel_rfl) (by kernel_rfl) (by kernel_rfl) (fun _ _ _ h => h) (Or.inl ⟨by rfl, ?_⟩) (by assumption) ?_
              rotate_left
              focus (intro wq hSq; (try dsimp only at hSq); go_simp; first | done | (with_reducible rfl))
              (try simp only [Act.put, List.getElem_toArray, List.getElem_cons_succ, List.getElem_cons_zero, List.setIfInBounds_toArray, List.set_cons_zero, List.set_cons_succ])
              refine wpAnyH_take (i := 12) (v := ?_) rfl (by kernel_rfl) (by kernel_rfl) (by kernel_rfl) (fun _ _ _ h => h) (Or.inl ⟨by rfl, ?_⟩) (by assumption) ?_
              rotate_left
              focus (intro wq hSq; (try dsimp only at hSq); go_simp; first | done | (with_reducible rfl))
              (try simp only [Act.put, List.getElem_toArray, List.getElem_cons_succ, List.getElem_cons_zero, List.setIfInBounds_toArray, List.set_cons_zero, List.set_cons_succ])
              refine wpAnyH_take (i := 13) (v := undef) rfl (by kernel_rfl) (by kernel_rfl) (by kernel_rfl) (fun _ _ _ h => h) (Or.inr ⟨by rfl, rfl⟩) (by assumption) ?_
              (try simp only [Act.put, List.getElem_toArray, List.getElem_cons_succ, List.getElem_cons_zero, List.setIfInBounds_toArray, List.set_cons_zero, List.set_cons_succ])
              refine wpAnyH_take (i := 14) (v := undef) rfl (by kernel_rfl) (by kernel_rfl) (by kernel_rfl) (fun _ _ _ h => h) (Or.inr ⟨by rfl, rfl⟩) (by assumption) ?_
              (try simp only [Act.put, List.getElem_toArray, List.getElem_cons_succ, List.getElem_cons_zero, List.setIfInBounds_toArray, List.set_cons_zero, List.set_cons_succ])
              refine wpAnyH_take (i := 16) (v := undef) rfl (by kernel_rfl) (by kernel_rfl) (by kernel_rfl) (fun _ _ _ h => h) (Or.inr ⟨by rfl, rfl⟩) (by assumption) ?_
              (try simp only [Act.put, List.getElem_toArray, List.getElem_cons_succ, List.getElem_cons_zero, List.setIfInBounds_toArray, List.set_cons_zero, List.set_cons_succ])
              refine wpAnyH_take (i := 17) (v := undef) rfl (by kernel_rfl) (by kernel_rfl) (by kernel_rfl) (fun _ _ _ h => h) (Or.inr ⟨by rfl, rfl⟩) (by assumption) ?_
              (try simp only [Act.put, List.getElem_toArray, List.getElem_cons_succ, List.getElem_cons_zero, List.setIfInBounds_toArray, List.set_cons_zero, List.set_cons_succ])
              refine wpAnyH_take (i := 15) (v := undef) rfl (by kernel_rfl) (by kernel_rfl) (by kernel_rfl) (fun _ _ _ h => h) (Or.inr ⟨by rfl, rfl⟩) (by assumption) ?_
              (try simp only [Act.put, List.getElem_toArray, List.getElem_cons_succ, List.getElem_cons_zero, List.setIfInBounds_toArray, List.set_cons_zero, List.set_cons_succ])
              refine wpAnyH_take (i := 18) (v := undef) rfl (by kernel_rfl) (by kernel_rfl) (by kernel_rfl) (fun _ _ _ h => h) (Or.inr ⟨by rfl, rfl⟩) (by assumption) ?_
              (try simp only [Act.put, List.getElem_toArray, List.getElem_cons_succ, List.getElem_cons_zero, List.setIfInBounds_toArray, List.set_cons_zero, List.set_cons_succ])
              refine wpAnyH_take (i := 19) (v := undef) rfl (by kernel_rfl) (by kernel_rfl) (by kernel_rfl) (fun _ _ _ h => h) (Or.inr ⟨by rfl, rfl⟩) (by assumption) ?_
              (try simp only [Act.put, List.getElem_toArray, List.getElem_cons_succ, List.getElem_cons_zero, List.setIfInBounds_toArray, List.set_cons_zero, List.set_cons_succ])
              refine wpAnyH_take (i := 20) (v := ?_) rfl (by kernel_rfl) (by kernel_rfl) (by kernel_rfl) (fun _ _ _ h => h) (Or.inl ⟨by rfl, ?_⟩) (by assumption) ?_
              rotate_left
              focus (intro wq hSq; (try dsimp only at hSq); go_simp; first | done | (with_reducible rfl))
              (try simp only [Act.put, List.getElem_toArray, List.getElem_cons_succ, List.getElem_cons_zero, List.setIfInBounds_toArray, List.set_cons_zero, List.set_cons_succ])
              refine wpAnyH_done (by kernel_rfl) ?_ _
              obtain ⟨s0, s1, s2, s3, s4, s5, s6, s7, s8, s9, s10, s11, s12⟩ := (by assumption : wr.cell? ⟨w.heap.size, 0, none⟩ = some (.string k) ∧ wr.cell? ⟨w.heap.size, 1, none⟩ = some (.int .i64 (i : Int)) ∧ wr.cell? ⟨w.heap.size, 2, none⟩ = some (.int .i64 F) ∧ wr.cell? ⟨w.heap.size, 3, none⟩ = some (.string r) ∧ wr.cell? ⟨w.heap.size, 4, none⟩ = some (.string o) ∧ wr.cell? ⟨w.heap.size + 1, 0, none⟩ = some (.int .i64 an) ∧ wr.cell? ⟨w.heap.size + 1, 1, none⟩ = some (.int .i64 ad) ∧ wr.cell? ⟨w2.heap.size, 0, none⟩ = some (.int .i64 t1) ∧ wr.cell? ⟨w2.heap.size, 1, none⟩ = some (.int .i64 t2) ∧ wr.cell? ⟨w3.heap.size, 0, none⟩ = some (.int .i64 m1) ∧ wr.cell? ⟨w3.heap.size, 1, none⟩ = some (.int .i64 m2) ∧ w3.heap.size + 1 ≤ wr.heap.size ∧ Below w3.heap.size w3 wr)
              have cG0w4 := s0
              have cG1w4 := s1
              have cG2w4 := s2
              have cG3w4 := s3
              have cG4w4 := s4
              have cA0w4 := s5
              have cA1w4 := s6
              have cT0w4 := s7
              have cT1w4 := s8
              have cM0w4 := s9
              have cM1w4 := s10
              have bGw4 : w.heap.size < wr.heap.size := Nat.lt_of_lt_of_le xG s11
              have dGw4 : w.heap.size < wr.heap.size + 1 := Nat.lt_succ_of_lt bGw4
              have bAw4 : w.heap.size + 1 < wr.heap.size := Nat.lt_of_lt_of_le xA s11
              have dAw4 : w.heap.size + 1 < wr.heap.size + 1 := Nat.lt_succ_of_lt bAw4
              have bTw4 : w2.heap.size < wr.heap.size := Nat.lt_of_lt_of_le xT s11
              have dTw4 : w2.heap.size < wr.heap.size + 1 := Nat.lt_succ_of_lt bTw4
              have bMw4 : w3.heap.size < wr.heap.size := Nat.lt_of_lt_of_le xM s11
              have dMw4 : w3.heap.size < wr.heap.size + 1 := Nat.lt_succ_of_lt bMw4
              have hBw4 : Below w.heap.size w wr := Below.trans hBw3 (s12.mono hBw3.size)
              have zw4 : w.heap.size ≤ wr.heap.size := hBw4.size
              clear s0 s1 s2 s3 s4 s5 s6 s7 s8 s9 s10 s11 s12 xG xA xT xM hcr hfr hzr hBr hbr zw3 hBw3 dTw3 bTw3 cT1w3 cT0w3 dAw3 bAw3 cA1w3 cA0w3 dGw3 bGw3 cG4w3 cG3w3 cG2w3 cG1w3 cG0w3
              repeat (clear hcr hfr hzr hBr hbr)
              skip
              obtain ⟨w4, ew4⟩ : ∃ x, x = wr := ⟨_, rfl⟩
              subst ew4
              go_wp2_with fail
              refine (Value_any _ _ _ _ _ _ hI hF hc _).mono ?_
              rintro e w5 ⟨rfl, hw5⟩
              have hmw5 : Below w4.heap.size w4 w5 := on_below hw5 (by repeat' (first | (with_reducible exact Below.refl _ _) | (with_reducible assumption) | (with_reducible refine drewN_below ?_ _) | (with_reducible refine Below.drew ?_) | (with_reducible refine Below.alloc ?_ ?_ _) | (with_reducible refine Below.setCell ?_ ?_ _) | (simp; done) | omega | (simp; omega))) (by first | (with_reducible assumption) | (simp; done) | omega | (simp; omega))
              have cG0w5 := (hmw5.cell (p := ⟨w.heap.size, 0, none⟩) bGw4).trans cG0w4
              have cG1w5 := (hmw5.cell (p := ⟨w.heap.size, 1, none⟩) bGw4).trans cG1w4
              have cG2w5 := (hmw5.cell (p := ⟨w.heap.size, 2, none⟩) bGw4).trans cG2w4
              have cG3w5 := (hmw5.cell (p := ⟨w.heap.size, 3, none⟩) bGw4).trans cG3w4
              have cG4w5 := (hmw5.cell (p := ⟨w.heap.size, 4, none⟩) bGw4).trans cG4w4
              have bGw5 : w.heap.size < w5.heap.size := Nat.lt_of_lt_of_le bGw4 hmw5.size
              have dGw5 : w.heap.size < w5.heap.size + 1 := Nat.lt_succ_of_lt bGw5
              have cA0w5 := (hmw5.cell (p := ⟨w.heap.size + 1, 0, none⟩) bAw4).trans cA0w4
              have cA1w5 := (hmw5.cell (p := ⟨w.heap.size + 1, 1, none⟩) bAw4).trans cA1w4
              have bAw5 : w.heap.size + 1 < w5.heap.size := Nat.lt_of_lt_of_le bAw4 hmw5.size
              have dAw5 : w.heap.size + 1 < w5.heap.size + 1 := Nat.lt_succ_of_lt bAw5
              have cT0w5 := (hmw5.cell (p := ⟨w2.heap.size, 0, none⟩) bTw4).trans cT0w4
              have cT1w5 := (hmw5.cell (p := ⟨w2.heap.size, 1, none⟩) bTw4).trans cT1w4
              have bTw5 : w2.heap.size < w5.heap.size := Nat.lt_of_lt_of_le bTw4 hmw5.size
              have dTw5 : w2.heap.size < w5.heap.size + 1 := Nat.lt_succ_of_lt bTw5
              have cM0w5 := (hmw5.cell (p := ⟨w3.heap.size, 0, none⟩) bMw4).trans cM0w4
              have cM1w5 := (hmw5.cell (p := ⟨w3.heap.size, 1, none⟩) bMw4).trans cM1w4
              have bMw5 : w3.heap.size < w5.heap.size := Nat.lt_of_lt_of_le bMw4 hmw5.size
              have dMw5 : w3.heap.size < w5.heap.size + 1 := Nat.lt_succ_of_lt bMw5
              have hBw5 : Below w.heap.size w w5 := Below.trans hBw4 (hmw5.mono hBw4.size)
              have zw5 : w.heap.size ≤ w5.heap.size := hBw5.size
              clear hmw5 hw5 zw4 hBw4 dMw4 bMw4 dTw4 bTw4 dAw4 bAw4 dGw4 bGw4 cM1w4 cM0w4 cT1w4 cT0w4 cA1w4 cA0w4 cG4w4 cG3w4 cG2w4 cG1w4 cG0w4
              rw [HQ.out]
              go_wp2_with fail
              refine (Code_any _ _ _ _ _ _ _ hI hF _).mono ?_
              rintro e w6 ⟨rfl, hw6⟩
              have hmw6 : Below w5.heap.size w5 w6 := on_below hw6 (by repeat' (first | (with_reducible exact Below.refl _ _) | (with_reducible assumption) | (with_reducible refine drewN_below ?_ _) | (with_reducible refine Below.drew ?_) | (with_reducible refine Below.alloc ?_ ?_ _) | (with_reducible refine Below.setCell ?_ ?_ _) | (simp; done) | omega | (simp; omega))) (by first | (with_reducible assumption) | (simp; done) | omega | (simp; omega))
              have cG0w6 := (hmw6.cell (p := ⟨w.heap.size, 0, none⟩) bGw5).trans cG0w5
              have cG1w6 := (hmw6.cell (p := ⟨w.heap.size, 1, none⟩) bGw5).trans cG1w5
              have cG2w6 := (hmw6.cell (p := ⟨w.heap.size, 2, none⟩) bGw5).trans cG2w5
              have cG3w6 := (hmw6.cell (p := ⟨w.heap.size, 3, none⟩) bGw5).trans cG3w5
              have cG4w6 := (hmw6.cell (p := ⟨w.heap.size, 4, none⟩) bGw5).trans cG4w5
              have bGw6 : w.heap.size < w6.heap.size := Nat.lt_of_lt_of_le bGw5 hmw6.size
              have dGw6 : w.heap.size < w6.heap.size + 1 := Nat.lt_succ_of_lt bGw6
              have cA0w6 := (hmw6.cell (p := ⟨w.heap.size + 1, 0, none⟩) bAw5).trans cA0w5
              have cA1w6 := (hmw6.cell (p := ⟨w.heap.size + 1, 1, none⟩) bAw5).trans cA1w5
              have bAw6 : w.heap.size + 1 < w6.heap.size := Nat.lt_of_lt_of_le bAw5 hmw6.size
              have dAw6 : w.heap.size + 1 < w6.heap.size + 1 := Nat.lt_succ_of_lt bAw6
              have cT0w6 := (hmw6.cell (p := ⟨w2.heap.size, 0, none⟩) bTw5).trans cT0w5
              have cT1w6 := (hmw6.cell (p := ⟨w2.heap.size, 1, none⟩) bTw5).trans cT1w5
              have bTw6 : w2.heap.size < w6.heap.size := Nat.lt_of_lt_of_le bTw5 hmw6.size
              have dTw6 : w2.heap.size < w6.heap.size + 1 := Nat.lt_succ_of_lt bTw6
              have cM0w6 := (hmw6.cell (p := ⟨w3.heap.size, 0, none⟩) bMw5).trans cM0w5
              have cM1w6 := (hmw6.cell (p := ⟨w3.heap.size, 1, none⟩) bMw5).trans cM1w5
              have bMw6 : w3.heap.size < w6.heap.size := Nat.lt_of_lt_of_le bMw5 hmw6.size
              have dMw6 : w3.heap.size < w6.heap.size + 1 := Nat.lt_succ_of_lt bMw6
              have cQ0w6 : w6.cell? ⟨w5.heap.size, 0, none⟩ = some (.int .i64 q1) := by rw [hw6.cell (p := ⟨w5.heap.size, 0, none⟩) (by first | (with_reducible assumption) | (simp; done) | omega | (simp; omega))]; simp [go_sem]
              have cQ1w6 : w6.cell? ⟨w5.heap.size, 1, none⟩ = some (.int .i64 q2) := by rw [hw6.cell (p := ⟨w5.heap.size, 1, none⟩) (by first | (with_reducible assumption) | (simp; done) | omega | (simp; omega))]; simp [go_sem]
              have bQw6 : w5.heap.size < w6.heap.size := by have := hw6.size; first | omega | (simp at this; omega)
              have dQw6 : w5.heap.size < w6.heap.size + 1 := Nat.lt_succ_of_lt bQw6
              have hBw6 : Below w.heap.size w w6 := Below.trans hBw5 (hmw6.mono hBw5.size)
              have zw6 : w.heap.size ≤ w6.heap.size := hBw6.size
              clear hmw6 hw6 zw5 hBw5 dMw5 bMw5 cM1w5 cM0w5 dTw5 bTw5 cT1w5 cT0w5 dAw5 bAw5 cA1w5 cA0w5 dGw5 bGw5 cG4w5 cG3w5 cG2w5 cG1w5 cG0w5
              rw [HCD.out]
              go_wp2_with fail
              refine (awake_any _).mono ?_
              rintro e w7 ⟨rfl, hw7⟩
              have hmw7 : Below w6.heap.size w6 w7 := on_below hw7 (by repeat' (first | (with_reducible exact Below.refl _ _) | (with_reducible assumption) | (with_reducible refine drewN_below ?_ _) | (with_reducible refine Below.drew ?_) | (with_reducible refine Below.alloc ?_ ?_ _) | (with_reducible refine Below.setCell ?_ ?_ _) | (simp; done) | omega | (simp; omega))) (by first | (with_reducible assumption) | (simp; done) | omega | (simp; omega))
              have cG0w7 := (hmw7.cell (p := ⟨w.heap.size, 0, none⟩) bGw6).trans cG0w6
              have cG1w7 := (hmw7.cell (p := ⟨w.heap.size, 1, none⟩) bGw6).trans cG1w6
              have cG2w7 := (hmw7.cell (p := ⟨w.heap.size, 2, none⟩) bGw6).trans cG2w6
              have cG3w7 := (hmw7.cell (p := ⟨w.heap.size, 3, none⟩) bGw6).trans cG3w6
              have cG4w7 := (hmw7.cell (p := ⟨w.heap.size, 4, none⟩) bGw6).trans cG4w6
              have bGw7 : w.heap.size < w7.heap.size := Nat.lt_of_lt_of_le bGw6 hmw7.size
              have dGw7 : w.heap.size < w7.heap.size + 1 := Nat.lt_succ_of_lt bGw7
              have cA0w7 := (hmw7.cell (p := ⟨w.heap.size + 1, 0, none⟩) bAw6).trans cA0w6
              have cA1w7 := (hmw7.cell (p := ⟨w.heap.size + 1, 1, none⟩) bAw6).trans cA1w6
              have bAw7 : w.heap.size + 1 < w7.heap.size := Nat.lt_of_lt_of_le bAw6 hmw7.size
              have dAw7 : w.heap.size + 1 < w7.heap.size + 1 := Nat.lt_succ_of_lt bAw7
              have cT0w7 := (hmw7.cell (p := ⟨w2.heap.size, 0, none⟩) bTw6).trans cT0w6
              have cT1w7 := (hmw7.cell (p := ⟨w2.heap.size, 1, none⟩) bTw6).trans cT1w6
              have bTw7 : w2.heap.size < w7.heap.size := Nat.lt_of_lt_of_le bTw6 hmw7.size
              have dTw7 : w2.heap.size < w7.heap.size + 1 := Nat.lt_succ_of_lt bTw7
              have cM0w7 := (hmw7.cell (p := ⟨w3.heap.size, 0, none⟩) bMw6).trans cM0w6
              have cM1w7 := (hmw7.cell (p := ⟨w3.heap.size, 1, none⟩) bMw6).trans cM1w6
              have bMw7 : w3.heap.size < w7.heap.size := Nat.lt_of_lt_of_le bMw6 hmw7.size
              have dMw7 : w3.heap.size < w7.heap.size + 1 := Nat.lt_succ_of_lt bMw7
              have cQ0w7 := (hmw7.cell (p := ⟨w5.heap.size, 0, none⟩) bQw6).trans cQ0w6
              have cQ1w7 := (hmw7.cell (p := ⟨w5.heap.size, 1, none⟩) bQw6).trans cQ1w6
              have bQw7 : w5.heap.size < w7.heap.size := Nat.lt_of_lt_of_le bQw6 hmw7.size
              have dQw7 : w5.heap.size < w7.heap.size + 1 := Nat.lt_succ_of_lt bQw7
              have hBw7 : Below w.heap.size w w7 := Below.trans hBw6 (hmw7.mono hBw6.size)
              have zw7 : w.heap.size ≤ w7.heap.size := hBw7.size
              clear hmw7 hw7 zw6 hBw6 dQw6 bQw6 cQ1w6 cQ0w6 dMw6 bMw6 cM1w6 cM0w6 dTw6 bTw6 cT1w6 cT0w6 dAw6 bAw6 cA1w6 cA0w6 dGw6 bGw6 cG4w6 cG3w6 cG2w6 cG1w6 cG0w6
              go_wp2
              go_ret
              exact ⟨rfl, (by repeat' (first | (with_reducible exact Below.refl _ _) | (with_reducible assumption) | (with_reducible refine drewN_below ?_ _) | (with_reducible refine Below.drew ?_) | (with_reducible refine Below.alloc ?_ ?_ _) | (with_reducible refine Below.setCell ?_ ?_ _) | (simp; done) | omega | (simp; omega)))⟩
          · have hf1 := HTURN.out t1 t2 hT.out ho hz m1 m2 hM.out hm
            obtain ⟨x, y, hxy⟩ : ∃ x y, Hid (Z.fitQ k r o (i : Int) F an ad = (x, y)) := ⟨_, _, rfl⟩
            have HF1 : Hid (Z.fitQ k r o (i : Int) F m1 m2 = (x, y)) := hf1.trans hxy.out
            clear hf1
            rcases HCODE.out with hq | ⟨q1, q2, hq, hcd⟩
            · skip
              have HQ := Lib.hid hq
              clear hq
              clear HCODE HTURN
              go_enter Tryd.func6, Tryd.ntmps6
              go_wp2_with fail
              refine (valid_any _ _ _ _ _ hI hF _).mono ?_
              rintro e w1 ⟨rfl, hw1⟩
              have hmw1 : Below w.heap.size w w1 := on_below hw1 (by repeat' (first | (with_reducible exact Below.refl _ _) | (with_reducible assumption) | (with_reducible refine drewN_below ?_ _) | (with_reducible refine Below.drew ?_) | (with_reducible refine Below.alloc ?_ ?_ _) | (with_reducible refine Below.setCell ?_ ?_ _) | (simp; done) | omega | (simp; omega))) (by first | (with_reducible assumption) | (simp; done) | omega | (simp; omega))
              have cG0w1 : w1.cell? ⟨w.heap.size, 0, none⟩ = some (.string k) := by rw [hw1.cell (p := ⟨w.heap.size, 0, none⟩) (by first | (with_reducible assumption) | (simp; done) | omega | (simp; omega))]; simp [go_sem]
              have cG1w1 : w1.cell? ⟨w.heap.size, 1, none⟩ = some (.int .i64 (i : Int)) := by rw [hw1.cell (p := ⟨w.heap.size, 1, none⟩) (by first | (with_reducible assumption) | (simp; done) | omega | (simp; omega))]; simp [go_sem]
              have cG2w1 : w1.cell? ⟨w.heap.size, 2, none⟩ = some (.int .i64 F) := by rw [hw1.cell (p := ⟨w.heap.size, 2, none⟩) (by first | (with_reducible assumption) | (simp; done) | omega | (simp; omega))]; simp [go_sem]
              have cG3w1 : w1.cell? ⟨w.heap.size, 3, none⟩ = some (.string r) := by rw [hw1.cell (p := ⟨w.heap.size, 3, none⟩) (by first | (with_reducible assumption) | (simp; done) | omega | (simp; omega))]; simp [go_sem]
              have cG4w1 : w1.cell? ⟨w.heap.size, 4, none⟩ = some (.string o) := by rw [hw1.cell (p := ⟨w.heap.size, 4, none⟩) (by first | (with_reducible assumption) | (simp; done) | omega | (simp; omega))]; simp [go_sem]
              have bGw1 : w.heap.size < w1.heap.size := by have := hw1.size; first | omega | (simp at this; omega)
              have dGw1 : w.heap.size < w1.heap.size + 1 := Nat.lt_succ_of_lt bGw1
              have cA0w1 : w1.cell? ⟨w.heap.size + 1, 0, none⟩ = some (.int .i64 an) := by rw [hw1.cell (p := ⟨w.heap.size + 1, 0, none⟩) (by first | (with_reducible assumption) | (simp; done) | omega | (simp; omega))]; simp [go_sem]
              have cA1w1 : w1.cell? ⟨w.heap.size + 1, 1, none⟩ = some (.int .i64 ad) := by rw [hw1.cell (p := ⟨w.heap.size + 1, 1, none⟩) (by first | (with_reducible assumption) | (simp; done) | omega | (simp; omega))]; simp [go_sem]
              have bAw1 : w.heap.size + 1 < w1.heap.size := by have := hw1.size; first | omega | (simp at this; omega)
              have dAw1 : w.heap.size + 1 < w1.heap.size + 1 := Nat.lt_succ_of_lt bAw1
              have hBw1 : Below w.heap.size w w1 := hmw1
              have zw1 : w.heap.size ≤ w1.heap.size := hBw1.size
              clear hmw1 hw1
              rw [hv]
              go_wp2_with fail
              refine (rwhole_any _ (by omega) _).mono ?_
              rintro e w2 ⟨rfl, hw2⟩
              have hmw2 : Below w1.heap.size w1 w2 := on_below hw2 (by repeat' (first | (with_reducible exact Below.refl _ _) | (with_reducible assumption) | (with_reducible refine drewN_below ?_ _) | (with_reducible refine Below.drew ?_) | (with_reducible refine Below.alloc ?_ ?_ _) | (with_reducible refine Below.setCell ?_ ?_ _) | (simp; done) | omega | (simp; omega))) (by first | (with_reducible assumption) | (simp; done) | omega | (simp; omega))
              have cG0w2 := (hmw2.cell (p := ⟨w.heap.size, 0, none⟩) bGw1).trans cG0w1
              have cG1w2 := (hmw2.cell (p := ⟨w.heap.size, 1, none⟩) bGw1).trans cG1w1
              have cG2w2 := (hmw2.cell (p := ⟨w.heap.size, 2, none⟩) bGw1).trans cG2w1
              have cG3w2 := (hmw2.cell (p := ⟨w.heap.size, 3, none⟩) bGw1).trans cG3w1
              have cG4w2 := (hmw2.cell (p := ⟨w.heap.size, 4, none⟩) bGw1).trans cG4w1
              have bGw2 : w.heap.size < w2.heap.size := Nat.lt_of_lt_of_le bGw1 hmw2.size
              have dGw2 : w.heap.size < w2.heap.size + 1 := Nat.lt_succ_of_lt bGw2
              have cA0w2 := (hmw2.cell (p := ⟨w.heap.size + 1, 0, none⟩) bAw1).trans cA0w1
              have cA1w2 := (hmw2.cell (p := ⟨w.heap.size + 1, 1, none⟩) bAw1).trans cA1w1
              have bAw2 : w.heap.size + 1 < w2.heap.size := Nat.lt_of_lt_of_le bAw1 hmw2.size
              have dAw2 : w.heap.size + 1 < w2.heap.size + 1 := Nat.lt_succ_of_lt bAw2
              have hBw2 : Below w.heap.size w w2 := Below.trans hBw1 (hmw2.mono hBw1.size)
              have zw2 : w.heap.size ≤ w2.heap.size := hBw2.size
              clear hmw2 hw2 zw1 hBw1 dAw1 bAw1 cA1w1 cA0w1 dGw1 bGw1 cG4w1 cG3w1 cG2w1 cG1w1 cG0w1
              rw [hT.out]
              go_wp2_with fail
              refine (radd_any _ _ _ _ _).mono ?_
              rintro e w3 ⟨rfl, hw3⟩
              have hmw3 : Below w2.heap.size w2 w3 := on_below hw3 (by repeat' (first | (with_reducible exact Below.refl _ _) | (with_reducible assumption) | (with_reducible refine drewN_below ?_ _) | (with_reducible refine Below.drew ?_) | (with_reducible refine Below.alloc ?_ ?_ _) | (with_reducible refine Below.setCell ?_ ?_ _) | (simp; done) | omega | (simp; omega))) (by first | (with_reducible assumption) | (simp; done) | omega | (simp; omega))
              have cG0w3 := (hmw3.cell (p := ⟨w.heap.size, 0, none⟩) bGw2).trans cG0w2
              have cG1w3 := (hmw3.cell (p := ⟨w.heap.size, 1, none⟩) bGw2).trans cG1w2
              have cG2w3 := (hmw3.cell (p := ⟨w.heap.size, 2, none⟩) bGw2).trans cG2w2
              have cG3w3 := (hmw3.cell (p := ⟨w.heap.size, 3, none⟩) bGw2).trans cG3w2
              have cG4w3 := (hmw3.cell (p := ⟨w.heap.size, 4, none⟩) bGw2).trans cG4w2
              have bGw3 : w.heap.size < w3.heap.size := Nat.lt_of_lt_of_le bGw2 hmw3.size
              have dGw3 : w.heap.size < w3.heap.size + 1 := Nat.lt_succ_of_lt bGw3
              have cA0w3 := (hmw3.cell (p := ⟨w.heap.size + 1, 0, none⟩) bAw2).trans cA0w2
              have cA1w3 := (hmw3.cell (p := ⟨w.heap.size + 1, 1, none⟩) bAw2).trans cA1w2
              have bAw3 : w.heap.size + 1 < w3.heap.size := Nat.lt_of_lt_of_le bAw2 hmw3.size
              have dAw3 : w.heap.size + 1 < w3.heap.size + 1 := Nat.lt_succ_of_lt bAw3
              have cT0w3 : w3.cell? ⟨w2.heap.size, 0, none⟩ = some (.int .i64 t1) := by rw [hw3.cell (p := ⟨w2.heap.size, 0, none⟩) (by first | (with_reducible assumption) | (simp; done) | omega | (simp; omega))]; simp [go_sem]
              have cT1w3 : w3.cell? ⟨w2.heap.size, 1, none⟩ = some (.int .i64 t2) := by rw [hw3.cell (p := ⟨w2.heap.size, 1, none⟩) (by first | (with_reducible assumption) | (simp; done) | omega | (simp; omega))]; simp [go_sem]
              have bTw3 : w2.heap.size < w3.heap.size := by have := hw3.size; first | omega | (simp at this; omega)
              have dTw3 : w2.heap.size < w3.heap.size + 1 := Nat.lt_succ_of_lt bTw3
              have hBw3 : Below w.heap.size w w3 := Below.trans hBw2 (hmw3.mono hBw2.size)
              have zw3 : w.heap.size ≤ w3.heap.size := hBw3.size
              clear hmw3 hw3 zw2 hBw2 dAw2 bAw2 cA1w2 cA0w2 dGw2 bGw2 cG4w2 cG3w2 cG2w2 cG1w2 cG0w2
              rw [hM.out]
              go_wp2_with fail
              have xG : w.heap.size < w3.heap.size + 1 := by omega
              have xA : w.heap.size + 1 < w3.heap.size + 1 := by omega
              have xT : w2.heap.size < w3.heap.size + 1 := by omega
              have xM : w3.heap.size < w3.heap.size + 1 := by omega
              refine wp_region_held_drew (S := (fun w' => w'.cell? ⟨w.heap.size, 0, none⟩ = some (.string k) ∧ w'.cell? ⟨w.heap.size, 1, none⟩ = some (.int .i64 (i : Int)) ∧ w'.cell? ⟨w.heap.size, 2, none⟩ = some (.int .i64 F) ∧ w'.cell? ⟨w.heap.size, 3, none⟩ = some (.string r) ∧ w'.cell? ⟨w.heap.size, 4, none⟩ = some (.string o) ∧ w'.cell? ⟨w.heap.size + 1, 0, none⟩ = some (.int .i64 an) ∧ w'.cell? ⟨w.heap.size + 1, 1, none⟩ = some (.int .i64 ad) ∧ w'.cell? ⟨w2.heap.size, 0, none⟩ = some (.int .i64 t1) ∧ w'.cell? ⟨w2.heap.size, 1, none⟩ = some (.int .i64 t2) ∧ w'.cell? ⟨w3.heap.size, 0, none⟩ = some (.int .i64 m1) ∧ w'.cell? ⟨w3.heap.size, 1, none⟩ = some (.int .i64 m2) ∧ w3.heap.size + 1 ≤ w'.heap.size ∧ Below w3.heap.size w3 w')) (by kernel_rfl) ?_ ?_
              · (refine ⟨?_, ?_, ?_, ?_, ?_, ?_, ?_, ?_, ?_, ?_, ?_, ?_, ?_⟩ <;> first | assumption | ((repeat' (first | (with_reducible exact Below.refl _ _) | (with_reducible assumption) | (with_reducible refine drewN_below ?_ _) | (with_reducible refine Below.drew ?_) | (with_reducible refine Below.alloc ?_ ?_ _) | (with_reducible refine Below.setCell ?_ ?_ _) | (simp; done) | omega | (simp; omega))); done) | (simp [*]; done) | (simp [go_sem, *]; done) | (simp; omega))
              intro hH0
              refine wpAnyH_take (i := 0) (v := ?_) rfl (by kernel_rfl) (by kernel_rfl) (by kernel_rfl) (fun _ _ _ h => h) (Or.inl ⟨by rfl, ?_⟩) (by assumption) ?_
              rotate_left
              focus (intro wq hSq; (try dsimp only at hSq); go_simp; first | done | (with_reducible rfl))
              (try simp only [Act.put, List.getElem_toArray, List.getElem_cons_zero, List.setIfInBounds_toArray, List.set_cons_zero, List.set_cons_succ])
              refine wpAnyH_take (i := 1) (v := ?_) rfl (by kernel_rfl) (by kernel_rfl) (by kernel_rfl) (fun _ _ _ h => h) (Or.inl ⟨by rfl, ?_⟩) (by assumption) ?_
              rotate_left
              focus (intro wq hSq; (try dsimp only at hSq); go_simp; first | done | (with_reducible rfl))
              (try simp only [Act.put, List.getElem_toArray, List.getElem_cons_succ, List.getElem_cons_zero, List.setIfInBounds_toArray, List.set_cons_zero, List.set_cons_succ])
              refine wpAnyH_take (i := 2) (v := ?_) rfl (by kernel_rfl) (by kernel_rfl) (by kernel_rfl) (fun _ _ _ h => h) (Or.inl ⟨by rfl, ?_⟩) (by assumption) ?_
              rotate_left
              focus (intro wq hSq; (try dsimp only at hSq); go_simp; first | done | (with_reducible rfl))
              (try simp only [Act.put, List.getElem_toArray, List.getElem_cons_succ, List.getElem_cons_zero, List.setIfInBounds_toArray, List.set_cons_zero, List.set_cons_succ])
              refine wpAnyH_take (i := 3) (v := ?_) rfl (by kernel_rfl) (by kernel_rfl) (by kernel_rfl) (fun _ _ _ h => h) (Or.inl ⟨by rfl, ?_⟩) (by assumption) ?_
              rotate_left
              focus (intro wq hSq; (try dsimp only at hSq); go_simp; first | done | (with_reducible rfl))
              (try simp only [Act.put, List.getElem_toArray, List.getElem_cons_succ, List.getElem_cons_zero, List.setIfInBounds_toArray, List.set_cons_zero, List.set_cons_succ])
              refine wpAnyH_take (i := 4) (v := ?_) rfl (by kernel_rfl) (by kernel_rfl) (by kernel_rfl) (fun _ _ _ h => h) (Or.inl ⟨by rfl, ?_⟩) (by assumption) ?_
              rotate_left
              focus (intro wq hSq; (try dsimp only at hSq); go_simp; first | done | (with_reducible rfl))
              (try simp only [Act.put, List.getElem_toArray, List.getElem_cons_succ, List.getElem_cons_zero, List.setIfInBounds_toArray, List.set_cons_zero, List.set_cons_succ])
              refine wpAnyH_take (i := 5) (v := ?_) rfl (by kernel_rfl) (by kernel_rfl) (by kernel_rfl) (fun _ _ _ h => h) (Or.inl ⟨by rfl, ?_⟩) (by assumption) ?_
              rotate_left
              focus (intro wq hSq; (try dsimp only at hSq); go_simp; first | done | (with_reducible rfl))
              (try simp only [Act.put, List.getElem_toArray, List.getElem_cons_succ, List.getElem_cons_zero, List.setIfInBounds_toArray, List.set_cons_zero, List.set_cons_succ])
              refine wpAnyH_take (i := 6) (v := ?_) rfl (by kernel_rfl) (by kernel_rfl) (by kernel_rfl) (fun _ _ _ h => h) (Or.inl ⟨by rfl, ?_⟩) (by assumption) ?_
              rotate_left
              focus (intro wq hSq; (try dsimp only at hSq); go_simp; first | done | (with_reducible rfl))
              (try simp only [Act.put, List.getElem_toArray, List.getElem_cons_succ, List.getElem_cons_zero, List.setIfInBounds_toArray, List.set_cons_zero, List.set_cons_succ])
              refine wpAnyH_take (i := 7) (v := ?_) rfl (by kernel_rfl) (by kernel_rfl) (by kernel_rfl) (fun _ _ _ h => h) (Or.inl ⟨by rfl, ?_⟩) (by assumption) ?_
              rotate_left
              focus (intro wq hSq; (try dsimp only at hSq); go_simp; first | done | (with_reducible rfl))
              (try simp only [Act.put, List.getElem_toArray, List.getElem_cons_succ, List.getElem_cons_zero, List.setIfInBounds_toArray, List.set_cons_zero, List.set_cons_succ])
              refine wpAnyH_take (i := 8) (v := ?_) rfl (by kernel_rfl) (by kernel_rfl) (by kernel_rfl) (fun _ _ _ h => h) (Or.inl ⟨by rfl, ?_⟩) (by assumption) ?_
              rotate_left
              focus (intro wq hSq; (try dsimp only at hSq); go_simp; first | done | (with_reducible rfl))
              (try simp only [Act.put, List.getElem_toArray, List.getElem_cons_succ, List.getElem_cons_zero, List.setIfInBounds_toArray, List.set_cons_zero, List.set_cons_succ])
              refine wpAnyH_take (i := 9) (v := ?_) rfl (by kernel_rfl) (by kernel_rfl) (by kernel_rfl) (fun _ _ _ h => h) (Or.inl ⟨by rfl, ?_⟩) (by assumption) ?_
              rotate_left
              focus (intro wq hSq; (try dsimp only at hSq); go_simp; first | done | (with_reducible rfl))
              (try simp only [Act.put, List.getElem_toArray, List.getElem_cons_succ, List.getElem_cons_zero, List.setIfInBounds_toArray, List.set_cons_zero, List.set_cons_succ])
              refine wpAnyH_ready (rs := [10]) (by kernel_rfl) (by simp) ?_
              refine AllReadyH.cons rfl (fun K hK => ?_) AllReadyH.nil
              rw [if_pos (by rfl)]
              go_simp
              refine (ris_any _ _ _).mono ?_
              rintro e wr ⟨rfl, hbr⟩
              obtain ⟨hcr, hfr, hzr, hBr⟩ := after (a := w3) (B := w3.heap.size) (w3.heap.size + 1) hbr (by first | (with_reducible assumption) | (simp; done) | omega | (simp; omega)) (by repeat' (first | (with_reducible exact Below.refl _ _) | (with_reducible assumption) | (with_reducible refine drewN_below ?_ _) | (with_reducible refine Below.drew ?_) | (with_reducible refine Below.alloc ?_ ?_ _) | (with_reducible refine Below.setCell ?_ ?_ _) | (simp; done) | omega | (simp; omega))) (by omega)
              have yG := Nat.lt_of_lt_of_le xG hzr
              have yA := Nat.lt_of_lt_of_le xA hzr
              have yT := Nat.lt_of_lt_of_le xT hzr
              have yM := Nat.lt_of_lt_of_le xM hzr
              rw [hm]
              dsimp only
              refine hK.out _ _ ?_ (fun hHeld => ?_)
              · (refine ⟨?_, ?_, ?_, ?_, ?_, ?_, ?_, ?_, ?_, ?_, ?_, ?_, ?_⟩ <;> first | assumption | ((repeat' (first | (with_reducible exact Below.refl _ _) | (with_reducible assumption) | (with_reducible refine drewN_below ?_ _) | (with_reducible refine Below.drew ?_) | (with_reducible refine Below.alloc ?_ ?_ _) | (with_reducible refine Below.setCell ?_ ?_ _) | (simp; done) | omega | (simp; omega))); done) | (simp [*]; done) | (simp [go_sem, *]; done) | (simp; omega))
              clear hK K
              (try simp only [Act.put, List.getElem_toArray, List.getElem_cons_succ, List.getElem_cons_zero, List.setIfInBounds_toArray, List.set_cons_zero, List.set_cons_succ])
              refine wpAnyH_take (i := 11) (v := ?_) rfl (by kernel_rfl) (by kernel_rfl) (by kernel_rfl) (fun _ _ _ h => h) (Or.inl ⟨by rfl, ?_⟩) (by assumption) ?_
              rotate_left
              focus (intro wq hSq; (try dsimp only at hSq); go_simp; first | done | (with_reducible rfl))
              (try simp only [Act.put, List.getElem_toArray, List.getElem_cons_succ, List.getElem_cons_zero, List.setIfInBounds_toArray, List.set_cons_zero, List.set_cons_succ])
              refine wpAnyH_take (i := 12) (v := ?_) rfl (by kernel_rfl) (by kernel_rfl) (by kernel_rfl) (fun _ _ _ h => h) (Or.inl ⟨by rfl, ?_⟩) (by assumption) ?_
              rotate_left
              focus (intro wq hSq; (try dsimp only at hSq); go_simp; first | done | (with_reducible rfl))
              (try simp only [Act.put, List.getElem_toArray, List.getElem_cons_succ, List.getElem_cons_zero, List.setIfInBounds_toArray, List.set_cons_zero, List.set_cons_succ])
              refine wpAnyH_take (i := 13) (v := ?_) rfl (by kernel_rfl) (by kernel_rfl) (by kernel_rfl) (fun _ _ _ h => h) (Or.inl ⟨by rfl, ?_⟩) (by assumption) ?_
              rotate_left
              focus (intro wq hSq; (try dsimp only at hSq); go_simp; first | done | (with_reducible rfl))
              (try simp only [Act.put, List.getElem_toArray, List.getElem_cons_succ, List.getElem_cons_zero, List.setIfInBounds_toArray, List.set_cons_zero, List.set_cons_succ])
              refine wpAnyH_take (i := 14) (v := ?_) rfl (by kernel_rfl) (by kernel_rfl) (by kernel_rfl) (fun _ _ _ h => h) (Or.inl ⟨by rfl, ?_⟩) (by assumption) ?_
              rotate_left
              focus (intro wq hSq; (try dsimp only at hSq); go_simp; first | done | (with_reducible rfl))
              (try simp only [Act.put, List.getElem_toArray, List.getElem_cons_succ, List.getElem_cons_zero, List.setIfInBounds_toArray, List.set_cons_zero, List.set_cons_succ])
              refine wpAnyH_take (i := 16) (v := ?_) rfl (by kernel_rfl) (by kernel_rfl) (by kernel_rfl) (fun _ _ _ h => h) (Or.inl ⟨by rfl, ?_⟩) (by assumption) ?_
              rotate_left
              focus (intro wq hSq; (try dsimp only at hSq); go_simp; first | done | (with_reducible rfl))
              (try simp only [Act.put, List.getElem_toArray, List.getElem_cons_succ, List.getElem_cons_zero, List.setIfInBounds_toArray, List.set_cons_zero, List.set_cons_succ])
              refine wpAnyH_take (i := 17) (v := ?_) rfl (by kernel_rfl) (by kernel_rfl) (by kernel_rfl) (fun _ _ _ h => h) (Or.inl ⟨by rfl, ?_⟩) (by assumption) ?_
              rotate_left
              focus (intro wq hSq; (try dsimp only at hSq); go_simp; first | done | (with_reducible rfl))
              (try simp only [Act.put, List.getElem_toArray, List.getElem_cons_succ, List.getElem_cons_zero, List.setIfInBounds_toArray, List.set_cons_zero, List.set_cons_succ])
              refine wpAnyH_ready (rs := [15]) (by kernel_rfl) (by simp) ?_
              refine AllReadyH.cons rfl (fun K hK => ?_) AllReadyH.nil
              rw [if_pos (by rfl)]
              go_simp
              refine (Fit_any _ _ _ _ _ _ _ hI hF _).mono ?_
              rintro e wr ⟨rfl, hbr⟩
              obtain ⟨hcr, hfr, hzr, hBr⟩ := after (a := w3) (B := w3.heap.size) (w3.heap.size + 1) hbr (by first | (with_reducible assumption) | (simp; done) | omega | (simp; omega)) (by repeat' (first | (with_reducible exact Below.refl _ _) | (with_reducible assumption) | (with_reducible refine drewN_below ?_ _) | (with_reducible refine Below.drew ?_) | (with_reducible refine Below.alloc ?_ ?_ _) | (with_reducible refine Below.setCell ?_ ?_ _) | (simp; done) | omega | (simp; omega))) (by omega)
              have yG := Nat.lt_of_lt_of_le xG hzr
              have yA := Nat.lt_of_lt_of_le xA hzr
              have yT := Nat.lt_of_lt_of_le xT hzr
              have yM := Nat.lt_of_lt_of_le xM hzr
              rw [HF1.out]
              dsimp only
              refine hK.out _ _ ?_ (fun hHeld => ?_)
              · (refine ⟨?_, ?_, ?_, ?_, ?_, ?_, ?_, ?_, ?_, ?_, ?_, ?_, ?_⟩ <;> first | assumption | ((repeat' (first | (with_reducible exact Below.refl _ _) | (with_reducible assumption) | (with_reducible refine drewN_below ?_ _) | (with_reducible refine Below.drew ?_) | (with_reducible refine Below.alloc ?_ ?_ _) | (with_reducible refine Below.setCell ?_ ?_ _) | (simp; done) | omega | (simp; omega))); done) | (simp [*]; done) | (simp [go_sem, *]; done) | (simp; omega))
              clear hK K
              (try simp only [Act.put, List.getElem_toArray, List.getElem_cons_succ, List.getElem_cons_zero, List.setIfInBounds_toArray, List.set_cons_zero, List.set_cons_succ])
              refine wpAnyH_ready (rs := [18]) (by kernel_rfl) (by simp) ?_
              refine AllReadyH.cons rfl (fun K hK => ?_) AllReadyH.nil
              rw [if_pos (by rfl)]
              go_simp
              refine (Fit_any _ _ _ _ _ _ _ hI hF _).mono ?_
              rintro e wr ⟨rfl, hbr⟩
              obtain ⟨hcr, hfr, hzr, hBr⟩ := after (a := w3) (B := w3.heap.size) (w3.heap.size + 1) hbr (by first | (with_reducible assumption) | (simp; done) | omega | (simp; omega)) (by repeat' (first | (with_reducible exact Below.refl _ _) | (with_reducible assumption) | (with_reducible refine drewN_below ?_ _) | (with_reducible refine Below.drew ?_) | (with_reducible refine Below.alloc ?_ ?_ _) | (with_reducible refine Below.setCell ?_ ?_ _) | (simp; done) | omega | (simp; omega))) (by omega)
              have yG := Nat.lt_of_lt_of_le xG hzr
              have yA := Nat.lt_of_lt_of_le xA hzr
              have yT := Nat.lt_of_lt_of_le xT hzr
              have yM := Nat.lt_of_lt_of_le xM hzr
              rw [hxy.out]
              dsimp only
              refine hK.out _ _ ?_ (fun hHeld => ?_)
              · (refine ⟨?_, ?_, ?_, ?_, ?_, ?_, ?_, ?_, ?_, ?_, ?_, ?_, ?_⟩ <;> first | assumption | ((repeat' (first | (with_reducible exact Below.refl _ _) | (with_reducible assumption) | (with_reducible refine drewN_below ?_ _) | (with_reducible refine Below.drew ?_) | (with_reducible refine Below.alloc ?_ ?_ _) | (with_reducible refine Below.setCell ?_ ?_ _) | (simp; done) | omega | (simp; omega))); done) | (simp [*]; done) | (simp [go_sem, *]; done) | (simp; omega))
              clear hK K
              (try simp only [Act.put, List.getElem_toArray, List.getElem_cons_succ, List.getElem_cons_zero, List.setIfInBounds_toArray, List.set_cons_zero, List.set_cons_succ])
              refine wpAnyH_take (i := 19) (v := ?_) rfl (by kernel_rfl) (by kernel_rfl) (by kernel_rfl) (fun _ _ _ h => h) (Or.inl ⟨by rfl, ?_⟩) (by assumption) ?_
              rotate_left
              focus (intro wq hSq; (try dsimp only at hSq); go_simp; first | done | (with_reducible rfl))
              (try simp only [Act.put, List.getElem_toArray, List.getElem_cons_succ, List.getElem_cons_zero, List.setIfInBounds_toArray, List.set_cons_zero, List.set_cons_succ])
              refine wpAnyH_take (i := 20) (v := ?_) rfl (by kernel_rfl) (by kernel_rfl) (by kernel_rfl) (fun _ _ _ h => h) (Or.inl ⟨by rfl, ?_⟩) (by assumption) ?_
              rotate_left
              focus (intro wq hSq; (try dsimp only at hSq); go_simp; first | done | (with_reducible rfl))
              (try simp only [Act.put, List.getElem_toArray, List.getElem_cons_succ, List.getElem_cons_zero, List.setIfInBounds_toArray, List.set_cons_zero, List.set_cons_succ])
              refine wpAnyH_done (by kernel_rfl) ?_ _
              obtain ⟨s0, s1, s2, s3, s4, s5, s6, s7, s8, s9, s10, s11, s12⟩ := (by assumption : wr.cell? ⟨w.heap.size, 0, none⟩ = some (.string k) ∧ wr.cell? ⟨w.heap.size, 1, none⟩ = some (.int .i64 (i : Int)) ∧ wr.cell? ⟨w.heap.size, 2, none⟩ = some (.int .i64 F) ∧ wr.cell? ⟨w.heap.size, 3, none⟩ = some (.string r) ∧ wr.cell? ⟨w.heap.size, 4, none⟩ = some (.string o) ∧ wr.cell? ⟨w.heap.size + 1, 0, none⟩ = some (.int .i64 an) ∧ wr.cell? ⟨w.heap.size + 1, 1, none⟩ = some (.int .i64 ad) ∧ wr.cell? ⟨w2.heap.size, 0, none⟩ = some (.int .i64 t1) ∧ wr.cell? ⟨w2.heap.size, 1, none⟩ = some (.int .i64 t2) ∧ wr.cell? ⟨w3.heap.size, 0, none⟩ = some (.int .i64 m1) ∧ wr.cell? ⟨w3.heap.size, 1, none⟩ = some (.int .i64 m2) ∧ w3.heap.size + 1 ≤ wr.heap.size ∧ Below w3.heap.size w3 wr)
              have cG0w4 := s0
              have cG1w4 := s1
              have cG2w4 := s2
              have cG3w4 := s3
              have cG4w4 := s4
              have cA0w4 := s5
              have cA1w4 := s6
              have cT0w4 := s7
              have cT1w4 := s8
              have cM0w4 := s9
              have cM1w4 := s10
              have bGw4 : w.heap.size < wr.heap.size := Nat.lt_of_lt_of_le xG s11
              have dGw4 : w.heap.size < wr.heap.size + 1 := Nat.lt_succ_of_lt bGw4
              have bAw4 : w.heap.size + 1 < wr.heap.size := Nat.lt_of_lt_of_le xA s11
              have dAw4 : w.heap.size + 1 < wr.heap.size + 1 := Nat.lt_succ_of_lt bAw4
              have bTw4 : w2.heap.size < wr.heap.size := Nat.lt_of_lt_of_le xT s11
              have dTw4 : w2.heap.size < wr.heap.size + 1 := Nat.lt_succ_of_lt bTw4
              have bMw4 : w3.heap.size < wr.heap.size := Nat.lt_of_lt_of_le xM s11
              have dMw4 : w3.heap.size < wr.heap.size + 1 := Nat.lt_succ_of_lt bMw4
              have hBw4 : Below w.heap.size w wr := Below.trans hBw3 (s12.mono hBw3.size)
              have zw4 : w.heap.size ≤ wr.heap.size := hBw4.size
              clear s0 s1 s2 s3 s4 s5 s6 s7 s8 s9 s10 s11 s12 xG xA xT xM hcr hfr hzr hBr hbr zw3 hBw3 dTw3 bTw3 cT1w3 cT0w3 dAw3 bAw3 cA1w3 cA0w3 dGw3 bGw3 cG4w3 cG3w3 cG2w3 cG1w3 cG0w3
              repeat (clear hcr hfr hzr hBr hbr)
              skip
              obtain ⟨w4, ew4⟩ : ∃ x, x = wr := ⟨_, rfl⟩
              subst ew4
              go_wp2_with fail
              refine (Value_any _ _ _ _ _ _ hI hF hc _).mono ?_
              rintro e w5 ⟨rfl, hw5⟩
              have hmw5 : Below w4.heap.size w4 w5 := on_below hw5 (by repeat' (first | (with_reducible exact Below.refl _ _) | (with_reducible assumption) | (with_reducible refine drewN_below ?_ _) | (with_reducible refine Below.drew ?_) | (with_reducible refine Below.alloc ?_ ?_ _) | (with_reducible refine Below.setCell ?_ ?_ _) | (simp; done) | omega | (simp; omega))) (by first | (with_reducible assumption) | (simp; done) | omega | (simp; omega))
              have cG0w5 := (hmw5.cell (p := ⟨w.heap.size, 0, none⟩) bGw4).trans cG0w4
              have cG1w5 := (hmw5.cell (p := ⟨w.heap.size, 1, none⟩) bGw4).trans cG1w4
              have cG2w5 := (hmw5.cell (p := ⟨w.heap.size, 2, none⟩) bGw4).trans cG2w4
              have cG3w5 := (hmw5.cell (p := ⟨w.heap.size, 3, none⟩) bGw4).trans cG3w4
              have cG4w5 := (hmw5.cell (p := ⟨w.heap.size, 4, none⟩) bGw4).trans cG4w4
              have bGw5 : w.heap.size < w5.heap.size := Nat.lt_of_lt_of_le bGw4 hmw5.size
              have dGw5 : w.heap.size < w5.heap.size + 1 := Nat.lt_succ_of_lt bGw5
              have cA0w5 := (hmw5.cell (p := ⟨w.heap.size + 1, 0, none⟩) bAw4).trans cA0w4
              have cA1w5 := (hmw5.cell (p := ⟨w.heap.size + 1, 1, none⟩) bAw4).trans cA1w4
              have bAw5 : w.heap.size + 1 < w5.heap.size := Nat.lt_of_lt_of_le bAw4 hmw5.size
              have dAw5 : w.heap.size + 1 < w5.heap.size + 1 := Nat.lt_succ_of_lt bAw5
              have cT0w5 := (hmw5.cell (p := ⟨w2.heap.size, 0, none⟩) bTw4).trans cT0w4
              have cT1w5 := (hmw5.cell (p := ⟨w2.heap.size, 1, none⟩) bTw4).trans cT1w4
              have bTw5 : w2.heap.size < w5.heap.size := Nat.lt_of_lt_of_le bTw4 hmw5.size
              have dTw5 : w2.heap.size < w5.heap.size + 1 := Nat.lt_succ_of_lt bTw5
              have cM0w5 := (hmw5.cell (p := ⟨w3.heap.size, 0, none⟩) bMw4).trans cM0w4
              have cM1w5 := (hmw5.cell (p := ⟨w3.heap.size, 1, none⟩) bMw4).trans cM1w4
              have bMw5 : w3.heap.size < w5.heap.size := Nat.lt_of_lt_of_le bMw4 hmw5.size
              have dMw5 : w3.heap.size < w5.heap.size + 1 := Nat.lt_succ_of_lt bMw5
              have hBw5 : Below w.heap.size w w5 := Below.trans hBw4 (hmw5.mono hBw4.size)
              have zw5 : w.heap.size ≤ w5.heap.size := hBw5.size
              clear hmw5 hw5 zw4 hBw4 dMw4 bMw4 dTw4 bTw4 dAw4 bAw4 dGw4 bGw4 cM1w4 cM0w4 cT1w4 cT0w4 cA1w4 cA0w4 cG4w4 cG3w4 cG2w4 cG1w4 cG0w4
              rw [HQ.out]
              go_wp2_with fail
              refine (awake_any _).mono ?_
              rintro e w6 ⟨rfl, hw6⟩
              have hmw6 : Below w5.heap.size w5 w6 := on_below hw6 (by repeat' (first | (with_reducible exact Below.refl _ _) | (with_reducible assumption) | (with_reducible refine drewN_below ?_ _) | (with_reducible refine Below.drew ?_) | (with_reducible refine Below.alloc ?_ ?_ _) | (with_reducible refine Below.setCell ?_ ?_ _) | (simp; done) | omega | (simp; omega))) (by first | (with_reducible assumption) | (simp; done) | omega | (simp; omega))
              have cG0w6 := (hmw6.cell (p := ⟨w.heap.size, 0, none⟩) bGw5).trans cG0w5
              have cG1w6 := (hmw6.cell (p := ⟨w.heap.size, 1, none⟩) bGw5).trans cG1w5
              have cG2w6 := (hmw6.cell (p := ⟨w.heap.size, 2, none⟩) bGw5).trans cG2w5
              have cG3w6 := (hmw6.cell (p := ⟨w.heap.size, 3, none⟩) bGw5).trans cG3w5
              have cG4w6 := (hmw6.cell (p := ⟨w.heap.size, 4, none⟩) bGw5).trans cG4w5
              have bGw6 : w.heap.size < w6.heap.size := Nat.lt_of_lt_of_le bGw5 hmw6.size
              have dGw6 : w.heap.size < w6.heap.size + 1 := Nat.lt_succ_of_lt bGw6
              have cA0w6 := (hmw6.cell (p := ⟨w.heap.size + 1, 0, none⟩) bAw5).trans cA0w5
              have cA1w6 := (hmw6.cell (p := ⟨w.heap.size + 1, 1, none⟩) bAw5).trans cA1w5
              have bAw6 : w.heap.size + 1 < w6.heap.size := Nat.lt_of_lt_of_le bAw5 hmw6.size
              have dAw6 : w.heap.size + 1 < w6.heap.size + 1 := Nat.lt_succ_of_lt bAw6
              have cT0w6 := (hmw6.cell (p := ⟨w2.heap.size, 0, none⟩) bTw5).trans cT0w5
              have cT1w6 := (hmw6.cell (p := ⟨w2.heap.size, 1, none⟩) bTw5).trans cT1w5
              have bTw6 : w2.heap.size < w6.heap.size := Nat.lt_of_lt_of_le bTw5 hmw6.size
              have dTw6 : w2.heap.size < w6.heap.size + 1 := Nat.lt_succ_of_lt bTw6
              have cM0w6 := (hmw6.cell (p := ⟨w3.heap.size, 0, none⟩) bMw5).trans cM0w5
              have cM1w6 := (hmw6.cell (p := ⟨w3.heap.size, 1, none⟩) bMw5).trans cM1w5
              have bMw6 : w3.heap.size < w6.heap.size := Nat.lt_of_lt_of_le bMw5 hmw6.size
              have dMw6 : w3.heap.size < w6.heap.size + 1 := Nat.lt_succ_of_lt bMw6
              have cQ0w6 : w6.cell? ⟨w5.heap.size, 0, none⟩ = some (.int .i64 0) := by rw [hw6.cell (p := ⟨w5.heap.size, 0, none⟩) (by first | (with_reducible assumption) | (simp; done) | omega | (simp; omega))]; simp [go_sem]
              have cQ1w6 : w6.cell? ⟨w5.heap.size, 1, none⟩ = some (.int .i64 0) := by rw [hw6.cell (p := ⟨w5.heap.size, 1, none⟩) (by first | (with_reducible assumption) | (simp; done) | omega | (simp; omega))]; simp [go_sem]
              have bQw6 : w5.heap.size < w6.heap.size := by have := hw6.size; first | omega | (simp at this; omega)
              have dQw6 : w5.heap.size < w6.heap.size + 1 := Nat.lt_succ_of_lt bQw6
              have hBw6 : Below w.heap.size w w6 := Below.trans hBw5 (hmw6.mono hBw5.size)
              have zw6 : w.heap.size ≤ w6.heap.size := hBw6.size
              clear hmw6 hw6 zw5 hBw5 dMw5 bMw5 cM1w5 cM0w5 dTw5 bTw5 cT1w5 cT0w5 dAw5 bAw5 cA1w5 cA0w5 dGw5 bGw5 cG4w5 cG3w5 cG2w5 cG1w5 cG0w5
              go_wp2
              go_ret
              exact ⟨rfl, (by repeat' (first | (with_reducible exact Below.refl _ _) | (with_reducible assumption) | (with_reducible refine drewN_below ?_ _) | (with_reducible refine Below.drew ?_) | (with_reducible refine Below.alloc ?_ ?_ _) | (with_reducible refine Below.setCell ?_ ?_ _) | (simp; done) | omega | (simp; omega)))⟩
            · skip
              have HQ := Lib.hid hq
              clear hq
              have HCD := Lib.hid hcd
              clear hcd
              clear HCODE HTURN
              go_enter Tryd.func6, Tryd.ntmps6
              go_wp2_with fail
              refine (valid_any _ _ _ _ _ hI hF _).mono ?_
              rintro e w1 ⟨rfl, hw1⟩
              have hmw1 : Below w.heap.size w w1 := on_below hw1 (by repeat' (first | (with_reducible exact Below.refl _ _) | (with_reducible assumption) | (with_reducible refine drewN_below ?_ _) | (with_reducible refine Below.drew ?_) | (with_reducible refine Below.alloc ?_ ?_ _) | (with_reducible refine Below.setCell ?_ ?_ _) | (simp; done) | omega | (simp; omega))) (by first | (with_reducible assumption) | (simp; done) | omega | (simp; omega))
              have cG0w1 : w1.cell? ⟨w.heap.size, 0, none⟩ = some (.string k) := by rw [hw1.cell (p := ⟨w.heap.size, 0, none⟩) (by first | (with_reducible assumption) | (simp; done) | omega | (simp; omega))]; simp [go_sem]
              have cG1w1 : w1.cell? ⟨w.heap.size, 1, none⟩ = some (.int .i64 (i : Int)) := by rw [hw1.cell (p := ⟨w.heap.size, 1, none⟩) (by first | (with_reducible assumption) | (simp; done) | omega | (simp; omega))]; simp [go_sem]
              have cG2w1 : w1.cell? ⟨w.heap.size, 2, none⟩ = some (.int .i64 F) := by rw [hw1.cell (p := ⟨w.heap.size, 2, none⟩) (by first | (with_reducible assumption) | (simp; done) | omega | (simp; omega))]; simp [go_sem]
              have cG3w1 : w1.cell? ⟨w.heap.size, 3, none⟩ = some (.string r) := by rw [hw1.cell (p := ⟨w.heap.size, 3, none⟩) (by first | (with_reducible assumption) | (simp; done) | omega | (simp; omega))]; simp [go_sem]
              have cG4w1 : w1.cell? ⟨w.heap.size, 4, none⟩ = some (.string o) := by rw [hw1.cell (p := ⟨w.heap.size, 4, none⟩) (by first | (with_reducible assumption) | (simp; done) | omega | (simp; omega))]; simp [go_sem]
              have bGw1 : w.heap.size < w1.heap.size := by have := hw1.size; first | omega | (simp at this; omega)
              have dGw1 : w.heap.size < w1.heap.size + 1 := Nat.lt_succ_of_lt bGw1
              have cA0w1 : w1.cell? ⟨w.heap.size + 1, 0, none⟩ = some (.int .i64 an) := by rw [hw1.cell (p := ⟨w.heap.size + 1, 0, none⟩) (by first | (with_reducible assumption) | (simp; done) | omega | (simp; omega))]; simp [go_sem]
              have cA1w1 : w1.cell? ⟨w.heap.size + 1, 1, none⟩ = some (.int .i64 ad) := by rw [hw1.cell (p := ⟨w.heap.size + 1, 1, none⟩) (by first | (with_reducible assumption) | (simp; done) | omega | (simp; omega))]; simp [go_sem]
              have bAw1 : w.heap.size + 1 < w1.heap.size := by have := hw1.size; first | omega | (simp at this; omega)
              have dAw1 : w.heap.size + 1 < w1.heap.size + 1 := Nat.lt_succ_of_lt bAw1
              have hBw1 : Below w.heap.size w w1 := hmw1
              have zw1 : w.heap.size ≤ w1.heap.size := hBw1.size
              clear hmw1 hw1
              rw [hv]
              go_wp2_with fail
              refine (rwhole_any _ (by omega) _).mono ?_
              rintro e w2 ⟨rfl, hw2⟩
              have hmw2 : Below w1.heap.size w1 w2 := on_below hw2 (by repeat' (first | (with_reducible exact Below.refl _ _) | (with_reducible assumption) | (with_reducible refine drewN_below ?_ _) | (with_reducible refine Below.drew ?_) | (with_reducible refine Below.alloc ?_ ?_ _) | (with_reducible refine Below.setCell ?_ ?_ _) | (simp; done) | omega | (simp; omega))) (by first | (with_reducible assumption) | (simp; done) | omega | (simp; omega))
              have cG0w2 := (hmw2.cell (p := ⟨w.heap.size, 0, none⟩) bGw1).trans cG0w1
              have cG1w2 := (hmw2.cell (p := ⟨w.heap.size, 1, none⟩) bGw1).trans cG1w1
              have cG2w2 := (hmw2.cell (p := ⟨w.heap.size, 2, none⟩) bGw1).trans cG2w1
              have cG3w2 := (hmw2.cell (p := ⟨w.heap.size, 3, none⟩) bGw1).trans cG3w1
              have cG4w2 := (hmw2.cell (p := ⟨w.heap.size, 4, none⟩) bGw1).trans cG4w1
              have bGw2 : w.heap.size < w2.heap.size := Nat.lt_of_lt_of_le bGw1 hmw2.size
              have dGw2 : w.heap.size < w2.heap.size + 1 := Nat.lt_succ_of_lt bGw2
              have cA0w2 := (hmw2.cell (p := ⟨w.heap.size + 1, 0, none⟩) bAw1).trans cA0w1
              have cA1w2 := (hmw2.cell (p := ⟨w.heap.size + 1, 1, none⟩) bAw1).trans cA1w1
              have bAw2 : w.heap.size + 1 < w2.heap.size := Nat.lt_of_lt_of_le bAw1 hmw2.size
              have dAw2 : w.heap.size + 1 < w2.heap.size + 1 := Nat.lt_succ_of_lt bAw2
              have hBw2 : Below w.heap.size w w2 := Below.trans hBw1 (hmw2.mono hBw1.size)
              have zw2 : w.heap.size ≤ w2.heap.size := hBw2.size
              clear hmw2 hw2 zw1 hBw1 dAw1 bAw1 cA1w1 cA0w1 dGw1 bGw1 cG4w1 cG3w1 cG2w1 cG1w1 cG0w1
              rw [hT.out]
              go_wp2_with fail
              refine (radd_any _ _ _ _ _).mono ?_
              rintro e w3 ⟨rfl, hw3⟩
              have hmw3 : Below w2.heap.size w2 w3 := on_below hw3 (by repeat' (first | (with_reducible exact Below.refl _ _) | (with_reducible assumption) | (with_reducible refine drewN_below ?_ _) | (with_reducible refine Below.drew ?_) | (with_reducible refine Below.alloc ?_ ?_ _) | (with_reducible refine Below.setCell ?_ ?_ _) | (simp; done) | omega | (simp; omega))) (by first | (with_reducible assumption) | (simp; done) | omega | (simp; omega))
              have cG0w3 := (hmw3.cell (p := ⟨w.heap.size, 0, none⟩) bGw2).trans cG0w2
              have cG1w3 := (hmw3.cell (p := ⟨w.heap.size, 1, none⟩) bGw2).trans cG1w2
              have cG2w3 := (hmw3.cell (p := ⟨w.heap.size, 2, none⟩) bGw2).trans cG2w2
              have cG3w3 := (hmw3.cell (p := ⟨w.heap.size, 3, none⟩) bGw2).trans cG3w2
              have cG4w3 := (hmw3.cell (p := ⟨w.heap.size, 4, none⟩) bGw2).trans cG4w2
              have bGw3 : w.heap.size < w3.heap.size := Nat.lt_of_lt_of_le bGw2 hmw3.size
              have dGw3 : w.heap.size < w3.heap.size + 1 := Nat.lt_succ_of_lt bGw3
              have cA0w3 := (hmw3.cell (p := ⟨w.heap.size + 1, 0, none⟩) bAw2).trans cA0w2
              have cA1w3 := (hmw3.cell (p := ⟨w.heap.size + 1, 1, none⟩) bAw2).trans cA1w2
              have bAw3 : w.heap.size + 1 < w3.heap.size := Nat.lt_of_lt_of_le bAw2 hmw3.size
              have dAw3 : w.heap.size + 1 < w3.heap.size + 1 := Nat.lt_succ_of_lt bAw3
              have cT0w3 : w3.cell? ⟨w2.heap.size, 0, none⟩ = some (.int .i64 t1) := by rw [hw3.cell (p := ⟨w2.heap.size, 0, none⟩) (by first | (with_reducible assumption) | (simp; done) | omega | (simp; omega))]; simp [go_sem]
              have cT1w3 : w3.cell? ⟨w2.heap.size, 1, none⟩ = some (.int .i64 t2) := by rw [hw3.cell (p := ⟨w2.heap.size, 1, none⟩) (by first | (with_reducible assumption) | (simp; done) | omega | (simp; omega))]; simp [go_sem]
              have bTw3 : w2.heap.size < w3.heap.size := by have := hw3.size; first | omega | (simp at this; omega)
              have dTw3 : w2.heap.size < w3.heap.size + 1 := Nat.lt_succ_of_lt bTw3
              have hBw3 : Below w.heap.size w w3 := Below.trans hBw2 (hmw3.mono hBw2.size)
              have zw3 : w.heap.size ≤ w3.heap.size := hBw3.size
              clear hmw3 hw3 zw2 hBw2 dAw2 bAw2 cA1w2 cA0w2 dGw2 bGw2 cG4w2 cG3w2 cG2w2 cG1w2 cG0w2
              rw [hM.out]
              go_wp2_with fail
              have xG : w.heap.size < w3.heap.size + 1 := by omega
              have xA : w.heap.size + 1 < w3.heap.size + 1 := by omega
              have xT : w2.heap.size < w3.heap.size + 1 := by omega
              have xM : w3.heap.size < w3.heap.size + 1 := by omega
              refine wp_region_held_drew (S := (fun w' => w'.cell? ⟨w.heap.size, 0, none⟩ = some (.string k) ∧ w'.cell? ⟨w.heap.size, 1, none⟩ = some (.int .i64 (i : Int)) ∧ w'.cell? ⟨w.heap.size, 2, none⟩ = some (.int .i64 F) ∧ w'.cell? ⟨w.heap.size, 3, none⟩ = some (.string r) ∧ w'.cell? ⟨w.heap.size, 4, none⟩ = some (.string o) ∧ w'.cell? ⟨w.heap.size + 1, 0, none⟩ = some (.int .i64 an) ∧ w'.cell? ⟨w.heap.size + 1, 1, none⟩ = some (.int .i64 ad) ∧ w'.cell? ⟨w2.heap.size, 0, none⟩ = some (.int .i64 t1) ∧ w'.cell? ⟨w2.heap.size, 1, none⟩ = some (.int .i64 t2) ∧ w'.cell? ⟨w3.heap.size, 0, none⟩ = some (.int .i64 m1) ∧ w'.cell? ⟨w3.heap.size, 1, none⟩ = some (.int .i64 m2) ∧ w3.heap.size + 1 ≤ w'.heap.size ∧ Below w3.heap.size w3 w')) (by kernel_rfl) ?_ ?_
              · (refine ⟨?_, ?_, ?_, ?_, ?_, ?_, ?_, ?_, ?_, ?_, ?_, ?_, ?_⟩ <;> first | assumption | ((repeat' (first | (with_reducible exact Below.refl _ _) | (with_reducible assumption) | (with_reducible refine drewN_below ?_ _) | (with_reducible refine Below.drew ?_) | (with_reducible refine Below.alloc ?_ ?_ _) | (with_reducible refine Below.setCell ?_ ?_ _) | (simp; done) | omega | (simp; omega))); done) | (simp [*]; done) | (simp [go_sem, *]; done) | (simp; omega))
              intro hH0
              refine wpAnyH_take (i := 0) (v := ?_) rfl (by kernel_rfl) (by kernel_rfl) (by kernel_rfl) (fun _ _ _ h => h) (Or.inl ⟨by rfl, ?_⟩) (by assumption) ?_
              rotate_left
              focus (intro wq hSq; (try dsimp only at hSq); go_simp; first | done | (with_reducible rfl))
              (try simp only [Act.put, List.getElem_toArray, List.getElem_cons_zero, List.setIfInBounds_toArray, List.set_cons_zero, List.set_cons_succ])
              refine wpAnyH_take (i := 1) (v := ?_) rfl (by kernel_rfl) (by kernel_rfl) (by kernel_rfl) (fun _ _ _ h => h) (Or.inl ⟨by rfl, ?_⟩) (by assumption) ?_
              rotate_left
              focus (intro wq hSq; (try dsimp only at hSq); go_simp; first | done | (with_reducible rfl))
              (try simp only [Act.put, List.getElem_toArray, List.getElem_cons_succ, List.getElem_cons_zero, List.setIfInBounds_toArray, List.set_cons_zero, List.set_cons_succ])
              refine wpAnyH_take (i := 2) (v := ?_) rfl (by kernel_rfl) (by kernel_rfl) (by kernel_rfl) (fun _ _ _ h => h) (Or.inl ⟨by rfl, ?_⟩) (by assumption) ?_
              rotate_left
              focus (intro wq hSq; (try dsimp only at hSq); go_simp; first | done | (with_reducible rfl))
              (try simp only [Act.put, List.getElem_toArray, List.getElem_cons_succ, List.getElem_cons_zero, List.setIfInBounds_toArray, List.set_cons_zero, List.set_cons_succ])
              refine wpAnyH_take (i := 3) (v := ?_) rfl (by kernel_rfl) (by kernel_rfl) (by kernel_rfl) (fun _ _ _ h => h) (Or.inl ⟨by rfl, ?_⟩) (by assumption) ?_
              rotate_left
              focus (intro wq hSq; (try dsimp only at hSq); go_simp; first | done | (with_reducible rfl))
              (try simp only [Act.put, List.getElem_toArray, List.getElem_cons_succ, List.getElem_cons_zero, List.setIfInBounds_toArray, List.set_cons_zero, List.set_cons_succ])
              refine wpAnyH_take (i := 4) (v := ?_) rfl (by kernel_rfl) (by kernel_rfl) (by kernel_rfl) (fun _ _ _ h => h) (Or.inl ⟨by rfl, ?_⟩) (by assumption) ?_
              rotate_left
              focus (intro wq hSq; (try dsimp only at hSq); go_simp; first | done | (with_reducible rfl))
              (try simp only [Act.put, List.getElem_toArray, List.getElem_cons_succ, List.getElem_cons_zero, List.setIfInBounds_toArray, List.set_cons_zero, List.set_cons_succ])
              refine wpAnyH_take (i := 5) (v := ?_) rfl (by kernel_rfl) (by kernel_rfl) (by kernel_rfl) (fun _ _ _ h => h) (Or.inl ⟨by rfl, ?_⟩) (by assumption) ?_
              rotate_left
              focus (intro wq hSq; (try dsimp only at hSq); go_simp; first | done | (with_reducible rfl))
              (try simp only [Act.put, List.getElem_toArray, List.getElem_cons_succ, List.getElem_cons_zero, List.setIfInBounds_toArray, List.set_cons_zero, List.set_cons_succ])
              refine wpAnyH_take (i := 6) (v := ?_) rfl (by kernel_rfl) (by kernel_rfl) (by kernel_rfl) (fun _ _ _ h => h) (Or.inl ⟨by rfl, ?_⟩) (by assumption) ?_
              rotate_left
              focus (intro wq hSq; (try dsimp only at hSq); go_simp; first | done | (with_reducible rfl))
              (try simp only [Act.put, List.getElem_toArray, List.getElem_cons_succ, List.getElem_cons_zero, List.setIfInBounds_toArray, List.set_cons_zero, List.set_cons_succ])
              refine wpAnyH_take (i := 7) (v := ?_) rfl (by kernel_rfl) (by kernel_rfl) (by kernel_rfl) (fun _ _ _ h => h) (Or.inl ⟨by rfl, ?_⟩) (by assumption) ?_
              rotate_left
              focus (intro wq hSq; (try dsimp only at hSq); go_simp; first | done | (with_reducible rfl))
              (try simp only [Act.put, List.getElem_toArray, List.getElem_cons_succ, List.getElem_cons_zero, List.setIfInBounds_toArray, List.set_cons_zero, List.set_cons_succ])
              refine wpAnyH_take (i := 8) (v := ?_) rfl (by kernel_rfl) (by kernel_rfl) (by kernel_rfl) (fun _ _ _ h => h) (Or.inl ⟨by rfl, ?_⟩) (by assumption) ?_
              rotate_left
              focus (intro wq hSq; (try dsimp only at hSq); go_simp; first | done | (with_reducible rfl))
              (try simp only [Act.put, List.getElem_toArray, List.getElem_cons_succ, List.getElem_cons_zero, List.setIfInBounds_toArray, List.set_cons_zero, List.set_cons_succ])
              refine wpAnyH_take (i := 9) (v := ?_) rfl (by kernel_rfl) (by kernel_rfl) (by kernel_rfl) (fun _ _ _ h => h) (Or.inl ⟨by rfl, ?_⟩) (by assumption) ?_
              rotate_left
              focus (intro wq hSq; (try dsimp only at hSq); go_simp; first | done | (with_reducible rfl))
              (try simp only [Act.put, List.getElem_toArray, List.getElem_cons_succ, List.getElem_cons_zero, List.setIfInBounds_toArray, List.set_cons_zero, List.set_cons_succ])
              refine wpAnyH_ready (rs := [10]) (by kernel_rfl) (by simp) ?_
              refine AllReadyH.cons rfl (fun K hK => ?_) AllReadyH.nil
              rw [if_pos (by rfl)]
              go_simp
              refine (ris_any _ _ _).mono ?_
              rintro e wr ⟨rfl, hbr⟩
              obtain ⟨hcr, hfr, hzr, hBr⟩ := after (a := w3) (B := w3.heap.size) (w3.heap.size + 1) hbr (by first | (with_reducible assumption) | (simp; done) | omega | (simp; omega)) (by repeat' (first | (with_reducible exact Below.refl _ _) | (with_reducible assumption) | (with_reducible refine drewN_below ?_ _) | (with_reducible refine Below.drew ?_) | (with_reducible refine Below.alloc ?_ ?_ _) | (with_reducible refine Below.setCell ?_ ?_ _) | (simp; done) | omega | (simp; omega))) (by omega)
              have yG := Nat.lt_of_lt_of_le xG hzr
              have yA := Nat.lt_of_lt_of_le xA hzr
              have yT := Nat.lt_of_lt_of_le xT hzr
              have yM := Nat.lt_of_lt_of_le xM hzr
              rw [hm]
              dsimp only
              refine hK.out _ _ ?_ (fun hHeld => ?_)
              · (refine ⟨?_, ?_, ?_, ?_, ?_, ?_, ?_, ?_, ?_, ?_, ?_, ?_, ?_⟩ <;> first | assumption | ((repeat' (first | (with_reducible exact Below.refl _ _) | (with_reducible assumption) | (with_reducible refine drewN_below ?_ _) | (with_reducible refine Below.drew ?_) | (with_reducible refine Below.alloc ?_ ?_ _) | (with_reducible refine Below.setCell ?_ ?_ _) | (simp; done) | omega | (simp; omega))); done) | (simp [*]; done) | (simp [go_sem, *]; done) | (simp; omega))
              clear hK K
              (try simp only [Act.put, List.getElem_toArray, List.getElem_cons_succ, List.getElem_cons_zero, List.setIfInBounds_toArray, List.set_cons_zero, List.set_cons_succ])
              refine wpAnyH_take (i := 11) (v := ?_) rfl (by kernel_rfl) (by kernel_rfl) (by kernel_rfl) (fun _ _ _ h => h) (Or.inl ⟨by rfl, ?_⟩) (by assumption) ?_
              rotate_left
              focus (intro wq hSq; (try dsimp only at hSq); go_simp; first | done | (with_reducible rfl))
              (try simp only [Act.put, List.getElem_toArray, List.getElem_cons_succ, List.getElem_cons_zero, List.setIfInBounds_toArray, List.set_cons_zero, List.set_cons_succ])
              refine wpAnyH_take (i := 12) (v := ?_) rfl (by kernel_rfl) (by kernel_rfl) (by kernel_rfl) (fun _ _ _ h => h) (Or.inl ⟨by rfl, ?_⟩) (by assumption) ?_
              rotate_left
              focus (intro wq hSq; (try dsimp only at hSq); go_simp; first | done | (with_reducible rfl))
              (try simp only [Act.put, List.getElem_toArray, List.getElem_cons_succ, List.getElem_cons_zero, List.setIfInBounds_toArray, List.set_cons_zero, List.set_cons_succ])
              refine wpAnyH_take (i := 13) (v := ?_) rfl (by kernel_rfl) (by kernel_rfl) (by kernel_rfl) (fun _ _ _ h => h) (Or.inl ⟨by rfl, ?_⟩) (by assumption) ?_
              rotate_left
              focus (intro wq hSq; (try dsimp only at hSq); go_simp; first | done | (with_reducible rfl))
              (try simp only [Act.put, List.getElem_toArray, List.getElem_cons_succ, List.getElem_cons_zero, List.setIfInBounds_toArray, List.set_cons_zero, List.set_cons_succ])
              refine wpAnyH_take (i := 14) (v := ?_) rfl (by kernel_rfl) (by kernel_rfl) (by kernel_rfl) (fun _ _ _ h => h) (Or.inl ⟨by rfl, ?_⟩) (by assumption) ?_
              rotate_left
              focus (intro wq hSq; (try dsimp only at hSq); go_simp; first | done | (with_reducible rfl))
              (try simp only [Act.put, List.getElem_toArray, List.getElem_cons_succ, List.getElem_cons_zero, List.setIfInBounds_toArray, List.set_cons_zero, List.set_cons_succ])
              refine wpAnyH_take (i := 16) (v := ?_) rfl (by kernel_rfl) (by kernel_rfl) (by kernel_rfl) (fun _ _ _ h => h) (Or.inl ⟨by rfl, ?_⟩) (by assumption) ?_
              rotate_left
              focus (intro wq hSq; (try dsimp only at hSq); go_simp; first | done | (with_reducible rfl))
              (try simp only [Act.put, List.getElem_toArray, List.getElem_cons_succ, List.getElem_cons_zero, List.setIfInBounds_toArray, List.set_cons_zero, List.set_cons_succ])
              refine wpAnyH_take (i := 17) (v := ?_) rfl (by kernel_rfl) (by kernel_rfl) (by kernel_rfl) (fun _ _ _ h => h) (Or.inl ⟨by rfl, ?_⟩) (by assumption) ?_
              rotate_left
              focus (intro wq hSq; (try dsimp only at hSq); go_simp; first | done | (with_reducible rfl))
              (try simp only [Act.put, List.getElem_toArray, List.getElem_cons_succ, List.getElem_cons_zero, List.setIfInBounds_toArray, List.set_cons_zero, List.set_cons_succ])
              refine wpAnyH_ready (rs := [15]) (by kernel_rfl) (by simp) ?_
              refine AllReadyH.cons rfl (fun K hK => ?_) AllReadyH.nil
              rw [if_pos (by rfl)]
              go_simp
              refine (Fit_any _ _ _ _ _ _ _ hI hF _).mono ?_
              rintro e wr ⟨rfl, hbr⟩
              obtain ⟨hcr, hfr, hzr, hBr⟩ := after (a := w3) (B := w3.heap.size) (w3.heap.size + 1) hbr (by first | (with_reducible assumption) | (simp; done) | omega | (simp; omega)) (by repeat' (first | (with_reducible exact Below.refl _ _) | (with_reducible assumption) | (with_reducible refine drewN_below ?_ _) | (with_reducible refine Below.drew ?_) | (with_reducible refine Below.alloc ?_ ?_ _) | (with_reducible refine Below.setCell ?_ ?_ _) | (simp; done) | omega | (simp; omega))) (by omega)
              have yG := Nat.lt_of_lt_of_le xG hzr
              have yA := Nat.lt_of_lt_of_le xA hzr
              have yT := Nat.lt_of_lt_of_le xT hzr
              have yM := Nat.lt_of_lt_of_le xM hzr
              rw [HF1.out]
              dsimp only
              refine hK.out _ _ ?_ (fun hHeld => ?_)
              · (refine ⟨?_, ?_, ?_, ?_, ?_, ?_, ?_, ?_, ?_, ?_, ?_, ?_, ?_⟩ <;> first | assumption | ((repeat' (first | (with_reducible exact Below.refl _ _) | (with_reducible assumption) | (with_reducible refine drewN_below ?_ _) | (with_reducible refine Below.drew ?_) | (with_reducible refine Below.alloc ?_ ?_ _) | (with_reducible refine Below.setCell ?_ ?_ _) | (simp; done) | omega | (simp; omega))); done) | (simp [*]; done) | (simp [go_sem, *]; done) | (simp; omega))
              clear hK K
              (try simp only [Act.put, List.getElem_toArray, List.getElem_cons_succ, List.getElem_cons_zero, List.setIfInBounds_toArray, List.set_cons_zero, List.set_cons_succ])
              refine wpAnyH_ready (rs := [18]) (by kernel_rfl) (by simp) ?_
              refine AllReadyH.cons rfl (fun K hK => ?_) AllReadyH.nil
              rw [if_pos (by rfl)]
              go_simp
              refine (Fit_any _ _ _ _ _ _ _ hI hF _).mono ?_
              rintro e wr ⟨rfl, hbr⟩
              obtain ⟨hcr, hfr, hzr, hBr⟩ := after (a := w3) (B := w3.heap.size) (w3.heap.size + 1) hbr (by first | (with_reducible assumption) | (simp; done) | omega | (simp; omega)) (by repeat' (first | (with_reducible exact Below.refl _ _) | (with_reducible assumption) | (with_reducible refine drewN_below ?_ _) | (with_reducible refine Below.drew ?_) | (with_reducible refine Below.alloc ?_ ?_ _) | (with_reducible refine Below.setCell ?_ ?_ _) | (simp; done) | omega | (simp; omega))) (by omega)
              have yG := Nat.lt_of_lt_of_le xG hzr
              have yA := Nat.lt_of_lt_of_le xA hzr
              have yT := Nat.lt_of_lt_of_le xT hzr
              have yM := Nat.lt_of_lt_of_le xM hzr
              rw [hxy.out]
              dsimp only
              refine hK.out _ _ ?_ (fun hHeld => ?_)
              · (refine ⟨?_, ?_, ?_, ?_, ?_, ?_, ?_, ?_, ?_, ?_, ?_, ?_, ?_⟩ <;> first | assumption | ((repeat' (first | (with_reducible exact Below.refl _ _) | (with_reducible assumption) | (with_reducible refine drewN_below ?_ _) | (with_reducible refine Below.drew ?_) | (with_reducible refine Below.alloc ?_ ?_ _) | (with_reducible refine Below.setCell ?_ ?_ _) | (simp; done) | omega | (simp; omega))); done) | (simp [*]; done) | (simp [go_sem, *]; done) | (simp; omega))
              clear hK K
              (try simp only [Act.put, List.getElem_toArray, List.getElem_cons_succ, List.getElem_cons_zero, List.setIfInBounds_toArray, List.set_cons_zero, List.set_cons_succ])
              refine wpAnyH_take (i := 19) (v := ?_) rfl (by kernel_rfl) (by kernel_rfl) (by kernel_rfl) (fun _ _ _ h => h) (Or.inl ⟨by rfl, ?_⟩) (by assumption) ?_
              rotate_left
              focus (intro wq hSq; (try dsimp only at hSq); go_simp; first | done | (with_reducible rfl))
              (try simp only [Act.put, List.getElem_toArray, List.getElem_cons_succ, List.getElem_cons_zero, List.setIfInBounds_toArray, List.set_cons_zero, List.set_cons_succ])
              refine wpAnyH_take (i := 20) (v := ?_) rfl (by kernel_rfl) (by kernel_rfl) (by kernel_rfl) (fun _ _ _ h => h) (Or.inl ⟨by rfl, ?_⟩) (by assumption) ?_
              rotate_left
              focus (intro wq hSq; (try dsimp only at hSq); go_simp; first | done | (with_reducible rfl))
              (try simp only [Act.put, List.getElem_toArray, List.getElem_cons_succ, List.getElem_cons_zero, List.setIfInBounds_toArray, List.set_cons_zero, List.set_cons_succ])
              refine wpAnyH_done (by kernel_rfl) ?_ _
              obtain ⟨s0, s1, s2, s3, s4, s5, s6, s7, s8, s9, s10, s11, s12⟩ := (by assumption : wr.cell? ⟨w.heap.size, 0, none⟩ = some (.string k) ∧ wr.cell? ⟨w.heap.size, 1, none⟩ = some (.int .i64 (i : Int)) ∧ wr.cell? ⟨w.heap.size, 2, none⟩ = some (.int .i64 F) ∧ wr.cell? ⟨w.heap.size, 3, none⟩ = some (.string r) ∧ wr.cell? ⟨w.heap.size, 4, none⟩ = some (.string o) ∧ wr.cell? ⟨w.heap.size + 1, 0, none⟩ = some (.int .i64 an) ∧ wr.cell? ⟨w.heap.size + 1, 1, none⟩ = some (.int .i64 ad) ∧ wr.cell? ⟨w2.heap.size, 0, none⟩ = some (.int .i64 t1) ∧ wr.cell? ⟨w2.heap.size, 1, none⟩ = some (.int .i64 t2) ∧ wr.cell? ⟨w3.heap.size, 0, none⟩ = some (.int .i64 m1) ∧ wr.cell? ⟨w3.heap.size, 1, none⟩ = some (.int .i64 m2) ∧ w3.heap.size + 1 ≤ wr.heap.size ∧ Below w3.heap.size w3 wr)
              have cG0w4 := s0
              have cG1w4 := s1
              have cG2w4 := s2
              have cG3w4 := s3
              have cG4w4 := s4
              have cA0w4 := s5
              have cA1w4 := s6
              have cT0w4 := s7
              have cT1w4 := s8
              have cM0w4 := s9
              have cM1w4 := s10
              have bGw4 : w.heap.size < wr.heap.size := Nat.lt_of_lt_of_le xG s11
              have dGw4 : w.heap.size < wr.heap.size + 1 := Nat.lt_succ_of_lt bGw4
              have bAw4 : w.heap.size + 1 < wr.heap.size := Nat.lt_of_lt_of_le xA s11
              have dAw4 : w.heap.size + 1 < wr.heap.size + 1 := Nat.lt_succ_of_lt bAw4
              have bTw4 : w2.heap.size < wr.heap.size := Nat.lt_of_lt_of_le xT s11
              have dTw4 : w2.heap.size < wr.heap.size + 1 := Nat.lt_succ_of_lt bTw4
              have bMw4 : w3.heap.size < wr.heap.size := Nat.lt_of_lt_of_le xM s11
              have dMw4 : w3.heap.size < wr.heap.size + 1 := Nat.lt_succ_of_lt bMw4
              have hBw4 : Below w.heap.size w wr := Below.trans hBw3 (s12.mono hBw3.size)
              have zw4 : w.heap.size ≤ wr.heap.size := hBw4.size
              clear s0 s1 s2 s3 s4 s5 s6 s7 s8 s9 s10 s11 s12 xG xA xT xM hcr hfr hzr hBr hbr zw3 hBw3 dTw3 bTw3 cT1w3 cT0w3 dAw3 bAw3 cA1w3 cA0w3 dGw3 bGw3 cG4w3 cG3w3 cG2w3 cG1w3 cG0w3
              repeat (clear hcr hfr hzr hBr hbr)
              skip
              obtain ⟨w4, ew4⟩ : ∃ x, x = wr := ⟨_, rfl⟩
              subst ew4
              go_wp2_with fail
              refine (Value_any _ _ _ _ _ _ hI hF hc _).mono ?_
              rintro e w5 ⟨rfl, hw5⟩
              have hmw5 : Below w4.heap.size w4 w5 := on_below hw5 (by repeat' (first | (with_reducible exact Below.refl _ _) | (with_reducible assumption) | (with_reducible refine drewN_below ?_ _) | (with_reducible refine Below.drew ?_) | (with_reducible refine Below.alloc ?_ ?_ _) | (with_reducible refine Below.setCell ?_ ?_ _) | (simp; done) | omega | (simp; omega))) (by first | (with_reducible assumption) | (simp; done) | omega | (simp; omega))
              have cG0w5 := (hmw5.cell (p := ⟨w.heap.size, 0, none⟩) bGw4).trans cG0w4
              have cG1w5 := (hmw5.cell (p := ⟨w.heap.size, 1, none⟩) bGw4).trans cG1w4
              have cG2w5 := (hmw5.cell (p := ⟨w.heap.size, 2, none⟩) bGw4).trans cG2w4
              have cG3w5 := (hmw5.cell (p := ⟨w.heap.size, 3, none⟩) bGw4).trans cG3w4
              have cG4w5 := (hmw5.cell (p := ⟨w.heap.size, 4, none⟩) bGw4).trans cG4w4
              have bGw5 : w.heap.size < w5.heap.size := Nat.lt_of_lt_of_le bGw4 hmw5.size
              have dGw5 : w.heap.size < w5.heap.size + 1 := Nat.lt_succ_of_lt bGw5
              have cA0w5 := (hmw5.cell (p := ⟨w.heap.size + 1, 0, none⟩) bAw4).trans cA0w4
              have cA1w5 := (hmw5.cell (p := ⟨w.heap.size + 1, 1, none⟩) bAw4).trans cA1w4
              have bAw5 : w.heap.size + 1 < w5.heap.size := Nat.lt_of_lt_of_le bAw4 hmw5.size
              have dAw5 : w.heap.size + 1 < w5.heap.size + 1 := Nat.lt_succ_of_lt bAw5
              have cT0w5 := (hmw5.cell (p := ⟨w2.heap.size, 0, none⟩) bTw4).trans cT0w4
              have cT1w5 := (hmw5.cell (p := ⟨w2.heap.size, 1, none⟩) bTw4).trans cT1w4
              have bTw5 : w2.heap.size < w5.heap.size := Nat.lt_of_lt_of_le bTw4 hmw5.size
              have dTw5 : w2.heap.size < w5.heap.size + 1 := Nat.lt_succ_of_lt bTw5
              have cM0w5 := (hmw5.cell (p := ⟨w3.heap.size, 0, none⟩) bMw4).trans cM0w4
              have cM1w5 := (hmw5.cell (p := ⟨w3.heap.size, 1, none⟩) bMw4).trans cM1w4
              have bMw5 : w3.heap.size < w5.heap.size := Nat.lt_of_lt_of_le bMw4 hmw5.size
              have dMw5 : w3.heap.size < w5.heap.size + 1 := Nat.lt_succ_of_lt bMw5
              have hBw5 : Below w.heap.size w w5 := Below.trans hBw4 (hmw5.mono hBw4.size)
              have zw5 : w.heap.size ≤ w5.heap.size := hBw5.size
              clear hmw5 hw5 zw4 hBw4 dMw4 bMw4 dTw4 bTw4 dAw4 bAw4 dGw4 bGw4 cM1w4 cM0w4 cT1w4 cT0w4 cA1w4 cA0w4 cG4w4 cG3w4 cG2w4 cG1w4 cG0w4
              rw [HQ.out]
              go_wp2_with fail
              refine (Code_any _ _ _ _ _ _ _ hI hF _).mono ?_
              rintro e w6 ⟨rfl, hw6⟩
              have hmw6 : Below w5.heap.size w5 w6 := on_below hw6 (by repeat' (first | (with_reducible exact Below.refl _ _) | (with_reducible assumption) | (with_reducible refine drewN_below ?_ _) | (with_reducible refine Below.drew ?_) | (with_reducible refine Below.alloc ?_ ?_ _) | (with_reducible refine Below.setCell ?_ ?_ _) | (simp; done) | omega | (simp; omega))) (by first | (with_reducible assumption) | (simp; done) | omega | (simp; omega))
              have cG0w6 := (hmw6.cell (p := ⟨w.heap.size, 0, none⟩) bGw5).trans cG0w5
              have cG1w6 := (hmw6.cell (p := ⟨w.heap.size, 1, none⟩) bGw5).trans cG1w5
              have cG2w6 := (hmw6.cell (p := ⟨w.heap.size, 2, none⟩) bGw5).trans cG2w5
              have cG3w6 := (hmw6.cell (p := ⟨w.heap.size, 3, none⟩) bGw5).trans cG3w5
              have cG4w6 := (hmw6.cell (p := ⟨w.heap.size, 4, none⟩) bGw5).trans cG4w5
              have bGw6 : w.heap.size < w6.heap.size := Nat.lt_of_lt_of_le bGw5 hmw6.size
              have dGw6 : w.heap.size < w6.heap.size + 1 := Nat.lt_succ_of_lt bGw6
              have cA0w6 := (hmw6.cell (p := ⟨w.heap.size + 1, 0, none⟩) bAw5).trans cA0w5
              have cA1w6 := (hmw6.cell (p := ⟨w.heap.size + 1, 1, none⟩) bAw5).trans cA1w5
              have bAw6 : w.heap.size + 1 < w6.heap.size := Nat.lt_of_lt_of_le bAw5 hmw6.size
              have dAw6 : w.heap.size + 1 < w6.heap.size + 1 := Nat.lt_succ_of_lt bAw6
              have cT0w6 := (hmw6.cell (p := ⟨w2.heap.size, 0, none⟩) bTw5).trans cT0w5
              have cT1w6 := (hmw6.cell (p := ⟨w2.heap.size, 1, none⟩) bTw5).trans cT1w5
              have bTw6 : w2.heap.size < w6.heap.size := Nat.lt_of_lt_of_le bTw5 hmw6.size
              have dTw6 : w2.heap.size < w6.heap.size + 1 := Nat.lt_succ_of_lt bTw6
              have cM0w6 := (hmw6.cell (p := ⟨w3.heap.size, 0, none⟩) bMw5).trans cM0w5
              have cM1w6 := (hmw6.cell (p := ⟨w3.heap.size, 1, none⟩) bMw5).trans cM1w5
              have bMw6 : w3.heap.size < w6.heap.size := Nat.lt_of_lt_of_le bMw5 hmw6.size
              have dMw6 : w3.heap.size < w6.heap.size + 1 := Nat.lt_succ_of_lt bMw6
              have cQ0w6 : w6.cell? ⟨w5.heap.size, 0, none⟩ = some (.int .i64 q1) := by rw [hw6.cell (p := ⟨w5.heap.size, 0, none⟩) (by first | (with_reducible assumption) | (simp; done) | omega | (simp; omega))]; simp [go_sem]
              have cQ1w6 : w6.cell? ⟨w5.heap.size, 1, none⟩ = some (.int .i64 q2) := by rw [hw6.cell (p := ⟨w5.heap.size, 1, none⟩) (by first | (with_reducible assumption) | (simp; done) | omega | (simp; omega))]; simp [go_sem]
              have bQw6 : w5.heap.size < w6.heap.size := by have := hw6.size; first | omega | (simp at this; omega)
              have dQw6 : w5.heap.size < w6.heap.size + 1 := Nat.lt_succ_of_lt bQw6
              have hBw6 : Below w.heap.size w w6 := Below.trans hBw5 (hmw6.mono hBw5.size)
              have zw6 : w.heap.size ≤ w6.heap.size := hBw6.size
              clear hmw6 hw6 zw5 hBw5 dMw5 bMw5 cM1w5 cM0w5 dTw5 bTw5 cT1w5 cT0w5 dAw5 bAw5 cA1w5 cA0w5 dGw5 bGw5 cG4w5 cG3w5 cG2w5 cG1w5 cG0w5
              rw [HCD.out]
              go_wp2_with fail
              refine (awake_any _).mono ?_
              rintro e w7 ⟨rfl, hw7⟩
              have hmw7 : Below w6.heap.size w6 w7 := on_below hw7 (by repeat' (first | (with_reducible exact Below.refl _ _) | (with_reducible assumption) | (with_reducible refine drewN_below ?_ _) | (with_reducible refine Below.drew ?_) | (with_reducible refine Below.alloc ?_ ?_ _) | (with_reducible refine Below.setCell ?_ ?_ _) | (simp; done) | omega | (simp; omega))) (by first | (with_reducible assumption) | (simp; done) | omega | (simp; omega))
              have cG0w7 := (hmw7.cell (p := ⟨w.heap.size, 0, none⟩) bGw6).trans cG0w6
              have cG1w7 := (hmw7.cell (p := ⟨w.heap.size, 1, none⟩) bGw6).trans cG1w6
              have cG2w7 := (hmw7.cell (p := ⟨w.heap.size, 2, none⟩) bGw6).trans cG2w6
              have cG3w7 := (hmw7.cell (p := ⟨w.heap.size, 3, none⟩) bGw6).trans cG3w6
              have cG4w7 := (hmw7.cell (p := ⟨w.heap.size, 4, none⟩) bGw6).trans cG4w6
              have bGw7 : w.heap.size < w7.heap.size := Nat.lt_of_lt_of_le bGw6 hmw7.size
              have dGw7 : w.heap.size < w7.heap.size + 1 := Nat.lt_succ_of_lt bGw7
              have cA0w7 := (hmw7.cell (p := ⟨w.heap.size + 1, 0, none⟩) bAw6).trans cA0w6
              have cA1w7 := (hmw7.cell (p := ⟨w.heap.size + 1, 1, none⟩) bAw6).trans cA1w6
              have bAw7 : w.heap.size + 1 < w7.heap.size := Nat.lt_of_lt_of_le bAw6 hmw7.size
              have dAw7 : w.heap.size + 1 < w7.heap.size + 1 := Nat.lt_succ_of_lt bAw7
              have cT0w7 := (hmw7.cell (p := ⟨w2.heap.size, 0, none⟩) bTw6).trans cT0w6
              have cT1w7 := (hmw7.cell (p := ⟨w2.heap.size, 1, none⟩) bTw6).trans cT1w6
              have bTw7 : w2.heap.size < w7.heap.size := Nat.lt_of_lt_of_le bTw6 hmw7.size
              have dTw7 : w2.heap.size < w7.heap.size + 1 := Nat.lt_succ_of_lt bTw7
              have cM0w7 := (hmw7.cell (p := ⟨w3.heap.size, 0, none⟩) bMw6).trans cM0w6
              have cM1w7 := (hmw7.cell (p := ⟨w3.heap.size, 1, none⟩) bMw6).trans cM1w6
              have bMw7 : w3.heap.size < w7.heap.size := Nat.lt_of_lt_of_le bMw6 hmw7.size
              have dMw7 : w3.heap.size < w7.heap.size + 1 := Nat.lt_succ_of_lt bMw7
              have cQ0w7 := (hmw7.cell (p := ⟨w5.heap.size, 0, none⟩) bQw6).trans cQ0w6
              have cQ1w7 := (hmw7.cell (p := ⟨w5.heap.size, 1, none⟩) bQw6).trans cQ1w6
              have bQw7 : w5.heap.size < w7.heap.size := Nat.lt_of_lt_of_le bQw6 hmw7.size
              have dQw7 : w5.heap.size < w7.heap.size + 1 := Nat.lt_succ_of_lt bQw7
              have hBw7 : Below w.heap.size w w7 := Below.trans hBw6 (hmw7.mono hBw6.size)
              have zw7 : w.heap.size ≤ w7.heap.size := hBw7.size
              clear hmw7 hw7 zw6 hBw6 dQw6 bQw6 cQ1w6 cQ0w6 dMw6 bMw6 cM1w6 cM0w6 dTw6 bTw6 cT1w6 cT0w6 dAw6 bAw6 cA1w6 cA0w6 dGw6 bGw6 cG4w6 cG3w6 cG2w6 cG1w6 cG0w6
              go_wp2
              go_ret
              exact ⟨rfl, (by repeat' (first | (with_reducible exact Below.refl _ _) | (with_reducible assumption) | (with_reducible refine drewN_below ?_ _) | (with_reducible refine Below.drew ?_) | (with_reducible refine Below.alloc ?_ ?_ _) | (with_reducible refine Below.setCell ?_ ?_ _) | (simp; done) | omega | (simp; omega)))⟩

end Go.Proofs.YtmadhpbdianddaaDoor
