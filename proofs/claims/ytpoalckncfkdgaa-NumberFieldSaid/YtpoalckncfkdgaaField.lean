/-
  The law on a field in order, as far as no none comes: the walk.
-/
import Derived.Test.YtpoalckncfkdgaaRounds
import Derived.Test.YtpoalckncfkdgaaQf
import Derived.Deep.DeepCutAuto
namespace Go.Proofs.Ytpoalckncfkdgaa
open Go.RowKit

set_option maxRecDepth 100000 in
set_option maxHeartbeats 6400000 in
theorem field_any (an ad bn bd cn cd : Int) (w : World) :
    Calls Try.prog 7 #[.agg #[.int .i64 an, .int .i64 ad], .agg #[.int .i64 bn, .int .i64 bd], .agg #[.int .i64 cn, .int .i64 cd]] w fun e w' => e = .returned (.bool true) ∧ Below w.heap.size w w' := by
  obtain ⟨sx, sy, hs⟩ : ∃ x y, Hid (Q.add (an, ad) (bn, bd) = (x, y)) := ⟨_, _, rfl⟩
  obtain ⟨px, py, hp⟩ : ∃ x y, Hid (Q.mul (an, ad) (bn, bd) = (x, y)) := ⟨_, _, rfl⟩
  obtain ⟨mx, my, hmi⟩ : ∃ x y, Hid (Q.min (an, ad) (bn, bd) = (x, y)) := ⟨_, _, rfl⟩
  obtain ⟨ox, oy, hmo⟩ : ∃ x y, Hid (Q.mod (an, ad) (bn, bd) = (x, y)) := ⟨_, _, rfl⟩
  obtain ⟨xx, xy, hx⟩ : ∃ x y, Hid (Q.add (sx, sy) (cn, cd) = (x, y)) := ⟨_, _, rfl⟩
  obtain ⟨bx, by', hbc⟩ : ∃ x y, Hid (Q.add (bn, bd) (cn, cd) = (x, y)) := ⟨_, _, rfl⟩
  obtain ⟨yx, yy, hy⟩ : ∃ x y, Hid (Q.add (an, ad) (bx, by') = (x, y)) := ⟨_, _, rfl⟩
  obtain ⟨ux, uy, hu⟩ : ∃ x y, Hid (Q.mul (sx, sy) (cn, cd) = (x, y)) := ⟨_, _, rfl⟩
  obtain ⟨fx, fy, hf⟩ : ∃ x y, Hid (Q.mul (an, ad) (cn, cd) = (x, y)) := ⟨_, _, rfl⟩
  obtain ⟨gx, gy, hg⟩ : ∃ x y, Hid (Q.mul (bn, bd) (cn, cd) = (x, y)) := ⟨_, _, rfl⟩
  obtain ⟨vx, vy, hv⟩ : ∃ x y, Hid (Q.add (fx, fy) (gx, gy) = (x, y)) := ⟨_, _, rfl⟩
  obtain ⟨dx, dy, hd⟩ : ∃ x y, Hid (Q.div (an, ad) (bn, bd) = (x, y)) := ⟨_, _, rfl⟩
  obtain ⟨kx, ky, hk⟩ : ∃ x y, Hid (Q.mul (dx, dy) (bn, bd) = (x, y)) := ⟨_, _, rfl⟩
  obtain ⟨ex, ey, he⟩ : ∃ x y, Hid (Q.clean (an, ad) = (x, y)) := ⟨_, _, rfl⟩
  obtain ⟨lx, ly, hl⟩ : ∃ x y, Hid (Q.add (an, ad) (cn, cd) = (x, y)) := ⟨_, _, rfl⟩
  obtain ⟨c0, hc0⟩ : ∃ x, Hid (Q.cmp (an, ad) (bn, bd) = x) := ⟨_, rfl⟩
  obtain ⟨c1, hc1⟩ : ∃ x, Hid (Q.cmp (lx, ly) (bx, by') = x) := ⟨_, rfl⟩
  have hs' : Hid (Q.add (bn, bd) (an, ad) = (sx, sy)) := by unfold Hid; rw [Q.add_comm']; exact hs.out
  have hp' : Hid (Q.mul (bn, bd) (an, ad) = (px, py)) := by unfold Hid; rw [Q.mul_comm']; exact hp.out
  have L1 : Hid ((Q.isq an ad && Q.isq bn bd) = false → Q.isq sx sy = false ∧ Q.isq px py = false ∧ Q.isq mx my = false ∧ Q.isq ox oy = false) := by
    intro h
    have hn := Q.none_add (a := (an, ad)) (b := (bn, bd)) h
    rw [hs.out, hp.out, hmi.out, hmo.out] at hn
    simp only [Prod.mk.injEq] at hn
    obtain ⟨⟨rfl, rfl⟩, ⟨rfl, rfl⟩, ⟨rfl, rfl⟩, ⟨rfl, rfl⟩⟩ := hn
    exact ⟨Q.isq_none, Q.isq_none, Q.isq_none, Q.isq_none⟩
  have L2 : Hid ((Q.isq xx xy && Q.isq yx yy) = true → (xx, xy) = (yx, yy)) := by
    intro h
    rw [Bool.and_eq_true] at h
    have := Q.assoc_law (a := (an, ad)) (b := (bn, bd)) (c := (cn, cd)) (by rw [hs.out, hx.out]; exact h.1) (by rw [hbc.out, hy.out]; exact h.2)
    rw [hs.out, hx.out, hbc.out, hy.out] at this; exact this
  have L3 : Hid ((Q.isq ux uy && Q.isq vx vy) = true → (ux, uy) = (vx, vy)) := by
    intro h
    rw [Bool.and_eq_true] at h
    have := Q.distr_law (a := (an, ad)) (b := (bn, bd)) (c := (cn, cd)) (by rw [hs.out, hu.out]; exact h.1) (by rw [hf.out, hg.out, hv.out]; exact h.2)
    rw [hs.out, hu.out, hf.out, hg.out, hv.out] at this; exact this
  have L4 : Hid (Q.isq dx dy = true → (kx, ky) = (ex, ey)) := by
    intro h
    have := Q.div_law (a := (an, ad)) (b := (bn, bd)) (by rw [hd.out]; exact h)
    rw [hd.out, hk.out, he.out] at this; exact this
  have L5 : Hid ((Q.isq an ad && Q.isq bn bd && Q.isq lx ly && Q.isq bx by') = true → c0 = c1) := by
    intro h
    simp only [Bool.and_eq_true] at h
    have := Q.order_law (a := (an, ad)) (b := (bn, bd)) (c := (cn, cd)) ((Q.both_iff _ _).2 h.1.1) (by rw [hl.out]; exact h.1.2) (by rw [hbc.out]; exact h.2)
    rw [hc0.out, hl.out, hbc.out, hc1.out] at this; exact this
  go_enter Try.func7, Try.ntmps7
  go_wp2_with fail
  refine (add_any _ _ _ _ _).mono ?_
  rintro e w1 ⟨rfl, hw1⟩
  have hmw1 : Below w.heap.size w w1 := on_below hw1 (by repeat' (first | (with_reducible exact Below.refl _ _) | (with_reducible assumption) | (with_reducible refine drewN_below ?_ _) | (with_reducible refine Below.drew ?_) | (with_reducible refine Below.alloc ?_ ?_ _) | (with_reducible refine Below.setCell ?_ ?_ _) | (simp; done) | omega | (simp; omega))) (by first | (with_reducible assumption) | (simp; done) | omega | (simp; omega))
  have cA0w1 : w1.cell? ⟨w.heap.size, 0, none⟩ = some (.int .i64 an) := by rw [hw1.cell (p := ⟨w.heap.size, 0, none⟩) (by first | (with_reducible assumption) | (simp; done) | omega | (simp; omega))]; simp [go_sem]
  have cA1w1 : w1.cell? ⟨w.heap.size, 1, none⟩ = some (.int .i64 ad) := by rw [hw1.cell (p := ⟨w.heap.size, 1, none⟩) (by first | (with_reducible assumption) | (simp; done) | omega | (simp; omega))]; simp [go_sem]
  have bAw1 : w.heap.size < w1.heap.size := by have := hw1.size; first | omega | (simp at this; omega)
  have dAw1 : w.heap.size < w1.heap.size + 1 := Nat.lt_succ_of_lt bAw1
  have cB0w1 : w1.cell? ⟨w.heap.size + 1, 0, none⟩ = some (.int .i64 bn) := by rw [hw1.cell (p := ⟨w.heap.size + 1, 0, none⟩) (by first | (with_reducible assumption) | (simp; done) | omega | (simp; omega))]; simp [go_sem]
  have cB1w1 : w1.cell? ⟨w.heap.size + 1, 1, none⟩ = some (.int .i64 bd) := by rw [hw1.cell (p := ⟨w.heap.size + 1, 1, none⟩) (by first | (with_reducible assumption) | (simp; done) | omega | (simp; omega))]; simp [go_sem]
  have bBw1 : w.heap.size + 1 < w1.heap.size := by have := hw1.size; first | omega | (simp at this; omega)
  have dBw1 : w.heap.size + 1 < w1.heap.size + 1 := Nat.lt_succ_of_lt bBw1
  have cC0w1 : w1.cell? ⟨w.heap.size + 2, 0, none⟩ = some (.int .i64 cn) := by rw [hw1.cell (p := ⟨w.heap.size + 2, 0, none⟩) (by first | (with_reducible assumption) | (simp; done) | omega | (simp; omega))]; simp [go_sem]
  have cC1w1 : w1.cell? ⟨w.heap.size + 2, 1, none⟩ = some (.int .i64 cd) := by rw [hw1.cell (p := ⟨w.heap.size + 2, 1, none⟩) (by first | (with_reducible assumption) | (simp; done) | omega | (simp; omega))]; simp [go_sem]
  have bCw1 : w.heap.size + 2 < w1.heap.size := by have := hw1.size; first | omega | (simp at this; omega)
  have dCw1 : w.heap.size + 2 < w1.heap.size + 1 := Nat.lt_succ_of_lt bCw1
  have hBw1 : Below w.heap.size w w1 := hmw1
  have zw1 : w.heap.size ≤ w1.heap.size := hBw1.size
  clear hmw1 hw1
  rw [hs.out]
  go_wp2_with fail
  refine (mul_any _ _ _ _ _).mono ?_
  rintro e w2 ⟨rfl, hw2⟩
  have hmw2 : Below w1.heap.size w1 w2 := on_below hw2 (by repeat' (first | (with_reducible exact Below.refl _ _) | (with_reducible assumption) | (with_reducible refine drewN_below ?_ _) | (with_reducible refine Below.drew ?_) | (with_reducible refine Below.alloc ?_ ?_ _) | (with_reducible refine Below.setCell ?_ ?_ _) | (simp; done) | omega | (simp; omega))) (by first | (with_reducible assumption) | (simp; done) | omega | (simp; omega))
  have cA0w2 := (hmw2.cell (p := ⟨w.heap.size, 0, none⟩) bAw1).trans cA0w1
  have cA1w2 := (hmw2.cell (p := ⟨w.heap.size, 1, none⟩) bAw1).trans cA1w1
  have bAw2 : w.heap.size < w2.heap.size := Nat.lt_of_lt_of_le bAw1 hmw2.size
  have dAw2 : w.heap.size < w2.heap.size + 1 := Nat.lt_succ_of_lt bAw2
  have cB0w2 := (hmw2.cell (p := ⟨w.heap.size + 1, 0, none⟩) bBw1).trans cB0w1
  have cB1w2 := (hmw2.cell (p := ⟨w.heap.size + 1, 1, none⟩) bBw1).trans cB1w1
  have bBw2 : w.heap.size + 1 < w2.heap.size := Nat.lt_of_lt_of_le bBw1 hmw2.size
  have dBw2 : w.heap.size + 1 < w2.heap.size + 1 := Nat.lt_succ_of_lt bBw2
  have cC0w2 := (hmw2.cell (p := ⟨w.heap.size + 2, 0, none⟩) bCw1).trans cC0w1
  have cC1w2 := (hmw2.cell (p := ⟨w.heap.size + 2, 1, none⟩) bCw1).trans cC1w1
  have bCw2 : w.heap.size + 2 < w2.heap.size := Nat.lt_of_lt_of_le bCw1 hmw2.size
  have dCw2 : w.heap.size + 2 < w2.heap.size + 1 := Nat.lt_succ_of_lt bCw2
  have cS0w2 : w2.cell? ⟨w1.heap.size, 0, none⟩ = some (.int .i64 sx) := by rw [hw2.cell (p := ⟨w1.heap.size, 0, none⟩) (by first | (with_reducible assumption) | (simp; done) | omega | (simp; omega))]; simp [go_sem]
  have cS1w2 : w2.cell? ⟨w1.heap.size, 1, none⟩ = some (.int .i64 sy) := by rw [hw2.cell (p := ⟨w1.heap.size, 1, none⟩) (by first | (with_reducible assumption) | (simp; done) | omega | (simp; omega))]; simp [go_sem]
  have bSw2 : w1.heap.size < w2.heap.size := by have := hw2.size; first | omega | (simp at this; omega)
  have dSw2 : w1.heap.size < w2.heap.size + 1 := Nat.lt_succ_of_lt bSw2
  have hBw2 : Below w.heap.size w w2 := Below.trans hBw1 (hmw2.mono hBw1.size)
  have zw2 : w.heap.size ≤ w2.heap.size := hBw2.size
  clear hmw2 hw2 zw1 hBw1 dCw1 bCw1 cC1w1 cC0w1 dBw1 bBw1 cB1w1 cB0w1 dAw1 bAw1 cA1w1 cA0w1
  rw [hp.out]
  go_upto_region 3 with fail
  go_cut [28] (fun s28 wx => s28 = .bool false ∧ wx.cell? ⟨w.heap.size, 0, none⟩ = some (.int .i64 an) ∧ wx.cell? ⟨w.heap.size, 1, none⟩ = some (.int .i64 ad) ∧ w.heap.size < wx.heap.size ∧ wx.cell? ⟨w.heap.size + 1, 0, none⟩ = some (.int .i64 bn) ∧ wx.cell? ⟨w.heap.size + 1, 1, none⟩ = some (.int .i64 bd) ∧ w.heap.size + 1 < wx.heap.size ∧ wx.cell? ⟨w.heap.size + 2, 0, none⟩ = some (.int .i64 cn) ∧ wx.cell? ⟨w.heap.size + 2, 1, none⟩ = some (.int .i64 cd) ∧ w.heap.size + 2 < wx.heap.size ∧ wx.cell? ⟨w1.heap.size, 0, none⟩ = some (.int .i64 sx) ∧ wx.cell? ⟨w1.heap.size, 1, none⟩ = some (.int .i64 sy) ∧ w1.heap.size < wx.heap.size ∧ wx.cell? ⟨w2.heap.size, 0, none⟩ = some (.int .i64 px) ∧ wx.cell? ⟨w2.heap.size, 1, none⟩ = some (.int .i64 py) ∧ w2.heap.size < wx.heap.size ∧ Below w.heap.size w wx)
  case first =>
    have xA : w.heap.size < w2.heap.size + 1 := by omega
    have xB : w.heap.size + 1 < w2.heap.size + 1 := by omega
    have xC : w.heap.size + 2 < w2.heap.size + 1 := by omega
    have xS : w1.heap.size < w2.heap.size + 1 := by omega
    have xP : w2.heap.size < w2.heap.size + 1 := by omega
    first | (go_region_held3 (fun w' => w'.cell? ⟨w.heap.size, 0, none⟩ = some (.int .i64 an) ∧ w'.cell? ⟨w.heap.size, 1, none⟩ = some (.int .i64 ad) ∧ w'.cell? ⟨w.heap.size + 1, 0, none⟩ = some (.int .i64 bn) ∧ w'.cell? ⟨w.heap.size + 1, 1, none⟩ = some (.int .i64 bd) ∧ w'.cell? ⟨w.heap.size + 2, 0, none⟩ = some (.int .i64 cn) ∧ w'.cell? ⟨w.heap.size + 2, 1, none⟩ = some (.int .i64 cd) ∧ w'.cell? ⟨w1.heap.size, 0, none⟩ = some (.int .i64 sx) ∧ w'.cell? ⟨w1.heap.size, 1, none⟩ = some (.int .i64 sy) ∧ w'.cell? ⟨w2.heap.size, 0, none⟩ = some (.int .i64 px) ∧ w'.cell? ⟨w2.heap.size, 1, none⟩ = some (.int .i64 py) ∧ w2.heap.size + 1 ≤ w'.heap.size ∧ Below w2.heap.size w2 w') (refine ⟨?_, ?_, ?_, ?_, ?_, ?_, ?_, ?_, ?_, ?_, ?_, ?_⟩ <;> first | assumption | ((repeat' (first | (with_reducible exact Below.refl _ _) | (with_reducible assumption) | (with_reducible refine drewN_below ?_ _) | (with_reducible refine Below.drew ?_) | (with_reducible refine Below.alloc ?_ ?_ _) | (with_reducible refine Below.setCell ?_ ?_ _) | (simp; done) | omega | (simp; omega))); done) | (simp [*]; done) | (simp [go_sem, *]; done) | (simp; omega)) (first | (go_at_call 15; refine (add_any _ _ _ _ _).mono ?_; rintro e wr ⟨rfl, hbr⟩; obtain ⟨hcr, hfr, hzr, hBr⟩ := after (a := w2) (B := w2.heap.size) (w2.heap.size + 1) hbr (by first | (with_reducible assumption) | (simp; done) | omega | (simp; omega)) (by repeat' (first | (with_reducible exact Below.refl _ _) | (with_reducible assumption) | (with_reducible refine drewN_below ?_ _) | (with_reducible refine Below.drew ?_) | (with_reducible refine Below.alloc ?_ ?_ _) | (with_reducible refine Below.setCell ?_ ?_ _) | (simp; done) | omega | (simp; omega))) (by omega); (rw [hs'.out])) | (go_at_call 19; refine (mul_any _ _ _ _ _).mono ?_; rintro e wr ⟨rfl, hbr⟩; obtain ⟨hcr, hfr, hzr, hBr⟩ := after (a := w2) (B := w2.heap.size) (w2.heap.size + 1) hbr (by first | (with_reducible assumption) | (simp; done) | omega | (simp; omega)) (by repeat' (first | (with_reducible exact Below.refl _ _) | (with_reducible assumption) | (with_reducible refine drewN_below ?_ _) | (with_reducible refine Below.drew ?_) | (with_reducible refine Below.alloc ?_ ?_ _) | (with_reducible refine Below.setCell ?_ ?_ _) | (simp; done) | omega | (simp; omega))) (by omega); (rw [hp'.out])))) | fail
    obtain ⟨s0, s1, s2, s3, s4, s5, s6, s7, s8, s9, s10, s11⟩ := (by assumption : wr.cell? ⟨w.heap.size, 0, none⟩ = some (.int .i64 an) ∧ wr.cell? ⟨w.heap.size, 1, none⟩ = some (.int .i64 ad) ∧ wr.cell? ⟨w.heap.size + 1, 0, none⟩ = some (.int .i64 bn) ∧ wr.cell? ⟨w.heap.size + 1, 1, none⟩ = some (.int .i64 bd) ∧ wr.cell? ⟨w.heap.size + 2, 0, none⟩ = some (.int .i64 cn) ∧ wr.cell? ⟨w.heap.size + 2, 1, none⟩ = some (.int .i64 cd) ∧ wr.cell? ⟨w1.heap.size, 0, none⟩ = some (.int .i64 sx) ∧ wr.cell? ⟨w1.heap.size, 1, none⟩ = some (.int .i64 sy) ∧ wr.cell? ⟨w2.heap.size, 0, none⟩ = some (.int .i64 px) ∧ wr.cell? ⟨w2.heap.size, 1, none⟩ = some (.int .i64 py) ∧ w2.heap.size + 1 ≤ wr.heap.size ∧ Below w2.heap.size w2 wr)
    have cA0w3 := s0
    have cA1w3 := s1
    have cB0w3 := s2
    have cB1w3 := s3
    have cC0w3 := s4
    have cC1w3 := s5
    have cS0w3 := s6
    have cS1w3 := s7
    have cP0w3 := s8
    have cP1w3 := s9
    have bAw3 : w.heap.size < wr.heap.size := Nat.lt_of_lt_of_le xA s10
    have dAw3 : w.heap.size < wr.heap.size + 1 := Nat.lt_succ_of_lt bAw3
    have bBw3 : w.heap.size + 1 < wr.heap.size := Nat.lt_of_lt_of_le xB s10
    have dBw3 : w.heap.size + 1 < wr.heap.size + 1 := Nat.lt_succ_of_lt bBw3
    have bCw3 : w.heap.size + 2 < wr.heap.size := Nat.lt_of_lt_of_le xC s10
    have dCw3 : w.heap.size + 2 < wr.heap.size + 1 := Nat.lt_succ_of_lt bCw3
    have bSw3 : w1.heap.size < wr.heap.size := Nat.lt_of_lt_of_le xS s10
    have dSw3 : w1.heap.size < wr.heap.size + 1 := Nat.lt_succ_of_lt bSw3
    have bPw3 : w2.heap.size < wr.heap.size := Nat.lt_of_lt_of_le xP s10
    have dPw3 : w2.heap.size < wr.heap.size + 1 := Nat.lt_succ_of_lt bPw3
    have hBw3 : Below w.heap.size w wr := Below.trans hBw2 (s11.mono hBw2.size)
    have zw3 : w.heap.size ≤ wr.heap.size := hBw3.size
    clear s0 s1 s2 s3 s4 s5 s6 s7 s8 s9 s10 s11 xA xB xC xS xP hcr hfr hzr hBr hbr zw2 hBw2 dSw2 bSw2 cS1w2 cS0w2 dCw2 bCw2 cC1w2 cC0w2 dBw2 bBw2 cB1w2 cB0w2 dAw2 bAw2 cA1w2 cA0w2
    repeat (clear hcr hfr hzr hBr hbr)
    skip
    obtain ⟨w3, ew3⟩ : ∃ x, x = wr := ⟨_, rfl⟩
    subst ew3
    go_wp2_with fail
    go_meet
    (refine ⟨rfl, ?_, ?_, ?_, ?_, ?_, ?_, ?_, ?_, ?_, ?_, ?_, ?_, ?_, ?_, ?_, ?_⟩ <;> first | assumption | (simp [go_sem, *]; done) | omega | (simp; omega) | (repeat' (first | (with_reducible exact Below.refl _ _) | (with_reducible assumption) | (with_reducible refine drewN_below ?_ _) | (with_reducible refine Below.drew ?_) | (with_reducible refine Below.alloc ?_ ?_ _) | (with_reducible refine Below.setCell ?_ ?_ _) | (simp; done) | omega | (simp; omega))))
  case rest =>
    obtain ⟨rfl, cA0w4, cA1w4, bAw4, cB0w4, cB1w4, bBw4, cC0w4, cC1w4, bCw4, cS0w4, cS1w4, bSw4, cP0w4, cP1w4, bPw4, hBw4⟩ := hcut
    have dAw4 : w.heap.size < wc.heap.size + 1 := Nat.lt_succ_of_lt bAw4
    have dBw4 : w.heap.size + 1 < wc.heap.size + 1 := Nat.lt_succ_of_lt bBw4
    have dCw4 : w.heap.size + 2 < wc.heap.size + 1 := Nat.lt_succ_of_lt bCw4
    have dSw4 : w1.heap.size < wc.heap.size + 1 := Nat.lt_succ_of_lt bSw4
    have dPw4 : w2.heap.size < wc.heap.size + 1 := Nat.lt_succ_of_lt bPw4
    have zw4 : w.heap.size ≤ wc.heap.size := hBw4.size
    obtain ⟨w4, ew4⟩ : ∃ x, x = wc := ⟨_, rfl⟩
    subst ew4
    clear zw2 hBw2 dSw2 bSw2 cS1w2 cS0w2 dCw2 bCw2 cC1w2 cC0w2 dBw2 bBw2 cB1w2 cB0w2 dAw2 bAw2 cA1w2 cA0w2
    go_upto_region 5 with fail
    go_cut [57] (fun s57 wx => s57 = .bool false ∧ wx.cell? ⟨w.heap.size, 0, none⟩ = some (.int .i64 an) ∧ wx.cell? ⟨w.heap.size, 1, none⟩ = some (.int .i64 ad) ∧ w.heap.size < wx.heap.size ∧ wx.cell? ⟨w.heap.size + 1, 0, none⟩ = some (.int .i64 bn) ∧ wx.cell? ⟨w.heap.size + 1, 1, none⟩ = some (.int .i64 bd) ∧ w.heap.size + 1 < wx.heap.size ∧ wx.cell? ⟨w.heap.size + 2, 0, none⟩ = some (.int .i64 cn) ∧ wx.cell? ⟨w.heap.size + 2, 1, none⟩ = some (.int .i64 cd) ∧ w.heap.size + 2 < wx.heap.size ∧ wx.cell? ⟨w1.heap.size, 0, none⟩ = some (.int .i64 sx) ∧ wx.cell? ⟨w1.heap.size, 1, none⟩ = some (.int .i64 sy) ∧ w1.heap.size < wx.heap.size ∧ wx.cell? ⟨w2.heap.size, 0, none⟩ = some (.int .i64 px) ∧ wx.cell? ⟨w2.heap.size, 1, none⟩ = some (.int .i64 py) ∧ w2.heap.size < wx.heap.size ∧ Below w.heap.size w wx)
    case first =>
      cases hq : (Q.isq an ad && Q.isq bn bd)
      · skip
        obtain ⟨q1, q2, q3, q4⟩ := L1.out hq
        go_wp2_with fail
        refine (numbers2 an ad bn bd _ _ (by simp [go_sem]) (by simp [go_sem]) (by simp [go_sem]) (by simp [go_sem]) (by simp)).mono ?_
        rintro e w5 ⟨rfl, hw5⟩
        have hmw5 : Below w4.heap.size w4 w5 := on_below hw5 (by repeat' (first | (with_reducible exact Below.refl _ _) | (with_reducible assumption) | (with_reducible refine drewN_below ?_ _) | (with_reducible refine Below.drew ?_) | (with_reducible refine Below.alloc ?_ ?_ _) | (with_reducible refine Below.setCell ?_ ?_ _) | (simp; done) | omega | (simp; omega))) (by first | (with_reducible assumption) | (simp; done) | omega | (simp; omega))
        have cA0w5 := (hmw5.cell (p := ⟨w.heap.size, 0, none⟩) bAw4).trans cA0w4
        have cA1w5 := (hmw5.cell (p := ⟨w.heap.size, 1, none⟩) bAw4).trans cA1w4
        have bAw5 : w.heap.size < w5.heap.size := Nat.lt_of_lt_of_le bAw4 hmw5.size
        have dAw5 : w.heap.size < w5.heap.size + 1 := Nat.lt_succ_of_lt bAw5
        have cB0w5 := (hmw5.cell (p := ⟨w.heap.size + 1, 0, none⟩) bBw4).trans cB0w4
        have cB1w5 := (hmw5.cell (p := ⟨w.heap.size + 1, 1, none⟩) bBw4).trans cB1w4
        have bBw5 : w.heap.size + 1 < w5.heap.size := Nat.lt_of_lt_of_le bBw4 hmw5.size
        have dBw5 : w.heap.size + 1 < w5.heap.size + 1 := Nat.lt_succ_of_lt bBw5
        have cC0w5 := (hmw5.cell (p := ⟨w.heap.size + 2, 0, none⟩) bCw4).trans cC0w4
        have cC1w5 := (hmw5.cell (p := ⟨w.heap.size + 2, 1, none⟩) bCw4).trans cC1w4
        have bCw5 : w.heap.size + 2 < w5.heap.size := Nat.lt_of_lt_of_le bCw4 hmw5.size
        have dCw5 : w.heap.size + 2 < w5.heap.size + 1 := Nat.lt_succ_of_lt bCw5
        have cS0w5 := (hmw5.cell (p := ⟨w1.heap.size, 0, none⟩) bSw4).trans cS0w4
        have cS1w5 := (hmw5.cell (p := ⟨w1.heap.size, 1, none⟩) bSw4).trans cS1w4
        have bSw5 : w1.heap.size < w5.heap.size := Nat.lt_of_lt_of_le bSw4 hmw5.size
        have dSw5 : w1.heap.size < w5.heap.size + 1 := Nat.lt_succ_of_lt bSw5
        have cP0w5 := (hmw5.cell (p := ⟨w2.heap.size, 0, none⟩) bPw4).trans cP0w4
        have cP1w5 := (hmw5.cell (p := ⟨w2.heap.size, 1, none⟩) bPw4).trans cP1w4
        have bPw5 : w2.heap.size < w5.heap.size := Nat.lt_of_lt_of_le bPw4 hmw5.size
        have dPw5 : w2.heap.size < w5.heap.size + 1 := Nat.lt_succ_of_lt bPw5
        have hBw5 : Below w.heap.size w w5 := Below.trans hBw4 (hmw5.mono hBw4.size)
        have zw5 : w.heap.size ≤ w5.heap.size := hBw5.size
        clear hmw5 hw5 zw4 dPw4 dSw4 dCw4 dBw4 dAw4 hBw4 bPw4 cP1w4 cP0w4 bSw4 cS1w4 cS0w4 bCw4 cC1w4 cC0w4 bBw4 cB1w4 cB0w4 bAw4 cA1w4 cA0w4
        rw [hq]
        go_wp2_with fail
        refine (numbers1 sx sy _ _ (by simp [go_sem]) (by simp [go_sem]) (by simp)).mono ?_
        rintro e w6 ⟨rfl, hw6⟩
        have hmw6 : Below w5.heap.size w5 w6 := on_below hw6 (by repeat' (first | (with_reducible exact Below.refl _ _) | (with_reducible assumption) | (with_reducible refine drewN_below ?_ _) | (with_reducible refine Below.drew ?_) | (with_reducible refine Below.alloc ?_ ?_ _) | (with_reducible refine Below.setCell ?_ ?_ _) | (simp; done) | omega | (simp; omega))) (by first | (with_reducible assumption) | (simp; done) | omega | (simp; omega))
        have cA0w6 := (hmw6.cell (p := ⟨w.heap.size, 0, none⟩) bAw5).trans cA0w5
        have cA1w6 := (hmw6.cell (p := ⟨w.heap.size, 1, none⟩) bAw5).trans cA1w5
        have bAw6 : w.heap.size < w6.heap.size := Nat.lt_of_lt_of_le bAw5 hmw6.size
        have dAw6 : w.heap.size < w6.heap.size + 1 := Nat.lt_succ_of_lt bAw6
        have cB0w6 := (hmw6.cell (p := ⟨w.heap.size + 1, 0, none⟩) bBw5).trans cB0w5
        have cB1w6 := (hmw6.cell (p := ⟨w.heap.size + 1, 1, none⟩) bBw5).trans cB1w5
        have bBw6 : w.heap.size + 1 < w6.heap.size := Nat.lt_of_lt_of_le bBw5 hmw6.size
        have dBw6 : w.heap.size + 1 < w6.heap.size + 1 := Nat.lt_succ_of_lt bBw6
        have cC0w6 := (hmw6.cell (p := ⟨w.heap.size + 2, 0, none⟩) bCw5).trans cC0w5
        have cC1w6 := (hmw6.cell (p := ⟨w.heap.size + 2, 1, none⟩) bCw5).trans cC1w5
        have bCw6 : w.heap.size + 2 < w6.heap.size := Nat.lt_of_lt_of_le bCw5 hmw6.size
        have dCw6 : w.heap.size + 2 < w6.heap.size + 1 := Nat.lt_succ_of_lt bCw6
        have cS0w6 := (hmw6.cell (p := ⟨w1.heap.size, 0, none⟩) bSw5).trans cS0w5
        have cS1w6 := (hmw6.cell (p := ⟨w1.heap.size, 1, none⟩) bSw5).trans cS1w5
        have bSw6 : w1.heap.size < w6.heap.size := Nat.lt_of_lt_of_le bSw5 hmw6.size
        have dSw6 : w1.heap.size < w6.heap.size + 1 := Nat.lt_succ_of_lt bSw6
        have cP0w6 := (hmw6.cell (p := ⟨w2.heap.size, 0, none⟩) bPw5).trans cP0w5
        have cP1w6 := (hmw6.cell (p := ⟨w2.heap.size, 1, none⟩) bPw5).trans cP1w5
        have bPw6 : w2.heap.size < w6.heap.size := Nat.lt_of_lt_of_le bPw5 hmw6.size
        have dPw6 : w2.heap.size < w6.heap.size + 1 := Nat.lt_succ_of_lt bPw6
        have hBw6 : Below w.heap.size w w6 := Below.trans hBw5 (hmw6.mono hBw5.size)
        have zw6 : w.heap.size ≤ w6.heap.size := hBw6.size
        clear hmw6 hw6 zw5 hBw5 dPw5 bPw5 cP1w5 cP0w5 dSw5 bSw5 cS1w5 cS0w5 dCw5 bCw5 cC1w5 cC0w5 dBw5 bBw5 cB1w5 cB0w5 dAw5 bAw5 cA1w5 cA0w5
        rw [q1]
        go_wp2_with fail
        refine (numbers1 px py _ _ (by simp [go_sem]) (by simp [go_sem]) (by simp)).mono ?_
        rintro e w7 ⟨rfl, hw7⟩
        have hmw7 : Below w6.heap.size w6 w7 := on_below hw7 (by repeat' (first | (with_reducible exact Below.refl _ _) | (with_reducible assumption) | (with_reducible refine drewN_below ?_ _) | (with_reducible refine Below.drew ?_) | (with_reducible refine Below.alloc ?_ ?_ _) | (with_reducible refine Below.setCell ?_ ?_ _) | (simp; done) | omega | (simp; omega))) (by first | (with_reducible assumption) | (simp; done) | omega | (simp; omega))
        have cA0w7 := (hmw7.cell (p := ⟨w.heap.size, 0, none⟩) bAw6).trans cA0w6
        have cA1w7 := (hmw7.cell (p := ⟨w.heap.size, 1, none⟩) bAw6).trans cA1w6
        have bAw7 : w.heap.size < w7.heap.size := Nat.lt_of_lt_of_le bAw6 hmw7.size
        have dAw7 : w.heap.size < w7.heap.size + 1 := Nat.lt_succ_of_lt bAw7
        have cB0w7 := (hmw7.cell (p := ⟨w.heap.size + 1, 0, none⟩) bBw6).trans cB0w6
        have cB1w7 := (hmw7.cell (p := ⟨w.heap.size + 1, 1, none⟩) bBw6).trans cB1w6
        have bBw7 : w.heap.size + 1 < w7.heap.size := Nat.lt_of_lt_of_le bBw6 hmw7.size
        have dBw7 : w.heap.size + 1 < w7.heap.size + 1 := Nat.lt_succ_of_lt bBw7
        have cC0w7 := (hmw7.cell (p := ⟨w.heap.size + 2, 0, none⟩) bCw6).trans cC0w6
        have cC1w7 := (hmw7.cell (p := ⟨w.heap.size + 2, 1, none⟩) bCw6).trans cC1w6
        have bCw7 : w.heap.size + 2 < w7.heap.size := Nat.lt_of_lt_of_le bCw6 hmw7.size
        have dCw7 : w.heap.size + 2 < w7.heap.size + 1 := Nat.lt_succ_of_lt bCw7
        have cS0w7 := (hmw7.cell (p := ⟨w1.heap.size, 0, none⟩) bSw6).trans cS0w6
        have cS1w7 := (hmw7.cell (p := ⟨w1.heap.size, 1, none⟩) bSw6).trans cS1w6
        have bSw7 : w1.heap.size < w7.heap.size := Nat.lt_of_lt_of_le bSw6 hmw7.size
        have dSw7 : w1.heap.size < w7.heap.size + 1 := Nat.lt_succ_of_lt bSw7
        have cP0w7 := (hmw7.cell (p := ⟨w2.heap.size, 0, none⟩) bPw6).trans cP0w6
        have cP1w7 := (hmw7.cell (p := ⟨w2.heap.size, 1, none⟩) bPw6).trans cP1w6
        have bPw7 : w2.heap.size < w7.heap.size := Nat.lt_of_lt_of_le bPw6 hmw7.size
        have dPw7 : w2.heap.size < w7.heap.size + 1 := Nat.lt_succ_of_lt bPw7
        have hBw7 : Below w.heap.size w w7 := Below.trans hBw6 (hmw7.mono hBw6.size)
        have zw7 : w.heap.size ≤ w7.heap.size := hBw7.size
        clear hmw7 hw7 zw6 hBw6 dPw6 bPw6 cP1w6 cP0w6 dSw6 bSw6 cS1w6 cS0w6 dCw6 bCw6 cC1w6 cC0w6 dBw6 bBw6 cB1w6 cB0w6 dAw6 bAw6 cA1w6 cA0w6
        rw [q2]
        go_wp2_with fail
        refine (min_any _ _ _ _ _).mono ?_
        rintro e w8 ⟨rfl, hw8⟩
        have hmw8 : Below w7.heap.size w7 w8 := on_below hw8 (by repeat' (first | (with_reducible exact Below.refl _ _) | (with_reducible assumption) | (with_reducible refine drewN_below ?_ _) | (with_reducible refine Below.drew ?_) | (with_reducible refine Below.alloc ?_ ?_ _) | (with_reducible refine Below.setCell ?_ ?_ _) | (simp; done) | omega | (simp; omega))) (by first | (with_reducible assumption) | (simp; done) | omega | (simp; omega))
        have cA0w8 := (hmw8.cell (p := ⟨w.heap.size, 0, none⟩) bAw7).trans cA0w7
        have cA1w8 := (hmw8.cell (p := ⟨w.heap.size, 1, none⟩) bAw7).trans cA1w7
        have bAw8 : w.heap.size < w8.heap.size := Nat.lt_of_lt_of_le bAw7 hmw8.size
        have dAw8 : w.heap.size < w8.heap.size + 1 := Nat.lt_succ_of_lt bAw8
        have cB0w8 := (hmw8.cell (p := ⟨w.heap.size + 1, 0, none⟩) bBw7).trans cB0w7
        have cB1w8 := (hmw8.cell (p := ⟨w.heap.size + 1, 1, none⟩) bBw7).trans cB1w7
        have bBw8 : w.heap.size + 1 < w8.heap.size := Nat.lt_of_lt_of_le bBw7 hmw8.size
        have dBw8 : w.heap.size + 1 < w8.heap.size + 1 := Nat.lt_succ_of_lt bBw8
        have cC0w8 := (hmw8.cell (p := ⟨w.heap.size + 2, 0, none⟩) bCw7).trans cC0w7
        have cC1w8 := (hmw8.cell (p := ⟨w.heap.size + 2, 1, none⟩) bCw7).trans cC1w7
        have bCw8 : w.heap.size + 2 < w8.heap.size := Nat.lt_of_lt_of_le bCw7 hmw8.size
        have dCw8 : w.heap.size + 2 < w8.heap.size + 1 := Nat.lt_succ_of_lt bCw8
        have cS0w8 := (hmw8.cell (p := ⟨w1.heap.size, 0, none⟩) bSw7).trans cS0w7
        have cS1w8 := (hmw8.cell (p := ⟨w1.heap.size, 1, none⟩) bSw7).trans cS1w7
        have bSw8 : w1.heap.size < w8.heap.size := Nat.lt_of_lt_of_le bSw7 hmw8.size
        have dSw8 : w1.heap.size < w8.heap.size + 1 := Nat.lt_succ_of_lt bSw8
        have cP0w8 := (hmw8.cell (p := ⟨w2.heap.size, 0, none⟩) bPw7).trans cP0w7
        have cP1w8 := (hmw8.cell (p := ⟨w2.heap.size, 1, none⟩) bPw7).trans cP1w7
        have bPw8 : w2.heap.size < w8.heap.size := Nat.lt_of_lt_of_le bPw7 hmw8.size
        have dPw8 : w2.heap.size < w8.heap.size + 1 := Nat.lt_succ_of_lt bPw8
        have hBw8 : Below w.heap.size w w8 := Below.trans hBw7 (hmw8.mono hBw7.size)
        have zw8 : w.heap.size ≤ w8.heap.size := hBw8.size
        clear hmw8 hw8 zw7 hBw7 dPw7 bPw7 cP1w7 cP0w7 dSw7 bSw7 cS1w7 cS0w7 dCw7 bCw7 cC1w7 cC0w7 dBw7 bBw7 cB1w7 cB0w7 dAw7 bAw7 cA1w7 cA0w7
        rw [hmi.out]
        go_wp2_with fail
        refine (numbers1 mx my _ _ (by simp [go_sem]) (by simp [go_sem]) (by simp)).mono ?_
        rintro e w9 ⟨rfl, hw9⟩
        have hmw9 : Below w8.heap.size w8 w9 := on_below hw9 (by repeat' (first | (with_reducible exact Below.refl _ _) | (with_reducible assumption) | (with_reducible refine drewN_below ?_ _) | (with_reducible refine Below.drew ?_) | (with_reducible refine Below.alloc ?_ ?_ _) | (with_reducible refine Below.setCell ?_ ?_ _) | (simp; done) | omega | (simp; omega))) (by first | (with_reducible assumption) | (simp; done) | omega | (simp; omega))
        have cA0w9 := (hmw9.cell (p := ⟨w.heap.size, 0, none⟩) bAw8).trans cA0w8
        have cA1w9 := (hmw9.cell (p := ⟨w.heap.size, 1, none⟩) bAw8).trans cA1w8
        have bAw9 : w.heap.size < w9.heap.size := Nat.lt_of_lt_of_le bAw8 hmw9.size
        have dAw9 : w.heap.size < w9.heap.size + 1 := Nat.lt_succ_of_lt bAw9
        have cB0w9 := (hmw9.cell (p := ⟨w.heap.size + 1, 0, none⟩) bBw8).trans cB0w8
        have cB1w9 := (hmw9.cell (p := ⟨w.heap.size + 1, 1, none⟩) bBw8).trans cB1w8
        have bBw9 : w.heap.size + 1 < w9.heap.size := Nat.lt_of_lt_of_le bBw8 hmw9.size
        have dBw9 : w.heap.size + 1 < w9.heap.size + 1 := Nat.lt_succ_of_lt bBw9
        have cC0w9 := (hmw9.cell (p := ⟨w.heap.size + 2, 0, none⟩) bCw8).trans cC0w8
        have cC1w9 := (hmw9.cell (p := ⟨w.heap.size + 2, 1, none⟩) bCw8).trans cC1w8
        have bCw9 : w.heap.size + 2 < w9.heap.size := Nat.lt_of_lt_of_le bCw8 hmw9.size
        have dCw9 : w.heap.size + 2 < w9.heap.size + 1 := Nat.lt_succ_of_lt bCw9
        have cS0w9 := (hmw9.cell (p := ⟨w1.heap.size, 0, none⟩) bSw8).trans cS0w8
        have cS1w9 := (hmw9.cell (p := ⟨w1.heap.size, 1, none⟩) bSw8).trans cS1w8
        have bSw9 : w1.heap.size < w9.heap.size := Nat.lt_of_lt_of_le bSw8 hmw9.size
        have dSw9 : w1.heap.size < w9.heap.size + 1 := Nat.lt_succ_of_lt bSw9
        have cP0w9 := (hmw9.cell (p := ⟨w2.heap.size, 0, none⟩) bPw8).trans cP0w8
        have cP1w9 := (hmw9.cell (p := ⟨w2.heap.size, 1, none⟩) bPw8).trans cP1w8
        have bPw9 : w2.heap.size < w9.heap.size := Nat.lt_of_lt_of_le bPw8 hmw9.size
        have dPw9 : w2.heap.size < w9.heap.size + 1 := Nat.lt_succ_of_lt bPw9
        have hBw9 : Below w.heap.size w w9 := Below.trans hBw8 (hmw9.mono hBw8.size)
        have zw9 : w.heap.size ≤ w9.heap.size := hBw9.size
        clear hmw9 hw9 zw8 hBw8 dPw8 bPw8 cP1w8 cP0w8 dSw8 bSw8 cS1w8 cS0w8 dCw8 bCw8 cC1w8 cC0w8 dBw8 bBw8 cB1w8 cB0w8 dAw8 bAw8 cA1w8 cA0w8
        rw [q3]
        go_wp2_with fail
        refine (mod_any _ _ _ _ _).mono ?_
        rintro e w10 ⟨rfl, hw10⟩
        have hmw10 : Below w9.heap.size w9 w10 := on_below hw10 (by repeat' (first | (with_reducible exact Below.refl _ _) | (with_reducible assumption) | (with_reducible refine drewN_below ?_ _) | (with_reducible refine Below.drew ?_) | (with_reducible refine Below.alloc ?_ ?_ _) | (with_reducible refine Below.setCell ?_ ?_ _) | (simp; done) | omega | (simp; omega))) (by first | (with_reducible assumption) | (simp; done) | omega | (simp; omega))
        have cA0w10 := (hmw10.cell (p := ⟨w.heap.size, 0, none⟩) bAw9).trans cA0w9
        have cA1w10 := (hmw10.cell (p := ⟨w.heap.size, 1, none⟩) bAw9).trans cA1w9
        have bAw10 : w.heap.size < w10.heap.size := Nat.lt_of_lt_of_le bAw9 hmw10.size
        have dAw10 : w.heap.size < w10.heap.size + 1 := Nat.lt_succ_of_lt bAw10
        have cB0w10 := (hmw10.cell (p := ⟨w.heap.size + 1, 0, none⟩) bBw9).trans cB0w9
        have cB1w10 := (hmw10.cell (p := ⟨w.heap.size + 1, 1, none⟩) bBw9).trans cB1w9
        have bBw10 : w.heap.size + 1 < w10.heap.size := Nat.lt_of_lt_of_le bBw9 hmw10.size
        have dBw10 : w.heap.size + 1 < w10.heap.size + 1 := Nat.lt_succ_of_lt bBw10
        have cC0w10 := (hmw10.cell (p := ⟨w.heap.size + 2, 0, none⟩) bCw9).trans cC0w9
        have cC1w10 := (hmw10.cell (p := ⟨w.heap.size + 2, 1, none⟩) bCw9).trans cC1w9
        have bCw10 : w.heap.size + 2 < w10.heap.size := Nat.lt_of_lt_of_le bCw9 hmw10.size
        have dCw10 : w.heap.size + 2 < w10.heap.size + 1 := Nat.lt_succ_of_lt bCw10
        have cS0w10 := (hmw10.cell (p := ⟨w1.heap.size, 0, none⟩) bSw9).trans cS0w9
        have cS1w10 := (hmw10.cell (p := ⟨w1.heap.size, 1, none⟩) bSw9).trans cS1w9
        have bSw10 : w1.heap.size < w10.heap.size := Nat.lt_of_lt_of_le bSw9 hmw10.size
        have dSw10 : w1.heap.size < w10.heap.size + 1 := Nat.lt_succ_of_lt bSw10
        have cP0w10 := (hmw10.cell (p := ⟨w2.heap.size, 0, none⟩) bPw9).trans cP0w9
        have cP1w10 := (hmw10.cell (p := ⟨w2.heap.size, 1, none⟩) bPw9).trans cP1w9
        have bPw10 : w2.heap.size < w10.heap.size := Nat.lt_of_lt_of_le bPw9 hmw10.size
        have dPw10 : w2.heap.size < w10.heap.size + 1 := Nat.lt_succ_of_lt bPw10
        have hBw10 : Below w.heap.size w w10 := Below.trans hBw9 (hmw10.mono hBw9.size)
        have zw10 : w.heap.size ≤ w10.heap.size := hBw10.size
        clear hmw10 hw10 zw9 hBw9 dPw9 bPw9 cP1w9 cP0w9 dSw9 bSw9 cS1w9 cS0w9 dCw9 bCw9 cC1w9 cC0w9 dBw9 bBw9 cB1w9 cB0w9 dAw9 bAw9 cA1w9 cA0w9
        rw [hmo.out]
        go_wp2_with fail
        refine (numbers1 ox oy _ _ (by simp [go_sem]) (by simp [go_sem]) (by simp)).mono ?_
        rintro e w11 ⟨rfl, hw11⟩
        have hmw11 : Below w10.heap.size w10 w11 := on_below hw11 (by repeat' (first | (with_reducible exact Below.refl _ _) | (with_reducible assumption) | (with_reducible refine drewN_below ?_ _) | (with_reducible refine Below.drew ?_) | (with_reducible refine Below.alloc ?_ ?_ _) | (with_reducible refine Below.setCell ?_ ?_ _) | (simp; done) | omega | (simp; omega))) (by first | (with_reducible assumption) | (simp; done) | omega | (simp; omega))
        have cA0w11 := (hmw11.cell (p := ⟨w.heap.size, 0, none⟩) bAw10).trans cA0w10
        have cA1w11 := (hmw11.cell (p := ⟨w.heap.size, 1, none⟩) bAw10).trans cA1w10
        have bAw11 : w.heap.size < w11.heap.size := Nat.lt_of_lt_of_le bAw10 hmw11.size
        have dAw11 : w.heap.size < w11.heap.size + 1 := Nat.lt_succ_of_lt bAw11
        have cB0w11 := (hmw11.cell (p := ⟨w.heap.size + 1, 0, none⟩) bBw10).trans cB0w10
        have cB1w11 := (hmw11.cell (p := ⟨w.heap.size + 1, 1, none⟩) bBw10).trans cB1w10
        have bBw11 : w.heap.size + 1 < w11.heap.size := Nat.lt_of_lt_of_le bBw10 hmw11.size
        have dBw11 : w.heap.size + 1 < w11.heap.size + 1 := Nat.lt_succ_of_lt bBw11
        have cC0w11 := (hmw11.cell (p := ⟨w.heap.size + 2, 0, none⟩) bCw10).trans cC0w10
        have cC1w11 := (hmw11.cell (p := ⟨w.heap.size + 2, 1, none⟩) bCw10).trans cC1w10
        have bCw11 : w.heap.size + 2 < w11.heap.size := Nat.lt_of_lt_of_le bCw10 hmw11.size
        have dCw11 : w.heap.size + 2 < w11.heap.size + 1 := Nat.lt_succ_of_lt bCw11
        have cS0w11 := (hmw11.cell (p := ⟨w1.heap.size, 0, none⟩) bSw10).trans cS0w10
        have cS1w11 := (hmw11.cell (p := ⟨w1.heap.size, 1, none⟩) bSw10).trans cS1w10
        have bSw11 : w1.heap.size < w11.heap.size := Nat.lt_of_lt_of_le bSw10 hmw11.size
        have dSw11 : w1.heap.size < w11.heap.size + 1 := Nat.lt_succ_of_lt bSw11
        have cP0w11 := (hmw11.cell (p := ⟨w2.heap.size, 0, none⟩) bPw10).trans cP0w10
        have cP1w11 := (hmw11.cell (p := ⟨w2.heap.size, 1, none⟩) bPw10).trans cP1w10
        have bPw11 : w2.heap.size < w11.heap.size := Nat.lt_of_lt_of_le bPw10 hmw11.size
        have dPw11 : w2.heap.size < w11.heap.size + 1 := Nat.lt_succ_of_lt bPw11
        have hBw11 : Below w.heap.size w w11 := Below.trans hBw10 (hmw11.mono hBw10.size)
        have zw11 : w.heap.size ≤ w11.heap.size := hBw11.size
        clear hmw11 hw11 zw10 hBw10 dPw10 bPw10 cP1w10 cP0w10 dSw10 bSw10 cS1w10 cS0w10 dCw10 bCw10 cC1w10 cC0w10 dBw10 bBw10 cB1w10 cB0w10 dAw10 bAw10 cA1w10 cA0w10
        rw [q4]
        go_wp2_with fail
        go_meet
        (refine ⟨rfl, ?_, ?_, ?_, ?_, ?_, ?_, ?_, ?_, ?_, ?_, ?_, ?_, ?_, ?_, ?_, ?_⟩ <;> first | assumption | (simp [go_sem, *]; done) | omega | (simp; omega) | (repeat' (first | (with_reducible exact Below.refl _ _) | (with_reducible assumption) | (with_reducible refine drewN_below ?_ _) | (with_reducible refine Below.drew ?_) | (with_reducible refine Below.alloc ?_ ?_ _) | (with_reducible refine Below.setCell ?_ ?_ _) | (simp; done) | omega | (simp; omega))))
      · skip
        go_wp2_with fail
        refine (numbers2 an ad bn bd _ _ (by simp [go_sem]) (by simp [go_sem]) (by simp [go_sem]) (by simp [go_sem]) (by simp)).mono ?_
        rintro e w12 ⟨rfl, hw12⟩
        have hmw12 : Below w4.heap.size w4 w12 := on_below hw12 (by repeat' (first | (with_reducible exact Below.refl _ _) | (with_reducible assumption) | (with_reducible refine drewN_below ?_ _) | (with_reducible refine Below.drew ?_) | (with_reducible refine Below.alloc ?_ ?_ _) | (with_reducible refine Below.setCell ?_ ?_ _) | (simp; done) | omega | (simp; omega))) (by first | (with_reducible assumption) | (simp; done) | omega | (simp; omega))
        have cA0w12 := (hmw12.cell (p := ⟨w.heap.size, 0, none⟩) bAw4).trans cA0w4
        have cA1w12 := (hmw12.cell (p := ⟨w.heap.size, 1, none⟩) bAw4).trans cA1w4
        have bAw12 : w.heap.size < w12.heap.size := Nat.lt_of_lt_of_le bAw4 hmw12.size
        have dAw12 : w.heap.size < w12.heap.size + 1 := Nat.lt_succ_of_lt bAw12
        have cB0w12 := (hmw12.cell (p := ⟨w.heap.size + 1, 0, none⟩) bBw4).trans cB0w4
        have cB1w12 := (hmw12.cell (p := ⟨w.heap.size + 1, 1, none⟩) bBw4).trans cB1w4
        have bBw12 : w.heap.size + 1 < w12.heap.size := Nat.lt_of_lt_of_le bBw4 hmw12.size
        have dBw12 : w.heap.size + 1 < w12.heap.size + 1 := Nat.lt_succ_of_lt bBw12
        have cC0w12 := (hmw12.cell (p := ⟨w.heap.size + 2, 0, none⟩) bCw4).trans cC0w4
        have cC1w12 := (hmw12.cell (p := ⟨w.heap.size + 2, 1, none⟩) bCw4).trans cC1w4
        have bCw12 : w.heap.size + 2 < w12.heap.size := Nat.lt_of_lt_of_le bCw4 hmw12.size
        have dCw12 : w.heap.size + 2 < w12.heap.size + 1 := Nat.lt_succ_of_lt bCw12
        have cS0w12 := (hmw12.cell (p := ⟨w1.heap.size, 0, none⟩) bSw4).trans cS0w4
        have cS1w12 := (hmw12.cell (p := ⟨w1.heap.size, 1, none⟩) bSw4).trans cS1w4
        have bSw12 : w1.heap.size < w12.heap.size := Nat.lt_of_lt_of_le bSw4 hmw12.size
        have dSw12 : w1.heap.size < w12.heap.size + 1 := Nat.lt_succ_of_lt bSw12
        have cP0w12 := (hmw12.cell (p := ⟨w2.heap.size, 0, none⟩) bPw4).trans cP0w4
        have cP1w12 := (hmw12.cell (p := ⟨w2.heap.size, 1, none⟩) bPw4).trans cP1w4
        have bPw12 : w2.heap.size < w12.heap.size := Nat.lt_of_lt_of_le bPw4 hmw12.size
        have dPw12 : w2.heap.size < w12.heap.size + 1 := Nat.lt_succ_of_lt bPw12
        have hBw12 : Below w.heap.size w w12 := Below.trans hBw4 (hmw12.mono hBw4.size)
        have zw12 : w.heap.size ≤ w12.heap.size := hBw12.size
        clear hmw12 hw12 zw4 dPw4 dSw4 dCw4 dBw4 dAw4 hBw4 bPw4 cP1w4 cP0w4 bSw4 cS1w4 cS0w4 bCw4 cC1w4 cC0w4 bBw4 cB1w4 cB0w4 bAw4 cA1w4 cA0w4
        rw [hq]
        go_wp2_with fail
        go_meet
        (refine ⟨rfl, ?_, ?_, ?_, ?_, ?_, ?_, ?_, ?_, ?_, ?_, ?_, ?_, ?_, ?_, ?_, ?_⟩ <;> first | assumption | (simp [go_sem, *]; done) | omega | (simp; omega) | (repeat' (first | (with_reducible exact Below.refl _ _) | (with_reducible assumption) | (with_reducible refine drewN_below ?_ _) | (with_reducible refine Below.drew ?_) | (with_reducible refine Below.alloc ?_ ?_ _) | (with_reducible refine Below.setCell ?_ ?_ _) | (simp; done) | omega | (simp; omega))))
    case rest =>
      obtain ⟨rfl, cA0w13, cA1w13, bAw13, cB0w13, cB1w13, bBw13, cC0w13, cC1w13, bCw13, cS0w13, cS1w13, bSw13, cP0w13, cP1w13, bPw13, hBw13⟩ := hcut
      have dAw13 : w.heap.size < wc.heap.size + 1 := Nat.lt_succ_of_lt bAw13
      have dBw13 : w.heap.size + 1 < wc.heap.size + 1 := Nat.lt_succ_of_lt bBw13
      have dCw13 : w.heap.size + 2 < wc.heap.size + 1 := Nat.lt_succ_of_lt bCw13
      have dSw13 : w1.heap.size < wc.heap.size + 1 := Nat.lt_succ_of_lt bSw13
      have dPw13 : w2.heap.size < wc.heap.size + 1 := Nat.lt_succ_of_lt bPw13
      have zw13 : w.heap.size ≤ wc.heap.size := hBw13.size
      obtain ⟨w13, ew13⟩ : ∃ x, x = wc := ⟨_, rfl⟩
      subst ew13
      clear zw4 dPw4 dSw4 dCw4 dBw4 dAw4 hBw4 bPw4 cP1w4 cP0w4 bSw4 cS1w4 cS0w4 bCw4 cC1w4 cC0w4 bBw4 cB1w4 cB0w4 bAw4 cA1w4 cA0w4
      go_wp2_with fail
      refine (add_any _ _ _ _ _).mono ?_
      rintro e w14 ⟨rfl, hw14⟩
      have hmw14 : Below w13.heap.size w13 w14 := on_below hw14 (by repeat' (first | (with_reducible exact Below.refl _ _) | (with_reducible assumption) | (with_reducible refine drewN_below ?_ _) | (with_reducible refine Below.drew ?_) | (with_reducible refine Below.alloc ?_ ?_ _) | (with_reducible refine Below.setCell ?_ ?_ _) | (simp; done) | omega | (simp; omega))) (by first | (with_reducible assumption) | (simp; done) | omega | (simp; omega))
      have cA0w14 := (hmw14.cell (p := ⟨w.heap.size, 0, none⟩) bAw13).trans cA0w13
      have cA1w14 := (hmw14.cell (p := ⟨w.heap.size, 1, none⟩) bAw13).trans cA1w13
      have bAw14 : w.heap.size < w14.heap.size := Nat.lt_of_lt_of_le bAw13 hmw14.size
      have dAw14 : w.heap.size < w14.heap.size + 1 := Nat.lt_succ_of_lt bAw14
      have cB0w14 := (hmw14.cell (p := ⟨w.heap.size + 1, 0, none⟩) bBw13).trans cB0w13
      have cB1w14 := (hmw14.cell (p := ⟨w.heap.size + 1, 1, none⟩) bBw13).trans cB1w13
      have bBw14 : w.heap.size + 1 < w14.heap.size := Nat.lt_of_lt_of_le bBw13 hmw14.size
      have dBw14 : w.heap.size + 1 < w14.heap.size + 1 := Nat.lt_succ_of_lt bBw14
      have cC0w14 := (hmw14.cell (p := ⟨w.heap.size + 2, 0, none⟩) bCw13).trans cC0w13
      have cC1w14 := (hmw14.cell (p := ⟨w.heap.size + 2, 1, none⟩) bCw13).trans cC1w13
      have bCw14 : w.heap.size + 2 < w14.heap.size := Nat.lt_of_lt_of_le bCw13 hmw14.size
      have dCw14 : w.heap.size + 2 < w14.heap.size + 1 := Nat.lt_succ_of_lt bCw14
      have cS0w14 := (hmw14.cell (p := ⟨w1.heap.size, 0, none⟩) bSw13).trans cS0w13
      have cS1w14 := (hmw14.cell (p := ⟨w1.heap.size, 1, none⟩) bSw13).trans cS1w13
      have bSw14 : w1.heap.size < w14.heap.size := Nat.lt_of_lt_of_le bSw13 hmw14.size
      have dSw14 : w1.heap.size < w14.heap.size + 1 := Nat.lt_succ_of_lt bSw14
      have cP0w14 := (hmw14.cell (p := ⟨w2.heap.size, 0, none⟩) bPw13).trans cP0w13
      have cP1w14 := (hmw14.cell (p := ⟨w2.heap.size, 1, none⟩) bPw13).trans cP1w13
      have bPw14 : w2.heap.size < w14.heap.size := Nat.lt_of_lt_of_le bPw13 hmw14.size
      have dPw14 : w2.heap.size < w14.heap.size + 1 := Nat.lt_succ_of_lt bPw14
      have hBw14 : Below w.heap.size w w14 := Below.trans hBw13 (hmw14.mono hBw13.size)
      have zw14 : w.heap.size ≤ w14.heap.size := hBw14.size
      clear hmw14 hw14 zw13 dPw13 dSw13 dCw13 dBw13 dAw13 hBw13 bPw13 cP1w13 cP0w13 bSw13 cS1w13 cS0w13 bCw13 cC1w13 cC0w13 bBw13 cB1w13 cB0w13 bAw13 cA1w13 cA0w13
      rw [hx.out]
      go_wp2_with fail
      have oAX : ¬ w.heap.size = w14.heap.size := by omega
      have pAX : ¬ w14.heap.size = w.heap.size := by omega
      have oBX : ¬ w.heap.size + 1 = w14.heap.size := by omega
      have pBX : ¬ w14.heap.size = w.heap.size + 1 := by omega
      have oCX : ¬ w.heap.size + 2 = w14.heap.size := by omega
      have pCX : ¬ w14.heap.size = w.heap.size + 2 := by omega
      have oSX : ¬ w1.heap.size = w14.heap.size := by omega
      have pSX : ¬ w14.heap.size = w1.heap.size := by omega
      have oPX : ¬ w2.heap.size = w14.heap.size := by omega
      have pPX : ¬ w14.heap.size = w2.heap.size := by omega
      have lowX : w.heap.size ≤ w14.heap.size := by omega
      go_upto_region 8 with fail
      go_cut [10] (fun s10 wx => ∃ g : Nat, s10 = .pointer (some ⟨g, 0, none⟩) ∧ wx.cell? ⟨w.heap.size, 0, none⟩ = some (.int .i64 an) ∧ wx.cell? ⟨w.heap.size, 1, none⟩ = some (.int .i64 ad) ∧ w.heap.size < wx.heap.size ∧ wx.cell? ⟨w.heap.size + 1, 0, none⟩ = some (.int .i64 bn) ∧ wx.cell? ⟨w.heap.size + 1, 1, none⟩ = some (.int .i64 bd) ∧ w.heap.size + 1 < wx.heap.size ∧ wx.cell? ⟨w.heap.size + 2, 0, none⟩ = some (.int .i64 cn) ∧ wx.cell? ⟨w.heap.size + 2, 1, none⟩ = some (.int .i64 cd) ∧ w.heap.size + 2 < wx.heap.size ∧ wx.cell? ⟨w1.heap.size, 0, none⟩ = some (.int .i64 sx) ∧ wx.cell? ⟨w1.heap.size, 1, none⟩ = some (.int .i64 sy) ∧ w1.heap.size < wx.heap.size ∧ wx.cell? ⟨w2.heap.size, 0, none⟩ = some (.int .i64 px) ∧ wx.cell? ⟨w2.heap.size, 1, none⟩ = some (.int .i64 py) ∧ w2.heap.size < wx.heap.size ∧ wx.cell? ⟨w14.heap.size, 0, none⟩ = some (.int .i64 xx) ∧ wx.cell? ⟨w14.heap.size, 1, none⟩ = some (.int .i64 xy) ∧ w14.heap.size < wx.heap.size ∧ wx.frozen? ⟨w14.heap.size, 0, none⟩ = false ∧ wx.frozen? ⟨w14.heap.size, 1, none⟩ = false ∧ wx.cell? ⟨g, 0, none⟩ = some (.int .i64 yx) ∧ wx.cell? ⟨g, 1, none⟩ = some (.int .i64 yy) ∧ g < wx.heap.size ∧ wx.frozen? ⟨g, 0, none⟩ = false ∧ wx.frozen? ⟨g, 1, none⟩ = false ∧ ¬ w.heap.size = g ∧ ¬ g = w.heap.size ∧ ¬ w.heap.size + 1 = g ∧ ¬ g = w.heap.size + 1 ∧ ¬ w.heap.size + 2 = g ∧ ¬ g = w.heap.size + 2 ∧ ¬ w1.heap.size = g ∧ ¬ g = w1.heap.size ∧ ¬ w2.heap.size = g ∧ ¬ g = w2.heap.size ∧ ¬ w14.heap.size = g ∧ ¬ g = w14.heap.size ∧ w.heap.size ≤ g ∧ Below w.heap.size w wx)
      case first =>
        have xA : w.heap.size < w14.heap.size + 1 := by omega
        have xB : w.heap.size + 1 < w14.heap.size + 1 := by omega
        have xC : w.heap.size + 2 < w14.heap.size + 1 := by omega
        have xS : w1.heap.size < w14.heap.size + 1 := by omega
        have xP : w2.heap.size < w14.heap.size + 1 := by omega
        have xX : w14.heap.size < w14.heap.size + 1 := by omega
        refine wp_region_held_drew (S := (fun w' => w'.cell? ⟨w.heap.size, 0, none⟩ = some (.int .i64 an) ∧ w'.cell? ⟨w.heap.size, 1, none⟩ = some (.int .i64 ad) ∧ w'.cell? ⟨w.heap.size + 1, 0, none⟩ = some (.int .i64 bn) ∧ w'.cell? ⟨w.heap.size + 1, 1, none⟩ = some (.int .i64 bd) ∧ w'.cell? ⟨w.heap.size + 2, 0, none⟩ = some (.int .i64 cn) ∧ w'.cell? ⟨w.heap.size + 2, 1, none⟩ = some (.int .i64 cd) ∧ w'.cell? ⟨w1.heap.size, 0, none⟩ = some (.int .i64 sx) ∧ w'.cell? ⟨w1.heap.size, 1, none⟩ = some (.int .i64 sy) ∧ w'.cell? ⟨w2.heap.size, 0, none⟩ = some (.int .i64 px) ∧ w'.cell? ⟨w2.heap.size, 1, none⟩ = some (.int .i64 py) ∧ w'.cell? ⟨w14.heap.size, 0, none⟩ = some (.int .i64 xx) ∧ w'.cell? ⟨w14.heap.size, 1, none⟩ = some (.int .i64 xy) ∧ w'.frozen? ⟨w14.heap.size, 0, none⟩ = false ∧ w'.frozen? ⟨w14.heap.size, 1, none⟩ = false ∧ w14.heap.size + 1 ≤ w'.heap.size ∧ Below w14.heap.size w14 w')) (by kernel_rfl) ?_ ?_
        · (refine ⟨?_, ?_, ?_, ?_, ?_, ?_, ?_, ?_, ?_, ?_, ?_, ?_, ?_, ?_, ?_, ?_⟩ <;> first | assumption | ((repeat' (first | (with_reducible exact Below.refl _ _) | (with_reducible assumption) | (with_reducible refine drewN_below ?_ _) | (with_reducible refine Below.drew ?_) | (with_reducible refine Below.alloc ?_ ?_ _) | (with_reducible refine Below.setCell ?_ ?_ _) | (simp; done) | omega | (simp; omega))); done) | (simp [*]; done) | (simp [go_sem, *]; done) | (simp; omega))
        intro hH0
        refine wpAnyH_take (i := 0) (v := ?_) rfl (by kernel_rfl) (by kernel_rfl) (by kernel_rfl) (fun _ _ _ h => h) (Or.inl ⟨by rfl, ?_⟩) (by assumption) ?_
        rotate_left
        focus (intro wq hSq; (try dsimp only at hSq); go_simp; first | done | (with_reducible rfl))
        (try simp only [Act.put, List.getElem_toArray, List.getElem_cons_zero, List.setIfInBounds_toArray, List.set_cons_zero, List.set_cons_succ])
        refine wpAnyH_take (i := 1) (v := ?_) rfl (by kernel_rfl) (by kernel_rfl) (by kernel_rfl) (fun _ _ _ h => h) (Or.inl ⟨by rfl, ?_⟩) (by assumption) ?_
        rotate_left
        focus (intro wq hSq; (try dsimp only at hSq); go_simp; first | done | (with_reducible rfl))
        (try simp only [Act.put, List.getElem_toArray, List.getElem_cons_succ, List.getElem_cons_zero, List.setIfInBounds_toArray, List.set_cons_zero, List.set_cons_succ])
        refine wpAnyH_take (i := 2) (v := ?_) rfl (by kernel_rfl) (by kernel_rfl) (by kernel_rfl) (fun _ _ _ h => h) (Or.inl ⟨by rfl, ?_⟩) (by assumption) ?_
        rotate_left
        focus (intro wq hSq; (try dsimp only at hSq); go_simp; first | done | (with_reducible rfl))
        (try simp only [Act.put, List.getElem_toArray, List.getElem_cons_succ, List.getElem_cons_zero, List.setIfInBounds_toArray, List.set_cons_zero, List.set_cons_succ])
        refine wpAnyH_ready (rs := [3, 5]) (by kernel_rfl) (by simp) ?_
        refine AllReadyH.cons rfl (fun K hK => ?_) ?_
        · skip
          rw [if_pos (by rfl)]
          go_simp
          refine (add_any _ _ _ _ _).mono ?_
          rintro e wt1 ⟨rfl, hbwt1⟩
          obtain ⟨hcwt1, hfwt1, hzwt1, hBwt1⟩ := after (a := w14) (B := w14.heap.size) (w14.heap.size + 1) hbwt1 (by first | (with_reducible assumption) | (simp; done) | omega | (simp; omega)) (by repeat' (first | (with_reducible exact Below.refl _ _) | (with_reducible assumption) | (with_reducible refine drewN_below ?_ _) | (with_reducible refine Below.drew ?_) | (with_reducible refine Below.alloc ?_ ?_ _) | (with_reducible refine Below.setCell ?_ ?_ _) | (simp; done) | omega | (simp; omega))) (by omega)
          have yAwt1 := Nat.lt_of_lt_of_le xA hzwt1
          have yBwt1 := Nat.lt_of_lt_of_le xB hzwt1
          have yCwt1 := Nat.lt_of_lt_of_le xC hzwt1
          have ySwt1 := Nat.lt_of_lt_of_le xS hzwt1
          have yPwt1 := Nat.lt_of_lt_of_le xP hzwt1
          have yXwt1 := Nat.lt_of_lt_of_le xX hzwt1
          rw [hbc.out]
          dsimp only
          refine hK.out _ _ ?_ (fun hHeld => ?_)
          · (refine ⟨?_, ?_, ?_, ?_, ?_, ?_, ?_, ?_, ?_, ?_, ?_, ?_, ?_, ?_, ?_, ?_⟩ <;> first | assumption | ((repeat' (first | (with_reducible exact Below.refl _ _) | (with_reducible assumption) | (with_reducible refine drewN_below ?_ _) | (with_reducible refine Below.drew ?_) | (with_reducible refine Below.alloc ?_ ?_ _) | (with_reducible refine Below.setCell ?_ ?_ _) | (simp; done) | omega | (simp; omega))); done) | (simp [*]; done) | (simp [go_sem, *]; done) | (simp; omega))
          clear hK K
          (try simp only [Act.put, List.getElem_toArray, List.getElem_cons_succ, List.getElem_cons_zero, List.setIfInBounds_toArray, List.set_cons_zero, List.set_cons_succ])
          refine wpAnyH_ready (rs := [4, 5]) (by kernel_rfl) (by simp) ?_
          refine AllReadyH.cons rfl (fun K hK => ?_) ?_
          · skip
            rw [if_pos (by rfl)]
            go_simp
            refine (add_any _ _ _ _ _).mono ?_
            rintro e wt2 ⟨rfl, hbwt2⟩
            obtain ⟨hcwt2, hfwt2, hzwt2, hBwt2⟩ := after (a := w14) (B := w14.heap.size) (w14.heap.size + 1) hbwt2 (by first | (with_reducible assumption) | (simp; done) | omega | (simp; omega)) (by repeat' (first | (with_reducible exact Below.refl _ _) | (with_reducible assumption) | (with_reducible refine drewN_below ?_ _) | (with_reducible refine Below.drew ?_) | (with_reducible refine Below.alloc ?_ ?_ _) | (with_reducible refine Below.setCell ?_ ?_ _) | (simp; done) | omega | (simp; omega))) (by omega)
            have yAwt2 := Nat.lt_of_lt_of_le xA hzwt2
            have yBwt2 := Nat.lt_of_lt_of_le xB hzwt2
            have yCwt2 := Nat.lt_of_lt_of_le xC hzwt2
            have ySwt2 := Nat.lt_of_lt_of_le xS hzwt2
            have yPwt2 := Nat.lt_of_lt_of_le xP hzwt2
            have yXwt2 := Nat.lt_of_lt_of_le xX hzwt2
            rw [hy.out]
            dsimp only
            refine hK.out _ _ ?_ (fun hHeld => ?_)
            · (refine ⟨?_, ?_, ?_, ?_, ?_, ?_, ?_, ?_, ?_, ?_, ?_, ?_, ?_, ?_, ?_, ?_⟩ <;> first | assumption | ((repeat' (first | (with_reducible exact Below.refl _ _) | (with_reducible assumption) | (with_reducible refine drewN_below ?_ _) | (with_reducible refine Below.drew ?_) | (with_reducible refine Below.alloc ?_ ?_ _) | (with_reducible refine Below.setCell ?_ ?_ _) | (simp; done) | omega | (simp; omega))); done) | (simp [*]; done) | (simp [go_sem, *]; done) | (simp; omega))
            clear hK K
            (try simp only [Act.put, List.getElem_toArray, List.getElem_cons_succ, List.getElem_cons_zero, List.setIfInBounds_toArray, List.set_cons_zero, List.set_cons_succ])
            refine wpAnyH_ready (rs := [5]) (by kernel_rfl) (by simp) ?_
            refine AllReadyH.cons rfl (fun K hK => ?_) ?_
            · skip
              rw [if_pos (by rfl)]
              go_simp
              refine hK.out _ _ ?_ (fun hHeld => ?_)
              · (refine ⟨?_, ?_, ?_, ?_, ?_, ?_, ?_, ?_, ?_, ?_, ?_, ?_, ?_, ?_, ?_, ?_⟩ <;> first | assumption | ((repeat' (first | (with_reducible exact Below.refl _ _) | (with_reducible assumption) | (with_reducible refine drewN_below ?_ _) | (with_reducible refine Below.drew ?_) | (with_reducible refine Below.alloc ?_ ?_ _) | (with_reducible refine Below.setCell ?_ ?_ _) | (simp; done) | omega | (simp; omega))); done) | (simp [*]; done) | (simp [go_sem, *]; done) | (simp; omega))
              clear hK K
              (try simp only [Act.put, List.getElem_toArray, List.getElem_cons_succ, List.getElem_cons_zero, List.setIfInBounds_toArray, List.set_cons_zero, List.set_cons_succ])
              refine wpAnyH_ready (rs := [6]) (by kernel_rfl) (by simp) ?_
              refine AllReadyH.cons rfl (fun K hK => ?_) ?_
              · skip
                rw [if_pos (by rfl)]
                go_simp
                refine hK.out _ _ ?_ (fun hHeld => ?_)
                · (refine ⟨?_, ?_, ?_, ?_, ?_, ?_, ?_, ?_, ?_, ?_, ?_, ?_, ?_, ?_, ?_, ?_⟩ <;> first | assumption | ((repeat' (first | (with_reducible exact Below.refl _ _) | (with_reducible assumption) | (with_reducible refine drewN_below ?_ _) | (with_reducible refine Below.drew ?_) | (with_reducible refine Below.alloc ?_ ?_ _) | (with_reducible refine Below.setCell ?_ ?_ _) | (simp; done) | omega | (simp; omega))); done) | (simp [*]; done) | (simp [go_sem, *]; done) | (simp; omega))
                clear hK K
                (try simp only [Act.put, List.getElem_toArray, List.getElem_cons_succ, List.getElem_cons_zero, List.setIfInBounds_toArray, List.set_cons_zero, List.set_cons_succ])
                refine wpAnyH_done (by kernel_rfl) ?_ _
                go_wp2_with fail
                obtain ⟨cA0t, cA1t, cB0t, cB1t, cC0t, cC1t, cS0t, cS1t, cP0t, cP1t, cX0t, cX1t, zX0t, zX1t, szt, blt⟩ := (by assumption : wt2.cell? ⟨w.heap.size, 0, none⟩ = some (.int .i64 an) ∧ wt2.cell? ⟨w.heap.size, 1, none⟩ = some (.int .i64 ad) ∧ wt2.cell? ⟨w.heap.size + 1, 0, none⟩ = some (.int .i64 bn) ∧ wt2.cell? ⟨w.heap.size + 1, 1, none⟩ = some (.int .i64 bd) ∧ wt2.cell? ⟨w.heap.size + 2, 0, none⟩ = some (.int .i64 cn) ∧ wt2.cell? ⟨w.heap.size + 2, 1, none⟩ = some (.int .i64 cd) ∧ wt2.cell? ⟨w1.heap.size, 0, none⟩ = some (.int .i64 sx) ∧ wt2.cell? ⟨w1.heap.size, 1, none⟩ = some (.int .i64 sy) ∧ wt2.cell? ⟨w2.heap.size, 0, none⟩ = some (.int .i64 px) ∧ wt2.cell? ⟨w2.heap.size, 1, none⟩ = some (.int .i64 py) ∧ wt2.cell? ⟨w14.heap.size, 0, none⟩ = some (.int .i64 xx) ∧ wt2.cell? ⟨w14.heap.size, 1, none⟩ = some (.int .i64 xy) ∧ wt2.frozen? ⟨w14.heap.size, 0, none⟩ = false ∧ wt2.frozen? ⟨w14.heap.size, 1, none⟩ = false ∧ w14.heap.size + 1 ≤ wt2.heap.size ∧ Below w14.heap.size w14 wt2)
                have hcw : Below w.heap.size w wt2 := Below.trans hBw14 (blt.mono hBw14.size)
                have hcz := hcw.size
                have lA : w.heap.size < wt2.heap.size := by omega
                have mA : w.heap.size < wt2.heap.size := by omega
                have lB : w.heap.size + 1 < wt2.heap.size := by omega
                have mB : w.heap.size + 1 < wt2.heap.size := by omega
                have lC : w.heap.size + 2 < wt2.heap.size := by omega
                have mC : w.heap.size + 2 < wt2.heap.size := by omega
                have lS : w1.heap.size < wt2.heap.size := by omega
                have mS : w1.heap.size < wt2.heap.size := by omega
                have lP : w2.heap.size < wt2.heap.size := by omega
                have mP : w2.heap.size < wt2.heap.size := by omega
                have lX : w14.heap.size < wt2.heap.size := by omega
                have mX : w14.heap.size < wt2.heap.size := by omega
                go_meet
                refine ⟨_, rfl, ?_, ?_, ?_, ?_, ?_, ?_, ?_, ?_, ?_, ?_, ?_, ?_, ?_, ?_, ?_, ?_, ?_, ?_, ?_, ?_, ?_, ?_, ?_, ?_, ?_, ?_, ?_, ?_, ?_, ?_, ?_, ?_, ?_, ?_, ?_, ?_, ?_, ?_, ?_⟩
                · exact Eq.trans (Below.cell (B := wt2.heap.size) (p := ⟨w.heap.size, 0, none⟩) (by repeat' (first | (with_reducible exact Below.refl _ _) | (with_reducible assumption) | (with_reducible refine drewN_below ?_ _) | (with_reducible refine Below.drew ?_) | (with_reducible refine Below.alloc ?_ ?_ _) | (with_reducible refine Below.setCell ?_ ?_ _) | (simp; done) | omega | (simp; omega))) lA) cA0t
                · exact Eq.trans (Below.cell (B := wt2.heap.size) (p := ⟨w.heap.size, 1, none⟩) (by repeat' (first | (with_reducible exact Below.refl _ _) | (with_reducible assumption) | (with_reducible refine drewN_below ?_ _) | (with_reducible refine Below.drew ?_) | (with_reducible refine Below.alloc ?_ ?_ _) | (with_reducible refine Below.setCell ?_ ?_ _) | (simp; done) | omega | (simp; omega))) lA) cA1t
                · first | assumption | omega | (simp; done) | (simp; omega)
                · exact Eq.trans (Below.cell (B := wt2.heap.size) (p := ⟨w.heap.size + 1, 0, none⟩) (by repeat' (first | (with_reducible exact Below.refl _ _) | (with_reducible assumption) | (with_reducible refine drewN_below ?_ _) | (with_reducible refine Below.drew ?_) | (with_reducible refine Below.alloc ?_ ?_ _) | (with_reducible refine Below.setCell ?_ ?_ _) | (simp; done) | omega | (simp; omega))) lB) cB0t
                · exact Eq.trans (Below.cell (B := wt2.heap.size) (p := ⟨w.heap.size + 1, 1, none⟩) (by repeat' (first | (with_reducible exact Below.refl _ _) | (with_reducible assumption) | (with_reducible refine drewN_below ?_ _) | (with_reducible refine Below.drew ?_) | (with_reducible refine Below.alloc ?_ ?_ _) | (with_reducible refine Below.setCell ?_ ?_ _) | (simp; done) | omega | (simp; omega))) lB) cB1t
                · first | assumption | omega | (simp; done) | (simp; omega)
                · exact Eq.trans (Below.cell (B := wt2.heap.size) (p := ⟨w.heap.size + 2, 0, none⟩) (by repeat' (first | (with_reducible exact Below.refl _ _) | (with_reducible assumption) | (with_reducible refine drewN_below ?_ _) | (with_reducible refine Below.drew ?_) | (with_reducible refine Below.alloc ?_ ?_ _) | (with_reducible refine Below.setCell ?_ ?_ _) | (simp; done) | omega | (simp; omega))) lC) cC0t
                · exact Eq.trans (Below.cell (B := wt2.heap.size) (p := ⟨w.heap.size + 2, 1, none⟩) (by repeat' (first | (with_reducible exact Below.refl _ _) | (with_reducible assumption) | (with_reducible refine drewN_below ?_ _) | (with_reducible refine Below.drew ?_) | (with_reducible refine Below.alloc ?_ ?_ _) | (with_reducible refine Below.setCell ?_ ?_ _) | (simp; done) | omega | (simp; omega))) lC) cC1t
                · first | assumption | omega | (simp; done) | (simp; omega)
                · exact Eq.trans (Below.cell (B := wt2.heap.size) (p := ⟨w1.heap.size, 0, none⟩) (by repeat' (first | (with_reducible exact Below.refl _ _) | (with_reducible assumption) | (with_reducible refine drewN_below ?_ _) | (with_reducible refine Below.drew ?_) | (with_reducible refine Below.alloc ?_ ?_ _) | (with_reducible refine Below.setCell ?_ ?_ _) | (simp; done) | omega | (simp; omega))) lS) cS0t
                · exact Eq.trans (Below.cell (B := wt2.heap.size) (p := ⟨w1.heap.size, 1, none⟩) (by repeat' (first | (with_reducible exact Below.refl _ _) | (with_reducible assumption) | (with_reducible refine drewN_below ?_ _) | (with_reducible refine Below.drew ?_) | (with_reducible refine Below.alloc ?_ ?_ _) | (with_reducible refine Below.setCell ?_ ?_ _) | (simp; done) | omega | (simp; omega))) lS) cS1t
                · first | assumption | omega | (simp; done) | (simp; omega)
                · exact Eq.trans (Below.cell (B := wt2.heap.size) (p := ⟨w2.heap.size, 0, none⟩) (by repeat' (first | (with_reducible exact Below.refl _ _) | (with_reducible assumption) | (with_reducible refine drewN_below ?_ _) | (with_reducible refine Below.drew ?_) | (with_reducible refine Below.alloc ?_ ?_ _) | (with_reducible refine Below.setCell ?_ ?_ _) | (simp; done) | omega | (simp; omega))) lP) cP0t
                · exact Eq.trans (Below.cell (B := wt2.heap.size) (p := ⟨w2.heap.size, 1, none⟩) (by repeat' (first | (with_reducible exact Below.refl _ _) | (with_reducible assumption) | (with_reducible refine drewN_below ?_ _) | (with_reducible refine Below.drew ?_) | (with_reducible refine Below.alloc ?_ ?_ _) | (with_reducible refine Below.setCell ?_ ?_ _) | (simp; done) | omega | (simp; omega))) lP) cP1t
                · first | assumption | omega | (simp; done) | (simp; omega)
                · exact Eq.trans (Below.cell (B := wt2.heap.size) (p := ⟨w14.heap.size, 0, none⟩) (by repeat' (first | (with_reducible exact Below.refl _ _) | (with_reducible assumption) | (with_reducible refine drewN_below ?_ _) | (with_reducible refine Below.drew ?_) | (with_reducible refine Below.alloc ?_ ?_ _) | (with_reducible refine Below.setCell ?_ ?_ _) | (simp; done) | omega | (simp; omega))) lX) cX0t
                · exact Eq.trans (Below.cell (B := wt2.heap.size) (p := ⟨w14.heap.size, 1, none⟩) (by repeat' (first | (with_reducible exact Below.refl _ _) | (with_reducible assumption) | (with_reducible refine drewN_below ?_ _) | (with_reducible refine Below.drew ?_) | (with_reducible refine Below.alloc ?_ ?_ _) | (with_reducible refine Below.setCell ?_ ?_ _) | (simp; done) | omega | (simp; omega))) lX) cX1t
                · first | assumption | omega | (simp; done) | (simp; omega)
                · exact Eq.trans (Below.frozen (B := wt2.heap.size) (p := ⟨w14.heap.size, 0, none⟩) (by repeat' (first | (with_reducible exact Below.refl _ _) | (with_reducible assumption) | (with_reducible refine drewN_below ?_ _) | (with_reducible refine Below.drew ?_) | (with_reducible refine Below.alloc ?_ ?_ _) | (with_reducible refine Below.setCell ?_ ?_ _) | (simp; done) | omega | (simp; omega))) lX) zX0t
                · exact Eq.trans (Below.frozen (B := wt2.heap.size) (p := ⟨w14.heap.size, 1, none⟩) (by repeat' (first | (with_reducible exact Below.refl _ _) | (with_reducible assumption) | (with_reducible refine drewN_below ?_ _) | (with_reducible refine Below.drew ?_) | (with_reducible refine Below.alloc ?_ ?_ _) | (with_reducible refine Below.setCell ?_ ?_ _) | (simp; done) | omega | (simp; omega))) lX) zX1t
                · first | (simp [go_sem]; done) | (simp [go_sem, *]; done)
                · first | (simp [go_sem]; done) | (simp [go_sem, *]; done)
                · first | assumption | omega | (simp; done) | (simp; omega)
                · first | (simp [go_sem]; done) | (simp [go_sem, *]; done)
                · first | (simp [go_sem]; done) | (simp [go_sem, *]; done)
                · omega
                · omega
                · omega
                · omega
                · omega
                · omega
                · omega
                · omega
                · omega
                · omega
                · omega
                · omega
                · omega
                · repeat' (first | (with_reducible exact Below.refl _ _) | (with_reducible assumption) | (with_reducible refine drewN_below ?_ _) | (with_reducible refine Below.drew ?_) | (with_reducible refine Below.alloc ?_ ?_ _) | (with_reducible refine Below.setCell ?_ ?_ _) | (simp; done) | omega | (simp; omega))
              exact AllReadyH.nil
            exact AllReadyH.nil
          refine AllReadyH.cons rfl (fun K hK => ?_) ?_
          · skip
            rw [if_pos (by rfl)]
            go_simp
            refine hK.out _ _ ?_ (fun hHeld => ?_)
            · (refine ⟨?_, ?_, ?_, ?_, ?_, ?_, ?_, ?_, ?_, ?_, ?_, ?_, ?_, ?_, ?_, ?_⟩ <;> first | assumption | ((repeat' (first | (with_reducible exact Below.refl _ _) | (with_reducible assumption) | (with_reducible refine drewN_below ?_ _) | (with_reducible refine Below.drew ?_) | (with_reducible refine Below.alloc ?_ ?_ _) | (with_reducible refine Below.setCell ?_ ?_ _) | (simp; done) | omega | (simp; omega))); done) | (simp [*]; done) | (simp [go_sem, *]; done) | (simp; omega))
            clear hK K
            (try simp only [Act.put, List.getElem_toArray, List.getElem_cons_succ, List.getElem_cons_zero, List.setIfInBounds_toArray, List.set_cons_zero, List.set_cons_succ])
            refine wpAnyH_ready (rs := [4]) (by kernel_rfl) (by simp) ?_
            refine AllReadyH.cons rfl (fun K hK => ?_) ?_
            · skip
              rw [if_pos (by rfl)]
              go_simp
              refine (add_any _ _ _ _ _).mono ?_
              rintro e wt2 ⟨rfl, hbwt2⟩
              obtain ⟨hcwt2, hfwt2, hzwt2, hBwt2⟩ := after (a := w14) (B := w14.heap.size) (w14.heap.size + 1) hbwt2 (by first | (with_reducible assumption) | (simp; done) | omega | (simp; omega)) (by repeat' (first | (with_reducible exact Below.refl _ _) | (with_reducible assumption) | (with_reducible refine drewN_below ?_ _) | (with_reducible refine Below.drew ?_) | (with_reducible refine Below.alloc ?_ ?_ _) | (with_reducible refine Below.setCell ?_ ?_ _) | (simp; done) | omega | (simp; omega))) (by omega)
              have yAwt2 := Nat.lt_of_lt_of_le xA hzwt2
              have yBwt2 := Nat.lt_of_lt_of_le xB hzwt2
              have yCwt2 := Nat.lt_of_lt_of_le xC hzwt2
              have ySwt2 := Nat.lt_of_lt_of_le xS hzwt2
              have yPwt2 := Nat.lt_of_lt_of_le xP hzwt2
              have yXwt2 := Nat.lt_of_lt_of_le xX hzwt2
              have yGwt2 : wt1.heap.size < wt2.heap.size := by have := hbwt2.size; first | omega | (simp at this; omega)
              have cG0wt2 : wt2.cell? ⟨wt1.heap.size, 0, none⟩ = some (.int .i64 0) := (hbwt2.cell (p := ⟨wt1.heap.size, 0, none⟩) (by first | (with_reducible assumption) | (simp; done) | omega | (simp; omega))).trans (by first | assumption | (simp [go_sem]; done) | (simp [go_sem, *]; done))
              have zG0wt2 : wt2.frozen? ⟨wt1.heap.size, 0, none⟩ = false := (hbwt2.frozen (p := ⟨wt1.heap.size, 0, none⟩) (by first | (with_reducible assumption) | (simp; done) | omega | (simp; omega))).trans (by first | assumption | (simp [go_sem]; done) | (simp [go_sem, *]; done))
              have cG1wt2 : wt2.cell? ⟨wt1.heap.size, 1, none⟩ = some (.int .i64 0) := (hbwt2.cell (p := ⟨wt1.heap.size, 1, none⟩) (by first | (with_reducible assumption) | (simp; done) | omega | (simp; omega))).trans (by first | assumption | (simp [go_sem]; done) | (simp [go_sem, *]; done))
              have zG1wt2 : wt2.frozen? ⟨wt1.heap.size, 1, none⟩ = false := (hbwt2.frozen (p := ⟨wt1.heap.size, 1, none⟩) (by first | (with_reducible assumption) | (simp; done) | omega | (simp; omega))).trans (by first | assumption | (simp [go_sem]; done) | (simp [go_sem, *]; done))
              rw [hy.out]
              dsimp only
              refine hK.out _ _ ?_ (fun hHeld => ?_)
              · (refine ⟨?_, ?_, ?_, ?_, ?_, ?_, ?_, ?_, ?_, ?_, ?_, ?_, ?_, ?_, ?_, ?_⟩ <;> first | assumption | ((repeat' (first | (with_reducible exact Below.refl _ _) | (with_reducible assumption) | (with_reducible refine drewN_below ?_ _) | (with_reducible refine Below.drew ?_) | (with_reducible refine Below.alloc ?_ ?_ _) | (with_reducible refine Below.setCell ?_ ?_ _) | (simp; done) | omega | (simp; omega))); done) | (simp [*]; done) | (simp [go_sem, *]; done) | (simp; omega))
              clear hK K
              (try simp only [Act.put, List.getElem_toArray, List.getElem_cons_succ, List.getElem_cons_zero, List.setIfInBounds_toArray, List.set_cons_zero, List.set_cons_succ])
              refine wpAnyH_ready (rs := [6]) (by kernel_rfl) (by simp) ?_
              refine AllReadyH.cons rfl (fun K hK => ?_) ?_
              · skip
                rw [if_pos (by rfl)]
                go_simp
                refine hK.out _ _ ?_ (fun hHeld => ?_)
                · (refine ⟨?_, ?_, ?_, ?_, ?_, ?_, ?_, ?_, ?_, ?_, ?_, ?_, ?_, ?_, ?_, ?_⟩ <;> first | assumption | ((repeat' (first | (with_reducible exact Below.refl _ _) | (with_reducible assumption) | (with_reducible refine drewN_below ?_ _) | (with_reducible refine Below.drew ?_) | (with_reducible refine Below.alloc ?_ ?_ _) | (with_reducible refine Below.setCell ?_ ?_ _) | (simp; done) | omega | (simp; omega))); done) | (simp [*]; done) | (simp [go_sem, *]; done) | (simp; omega))
                clear hK K
                (try simp only [Act.put, List.getElem_toArray, List.getElem_cons_succ, List.getElem_cons_zero, List.setIfInBounds_toArray, List.set_cons_zero, List.set_cons_succ])
                refine wpAnyH_done (by kernel_rfl) ?_ _
                go_wp2_with fail
                obtain ⟨cA0t, cA1t, cB0t, cB1t, cC0t, cC1t, cS0t, cS1t, cP0t, cP1t, cX0t, cX1t, zX0t, zX1t, szt, blt⟩ := (by assumption : wt2.cell? ⟨w.heap.size, 0, none⟩ = some (.int .i64 an) ∧ wt2.cell? ⟨w.heap.size, 1, none⟩ = some (.int .i64 ad) ∧ wt2.cell? ⟨w.heap.size + 1, 0, none⟩ = some (.int .i64 bn) ∧ wt2.cell? ⟨w.heap.size + 1, 1, none⟩ = some (.int .i64 bd) ∧ wt2.cell? ⟨w.heap.size + 2, 0, none⟩ = some (.int .i64 cn) ∧ wt2.cell? ⟨w.heap.size + 2, 1, none⟩ = some (.int .i64 cd) ∧ wt2.cell? ⟨w1.heap.size, 0, none⟩ = some (.int .i64 sx) ∧ wt2.cell? ⟨w1.heap.size, 1, none⟩ = some (.int .i64 sy) ∧ wt2.cell? ⟨w2.heap.size, 0, none⟩ = some (.int .i64 px) ∧ wt2.cell? ⟨w2.heap.size, 1, none⟩ = some (.int .i64 py) ∧ wt2.cell? ⟨w14.heap.size, 0, none⟩ = some (.int .i64 xx) ∧ wt2.cell? ⟨w14.heap.size, 1, none⟩ = some (.int .i64 xy) ∧ wt2.frozen? ⟨w14.heap.size, 0, none⟩ = false ∧ wt2.frozen? ⟨w14.heap.size, 1, none⟩ = false ∧ w14.heap.size + 1 ≤ wt2.heap.size ∧ Below w14.heap.size w14 wt2)
                have hcw : Below w.heap.size w wt2 := Below.trans hBw14 (blt.mono hBw14.size)
                have hcz := hcw.size
                have lA : w.heap.size < wt1.heap.size := by omega
                have mA : w.heap.size < wt2.heap.size := by omega
                have lB : w.heap.size + 1 < wt1.heap.size := by omega
                have mB : w.heap.size + 1 < wt2.heap.size := by omega
                have lC : w.heap.size + 2 < wt1.heap.size := by omega
                have mC : w.heap.size + 2 < wt2.heap.size := by omega
                have lS : w1.heap.size < wt1.heap.size := by omega
                have mS : w1.heap.size < wt2.heap.size := by omega
                have lP : w2.heap.size < wt1.heap.size := by omega
                have mP : w2.heap.size < wt2.heap.size := by omega
                have lX : w14.heap.size < wt1.heap.size := by omega
                have mX : w14.heap.size < wt2.heap.size := by omega
                go_meet
                refine ⟨_, rfl, ?_, ?_, ?_, ?_, ?_, ?_, ?_, ?_, ?_, ?_, ?_, ?_, ?_, ?_, ?_, ?_, ?_, ?_, ?_, ?_, ?_, ?_, ?_, ?_, ?_, ?_, ?_, ?_, ?_, ?_, ?_, ?_, ?_, ?_, ?_, ?_, ?_, ?_, ?_⟩
                · exact Eq.trans (Below.cell (B := wt1.heap.size) (p := ⟨w.heap.size, 0, none⟩) (by repeat' (first | (with_reducible exact Below.refl _ _) | (with_reducible assumption) | (with_reducible refine drewN_below ?_ _) | (with_reducible refine Below.drew ?_) | (with_reducible refine Below.alloc ?_ ?_ _) | (with_reducible refine Below.setCell ?_ ?_ _) | (simp; done) | omega | (simp; omega))) lA) cA0t
                · exact Eq.trans (Below.cell (B := wt1.heap.size) (p := ⟨w.heap.size, 1, none⟩) (by repeat' (first | (with_reducible exact Below.refl _ _) | (with_reducible assumption) | (with_reducible refine drewN_below ?_ _) | (with_reducible refine Below.drew ?_) | (with_reducible refine Below.alloc ?_ ?_ _) | (with_reducible refine Below.setCell ?_ ?_ _) | (simp; done) | omega | (simp; omega))) lA) cA1t
                · first | assumption | omega | (simp; done) | (simp; omega)
                · exact Eq.trans (Below.cell (B := wt1.heap.size) (p := ⟨w.heap.size + 1, 0, none⟩) (by repeat' (first | (with_reducible exact Below.refl _ _) | (with_reducible assumption) | (with_reducible refine drewN_below ?_ _) | (with_reducible refine Below.drew ?_) | (with_reducible refine Below.alloc ?_ ?_ _) | (with_reducible refine Below.setCell ?_ ?_ _) | (simp; done) | omega | (simp; omega))) lB) cB0t
                · exact Eq.trans (Below.cell (B := wt1.heap.size) (p := ⟨w.heap.size + 1, 1, none⟩) (by repeat' (first | (with_reducible exact Below.refl _ _) | (with_reducible assumption) | (with_reducible refine drewN_below ?_ _) | (with_reducible refine Below.drew ?_) | (with_reducible refine Below.alloc ?_ ?_ _) | (with_reducible refine Below.setCell ?_ ?_ _) | (simp; done) | omega | (simp; omega))) lB) cB1t
                · first | assumption | omega | (simp; done) | (simp; omega)
                · exact Eq.trans (Below.cell (B := wt1.heap.size) (p := ⟨w.heap.size + 2, 0, none⟩) (by repeat' (first | (with_reducible exact Below.refl _ _) | (with_reducible assumption) | (with_reducible refine drewN_below ?_ _) | (with_reducible refine Below.drew ?_) | (with_reducible refine Below.alloc ?_ ?_ _) | (with_reducible refine Below.setCell ?_ ?_ _) | (simp; done) | omega | (simp; omega))) lC) cC0t
                · exact Eq.trans (Below.cell (B := wt1.heap.size) (p := ⟨w.heap.size + 2, 1, none⟩) (by repeat' (first | (with_reducible exact Below.refl _ _) | (with_reducible assumption) | (with_reducible refine drewN_below ?_ _) | (with_reducible refine Below.drew ?_) | (with_reducible refine Below.alloc ?_ ?_ _) | (with_reducible refine Below.setCell ?_ ?_ _) | (simp; done) | omega | (simp; omega))) lC) cC1t
                · first | assumption | omega | (simp; done) | (simp; omega)
                · exact Eq.trans (Below.cell (B := wt1.heap.size) (p := ⟨w1.heap.size, 0, none⟩) (by repeat' (first | (with_reducible exact Below.refl _ _) | (with_reducible assumption) | (with_reducible refine drewN_below ?_ _) | (with_reducible refine Below.drew ?_) | (with_reducible refine Below.alloc ?_ ?_ _) | (with_reducible refine Below.setCell ?_ ?_ _) | (simp; done) | omega | (simp; omega))) lS) cS0t
                · exact Eq.trans (Below.cell (B := wt1.heap.size) (p := ⟨w1.heap.size, 1, none⟩) (by repeat' (first | (with_reducible exact Below.refl _ _) | (with_reducible assumption) | (with_reducible refine drewN_below ?_ _) | (with_reducible refine Below.drew ?_) | (with_reducible refine Below.alloc ?_ ?_ _) | (with_reducible refine Below.setCell ?_ ?_ _) | (simp; done) | omega | (simp; omega))) lS) cS1t
                · first | assumption | omega | (simp; done) | (simp; omega)
                · exact Eq.trans (Below.cell (B := wt1.heap.size) (p := ⟨w2.heap.size, 0, none⟩) (by repeat' (first | (with_reducible exact Below.refl _ _) | (with_reducible assumption) | (with_reducible refine drewN_below ?_ _) | (with_reducible refine Below.drew ?_) | (with_reducible refine Below.alloc ?_ ?_ _) | (with_reducible refine Below.setCell ?_ ?_ _) | (simp; done) | omega | (simp; omega))) lP) cP0t
                · exact Eq.trans (Below.cell (B := wt1.heap.size) (p := ⟨w2.heap.size, 1, none⟩) (by repeat' (first | (with_reducible exact Below.refl _ _) | (with_reducible assumption) | (with_reducible refine drewN_below ?_ _) | (with_reducible refine Below.drew ?_) | (with_reducible refine Below.alloc ?_ ?_ _) | (with_reducible refine Below.setCell ?_ ?_ _) | (simp; done) | omega | (simp; omega))) lP) cP1t
                · first | assumption | omega | (simp; done) | (simp; omega)
                · exact Eq.trans (Below.cell (B := wt1.heap.size) (p := ⟨w14.heap.size, 0, none⟩) (by repeat' (first | (with_reducible exact Below.refl _ _) | (with_reducible assumption) | (with_reducible refine drewN_below ?_ _) | (with_reducible refine Below.drew ?_) | (with_reducible refine Below.alloc ?_ ?_ _) | (with_reducible refine Below.setCell ?_ ?_ _) | (simp; done) | omega | (simp; omega))) lX) cX0t
                · exact Eq.trans (Below.cell (B := wt1.heap.size) (p := ⟨w14.heap.size, 1, none⟩) (by repeat' (first | (with_reducible exact Below.refl _ _) | (with_reducible assumption) | (with_reducible refine drewN_below ?_ _) | (with_reducible refine Below.drew ?_) | (with_reducible refine Below.alloc ?_ ?_ _) | (with_reducible refine Below.setCell ?_ ?_ _) | (simp; done) | omega | (simp; omega))) lX) cX1t
                · first | assumption | omega | (simp; done) | (simp; omega)
                · exact Eq.trans (Below.frozen (B := wt1.heap.size) (p := ⟨w14.heap.size, 0, none⟩) (by repeat' (first | (with_reducible exact Below.refl _ _) | (with_reducible assumption) | (with_reducible refine drewN_below ?_ _) | (with_reducible refine Below.drew ?_) | (with_reducible refine Below.alloc ?_ ?_ _) | (with_reducible refine Below.setCell ?_ ?_ _) | (simp; done) | omega | (simp; omega))) lX) zX0t
                · exact Eq.trans (Below.frozen (B := wt1.heap.size) (p := ⟨w14.heap.size, 1, none⟩) (by repeat' (first | (with_reducible exact Below.refl _ _) | (with_reducible assumption) | (with_reducible refine drewN_below ?_ _) | (with_reducible refine Below.drew ?_) | (with_reducible refine Below.alloc ?_ ?_ _) | (with_reducible refine Below.setCell ?_ ?_ _) | (simp; done) | omega | (simp; omega))) lX) zX1t
                · first | (simp [go_sem]; done) | (simp [go_sem, *]; done)
                · first | (simp [go_sem]; done) | (simp [go_sem, *]; done)
                · first | assumption | omega | (simp; done) | (simp; omega)
                · first | (simp [go_sem]; done) | (simp [go_sem, *]; done)
                · first | (simp [go_sem]; done) | (simp [go_sem, *]; done)
                · omega
                · omega
                · omega
                · omega
                · omega
                · omega
                · omega
                · omega
                · omega
                · omega
                · omega
                · omega
                · omega
                · repeat' (first | (with_reducible exact Below.refl _ _) | (with_reducible assumption) | (with_reducible refine drewN_below ?_ _) | (with_reducible refine Below.drew ?_) | (with_reducible refine Below.alloc ?_ ?_ _) | (with_reducible refine Below.setCell ?_ ?_ _) | (simp; done) | omega | (simp; omega))
              exact AllReadyH.nil
            exact AllReadyH.nil
          exact AllReadyH.nil
        refine AllReadyH.cons rfl (fun K hK => ?_) ?_
        · skip
          rw [if_pos (by rfl)]
          go_simp
          refine hK.out _ _ ?_ (fun hHeld => ?_)
          · (refine ⟨?_, ?_, ?_, ?_, ?_, ?_, ?_, ?_, ?_, ?_, ?_, ?_, ?_, ?_, ?_, ?_⟩ <;> first | assumption | ((repeat' (first | (with_reducible exact Below.refl _ _) | (with_reducible assumption) | (with_reducible refine drewN_below ?_ _) | (with_reducible refine Below.drew ?_) | (with_reducible refine Below.alloc ?_ ?_ _) | (with_reducible refine Below.setCell ?_ ?_ _) | (simp; done) | omega | (simp; omega))); done) | (simp [*]; done) | (simp [go_sem, *]; done) | (simp; omega))
          clear hK K
          (try simp only [Act.put, List.getElem_toArray, List.getElem_cons_succ, List.getElem_cons_zero, List.setIfInBounds_toArray, List.set_cons_zero, List.set_cons_succ])
          refine wpAnyH_ready (rs := [3]) (by kernel_rfl) (by simp) ?_
          refine AllReadyH.cons rfl (fun K hK => ?_) ?_
          · skip
            rw [if_pos (by rfl)]
            go_simp
            refine (add_any _ _ _ _ _).mono ?_
            rintro e wt1 ⟨rfl, hbwt1⟩
            obtain ⟨hcwt1, hfwt1, hzwt1, hBwt1⟩ := after (a := w14) (B := w14.heap.size) (w14.heap.size + 1) hbwt1 (by first | (with_reducible assumption) | (simp; done) | omega | (simp; omega)) (by repeat' (first | (with_reducible exact Below.refl _ _) | (with_reducible assumption) | (with_reducible refine drewN_below ?_ _) | (with_reducible refine Below.drew ?_) | (with_reducible refine Below.alloc ?_ ?_ _) | (with_reducible refine Below.setCell ?_ ?_ _) | (simp; done) | omega | (simp; omega))) (by omega)
            have yAwt1 := Nat.lt_of_lt_of_le xA hzwt1
            have yBwt1 := Nat.lt_of_lt_of_le xB hzwt1
            have yCwt1 := Nat.lt_of_lt_of_le xC hzwt1
            have ySwt1 := Nat.lt_of_lt_of_le xS hzwt1
            have yPwt1 := Nat.lt_of_lt_of_le xP hzwt1
            have yXwt1 := Nat.lt_of_lt_of_le xX hzwt1
            have yGwt1 : w14.heap.size + 1 < wt1.heap.size := by have := hbwt1.size; first | omega | (simp at this; omega)
            have cG0wt1 : wt1.cell? ⟨w14.heap.size + 1, 0, none⟩ = some (.int .i64 0) := (hbwt1.cell (p := ⟨w14.heap.size + 1, 0, none⟩) (by first | (with_reducible assumption) | (simp; done) | omega | (simp; omega))).trans (by first | assumption | (simp [go_sem]; done) | (simp [go_sem, *]; done))
            have zG0wt1 : wt1.frozen? ⟨w14.heap.size + 1, 0, none⟩ = false := (hbwt1.frozen (p := ⟨w14.heap.size + 1, 0, none⟩) (by first | (with_reducible assumption) | (simp; done) | omega | (simp; omega))).trans (by first | assumption | (simp [go_sem]; done) | (simp [go_sem, *]; done))
            have cG1wt1 : wt1.cell? ⟨w14.heap.size + 1, 1, none⟩ = some (.int .i64 0) := (hbwt1.cell (p := ⟨w14.heap.size + 1, 1, none⟩) (by first | (with_reducible assumption) | (simp; done) | omega | (simp; omega))).trans (by first | assumption | (simp [go_sem]; done) | (simp [go_sem, *]; done))
            have zG1wt1 : wt1.frozen? ⟨w14.heap.size + 1, 1, none⟩ = false := (hbwt1.frozen (p := ⟨w14.heap.size + 1, 1, none⟩) (by first | (with_reducible assumption) | (simp; done) | omega | (simp; omega))).trans (by first | assumption | (simp [go_sem]; done) | (simp [go_sem, *]; done))
            rw [hbc.out]
            dsimp only
            refine hK.out _ _ ?_ (fun hHeld => ?_)
            · (refine ⟨?_, ?_, ?_, ?_, ?_, ?_, ?_, ?_, ?_, ?_, ?_, ?_, ?_, ?_, ?_, ?_⟩ <;> first | assumption | ((repeat' (first | (with_reducible exact Below.refl _ _) | (with_reducible assumption) | (with_reducible refine drewN_below ?_ _) | (with_reducible refine Below.drew ?_) | (with_reducible refine Below.alloc ?_ ?_ _) | (with_reducible refine Below.setCell ?_ ?_ _) | (simp; done) | omega | (simp; omega))); done) | (simp [*]; done) | (simp [go_sem, *]; done) | (simp; omega))
            clear hK K
            (try simp only [Act.put, List.getElem_toArray, List.getElem_cons_succ, List.getElem_cons_zero, List.setIfInBounds_toArray, List.set_cons_zero, List.set_cons_succ])
            refine wpAnyH_ready (rs := [4]) (by kernel_rfl) (by simp) ?_
            refine AllReadyH.cons rfl (fun K hK => ?_) ?_
            · skip
              rw [if_pos (by rfl)]
              go_simp
              refine (add_any _ _ _ _ _).mono ?_
              rintro e wt2 ⟨rfl, hbwt2⟩
              obtain ⟨hcwt2, hfwt2, hzwt2, hBwt2⟩ := after (a := w14) (B := w14.heap.size) (w14.heap.size + 1) hbwt2 (by first | (with_reducible assumption) | (simp; done) | omega | (simp; omega)) (by repeat' (first | (with_reducible exact Below.refl _ _) | (with_reducible assumption) | (with_reducible refine drewN_below ?_ _) | (with_reducible refine Below.drew ?_) | (with_reducible refine Below.alloc ?_ ?_ _) | (with_reducible refine Below.setCell ?_ ?_ _) | (simp; done) | omega | (simp; omega))) (by omega)
              have yAwt2 := Nat.lt_of_lt_of_le xA hzwt2
              have yBwt2 := Nat.lt_of_lt_of_le xB hzwt2
              have yCwt2 := Nat.lt_of_lt_of_le xC hzwt2
              have ySwt2 := Nat.lt_of_lt_of_le xS hzwt2
              have yPwt2 := Nat.lt_of_lt_of_le xP hzwt2
              have yXwt2 := Nat.lt_of_lt_of_le xX hzwt2
              have yGwt2 : w14.heap.size + 1 < wt2.heap.size := by have := hbwt2.size; first | omega | (simp at this; omega)
              have cG0wt2 : wt2.cell? ⟨w14.heap.size + 1, 0, none⟩ = some (.int .i64 0) := (hbwt2.cell (p := ⟨w14.heap.size + 1, 0, none⟩) (by first | (with_reducible assumption) | (simp; done) | omega | (simp; omega))).trans (by first | assumption | (simp [go_sem]; done) | (simp [go_sem, *]; done))
              have zG0wt2 : wt2.frozen? ⟨w14.heap.size + 1, 0, none⟩ = false := (hbwt2.frozen (p := ⟨w14.heap.size + 1, 0, none⟩) (by first | (with_reducible assumption) | (simp; done) | omega | (simp; omega))).trans (by first | assumption | (simp [go_sem]; done) | (simp [go_sem, *]; done))
              have cG1wt2 : wt2.cell? ⟨w14.heap.size + 1, 1, none⟩ = some (.int .i64 0) := (hbwt2.cell (p := ⟨w14.heap.size + 1, 1, none⟩) (by first | (with_reducible assumption) | (simp; done) | omega | (simp; omega))).trans (by first | assumption | (simp [go_sem]; done) | (simp [go_sem, *]; done))
              have zG1wt2 : wt2.frozen? ⟨w14.heap.size + 1, 1, none⟩ = false := (hbwt2.frozen (p := ⟨w14.heap.size + 1, 1, none⟩) (by first | (with_reducible assumption) | (simp; done) | omega | (simp; omega))).trans (by first | assumption | (simp [go_sem]; done) | (simp [go_sem, *]; done))
              rw [hy.out]
              dsimp only
              refine hK.out _ _ ?_ (fun hHeld => ?_)
              · (refine ⟨?_, ?_, ?_, ?_, ?_, ?_, ?_, ?_, ?_, ?_, ?_, ?_, ?_, ?_, ?_, ?_⟩ <;> first | assumption | ((repeat' (first | (with_reducible exact Below.refl _ _) | (with_reducible assumption) | (with_reducible refine drewN_below ?_ _) | (with_reducible refine Below.drew ?_) | (with_reducible refine Below.alloc ?_ ?_ _) | (with_reducible refine Below.setCell ?_ ?_ _) | (simp; done) | omega | (simp; omega))); done) | (simp [*]; done) | (simp [go_sem, *]; done) | (simp; omega))
              clear hK K
              (try simp only [Act.put, List.getElem_toArray, List.getElem_cons_succ, List.getElem_cons_zero, List.setIfInBounds_toArray, List.set_cons_zero, List.set_cons_succ])
              refine wpAnyH_ready (rs := [6]) (by kernel_rfl) (by simp) ?_
              refine AllReadyH.cons rfl (fun K hK => ?_) ?_
              · skip
                rw [if_pos (by rfl)]
                go_simp
                refine hK.out _ _ ?_ (fun hHeld => ?_)
                · (refine ⟨?_, ?_, ?_, ?_, ?_, ?_, ?_, ?_, ?_, ?_, ?_, ?_, ?_, ?_, ?_, ?_⟩ <;> first | assumption | ((repeat' (first | (with_reducible exact Below.refl _ _) | (with_reducible assumption) | (with_reducible refine drewN_below ?_ _) | (with_reducible refine Below.drew ?_) | (with_reducible refine Below.alloc ?_ ?_ _) | (with_reducible refine Below.setCell ?_ ?_ _) | (simp; done) | omega | (simp; omega))); done) | (simp [*]; done) | (simp [go_sem, *]; done) | (simp; omega))
                clear hK K
                (try simp only [Act.put, List.getElem_toArray, List.getElem_cons_succ, List.getElem_cons_zero, List.setIfInBounds_toArray, List.set_cons_zero, List.set_cons_succ])
                refine wpAnyH_done (by kernel_rfl) ?_ _
                go_wp2_with fail
                obtain ⟨cA0t, cA1t, cB0t, cB1t, cC0t, cC1t, cS0t, cS1t, cP0t, cP1t, cX0t, cX1t, zX0t, zX1t, szt, blt⟩ := (by assumption : wt2.cell? ⟨w.heap.size, 0, none⟩ = some (.int .i64 an) ∧ wt2.cell? ⟨w.heap.size, 1, none⟩ = some (.int .i64 ad) ∧ wt2.cell? ⟨w.heap.size + 1, 0, none⟩ = some (.int .i64 bn) ∧ wt2.cell? ⟨w.heap.size + 1, 1, none⟩ = some (.int .i64 bd) ∧ wt2.cell? ⟨w.heap.size + 2, 0, none⟩ = some (.int .i64 cn) ∧ wt2.cell? ⟨w.heap.size + 2, 1, none⟩ = some (.int .i64 cd) ∧ wt2.cell? ⟨w1.heap.size, 0, none⟩ = some (.int .i64 sx) ∧ wt2.cell? ⟨w1.heap.size, 1, none⟩ = some (.int .i64 sy) ∧ wt2.cell? ⟨w2.heap.size, 0, none⟩ = some (.int .i64 px) ∧ wt2.cell? ⟨w2.heap.size, 1, none⟩ = some (.int .i64 py) ∧ wt2.cell? ⟨w14.heap.size, 0, none⟩ = some (.int .i64 xx) ∧ wt2.cell? ⟨w14.heap.size, 1, none⟩ = some (.int .i64 xy) ∧ wt2.frozen? ⟨w14.heap.size, 0, none⟩ = false ∧ wt2.frozen? ⟨w14.heap.size, 1, none⟩ = false ∧ w14.heap.size + 1 ≤ wt2.heap.size ∧ Below w14.heap.size w14 wt2)
                have hcw : Below w.heap.size w wt2 := Below.trans hBw14 (blt.mono hBw14.size)
                have hcz := hcw.size
                have lA : w.heap.size < w14.heap.size + 1 := by omega
                have mA : w.heap.size < wt2.heap.size := by omega
                have lB : w.heap.size + 1 < w14.heap.size + 1 := by omega
                have mB : w.heap.size + 1 < wt2.heap.size := by omega
                have lC : w.heap.size + 2 < w14.heap.size + 1 := by omega
                have mC : w.heap.size + 2 < wt2.heap.size := by omega
                have lS : w1.heap.size < w14.heap.size + 1 := by omega
                have mS : w1.heap.size < wt2.heap.size := by omega
                have lP : w2.heap.size < w14.heap.size + 1 := by omega
                have mP : w2.heap.size < wt2.heap.size := by omega
                have lX : w14.heap.size < w14.heap.size + 1 := by omega
                have mX : w14.heap.size < wt2.heap.size := by omega
                go_meet
                refine ⟨_, rfl, ?_, ?_, ?_, ?_, ?_, ?_, ?_, ?_, ?_, ?_, ?_, ?_, ?_, ?_, ?_, ?_, ?_, ?_, ?_, ?_, ?_, ?_, ?_, ?_, ?_, ?_, ?_, ?_, ?_, ?_, ?_, ?_, ?_, ?_, ?_, ?_, ?_, ?_, ?_⟩
                · exact Eq.trans (Below.cell (B := w14.heap.size + 1) (p := ⟨w.heap.size, 0, none⟩) (by repeat' (first | (with_reducible exact Below.refl _ _) | (with_reducible assumption) | (with_reducible refine drewN_below ?_ _) | (with_reducible refine Below.drew ?_) | (with_reducible refine Below.alloc ?_ ?_ _) | (with_reducible refine Below.setCell ?_ ?_ _) | (simp; done) | omega | (simp; omega))) lA) cA0t
                · exact Eq.trans (Below.cell (B := w14.heap.size + 1) (p := ⟨w.heap.size, 1, none⟩) (by repeat' (first | (with_reducible exact Below.refl _ _) | (with_reducible assumption) | (with_reducible refine drewN_below ?_ _) | (with_reducible refine Below.drew ?_) | (with_reducible refine Below.alloc ?_ ?_ _) | (with_reducible refine Below.setCell ?_ ?_ _) | (simp; done) | omega | (simp; omega))) lA) cA1t
                · first | assumption | omega | (simp; done) | (simp; omega)
                · exact Eq.trans (Below.cell (B := w14.heap.size + 1) (p := ⟨w.heap.size + 1, 0, none⟩) (by repeat' (first | (with_reducible exact Below.refl _ _) | (with_reducible assumption) | (with_reducible refine drewN_below ?_ _) | (with_reducible refine Below.drew ?_) | (with_reducible refine Below.alloc ?_ ?_ _) | (with_reducible refine Below.setCell ?_ ?_ _) | (simp; done) | omega | (simp; omega))) lB) cB0t
                · exact Eq.trans (Below.cell (B := w14.heap.size + 1) (p := ⟨w.heap.size + 1, 1, none⟩) (by repeat' (first | (with_reducible exact Below.refl _ _) | (with_reducible assumption) | (with_reducible refine drewN_below ?_ _) | (with_reducible refine Below.drew ?_) | (with_reducible refine Below.alloc ?_ ?_ _) | (with_reducible refine Below.setCell ?_ ?_ _) | (simp; done) | omega | (simp; omega))) lB) cB1t
                · first | assumption | omega | (simp; done) | (simp; omega)
                · exact Eq.trans (Below.cell (B := w14.heap.size + 1) (p := ⟨w.heap.size + 2, 0, none⟩) (by repeat' (first | (with_reducible exact Below.refl _ _) | (with_reducible assumption) | (with_reducible refine drewN_below ?_ _) | (with_reducible refine Below.drew ?_) | (with_reducible refine Below.alloc ?_ ?_ _) | (with_reducible refine Below.setCell ?_ ?_ _) | (simp; done) | omega | (simp; omega))) lC) cC0t
                · exact Eq.trans (Below.cell (B := w14.heap.size + 1) (p := ⟨w.heap.size + 2, 1, none⟩) (by repeat' (first | (with_reducible exact Below.refl _ _) | (with_reducible assumption) | (with_reducible refine drewN_below ?_ _) | (with_reducible refine Below.drew ?_) | (with_reducible refine Below.alloc ?_ ?_ _) | (with_reducible refine Below.setCell ?_ ?_ _) | (simp; done) | omega | (simp; omega))) lC) cC1t
                · first | assumption | omega | (simp; done) | (simp; omega)
                · exact Eq.trans (Below.cell (B := w14.heap.size + 1) (p := ⟨w1.heap.size, 0, none⟩) (by repeat' (first | (with_reducible exact Below.refl _ _) | (with_reducible assumption) | (with_reducible refine drewN_below ?_ _) | (with_reducible refine Below.drew ?_) | (with_reducible refine Below.alloc ?_ ?_ _) | (with_reducible refine Below.setCell ?_ ?_ _) | (simp; done) | omega | (simp; omega))) lS) cS0t
                · exact Eq.trans (Below.cell (B := w14.heap.size + 1) (p := ⟨w1.heap.size, 1, none⟩) (by repeat' (first | (with_reducible exact Below.refl _ _) | (with_reducible assumption) | (with_reducible refine drewN_below ?_ _) | (with_reducible refine Below.drew ?_) | (with_reducible refine Below.alloc ?_ ?_ _) | (with_reducible refine Below.setCell ?_ ?_ _) | (simp; done) | omega | (simp; omega))) lS) cS1t
                · first | assumption | omega | (simp; done) | (simp; omega)
                · exact Eq.trans (Below.cell (B := w14.heap.size + 1) (p := ⟨w2.heap.size, 0, none⟩) (by repeat' (first | (with_reducible exact Below.refl _ _) | (with_reducible assumption) | (with_reducible refine drewN_below ?_ _) | (with_reducible refine Below.drew ?_) | (with_reducible refine Below.alloc ?_ ?_ _) | (with_reducible refine Below.setCell ?_ ?_ _) | (simp; done) | omega | (simp; omega))) lP) cP0t
                · exact Eq.trans (Below.cell (B := w14.heap.size + 1) (p := ⟨w2.heap.size, 1, none⟩) (by repeat' (first | (with_reducible exact Below.refl _ _) | (with_reducible assumption) | (with_reducible refine drewN_below ?_ _) | (with_reducible refine Below.drew ?_) | (with_reducible refine Below.alloc ?_ ?_ _) | (with_reducible refine Below.setCell ?_ ?_ _) | (simp; done) | omega | (simp; omega))) lP) cP1t
                · first | assumption | omega | (simp; done) | (simp; omega)
                · exact Eq.trans (Below.cell (B := w14.heap.size + 1) (p := ⟨w14.heap.size, 0, none⟩) (by repeat' (first | (with_reducible exact Below.refl _ _) | (with_reducible assumption) | (with_reducible refine drewN_below ?_ _) | (with_reducible refine Below.drew ?_) | (with_reducible refine Below.alloc ?_ ?_ _) | (with_reducible refine Below.setCell ?_ ?_ _) | (simp; done) | omega | (simp; omega))) lX) cX0t
                · exact Eq.trans (Below.cell (B := w14.heap.size + 1) (p := ⟨w14.heap.size, 1, none⟩) (by repeat' (first | (with_reducible exact Below.refl _ _) | (with_reducible assumption) | (with_reducible refine drewN_below ?_ _) | (with_reducible refine Below.drew ?_) | (with_reducible refine Below.alloc ?_ ?_ _) | (with_reducible refine Below.setCell ?_ ?_ _) | (simp; done) | omega | (simp; omega))) lX) cX1t
                · first | assumption | omega | (simp; done) | (simp; omega)
                · exact Eq.trans (Below.frozen (B := w14.heap.size + 1) (p := ⟨w14.heap.size, 0, none⟩) (by repeat' (first | (with_reducible exact Below.refl _ _) | (with_reducible assumption) | (with_reducible refine drewN_below ?_ _) | (with_reducible refine Below.drew ?_) | (with_reducible refine Below.alloc ?_ ?_ _) | (with_reducible refine Below.setCell ?_ ?_ _) | (simp; done) | omega | (simp; omega))) lX) zX0t
                · exact Eq.trans (Below.frozen (B := w14.heap.size + 1) (p := ⟨w14.heap.size, 1, none⟩) (by repeat' (first | (with_reducible exact Below.refl _ _) | (with_reducible assumption) | (with_reducible refine drewN_below ?_ _) | (with_reducible refine Below.drew ?_) | (with_reducible refine Below.alloc ?_ ?_ _) | (with_reducible refine Below.setCell ?_ ?_ _) | (simp; done) | omega | (simp; omega))) lX) zX1t
                · first | (simp [go_sem]; done) | (simp [go_sem, *]; done)
                · first | (simp [go_sem]; done) | (simp [go_sem, *]; done)
                · first | assumption | omega | (simp; done) | (simp; omega)
                · first | (simp [go_sem]; done) | (simp [go_sem, *]; done)
                · first | (simp [go_sem]; done) | (simp [go_sem, *]; done)
                · omega
                · omega
                · omega
                · omega
                · omega
                · omega
                · omega
                · omega
                · omega
                · omega
                · omega
                · omega
                · omega
                · repeat' (first | (with_reducible exact Below.refl _ _) | (with_reducible assumption) | (with_reducible refine drewN_below ?_ _) | (with_reducible refine Below.drew ?_) | (with_reducible refine Below.alloc ?_ ?_ _) | (with_reducible refine Below.setCell ?_ ?_ _) | (simp; done) | omega | (simp; omega))
              exact AllReadyH.nil
            exact AllReadyH.nil
          exact AllReadyH.nil
        exact AllReadyH.nil
      case rest =>
        obtain ⟨g, rfl, cA0w15, cA1w15, bAw15, cB0w15, cB1w15, bBw15, cC0w15, cC1w15, bCw15, cS0w15, cS1w15, bSw15, cP0w15, cP1w15, bPw15, cX0w15, cX1w15, bXw15, zX0w15, zX1w15, cY0w15, cY1w15, bYw15, zY0w15, zY1w15, oAY, pAY, oBY, pBY, oCY, pCY, oSY, pSY, oPY, pPY, oXY, pXY, lowY, hBw15⟩ := hcut
        have dAw15 : w.heap.size < wc.heap.size + 1 := Nat.lt_succ_of_lt bAw15
        have dBw15 : w.heap.size + 1 < wc.heap.size + 1 := Nat.lt_succ_of_lt bBw15
        have dCw15 : w.heap.size + 2 < wc.heap.size + 1 := Nat.lt_succ_of_lt bCw15
        have dSw15 : w1.heap.size < wc.heap.size + 1 := Nat.lt_succ_of_lt bSw15
        have dPw15 : w2.heap.size < wc.heap.size + 1 := Nat.lt_succ_of_lt bPw15
        have dXw15 : w14.heap.size < wc.heap.size + 1 := Nat.lt_succ_of_lt bXw15
        have dYw15 : g < wc.heap.size + 1 := Nat.lt_succ_of_lt bYw15
        have zw15 : w.heap.size ≤ wc.heap.size := hBw15.size
        obtain ⟨w15, ew15⟩ : ∃ x, x = wc := ⟨_, rfl⟩
        subst ew15
        clear zw14 hBw14 dPw14 bPw14 cP1w14 cP0w14 dSw14 bSw14 cS1w14 cS0w14 dCw14 bCw14 cC1w14 cC0w14 dBw14 bBw14 cB1w14 cB0w14 dAw14 bAw14 cA1w14 cA0w14
        go_upto_region 9 with fail
        go_cut [74] (fun s74 wx => s74 = .bool false ∧ wx.cell? ⟨w.heap.size, 0, none⟩ = some (.int .i64 an) ∧ wx.cell? ⟨w.heap.size, 1, none⟩ = some (.int .i64 ad) ∧ w.heap.size < wx.heap.size ∧ wx.cell? ⟨w.heap.size + 1, 0, none⟩ = some (.int .i64 bn) ∧ wx.cell? ⟨w.heap.size + 1, 1, none⟩ = some (.int .i64 bd) ∧ w.heap.size + 1 < wx.heap.size ∧ wx.cell? ⟨w.heap.size + 2, 0, none⟩ = some (.int .i64 cn) ∧ wx.cell? ⟨w.heap.size + 2, 1, none⟩ = some (.int .i64 cd) ∧ w.heap.size + 2 < wx.heap.size ∧ wx.cell? ⟨w1.heap.size, 0, none⟩ = some (.int .i64 sx) ∧ wx.cell? ⟨w1.heap.size, 1, none⟩ = some (.int .i64 sy) ∧ w1.heap.size < wx.heap.size ∧ wx.cell? ⟨w2.heap.size, 0, none⟩ = some (.int .i64 px) ∧ wx.cell? ⟨w2.heap.size, 1, none⟩ = some (.int .i64 py) ∧ w2.heap.size < wx.heap.size ∧ wx.cell? ⟨w14.heap.size, 0, none⟩ = some (.int .i64 xx) ∧ wx.cell? ⟨w14.heap.size, 1, none⟩ = some (.int .i64 xy) ∧ w14.heap.size < wx.heap.size ∧ wx.frozen? ⟨w14.heap.size, 0, none⟩ = false ∧ wx.frozen? ⟨w14.heap.size, 1, none⟩ = false ∧ wx.cell? ⟨g, 0, none⟩ = some (.int .i64 yx) ∧ wx.cell? ⟨g, 1, none⟩ = some (.int .i64 yy) ∧ g < wx.heap.size ∧ wx.frozen? ⟨g, 0, none⟩ = false ∧ wx.frozen? ⟨g, 1, none⟩ = false ∧ Below w.heap.size w wx)
        case first =>
          cases hq : (Q.isq xx xy && Q.isq yx yy)
          · skip
            go_wp2_with fail
            refine (numbers2 xx xy yx yy _ _ (by simp [go_sem, *]) (by simp [go_sem, *]) (by simp [go_sem, *]) (by simp [go_sem, *]) (by simp)).mono ?_
            rintro e w16 ⟨rfl, hw16⟩
            have hmw16 : Below w15.heap.size w15 w16 := on_below hw16 (by repeat' (first | (with_reducible exact Below.refl _ _) | (with_reducible assumption) | (with_reducible refine drewN_below ?_ _) | (with_reducible refine Below.drew ?_) | (with_reducible refine Below.alloc ?_ ?_ _) | (with_reducible refine Below.setCell ?_ ?_ _) | (simp; done) | omega | (simp; omega))) (by first | (with_reducible assumption) | (simp; done) | omega | (simp; omega))
            have cA0w16 := (hmw16.cell (p := ⟨w.heap.size, 0, none⟩) bAw15).trans cA0w15
            have cA1w16 := (hmw16.cell (p := ⟨w.heap.size, 1, none⟩) bAw15).trans cA1w15
            have bAw16 : w.heap.size < w16.heap.size := Nat.lt_of_lt_of_le bAw15 hmw16.size
            have dAw16 : w.heap.size < w16.heap.size + 1 := Nat.lt_succ_of_lt bAw16
            have cB0w16 := (hmw16.cell (p := ⟨w.heap.size + 1, 0, none⟩) bBw15).trans cB0w15
            have cB1w16 := (hmw16.cell (p := ⟨w.heap.size + 1, 1, none⟩) bBw15).trans cB1w15
            have bBw16 : w.heap.size + 1 < w16.heap.size := Nat.lt_of_lt_of_le bBw15 hmw16.size
            have dBw16 : w.heap.size + 1 < w16.heap.size + 1 := Nat.lt_succ_of_lt bBw16
            have cC0w16 := (hmw16.cell (p := ⟨w.heap.size + 2, 0, none⟩) bCw15).trans cC0w15
            have cC1w16 := (hmw16.cell (p := ⟨w.heap.size + 2, 1, none⟩) bCw15).trans cC1w15
            have bCw16 : w.heap.size + 2 < w16.heap.size := Nat.lt_of_lt_of_le bCw15 hmw16.size
            have dCw16 : w.heap.size + 2 < w16.heap.size + 1 := Nat.lt_succ_of_lt bCw16
            have cS0w16 := (hmw16.cell (p := ⟨w1.heap.size, 0, none⟩) bSw15).trans cS0w15
            have cS1w16 := (hmw16.cell (p := ⟨w1.heap.size, 1, none⟩) bSw15).trans cS1w15
            have bSw16 : w1.heap.size < w16.heap.size := Nat.lt_of_lt_of_le bSw15 hmw16.size
            have dSw16 : w1.heap.size < w16.heap.size + 1 := Nat.lt_succ_of_lt bSw16
            have cP0w16 := (hmw16.cell (p := ⟨w2.heap.size, 0, none⟩) bPw15).trans cP0w15
            have cP1w16 := (hmw16.cell (p := ⟨w2.heap.size, 1, none⟩) bPw15).trans cP1w15
            have bPw16 : w2.heap.size < w16.heap.size := Nat.lt_of_lt_of_le bPw15 hmw16.size
            have dPw16 : w2.heap.size < w16.heap.size + 1 := Nat.lt_succ_of_lt bPw16
            have cX0w16 := (hmw16.cell (p := ⟨w14.heap.size, 0, none⟩) bXw15).trans cX0w15
            have cX1w16 := (hmw16.cell (p := ⟨w14.heap.size, 1, none⟩) bXw15).trans cX1w15
            have zX0w16 := (hmw16.frozen (p := ⟨w14.heap.size, 0, none⟩) bXw15).trans zX0w15
            have zX1w16 := (hmw16.frozen (p := ⟨w14.heap.size, 1, none⟩) bXw15).trans zX1w15
            have bXw16 : w14.heap.size < w16.heap.size := Nat.lt_of_lt_of_le bXw15 hmw16.size
            have dXw16 : w14.heap.size < w16.heap.size + 1 := Nat.lt_succ_of_lt bXw16
            have cY0w16 := (hmw16.cell (p := ⟨g, 0, none⟩) bYw15).trans cY0w15
            have cY1w16 := (hmw16.cell (p := ⟨g, 1, none⟩) bYw15).trans cY1w15
            have zY0w16 := (hmw16.frozen (p := ⟨g, 0, none⟩) bYw15).trans zY0w15
            have zY1w16 := (hmw16.frozen (p := ⟨g, 1, none⟩) bYw15).trans zY1w15
            have bYw16 : g < w16.heap.size := Nat.lt_of_lt_of_le bYw15 hmw16.size
            have dYw16 : g < w16.heap.size + 1 := Nat.lt_succ_of_lt bYw16
            have hBw16 : Below w.heap.size w w16 := Below.trans hBw15 (hmw16.mono hBw15.size)
            have zw16 : w.heap.size ≤ w16.heap.size := hBw16.size
            clear hmw16 hw16 zw15 dYw15 dXw15 dPw15 dSw15 dCw15 dBw15 dAw15 hBw15 zY1w15 zY0w15 bYw15 cY1w15 cY0w15 zX1w15 zX0w15 bXw15 cX1w15 cX0w15 bPw15 cP1w15 cP0w15 bSw15 cS1w15 cS0w15 bCw15 cC1w15 cC0w15 bBw15 cB1w15 cB0w15 bAw15 cA1w15 cA0w15
            rw [hq]
            go_wp2_with fail
            go_meet
            (refine ⟨rfl, ?_, ?_, ?_, ?_, ?_, ?_, ?_, ?_, ?_, ?_, ?_, ?_, ?_, ?_, ?_, ?_, ?_, ?_, ?_, ?_, ?_, ?_, ?_, ?_, ?_, ?_⟩ <;> first | assumption | (simp [go_sem, *]; done) | omega | (simp; omega) | (repeat' (first | (with_reducible exact Below.refl _ _) | (with_reducible assumption) | (with_reducible refine drewN_below ?_ _) | (with_reducible refine Below.drew ?_) | (with_reducible refine Below.alloc ?_ ?_ _) | (with_reducible refine Below.setCell ?_ ?_ _) | (simp; done) | omega | (simp; omega))))
          · skip
            have hE := L2.out hq
            simp only [Prod.mk.injEq] at hE
            obtain ⟨E1, E2⟩ := hE
            subst E1 E2
            go_wp2_with fail
            refine (numbers2 xx xy xx xy _ _ (by simp [go_sem, *]) (by simp [go_sem, *]) (by simp [go_sem, *]) (by simp [go_sem, *]) (by simp)).mono ?_
            rintro e w17 ⟨rfl, hw17⟩
            have hmw17 : Below w15.heap.size w15 w17 := on_below hw17 (by repeat' (first | (with_reducible exact Below.refl _ _) | (with_reducible assumption) | (with_reducible refine drewN_below ?_ _) | (with_reducible refine Below.drew ?_) | (with_reducible refine Below.alloc ?_ ?_ _) | (with_reducible refine Below.setCell ?_ ?_ _) | (simp; done) | omega | (simp; omega))) (by first | (with_reducible assumption) | (simp; done) | omega | (simp; omega))
            have cA0w17 := (hmw17.cell (p := ⟨w.heap.size, 0, none⟩) bAw15).trans cA0w15
            have cA1w17 := (hmw17.cell (p := ⟨w.heap.size, 1, none⟩) bAw15).trans cA1w15
            have bAw17 : w.heap.size < w17.heap.size := Nat.lt_of_lt_of_le bAw15 hmw17.size
            have dAw17 : w.heap.size < w17.heap.size + 1 := Nat.lt_succ_of_lt bAw17
            have cB0w17 := (hmw17.cell (p := ⟨w.heap.size + 1, 0, none⟩) bBw15).trans cB0w15
            have cB1w17 := (hmw17.cell (p := ⟨w.heap.size + 1, 1, none⟩) bBw15).trans cB1w15
            have bBw17 : w.heap.size + 1 < w17.heap.size := Nat.lt_of_lt_of_le bBw15 hmw17.size
            have dBw17 : w.heap.size + 1 < w17.heap.size + 1 := Nat.lt_succ_of_lt bBw17
            have cC0w17 := (hmw17.cell (p := ⟨w.heap.size + 2, 0, none⟩) bCw15).trans cC0w15
            have cC1w17 := (hmw17.cell (p := ⟨w.heap.size + 2, 1, none⟩) bCw15).trans cC1w15
            have bCw17 : w.heap.size + 2 < w17.heap.size := Nat.lt_of_lt_of_le bCw15 hmw17.size
            have dCw17 : w.heap.size + 2 < w17.heap.size + 1 := Nat.lt_succ_of_lt bCw17
            have cS0w17 := (hmw17.cell (p := ⟨w1.heap.size, 0, none⟩) bSw15).trans cS0w15
            have cS1w17 := (hmw17.cell (p := ⟨w1.heap.size, 1, none⟩) bSw15).trans cS1w15
            have bSw17 : w1.heap.size < w17.heap.size := Nat.lt_of_lt_of_le bSw15 hmw17.size
            have dSw17 : w1.heap.size < w17.heap.size + 1 := Nat.lt_succ_of_lt bSw17
            have cP0w17 := (hmw17.cell (p := ⟨w2.heap.size, 0, none⟩) bPw15).trans cP0w15
            have cP1w17 := (hmw17.cell (p := ⟨w2.heap.size, 1, none⟩) bPw15).trans cP1w15
            have bPw17 : w2.heap.size < w17.heap.size := Nat.lt_of_lt_of_le bPw15 hmw17.size
            have dPw17 : w2.heap.size < w17.heap.size + 1 := Nat.lt_succ_of_lt bPw17
            have cX0w17 := (hmw17.cell (p := ⟨w14.heap.size, 0, none⟩) bXw15).trans cX0w15
            have cX1w17 := (hmw17.cell (p := ⟨w14.heap.size, 1, none⟩) bXw15).trans cX1w15
            have zX0w17 := (hmw17.frozen (p := ⟨w14.heap.size, 0, none⟩) bXw15).trans zX0w15
            have zX1w17 := (hmw17.frozen (p := ⟨w14.heap.size, 1, none⟩) bXw15).trans zX1w15
            have bXw17 : w14.heap.size < w17.heap.size := Nat.lt_of_lt_of_le bXw15 hmw17.size
            have dXw17 : w14.heap.size < w17.heap.size + 1 := Nat.lt_succ_of_lt bXw17
            have cY0w17 := (hmw17.cell (p := ⟨g, 0, none⟩) bYw15).trans cY0w15
            have cY1w17 := (hmw17.cell (p := ⟨g, 1, none⟩) bYw15).trans cY1w15
            have zY0w17 := (hmw17.frozen (p := ⟨g, 0, none⟩) bYw15).trans zY0w15
            have zY1w17 := (hmw17.frozen (p := ⟨g, 1, none⟩) bYw15).trans zY1w15
            have bYw17 : g < w17.heap.size := Nat.lt_of_lt_of_le bYw15 hmw17.size
            have dYw17 : g < w17.heap.size + 1 := Nat.lt_succ_of_lt bYw17
            have hBw17 : Below w.heap.size w w17 := Below.trans hBw15 (hmw17.mono hBw15.size)
            have zw17 : w.heap.size ≤ w17.heap.size := hBw17.size
            clear hmw17 hw17 zw15 dYw15 dXw15 dPw15 dSw15 dCw15 dBw15 dAw15 hBw15 zY1w15 zY0w15 bYw15 cY1w15 cY0w15 zX1w15 zX0w15 bXw15 cX1w15 cX0w15 bPw15 cP1w15 cP0w15 bSw15 cS1w15 cS0w15 bCw15 cC1w15 cC0w15 bBw15 cB1w15 cB0w15 bAw15 cA1w15 cA0w15
            rw [hq]
            go_wp2_with fail
            go_meet
            (refine ⟨rfl, ?_, ?_, ?_, ?_, ?_, ?_, ?_, ?_, ?_, ?_, ?_, ?_, ?_, ?_, ?_, ?_, ?_, ?_, ?_, ?_, ?_, ?_, ?_, ?_, ?_, ?_⟩ <;> first | assumption | (simp [go_sem, *]; done) | omega | (simp; omega) | (repeat' (first | (with_reducible exact Below.refl _ _) | (with_reducible assumption) | (with_reducible refine drewN_below ?_ _) | (with_reducible refine Below.drew ?_) | (with_reducible refine Below.alloc ?_ ?_ _) | (with_reducible refine Below.setCell ?_ ?_ _) | (simp; done) | omega | (simp; omega))))
        case rest =>
          obtain ⟨rfl, cA0w18, cA1w18, bAw18, cB0w18, cB1w18, bBw18, cC0w18, cC1w18, bCw18, cS0w18, cS1w18, bSw18, cP0w18, cP1w18, bPw18, cX0w18, cX1w18, bXw18, zX0w18, zX1w18, cY0w18, cY1w18, bYw18, zY0w18, zY1w18, hBw18⟩ := hcut
          have dAw18 : w.heap.size < wc.heap.size + 1 := Nat.lt_succ_of_lt bAw18
          have dBw18 : w.heap.size + 1 < wc.heap.size + 1 := Nat.lt_succ_of_lt bBw18
          have dCw18 : w.heap.size + 2 < wc.heap.size + 1 := Nat.lt_succ_of_lt bCw18
          have dSw18 : w1.heap.size < wc.heap.size + 1 := Nat.lt_succ_of_lt bSw18
          have dPw18 : w2.heap.size < wc.heap.size + 1 := Nat.lt_succ_of_lt bPw18
          have dXw18 : w14.heap.size < wc.heap.size + 1 := Nat.lt_succ_of_lt bXw18
          have dYw18 : g < wc.heap.size + 1 := Nat.lt_succ_of_lt bYw18
          have zw18 : w.heap.size ≤ wc.heap.size := hBw18.size
          obtain ⟨w18, ew18⟩ : ∃ x, x = wc := ⟨_, rfl⟩
          subst ew18
          clear zw15 dYw15 dXw15 dPw15 dSw15 dCw15 dBw15 dAw15 hBw15 zY1w15 zY0w15 bYw15 cY1w15 cY0w15 zX1w15 zX0w15 bXw15 cX1w15 cX0w15 bPw15 cP1w15 cP0w15 bSw15 cS1w15 cS0w15 bCw15 cC1w15 cC0w15 bBw15 cB1w15 cB0w15 bAw15 cA1w15 cA0w15
          go_upto_region 11 with fail
          go_cut [] (fun  wx => wx.cell? ⟨w.heap.size, 0, none⟩ = some (.int .i64 an) ∧ wx.cell? ⟨w.heap.size, 1, none⟩ = some (.int .i64 ad) ∧ w.heap.size < wx.heap.size ∧ wx.cell? ⟨w.heap.size + 1, 0, none⟩ = some (.int .i64 bn) ∧ wx.cell? ⟨w.heap.size + 1, 1, none⟩ = some (.int .i64 bd) ∧ w.heap.size + 1 < wx.heap.size ∧ wx.cell? ⟨w.heap.size + 2, 0, none⟩ = some (.int .i64 cn) ∧ wx.cell? ⟨w.heap.size + 2, 1, none⟩ = some (.int .i64 cd) ∧ w.heap.size + 2 < wx.heap.size ∧ wx.cell? ⟨w1.heap.size, 0, none⟩ = some (.int .i64 sx) ∧ wx.cell? ⟨w1.heap.size, 1, none⟩ = some (.int .i64 sy) ∧ w1.heap.size < wx.heap.size ∧ wx.cell? ⟨w2.heap.size, 0, none⟩ = some (.int .i64 px) ∧ wx.cell? ⟨w2.heap.size, 1, none⟩ = some (.int .i64 py) ∧ w2.heap.size < wx.heap.size ∧ wx.cell? ⟨w14.heap.size, 0, none⟩ = some (.int .i64 ux) ∧ wx.cell? ⟨w14.heap.size, 1, none⟩ = some (.int .i64 uy) ∧ w14.heap.size < wx.heap.size ∧ wx.frozen? ⟨w14.heap.size, 0, none⟩ = false ∧ wx.frozen? ⟨w14.heap.size, 1, none⟩ = false ∧ wx.cell? ⟨g, 0, none⟩ = some (.int .i64 yx) ∧ wx.cell? ⟨g, 1, none⟩ = some (.int .i64 yy) ∧ g < wx.heap.size ∧ wx.frozen? ⟨g, 0, none⟩ = false ∧ wx.frozen? ⟨g, 1, none⟩ = false ∧ Below w.heap.size w wx)
          case first =>
            have xA : w.heap.size < w18.heap.size := by omega
            have xB : w.heap.size + 1 < w18.heap.size := by omega
            have xC : w.heap.size + 2 < w18.heap.size := by omega
            have xS : w1.heap.size < w18.heap.size := by omega
            have xP : w2.heap.size < w18.heap.size := by omega
            have xX : w14.heap.size < w18.heap.size := by omega
            have xY : g < w18.heap.size := by omega
            refine wp_region_held_drew (S := (fun w' => w'.cell? ⟨w.heap.size, 0, none⟩ = some (.int .i64 an) ∧ w'.cell? ⟨w.heap.size, 1, none⟩ = some (.int .i64 ad) ∧ w'.cell? ⟨w.heap.size + 1, 0, none⟩ = some (.int .i64 bn) ∧ w'.cell? ⟨w.heap.size + 1, 1, none⟩ = some (.int .i64 bd) ∧ w'.cell? ⟨w.heap.size + 2, 0, none⟩ = some (.int .i64 cn) ∧ w'.cell? ⟨w.heap.size + 2, 1, none⟩ = some (.int .i64 cd) ∧ w'.cell? ⟨w1.heap.size, 0, none⟩ = some (.int .i64 sx) ∧ w'.cell? ⟨w1.heap.size, 1, none⟩ = some (.int .i64 sy) ∧ w'.cell? ⟨w2.heap.size, 0, none⟩ = some (.int .i64 px) ∧ w'.cell? ⟨w2.heap.size, 1, none⟩ = some (.int .i64 py) ∧ w'.cell? ⟨g, 0, none⟩ = some (.int .i64 yx) ∧ w'.cell? ⟨g, 1, none⟩ = some (.int .i64 yy) ∧ w'.frozen? ⟨g, 0, none⟩ = false ∧ w'.frozen? ⟨g, 1, none⟩ = false ∧ (w'.cell? ⟨w14.heap.size, 0, none⟩).isSome = true ∧ (w'.cell? ⟨w14.heap.size, 1, none⟩).isSome = true ∧ w'.frozen? ⟨w14.heap.size, 0, none⟩ = false ∧ w'.frozen? ⟨w14.heap.size, 1, none⟩ = false ∧ w18.heap.size ≤ w'.heap.size ∧ Below w.heap.size w w')) (by kernel_rfl) ?_ ?_
            · (refine ⟨?_, ?_, ?_, ?_, ?_, ?_, ?_, ?_, ?_, ?_, ?_, ?_, ?_, ?_, ?_, ?_, ?_, ?_, ?_, ?_⟩ <;> first | assumption | ((repeat' (first | (with_reducible exact Below.refl _ _) | (with_reducible assumption) | (with_reducible refine drewN_below ?_ _) | (with_reducible refine Below.drew ?_) | (with_reducible refine Below.alloc ?_ ?_ _) | (with_reducible refine Below.setCell ?_ ?_ _) | (simp; done) | omega | (simp; omega))); done) | (simp [*]; done) | (simp [go_sem, *]; done) | (simp; omega))
            intro hH0
            refine wpAnyH_take (i := 0) (v := ?_) rfl (by kernel_rfl) (by kernel_rfl) (by kernel_rfl) (fun _ _ _ h => h) (Or.inl ⟨by rfl, ?_⟩) (by assumption) ?_
            rotate_left
            focus (intro wq hSq; (try dsimp only at hSq); go_simp; first | done | (with_reducible rfl))
            (try simp only [Act.put, List.getElem_toArray, List.getElem_cons_zero, List.setIfInBounds_toArray, List.set_cons_zero, List.set_cons_succ])
            refine wpAnyH_take (i := 1) (v := ?_) rfl (by kernel_rfl) (by kernel_rfl) (by kernel_rfl) (fun _ _ _ h => h) (Or.inl ⟨by rfl, ?_⟩) (by assumption) ?_
            rotate_left
            focus (intro wq hSq; (try dsimp only at hSq); go_simp; first | done | (with_reducible rfl))
            (try simp only [Act.put, List.getElem_toArray, List.getElem_cons_succ, List.getElem_cons_zero, List.setIfInBounds_toArray, List.set_cons_zero, List.set_cons_succ])
            refine wpAnyH_take (i := 3) (v := ?_) rfl (by kernel_rfl) (by kernel_rfl) (by kernel_rfl) (fun _ _ _ h => h) (Or.inl ⟨by rfl, ?_⟩) (by assumption) ?_
            rotate_left
            focus (intro wq hSq; (try dsimp only at hSq); go_simp; first | done | (with_reducible rfl))
            (try simp only [Act.put, List.getElem_toArray, List.getElem_cons_succ, List.getElem_cons_zero, List.setIfInBounds_toArray, List.set_cons_zero, List.set_cons_succ])
            refine wpAnyH_ready (rs := [2]) (by kernel_rfl) (by simp) ?_
            refine AllReadyH.cons rfl (fun K hK => ?_) AllReadyH.nil
            rw [if_pos (by rfl)]
            go_simp
            refine (add_any _ _ _ _ _).mono ?_
            rintro e wr ⟨rfl, hbr⟩
            obtain ⟨hcr, hfr, hzr, hBr⟩ := after (a := w) (B := w.heap.size) (w18.heap.size) hbr (by first | (with_reducible assumption) | (simp; done) | omega | (simp; omega)) (by repeat' (first | (with_reducible exact Below.refl _ _) | (with_reducible assumption) | (with_reducible refine drewN_below ?_ _) | (with_reducible refine Below.drew ?_) | (with_reducible refine Below.alloc ?_ ?_ _) | (with_reducible refine Below.setCell ?_ ?_ _) | (simp; done) | omega | (simp; omega))) (by omega)
            have yA := Nat.lt_of_lt_of_le xA hzr
            have yB := Nat.lt_of_lt_of_le xB hzr
            have yC := Nat.lt_of_lt_of_le xC hzr
            have yS := Nat.lt_of_lt_of_le xS hzr
            have yP := Nat.lt_of_lt_of_le xP hzr
            have yX := Nat.lt_of_lt_of_le xX hzr
            have yY := Nat.lt_of_lt_of_le xY hzr
            rw [hs.out]
            dsimp only
            refine hK.out _ _ ?_ (fun hHeld => ?_)
            · (refine ⟨?_, ?_, ?_, ?_, ?_, ?_, ?_, ?_, ?_, ?_, ?_, ?_, ?_, ?_, ?_, ?_, ?_, ?_, ?_, ?_⟩ <;> first | assumption | ((repeat' (first | (with_reducible exact Below.refl _ _) | (with_reducible assumption) | (with_reducible refine drewN_below ?_ _) | (with_reducible refine Below.drew ?_) | (with_reducible refine Below.alloc ?_ ?_ _) | (with_reducible refine Below.setCell ?_ ?_ _) | (simp; done) | omega | (simp; omega))); done) | (simp [*]; done) | (simp [go_sem, *]; done) | (simp; omega))
            clear hK K
            (try simp only [Act.put, List.getElem_toArray, List.getElem_cons_succ, List.getElem_cons_zero, List.setIfInBounds_toArray, List.set_cons_zero, List.set_cons_succ])
            refine wpAnyH_ready (rs := [4]) (by kernel_rfl) (by simp) ?_
            refine AllReadyH.cons rfl (fun K hK => ?_) AllReadyH.nil
            rw [if_pos (by rfl)]
            go_simp
            refine (mul_any _ _ _ _ _).mono ?_
            rintro e wr ⟨rfl, hbr⟩
            obtain ⟨hcr, hfr, hzr, hBr⟩ := after (a := w) (B := w.heap.size) (w18.heap.size) hbr (by first | (with_reducible assumption) | (simp; done) | omega | (simp; omega)) (by repeat' (first | (with_reducible exact Below.refl _ _) | (with_reducible assumption) | (with_reducible refine drewN_below ?_ _) | (with_reducible refine Below.drew ?_) | (with_reducible refine Below.alloc ?_ ?_ _) | (with_reducible refine Below.setCell ?_ ?_ _) | (simp; done) | omega | (simp; omega))) (by omega)
            have yA := Nat.lt_of_lt_of_le xA hzr
            have yB := Nat.lt_of_lt_of_le xB hzr
            have yC := Nat.lt_of_lt_of_le xC hzr
            have yS := Nat.lt_of_lt_of_le xS hzr
            have yP := Nat.lt_of_lt_of_le xP hzr
            have yX := Nat.lt_of_lt_of_le xX hzr
            have yY := Nat.lt_of_lt_of_le xY hzr
            rw [hu.out]
            dsimp only
            refine hK.out _ _ ?_ (fun hHeld => ?_)
            · (refine ⟨?_, ?_, ?_, ?_, ?_, ?_, ?_, ?_, ?_, ?_, ?_, ?_, ?_, ?_, ?_, ?_, ?_, ?_, ?_, ?_⟩ <;> first | assumption | ((repeat' (first | (with_reducible exact Below.refl _ _) | (with_reducible assumption) | (with_reducible refine drewN_below ?_ _) | (with_reducible refine Below.drew ?_) | (with_reducible refine Below.alloc ?_ ?_ _) | (with_reducible refine Below.setCell ?_ ?_ _) | (simp; done) | omega | (simp; omega))); done) | (simp [*]; done) | (simp [go_sem, *]; done) | (simp; omega))
            clear hK K
            (try simp only [Act.put, List.getElem_toArray, List.getElem_cons_succ, List.getElem_cons_zero, List.setIfInBounds_toArray, List.set_cons_zero, List.set_cons_succ])
            obtain ⟨t0, t1, t2, t3, t4, t5, t6, t7, t8, t9, t10, t11, t12, t13, eX0, eX1, fX0, fX1, t98, t99⟩ := hHeld
            obtain ⟨uX, gX0⟩ := Option.isSome_iff_exists.1 eX0
            obtain ⟨vX, gX1⟩ := Option.isSome_iff_exists.1 eX1
            refine wpAnyH_ready (rs := [5]) (by kernel_rfl) (by simp) ?_
            refine AllReadyH.cons rfl (fun K hK => ?_) AllReadyH.nil
            rw [if_pos (by rfl)]
            go_simp
            refine hK.out _ _ ?_ (fun hHeld => ?_)
            · (refine ⟨?_, ?_, ?_, ?_, ?_, ?_, ?_, ?_, ?_, ?_, ?_, ?_, ?_, ?_, ?_, ?_, ?_, ?_, ?_, ?_⟩ <;> first | assumption | ((repeat' (first | (with_reducible exact Below.refl _ _) | (with_reducible assumption) | (with_reducible refine drewN_below ?_ _) | (with_reducible refine Below.drew ?_) | (with_reducible refine Below.alloc ?_ ?_ _) | (with_reducible refine Below.setCell ?_ ?_ _) | (simp; done) | omega | (simp; omega))); done) | (simp [*]; done) | (simp [go_sem, *]; done) | (simp; omega))
            clear hK K
            (try simp only [Act.put, List.getElem_toArray, List.getElem_cons_succ, List.getElem_cons_zero, List.setIfInBounds_toArray, List.set_cons_zero, List.set_cons_succ])
            refine wpAnyH_done (by kernel_rfl) ?_ _
            go_wp2_with fail
            have hcw : Below w.heap.size w wr := t99
            have mA : w.heap.size < wr.heap.size := Nat.lt_of_lt_of_le bAw18 t98
            have mB : w.heap.size + 1 < wr.heap.size := Nat.lt_of_lt_of_le bBw18 t98
            have mC : w.heap.size + 2 < wr.heap.size := Nat.lt_of_lt_of_le bCw18 t98
            have mS : w1.heap.size < wr.heap.size := Nat.lt_of_lt_of_le bSw18 t98
            have mP : w2.heap.size < wr.heap.size := Nat.lt_of_lt_of_le bPw18 t98
            have mX : w14.heap.size < wr.heap.size := Nat.lt_of_lt_of_le bXw18 t98
            have mY : g < wr.heap.size := Nat.lt_of_lt_of_le bYw18 t98
            go_meet
            refine ⟨?_, ?_, ?_, ?_, ?_, ?_, ?_, ?_, ?_, ?_, ?_, ?_, ?_, ?_, ?_, ?_, ?_, ?_, ?_, ?_, ?_, ?_, ?_, ?_, ?_, ?_⟩
            · exact Eq.trans (World.cell?_setCell_other _ _ _ _ (by intro hne; first | exact oAX (congrArg Addr.block hne) | exact pAX (congrArg Addr.block hne))) (Eq.trans (World.cell?_setCell_other _ _ _ _ (by intro hne; first | exact oAX (congrArg Addr.block hne) | exact pAX (congrArg Addr.block hne))) t0)
            · exact Eq.trans (World.cell?_setCell_other _ _ _ _ (by intro hne; first | exact oAX (congrArg Addr.block hne) | exact pAX (congrArg Addr.block hne))) (Eq.trans (World.cell?_setCell_other _ _ _ _ (by intro hne; first | exact oAX (congrArg Addr.block hne) | exact pAX (congrArg Addr.block hne))) t1)
            · first | assumption | omega | (simp; done) | (simp; omega)
            · exact Eq.trans (World.cell?_setCell_other _ _ _ _ (by intro hne; first | exact oBX (congrArg Addr.block hne) | exact pBX (congrArg Addr.block hne))) (Eq.trans (World.cell?_setCell_other _ _ _ _ (by intro hne; first | exact oBX (congrArg Addr.block hne) | exact pBX (congrArg Addr.block hne))) t2)
            · exact Eq.trans (World.cell?_setCell_other _ _ _ _ (by intro hne; first | exact oBX (congrArg Addr.block hne) | exact pBX (congrArg Addr.block hne))) (Eq.trans (World.cell?_setCell_other _ _ _ _ (by intro hne; first | exact oBX (congrArg Addr.block hne) | exact pBX (congrArg Addr.block hne))) t3)
            · first | assumption | omega | (simp; done) | (simp; omega)
            · exact Eq.trans (World.cell?_setCell_other _ _ _ _ (by intro hne; first | exact oCX (congrArg Addr.block hne) | exact pCX (congrArg Addr.block hne))) (Eq.trans (World.cell?_setCell_other _ _ _ _ (by intro hne; first | exact oCX (congrArg Addr.block hne) | exact pCX (congrArg Addr.block hne))) t4)
            · exact Eq.trans (World.cell?_setCell_other _ _ _ _ (by intro hne; first | exact oCX (congrArg Addr.block hne) | exact pCX (congrArg Addr.block hne))) (Eq.trans (World.cell?_setCell_other _ _ _ _ (by intro hne; first | exact oCX (congrArg Addr.block hne) | exact pCX (congrArg Addr.block hne))) t5)
            · first | assumption | omega | (simp; done) | (simp; omega)
            · exact Eq.trans (World.cell?_setCell_other _ _ _ _ (by intro hne; first | exact oSX (congrArg Addr.block hne) | exact pSX (congrArg Addr.block hne))) (Eq.trans (World.cell?_setCell_other _ _ _ _ (by intro hne; first | exact oSX (congrArg Addr.block hne) | exact pSX (congrArg Addr.block hne))) t6)
            · exact Eq.trans (World.cell?_setCell_other _ _ _ _ (by intro hne; first | exact oSX (congrArg Addr.block hne) | exact pSX (congrArg Addr.block hne))) (Eq.trans (World.cell?_setCell_other _ _ _ _ (by intro hne; first | exact oSX (congrArg Addr.block hne) | exact pSX (congrArg Addr.block hne))) t7)
            · first | assumption | omega | (simp; done) | (simp; omega)
            · exact Eq.trans (World.cell?_setCell_other _ _ _ _ (by intro hne; first | exact oPX (congrArg Addr.block hne) | exact pPX (congrArg Addr.block hne))) (Eq.trans (World.cell?_setCell_other _ _ _ _ (by intro hne; first | exact oPX (congrArg Addr.block hne) | exact pPX (congrArg Addr.block hne))) t8)
            · exact Eq.trans (World.cell?_setCell_other _ _ _ _ (by intro hne; first | exact oPX (congrArg Addr.block hne) | exact pPX (congrArg Addr.block hne))) (Eq.trans (World.cell?_setCell_other _ _ _ _ (by intro hne; first | exact oPX (congrArg Addr.block hne) | exact pPX (congrArg Addr.block hne))) t9)
            · first | assumption | omega | (simp; done) | (simp; omega)
            · first | (simp [go_sem]; done) | (simp [go_sem, *]; done)
            · first | (simp [go_sem]; done) | (simp [go_sem, *]; done)
            · first | assumption | omega | (simp; done) | (simp; omega)
            · first | (simp [go_sem]; done) | (simp [go_sem, *]; done)
            · first | (simp [go_sem]; done) | (simp [go_sem, *]; done)
            · exact Eq.trans (World.cell?_setCell_other _ _ _ _ (by intro hne; first | exact oXY (congrArg Addr.block hne) | exact pXY (congrArg Addr.block hne))) (Eq.trans (World.cell?_setCell_other _ _ _ _ (by intro hne; first | exact oXY (congrArg Addr.block hne) | exact pXY (congrArg Addr.block hne))) t10)
            · exact Eq.trans (World.cell?_setCell_other _ _ _ _ (by intro hne; first | exact oXY (congrArg Addr.block hne) | exact pXY (congrArg Addr.block hne))) (Eq.trans (World.cell?_setCell_other _ _ _ _ (by intro hne; first | exact oXY (congrArg Addr.block hne) | exact pXY (congrArg Addr.block hne))) t11)
            · first | assumption | omega | (simp; done) | (simp; omega)
            · first | exact t12 | (simp [go_sem, t12]; done)
            · first | exact t13 | (simp [go_sem, t13]; done)
            · repeat' (first | (with_reducible exact Below.refl _ _) | (with_reducible assumption) | (with_reducible refine drewN_below ?_ _) | (with_reducible refine Below.drew ?_) | (with_reducible refine Below.alloc ?_ ?_ _) | (with_reducible refine Below.setCell ?_ ?_ _) | (simp; done) | omega | (simp; omega))
          case rest =>
            obtain ⟨cA0w19, cA1w19, bAw19, cB0w19, cB1w19, bBw19, cC0w19, cC1w19, bCw19, cS0w19, cS1w19, bSw19, cP0w19, cP1w19, bPw19, cX0w19, cX1w19, bXw19, zX0w19, zX1w19, cY0w19, cY1w19, bYw19, zY0w19, zY1w19, hBw19⟩ := hcut
            have dAw19 : w.heap.size < wc.heap.size + 1 := Nat.lt_succ_of_lt bAw19
            have dBw19 : w.heap.size + 1 < wc.heap.size + 1 := Nat.lt_succ_of_lt bBw19
            have dCw19 : w.heap.size + 2 < wc.heap.size + 1 := Nat.lt_succ_of_lt bCw19
            have dSw19 : w1.heap.size < wc.heap.size + 1 := Nat.lt_succ_of_lt bSw19
            have dPw19 : w2.heap.size < wc.heap.size + 1 := Nat.lt_succ_of_lt bPw19
            have dXw19 : w14.heap.size < wc.heap.size + 1 := Nat.lt_succ_of_lt bXw19
            have dYw19 : g < wc.heap.size + 1 := Nat.lt_succ_of_lt bYw19
            have zw19 : w.heap.size ≤ wc.heap.size := hBw19.size
            obtain ⟨w19, ew19⟩ : ∃ x, x = wc := ⟨_, rfl⟩
            subst ew19
            clear zw18 dYw18 dXw18 dPw18 dSw18 dCw18 dBw18 dAw18 hBw18 zY1w18 zY0w18 bYw18 cY1w18 cY0w18 zX1w18 zX0w18 bXw18 cX1w18 cX0w18 bPw18 cP1w18 cP0w18 bSw18 cS1w18 cS0w18 bCw18 cC1w18 cC0w18 bBw18 cB1w18 cB0w18 bAw18 cA1w18 cA0w18
            go_upto_region 12 with fail
            go_cut [] (fun  wx => wx.cell? ⟨w.heap.size, 0, none⟩ = some (.int .i64 an) ∧ wx.cell? ⟨w.heap.size, 1, none⟩ = some (.int .i64 ad) ∧ w.heap.size < wx.heap.size ∧ wx.cell? ⟨w.heap.size + 1, 0, none⟩ = some (.int .i64 bn) ∧ wx.cell? ⟨w.heap.size + 1, 1, none⟩ = some (.int .i64 bd) ∧ w.heap.size + 1 < wx.heap.size ∧ wx.cell? ⟨w.heap.size + 2, 0, none⟩ = some (.int .i64 cn) ∧ wx.cell? ⟨w.heap.size + 2, 1, none⟩ = some (.int .i64 cd) ∧ w.heap.size + 2 < wx.heap.size ∧ wx.cell? ⟨w1.heap.size, 0, none⟩ = some (.int .i64 sx) ∧ wx.cell? ⟨w1.heap.size, 1, none⟩ = some (.int .i64 sy) ∧ w1.heap.size < wx.heap.size ∧ wx.cell? ⟨w2.heap.size, 0, none⟩ = some (.int .i64 px) ∧ wx.cell? ⟨w2.heap.size, 1, none⟩ = some (.int .i64 py) ∧ w2.heap.size < wx.heap.size ∧ wx.cell? ⟨w14.heap.size, 0, none⟩ = some (.int .i64 ux) ∧ wx.cell? ⟨w14.heap.size, 1, none⟩ = some (.int .i64 uy) ∧ w14.heap.size < wx.heap.size ∧ wx.frozen? ⟨w14.heap.size, 0, none⟩ = false ∧ wx.frozen? ⟨w14.heap.size, 1, none⟩ = false ∧ wx.cell? ⟨g, 0, none⟩ = some (.int .i64 vx) ∧ wx.cell? ⟨g, 1, none⟩ = some (.int .i64 vy) ∧ g < wx.heap.size ∧ wx.frozen? ⟨g, 0, none⟩ = false ∧ wx.frozen? ⟨g, 1, none⟩ = false ∧ Below w.heap.size w wx)
            case first =>
              have xA : w.heap.size < w19.heap.size := by omega
              have xB : w.heap.size + 1 < w19.heap.size := by omega
              have xC : w.heap.size + 2 < w19.heap.size := by omega
              have xS : w1.heap.size < w19.heap.size := by omega
              have xP : w2.heap.size < w19.heap.size := by omega
              have xX : w14.heap.size < w19.heap.size := by omega
              have xY : g < w19.heap.size := by omega
              refine wp_region_held_drew (S := (fun w' => w'.cell? ⟨w.heap.size, 0, none⟩ = some (.int .i64 an) ∧ w'.cell? ⟨w.heap.size, 1, none⟩ = some (.int .i64 ad) ∧ w'.cell? ⟨w.heap.size + 1, 0, none⟩ = some (.int .i64 bn) ∧ w'.cell? ⟨w.heap.size + 1, 1, none⟩ = some (.int .i64 bd) ∧ w'.cell? ⟨w.heap.size + 2, 0, none⟩ = some (.int .i64 cn) ∧ w'.cell? ⟨w.heap.size + 2, 1, none⟩ = some (.int .i64 cd) ∧ w'.cell? ⟨w1.heap.size, 0, none⟩ = some (.int .i64 sx) ∧ w'.cell? ⟨w1.heap.size, 1, none⟩ = some (.int .i64 sy) ∧ w'.cell? ⟨w2.heap.size, 0, none⟩ = some (.int .i64 px) ∧ w'.cell? ⟨w2.heap.size, 1, none⟩ = some (.int .i64 py) ∧ w'.cell? ⟨w14.heap.size, 0, none⟩ = some (.int .i64 ux) ∧ w'.cell? ⟨w14.heap.size, 1, none⟩ = some (.int .i64 uy) ∧ w'.frozen? ⟨w14.heap.size, 0, none⟩ = false ∧ w'.frozen? ⟨w14.heap.size, 1, none⟩ = false ∧ (w'.cell? ⟨g, 0, none⟩).isSome = true ∧ (w'.cell? ⟨g, 1, none⟩).isSome = true ∧ w'.frozen? ⟨g, 0, none⟩ = false ∧ w'.frozen? ⟨g, 1, none⟩ = false ∧ w19.heap.size ≤ w'.heap.size ∧ Below w.heap.size w w')) (by kernel_rfl) ?_ ?_
              · (refine ⟨?_, ?_, ?_, ?_, ?_, ?_, ?_, ?_, ?_, ?_, ?_, ?_, ?_, ?_, ?_, ?_, ?_, ?_, ?_, ?_⟩ <;> first | assumption | ((repeat' (first | (with_reducible exact Below.refl _ _) | (with_reducible assumption) | (with_reducible refine drewN_below ?_ _) | (with_reducible refine Below.drew ?_) | (with_reducible refine Below.alloc ?_ ?_ _) | (with_reducible refine Below.setCell ?_ ?_ _) | (simp; done) | omega | (simp; omega))); done) | (simp [*]; done) | (simp [go_sem, *]; done) | (simp; omega))
              intro hH0
              refine wpAnyH_take (i := 0) (v := ?_) rfl (by kernel_rfl) (by kernel_rfl) (by kernel_rfl) (fun _ _ _ h => h) (Or.inl ⟨by rfl, ?_⟩) (by assumption) ?_
              rotate_left
              focus (intro wq hSq; (try dsimp only at hSq); go_simp; first | done | (with_reducible rfl))
              (try simp only [Act.put, List.getElem_toArray, List.getElem_cons_zero, List.setIfInBounds_toArray, List.set_cons_zero, List.set_cons_succ])
              refine wpAnyH_take (i := 1) (v := ?_) rfl (by kernel_rfl) (by kernel_rfl) (by kernel_rfl) (fun _ _ _ h => h) (Or.inl ⟨by rfl, ?_⟩) (by assumption) ?_
              rotate_left
              focus (intro wq hSq; (try dsimp only at hSq); go_simp; first | done | (with_reducible rfl))
              (try simp only [Act.put, List.getElem_toArray, List.getElem_cons_succ, List.getElem_cons_zero, List.setIfInBounds_toArray, List.set_cons_zero, List.set_cons_succ])
              refine wpAnyH_take (i := 3) (v := ?_) rfl (by kernel_rfl) (by kernel_rfl) (by kernel_rfl) (fun _ _ _ h => h) (Or.inl ⟨by rfl, ?_⟩) (by assumption) ?_
              rotate_left
              focus (intro wq hSq; (try dsimp only at hSq); go_simp; first | done | (with_reducible rfl))
              (try simp only [Act.put, List.getElem_toArray, List.getElem_cons_succ, List.getElem_cons_zero, List.setIfInBounds_toArray, List.set_cons_zero, List.set_cons_succ])
              refine wpAnyH_take (i := 4) (v := ?_) rfl (by kernel_rfl) (by kernel_rfl) (by kernel_rfl) (fun _ _ _ h => h) (Or.inl ⟨by rfl, ?_⟩) (by assumption) ?_
              rotate_left
              focus (intro wq hSq; (try dsimp only at hSq); go_simp; first | done | (with_reducible rfl))
              (try simp only [Act.put, List.getElem_toArray, List.getElem_cons_succ, List.getElem_cons_zero, List.setIfInBounds_toArray, List.set_cons_zero, List.set_cons_succ])
              refine wpAnyH_ready (rs := [2]) (by kernel_rfl) (by simp) ?_
              refine AllReadyH.cons rfl (fun K hK => ?_) AllReadyH.nil
              rw [if_pos (by rfl)]
              go_simp
              refine (mul_any _ _ _ _ _).mono ?_
              rintro e wr ⟨rfl, hbr⟩
              obtain ⟨hcr, hfr, hzr, hBr⟩ := after (a := w) (B := w.heap.size) (w19.heap.size) hbr (by first | (with_reducible assumption) | (simp; done) | omega | (simp; omega)) (by repeat' (first | (with_reducible exact Below.refl _ _) | (with_reducible assumption) | (with_reducible refine drewN_below ?_ _) | (with_reducible refine Below.drew ?_) | (with_reducible refine Below.alloc ?_ ?_ _) | (with_reducible refine Below.setCell ?_ ?_ _) | (simp; done) | omega | (simp; omega))) (by omega)
              have yA := Nat.lt_of_lt_of_le xA hzr
              have yB := Nat.lt_of_lt_of_le xB hzr
              have yC := Nat.lt_of_lt_of_le xC hzr
              have yS := Nat.lt_of_lt_of_le xS hzr
              have yP := Nat.lt_of_lt_of_le xP hzr
              have yX := Nat.lt_of_lt_of_le xX hzr
              have yY := Nat.lt_of_lt_of_le xY hzr
              rw [hf.out]
              dsimp only
              refine hK.out _ _ ?_ (fun hHeld => ?_)
              · (refine ⟨?_, ?_, ?_, ?_, ?_, ?_, ?_, ?_, ?_, ?_, ?_, ?_, ?_, ?_, ?_, ?_, ?_, ?_, ?_, ?_⟩ <;> first | assumption | ((repeat' (first | (with_reducible exact Below.refl _ _) | (with_reducible assumption) | (with_reducible refine drewN_below ?_ _) | (with_reducible refine Below.drew ?_) | (with_reducible refine Below.alloc ?_ ?_ _) | (with_reducible refine Below.setCell ?_ ?_ _) | (simp; done) | omega | (simp; omega))); done) | (simp [*]; done) | (simp [go_sem, *]; done) | (simp; omega))
              clear hK K
              (try simp only [Act.put, List.getElem_toArray, List.getElem_cons_succ, List.getElem_cons_zero, List.setIfInBounds_toArray, List.set_cons_zero, List.set_cons_succ])
              refine wpAnyH_ready (rs := [5]) (by kernel_rfl) (by simp) ?_
              refine AllReadyH.cons rfl (fun K hK => ?_) AllReadyH.nil
              rw [if_pos (by rfl)]
              go_simp
              refine (mul_any _ _ _ _ _).mono ?_
              rintro e wr ⟨rfl, hbr⟩
              obtain ⟨hcr, hfr, hzr, hBr⟩ := after (a := w) (B := w.heap.size) (w19.heap.size) hbr (by first | (with_reducible assumption) | (simp; done) | omega | (simp; omega)) (by repeat' (first | (with_reducible exact Below.refl _ _) | (with_reducible assumption) | (with_reducible refine drewN_below ?_ _) | (with_reducible refine Below.drew ?_) | (with_reducible refine Below.alloc ?_ ?_ _) | (with_reducible refine Below.setCell ?_ ?_ _) | (simp; done) | omega | (simp; omega))) (by omega)
              have yA := Nat.lt_of_lt_of_le xA hzr
              have yB := Nat.lt_of_lt_of_le xB hzr
              have yC := Nat.lt_of_lt_of_le xC hzr
              have yS := Nat.lt_of_lt_of_le xS hzr
              have yP := Nat.lt_of_lt_of_le xP hzr
              have yX := Nat.lt_of_lt_of_le xX hzr
              have yY := Nat.lt_of_lt_of_le xY hzr
              rw [hg.out]
              dsimp only
              refine hK.out _ _ ?_ (fun hHeld => ?_)
              · (refine ⟨?_, ?_, ?_, ?_, ?_, ?_, ?_, ?_, ?_, ?_, ?_, ?_, ?_, ?_, ?_, ?_, ?_, ?_, ?_, ?_⟩ <;> first | assumption | ((repeat' (first | (with_reducible exact Below.refl _ _) | (with_reducible assumption) | (with_reducible refine drewN_below ?_ _) | (with_reducible refine Below.drew ?_) | (with_reducible refine Below.alloc ?_ ?_ _) | (with_reducible refine Below.setCell ?_ ?_ _) | (simp; done) | omega | (simp; omega))); done) | (simp [*]; done) | (simp [go_sem, *]; done) | (simp; omega))
              clear hK K
              (try simp only [Act.put, List.getElem_toArray, List.getElem_cons_succ, List.getElem_cons_zero, List.setIfInBounds_toArray, List.set_cons_zero, List.set_cons_succ])
              refine wpAnyH_ready (rs := [6]) (by kernel_rfl) (by simp) ?_
              refine AllReadyH.cons rfl (fun K hK => ?_) AllReadyH.nil
              rw [if_pos (by rfl)]
              go_simp
              refine (add_any _ _ _ _ _).mono ?_
              rintro e wr ⟨rfl, hbr⟩
              obtain ⟨hcr, hfr, hzr, hBr⟩ := after (a := w) (B := w.heap.size) (w19.heap.size) hbr (by first | (with_reducible assumption) | (simp; done) | omega | (simp; omega)) (by repeat' (first | (with_reducible exact Below.refl _ _) | (with_reducible assumption) | (with_reducible refine drewN_below ?_ _) | (with_reducible refine Below.drew ?_) | (with_reducible refine Below.alloc ?_ ?_ _) | (with_reducible refine Below.setCell ?_ ?_ _) | (simp; done) | omega | (simp; omega))) (by omega)
              have yA := Nat.lt_of_lt_of_le xA hzr
              have yB := Nat.lt_of_lt_of_le xB hzr
              have yC := Nat.lt_of_lt_of_le xC hzr
              have yS := Nat.lt_of_lt_of_le xS hzr
              have yP := Nat.lt_of_lt_of_le xP hzr
              have yX := Nat.lt_of_lt_of_le xX hzr
              have yY := Nat.lt_of_lt_of_le xY hzr
              rw [hv.out]
              dsimp only
              refine hK.out _ _ ?_ (fun hHeld => ?_)
              · (refine ⟨?_, ?_, ?_, ?_, ?_, ?_, ?_, ?_, ?_, ?_, ?_, ?_, ?_, ?_, ?_, ?_, ?_, ?_, ?_, ?_⟩ <;> first | assumption | ((repeat' (first | (with_reducible exact Below.refl _ _) | (with_reducible assumption) | (with_reducible refine drewN_below ?_ _) | (with_reducible refine Below.drew ?_) | (with_reducible refine Below.alloc ?_ ?_ _) | (with_reducible refine Below.setCell ?_ ?_ _) | (simp; done) | omega | (simp; omega))); done) | (simp [*]; done) | (simp [go_sem, *]; done) | (simp; omega))
              clear hK K
              (try simp only [Act.put, List.getElem_toArray, List.getElem_cons_succ, List.getElem_cons_zero, List.setIfInBounds_toArray, List.set_cons_zero, List.set_cons_succ])
              obtain ⟨t0, t1, t2, t3, t4, t5, t6, t7, t8, t9, t10, t11, t12, t13, eY0, eY1, fY0, fY1, t98, t99⟩ := hHeld
              obtain ⟨uY, gY0⟩ := Option.isSome_iff_exists.1 eY0
              obtain ⟨vY, gY1⟩ := Option.isSome_iff_exists.1 eY1
              refine wpAnyH_ready (rs := [7]) (by kernel_rfl) (by simp) ?_
              refine AllReadyH.cons rfl (fun K hK => ?_) AllReadyH.nil
              rw [if_pos (by rfl)]
              go_simp
              refine hK.out _ _ ?_ (fun hHeld => ?_)
              · (refine ⟨?_, ?_, ?_, ?_, ?_, ?_, ?_, ?_, ?_, ?_, ?_, ?_, ?_, ?_, ?_, ?_, ?_, ?_, ?_, ?_⟩ <;> first | assumption | ((repeat' (first | (with_reducible exact Below.refl _ _) | (with_reducible assumption) | (with_reducible refine drewN_below ?_ _) | (with_reducible refine Below.drew ?_) | (with_reducible refine Below.alloc ?_ ?_ _) | (with_reducible refine Below.setCell ?_ ?_ _) | (simp; done) | omega | (simp; omega))); done) | (simp [*]; done) | (simp [go_sem, *]; done) | (simp; omega))
              clear hK K
              (try simp only [Act.put, List.getElem_toArray, List.getElem_cons_succ, List.getElem_cons_zero, List.setIfInBounds_toArray, List.set_cons_zero, List.set_cons_succ])
              refine wpAnyH_done (by kernel_rfl) ?_ _
              go_wp2_with fail
              have hcw : Below w.heap.size w wr := t99
              have mA : w.heap.size < wr.heap.size := Nat.lt_of_lt_of_le bAw19 t98
              have mB : w.heap.size + 1 < wr.heap.size := Nat.lt_of_lt_of_le bBw19 t98
              have mC : w.heap.size + 2 < wr.heap.size := Nat.lt_of_lt_of_le bCw19 t98
              have mS : w1.heap.size < wr.heap.size := Nat.lt_of_lt_of_le bSw19 t98
              have mP : w2.heap.size < wr.heap.size := Nat.lt_of_lt_of_le bPw19 t98
              have mX : w14.heap.size < wr.heap.size := Nat.lt_of_lt_of_le bXw19 t98
              have mY : g < wr.heap.size := Nat.lt_of_lt_of_le bYw19 t98
              go_meet
              refine ⟨?_, ?_, ?_, ?_, ?_, ?_, ?_, ?_, ?_, ?_, ?_, ?_, ?_, ?_, ?_, ?_, ?_, ?_, ?_, ?_, ?_, ?_, ?_, ?_, ?_, ?_⟩
              · exact Eq.trans (World.cell?_setCell_other _ _ _ _ (by intro hne; first | exact oAY (congrArg Addr.block hne) | exact pAY (congrArg Addr.block hne))) (Eq.trans (World.cell?_setCell_other _ _ _ _ (by intro hne; first | exact oAY (congrArg Addr.block hne) | exact pAY (congrArg Addr.block hne))) t0)
              · exact Eq.trans (World.cell?_setCell_other _ _ _ _ (by intro hne; first | exact oAY (congrArg Addr.block hne) | exact pAY (congrArg Addr.block hne))) (Eq.trans (World.cell?_setCell_other _ _ _ _ (by intro hne; first | exact oAY (congrArg Addr.block hne) | exact pAY (congrArg Addr.block hne))) t1)
              · first | assumption | omega | (simp; done) | (simp; omega)
              · exact Eq.trans (World.cell?_setCell_other _ _ _ _ (by intro hne; first | exact oBY (congrArg Addr.block hne) | exact pBY (congrArg Addr.block hne))) (Eq.trans (World.cell?_setCell_other _ _ _ _ (by intro hne; first | exact oBY (congrArg Addr.block hne) | exact pBY (congrArg Addr.block hne))) t2)
              · exact Eq.trans (World.cell?_setCell_other _ _ _ _ (by intro hne; first | exact oBY (congrArg Addr.block hne) | exact pBY (congrArg Addr.block hne))) (Eq.trans (World.cell?_setCell_other _ _ _ _ (by intro hne; first | exact oBY (congrArg Addr.block hne) | exact pBY (congrArg Addr.block hne))) t3)
              · first | assumption | omega | (simp; done) | (simp; omega)
              · exact Eq.trans (World.cell?_setCell_other _ _ _ _ (by intro hne; first | exact oCY (congrArg Addr.block hne) | exact pCY (congrArg Addr.block hne))) (Eq.trans (World.cell?_setCell_other _ _ _ _ (by intro hne; first | exact oCY (congrArg Addr.block hne) | exact pCY (congrArg Addr.block hne))) t4)
              · exact Eq.trans (World.cell?_setCell_other _ _ _ _ (by intro hne; first | exact oCY (congrArg Addr.block hne) | exact pCY (congrArg Addr.block hne))) (Eq.trans (World.cell?_setCell_other _ _ _ _ (by intro hne; first | exact oCY (congrArg Addr.block hne) | exact pCY (congrArg Addr.block hne))) t5)
              · first | assumption | omega | (simp; done) | (simp; omega)
              · exact Eq.trans (World.cell?_setCell_other _ _ _ _ (by intro hne; first | exact oSY (congrArg Addr.block hne) | exact pSY (congrArg Addr.block hne))) (Eq.trans (World.cell?_setCell_other _ _ _ _ (by intro hne; first | exact oSY (congrArg Addr.block hne) | exact pSY (congrArg Addr.block hne))) t6)
              · exact Eq.trans (World.cell?_setCell_other _ _ _ _ (by intro hne; first | exact oSY (congrArg Addr.block hne) | exact pSY (congrArg Addr.block hne))) (Eq.trans (World.cell?_setCell_other _ _ _ _ (by intro hne; first | exact oSY (congrArg Addr.block hne) | exact pSY (congrArg Addr.block hne))) t7)
              · first | assumption | omega | (simp; done) | (simp; omega)
              · exact Eq.trans (World.cell?_setCell_other _ _ _ _ (by intro hne; first | exact oPY (congrArg Addr.block hne) | exact pPY (congrArg Addr.block hne))) (Eq.trans (World.cell?_setCell_other _ _ _ _ (by intro hne; first | exact oPY (congrArg Addr.block hne) | exact pPY (congrArg Addr.block hne))) t8)
              · exact Eq.trans (World.cell?_setCell_other _ _ _ _ (by intro hne; first | exact oPY (congrArg Addr.block hne) | exact pPY (congrArg Addr.block hne))) (Eq.trans (World.cell?_setCell_other _ _ _ _ (by intro hne; first | exact oPY (congrArg Addr.block hne) | exact pPY (congrArg Addr.block hne))) t9)
              · first | assumption | omega | (simp; done) | (simp; omega)
              · exact Eq.trans (World.cell?_setCell_other _ _ _ _ (by intro hne; first | exact oXY (congrArg Addr.block hne) | exact pXY (congrArg Addr.block hne))) (Eq.trans (World.cell?_setCell_other _ _ _ _ (by intro hne; first | exact oXY (congrArg Addr.block hne) | exact pXY (congrArg Addr.block hne))) t10)
              · exact Eq.trans (World.cell?_setCell_other _ _ _ _ (by intro hne; first | exact oXY (congrArg Addr.block hne) | exact pXY (congrArg Addr.block hne))) (Eq.trans (World.cell?_setCell_other _ _ _ _ (by intro hne; first | exact oXY (congrArg Addr.block hne) | exact pXY (congrArg Addr.block hne))) t11)
              · first | assumption | omega | (simp; done) | (simp; omega)
              · first | exact t12 | (simp [go_sem, t12]; done)
              · first | exact t13 | (simp [go_sem, t13]; done)
              · first | (simp [go_sem]; done) | (simp [go_sem, *]; done)
              · first | (simp [go_sem]; done) | (simp [go_sem, *]; done)
              · first | assumption | omega | (simp; done) | (simp; omega)
              · first | (simp [go_sem]; done) | (simp [go_sem, *]; done)
              · first | (simp [go_sem]; done) | (simp [go_sem, *]; done)
              · repeat' (first | (with_reducible exact Below.refl _ _) | (with_reducible assumption) | (with_reducible refine drewN_below ?_ _) | (with_reducible refine Below.drew ?_) | (with_reducible refine Below.alloc ?_ ?_ _) | (with_reducible refine Below.setCell ?_ ?_ _) | (simp; done) | omega | (simp; omega))
            case rest =>
              obtain ⟨cA0w20, cA1w20, bAw20, cB0w20, cB1w20, bBw20, cC0w20, cC1w20, bCw20, cS0w20, cS1w20, bSw20, cP0w20, cP1w20, bPw20, cX0w20, cX1w20, bXw20, zX0w20, zX1w20, cY0w20, cY1w20, bYw20, zY0w20, zY1w20, hBw20⟩ := hcut
              have dAw20 : w.heap.size < wc.heap.size + 1 := Nat.lt_succ_of_lt bAw20
              have dBw20 : w.heap.size + 1 < wc.heap.size + 1 := Nat.lt_succ_of_lt bBw20
              have dCw20 : w.heap.size + 2 < wc.heap.size + 1 := Nat.lt_succ_of_lt bCw20
              have dSw20 : w1.heap.size < wc.heap.size + 1 := Nat.lt_succ_of_lt bSw20
              have dPw20 : w2.heap.size < wc.heap.size + 1 := Nat.lt_succ_of_lt bPw20
              have dXw20 : w14.heap.size < wc.heap.size + 1 := Nat.lt_succ_of_lt bXw20
              have dYw20 : g < wc.heap.size + 1 := Nat.lt_succ_of_lt bYw20
              have zw20 : w.heap.size ≤ wc.heap.size := hBw20.size
              obtain ⟨w20, ew20⟩ : ∃ x, x = wc := ⟨_, rfl⟩
              subst ew20
              clear zw19 dYw19 dXw19 dPw19 dSw19 dCw19 dBw19 dAw19 hBw19 zY1w19 zY0w19 bYw19 cY1w19 cY0w19 zX1w19 zX0w19 bXw19 cX1w19 cX0w19 bPw19 cP1w19 cP0w19 bSw19 cS1w19 cS0w19 bCw19 cC1w19 cC0w19 bBw19 cB1w19 cB0w19 bAw19 cA1w19 cA0w19
              go_upto_region 13 with fail
              go_cut [95] (fun s95 wx => s95 = .bool false ∧ wx.cell? ⟨w.heap.size, 0, none⟩ = some (.int .i64 an) ∧ wx.cell? ⟨w.heap.size, 1, none⟩ = some (.int .i64 ad) ∧ w.heap.size < wx.heap.size ∧ wx.cell? ⟨w.heap.size + 1, 0, none⟩ = some (.int .i64 bn) ∧ wx.cell? ⟨w.heap.size + 1, 1, none⟩ = some (.int .i64 bd) ∧ w.heap.size + 1 < wx.heap.size ∧ wx.cell? ⟨w.heap.size + 2, 0, none⟩ = some (.int .i64 cn) ∧ wx.cell? ⟨w.heap.size + 2, 1, none⟩ = some (.int .i64 cd) ∧ w.heap.size + 2 < wx.heap.size ∧ wx.cell? ⟨w1.heap.size, 0, none⟩ = some (.int .i64 sx) ∧ wx.cell? ⟨w1.heap.size, 1, none⟩ = some (.int .i64 sy) ∧ w1.heap.size < wx.heap.size ∧ wx.cell? ⟨w2.heap.size, 0, none⟩ = some (.int .i64 px) ∧ wx.cell? ⟨w2.heap.size, 1, none⟩ = some (.int .i64 py) ∧ w2.heap.size < wx.heap.size ∧ wx.cell? ⟨w14.heap.size, 0, none⟩ = some (.int .i64 ux) ∧ wx.cell? ⟨w14.heap.size, 1, none⟩ = some (.int .i64 uy) ∧ w14.heap.size < wx.heap.size ∧ wx.cell? ⟨g, 0, none⟩ = some (.int .i64 vx) ∧ wx.cell? ⟨g, 1, none⟩ = some (.int .i64 vy) ∧ g < wx.heap.size ∧ Below w.heap.size w wx)
              case first =>
                cases hq : (Q.isq ux uy && Q.isq vx vy)
                · skip
                  go_wp2_with fail
                  refine (numbers2 ux uy vx vy _ _ (by simp [go_sem, *]) (by simp [go_sem, *]) (by simp [go_sem, *]) (by simp [go_sem, *]) (by simp)).mono ?_
                  rintro e w21 ⟨rfl, hw21⟩
                  have hmw21 : Below w20.heap.size w20 w21 := on_below hw21 (by repeat' (first | (with_reducible exact Below.refl _ _) | (with_reducible assumption) | (with_reducible refine drewN_below ?_ _) | (with_reducible refine Below.drew ?_) | (with_reducible refine Below.alloc ?_ ?_ _) | (with_reducible refine Below.setCell ?_ ?_ _) | (simp; done) | omega | (simp; omega))) (by first | (with_reducible assumption) | (simp; done) | omega | (simp; omega))
                  have cA0w21 := (hmw21.cell (p := ⟨w.heap.size, 0, none⟩) bAw20).trans cA0w20
                  have cA1w21 := (hmw21.cell (p := ⟨w.heap.size, 1, none⟩) bAw20).trans cA1w20
                  have bAw21 : w.heap.size < w21.heap.size := Nat.lt_of_lt_of_le bAw20 hmw21.size
                  have dAw21 : w.heap.size < w21.heap.size + 1 := Nat.lt_succ_of_lt bAw21
                  have cB0w21 := (hmw21.cell (p := ⟨w.heap.size + 1, 0, none⟩) bBw20).trans cB0w20
                  have cB1w21 := (hmw21.cell (p := ⟨w.heap.size + 1, 1, none⟩) bBw20).trans cB1w20
                  have bBw21 : w.heap.size + 1 < w21.heap.size := Nat.lt_of_lt_of_le bBw20 hmw21.size
                  have dBw21 : w.heap.size + 1 < w21.heap.size + 1 := Nat.lt_succ_of_lt bBw21
                  have cC0w21 := (hmw21.cell (p := ⟨w.heap.size + 2, 0, none⟩) bCw20).trans cC0w20
                  have cC1w21 := (hmw21.cell (p := ⟨w.heap.size + 2, 1, none⟩) bCw20).trans cC1w20
                  have bCw21 : w.heap.size + 2 < w21.heap.size := Nat.lt_of_lt_of_le bCw20 hmw21.size
                  have dCw21 : w.heap.size + 2 < w21.heap.size + 1 := Nat.lt_succ_of_lt bCw21
                  have cS0w21 := (hmw21.cell (p := ⟨w1.heap.size, 0, none⟩) bSw20).trans cS0w20
                  have cS1w21 := (hmw21.cell (p := ⟨w1.heap.size, 1, none⟩) bSw20).trans cS1w20
                  have bSw21 : w1.heap.size < w21.heap.size := Nat.lt_of_lt_of_le bSw20 hmw21.size
                  have dSw21 : w1.heap.size < w21.heap.size + 1 := Nat.lt_succ_of_lt bSw21
                  have cP0w21 := (hmw21.cell (p := ⟨w2.heap.size, 0, none⟩) bPw20).trans cP0w20
                  have cP1w21 := (hmw21.cell (p := ⟨w2.heap.size, 1, none⟩) bPw20).trans cP1w20
                  have bPw21 : w2.heap.size < w21.heap.size := Nat.lt_of_lt_of_le bPw20 hmw21.size
                  have dPw21 : w2.heap.size < w21.heap.size + 1 := Nat.lt_succ_of_lt bPw21
                  have cX0w21 := (hmw21.cell (p := ⟨w14.heap.size, 0, none⟩) bXw20).trans cX0w20
                  have cX1w21 := (hmw21.cell (p := ⟨w14.heap.size, 1, none⟩) bXw20).trans cX1w20
                  have zX0w21 := (hmw21.frozen (p := ⟨w14.heap.size, 0, none⟩) bXw20).trans zX0w20
                  have zX1w21 := (hmw21.frozen (p := ⟨w14.heap.size, 1, none⟩) bXw20).trans zX1w20
                  have bXw21 : w14.heap.size < w21.heap.size := Nat.lt_of_lt_of_le bXw20 hmw21.size
                  have dXw21 : w14.heap.size < w21.heap.size + 1 := Nat.lt_succ_of_lt bXw21
                  have cY0w21 := (hmw21.cell (p := ⟨g, 0, none⟩) bYw20).trans cY0w20
                  have cY1w21 := (hmw21.cell (p := ⟨g, 1, none⟩) bYw20).trans cY1w20
                  have zY0w21 := (hmw21.frozen (p := ⟨g, 0, none⟩) bYw20).trans zY0w20
                  have zY1w21 := (hmw21.frozen (p := ⟨g, 1, none⟩) bYw20).trans zY1w20
                  have bYw21 : g < w21.heap.size := Nat.lt_of_lt_of_le bYw20 hmw21.size
                  have dYw21 : g < w21.heap.size + 1 := Nat.lt_succ_of_lt bYw21
                  have hBw21 : Below w.heap.size w w21 := Below.trans hBw20 (hmw21.mono hBw20.size)
                  have zw21 : w.heap.size ≤ w21.heap.size := hBw21.size
                  clear hmw21 hw21 zw20 dYw20 dXw20 dPw20 dSw20 dCw20 dBw20 dAw20 hBw20 zY1w20 zY0w20 bYw20 cY1w20 cY0w20 zX1w20 zX0w20 bXw20 cX1w20 cX0w20 bPw20 cP1w20 cP0w20 bSw20 cS1w20 cS0w20 bCw20 cC1w20 cC0w20 bBw20 cB1w20 cB0w20 bAw20 cA1w20 cA0w20
                  rw [hq]
                  go_wp2_with fail
                  go_meet
                  (refine ⟨rfl, ?_, ?_, ?_, ?_, ?_, ?_, ?_, ?_, ?_, ?_, ?_, ?_, ?_, ?_, ?_, ?_, ?_, ?_, ?_, ?_, ?_, ?_⟩ <;> first | assumption | (simp [go_sem, *]; done) | omega | (simp; omega) | (repeat' (first | (with_reducible exact Below.refl _ _) | (with_reducible assumption) | (with_reducible refine drewN_below ?_ _) | (with_reducible refine Below.drew ?_) | (with_reducible refine Below.alloc ?_ ?_ _) | (with_reducible refine Below.setCell ?_ ?_ _) | (simp; done) | omega | (simp; omega))))
                · skip
                  have hE := L3.out hq
                  simp only [Prod.mk.injEq] at hE
                  obtain ⟨E1, E2⟩ := hE
                  subst E1 E2
                  go_wp2_with fail
                  refine (numbers2 ux uy ux uy _ _ (by simp [go_sem, *]) (by simp [go_sem, *]) (by simp [go_sem, *]) (by simp [go_sem, *]) (by simp)).mono ?_
                  rintro e w22 ⟨rfl, hw22⟩
                  have hmw22 : Below w20.heap.size w20 w22 := on_below hw22 (by repeat' (first | (with_reducible exact Below.refl _ _) | (with_reducible assumption) | (with_reducible refine drewN_below ?_ _) | (with_reducible refine Below.drew ?_) | (with_reducible refine Below.alloc ?_ ?_ _) | (with_reducible refine Below.setCell ?_ ?_ _) | (simp; done) | omega | (simp; omega))) (by first | (with_reducible assumption) | (simp; done) | omega | (simp; omega))
                  have cA0w22 := (hmw22.cell (p := ⟨w.heap.size, 0, none⟩) bAw20).trans cA0w20
                  have cA1w22 := (hmw22.cell (p := ⟨w.heap.size, 1, none⟩) bAw20).trans cA1w20
                  have bAw22 : w.heap.size < w22.heap.size := Nat.lt_of_lt_of_le bAw20 hmw22.size
                  have dAw22 : w.heap.size < w22.heap.size + 1 := Nat.lt_succ_of_lt bAw22
                  have cB0w22 := (hmw22.cell (p := ⟨w.heap.size + 1, 0, none⟩) bBw20).trans cB0w20
                  have cB1w22 := (hmw22.cell (p := ⟨w.heap.size + 1, 1, none⟩) bBw20).trans cB1w20
                  have bBw22 : w.heap.size + 1 < w22.heap.size := Nat.lt_of_lt_of_le bBw20 hmw22.size
                  have dBw22 : w.heap.size + 1 < w22.heap.size + 1 := Nat.lt_succ_of_lt bBw22
                  have cC0w22 := (hmw22.cell (p := ⟨w.heap.size + 2, 0, none⟩) bCw20).trans cC0w20
                  have cC1w22 := (hmw22.cell (p := ⟨w.heap.size + 2, 1, none⟩) bCw20).trans cC1w20
                  have bCw22 : w.heap.size + 2 < w22.heap.size := Nat.lt_of_lt_of_le bCw20 hmw22.size
                  have dCw22 : w.heap.size + 2 < w22.heap.size + 1 := Nat.lt_succ_of_lt bCw22
                  have cS0w22 := (hmw22.cell (p := ⟨w1.heap.size, 0, none⟩) bSw20).trans cS0w20
                  have cS1w22 := (hmw22.cell (p := ⟨w1.heap.size, 1, none⟩) bSw20).trans cS1w20
                  have bSw22 : w1.heap.size < w22.heap.size := Nat.lt_of_lt_of_le bSw20 hmw22.size
                  have dSw22 : w1.heap.size < w22.heap.size + 1 := Nat.lt_succ_of_lt bSw22
                  have cP0w22 := (hmw22.cell (p := ⟨w2.heap.size, 0, none⟩) bPw20).trans cP0w20
                  have cP1w22 := (hmw22.cell (p := ⟨w2.heap.size, 1, none⟩) bPw20).trans cP1w20
                  have bPw22 : w2.heap.size < w22.heap.size := Nat.lt_of_lt_of_le bPw20 hmw22.size
                  have dPw22 : w2.heap.size < w22.heap.size + 1 := Nat.lt_succ_of_lt bPw22
                  have cX0w22 := (hmw22.cell (p := ⟨w14.heap.size, 0, none⟩) bXw20).trans cX0w20
                  have cX1w22 := (hmw22.cell (p := ⟨w14.heap.size, 1, none⟩) bXw20).trans cX1w20
                  have zX0w22 := (hmw22.frozen (p := ⟨w14.heap.size, 0, none⟩) bXw20).trans zX0w20
                  have zX1w22 := (hmw22.frozen (p := ⟨w14.heap.size, 1, none⟩) bXw20).trans zX1w20
                  have bXw22 : w14.heap.size < w22.heap.size := Nat.lt_of_lt_of_le bXw20 hmw22.size
                  have dXw22 : w14.heap.size < w22.heap.size + 1 := Nat.lt_succ_of_lt bXw22
                  have cY0w22 := (hmw22.cell (p := ⟨g, 0, none⟩) bYw20).trans cY0w20
                  have cY1w22 := (hmw22.cell (p := ⟨g, 1, none⟩) bYw20).trans cY1w20
                  have zY0w22 := (hmw22.frozen (p := ⟨g, 0, none⟩) bYw20).trans zY0w20
                  have zY1w22 := (hmw22.frozen (p := ⟨g, 1, none⟩) bYw20).trans zY1w20
                  have bYw22 : g < w22.heap.size := Nat.lt_of_lt_of_le bYw20 hmw22.size
                  have dYw22 : g < w22.heap.size + 1 := Nat.lt_succ_of_lt bYw22
                  have hBw22 : Below w.heap.size w w22 := Below.trans hBw20 (hmw22.mono hBw20.size)
                  have zw22 : w.heap.size ≤ w22.heap.size := hBw22.size
                  clear hmw22 hw22 zw20 dYw20 dXw20 dPw20 dSw20 dCw20 dBw20 dAw20 hBw20 zY1w20 zY0w20 bYw20 cY1w20 cY0w20 zX1w20 zX0w20 bXw20 cX1w20 cX0w20 bPw20 cP1w20 cP0w20 bSw20 cS1w20 cS0w20 bCw20 cC1w20 cC0w20 bBw20 cB1w20 cB0w20 bAw20 cA1w20 cA0w20
                  rw [hq]
                  go_wp2_with fail
                  go_meet
                  (refine ⟨rfl, ?_, ?_, ?_, ?_, ?_, ?_, ?_, ?_, ?_, ?_, ?_, ?_, ?_, ?_, ?_, ?_, ?_, ?_, ?_, ?_, ?_, ?_⟩ <;> first | assumption | (simp [go_sem, *]; done) | omega | (simp; omega) | (repeat' (first | (with_reducible exact Below.refl _ _) | (with_reducible assumption) | (with_reducible refine drewN_below ?_ _) | (with_reducible refine Below.drew ?_) | (with_reducible refine Below.alloc ?_ ?_ _) | (with_reducible refine Below.setCell ?_ ?_ _) | (simp; done) | omega | (simp; omega))))
              case rest =>
                obtain ⟨rfl, cA0w23, cA1w23, bAw23, cB0w23, cB1w23, bBw23, cC0w23, cC1w23, bCw23, cS0w23, cS1w23, bSw23, cP0w23, cP1w23, bPw23, cX0w23, cX1w23, bXw23, cY0w23, cY1w23, bYw23, hBw23⟩ := hcut
                have dAw23 : w.heap.size < wc.heap.size + 1 := Nat.lt_succ_of_lt bAw23
                have dBw23 : w.heap.size + 1 < wc.heap.size + 1 := Nat.lt_succ_of_lt bBw23
                have dCw23 : w.heap.size + 2 < wc.heap.size + 1 := Nat.lt_succ_of_lt bCw23
                have dSw23 : w1.heap.size < wc.heap.size + 1 := Nat.lt_succ_of_lt bSw23
                have dPw23 : w2.heap.size < wc.heap.size + 1 := Nat.lt_succ_of_lt bPw23
                have dXw23 : w14.heap.size < wc.heap.size + 1 := Nat.lt_succ_of_lt bXw23
                have dYw23 : g < wc.heap.size + 1 := Nat.lt_succ_of_lt bYw23
                have zw23 : w.heap.size ≤ wc.heap.size := hBw23.size
                obtain ⟨w23, ew23⟩ : ∃ x, x = wc := ⟨_, rfl⟩
                subst ew23
                clear zw20 dYw20 dXw20 dPw20 dSw20 dCw20 dBw20 dAw20 hBw20 zY1w20 zY0w20 bYw20 cY1w20 cY0w20 zX1w20 zX0w20 bXw20 cX1w20 cX0w20 bPw20 cP1w20 cP0w20 bSw20 cS1w20 cS0w20 bCw20 cC1w20 cC0w20 bBw20 cB1w20 cB0w20 bAw20 cA1w20 cA0w20
                go_upto_region 15 with fail
                go_cut [110] (fun s110 wx => s110 = .bool false ∧ wx.cell? ⟨w.heap.size, 0, none⟩ = some (.int .i64 an) ∧ wx.cell? ⟨w.heap.size, 1, none⟩ = some (.int .i64 ad) ∧ w.heap.size < wx.heap.size ∧ wx.cell? ⟨w.heap.size + 1, 0, none⟩ = some (.int .i64 bn) ∧ wx.cell? ⟨w.heap.size + 1, 1, none⟩ = some (.int .i64 bd) ∧ w.heap.size + 1 < wx.heap.size ∧ wx.cell? ⟨w.heap.size + 2, 0, none⟩ = some (.int .i64 cn) ∧ wx.cell? ⟨w.heap.size + 2, 1, none⟩ = some (.int .i64 cd) ∧ w.heap.size + 2 < wx.heap.size ∧ wx.cell? ⟨w1.heap.size, 0, none⟩ = some (.int .i64 sx) ∧ wx.cell? ⟨w1.heap.size, 1, none⟩ = some (.int .i64 sy) ∧ w1.heap.size < wx.heap.size ∧ wx.cell? ⟨w2.heap.size, 0, none⟩ = some (.int .i64 px) ∧ wx.cell? ⟨w2.heap.size, 1, none⟩ = some (.int .i64 py) ∧ w2.heap.size < wx.heap.size ∧ wx.cell? ⟨w14.heap.size, 0, none⟩ = some (.int .i64 ux) ∧ wx.cell? ⟨w14.heap.size, 1, none⟩ = some (.int .i64 uy) ∧ w14.heap.size < wx.heap.size ∧ wx.cell? ⟨g, 0, none⟩ = some (.int .i64 vx) ∧ wx.cell? ⟨g, 1, none⟩ = some (.int .i64 vy) ∧ g < wx.heap.size ∧ Below w.heap.size w wx)
                case first =>
                  cases hq : Q.isq dx dy
                  · skip
                    have xA : w.heap.size < w23.heap.size := by omega
                    have xB : w.heap.size + 1 < w23.heap.size := by omega
                    have xC : w.heap.size + 2 < w23.heap.size := by omega
                    have xS : w1.heap.size < w23.heap.size := by omega
                    have xP : w2.heap.size < w23.heap.size := by omega
                    have xX : w14.heap.size < w23.heap.size := by omega
                    have xY : g < w23.heap.size := by omega
                    refine wp_region_held_drew (S := (fun w' => w'.cell? ⟨w.heap.size, 0, none⟩ = some (.int .i64 an) ∧ w'.cell? ⟨w.heap.size, 1, none⟩ = some (.int .i64 ad) ∧ w'.cell? ⟨w.heap.size + 1, 0, none⟩ = some (.int .i64 bn) ∧ w'.cell? ⟨w.heap.size + 1, 1, none⟩ = some (.int .i64 bd) ∧ w'.cell? ⟨w.heap.size + 2, 0, none⟩ = some (.int .i64 cn) ∧ w'.cell? ⟨w.heap.size + 2, 1, none⟩ = some (.int .i64 cd) ∧ w'.cell? ⟨w1.heap.size, 0, none⟩ = some (.int .i64 sx) ∧ w'.cell? ⟨w1.heap.size, 1, none⟩ = some (.int .i64 sy) ∧ w'.cell? ⟨w2.heap.size, 0, none⟩ = some (.int .i64 px) ∧ w'.cell? ⟨w2.heap.size, 1, none⟩ = some (.int .i64 py) ∧ w'.cell? ⟨w14.heap.size, 0, none⟩ = some (.int .i64 ux) ∧ w'.cell? ⟨w14.heap.size, 1, none⟩ = some (.int .i64 uy) ∧ w'.cell? ⟨g, 0, none⟩ = some (.int .i64 vx) ∧ w'.cell? ⟨g, 1, none⟩ = some (.int .i64 vy) ∧ w23.heap.size ≤ w'.heap.size ∧ Below w23.heap.size w23 w')) (by kernel_rfl) ?_ ?_
                    · (refine ⟨?_, ?_, ?_, ?_, ?_, ?_, ?_, ?_, ?_, ?_, ?_, ?_, ?_, ?_, ?_, ?_⟩ <;> first | assumption | ((repeat' (first | (with_reducible exact Below.refl _ _) | (with_reducible assumption) | (with_reducible refine drewN_below ?_ _) | (with_reducible refine Below.drew ?_) | (with_reducible refine Below.alloc ?_ ?_ _) | (with_reducible refine Below.setCell ?_ ?_ _) | (simp; done) | omega | (simp; omega))); done) | (simp [*]; done) | (simp [go_sem, *]; done) | (simp; omega))
                    intro hH0
                    refine wpAnyH_take (i := 0) (v := ?_) rfl (by kernel_rfl) (by kernel_rfl) (by kernel_rfl) (fun _ _ _ h => h) (Or.inl ⟨by rfl, ?_⟩) (by assumption) ?_
                    rotate_left
                    focus (intro wq hSq; (try dsimp only at hSq); go_simp; first | done | (with_reducible rfl))
                    (try simp only [Act.put, List.getElem_toArray, List.getElem_cons_zero, List.setIfInBounds_toArray, List.set_cons_zero, List.set_cons_succ])
                    refine wpAnyH_take (i := 1) (v := ?_) rfl (by kernel_rfl) (by kernel_rfl) (by kernel_rfl) (fun _ _ _ h => h) (Or.inl ⟨by rfl, ?_⟩) (by assumption) ?_
                    rotate_left
                    focus (intro wq hSq; (try dsimp only at hSq); go_simp; first | done | (with_reducible rfl))
                    (try simp only [Act.put, List.getElem_toArray, List.getElem_cons_succ, List.getElem_cons_zero, List.setIfInBounds_toArray, List.set_cons_zero, List.set_cons_succ])
                    refine wpAnyH_ready (rs := [2]) (by kernel_rfl) (by simp) ?_
                    refine AllReadyH.cons rfl (fun K hK => ?_) AllReadyH.nil
                    rw [if_pos (by rfl)]
                    go_simp
                    refine (div_any _ _ _ _ _).mono ?_
                    rintro e wr ⟨rfl, hbr⟩
                    obtain ⟨hcr, hfr, hzr, hBr⟩ := after (a := w23) (B := w23.heap.size) (w23.heap.size) hbr (by first | (with_reducible assumption) | (simp; done) | omega | (simp; omega)) (by repeat' (first | (with_reducible exact Below.refl _ _) | (with_reducible assumption) | (with_reducible refine drewN_below ?_ _) | (with_reducible refine Below.drew ?_) | (with_reducible refine Below.alloc ?_ ?_ _) | (with_reducible refine Below.setCell ?_ ?_ _) | (simp; done) | omega | (simp; omega))) (by omega)
                    have yA := Nat.lt_of_lt_of_le xA hzr
                    have yB := Nat.lt_of_lt_of_le xB hzr
                    have yC := Nat.lt_of_lt_of_le xC hzr
                    have yS := Nat.lt_of_lt_of_le xS hzr
                    have yP := Nat.lt_of_lt_of_le xP hzr
                    have yX := Nat.lt_of_lt_of_le xX hzr
                    have yY := Nat.lt_of_lt_of_le xY hzr
                    rw [hd.out]
                    dsimp only
                    refine hK.out _ _ ?_ (fun hHeld => ?_)
                    · (refine ⟨?_, ?_, ?_, ?_, ?_, ?_, ?_, ?_, ?_, ?_, ?_, ?_, ?_, ?_, ?_, ?_⟩ <;> first | assumption | ((repeat' (first | (with_reducible exact Below.refl _ _) | (with_reducible assumption) | (with_reducible refine drewN_below ?_ _) | (with_reducible refine Below.drew ?_) | (with_reducible refine Below.alloc ?_ ?_ _) | (with_reducible refine Below.setCell ?_ ?_ _) | (simp; done) | omega | (simp; omega))); done) | (simp [*]; done) | (simp [go_sem, *]; done) | (simp; omega))
                    clear hK K
                    (try simp only [Act.put, List.getElem_toArray, List.getElem_cons_succ, List.getElem_cons_zero, List.setIfInBounds_toArray, List.set_cons_zero, List.set_cons_succ])
                    refine wpAnyH_ready (rs := [3]) (by kernel_rfl) (by simp) ?_
                    refine AllReadyH.cons rfl (fun K hK => ?_) AllReadyH.nil
                    rw [if_pos (by rfl)]
                    go_simp
                    refine hK.out _ _ ?_ (fun hHeld => ?_)
                    · (refine ⟨?_, ?_, ?_, ?_, ?_, ?_, ?_, ?_, ?_, ?_, ?_, ?_, ?_, ?_, ?_, ?_⟩ <;> first | assumption | ((repeat' (first | (with_reducible exact Below.refl _ _) | (with_reducible assumption) | (with_reducible refine drewN_below ?_ _) | (with_reducible refine Below.drew ?_) | (with_reducible refine Below.alloc ?_ ?_ _) | (with_reducible refine Below.setCell ?_ ?_ _) | (simp; done) | omega | (simp; omega))); done) | (simp [*]; done) | (simp [go_sem, *]; done) | (simp; omega))
                    clear hK K
                    (try simp only [Act.put, List.getElem_toArray, List.getElem_cons_succ, List.getElem_cons_zero, List.setIfInBounds_toArray, List.set_cons_zero, List.set_cons_succ])
                    refine wpAnyH_ready (rs := [4]) (by kernel_rfl) (by simp) ?_
                    refine AllReadyH.cons rfl (fun K hK => ?_) AllReadyH.nil
                    rw [if_pos (by rfl)]
                    go_simp
                    refine (numbers1 dx dy _ _ (by simp [go_sem, *]) (by simp [go_sem, *]) (by simp)).mono ?_
                    rintro e wr ⟨rfl, hbr⟩
                    obtain ⟨hcr, hfr, hzr, hBr⟩ := after (a := w23) (B := w23.heap.size) (w23.heap.size) hbr (by first | (with_reducible assumption) | (simp; done) | omega | (simp; omega)) (by repeat' (first | (with_reducible exact Below.refl _ _) | (with_reducible assumption) | (with_reducible refine drewN_below ?_ _) | (with_reducible refine Below.drew ?_) | (with_reducible refine Below.alloc ?_ ?_ _) | (with_reducible refine Below.setCell ?_ ?_ _) | (simp; done) | omega | (simp; omega))) (by omega)
                    have yA := Nat.lt_of_lt_of_le xA hzr
                    have yB := Nat.lt_of_lt_of_le xB hzr
                    have yC := Nat.lt_of_lt_of_le xC hzr
                    have yS := Nat.lt_of_lt_of_le xS hzr
                    have yP := Nat.lt_of_lt_of_le xP hzr
                    have yX := Nat.lt_of_lt_of_le xX hzr
                    have yY := Nat.lt_of_lt_of_le xY hzr
                    rw [hq]
                    dsimp only
                    refine hK.out _ _ ?_ (fun hHeld => ?_)
                    · (refine ⟨?_, ?_, ?_, ?_, ?_, ?_, ?_, ?_, ?_, ?_, ?_, ?_, ?_, ?_, ?_, ?_⟩ <;> first | assumption | ((repeat' (first | (with_reducible exact Below.refl _ _) | (with_reducible assumption) | (with_reducible refine drewN_below ?_ _) | (with_reducible refine Below.drew ?_) | (with_reducible refine Below.alloc ?_ ?_ _) | (with_reducible refine Below.setCell ?_ ?_ _) | (simp; done) | omega | (simp; omega))); done) | (simp [*]; done) | (simp [go_sem, *]; done) | (simp; omega))
                    clear hK K
                    (try simp only [Act.put, List.getElem_toArray, List.getElem_cons_succ, List.getElem_cons_zero, List.setIfInBounds_toArray, List.set_cons_zero, List.set_cons_succ])
                    refine wpAnyH_take (i := 5) (v := ?_) rfl (by kernel_rfl) (by kernel_rfl) (by kernel_rfl) (fun _ _ _ h => h) (Or.inl ⟨by rfl, ?_⟩) (by assumption) ?_
                    rotate_left
                    focus (intro wq hSq; (try dsimp only at hSq); go_simp; first | done | (with_reducible rfl))
                    (try simp only [Act.put, List.getElem_toArray, List.getElem_cons_succ, List.getElem_cons_zero, List.setIfInBounds_toArray, List.set_cons_zero, List.set_cons_succ])
                    refine wpAnyH_take (i := 6) (v := undef) rfl (by kernel_rfl) (by kernel_rfl) (by kernel_rfl) (fun _ _ _ h => h) (Or.inr ⟨by rfl, rfl⟩) (by assumption) ?_
                    (try simp only [Act.put, List.getElem_toArray, List.getElem_cons_succ, List.getElem_cons_zero, List.setIfInBounds_toArray, List.set_cons_zero, List.set_cons_succ])
                    refine wpAnyH_take (i := 7) (v := undef) rfl (by kernel_rfl) (by kernel_rfl) (by kernel_rfl) (fun _ _ _ h => h) (Or.inr ⟨by rfl, rfl⟩) (by assumption) ?_
                    (try simp only [Act.put, List.getElem_toArray, List.getElem_cons_succ, List.getElem_cons_zero, List.setIfInBounds_toArray, List.set_cons_zero, List.set_cons_succ])
                    refine wpAnyH_take (i := 9) (v := undef) rfl (by kernel_rfl) (by kernel_rfl) (by kernel_rfl) (fun _ _ _ h => h) (Or.inr ⟨by rfl, rfl⟩) (by assumption) ?_
                    (try simp only [Act.put, List.getElem_toArray, List.getElem_cons_succ, List.getElem_cons_zero, List.setIfInBounds_toArray, List.set_cons_zero, List.set_cons_succ])
                    refine wpAnyH_take (i := 11) (v := undef) rfl (by kernel_rfl) (by kernel_rfl) (by kernel_rfl) (fun _ _ _ h => h) (Or.inr ⟨by rfl, rfl⟩) (by assumption) ?_
                    (try simp only [Act.put, List.getElem_toArray, List.getElem_cons_succ, List.getElem_cons_zero, List.setIfInBounds_toArray, List.set_cons_zero, List.set_cons_succ])
                    refine wpAnyH_take (i := 8) (v := undef) rfl (by kernel_rfl) (by kernel_rfl) (by kernel_rfl) (fun _ _ _ h => h) (Or.inr ⟨by rfl, rfl⟩) (by assumption) ?_
                    (try simp only [Act.put, List.getElem_toArray, List.getElem_cons_succ, List.getElem_cons_zero, List.setIfInBounds_toArray, List.set_cons_zero, List.set_cons_succ])
                    refine wpAnyH_take (i := 10) (v := undef) rfl (by kernel_rfl) (by kernel_rfl) (by kernel_rfl) (fun _ _ _ h => h) (Or.inr ⟨by rfl, rfl⟩) (by assumption) ?_
                    (try simp only [Act.put, List.getElem_toArray, List.getElem_cons_succ, List.getElem_cons_zero, List.setIfInBounds_toArray, List.set_cons_zero, List.set_cons_succ])
                    refine wpAnyH_take (i := 12) (v := undef) rfl (by kernel_rfl) (by kernel_rfl) (by kernel_rfl) (fun _ _ _ h => h) (Or.inr ⟨by rfl, rfl⟩) (by assumption) ?_
                    (try simp only [Act.put, List.getElem_toArray, List.getElem_cons_succ, List.getElem_cons_zero, List.setIfInBounds_toArray, List.set_cons_zero, List.set_cons_succ])
                    refine wpAnyH_take (i := 13) (v := undef) rfl (by kernel_rfl) (by kernel_rfl) (by kernel_rfl) (fun _ _ _ h => h) (Or.inr ⟨by rfl, rfl⟩) (by assumption) ?_
                    (try simp only [Act.put, List.getElem_toArray, List.getElem_cons_succ, List.getElem_cons_zero, List.setIfInBounds_toArray, List.set_cons_zero, List.set_cons_succ])
                    refine wpAnyH_take (i := 14) (v := ?_) rfl (by kernel_rfl) (by kernel_rfl) (by kernel_rfl) (fun _ _ _ h => h) (Or.inl ⟨by rfl, ?_⟩) (by assumption) ?_
                    rotate_left
                    focus (intro wq hSq; (try dsimp only at hSq); go_simp; first | done | (with_reducible rfl))
                    (try simp only [Act.put, List.getElem_toArray, List.getElem_cons_succ, List.getElem_cons_zero, List.setIfInBounds_toArray, List.set_cons_zero, List.set_cons_succ])
                    refine wpAnyH_done (by kernel_rfl) ?_ _
                    obtain ⟨s0, s1, s2, s3, s4, s5, s6, s7, s8, s9, s10, s11, s12, s13, s14, s15⟩ := (by assumption : wr.cell? ⟨w.heap.size, 0, none⟩ = some (.int .i64 an) ∧ wr.cell? ⟨w.heap.size, 1, none⟩ = some (.int .i64 ad) ∧ wr.cell? ⟨w.heap.size + 1, 0, none⟩ = some (.int .i64 bn) ∧ wr.cell? ⟨w.heap.size + 1, 1, none⟩ = some (.int .i64 bd) ∧ wr.cell? ⟨w.heap.size + 2, 0, none⟩ = some (.int .i64 cn) ∧ wr.cell? ⟨w.heap.size + 2, 1, none⟩ = some (.int .i64 cd) ∧ wr.cell? ⟨w1.heap.size, 0, none⟩ = some (.int .i64 sx) ∧ wr.cell? ⟨w1.heap.size, 1, none⟩ = some (.int .i64 sy) ∧ wr.cell? ⟨w2.heap.size, 0, none⟩ = some (.int .i64 px) ∧ wr.cell? ⟨w2.heap.size, 1, none⟩ = some (.int .i64 py) ∧ wr.cell? ⟨w14.heap.size, 0, none⟩ = some (.int .i64 ux) ∧ wr.cell? ⟨w14.heap.size, 1, none⟩ = some (.int .i64 uy) ∧ wr.cell? ⟨g, 0, none⟩ = some (.int .i64 vx) ∧ wr.cell? ⟨g, 1, none⟩ = some (.int .i64 vy) ∧ w23.heap.size ≤ wr.heap.size ∧ Below w23.heap.size w23 wr)
                    have cA0w24 := s0
                    have cA1w24 := s1
                    have cB0w24 := s2
                    have cB1w24 := s3
                    have cC0w24 := s4
                    have cC1w24 := s5
                    have cS0w24 := s6
                    have cS1w24 := s7
                    have cP0w24 := s8
                    have cP1w24 := s9
                    have cX0w24 := s10
                    have cX1w24 := s11
                    have cY0w24 := s12
                    have cY1w24 := s13
                    have bAw24 : w.heap.size < wr.heap.size := Nat.lt_of_lt_of_le xA s14
                    have dAw24 : w.heap.size < wr.heap.size + 1 := Nat.lt_succ_of_lt bAw24
                    have bBw24 : w.heap.size + 1 < wr.heap.size := Nat.lt_of_lt_of_le xB s14
                    have dBw24 : w.heap.size + 1 < wr.heap.size + 1 := Nat.lt_succ_of_lt bBw24
                    have bCw24 : w.heap.size + 2 < wr.heap.size := Nat.lt_of_lt_of_le xC s14
                    have dCw24 : w.heap.size + 2 < wr.heap.size + 1 := Nat.lt_succ_of_lt bCw24
                    have bSw24 : w1.heap.size < wr.heap.size := Nat.lt_of_lt_of_le xS s14
                    have dSw24 : w1.heap.size < wr.heap.size + 1 := Nat.lt_succ_of_lt bSw24
                    have bPw24 : w2.heap.size < wr.heap.size := Nat.lt_of_lt_of_le xP s14
                    have dPw24 : w2.heap.size < wr.heap.size + 1 := Nat.lt_succ_of_lt bPw24
                    have bXw24 : w14.heap.size < wr.heap.size := Nat.lt_of_lt_of_le xX s14
                    have dXw24 : w14.heap.size < wr.heap.size + 1 := Nat.lt_succ_of_lt bXw24
                    have bYw24 : g < wr.heap.size := Nat.lt_of_lt_of_le xY s14
                    have dYw24 : g < wr.heap.size + 1 := Nat.lt_succ_of_lt bYw24
                    have hBw24 : Below w.heap.size w wr := Below.trans hBw23 (s15.mono hBw23.size)
                    have zw24 : w.heap.size ≤ wr.heap.size := hBw24.size
                    clear s0 s1 s2 s3 s4 s5 s6 s7 s8 s9 s10 s11 s12 s13 s14 s15 xA xB xC xS xP xX xY hcr hfr hzr hBr hbr zw23 dYw23 dXw23 dPw23 dSw23 dCw23 dBw23 dAw23 hBw23 bYw23 cY1w23 cY0w23 bXw23 cX1w23 cX0w23 bPw23 cP1w23 cP0w23 bSw23 cS1w23 cS0w23 bCw23 cC1w23 cC0w23 bBw23 cB1w23 cB0w23 bAw23 cA1w23 cA0w23
                    repeat (clear hcr hfr hzr hBr hbr)
                    skip
                    obtain ⟨w24, ew24⟩ : ∃ x, x = wr := ⟨_, rfl⟩
                    subst ew24
                    go_wp2_with fail
                    go_meet
                    (refine ⟨rfl, ?_, ?_, ?_, ?_, ?_, ?_, ?_, ?_, ?_, ?_, ?_, ?_, ?_, ?_, ?_, ?_, ?_, ?_, ?_, ?_, ?_, ?_⟩ <;> first | assumption | (simp [go_sem, *]; done) | omega | (simp; omega) | (repeat' (first | (with_reducible exact Below.refl _ _) | (with_reducible assumption) | (with_reducible refine drewN_below ?_ _) | (with_reducible refine Below.drew ?_) | (with_reducible refine Below.alloc ?_ ?_ _) | (with_reducible refine Below.setCell ?_ ?_ _) | (simp; done) | omega | (simp; omega))))
                  · skip
                    have hE := L4.out hq
                    simp only [Prod.mk.injEq] at hE
                    obtain ⟨E1, E2⟩ := hE
                    subst E1 E2
                    have xA : w.heap.size < w23.heap.size := by omega
                    have xB : w.heap.size + 1 < w23.heap.size := by omega
                    have xC : w.heap.size + 2 < w23.heap.size := by omega
                    have xS : w1.heap.size < w23.heap.size := by omega
                    have xP : w2.heap.size < w23.heap.size := by omega
                    have xX : w14.heap.size < w23.heap.size := by omega
                    have xY : g < w23.heap.size := by omega
                    refine wp_region_held_drew (S := (fun w' => w'.cell? ⟨w.heap.size, 0, none⟩ = some (.int .i64 an) ∧ w'.cell? ⟨w.heap.size, 1, none⟩ = some (.int .i64 ad) ∧ w'.cell? ⟨w.heap.size + 1, 0, none⟩ = some (.int .i64 bn) ∧ w'.cell? ⟨w.heap.size + 1, 1, none⟩ = some (.int .i64 bd) ∧ w'.cell? ⟨w.heap.size + 2, 0, none⟩ = some (.int .i64 cn) ∧ w'.cell? ⟨w.heap.size + 2, 1, none⟩ = some (.int .i64 cd) ∧ w'.cell? ⟨w1.heap.size, 0, none⟩ = some (.int .i64 sx) ∧ w'.cell? ⟨w1.heap.size, 1, none⟩ = some (.int .i64 sy) ∧ w'.cell? ⟨w2.heap.size, 0, none⟩ = some (.int .i64 px) ∧ w'.cell? ⟨w2.heap.size, 1, none⟩ = some (.int .i64 py) ∧ w'.cell? ⟨w14.heap.size, 0, none⟩ = some (.int .i64 ux) ∧ w'.cell? ⟨w14.heap.size, 1, none⟩ = some (.int .i64 uy) ∧ w'.cell? ⟨g, 0, none⟩ = some (.int .i64 vx) ∧ w'.cell? ⟨g, 1, none⟩ = some (.int .i64 vy) ∧ w23.heap.size ≤ w'.heap.size ∧ Below w23.heap.size w23 w')) (by kernel_rfl) ?_ ?_
                    · (refine ⟨?_, ?_, ?_, ?_, ?_, ?_, ?_, ?_, ?_, ?_, ?_, ?_, ?_, ?_, ?_, ?_⟩ <;> first | assumption | ((repeat' (first | (with_reducible exact Below.refl _ _) | (with_reducible assumption) | (with_reducible refine drewN_below ?_ _) | (with_reducible refine Below.drew ?_) | (with_reducible refine Below.alloc ?_ ?_ _) | (with_reducible refine Below.setCell ?_ ?_ _) | (simp; done) | omega | (simp; omega))); done) | (simp [*]; done) | (simp [go_sem, *]; done) | (simp; omega))
                    intro hH0
                    refine wpAnyH_take (i := 0) (v := ?_) rfl (by kernel_rfl) (by kernel_rfl) (by kernel_rfl) (fun _ _ _ h => h) (Or.inl ⟨by rfl, ?_⟩) (by assumption) ?_
                    rotate_left
                    focus (intro wq hSq; (try dsimp only at hSq); go_simp; first | done | (with_reducible rfl))
                    (try simp only [Act.put, List.getElem_toArray, List.getElem_cons_zero, List.setIfInBounds_toArray, List.set_cons_zero, List.set_cons_succ])
                    refine wpAnyH_take (i := 1) (v := ?_) rfl (by kernel_rfl) (by kernel_rfl) (by kernel_rfl) (fun _ _ _ h => h) (Or.inl ⟨by rfl, ?_⟩) (by assumption) ?_
                    rotate_left
                    focus (intro wq hSq; (try dsimp only at hSq); go_simp; first | done | (with_reducible rfl))
                    (try simp only [Act.put, List.getElem_toArray, List.getElem_cons_succ, List.getElem_cons_zero, List.setIfInBounds_toArray, List.set_cons_zero, List.set_cons_succ])
                    refine wpAnyH_ready (rs := [2]) (by kernel_rfl) (by simp) ?_
                    refine AllReadyH.cons rfl (fun K hK => ?_) AllReadyH.nil
                    rw [if_pos (by rfl)]
                    go_simp
                    refine (div_any _ _ _ _ _).mono ?_
                    rintro e wr ⟨rfl, hbr⟩
                    obtain ⟨hcr, hfr, hzr, hBr⟩ := after (a := w23) (B := w23.heap.size) (w23.heap.size) hbr (by first | (with_reducible assumption) | (simp; done) | omega | (simp; omega)) (by repeat' (first | (with_reducible exact Below.refl _ _) | (with_reducible assumption) | (with_reducible refine drewN_below ?_ _) | (with_reducible refine Below.drew ?_) | (with_reducible refine Below.alloc ?_ ?_ _) | (with_reducible refine Below.setCell ?_ ?_ _) | (simp; done) | omega | (simp; omega))) (by omega)
                    have yA := Nat.lt_of_lt_of_le xA hzr
                    have yB := Nat.lt_of_lt_of_le xB hzr
                    have yC := Nat.lt_of_lt_of_le xC hzr
                    have yS := Nat.lt_of_lt_of_le xS hzr
                    have yP := Nat.lt_of_lt_of_le xP hzr
                    have yX := Nat.lt_of_lt_of_le xX hzr
                    have yY := Nat.lt_of_lt_of_le xY hzr
                    rw [hd.out]
                    dsimp only
                    refine hK.out _ _ ?_ (fun hHeld => ?_)
                    · (refine ⟨?_, ?_, ?_, ?_, ?_, ?_, ?_, ?_, ?_, ?_, ?_, ?_, ?_, ?_, ?_, ?_⟩ <;> first | assumption | ((repeat' (first | (with_reducible exact Below.refl _ _) | (with_reducible assumption) | (with_reducible refine drewN_below ?_ _) | (with_reducible refine Below.drew ?_) | (with_reducible refine Below.alloc ?_ ?_ _) | (with_reducible refine Below.setCell ?_ ?_ _) | (simp; done) | omega | (simp; omega))); done) | (simp [*]; done) | (simp [go_sem, *]; done) | (simp; omega))
                    clear hK K
                    (try simp only [Act.put, List.getElem_toArray, List.getElem_cons_succ, List.getElem_cons_zero, List.setIfInBounds_toArray, List.set_cons_zero, List.set_cons_succ])
                    refine wpAnyH_ready (rs := [3]) (by kernel_rfl) (by simp) ?_
                    refine AllReadyH.cons rfl (fun K hK => ?_) AllReadyH.nil
                    rw [if_pos (by rfl)]
                    go_simp
                    refine hK.out _ _ ?_ (fun hHeld => ?_)
                    · (refine ⟨?_, ?_, ?_, ?_, ?_, ?_, ?_, ?_, ?_, ?_, ?_, ?_, ?_, ?_, ?_, ?_⟩ <;> first | assumption | ((repeat' (first | (with_reducible exact Below.refl _ _) | (with_reducible assumption) | (with_reducible refine drewN_below ?_ _) | (with_reducible refine Below.drew ?_) | (with_reducible refine Below.alloc ?_ ?_ _) | (with_reducible refine Below.setCell ?_ ?_ _) | (simp; done) | omega | (simp; omega))); done) | (simp [*]; done) | (simp [go_sem, *]; done) | (simp; omega))
                    clear hK K
                    (try simp only [Act.put, List.getElem_toArray, List.getElem_cons_succ, List.getElem_cons_zero, List.setIfInBounds_toArray, List.set_cons_zero, List.set_cons_succ])
                    refine wpAnyH_ready (rs := [4]) (by kernel_rfl) (by simp) ?_
                    refine AllReadyH.cons rfl (fun K hK => ?_) AllReadyH.nil
                    rw [if_pos (by rfl)]
                    go_simp
                    refine (numbers1 dx dy _ _ (by simp [go_sem, *]) (by simp [go_sem, *]) (by simp)).mono ?_
                    rintro e wr ⟨rfl, hbr⟩
                    obtain ⟨hcr, hfr, hzr, hBr⟩ := after (a := w23) (B := w23.heap.size) (w23.heap.size) hbr (by first | (with_reducible assumption) | (simp; done) | omega | (simp; omega)) (by repeat' (first | (with_reducible exact Below.refl _ _) | (with_reducible assumption) | (with_reducible refine drewN_below ?_ _) | (with_reducible refine Below.drew ?_) | (with_reducible refine Below.alloc ?_ ?_ _) | (with_reducible refine Below.setCell ?_ ?_ _) | (simp; done) | omega | (simp; omega))) (by omega)
                    have yA := Nat.lt_of_lt_of_le xA hzr
                    have yB := Nat.lt_of_lt_of_le xB hzr
                    have yC := Nat.lt_of_lt_of_le xC hzr
                    have yS := Nat.lt_of_lt_of_le xS hzr
                    have yP := Nat.lt_of_lt_of_le xP hzr
                    have yX := Nat.lt_of_lt_of_le xX hzr
                    have yY := Nat.lt_of_lt_of_le xY hzr
                    rw [hq]
                    dsimp only
                    refine hK.out _ _ ?_ (fun hHeld => ?_)
                    · (refine ⟨?_, ?_, ?_, ?_, ?_, ?_, ?_, ?_, ?_, ?_, ?_, ?_, ?_, ?_, ?_, ?_⟩ <;> first | assumption | ((repeat' (first | (with_reducible exact Below.refl _ _) | (with_reducible assumption) | (with_reducible refine drewN_below ?_ _) | (with_reducible refine Below.drew ?_) | (with_reducible refine Below.alloc ?_ ?_ _) | (with_reducible refine Below.setCell ?_ ?_ _) | (simp; done) | omega | (simp; omega))); done) | (simp [*]; done) | (simp [go_sem, *]; done) | (simp; omega))
                    clear hK K
                    (try simp only [Act.put, List.getElem_toArray, List.getElem_cons_succ, List.getElem_cons_zero, List.setIfInBounds_toArray, List.set_cons_zero, List.set_cons_succ])
                    refine wpAnyH_take (i := 5) (v := ?_) rfl (by kernel_rfl) (by kernel_rfl) (by kernel_rfl) (fun _ _ _ h => h) (Or.inl ⟨by rfl, ?_⟩) (by assumption) ?_
                    rotate_left
                    focus (intro wq hSq; (try dsimp only at hSq); go_simp; first | done | (with_reducible rfl))
                    (try simp only [Act.put, List.getElem_toArray, List.getElem_cons_succ, List.getElem_cons_zero, List.setIfInBounds_toArray, List.set_cons_zero, List.set_cons_succ])
                    refine wpAnyH_take (i := 6) (v := ?_) rfl (by kernel_rfl) (by kernel_rfl) (by kernel_rfl) (fun _ _ _ h => h) (Or.inl ⟨by rfl, ?_⟩) (by assumption) ?_
                    rotate_left
                    focus (intro wq hSq; (try dsimp only at hSq); go_simp; first | done | (with_reducible rfl))
                    (try simp only [Act.put, List.getElem_toArray, List.getElem_cons_succ, List.getElem_cons_zero, List.setIfInBounds_toArray, List.set_cons_zero, List.set_cons_succ])
                    refine wpAnyH_take (i := 7) (v := ?_) rfl (by kernel_rfl) (by kernel_rfl) (by kernel_rfl) (fun _ _ _ h => h) (Or.inl ⟨by rfl, ?_⟩) (by assumption) ?_
                    rotate_left
                    focus (intro wq hSq; (try dsimp only at hSq); go_simp; first | done | (with_reducible rfl))
                    (try simp only [Act.put, List.getElem_toArray, List.getElem_cons_succ, List.getElem_cons_zero, List.setIfInBounds_toArray, List.set_cons_zero, List.set_cons_succ])
                    refine wpAnyH_take (i := 9) (v := ?_) rfl (by kernel_rfl) (by kernel_rfl) (by kernel_rfl) (fun _ _ _ h => h) (Or.inl ⟨by rfl, ?_⟩) (by assumption) ?_
                    rotate_left
                    focus (intro wq hSq; (try dsimp only at hSq); go_simp; first | done | (with_reducible rfl))
                    (try simp only [Act.put, List.getElem_toArray, List.getElem_cons_succ, List.getElem_cons_zero, List.setIfInBounds_toArray, List.set_cons_zero, List.set_cons_succ])
                    refine wpAnyH_take (i := 11) (v := ?_) rfl (by kernel_rfl) (by kernel_rfl) (by kernel_rfl) (fun _ _ _ h => h) (Or.inl ⟨by rfl, ?_⟩) (by assumption) ?_
                    rotate_left
                    focus (intro wq hSq; (try dsimp only at hSq); go_simp; first | done | (with_reducible rfl))
                    (try simp only [Act.put, List.getElem_toArray, List.getElem_cons_succ, List.getElem_cons_zero, List.setIfInBounds_toArray, List.set_cons_zero, List.set_cons_succ])
                    refine wpAnyH_ready (rs := [8]) (by kernel_rfl) (by simp) ?_
                    refine AllReadyH.cons rfl (fun K hK => ?_) AllReadyH.nil
                    rw [if_pos (by rfl)]
                    go_simp
                    refine (div_any _ _ _ _ _).mono ?_
                    rintro e wr ⟨rfl, hbr⟩
                    obtain ⟨hcr, hfr, hzr, hBr⟩ := after (a := w23) (B := w23.heap.size) (w23.heap.size) hbr (by first | (with_reducible assumption) | (simp; done) | omega | (simp; omega)) (by repeat' (first | (with_reducible exact Below.refl _ _) | (with_reducible assumption) | (with_reducible refine drewN_below ?_ _) | (with_reducible refine Below.drew ?_) | (with_reducible refine Below.alloc ?_ ?_ _) | (with_reducible refine Below.setCell ?_ ?_ _) | (simp; done) | omega | (simp; omega))) (by omega)
                    have yA := Nat.lt_of_lt_of_le xA hzr
                    have yB := Nat.lt_of_lt_of_le xB hzr
                    have yC := Nat.lt_of_lt_of_le xC hzr
                    have yS := Nat.lt_of_lt_of_le xS hzr
                    have yP := Nat.lt_of_lt_of_le xP hzr
                    have yX := Nat.lt_of_lt_of_le xX hzr
                    have yY := Nat.lt_of_lt_of_le xY hzr
                    rw [hd.out]
                    dsimp only
                    refine hK.out _ _ ?_ (fun hHeld => ?_)
                    · (refine ⟨?_, ?_, ?_, ?_, ?_, ?_, ?_, ?_, ?_, ?_, ?_, ?_, ?_, ?_, ?_, ?_⟩ <;> first | assumption | ((repeat' (first | (with_reducible exact Below.refl _ _) | (with_reducible assumption) | (with_reducible refine drewN_below ?_ _) | (with_reducible refine Below.drew ?_) | (with_reducible refine Below.alloc ?_ ?_ _) | (with_reducible refine Below.setCell ?_ ?_ _) | (simp; done) | omega | (simp; omega))); done) | (simp [*]; done) | (simp [go_sem, *]; done) | (simp; omega))
                    clear hK K
                    (try simp only [Act.put, List.getElem_toArray, List.getElem_cons_succ, List.getElem_cons_zero, List.setIfInBounds_toArray, List.set_cons_zero, List.set_cons_succ])
                    refine wpAnyH_ready (rs := [10]) (by kernel_rfl) (by simp) ?_
                    refine AllReadyH.cons rfl (fun K hK => ?_) AllReadyH.nil
                    rw [if_pos (by rfl)]
                    go_simp
                    refine (mul_any _ _ _ _ _).mono ?_
                    rintro e wr ⟨rfl, hbr⟩
                    obtain ⟨hcr, hfr, hzr, hBr⟩ := after (a := w23) (B := w23.heap.size) (w23.heap.size) hbr (by first | (with_reducible assumption) | (simp; done) | omega | (simp; omega)) (by repeat' (first | (with_reducible exact Below.refl _ _) | (with_reducible assumption) | (with_reducible refine drewN_below ?_ _) | (with_reducible refine Below.drew ?_) | (with_reducible refine Below.alloc ?_ ?_ _) | (with_reducible refine Below.setCell ?_ ?_ _) | (simp; done) | omega | (simp; omega))) (by omega)
                    have yA := Nat.lt_of_lt_of_le xA hzr
                    have yB := Nat.lt_of_lt_of_le xB hzr
                    have yC := Nat.lt_of_lt_of_le xC hzr
                    have yS := Nat.lt_of_lt_of_le xS hzr
                    have yP := Nat.lt_of_lt_of_le xP hzr
                    have yX := Nat.lt_of_lt_of_le xX hzr
                    have yY := Nat.lt_of_lt_of_le xY hzr
                    rw [hk.out]
                    dsimp only
                    refine hK.out _ _ ?_ (fun hHeld => ?_)
                    · (refine ⟨?_, ?_, ?_, ?_, ?_, ?_, ?_, ?_, ?_, ?_, ?_, ?_, ?_, ?_, ?_, ?_⟩ <;> first | assumption | ((repeat' (first | (with_reducible exact Below.refl _ _) | (with_reducible assumption) | (with_reducible refine drewN_below ?_ _) | (with_reducible refine Below.drew ?_) | (with_reducible refine Below.alloc ?_ ?_ _) | (with_reducible refine Below.setCell ?_ ?_ _) | (simp; done) | omega | (simp; omega))); done) | (simp [*]; done) | (simp [go_sem, *]; done) | (simp; omega))
                    clear hK K
                    (try simp only [Act.put, List.getElem_toArray, List.getElem_cons_succ, List.getElem_cons_zero, List.setIfInBounds_toArray, List.set_cons_zero, List.set_cons_succ])
                    refine wpAnyH_ready (rs := [12]) (by kernel_rfl) (by simp) ?_
                    refine AllReadyH.cons rfl (fun K hK => ?_) AllReadyH.nil
                    rw [if_pos (by rfl)]
                    go_simp
                    refine (rclean_any _ _ _).mono ?_
                    rintro e wr ⟨rfl, hbr⟩
                    obtain ⟨hcr, hfr, hzr, hBr⟩ := after (a := w23) (B := w23.heap.size) (w23.heap.size) hbr (by first | (with_reducible assumption) | (simp; done) | omega | (simp; omega)) (by repeat' (first | (with_reducible exact Below.refl _ _) | (with_reducible assumption) | (with_reducible refine drewN_below ?_ _) | (with_reducible refine Below.drew ?_) | (with_reducible refine Below.alloc ?_ ?_ _) | (with_reducible refine Below.setCell ?_ ?_ _) | (simp; done) | omega | (simp; omega))) (by omega)
                    have yA := Nat.lt_of_lt_of_le xA hzr
                    have yB := Nat.lt_of_lt_of_le xB hzr
                    have yC := Nat.lt_of_lt_of_le xC hzr
                    have yS := Nat.lt_of_lt_of_le xS hzr
                    have yP := Nat.lt_of_lt_of_le xP hzr
                    have yX := Nat.lt_of_lt_of_le xX hzr
                    have yY := Nat.lt_of_lt_of_le xY hzr
                    rw [he.out]
                    dsimp only
                    refine hK.out _ _ ?_ (fun hHeld => ?_)
                    · (refine ⟨?_, ?_, ?_, ?_, ?_, ?_, ?_, ?_, ?_, ?_, ?_, ?_, ?_, ?_, ?_, ?_⟩ <;> first | assumption | ((repeat' (first | (with_reducible exact Below.refl _ _) | (with_reducible assumption) | (with_reducible refine drewN_below ?_ _) | (with_reducible refine Below.drew ?_) | (with_reducible refine Below.alloc ?_ ?_ _) | (with_reducible refine Below.setCell ?_ ?_ _) | (simp; done) | omega | (simp; omega))); done) | (simp [*]; done) | (simp [go_sem, *]; done) | (simp; omega))
                    clear hK K
                    (try simp only [Act.put, List.getElem_toArray, List.getElem_cons_succ, List.getElem_cons_zero, List.setIfInBounds_toArray, List.set_cons_zero, List.set_cons_succ])
                    refine wpAnyH_take (i := 13) (v := ?_) rfl (by kernel_rfl) (by kernel_rfl) (by kernel_rfl) (fun _ _ _ h => h) (Or.inl ⟨by rfl, ?_⟩) (by assumption) ?_
                    rotate_left
                    focus (intro wq hSq; (try dsimp only at hSq); go_simp; first | done | (with_reducible rfl))
                    (try simp only [Act.put, List.getElem_toArray, List.getElem_cons_succ, List.getElem_cons_zero, List.setIfInBounds_toArray, List.set_cons_zero, List.set_cons_succ])
                    refine wpAnyH_take (i := 14) (v := ?_) rfl (by kernel_rfl) (by kernel_rfl) (by kernel_rfl) (fun _ _ _ h => h) (Or.inl ⟨by rfl, ?_⟩) (by assumption) ?_
                    rotate_left
                    focus (intro wq hSq; (try dsimp only at hSq); go_simp; first | done | (with_reducible rfl))
                    (try simp only [Act.put, List.getElem_toArray, List.getElem_cons_succ, List.getElem_cons_zero, List.setIfInBounds_toArray, List.set_cons_zero, List.set_cons_succ])
                    refine wpAnyH_done (by kernel_rfl) ?_ _
                    obtain ⟨s0, s1, s2, s3, s4, s5, s6, s7, s8, s9, s10, s11, s12, s13, s14, s15⟩ := (by assumption : wr.cell? ⟨w.heap.size, 0, none⟩ = some (.int .i64 an) ∧ wr.cell? ⟨w.heap.size, 1, none⟩ = some (.int .i64 ad) ∧ wr.cell? ⟨w.heap.size + 1, 0, none⟩ = some (.int .i64 bn) ∧ wr.cell? ⟨w.heap.size + 1, 1, none⟩ = some (.int .i64 bd) ∧ wr.cell? ⟨w.heap.size + 2, 0, none⟩ = some (.int .i64 cn) ∧ wr.cell? ⟨w.heap.size + 2, 1, none⟩ = some (.int .i64 cd) ∧ wr.cell? ⟨w1.heap.size, 0, none⟩ = some (.int .i64 sx) ∧ wr.cell? ⟨w1.heap.size, 1, none⟩ = some (.int .i64 sy) ∧ wr.cell? ⟨w2.heap.size, 0, none⟩ = some (.int .i64 px) ∧ wr.cell? ⟨w2.heap.size, 1, none⟩ = some (.int .i64 py) ∧ wr.cell? ⟨w14.heap.size, 0, none⟩ = some (.int .i64 ux) ∧ wr.cell? ⟨w14.heap.size, 1, none⟩ = some (.int .i64 uy) ∧ wr.cell? ⟨g, 0, none⟩ = some (.int .i64 vx) ∧ wr.cell? ⟨g, 1, none⟩ = some (.int .i64 vy) ∧ w23.heap.size ≤ wr.heap.size ∧ Below w23.heap.size w23 wr)
                    have cA0w25 := s0
                    have cA1w25 := s1
                    have cB0w25 := s2
                    have cB1w25 := s3
                    have cC0w25 := s4
                    have cC1w25 := s5
                    have cS0w25 := s6
                    have cS1w25 := s7
                    have cP0w25 := s8
                    have cP1w25 := s9
                    have cX0w25 := s10
                    have cX1w25 := s11
                    have cY0w25 := s12
                    have cY1w25 := s13
                    have bAw25 : w.heap.size < wr.heap.size := Nat.lt_of_lt_of_le xA s14
                    have dAw25 : w.heap.size < wr.heap.size + 1 := Nat.lt_succ_of_lt bAw25
                    have bBw25 : w.heap.size + 1 < wr.heap.size := Nat.lt_of_lt_of_le xB s14
                    have dBw25 : w.heap.size + 1 < wr.heap.size + 1 := Nat.lt_succ_of_lt bBw25
                    have bCw25 : w.heap.size + 2 < wr.heap.size := Nat.lt_of_lt_of_le xC s14
                    have dCw25 : w.heap.size + 2 < wr.heap.size + 1 := Nat.lt_succ_of_lt bCw25
                    have bSw25 : w1.heap.size < wr.heap.size := Nat.lt_of_lt_of_le xS s14
                    have dSw25 : w1.heap.size < wr.heap.size + 1 := Nat.lt_succ_of_lt bSw25
                    have bPw25 : w2.heap.size < wr.heap.size := Nat.lt_of_lt_of_le xP s14
                    have dPw25 : w2.heap.size < wr.heap.size + 1 := Nat.lt_succ_of_lt bPw25
                    have bXw25 : w14.heap.size < wr.heap.size := Nat.lt_of_lt_of_le xX s14
                    have dXw25 : w14.heap.size < wr.heap.size + 1 := Nat.lt_succ_of_lt bXw25
                    have bYw25 : g < wr.heap.size := Nat.lt_of_lt_of_le xY s14
                    have dYw25 : g < wr.heap.size + 1 := Nat.lt_succ_of_lt bYw25
                    have hBw25 : Below w.heap.size w wr := Below.trans hBw23 (s15.mono hBw23.size)
                    have zw25 : w.heap.size ≤ wr.heap.size := hBw25.size
                    clear s0 s1 s2 s3 s4 s5 s6 s7 s8 s9 s10 s11 s12 s13 s14 s15 xA xB xC xS xP xX xY hcr hfr hzr hBr hbr zw23 dYw23 dXw23 dPw23 dSw23 dCw23 dBw23 dAw23 hBw23 bYw23 cY1w23 cY0w23 bXw23 cX1w23 cX0w23 bPw23 cP1w23 cP0w23 bSw23 cS1w23 cS0w23 bCw23 cC1w23 cC0w23 bBw23 cB1w23 cB0w23 bAw23 cA1w23 cA0w23
                    repeat (clear hcr hfr hzr hBr hbr)
                    skip
                    obtain ⟨w25, ew25⟩ : ∃ x, x = wr := ⟨_, rfl⟩
                    subst ew25
                    go_wp2_with fail
                    go_meet
                    (refine ⟨rfl, ?_, ?_, ?_, ?_, ?_, ?_, ?_, ?_, ?_, ?_, ?_, ?_, ?_, ?_, ?_, ?_, ?_, ?_, ?_, ?_, ?_, ?_⟩ <;> first | assumption | (simp [go_sem, *]; done) | omega | (simp; omega) | (repeat' (first | (with_reducible exact Below.refl _ _) | (with_reducible assumption) | (with_reducible refine drewN_below ?_ _) | (with_reducible refine Below.drew ?_) | (with_reducible refine Below.alloc ?_ ?_ _) | (with_reducible refine Below.setCell ?_ ?_ _) | (simp; done) | omega | (simp; omega))))
                case rest =>
                  obtain ⟨rfl, cA0w26, cA1w26, bAw26, cB0w26, cB1w26, bBw26, cC0w26, cC1w26, bCw26, cS0w26, cS1w26, bSw26, cP0w26, cP1w26, bPw26, cX0w26, cX1w26, bXw26, cY0w26, cY1w26, bYw26, hBw26⟩ := hcut
                  have dAw26 : w.heap.size < wc.heap.size + 1 := Nat.lt_succ_of_lt bAw26
                  have dBw26 : w.heap.size + 1 < wc.heap.size + 1 := Nat.lt_succ_of_lt bBw26
                  have dCw26 : w.heap.size + 2 < wc.heap.size + 1 := Nat.lt_succ_of_lt bCw26
                  have dSw26 : w1.heap.size < wc.heap.size + 1 := Nat.lt_succ_of_lt bSw26
                  have dPw26 : w2.heap.size < wc.heap.size + 1 := Nat.lt_succ_of_lt bPw26
                  have dXw26 : w14.heap.size < wc.heap.size + 1 := Nat.lt_succ_of_lt bXw26
                  have dYw26 : g < wc.heap.size + 1 := Nat.lt_succ_of_lt bYw26
                  have zw26 : w.heap.size ≤ wc.heap.size := hBw26.size
                  obtain ⟨w26, ew26⟩ : ∃ x, x = wc := ⟨_, rfl⟩
                  subst ew26
                  clear zw23 dYw23 dXw23 dPw23 dSw23 dCw23 dBw23 dAw23 hBw23 bYw23 cY1w23 cY0w23 bXw23 cX1w23 cX0w23 bPw23 cP1w23 cP0w23 bSw23 cS1w23 cS0w23 bCw23 cC1w23 cC0w23 bBw23 cB1w23 cB0w23 bAw23 cA1w23 cA0w23
                  go_upto_region 17 with fail
                  go_cut [133] (fun s133 wx => s133 = .bool false ∧ wx.cell? ⟨w.heap.size, 0, none⟩ = some (.int .i64 an) ∧ wx.cell? ⟨w.heap.size, 1, none⟩ = some (.int .i64 ad) ∧ w.heap.size < wx.heap.size ∧ wx.cell? ⟨w.heap.size + 1, 0, none⟩ = some (.int .i64 bn) ∧ wx.cell? ⟨w.heap.size + 1, 1, none⟩ = some (.int .i64 bd) ∧ w.heap.size + 1 < wx.heap.size ∧ wx.cell? ⟨w.heap.size + 2, 0, none⟩ = some (.int .i64 cn) ∧ wx.cell? ⟨w.heap.size + 2, 1, none⟩ = some (.int .i64 cd) ∧ w.heap.size + 2 < wx.heap.size ∧ wx.cell? ⟨w1.heap.size, 0, none⟩ = some (.int .i64 sx) ∧ wx.cell? ⟨w1.heap.size, 1, none⟩ = some (.int .i64 sy) ∧ w1.heap.size < wx.heap.size ∧ wx.cell? ⟨w2.heap.size, 0, none⟩ = some (.int .i64 px) ∧ wx.cell? ⟨w2.heap.size, 1, none⟩ = some (.int .i64 py) ∧ w2.heap.size < wx.heap.size ∧ wx.cell? ⟨w14.heap.size, 0, none⟩ = some (.int .i64 ux) ∧ wx.cell? ⟨w14.heap.size, 1, none⟩ = some (.int .i64 uy) ∧ w14.heap.size < wx.heap.size ∧ wx.cell? ⟨g, 0, none⟩ = some (.int .i64 vx) ∧ wx.cell? ⟨g, 1, none⟩ = some (.int .i64 vy) ∧ g < wx.heap.size ∧ Below w.heap.size w wx)
                  case first =>
                    cases hq : (Q.isq an ad && Q.isq bn bd && Q.isq lx ly && Q.isq bx by')
                    · skip
                      have xA : w.heap.size < w26.heap.size := by omega
                      have xB : w.heap.size + 1 < w26.heap.size := by omega
                      have xC : w.heap.size + 2 < w26.heap.size := by omega
                      have xS : w1.heap.size < w26.heap.size := by omega
                      have xP : w2.heap.size < w26.heap.size := by omega
                      have xX : w14.heap.size < w26.heap.size := by omega
                      have xY : g < w26.heap.size := by omega
                      refine wp_region_held_drew (S := (fun w' => w'.cell? ⟨w.heap.size, 0, none⟩ = some (.int .i64 an) ∧ w'.cell? ⟨w.heap.size, 1, none⟩ = some (.int .i64 ad) ∧ w'.cell? ⟨w.heap.size + 1, 0, none⟩ = some (.int .i64 bn) ∧ w'.cell? ⟨w.heap.size + 1, 1, none⟩ = some (.int .i64 bd) ∧ w'.cell? ⟨w.heap.size + 2, 0, none⟩ = some (.int .i64 cn) ∧ w'.cell? ⟨w.heap.size + 2, 1, none⟩ = some (.int .i64 cd) ∧ w'.cell? ⟨w1.heap.size, 0, none⟩ = some (.int .i64 sx) ∧ w'.cell? ⟨w1.heap.size, 1, none⟩ = some (.int .i64 sy) ∧ w'.cell? ⟨w2.heap.size, 0, none⟩ = some (.int .i64 px) ∧ w'.cell? ⟨w2.heap.size, 1, none⟩ = some (.int .i64 py) ∧ w'.cell? ⟨w14.heap.size, 0, none⟩ = some (.int .i64 ux) ∧ w'.cell? ⟨w14.heap.size, 1, none⟩ = some (.int .i64 uy) ∧ w'.cell? ⟨g, 0, none⟩ = some (.int .i64 vx) ∧ w'.cell? ⟨g, 1, none⟩ = some (.int .i64 vy) ∧ w26.heap.size ≤ w'.heap.size ∧ Below w26.heap.size w26 w')) (by kernel_rfl) ?_ ?_
                      · (refine ⟨?_, ?_, ?_, ?_, ?_, ?_, ?_, ?_, ?_, ?_, ?_, ?_, ?_, ?_, ?_, ?_⟩ <;> first | assumption | ((repeat' (first | (with_reducible exact Below.refl _ _) | (with_reducible assumption) | (with_reducible refine drewN_below ?_ _) | (with_reducible refine Below.drew ?_) | (with_reducible refine Below.alloc ?_ ?_ _) | (with_reducible refine Below.setCell ?_ ?_ _) | (simp; done) | omega | (simp; omega))); done) | (simp [*]; done) | (simp [go_sem, *]; done) | (simp; omega))
                      intro hH0
                      refine wpAnyH_take (i := 0) (v := ?_) rfl (by kernel_rfl) (by kernel_rfl) (by kernel_rfl) (fun _ _ _ h => h) (Or.inl ⟨by rfl, ?_⟩) (by assumption) ?_
                      rotate_left
                      focus (intro wq hSq; (try dsimp only at hSq); go_simp; first | done | (with_reducible rfl))
                      (try simp only [Act.put, List.getElem_toArray, List.getElem_cons_zero, List.setIfInBounds_toArray, List.set_cons_zero, List.set_cons_succ])
                      refine wpAnyH_take (i := 1) (v := ?_) rfl (by kernel_rfl) (by kernel_rfl) (by kernel_rfl) (fun _ _ _ h => h) (Or.inl ⟨by rfl, ?_⟩) (by assumption) ?_
                      rotate_left
                      focus (intro wq hSq; (try dsimp only at hSq); go_simp; first | done | (with_reducible rfl))
                      (try simp only [Act.put, List.getElem_toArray, List.getElem_cons_succ, List.getElem_cons_zero, List.setIfInBounds_toArray, List.set_cons_zero, List.set_cons_succ])
                      refine wpAnyH_take (i := 2) (v := ?_) rfl (by kernel_rfl) (by kernel_rfl) (by kernel_rfl) (fun _ _ _ h => h) (Or.inl ⟨by rfl, ?_⟩) (by assumption) ?_
                      rotate_left
                      focus (intro wq hSq; (try dsimp only at hSq); go_simp; first | done | (with_reducible rfl))
                      (try simp only [Act.put, List.getElem_toArray, List.getElem_cons_succ, List.getElem_cons_zero, List.setIfInBounds_toArray, List.set_cons_zero, List.set_cons_succ])
                      refine wpAnyH_take (i := 3) (v := ?_) rfl (by kernel_rfl) (by kernel_rfl) (by kernel_rfl) (fun _ _ _ h => h) (Or.inl ⟨by rfl, ?_⟩) (by assumption) ?_
                      rotate_left
                      focus (intro wq hSq; (try dsimp only at hSq); go_simp; first | done | (with_reducible rfl))
                      (try simp only [Act.put, List.getElem_toArray, List.getElem_cons_succ, List.getElem_cons_zero, List.setIfInBounds_toArray, List.set_cons_zero, List.set_cons_succ])
                      refine wpAnyH_take (i := 5) (v := ?_) rfl (by kernel_rfl) (by kernel_rfl) (by kernel_rfl) (fun _ _ _ h => h) (Or.inl ⟨by rfl, ?_⟩) (by assumption) ?_
                      rotate_left
                      focus (intro wq hSq; (try dsimp only at hSq); go_simp; first | done | (with_reducible rfl))
                      (try simp only [Act.put, List.getElem_toArray, List.getElem_cons_succ, List.getElem_cons_zero, List.setIfInBounds_toArray, List.set_cons_zero, List.set_cons_succ])
                      refine wpAnyH_take (i := 6) (v := ?_) rfl (by kernel_rfl) (by kernel_rfl) (by kernel_rfl) (fun _ _ _ h => h) (Or.inl ⟨by rfl, ?_⟩) (by assumption) ?_
                      rotate_left
                      focus (intro wq hSq; (try dsimp only at hSq); go_simp; first | done | (with_reducible rfl))
                      (try simp only [Act.put, List.getElem_toArray, List.getElem_cons_succ, List.getElem_cons_zero, List.setIfInBounds_toArray, List.set_cons_zero, List.set_cons_succ])
                      refine wpAnyH_ready (rs := [4]) (by kernel_rfl) (by simp) ?_
                      refine AllReadyH.cons rfl (fun K hK => ?_) AllReadyH.nil
                      rw [if_pos (by rfl)]
                      go_simp
                      refine (add_any _ _ _ _ _).mono ?_
                      rintro e wr ⟨rfl, hbr⟩
                      obtain ⟨hcr, hfr, hzr, hBr⟩ := after (a := w26) (B := w26.heap.size) (w26.heap.size) hbr (by first | (with_reducible assumption) | (simp; done) | omega | (simp; omega)) (by repeat' (first | (with_reducible exact Below.refl _ _) | (with_reducible assumption) | (with_reducible refine drewN_below ?_ _) | (with_reducible refine Below.drew ?_) | (with_reducible refine Below.alloc ?_ ?_ _) | (with_reducible refine Below.setCell ?_ ?_ _) | (simp; done) | omega | (simp; omega))) (by omega)
                      have yA := Nat.lt_of_lt_of_le xA hzr
                      have yB := Nat.lt_of_lt_of_le xB hzr
                      have yC := Nat.lt_of_lt_of_le xC hzr
                      have yS := Nat.lt_of_lt_of_le xS hzr
                      have yP := Nat.lt_of_lt_of_le xP hzr
                      have yX := Nat.lt_of_lt_of_le xX hzr
                      have yY := Nat.lt_of_lt_of_le xY hzr
                      rw [hl.out]
                      dsimp only
                      refine hK.out _ _ ?_ (fun hHeld => ?_)
                      · (refine ⟨?_, ?_, ?_, ?_, ?_, ?_, ?_, ?_, ?_, ?_, ?_, ?_, ?_, ?_, ?_, ?_⟩ <;> first | assumption | ((repeat' (first | (with_reducible exact Below.refl _ _) | (with_reducible assumption) | (with_reducible refine drewN_below ?_ _) | (with_reducible refine Below.drew ?_) | (with_reducible refine Below.alloc ?_ ?_ _) | (with_reducible refine Below.setCell ?_ ?_ _) | (simp; done) | omega | (simp; omega))); done) | (simp [*]; done) | (simp [go_sem, *]; done) | (simp; omega))
                      clear hK K
                      (try simp only [Act.put, List.getElem_toArray, List.getElem_cons_succ, List.getElem_cons_zero, List.setIfInBounds_toArray, List.set_cons_zero, List.set_cons_succ])
                      refine wpAnyH_ready (rs := [7]) (by kernel_rfl) (by simp) ?_
                      refine AllReadyH.cons rfl (fun K hK => ?_) AllReadyH.nil
                      rw [if_pos (by rfl)]
                      go_simp
                      refine (add_any _ _ _ _ _).mono ?_
                      rintro e wr ⟨rfl, hbr⟩
                      obtain ⟨hcr, hfr, hzr, hBr⟩ := after (a := w26) (B := w26.heap.size) (w26.heap.size) hbr (by first | (with_reducible assumption) | (simp; done) | omega | (simp; omega)) (by repeat' (first | (with_reducible exact Below.refl _ _) | (with_reducible assumption) | (with_reducible refine drewN_below ?_ _) | (with_reducible refine Below.drew ?_) | (with_reducible refine Below.alloc ?_ ?_ _) | (with_reducible refine Below.setCell ?_ ?_ _) | (simp; done) | omega | (simp; omega))) (by omega)
                      have yA := Nat.lt_of_lt_of_le xA hzr
                      have yB := Nat.lt_of_lt_of_le xB hzr
                      have yC := Nat.lt_of_lt_of_le xC hzr
                      have yS := Nat.lt_of_lt_of_le xS hzr
                      have yP := Nat.lt_of_lt_of_le xP hzr
                      have yX := Nat.lt_of_lt_of_le xX hzr
                      have yY := Nat.lt_of_lt_of_le xY hzr
                      rw [hbc.out]
                      dsimp only
                      refine hK.out _ _ ?_ (fun hHeld => ?_)
                      · (refine ⟨?_, ?_, ?_, ?_, ?_, ?_, ?_, ?_, ?_, ?_, ?_, ?_, ?_, ?_, ?_, ?_⟩ <;> first | assumption | ((repeat' (first | (with_reducible exact Below.refl _ _) | (with_reducible assumption) | (with_reducible refine drewN_below ?_ _) | (with_reducible refine Below.drew ?_) | (with_reducible refine Below.alloc ?_ ?_ _) | (with_reducible refine Below.setCell ?_ ?_ _) | (simp; done) | omega | (simp; omega))); done) | (simp [*]; done) | (simp [go_sem, *]; done) | (simp; omega))
                      clear hK K
                      (try simp only [Act.put, List.getElem_toArray, List.getElem_cons_succ, List.getElem_cons_zero, List.setIfInBounds_toArray, List.set_cons_zero, List.set_cons_succ])
                      refine wpAnyH_ready (rs := [8]) (by kernel_rfl) (by simp) ?_
                      refine AllReadyH.cons rfl (fun K hK => ?_) AllReadyH.nil
                      rw [if_pos (by rfl)]
                      go_simp
                      refine hK.out _ _ ?_ (fun hHeld => ?_)
                      · (refine ⟨?_, ?_, ?_, ?_, ?_, ?_, ?_, ?_, ?_, ?_, ?_, ?_, ?_, ?_, ?_, ?_⟩ <;> first | assumption | ((repeat' (first | (with_reducible exact Below.refl _ _) | (with_reducible assumption) | (with_reducible refine drewN_below ?_ _) | (with_reducible refine Below.drew ?_) | (with_reducible refine Below.alloc ?_ ?_ _) | (with_reducible refine Below.setCell ?_ ?_ _) | (simp; done) | omega | (simp; omega))); done) | (simp [*]; done) | (simp [go_sem, *]; done) | (simp; omega))
                      clear hK K
                      (try simp only [Act.put, List.getElem_toArray, List.getElem_cons_succ, List.getElem_cons_zero, List.setIfInBounds_toArray, List.set_cons_zero, List.set_cons_succ])
                      refine wpAnyH_ready (rs := [9]) (by kernel_rfl) (by simp) ?_
                      refine AllReadyH.cons rfl (fun K hK => ?_) AllReadyH.nil
                      rw [if_pos (by rfl)]
                      go_simp
                      refine (numbers4 an ad bn bd lx ly bx by' _ _ (by simp [go_sem, *]) (by simp [go_sem, *]) (by simp [go_sem, *]) (by simp [go_sem, *]) (by simp [go_sem, *]) (by simp [go_sem, *]) (by simp [go_sem, *]) (by simp [go_sem, *]) (by simp)).mono ?_
                      rintro e wr ⟨rfl, hbr⟩
                      obtain ⟨hcr, hfr, hzr, hBr⟩ := after (a := w26) (B := w26.heap.size) (w26.heap.size) hbr (by first | (with_reducible assumption) | (simp; done) | omega | (simp; omega)) (by repeat' (first | (with_reducible exact Below.refl _ _) | (with_reducible assumption) | (with_reducible refine drewN_below ?_ _) | (with_reducible refine Below.drew ?_) | (with_reducible refine Below.alloc ?_ ?_ _) | (with_reducible refine Below.setCell ?_ ?_ _) | (simp; done) | omega | (simp; omega))) (by omega)
                      have yA := Nat.lt_of_lt_of_le xA hzr
                      have yB := Nat.lt_of_lt_of_le xB hzr
                      have yC := Nat.lt_of_lt_of_le xC hzr
                      have yS := Nat.lt_of_lt_of_le xS hzr
                      have yP := Nat.lt_of_lt_of_le xP hzr
                      have yX := Nat.lt_of_lt_of_le xX hzr
                      have yY := Nat.lt_of_lt_of_le xY hzr
                      rw [hq]
                      dsimp only
                      refine hK.out _ _ ?_ (fun hHeld => ?_)
                      · (refine ⟨?_, ?_, ?_, ?_, ?_, ?_, ?_, ?_, ?_, ?_, ?_, ?_, ?_, ?_, ?_, ?_⟩ <;> first | assumption | ((repeat' (first | (with_reducible exact Below.refl _ _) | (with_reducible assumption) | (with_reducible refine drewN_below ?_ _) | (with_reducible refine Below.drew ?_) | (with_reducible refine Below.alloc ?_ ?_ _) | (with_reducible refine Below.setCell ?_ ?_ _) | (simp; done) | omega | (simp; omega))); done) | (simp [*]; done) | (simp [go_sem, *]; done) | (simp; omega))
                      clear hK K
                      (try simp only [Act.put, List.getElem_toArray, List.getElem_cons_succ, List.getElem_cons_zero, List.setIfInBounds_toArray, List.set_cons_zero, List.set_cons_succ])
                      refine wpAnyH_take (i := 10) (v := ?_) rfl (by kernel_rfl) (by kernel_rfl) (by kernel_rfl) (fun _ _ _ h => h) (Or.inl ⟨by rfl, ?_⟩) (by assumption) ?_
                      rotate_left
                      focus (intro wq hSq; (try dsimp only at hSq); go_simp; first | done | (with_reducible rfl))
                      (try simp only [Act.put, List.getElem_toArray, List.getElem_cons_succ, List.getElem_cons_zero, List.setIfInBounds_toArray, List.set_cons_zero, List.set_cons_succ])
                      refine wpAnyH_take (i := 11) (v := undef) rfl (by kernel_rfl) (by kernel_rfl) (by kernel_rfl) (fun _ _ _ h => h) (Or.inr ⟨by rfl, rfl⟩) (by assumption) ?_
                      (try simp only [Act.put, List.getElem_toArray, List.getElem_cons_succ, List.getElem_cons_zero, List.setIfInBounds_toArray, List.set_cons_zero, List.set_cons_succ])
                      refine wpAnyH_take (i := 12) (v := undef) rfl (by kernel_rfl) (by kernel_rfl) (by kernel_rfl) (fun _ _ _ h => h) (Or.inr ⟨by rfl, rfl⟩) (by assumption) ?_
                      (try simp only [Act.put, List.getElem_toArray, List.getElem_cons_succ, List.getElem_cons_zero, List.setIfInBounds_toArray, List.set_cons_zero, List.set_cons_succ])
                      refine wpAnyH_take (i := 14) (v := undef) rfl (by kernel_rfl) (by kernel_rfl) (by kernel_rfl) (fun _ _ _ h => h) (Or.inr ⟨by rfl, rfl⟩) (by assumption) ?_
                      (try simp only [Act.put, List.getElem_toArray, List.getElem_cons_succ, List.getElem_cons_zero, List.setIfInBounds_toArray, List.set_cons_zero, List.set_cons_succ])
                      refine wpAnyH_take (i := 15) (v := undef) rfl (by kernel_rfl) (by kernel_rfl) (by kernel_rfl) (fun _ _ _ h => h) (Or.inr ⟨by rfl, rfl⟩) (by assumption) ?_
                      (try simp only [Act.put, List.getElem_toArray, List.getElem_cons_succ, List.getElem_cons_zero, List.setIfInBounds_toArray, List.set_cons_zero, List.set_cons_succ])
                      refine wpAnyH_take (i := 17) (v := undef) rfl (by kernel_rfl) (by kernel_rfl) (by kernel_rfl) (fun _ _ _ h => h) (Or.inr ⟨by rfl, rfl⟩) (by assumption) ?_
                      (try simp only [Act.put, List.getElem_toArray, List.getElem_cons_succ, List.getElem_cons_zero, List.setIfInBounds_toArray, List.set_cons_zero, List.set_cons_succ])
                      refine wpAnyH_take (i := 18) (v := undef) rfl (by kernel_rfl) (by kernel_rfl) (by kernel_rfl) (fun _ _ _ h => h) (Or.inr ⟨by rfl, rfl⟩) (by assumption) ?_
                      (try simp only [Act.put, List.getElem_toArray, List.getElem_cons_succ, List.getElem_cons_zero, List.setIfInBounds_toArray, List.set_cons_zero, List.set_cons_succ])
                      refine wpAnyH_take (i := 13) (v := undef) rfl (by kernel_rfl) (by kernel_rfl) (by kernel_rfl) (fun _ _ _ h => h) (Or.inr ⟨by rfl, rfl⟩) (by assumption) ?_
                      (try simp only [Act.put, List.getElem_toArray, List.getElem_cons_succ, List.getElem_cons_zero, List.setIfInBounds_toArray, List.set_cons_zero, List.set_cons_succ])
                      refine wpAnyH_take (i := 16) (v := undef) rfl (by kernel_rfl) (by kernel_rfl) (by kernel_rfl) (fun _ _ _ h => h) (Or.inr ⟨by rfl, rfl⟩) (by assumption) ?_
                      (try simp only [Act.put, List.getElem_toArray, List.getElem_cons_succ, List.getElem_cons_zero, List.setIfInBounds_toArray, List.set_cons_zero, List.set_cons_succ])
                      refine wpAnyH_take (i := 19) (v := undef) rfl (by kernel_rfl) (by kernel_rfl) (by kernel_rfl) (fun _ _ _ h => h) (Or.inr ⟨by rfl, rfl⟩) (by assumption) ?_
                      (try simp only [Act.put, List.getElem_toArray, List.getElem_cons_succ, List.getElem_cons_zero, List.setIfInBounds_toArray, List.set_cons_zero, List.set_cons_succ])
                      refine wpAnyH_take (i := 20) (v := undef) rfl (by kernel_rfl) (by kernel_rfl) (by kernel_rfl) (fun _ _ _ h => h) (Or.inr ⟨by rfl, rfl⟩) (by assumption) ?_
                      (try simp only [Act.put, List.getElem_toArray, List.getElem_cons_succ, List.getElem_cons_zero, List.setIfInBounds_toArray, List.set_cons_zero, List.set_cons_succ])
                      refine wpAnyH_take (i := 21) (v := undef) rfl (by kernel_rfl) (by kernel_rfl) (by kernel_rfl) (fun _ _ _ h => h) (Or.inr ⟨by rfl, rfl⟩) (by assumption) ?_
                      (try simp only [Act.put, List.getElem_toArray, List.getElem_cons_succ, List.getElem_cons_zero, List.setIfInBounds_toArray, List.set_cons_zero, List.set_cons_succ])
                      refine wpAnyH_take (i := 22) (v := ?_) rfl (by kernel_rfl) (by kernel_rfl) (by kernel_rfl) (fun _ _ _ h => h) (Or.inl ⟨by rfl, ?_⟩) (by assumption) ?_
                      rotate_left
                      focus (intro wq hSq; (try dsimp only at hSq); go_simp; first | done | (with_reducible rfl))
                      (try simp only [Act.put, List.getElem_toArray, List.getElem_cons_succ, List.getElem_cons_zero, List.setIfInBounds_toArray, List.set_cons_zero, List.set_cons_succ])
                      refine wpAnyH_done (by kernel_rfl) ?_ _
                      obtain ⟨s0, s1, s2, s3, s4, s5, s6, s7, s8, s9, s10, s11, s12, s13, s14, s15⟩ := (by assumption : wr.cell? ⟨w.heap.size, 0, none⟩ = some (.int .i64 an) ∧ wr.cell? ⟨w.heap.size, 1, none⟩ = some (.int .i64 ad) ∧ wr.cell? ⟨w.heap.size + 1, 0, none⟩ = some (.int .i64 bn) ∧ wr.cell? ⟨w.heap.size + 1, 1, none⟩ = some (.int .i64 bd) ∧ wr.cell? ⟨w.heap.size + 2, 0, none⟩ = some (.int .i64 cn) ∧ wr.cell? ⟨w.heap.size + 2, 1, none⟩ = some (.int .i64 cd) ∧ wr.cell? ⟨w1.heap.size, 0, none⟩ = some (.int .i64 sx) ∧ wr.cell? ⟨w1.heap.size, 1, none⟩ = some (.int .i64 sy) ∧ wr.cell? ⟨w2.heap.size, 0, none⟩ = some (.int .i64 px) ∧ wr.cell? ⟨w2.heap.size, 1, none⟩ = some (.int .i64 py) ∧ wr.cell? ⟨w14.heap.size, 0, none⟩ = some (.int .i64 ux) ∧ wr.cell? ⟨w14.heap.size, 1, none⟩ = some (.int .i64 uy) ∧ wr.cell? ⟨g, 0, none⟩ = some (.int .i64 vx) ∧ wr.cell? ⟨g, 1, none⟩ = some (.int .i64 vy) ∧ w26.heap.size ≤ wr.heap.size ∧ Below w26.heap.size w26 wr)
                      have cA0w27 := s0
                      have cA1w27 := s1
                      have cB0w27 := s2
                      have cB1w27 := s3
                      have cC0w27 := s4
                      have cC1w27 := s5
                      have cS0w27 := s6
                      have cS1w27 := s7
                      have cP0w27 := s8
                      have cP1w27 := s9
                      have cX0w27 := s10
                      have cX1w27 := s11
                      have cY0w27 := s12
                      have cY1w27 := s13
                      have bAw27 : w.heap.size < wr.heap.size := Nat.lt_of_lt_of_le xA s14
                      have dAw27 : w.heap.size < wr.heap.size + 1 := Nat.lt_succ_of_lt bAw27
                      have bBw27 : w.heap.size + 1 < wr.heap.size := Nat.lt_of_lt_of_le xB s14
                      have dBw27 : w.heap.size + 1 < wr.heap.size + 1 := Nat.lt_succ_of_lt bBw27
                      have bCw27 : w.heap.size + 2 < wr.heap.size := Nat.lt_of_lt_of_le xC s14
                      have dCw27 : w.heap.size + 2 < wr.heap.size + 1 := Nat.lt_succ_of_lt bCw27
                      have bSw27 : w1.heap.size < wr.heap.size := Nat.lt_of_lt_of_le xS s14
                      have dSw27 : w1.heap.size < wr.heap.size + 1 := Nat.lt_succ_of_lt bSw27
                      have bPw27 : w2.heap.size < wr.heap.size := Nat.lt_of_lt_of_le xP s14
                      have dPw27 : w2.heap.size < wr.heap.size + 1 := Nat.lt_succ_of_lt bPw27
                      have bXw27 : w14.heap.size < wr.heap.size := Nat.lt_of_lt_of_le xX s14
                      have dXw27 : w14.heap.size < wr.heap.size + 1 := Nat.lt_succ_of_lt bXw27
                      have bYw27 : g < wr.heap.size := Nat.lt_of_lt_of_le xY s14
                      have dYw27 : g < wr.heap.size + 1 := Nat.lt_succ_of_lt bYw27
                      have hBw27 : Below w.heap.size w wr := Below.trans hBw26 (s15.mono hBw26.size)
                      have zw27 : w.heap.size ≤ wr.heap.size := hBw27.size
                      clear s0 s1 s2 s3 s4 s5 s6 s7 s8 s9 s10 s11 s12 s13 s14 s15 xA xB xC xS xP xX xY hcr hfr hzr hBr hbr zw26 dYw26 dXw26 dPw26 dSw26 dCw26 dBw26 dAw26 hBw26 bYw26 cY1w26 cY0w26 bXw26 cX1w26 cX0w26 bPw26 cP1w26 cP0w26 bSw26 cS1w26 cS0w26 bCw26 cC1w26 cC0w26 bBw26 cB1w26 cB0w26 bAw26 cA1w26 cA0w26
                      repeat (clear hcr hfr hzr hBr hbr)
                      skip
                      obtain ⟨w27, ew27⟩ : ∃ x, x = wr := ⟨_, rfl⟩
                      subst ew27
                      go_wp2_with fail
                      go_meet
                      (refine ⟨rfl, ?_, ?_, ?_, ?_, ?_, ?_, ?_, ?_, ?_, ?_, ?_, ?_, ?_, ?_, ?_, ?_, ?_, ?_, ?_, ?_, ?_, ?_⟩ <;> first | assumption | (simp [go_sem, *]; done) | omega | (simp; omega) | (repeat' (first | (with_reducible exact Below.refl _ _) | (with_reducible assumption) | (with_reducible refine drewN_below ?_ _) | (with_reducible refine Below.drew ?_) | (with_reducible refine Below.alloc ?_ ?_ _) | (with_reducible refine Below.setCell ?_ ?_ _) | (simp; done) | omega | (simp; omega))))
                    · skip
                      have E1 := L5.out hq
                      subst E1
                      have xA : w.heap.size < w26.heap.size := by omega
                      have xB : w.heap.size + 1 < w26.heap.size := by omega
                      have xC : w.heap.size + 2 < w26.heap.size := by omega
                      have xS : w1.heap.size < w26.heap.size := by omega
                      have xP : w2.heap.size < w26.heap.size := by omega
                      have xX : w14.heap.size < w26.heap.size := by omega
                      have xY : g < w26.heap.size := by omega
                      refine wp_region_held_drew (S := (fun w' => w'.cell? ⟨w.heap.size, 0, none⟩ = some (.int .i64 an) ∧ w'.cell? ⟨w.heap.size, 1, none⟩ = some (.int .i64 ad) ∧ w'.cell? ⟨w.heap.size + 1, 0, none⟩ = some (.int .i64 bn) ∧ w'.cell? ⟨w.heap.size + 1, 1, none⟩ = some (.int .i64 bd) ∧ w'.cell? ⟨w.heap.size + 2, 0, none⟩ = some (.int .i64 cn) ∧ w'.cell? ⟨w.heap.size + 2, 1, none⟩ = some (.int .i64 cd) ∧ w'.cell? ⟨w1.heap.size, 0, none⟩ = some (.int .i64 sx) ∧ w'.cell? ⟨w1.heap.size, 1, none⟩ = some (.int .i64 sy) ∧ w'.cell? ⟨w2.heap.size, 0, none⟩ = some (.int .i64 px) ∧ w'.cell? ⟨w2.heap.size, 1, none⟩ = some (.int .i64 py) ∧ w'.cell? ⟨w14.heap.size, 0, none⟩ = some (.int .i64 ux) ∧ w'.cell? ⟨w14.heap.size, 1, none⟩ = some (.int .i64 uy) ∧ w'.cell? ⟨g, 0, none⟩ = some (.int .i64 vx) ∧ w'.cell? ⟨g, 1, none⟩ = some (.int .i64 vy) ∧ w26.heap.size ≤ w'.heap.size ∧ Below w26.heap.size w26 w')) (by kernel_rfl) ?_ ?_
                      · (refine ⟨?_, ?_, ?_, ?_, ?_, ?_, ?_, ?_, ?_, ?_, ?_, ?_, ?_, ?_, ?_, ?_⟩ <;> first | assumption | ((repeat' (first | (with_reducible exact Below.refl _ _) | (with_reducible assumption) | (with_reducible refine drewN_below ?_ _) | (with_reducible refine Below.drew ?_) | (with_reducible refine Below.alloc ?_ ?_ _) | (with_reducible refine Below.setCell ?_ ?_ _) | (simp; done) | omega | (simp; omega))); done) | (simp [*]; done) | (simp [go_sem, *]; done) | (simp; omega))
                      intro hH0
                      refine wpAnyH_take (i := 0) (v := ?_) rfl (by kernel_rfl) (by kernel_rfl) (by kernel_rfl) (fun _ _ _ h => h) (Or.inl ⟨by rfl, ?_⟩) (by assumption) ?_
                      rotate_left
                      focus (intro wq hSq; (try dsimp only at hSq); go_simp; first | done | (with_reducible rfl))
                      (try simp only [Act.put, List.getElem_toArray, List.getElem_cons_zero, List.setIfInBounds_toArray, List.set_cons_zero, List.set_cons_succ])
                      refine wpAnyH_take (i := 1) (v := ?_) rfl (by kernel_rfl) (by kernel_rfl) (by kernel_rfl) (fun _ _ _ h => h) (Or.inl ⟨by rfl, ?_⟩) (by assumption) ?_
                      rotate_left
                      focus (intro wq hSq; (try dsimp only at hSq); go_simp; first | done | (with_reducible rfl))
                      (try simp only [Act.put, List.getElem_toArray, List.getElem_cons_succ, List.getElem_cons_zero, List.setIfInBounds_toArray, List.set_cons_zero, List.set_cons_succ])
                      refine wpAnyH_take (i := 2) (v := ?_) rfl (by kernel_rfl) (by kernel_rfl) (by kernel_rfl) (fun _ _ _ h => h) (Or.inl ⟨by rfl, ?_⟩) (by assumption) ?_
                      rotate_left
                      focus (intro wq hSq; (try dsimp only at hSq); go_simp; first | done | (with_reducible rfl))
                      (try simp only [Act.put, List.getElem_toArray, List.getElem_cons_succ, List.getElem_cons_zero, List.setIfInBounds_toArray, List.set_cons_zero, List.set_cons_succ])
                      refine wpAnyH_take (i := 3) (v := ?_) rfl (by kernel_rfl) (by kernel_rfl) (by kernel_rfl) (fun _ _ _ h => h) (Or.inl ⟨by rfl, ?_⟩) (by assumption) ?_
                      rotate_left
                      focus (intro wq hSq; (try dsimp only at hSq); go_simp; first | done | (with_reducible rfl))
                      (try simp only [Act.put, List.getElem_toArray, List.getElem_cons_succ, List.getElem_cons_zero, List.setIfInBounds_toArray, List.set_cons_zero, List.set_cons_succ])
                      refine wpAnyH_take (i := 5) (v := ?_) rfl (by kernel_rfl) (by kernel_rfl) (by kernel_rfl) (fun _ _ _ h => h) (Or.inl ⟨by rfl, ?_⟩) (by assumption) ?_
                      rotate_left
                      focus (intro wq hSq; (try dsimp only at hSq); go_simp; first | done | (with_reducible rfl))
                      (try simp only [Act.put, List.getElem_toArray, List.getElem_cons_succ, List.getElem_cons_zero, List.setIfInBounds_toArray, List.set_cons_zero, List.set_cons_succ])
                      refine wpAnyH_take (i := 6) (v := ?_) rfl (by kernel_rfl) (by kernel_rfl) (by kernel_rfl) (fun _ _ _ h => h) (Or.inl ⟨by rfl, ?_⟩) (by assumption) ?_
                      rotate_left
                      focus (intro wq hSq; (try dsimp only at hSq); go_simp; first | done | (with_reducible rfl))
                      (try simp only [Act.put, List.getElem_toArray, List.getElem_cons_succ, List.getElem_cons_zero, List.setIfInBounds_toArray, List.set_cons_zero, List.set_cons_succ])
                      refine wpAnyH_ready (rs := [4]) (by kernel_rfl) (by simp) ?_
                      refine AllReadyH.cons rfl (fun K hK => ?_) AllReadyH.nil
                      rw [if_pos (by rfl)]
                      go_simp
                      refine (add_any _ _ _ _ _).mono ?_
                      rintro e wr ⟨rfl, hbr⟩
                      obtain ⟨hcr, hfr, hzr, hBr⟩ := after (a := w26) (B := w26.heap.size) (w26.heap.size) hbr (by first | (with_reducible assumption) | (simp; done) | omega | (simp; omega)) (by repeat' (first | (with_reducible exact Below.refl _ _) | (with_reducible assumption) | (with_reducible refine drewN_below ?_ _) | (with_reducible refine Below.drew ?_) | (with_reducible refine Below.alloc ?_ ?_ _) | (with_reducible refine Below.setCell ?_ ?_ _) | (simp; done) | omega | (simp; omega))) (by omega)
                      have yA := Nat.lt_of_lt_of_le xA hzr
                      have yB := Nat.lt_of_lt_of_le xB hzr
                      have yC := Nat.lt_of_lt_of_le xC hzr
                      have yS := Nat.lt_of_lt_of_le xS hzr
                      have yP := Nat.lt_of_lt_of_le xP hzr
                      have yX := Nat.lt_of_lt_of_le xX hzr
                      have yY := Nat.lt_of_lt_of_le xY hzr
                      rw [hl.out]
                      dsimp only
                      refine hK.out _ _ ?_ (fun hHeld => ?_)
                      · (refine ⟨?_, ?_, ?_, ?_, ?_, ?_, ?_, ?_, ?_, ?_, ?_, ?_, ?_, ?_, ?_, ?_⟩ <;> first | assumption | ((repeat' (first | (with_reducible exact Below.refl _ _) | (with_reducible assumption) | (with_reducible refine drewN_below ?_ _) | (with_reducible refine Below.drew ?_) | (with_reducible refine Below.alloc ?_ ?_ _) | (with_reducible refine Below.setCell ?_ ?_ _) | (simp; done) | omega | (simp; omega))); done) | (simp [*]; done) | (simp [go_sem, *]; done) | (simp; omega))
                      clear hK K
                      (try simp only [Act.put, List.getElem_toArray, List.getElem_cons_succ, List.getElem_cons_zero, List.setIfInBounds_toArray, List.set_cons_zero, List.set_cons_succ])
                      refine wpAnyH_ready (rs := [7]) (by kernel_rfl) (by simp) ?_
                      refine AllReadyH.cons rfl (fun K hK => ?_) AllReadyH.nil
                      rw [if_pos (by rfl)]
                      go_simp
                      refine (add_any _ _ _ _ _).mono ?_
                      rintro e wr ⟨rfl, hbr⟩
                      obtain ⟨hcr, hfr, hzr, hBr⟩ := after (a := w26) (B := w26.heap.size) (w26.heap.size) hbr (by first | (with_reducible assumption) | (simp; done) | omega | (simp; omega)) (by repeat' (first | (with_reducible exact Below.refl _ _) | (with_reducible assumption) | (with_reducible refine drewN_below ?_ _) | (with_reducible refine Below.drew ?_) | (with_reducible refine Below.alloc ?_ ?_ _) | (with_reducible refine Below.setCell ?_ ?_ _) | (simp; done) | omega | (simp; omega))) (by omega)
                      have yA := Nat.lt_of_lt_of_le xA hzr
                      have yB := Nat.lt_of_lt_of_le xB hzr
                      have yC := Nat.lt_of_lt_of_le xC hzr
                      have yS := Nat.lt_of_lt_of_le xS hzr
                      have yP := Nat.lt_of_lt_of_le xP hzr
                      have yX := Nat.lt_of_lt_of_le xX hzr
                      have yY := Nat.lt_of_lt_of_le xY hzr
                      rw [hbc.out]
                      dsimp only
                      refine hK.out _ _ ?_ (fun hHeld => ?_)
                      · (refine ⟨?_, ?_, ?_, ?_, ?_, ?_, ?_, ?_, ?_, ?_, ?_, ?_, ?_, ?_, ?_, ?_⟩ <;> first | assumption | ((repeat' (first | (with_reducible exact Below.refl _ _) | (with_reducible assumption) | (with_reducible refine drewN_below ?_ _) | (with_reducible refine Below.drew ?_) | (with_reducible refine Below.alloc ?_ ?_ _) | (with_reducible refine Below.setCell ?_ ?_ _) | (simp; done) | omega | (simp; omega))); done) | (simp [*]; done) | (simp [go_sem, *]; done) | (simp; omega))
                      clear hK K
                      (try simp only [Act.put, List.getElem_toArray, List.getElem_cons_succ, List.getElem_cons_zero, List.setIfInBounds_toArray, List.set_cons_zero, List.set_cons_succ])
                      refine wpAnyH_ready (rs := [8]) (by kernel_rfl) (by simp) ?_
                      refine AllReadyH.cons rfl (fun K hK => ?_) AllReadyH.nil
                      rw [if_pos (by rfl)]
                      go_simp
                      refine hK.out _ _ ?_ (fun hHeld => ?_)
                      · (refine ⟨?_, ?_, ?_, ?_, ?_, ?_, ?_, ?_, ?_, ?_, ?_, ?_, ?_, ?_, ?_, ?_⟩ <;> first | assumption | ((repeat' (first | (with_reducible exact Below.refl _ _) | (with_reducible assumption) | (with_reducible refine drewN_below ?_ _) | (with_reducible refine Below.drew ?_) | (with_reducible refine Below.alloc ?_ ?_ _) | (with_reducible refine Below.setCell ?_ ?_ _) | (simp; done) | omega | (simp; omega))); done) | (simp [*]; done) | (simp [go_sem, *]; done) | (simp; omega))
                      clear hK K
                      (try simp only [Act.put, List.getElem_toArray, List.getElem_cons_succ, List.getElem_cons_zero, List.setIfInBounds_toArray, List.set_cons_zero, List.set_cons_succ])
                      refine wpAnyH_ready (rs := [9]) (by kernel_rfl) (by simp) ?_
                      refine AllReadyH.cons rfl (fun K hK => ?_) AllReadyH.nil
                      rw [if_pos (by rfl)]
                      go_simp
                      refine (numbers4 an ad bn bd lx ly bx by' _ _ (by simp [go_sem, *]) (by simp [go_sem, *]) (by simp [go_sem, *]) (by simp [go_sem, *]) (by simp [go_sem, *]) (by simp [go_sem, *]) (by simp [go_sem, *]) (by simp [go_sem, *]) (by simp)).mono ?_
                      rintro e wr ⟨rfl, hbr⟩
                      obtain ⟨hcr, hfr, hzr, hBr⟩ := after (a := w26) (B := w26.heap.size) (w26.heap.size) hbr (by first | (with_reducible assumption) | (simp; done) | omega | (simp; omega)) (by repeat' (first | (with_reducible exact Below.refl _ _) | (with_reducible assumption) | (with_reducible refine drewN_below ?_ _) | (with_reducible refine Below.drew ?_) | (with_reducible refine Below.alloc ?_ ?_ _) | (with_reducible refine Below.setCell ?_ ?_ _) | (simp; done) | omega | (simp; omega))) (by omega)
                      have yA := Nat.lt_of_lt_of_le xA hzr
                      have yB := Nat.lt_of_lt_of_le xB hzr
                      have yC := Nat.lt_of_lt_of_le xC hzr
                      have yS := Nat.lt_of_lt_of_le xS hzr
                      have yP := Nat.lt_of_lt_of_le xP hzr
                      have yX := Nat.lt_of_lt_of_le xX hzr
                      have yY := Nat.lt_of_lt_of_le xY hzr
                      rw [hq]
                      dsimp only
                      refine hK.out _ _ ?_ (fun hHeld => ?_)
                      · (refine ⟨?_, ?_, ?_, ?_, ?_, ?_, ?_, ?_, ?_, ?_, ?_, ?_, ?_, ?_, ?_, ?_⟩ <;> first | assumption | ((repeat' (first | (with_reducible exact Below.refl _ _) | (with_reducible assumption) | (with_reducible refine drewN_below ?_ _) | (with_reducible refine Below.drew ?_) | (with_reducible refine Below.alloc ?_ ?_ _) | (with_reducible refine Below.setCell ?_ ?_ _) | (simp; done) | omega | (simp; omega))); done) | (simp [*]; done) | (simp [go_sem, *]; done) | (simp; omega))
                      clear hK K
                      (try simp only [Act.put, List.getElem_toArray, List.getElem_cons_succ, List.getElem_cons_zero, List.setIfInBounds_toArray, List.set_cons_zero, List.set_cons_succ])
                      refine wpAnyH_take (i := 10) (v := ?_) rfl (by kernel_rfl) (by kernel_rfl) (by kernel_rfl) (fun _ _ _ h => h) (Or.inl ⟨by rfl, ?_⟩) (by assumption) ?_
                      rotate_left
                      focus (intro wq hSq; (try dsimp only at hSq); go_simp; first | done | (with_reducible rfl))
                      (try simp only [Act.put, List.getElem_toArray, List.getElem_cons_succ, List.getElem_cons_zero, List.setIfInBounds_toArray, List.set_cons_zero, List.set_cons_succ])
                      refine wpAnyH_take (i := 11) (v := ?_) rfl (by kernel_rfl) (by kernel_rfl) (by kernel_rfl) (fun _ _ _ h => h) (Or.inl ⟨by rfl, ?_⟩) (by assumption) ?_
                      rotate_left
                      focus (intro wq hSq; (try dsimp only at hSq); go_simp; first | done | (with_reducible rfl))
                      (try simp only [Act.put, List.getElem_toArray, List.getElem_cons_succ, List.getElem_cons_zero, List.setIfInBounds_toArray, List.set_cons_zero, List.set_cons_succ])
                      refine wpAnyH_take (i := 12) (v := ?_) rfl (by kernel_rfl) (by kernel_rfl) (by kernel_rfl) (fun _ _ _ h => h) (Or.inl ⟨by rfl, ?_⟩) (by assumption) ?_
                      rotate_left
                      focus (intro wq hSq; (try dsimp only at hSq); go_simp; first | done | (with_reducible rfl))
                      (try simp only [Act.put, List.getElem_toArray, List.getElem_cons_succ, List.getElem_cons_zero, List.setIfInBounds_toArray, List.set_cons_zero, List.set_cons_succ])
                      refine wpAnyH_take (i := 14) (v := ?_) rfl (by kernel_rfl) (by kernel_rfl) (by kernel_rfl) (fun _ _ _ h => h) (Or.inl ⟨by rfl, ?_⟩) (by assumption) ?_
                      rotate_left
                      focus (intro wq hSq; (try dsimp only at hSq); go_simp; first | done | (with_reducible rfl))
                      (try simp only [Act.put, List.getElem_toArray, List.getElem_cons_succ, List.getElem_cons_zero, List.setIfInBounds_toArray, List.set_cons_zero, List.set_cons_succ])
                      refine wpAnyH_take (i := 15) (v := ?_) rfl (by kernel_rfl) (by kernel_rfl) (by kernel_rfl) (fun _ _ _ h => h) (Or.inl ⟨by rfl, ?_⟩) (by assumption) ?_
                      rotate_left
                      focus (intro wq hSq; (try dsimp only at hSq); go_simp; first | done | (with_reducible rfl))
                      (try simp only [Act.put, List.getElem_toArray, List.getElem_cons_succ, List.getElem_cons_zero, List.setIfInBounds_toArray, List.set_cons_zero, List.set_cons_succ])
                      refine wpAnyH_take (i := 17) (v := ?_) rfl (by kernel_rfl) (by kernel_rfl) (by kernel_rfl) (fun _ _ _ h => h) (Or.inl ⟨by rfl, ?_⟩) (by assumption) ?_
                      rotate_left
                      focus (intro wq hSq; (try dsimp only at hSq); go_simp; first | done | (with_reducible rfl))
                      (try simp only [Act.put, List.getElem_toArray, List.getElem_cons_succ, List.getElem_cons_zero, List.setIfInBounds_toArray, List.set_cons_zero, List.set_cons_succ])
                      refine wpAnyH_take (i := 18) (v := ?_) rfl (by kernel_rfl) (by kernel_rfl) (by kernel_rfl) (fun _ _ _ h => h) (Or.inl ⟨by rfl, ?_⟩) (by assumption) ?_
                      rotate_left
                      focus (intro wq hSq; (try dsimp only at hSq); go_simp; first | done | (with_reducible rfl))
                      (try simp only [Act.put, List.getElem_toArray, List.getElem_cons_succ, List.getElem_cons_zero, List.setIfInBounds_toArray, List.set_cons_zero, List.set_cons_succ])
                      refine wpAnyH_ready (rs := [13]) (by kernel_rfl) (by simp) ?_
                      refine AllReadyH.cons rfl (fun K hK => ?_) AllReadyH.nil
                      rw [if_pos (by rfl)]
                      go_simp
                      refine (cmp_any _ _ _ _ _).mono ?_
                      rintro e wr ⟨rfl, hbr⟩
                      obtain ⟨hcr, hfr, hzr, hBr⟩ := after (a := w26) (B := w26.heap.size) (w26.heap.size) hbr (by first | (with_reducible assumption) | (simp; done) | omega | (simp; omega)) (by repeat' (first | (with_reducible exact Below.refl _ _) | (with_reducible assumption) | (with_reducible refine drewN_below ?_ _) | (with_reducible refine Below.drew ?_) | (with_reducible refine Below.alloc ?_ ?_ _) | (with_reducible refine Below.setCell ?_ ?_ _) | (simp; done) | omega | (simp; omega))) (by omega)
                      have yA := Nat.lt_of_lt_of_le xA hzr
                      have yB := Nat.lt_of_lt_of_le xB hzr
                      have yC := Nat.lt_of_lt_of_le xC hzr
                      have yS := Nat.lt_of_lt_of_le xS hzr
                      have yP := Nat.lt_of_lt_of_le xP hzr
                      have yX := Nat.lt_of_lt_of_le xX hzr
                      have yY := Nat.lt_of_lt_of_le xY hzr
                      rw [hc0.out]
                      dsimp only
                      refine hK.out _ _ ?_ (fun hHeld => ?_)
                      · (refine ⟨?_, ?_, ?_, ?_, ?_, ?_, ?_, ?_, ?_, ?_, ?_, ?_, ?_, ?_, ?_, ?_⟩ <;> first | assumption | ((repeat' (first | (with_reducible exact Below.refl _ _) | (with_reducible assumption) | (with_reducible refine drewN_below ?_ _) | (with_reducible refine Below.drew ?_) | (with_reducible refine Below.alloc ?_ ?_ _) | (with_reducible refine Below.setCell ?_ ?_ _) | (simp; done) | omega | (simp; omega))); done) | (simp [*]; done) | (simp [go_sem, *]; done) | (simp; omega))
                      clear hK K
                      (try simp only [Act.put, List.getElem_toArray, List.getElem_cons_succ, List.getElem_cons_zero, List.setIfInBounds_toArray, List.set_cons_zero, List.set_cons_succ])
                      refine wpAnyH_ready (rs := [16]) (by kernel_rfl) (by simp) ?_
                      refine AllReadyH.cons rfl (fun K hK => ?_) AllReadyH.nil
                      rw [if_pos (by rfl)]
                      go_simp
                      refine (add_any _ _ _ _ _).mono ?_
                      rintro e wr ⟨rfl, hbr⟩
                      obtain ⟨hcr, hfr, hzr, hBr⟩ := after (a := w26) (B := w26.heap.size) (w26.heap.size) hbr (by first | (with_reducible assumption) | (simp; done) | omega | (simp; omega)) (by repeat' (first | (with_reducible exact Below.refl _ _) | (with_reducible assumption) | (with_reducible refine drewN_below ?_ _) | (with_reducible refine Below.drew ?_) | (with_reducible refine Below.alloc ?_ ?_ _) | (with_reducible refine Below.setCell ?_ ?_ _) | (simp; done) | omega | (simp; omega))) (by omega)
                      have yA := Nat.lt_of_lt_of_le xA hzr
                      have yB := Nat.lt_of_lt_of_le xB hzr
                      have yC := Nat.lt_of_lt_of_le xC hzr
                      have yS := Nat.lt_of_lt_of_le xS hzr
                      have yP := Nat.lt_of_lt_of_le xP hzr
                      have yX := Nat.lt_of_lt_of_le xX hzr
                      have yY := Nat.lt_of_lt_of_le xY hzr
                      rw [hl.out]
                      dsimp only
                      refine hK.out _ _ ?_ (fun hHeld => ?_)
                      · (refine ⟨?_, ?_, ?_, ?_, ?_, ?_, ?_, ?_, ?_, ?_, ?_, ?_, ?_, ?_, ?_, ?_⟩ <;> first | assumption | ((repeat' (first | (with_reducible exact Below.refl _ _) | (with_reducible assumption) | (with_reducible refine drewN_below ?_ _) | (with_reducible refine Below.drew ?_) | (with_reducible refine Below.alloc ?_ ?_ _) | (with_reducible refine Below.setCell ?_ ?_ _) | (simp; done) | omega | (simp; omega))); done) | (simp [*]; done) | (simp [go_sem, *]; done) | (simp; omega))
                      clear hK K
                      (try simp only [Act.put, List.getElem_toArray, List.getElem_cons_succ, List.getElem_cons_zero, List.setIfInBounds_toArray, List.set_cons_zero, List.set_cons_succ])
                      refine wpAnyH_ready (rs := [19]) (by kernel_rfl) (by simp) ?_
                      refine AllReadyH.cons rfl (fun K hK => ?_) AllReadyH.nil
                      rw [if_pos (by rfl)]
                      go_simp
                      refine (add_any _ _ _ _ _).mono ?_
                      rintro e wr ⟨rfl, hbr⟩
                      obtain ⟨hcr, hfr, hzr, hBr⟩ := after (a := w26) (B := w26.heap.size) (w26.heap.size) hbr (by first | (with_reducible assumption) | (simp; done) | omega | (simp; omega)) (by repeat' (first | (with_reducible exact Below.refl _ _) | (with_reducible assumption) | (with_reducible refine drewN_below ?_ _) | (with_reducible refine Below.drew ?_) | (with_reducible refine Below.alloc ?_ ?_ _) | (with_reducible refine Below.setCell ?_ ?_ _) | (simp; done) | omega | (simp; omega))) (by omega)
                      have yA := Nat.lt_of_lt_of_le xA hzr
                      have yB := Nat.lt_of_lt_of_le xB hzr
                      have yC := Nat.lt_of_lt_of_le xC hzr
                      have yS := Nat.lt_of_lt_of_le xS hzr
                      have yP := Nat.lt_of_lt_of_le xP hzr
                      have yX := Nat.lt_of_lt_of_le xX hzr
                      have yY := Nat.lt_of_lt_of_le xY hzr
                      rw [hbc.out]
                      dsimp only
                      refine hK.out _ _ ?_ (fun hHeld => ?_)
                      · (refine ⟨?_, ?_, ?_, ?_, ?_, ?_, ?_, ?_, ?_, ?_, ?_, ?_, ?_, ?_, ?_, ?_⟩ <;> first | assumption | ((repeat' (first | (with_reducible exact Below.refl _ _) | (with_reducible assumption) | (with_reducible refine drewN_below ?_ _) | (with_reducible refine Below.drew ?_) | (with_reducible refine Below.alloc ?_ ?_ _) | (with_reducible refine Below.setCell ?_ ?_ _) | (simp; done) | omega | (simp; omega))); done) | (simp [*]; done) | (simp [go_sem, *]; done) | (simp; omega))
                      clear hK K
                      (try simp only [Act.put, List.getElem_toArray, List.getElem_cons_succ, List.getElem_cons_zero, List.setIfInBounds_toArray, List.set_cons_zero, List.set_cons_succ])
                      refine wpAnyH_ready (rs := [20]) (by kernel_rfl) (by simp) ?_
                      refine AllReadyH.cons rfl (fun K hK => ?_) AllReadyH.nil
                      rw [if_pos (by rfl)]
                      go_simp
                      refine (cmp_any _ _ _ _ _).mono ?_
                      rintro e wr ⟨rfl, hbr⟩
                      obtain ⟨hcr, hfr, hzr, hBr⟩ := after (a := w26) (B := w26.heap.size) (w26.heap.size) hbr (by first | (with_reducible assumption) | (simp; done) | omega | (simp; omega)) (by repeat' (first | (with_reducible exact Below.refl _ _) | (with_reducible assumption) | (with_reducible refine drewN_below ?_ _) | (with_reducible refine Below.drew ?_) | (with_reducible refine Below.alloc ?_ ?_ _) | (with_reducible refine Below.setCell ?_ ?_ _) | (simp; done) | omega | (simp; omega))) (by omega)
                      have yA := Nat.lt_of_lt_of_le xA hzr
                      have yB := Nat.lt_of_lt_of_le xB hzr
                      have yC := Nat.lt_of_lt_of_le xC hzr
                      have yS := Nat.lt_of_lt_of_le xS hzr
                      have yP := Nat.lt_of_lt_of_le xP hzr
                      have yX := Nat.lt_of_lt_of_le xX hzr
                      have yY := Nat.lt_of_lt_of_le xY hzr
                      rw [hc1.out]
                      dsimp only
                      refine hK.out _ _ ?_ (fun hHeld => ?_)
                      · (refine ⟨?_, ?_, ?_, ?_, ?_, ?_, ?_, ?_, ?_, ?_, ?_, ?_, ?_, ?_, ?_, ?_⟩ <;> first | assumption | ((repeat' (first | (with_reducible exact Below.refl _ _) | (with_reducible assumption) | (with_reducible refine drewN_below ?_ _) | (with_reducible refine Below.drew ?_) | (with_reducible refine Below.alloc ?_ ?_ _) | (with_reducible refine Below.setCell ?_ ?_ _) | (simp; done) | omega | (simp; omega))); done) | (simp [*]; done) | (simp [go_sem, *]; done) | (simp; omega))
                      clear hK K
                      (try simp only [Act.put, List.getElem_toArray, List.getElem_cons_succ, List.getElem_cons_zero, List.setIfInBounds_toArray, List.set_cons_zero, List.set_cons_succ])
                      refine wpAnyH_take (i := 21) (v := ?_) rfl (by kernel_rfl) (by kernel_rfl) (by kernel_rfl) (fun _ _ _ h => h) (Or.inl ⟨by rfl, ?_⟩) (by assumption) ?_
                      rotate_left
                      focus (intro wq hSq; (try dsimp only at hSq); go_simp; first | done | (with_reducible rfl))
                      (try simp only [Act.put, List.getElem_toArray, List.getElem_cons_succ, List.getElem_cons_zero, List.setIfInBounds_toArray, List.set_cons_zero, List.set_cons_succ])
                      refine wpAnyH_take (i := 22) (v := ?_) rfl (by kernel_rfl) (by kernel_rfl) (by kernel_rfl) (fun _ _ _ h => h) (Or.inl ⟨by rfl, ?_⟩) (by assumption) ?_
                      rotate_left
                      focus (intro wq hSq; (try dsimp only at hSq); go_simp; first | done | (with_reducible rfl))
                      (try simp only [Act.put, List.getElem_toArray, List.getElem_cons_succ, List.getElem_cons_zero, List.setIfInBounds_toArray, List.set_cons_zero, List.set_cons_succ])
                      refine wpAnyH_done (by kernel_rfl) ?_ _
                      obtain ⟨s0, s1, s2, s3, s4, s5, s6, s7, s8, s9, s10, s11, s12, s13, s14, s15⟩ := (by assumption : wr.cell? ⟨w.heap.size, 0, none⟩ = some (.int .i64 an) ∧ wr.cell? ⟨w.heap.size, 1, none⟩ = some (.int .i64 ad) ∧ wr.cell? ⟨w.heap.size + 1, 0, none⟩ = some (.int .i64 bn) ∧ wr.cell? ⟨w.heap.size + 1, 1, none⟩ = some (.int .i64 bd) ∧ wr.cell? ⟨w.heap.size + 2, 0, none⟩ = some (.int .i64 cn) ∧ wr.cell? ⟨w.heap.size + 2, 1, none⟩ = some (.int .i64 cd) ∧ wr.cell? ⟨w1.heap.size, 0, none⟩ = some (.int .i64 sx) ∧ wr.cell? ⟨w1.heap.size, 1, none⟩ = some (.int .i64 sy) ∧ wr.cell? ⟨w2.heap.size, 0, none⟩ = some (.int .i64 px) ∧ wr.cell? ⟨w2.heap.size, 1, none⟩ = some (.int .i64 py) ∧ wr.cell? ⟨w14.heap.size, 0, none⟩ = some (.int .i64 ux) ∧ wr.cell? ⟨w14.heap.size, 1, none⟩ = some (.int .i64 uy) ∧ wr.cell? ⟨g, 0, none⟩ = some (.int .i64 vx) ∧ wr.cell? ⟨g, 1, none⟩ = some (.int .i64 vy) ∧ w26.heap.size ≤ wr.heap.size ∧ Below w26.heap.size w26 wr)
                      have cA0w28 := s0
                      have cA1w28 := s1
                      have cB0w28 := s2
                      have cB1w28 := s3
                      have cC0w28 := s4
                      have cC1w28 := s5
                      have cS0w28 := s6
                      have cS1w28 := s7
                      have cP0w28 := s8
                      have cP1w28 := s9
                      have cX0w28 := s10
                      have cX1w28 := s11
                      have cY0w28 := s12
                      have cY1w28 := s13
                      have bAw28 : w.heap.size < wr.heap.size := Nat.lt_of_lt_of_le xA s14
                      have dAw28 : w.heap.size < wr.heap.size + 1 := Nat.lt_succ_of_lt bAw28
                      have bBw28 : w.heap.size + 1 < wr.heap.size := Nat.lt_of_lt_of_le xB s14
                      have dBw28 : w.heap.size + 1 < wr.heap.size + 1 := Nat.lt_succ_of_lt bBw28
                      have bCw28 : w.heap.size + 2 < wr.heap.size := Nat.lt_of_lt_of_le xC s14
                      have dCw28 : w.heap.size + 2 < wr.heap.size + 1 := Nat.lt_succ_of_lt bCw28
                      have bSw28 : w1.heap.size < wr.heap.size := Nat.lt_of_lt_of_le xS s14
                      have dSw28 : w1.heap.size < wr.heap.size + 1 := Nat.lt_succ_of_lt bSw28
                      have bPw28 : w2.heap.size < wr.heap.size := Nat.lt_of_lt_of_le xP s14
                      have dPw28 : w2.heap.size < wr.heap.size + 1 := Nat.lt_succ_of_lt bPw28
                      have bXw28 : w14.heap.size < wr.heap.size := Nat.lt_of_lt_of_le xX s14
                      have dXw28 : w14.heap.size < wr.heap.size + 1 := Nat.lt_succ_of_lt bXw28
                      have bYw28 : g < wr.heap.size := Nat.lt_of_lt_of_le xY s14
                      have dYw28 : g < wr.heap.size + 1 := Nat.lt_succ_of_lt bYw28
                      have hBw28 : Below w.heap.size w wr := Below.trans hBw26 (s15.mono hBw26.size)
                      have zw28 : w.heap.size ≤ wr.heap.size := hBw28.size
                      clear s0 s1 s2 s3 s4 s5 s6 s7 s8 s9 s10 s11 s12 s13 s14 s15 xA xB xC xS xP xX xY hcr hfr hzr hBr hbr zw26 dYw26 dXw26 dPw26 dSw26 dCw26 dBw26 dAw26 hBw26 bYw26 cY1w26 cY0w26 bXw26 cX1w26 cX0w26 bPw26 cP1w26 cP0w26 bSw26 cS1w26 cS0w26 bCw26 cC1w26 cC0w26 bBw26 cB1w26 cB0w26 bAw26 cA1w26 cA0w26
                      repeat (clear hcr hfr hzr hBr hbr)
                      skip
                      obtain ⟨w28, ew28⟩ : ∃ x, x = wr := ⟨_, rfl⟩
                      subst ew28
                      go_wp2_with fail
                      go_meet
                      (refine ⟨rfl, ?_, ?_, ?_, ?_, ?_, ?_, ?_, ?_, ?_, ?_, ?_, ?_, ?_, ?_, ?_, ?_, ?_, ?_, ?_, ?_, ?_, ?_⟩ <;> first | assumption | (simp [go_sem, *]; done) | omega | (simp; omega) | (repeat' (first | (with_reducible exact Below.refl _ _) | (with_reducible assumption) | (with_reducible refine drewN_below ?_ _) | (with_reducible refine Below.drew ?_) | (with_reducible refine Below.alloc ?_ ?_ _) | (with_reducible refine Below.setCell ?_ ?_ _) | (simp; done) | omega | (simp; omega))))
                  case rest =>
                    obtain ⟨rfl, cA0w29, cA1w29, bAw29, cB0w29, cB1w29, bBw29, cC0w29, cC1w29, bCw29, cS0w29, cS1w29, bSw29, cP0w29, cP1w29, bPw29, cX0w29, cX1w29, bXw29, cY0w29, cY1w29, bYw29, hBw29⟩ := hcut
                    have dAw29 : w.heap.size < wc.heap.size + 1 := Nat.lt_succ_of_lt bAw29
                    have dBw29 : w.heap.size + 1 < wc.heap.size + 1 := Nat.lt_succ_of_lt bBw29
                    have dCw29 : w.heap.size + 2 < wc.heap.size + 1 := Nat.lt_succ_of_lt bCw29
                    have dSw29 : w1.heap.size < wc.heap.size + 1 := Nat.lt_succ_of_lt bSw29
                    have dPw29 : w2.heap.size < wc.heap.size + 1 := Nat.lt_succ_of_lt bPw29
                    have dXw29 : w14.heap.size < wc.heap.size + 1 := Nat.lt_succ_of_lt bXw29
                    have dYw29 : g < wc.heap.size + 1 := Nat.lt_succ_of_lt bYw29
                    have zw29 : w.heap.size ≤ wc.heap.size := hBw29.size
                    obtain ⟨w29, ew29⟩ : ∃ x, x = wc := ⟨_, rfl⟩
                    subst ew29
                    clear zw26 dYw26 dXw26 dPw26 dSw26 dCw26 dBw26 dAw26 hBw26 bYw26 cY1w26 cY0w26 bXw26 cX1w26 cX0w26 bPw26 cP1w26 cP0w26 bSw26 cS1w26 cS0w26 bCw26 cC1w26 cC0w26 bBw26 cB1w26 cB0w26 bAw26 cA1w26 cA0w26
                    go_wp2_with fail
                    refine (awake_any _).mono ?_
                    rintro e w30 ⟨rfl, hw30⟩
                    have hmw30 : Below w29.heap.size w29 w30 := on_below hw30 (by repeat' (first | (with_reducible exact Below.refl _ _) | (with_reducible assumption) | (with_reducible refine drewN_below ?_ _) | (with_reducible refine Below.drew ?_) | (with_reducible refine Below.alloc ?_ ?_ _) | (with_reducible refine Below.setCell ?_ ?_ _) | (simp; done) | omega | (simp; omega))) (by first | (with_reducible assumption) | (simp; done) | omega | (simp; omega))
                    have cA0w30 := (hmw30.cell (p := ⟨w.heap.size, 0, none⟩) bAw29).trans cA0w29
                    have cA1w30 := (hmw30.cell (p := ⟨w.heap.size, 1, none⟩) bAw29).trans cA1w29
                    have bAw30 : w.heap.size < w30.heap.size := Nat.lt_of_lt_of_le bAw29 hmw30.size
                    have dAw30 : w.heap.size < w30.heap.size + 1 := Nat.lt_succ_of_lt bAw30
                    have cB0w30 := (hmw30.cell (p := ⟨w.heap.size + 1, 0, none⟩) bBw29).trans cB0w29
                    have cB1w30 := (hmw30.cell (p := ⟨w.heap.size + 1, 1, none⟩) bBw29).trans cB1w29
                    have bBw30 : w.heap.size + 1 < w30.heap.size := Nat.lt_of_lt_of_le bBw29 hmw30.size
                    have dBw30 : w.heap.size + 1 < w30.heap.size + 1 := Nat.lt_succ_of_lt bBw30
                    have cC0w30 := (hmw30.cell (p := ⟨w.heap.size + 2, 0, none⟩) bCw29).trans cC0w29
                    have cC1w30 := (hmw30.cell (p := ⟨w.heap.size + 2, 1, none⟩) bCw29).trans cC1w29
                    have bCw30 : w.heap.size + 2 < w30.heap.size := Nat.lt_of_lt_of_le bCw29 hmw30.size
                    have dCw30 : w.heap.size + 2 < w30.heap.size + 1 := Nat.lt_succ_of_lt bCw30
                    have cS0w30 := (hmw30.cell (p := ⟨w1.heap.size, 0, none⟩) bSw29).trans cS0w29
                    have cS1w30 := (hmw30.cell (p := ⟨w1.heap.size, 1, none⟩) bSw29).trans cS1w29
                    have bSw30 : w1.heap.size < w30.heap.size := Nat.lt_of_lt_of_le bSw29 hmw30.size
                    have dSw30 : w1.heap.size < w30.heap.size + 1 := Nat.lt_succ_of_lt bSw30
                    have cP0w30 := (hmw30.cell (p := ⟨w2.heap.size, 0, none⟩) bPw29).trans cP0w29
                    have cP1w30 := (hmw30.cell (p := ⟨w2.heap.size, 1, none⟩) bPw29).trans cP1w29
                    have bPw30 : w2.heap.size < w30.heap.size := Nat.lt_of_lt_of_le bPw29 hmw30.size
                    have dPw30 : w2.heap.size < w30.heap.size + 1 := Nat.lt_succ_of_lt bPw30
                    have cX0w30 := (hmw30.cell (p := ⟨w14.heap.size, 0, none⟩) bXw29).trans cX0w29
                    have cX1w30 := (hmw30.cell (p := ⟨w14.heap.size, 1, none⟩) bXw29).trans cX1w29
                    have bXw30 : w14.heap.size < w30.heap.size := Nat.lt_of_lt_of_le bXw29 hmw30.size
                    have dXw30 : w14.heap.size < w30.heap.size + 1 := Nat.lt_succ_of_lt bXw30
                    have cY0w30 := (hmw30.cell (p := ⟨g, 0, none⟩) bYw29).trans cY0w29
                    have cY1w30 := (hmw30.cell (p := ⟨g, 1, none⟩) bYw29).trans cY1w29
                    have bYw30 : g < w30.heap.size := Nat.lt_of_lt_of_le bYw29 hmw30.size
                    have dYw30 : g < w30.heap.size + 1 := Nat.lt_succ_of_lt bYw30
                    have hBw30 : Below w.heap.size w w30 := Below.trans hBw29 (hmw30.mono hBw29.size)
                    have zw30 : w.heap.size ≤ w30.heap.size := hBw30.size
                    clear hmw30 hw30 zw29 dYw29 dXw29 dPw29 dSw29 dCw29 dBw29 dAw29 hBw29 bYw29 cY1w29 cY0w29 bXw29 cX1w29 cX0w29 bPw29 cP1w29 cP0w29 bSw29 cS1w29 cS0w29 bCw29 cC1w29 cC0w29 bBw29 cB1w29 cB0w29 bAw29 cA1w29 cA0w29
                    go_wp2
                    go_ret
                    exact ⟨rfl, (by repeat' (first | (with_reducible exact Below.refl _ _) | (with_reducible assumption) | (with_reducible refine drewN_below ?_ _) | (with_reducible refine Below.drew ?_) | (with_reducible refine Below.alloc ?_ ?_ _) | (with_reducible refine Below.setCell ?_ ?_ _) | (simp; done) | omega | (simp; omega)))⟩

end Go.Proofs.Ytpoalckncfkdgaa
