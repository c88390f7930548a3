/-
  The law on what is fitted: the walk.
-/
import Derived.Test.YtmadhpbdianddaaDoorZj
import Derived.Test.YtmadhpbdianddaaDoorVt
import Derived.Deep.DeepCutAuto
namespace Go.Proofs.YtmadhpbdianddaaDoor
open Go.RowKit
theorem cmp_ends (a b : Int × Int) : -1 ≤ Q.cmp a b ∧ Q.cmp a b ≤ 1 := by
  unfold Q.cmp Q.cmpi
  split
  · split <;> (try split) <;> omega
  · split <;> (try split) <;> omega
set_option maxRecDepth 100000 in
set_option maxHeartbeats 16000000 in
theorem fitkeeps_any (k r o : ByteArray) (I F : Int) (an ad bn bd : Int) (hI : -9223372036854775808 ≤ I ∧ I ≤ 9223372036854775807) (hF : -9223372036854775808 ≤ F ∧ F ≤ 9223372036854775807) (w : World) :
    Calls Tryd.prog 5 #[.agg #[.string k, .int .i64 I, .int .i64 F, .string r, .string o], .agg #[.int .i64 an, .int .i64 ad], .agg #[.int .i64 bn, .int .i64 bd]] w fun e w' => e = .returned (.bool true) ∧ Below w.heap.size w w' := by
  obtain ⟨x1, x2, hX⟩ : ∃ x1 x2, Hid (Z.fitQ k r o I F an ad = (x1, x2)) := ⟨_, _, rfl⟩
  obtain ⟨y1, y2, hY⟩ : ∃ y1 y2, Hid (Z.fitQ k r o I F bn bd = (y1, y2)) := ⟨_, _, rfl⟩
  obtain ⟨b1, b2, be, hBn⟩ : ∃ b1 b2 be, Hid (Z.bndQ k r o I F = ((b1, b2), be)) := ⟨_, _, _, rfl⟩
  obtain ⟨l1, l2, hLs⟩ : ∃ l1 l2, Hid (Z.lstQ k r o I F = (l1, l2)) := ⟨_, _, rfl⟩
  obtain ⟨g1, g2, hGr⟩ : ∃ g1 g2, Hid (Z.grtQ k r o I F = (g1, g2)) := ⟨_, _, rfl⟩
  obtain ⟨c1, hC1⟩ : ∃ c1, Hid (Q.cmp (an, ad) (bn, bd) = c1) := ⟨_, rfl⟩
  obtain ⟨c2, hC2⟩ : ∃ c2, Hid (Q.cmp (x1, x2) (y1, y2) = c2) := ⟨_, rfl⟩
  obtain ⟨c4, hC4⟩ : ∃ c4, Hid (Q.cmp (l1, l2) (an, ad) = c4) := ⟨_, rfl⟩
  obtain ⟨c5, hC5⟩ : ∃ c5, Hid (Q.cmp (an, ad) (g1, g2) = c5) := ⟨_, rfl⟩
  obtain ⟨s1, s2, hSb⟩ : ∃ s1 s2, Hid (Q.sub (x1, x2) (an, ad) = (s1, s2)) := ⟨_, _, rfl⟩
  obtain ⟨f1, f2, hOf⟩ : ∃ f1 f2, Hid (Q.abs (s1, s2) = (f1, f2)) := ⟨_, _, rfl⟩
  obtain ⟨c6, hC6⟩ : ∃ c6, Hid (Q.cmp (f1, f2) (b1, b2) = c6) := ⟨_, rfl⟩
  obtain ⟨ins, hIns⟩ : ∃ ins, Hid ((Q.isq an ad && decide (c4 ≤ 0) && decide (c5 ≤ 0)) = ins) := ⟨_, rfl⟩
  have bc1 : -1 ≤ c1 ∧ c1 ≤ 1 := by rw [← hC1.out]; exact cmp_ends _ _
  have bc2 : -1 ≤ c2 ∧ c2 ≤ 1 := by rw [← hC2.out]; exact cmp_ends _ _
  have bc4 : -1 ≤ c4 ∧ c4 ≤ 1 := by rw [← hC4.out]; exact cmp_ends _ _
  have bc5 : -1 ≤ c5 ∧ c5 ≤ 1 := by rw [← hC5.out]; exact cmp_ends _ _
  have bc6 : -1 ≤ c6 ∧ c6 ≤ 1 := by rw [← hC6.out]; exact cmp_ends _ _
  have hIdem : Hid (Q.isq x1 x2 = true → Z.fitQ k r o I F x1 x2 = (x1, x2) ∧ Z.isQ k r o I F x1 x2 = true) := by
    intro hq
    have h1 := Z.fit_idem (k := k) (r := r) (o := o) (I := I) (F := F) (n := an) (d := ad) (by rw [hX.out]; exact hq)
    rw [hX.out] at h1
    exact ⟨h1, by unfold Z.isQ; rw [hq, h1]; simp⟩
  have hMono : Hid ((o.toList == [119, 114, 97, 112]) = false → Q.isq x1 x2 = true → Q.isq y1 y2 = true → c1 ≤ 0 → ¬ 0 < c2) := by
    intro ho hx hy hc
    have h1 := Z.fit_mono (k := k) (r := r) (o := o) (I := I) (F := F) (a := (an, ad)) (b := (bn, bd)) ho (by show Q.isq (Z.fitQ k r o I F an ad).1 (Z.fitQ k r o I F an ad).2 = true; rw [hX.out]; exact hx) (by show Q.isq (Z.fitQ k r o I F bn bd).1 (Z.fitQ k r o I F bn bd).2 = true; rw [hY.out]; exact hy) (by rw [hC1.out]; omega)
    change ¬ 0 < Q.cmp (Z.fitQ k r o I F an ad) (Z.fitQ k r o I F bn bd) at h1
    rw [hX.out, hY.out, hC2.out] at h1
    exact h1
  have hOff : Hid (be = 0 → ins = true → Q.isq b1 b2 = true → Q.isq f1 f2 = true → ¬ 0 < c6) := by
    intro hbe hins hqb hqf
    have hx : Z.isfx k r o I F = true := by
      cases hx : Z.isfx k r o I F
      · have e := hBn.out; unfold Z.bndQ at e; rw [hx] at e; simp at e; omega
      · rfl
    rw [← hIns.out, Bool.and_eq_true, Bool.and_eq_true] at hins
    have h4 := of_decide_eq_true hins.1.2
    have h5 := of_decide_eq_true hins.2
    have h1 := Z.fit_off (k := k) (r := r) (o := o) (I := I) (F := F) (n := an) (d := ad) hx hins.1.1 (by rw [hLs.out, hC4.out]; omega) (by rw [hGr.out, hC5.out]; omega) (by rw [hBn.out]; exact hqb) (by rw [hX.out, hSb.out, hOf.out]; exact hqf)
    rw [hX.out, hSb.out, hOf.out, hBn.out, hC6.out] at h1
    exact h1
  go_enter Tryd.func5, Tryd.ntmps5
  go_wp2_with fail
  refine (Fit_any _ _ _ _ _ _ _ hI hF _).mono ?_
  rintro e w1 ⟨rfl, hw1⟩
  have hmw1 : Below w.heap.size w w1 := on_below hw1 (by repeat' (first | (with_reducible exact Below.refl _ _) | (with_reducible assumption) | (with_reducible refine drewN_below ?_ _) | (with_reducible refine Below.drew ?_) | (with_reducible refine Below.alloc ?_ ?_ _) | (with_reducible refine Below.setCell ?_ ?_ _) | (simp; done) | omega | (simp; omega))) (by first | (with_reducible assumption) | (simp; done) | omega | (simp; omega))
  have cG0w1 : w1.cell? ⟨w.heap.size, 0, none⟩ = some (.string k) := by rw [hw1.cell (p := ⟨w.heap.size, 0, none⟩) (by first | (with_reducible assumption) | (simp; done) | omega | (simp; omega))]; simp [go_sem]
  have cG1w1 : w1.cell? ⟨w.heap.size, 1, none⟩ = some (.int .i64 I) := by rw [hw1.cell (p := ⟨w.heap.size, 1, none⟩) (by first | (with_reducible assumption) | (simp; done) | omega | (simp; omega))]; simp [go_sem]
  have cG2w1 : w1.cell? ⟨w.heap.size, 2, none⟩ = some (.int .i64 F) := by rw [hw1.cell (p := ⟨w.heap.size, 2, none⟩) (by first | (with_reducible assumption) | (simp; done) | omega | (simp; omega))]; simp [go_sem]
  have cG3w1 : w1.cell? ⟨w.heap.size, 3, none⟩ = some (.string r) := by rw [hw1.cell (p := ⟨w.heap.size, 3, none⟩) (by first | (with_reducible assumption) | (simp; done) | omega | (simp; omega))]; simp [go_sem]
  have cG4w1 : w1.cell? ⟨w.heap.size, 4, none⟩ = some (.string o) := by rw [hw1.cell (p := ⟨w.heap.size, 4, none⟩) (by first | (with_reducible assumption) | (simp; done) | omega | (simp; omega))]; simp [go_sem]
  have bGw1 : w.heap.size < w1.heap.size := by have := hw1.size; first | omega | (simp at this; omega)
  have dGw1 : w.heap.size < w1.heap.size + 1 := Nat.lt_succ_of_lt bGw1
  have cA0w1 : w1.cell? ⟨w.heap.size + 1, 0, none⟩ = some (.int .i64 an) := by rw [hw1.cell (p := ⟨w.heap.size + 1, 0, none⟩) (by first | (with_reducible assumption) | (simp; done) | omega | (simp; omega))]; simp [go_sem]
  have cA1w1 : w1.cell? ⟨w.heap.size + 1, 1, none⟩ = some (.int .i64 ad) := by rw [hw1.cell (p := ⟨w.heap.size + 1, 1, none⟩) (by first | (with_reducible assumption) | (simp; done) | omega | (simp; omega))]; simp [go_sem]
  have bAw1 : w.heap.size + 1 < w1.heap.size := by have := hw1.size; first | omega | (simp at this; omega)
  have dAw1 : w.heap.size + 1 < w1.heap.size + 1 := Nat.lt_succ_of_lt bAw1
  have cB0w1 : w1.cell? ⟨w.heap.size + 2, 0, none⟩ = some (.int .i64 bn) := by rw [hw1.cell (p := ⟨w.heap.size + 2, 0, none⟩) (by first | (with_reducible assumption) | (simp; done) | omega | (simp; omega))]; simp [go_sem]
  have cB1w1 : w1.cell? ⟨w.heap.size + 2, 1, none⟩ = some (.int .i64 bd) := by rw [hw1.cell (p := ⟨w.heap.size + 2, 1, none⟩) (by first | (with_reducible assumption) | (simp; done) | omega | (simp; omega))]; simp [go_sem]
  have bBw1 : w.heap.size + 2 < w1.heap.size := by have := hw1.size; first | omega | (simp at this; omega)
  have dBw1 : w.heap.size + 2 < w1.heap.size + 1 := Nat.lt_succ_of_lt bBw1
  have hBw1 : Below w.heap.size w w1 := hmw1
  have zw1 : w.heap.size ≤ w1.heap.size := hBw1.size
  clear hmw1 hw1
  rw [hX.out]
  go_wp2_with fail
  refine (Fit_any _ _ _ _ _ _ _ hI hF _).mono ?_
  rintro e w2 ⟨rfl, hw2⟩
  have hmw2 : Below w1.heap.size w1 w2 := on_below hw2 (by repeat' (first | (with_reducible exact Below.refl _ _) | (with_reducible assumption) | (with_reducible refine drewN_below ?_ _) | (with_reducible refine Below.drew ?_) | (with_reducible refine Below.alloc ?_ ?_ _) | (with_reducible refine Below.setCell ?_ ?_ _) | (simp; done) | omega | (simp; omega))) (by first | (with_reducible assumption) | (simp; done) | omega | (simp; omega))
  have cG0w2 := (hmw2.cell (p := ⟨w.heap.size, 0, none⟩) bGw1).trans cG0w1
  have cG1w2 := (hmw2.cell (p := ⟨w.heap.size, 1, none⟩) bGw1).trans cG1w1
  have cG2w2 := (hmw2.cell (p := ⟨w.heap.size, 2, none⟩) bGw1).trans cG2w1
  have cG3w2 := (hmw2.cell (p := ⟨w.heap.size, 3, none⟩) bGw1).trans cG3w1
  have cG4w2 := (hmw2.cell (p := ⟨w.heap.size, 4, none⟩) bGw1).trans cG4w1
  have bGw2 : w.heap.size < w2.heap.size := Nat.lt_of_lt_of_le bGw1 hmw2.size
  have dGw2 : w.heap.size < w2.heap.size + 1 := Nat.lt_succ_of_lt bGw2
  have cA0w2 := (hmw2.cell (p := ⟨w.heap.size + 1, 0, none⟩) bAw1).trans cA0w1
  have cA1w2 := (hmw2.cell (p := ⟨w.heap.size + 1, 1, none⟩) bAw1).trans cA1w1
  have bAw2 : w.heap.size + 1 < w2.heap.size := Nat.lt_of_lt_of_le bAw1 hmw2.size
  have dAw2 : w.heap.size + 1 < w2.heap.size + 1 := Nat.lt_succ_of_lt bAw2
  have cB0w2 := (hmw2.cell (p := ⟨w.heap.size + 2, 0, none⟩) bBw1).trans cB0w1
  have cB1w2 := (hmw2.cell (p := ⟨w.heap.size + 2, 1, none⟩) bBw1).trans cB1w1
  have bBw2 : w.heap.size + 2 < w2.heap.size := Nat.lt_of_lt_of_le bBw1 hmw2.size
  have dBw2 : w.heap.size + 2 < w2.heap.size + 1 := Nat.lt_succ_of_lt bBw2
  have cX0w2 : w2.cell? ⟨w1.heap.size, 0, none⟩ = some (.int .i64 x1) := by rw [hw2.cell (p := ⟨w1.heap.size, 0, none⟩) (by first | (with_reducible assumption) | (simp; done) | omega | (simp; omega))]; simp [go_sem]
  have cX1w2 : w2.cell? ⟨w1.heap.size, 1, none⟩ = some (.int .i64 x2) := by rw [hw2.cell (p := ⟨w1.heap.size, 1, none⟩) (by first | (with_reducible assumption) | (simp; done) | omega | (simp; omega))]; simp [go_sem]
  have bXw2 : w1.heap.size < w2.heap.size := by have := hw2.size; first | omega | (simp at this; omega)
  have dXw2 : w1.heap.size < w2.heap.size + 1 := Nat.lt_succ_of_lt bXw2
  have hBw2 : Below w.heap.size w w2 := Below.trans hBw1 (hmw2.mono hBw1.size)
  have zw2 : w.heap.size ≤ w2.heap.size := hBw2.size
  clear hmw2 hw2 zw1 hBw1 dBw1 bBw1 cB1w1 cB0w1 dAw1 bAw1 cA1w1 cA0w1 dGw1 bGw1 cG4w1 cG3w1 cG2w1 cG1w1 cG0w1
  rw [hY.out]
  go_upto_region 3 with fail
  go_cut [33] (fun s33 wx => s33 = .bool false ∧ wx.cell? ⟨w.heap.size, 0, none⟩ = some (.string k) ∧ wx.cell? ⟨w.heap.size, 1, none⟩ = some (.int .i64 I) ∧ wx.cell? ⟨w.heap.size, 2, none⟩ = some (.int .i64 F) ∧ wx.cell? ⟨w.heap.size, 3, none⟩ = some (.string r) ∧ wx.cell? ⟨w.heap.size, 4, none⟩ = some (.string o) ∧ w.heap.size < wx.heap.size ∧ wx.cell? ⟨w.heap.size + 1, 0, none⟩ = some (.int .i64 an) ∧ wx.cell? ⟨w.heap.size + 1, 1, none⟩ = some (.int .i64 ad) ∧ w.heap.size + 1 < wx.heap.size ∧ wx.cell? ⟨w.heap.size + 2, 0, none⟩ = some (.int .i64 bn) ∧ wx.cell? ⟨w.heap.size + 2, 1, none⟩ = some (.int .i64 bd) ∧ w.heap.size + 2 < wx.heap.size ∧ wx.cell? ⟨w1.heap.size, 0, none⟩ = some (.int .i64 x1) ∧ wx.cell? ⟨w1.heap.size, 1, none⟩ = some (.int .i64 x2) ∧ w1.heap.size < wx.heap.size ∧ wx.cell? ⟨w2.heap.size, 0, none⟩ = some (.int .i64 y1) ∧ wx.cell? ⟨w2.heap.size, 1, none⟩ = some (.int .i64 y2) ∧ w2.heap.size < wx.heap.size ∧ Below w.heap.size w wx)
  case first =>
    cases hx : Q.isq x1 x2
    · skip
      have xG : w.heap.size < w2.heap.size + 1 := by omega
      have xA : w.heap.size + 1 < w2.heap.size + 1 := by omega
      have xB : w.heap.size + 2 < w2.heap.size + 1 := by omega
      have xX : w1.heap.size < w2.heap.size + 1 := by omega
      have xY : w2.heap.size < w2.heap.size + 1 := by omega
      refine wp_region_held_drew (S := (fun w' => w'.cell? ⟨w.heap.size, 0, none⟩ = some (.string k) ∧ w'.cell? ⟨w.heap.size, 1, none⟩ = some (.int .i64 I) ∧ w'.cell? ⟨w.heap.size, 2, none⟩ = some (.int .i64 F) ∧ w'.cell? ⟨w.heap.size, 3, none⟩ = some (.string r) ∧ w'.cell? ⟨w.heap.size, 4, none⟩ = some (.string o) ∧ w'.cell? ⟨w.heap.size + 1, 0, none⟩ = some (.int .i64 an) ∧ w'.cell? ⟨w.heap.size + 1, 1, none⟩ = some (.int .i64 ad) ∧ w'.cell? ⟨w.heap.size + 2, 0, none⟩ = some (.int .i64 bn) ∧ w'.cell? ⟨w.heap.size + 2, 1, none⟩ = some (.int .i64 bd) ∧ w'.cell? ⟨w1.heap.size, 0, none⟩ = some (.int .i64 x1) ∧ w'.cell? ⟨w1.heap.size, 1, none⟩ = some (.int .i64 x2) ∧ w'.cell? ⟨w2.heap.size, 0, none⟩ = some (.int .i64 y1) ∧ w'.cell? ⟨w2.heap.size, 1, none⟩ = some (.int .i64 y2) ∧ w2.heap.size + 1 ≤ w'.heap.size ∧ Below w2.heap.size w2 w')) (by kernel_rfl) ?_ ?_
      · (refine ⟨?_, ?_, ?_, ?_, ?_, ?_, ?_, ?_, ?_, ?_, ?_, ?_, ?_, ?_, ?_⟩ <;> first | assumption | ((repeat' (first | (with_reducible exact Below.refl _ _) | (with_reducible assumption) | (with_reducible refine drewN_below ?_ _) | (with_reducible refine Below.drew ?_) | (with_reducible refine Below.alloc ?_ ?_ _) | (with_reducible refine Below.setCell ?_ ?_ _) | (simp; done) | omega | (simp; omega))); done) | (simp [*]; done) | (simp [go_sem, *]; done) | (simp; omega))
      intro hH0
      refine wpAnyH_take (i := 0) (v := ?_) rfl (by kernel_rfl) (by kernel_rfl) (by kernel_rfl) (fun _ _ _ h => h) (Or.inl ⟨by rfl, ?_⟩) (by assumption) ?_
      rotate_left
      focus (intro wq hSq; (try dsimp only at hSq); go_simp; first | done | (with_reducible rfl))
      (try simp only [Act.put, List.getElem_toArray, List.getElem_cons_zero, List.setIfInBounds_toArray, List.set_cons_zero, List.set_cons_succ])
      refine wpAnyH_ready (rs := [1]) (by kernel_rfl) (by simp) ?_
      refine AllReadyH.cons rfl (fun K hK => ?_) AllReadyH.nil
      rw [if_pos (by rfl)]
      go_simp
      refine (ris_any _ _ _).mono ?_
      rintro e wr ⟨rfl, hbr⟩
      obtain ⟨hcr, hfr, hzr, hBr⟩ := after (a := w2) (B := w2.heap.size) (w2.heap.size + 1) hbr (by first | (with_reducible assumption) | (simp; done) | omega | (simp; omega)) (by repeat' (first | (with_reducible exact Below.refl _ _) | (with_reducible assumption) | (with_reducible refine drewN_below ?_ _) | (with_reducible refine Below.drew ?_) | (with_reducible refine Below.alloc ?_ ?_ _) | (with_reducible refine Below.setCell ?_ ?_ _) | (simp; done) | omega | (simp; omega))) (by omega)
      have yG := Nat.lt_of_lt_of_le xG hzr
      have yA := Nat.lt_of_lt_of_le xA hzr
      have yB := Nat.lt_of_lt_of_le xB hzr
      have yX := Nat.lt_of_lt_of_le xX hzr
      have yY := Nat.lt_of_lt_of_le xY hzr
      rw [hx]
      dsimp only
      refine hK.out _ _ ?_ (fun hHeld => ?_)
      · (refine ⟨?_, ?_, ?_, ?_, ?_, ?_, ?_, ?_, ?_, ?_, ?_, ?_, ?_, ?_, ?_⟩ <;> first | assumption | ((repeat' (first | (with_reducible exact Below.refl _ _) | (with_reducible assumption) | (with_reducible refine drewN_below ?_ _) | (with_reducible refine Below.drew ?_) | (with_reducible refine Below.alloc ?_ ?_ _) | (with_reducible refine Below.setCell ?_ ?_ _) | (simp; done) | omega | (simp; omega))); done) | (simp [*]; done) | (simp [go_sem, *]; done) | (simp; omega))
      clear hK K
      (try simp only [Act.put, List.getElem_toArray, List.getElem_cons_succ, List.getElem_cons_zero, List.setIfInBounds_toArray, List.set_cons_zero, List.set_cons_succ])
      refine wpAnyH_take (i := 2) (v := ?_) rfl (by kernel_rfl) (by kernel_rfl) (by kernel_rfl) (fun _ _ _ h => h) (Or.inl ⟨by rfl, ?_⟩) (by assumption) ?_
      rotate_left
      focus (intro wq hSq; (try dsimp only at hSq); go_simp; first | done | (with_reducible rfl))
      (try simp only [Act.put, List.getElem_toArray, List.getElem_cons_succ, List.getElem_cons_zero, List.setIfInBounds_toArray, List.set_cons_zero, List.set_cons_succ])
      refine wpAnyH_take (i := 3) (v := undef) rfl (by kernel_rfl) (by kernel_rfl) (by kernel_rfl) (fun _ _ _ h => h) (Or.inr ⟨by rfl, rfl⟩) (by assumption) ?_
      (try simp only [Act.put, List.getElem_toArray, List.getElem_cons_succ, List.getElem_cons_zero, List.setIfInBounds_toArray, List.set_cons_zero, List.set_cons_succ])
      refine wpAnyH_take (i := 4) (v := undef) rfl (by kernel_rfl) (by kernel_rfl) (by kernel_rfl) (fun _ _ _ h => h) (Or.inr ⟨by rfl, rfl⟩) (by assumption) ?_
      (try simp only [Act.put, List.getElem_toArray, List.getElem_cons_succ, List.getElem_cons_zero, List.setIfInBounds_toArray, List.set_cons_zero, List.set_cons_succ])
      refine wpAnyH_take (i := 5) (v := undef) rfl (by kernel_rfl) (by kernel_rfl) (by kernel_rfl) (fun _ _ _ h => h) (Or.inr ⟨by rfl, rfl⟩) (by assumption) ?_
      (try simp only [Act.put, List.getElem_toArray, List.getElem_cons_succ, List.getElem_cons_zero, List.setIfInBounds_toArray, List.set_cons_zero, List.set_cons_succ])
      refine wpAnyH_take (i := 6) (v := undef) rfl (by kernel_rfl) (by kernel_rfl) (by kernel_rfl) (fun _ _ _ h => h) (Or.inr ⟨by rfl, rfl⟩) (by assumption) ?_
      (try simp only [Act.put, List.getElem_toArray, List.getElem_cons_succ, List.getElem_cons_zero, List.setIfInBounds_toArray, List.set_cons_zero, List.set_cons_succ])
      refine wpAnyH_take (i := 7) (v := undef) rfl (by kernel_rfl) (by kernel_rfl) (by kernel_rfl) (fun _ _ _ h => h) (Or.inr ⟨by rfl, rfl⟩) (by assumption) ?_
      (try simp only [Act.put, List.getElem_toArray, List.getElem_cons_succ, List.getElem_cons_zero, List.setIfInBounds_toArray, List.set_cons_zero, List.set_cons_succ])
      refine wpAnyH_take (i := 8) (v := undef) rfl (by kernel_rfl) (by kernel_rfl) (by kernel_rfl) (fun _ _ _ h => h) (Or.inr ⟨by rfl, rfl⟩) (by assumption) ?_
      (try simp only [Act.put, List.getElem_toArray, List.getElem_cons_succ, List.getElem_cons_zero, List.setIfInBounds_toArray, List.set_cons_zero, List.set_cons_succ])
      refine wpAnyH_take (i := 9) (v := undef) rfl (by kernel_rfl) (by kernel_rfl) (by kernel_rfl) (fun _ _ _ h => h) (Or.inr ⟨by rfl, rfl⟩) (by assumption) ?_
      (try simp only [Act.put, List.getElem_toArray, List.getElem_cons_succ, List.getElem_cons_zero, List.setIfInBounds_toArray, List.set_cons_zero, List.set_cons_succ])
      refine wpAnyH_take (i := 11) (v := undef) rfl (by kernel_rfl) (by kernel_rfl) (by kernel_rfl) (fun _ _ _ h => h) (Or.inr ⟨by rfl, rfl⟩) (by assumption) ?_
      (try simp only [Act.put, List.getElem_toArray, List.getElem_cons_succ, List.getElem_cons_zero, List.setIfInBounds_toArray, List.set_cons_zero, List.set_cons_succ])
      refine wpAnyH_take (i := 10) (v := undef) rfl (by kernel_rfl) (by kernel_rfl) (by kernel_rfl) (fun _ _ _ h => h) (Or.inr ⟨by rfl, rfl⟩) (by assumption) ?_
      (try simp only [Act.put, List.getElem_toArray, List.getElem_cons_succ, List.getElem_cons_zero, List.setIfInBounds_toArray, List.set_cons_zero, List.set_cons_succ])
      refine wpAnyH_take (i := 12) (v := undef) rfl (by kernel_rfl) (by kernel_rfl) (by kernel_rfl) (fun _ _ _ h => h) (Or.inr ⟨by rfl, rfl⟩) (by assumption) ?_
      (try simp only [Act.put, List.getElem_toArray, List.getElem_cons_succ, List.getElem_cons_zero, List.setIfInBounds_toArray, List.set_cons_zero, List.set_cons_succ])
      refine wpAnyH_take (i := 13) (v := undef) rfl (by kernel_rfl) (by kernel_rfl) (by kernel_rfl) (fun _ _ _ h => h) (Or.inr ⟨by rfl, rfl⟩) (by assumption) ?_
      (try simp only [Act.put, List.getElem_toArray, List.getElem_cons_succ, List.getElem_cons_zero, List.setIfInBounds_toArray, List.set_cons_zero, List.set_cons_succ])
      refine wpAnyH_take (i := 14) (v := ?_) rfl (by kernel_rfl) (by kernel_rfl) (by kernel_rfl) (fun _ _ _ h => h) (Or.inl ⟨by rfl, ?_⟩) (by assumption) ?_
      rotate_left
      focus (intro wq hSq; (try dsimp only at hSq); go_simp; first | done | (with_reducible rfl))
      (try simp only [Act.put, List.getElem_toArray, List.getElem_cons_succ, List.getElem_cons_zero, List.setIfInBounds_toArray, List.set_cons_zero, List.set_cons_succ])
      refine wpAnyH_done (by kernel_rfl) ?_ _
      obtain ⟨s0, s1, s2, s3, s4, s5, s6, s7, s8, s9, s10, s11, s12, s13, s14⟩ := (by assumption : wr.cell? ⟨w.heap.size, 0, none⟩ = some (.string k) ∧ wr.cell? ⟨w.heap.size, 1, none⟩ = some (.int .i64 I) ∧ wr.cell? ⟨w.heap.size, 2, none⟩ = some (.int .i64 F) ∧ wr.cell? ⟨w.heap.size, 3, none⟩ = some (.string r) ∧ wr.cell? ⟨w.heap.size, 4, none⟩ = some (.string o) ∧ wr.cell? ⟨w.heap.size + 1, 0, none⟩ = some (.int .i64 an) ∧ wr.cell? ⟨w.heap.size + 1, 1, none⟩ = some (.int .i64 ad) ∧ wr.cell? ⟨w.heap.size + 2, 0, none⟩ = some (.int .i64 bn) ∧ wr.cell? ⟨w.heap.size + 2, 1, none⟩ = some (.int .i64 bd) ∧ wr.cell? ⟨w1.heap.size, 0, none⟩ = some (.int .i64 x1) ∧ wr.cell? ⟨w1.heap.size, 1, none⟩ = some (.int .i64 x2) ∧ wr.cell? ⟨w2.heap.size, 0, none⟩ = some (.int .i64 y1) ∧ wr.cell? ⟨w2.heap.size, 1, none⟩ = some (.int .i64 y2) ∧ w2.heap.size + 1 ≤ wr.heap.size ∧ Below w2.heap.size w2 wr)
      have cG0w3 := s0
      have cG1w3 := s1
      have cG2w3 := s2
      have cG3w3 := s3
      have cG4w3 := s4
      have cA0w3 := s5
      have cA1w3 := s6
      have cB0w3 := s7
      have cB1w3 := s8
      have cX0w3 := s9
      have cX1w3 := s10
      have cY0w3 := s11
      have cY1w3 := s12
      have bGw3 : w.heap.size < wr.heap.size := Nat.lt_of_lt_of_le xG s13
      have dGw3 : w.heap.size < wr.heap.size + 1 := Nat.lt_succ_of_lt bGw3
      have bAw3 : w.heap.size + 1 < wr.heap.size := Nat.lt_of_lt_of_le xA s13
      have dAw3 : w.heap.size + 1 < wr.heap.size + 1 := Nat.lt_succ_of_lt bAw3
      have bBw3 : w.heap.size + 2 < wr.heap.size := Nat.lt_of_lt_of_le xB s13
      have dBw3 : w.heap.size + 2 < wr.heap.size + 1 := Nat.lt_succ_of_lt bBw3
      have bXw3 : w1.heap.size < wr.heap.size := Nat.lt_of_lt_of_le xX s13
      have dXw3 : w1.heap.size < wr.heap.size + 1 := Nat.lt_succ_of_lt bXw3
      have bYw3 : w2.heap.size < wr.heap.size := Nat.lt_of_lt_of_le xY s13
      have dYw3 : w2.heap.size < wr.heap.size + 1 := Nat.lt_succ_of_lt bYw3
      have hBw3 : Below w.heap.size w wr := Below.trans hBw2 (s14.mono hBw2.size)
      have zw3 : w.heap.size ≤ wr.heap.size := hBw3.size
      clear s0 s1 s2 s3 s4 s5 s6 s7 s8 s9 s10 s11 s12 s13 s14 xG xA xB xX xY hcr hfr hzr hBr hbr zw2 hBw2 dXw2 bXw2 cX1w2 cX0w2 dBw2 bBw2 cB1w2 cB0w2 dAw2 bAw2 cA1w2 cA0w2 dGw2 bGw2 cG4w2 cG3w2 cG2w2 cG1w2 cG0w2
      repeat (clear hcr hfr hzr hBr hbr)
      skip
      obtain ⟨w3, ew3⟩ : ∃ x, x = wr := ⟨_, rfl⟩
      subst ew3
      go_wp2
      go_meet
      (refine ⟨rfl, ?_, ?_, ?_, ?_, ?_, ?_, ?_, ?_, ?_, ?_, ?_, ?_, ?_, ?_, ?_, ?_, ?_, ?_, ?_⟩ <;> first | assumption | (simp [go_sem, *]; done) | omega | (simp; omega) | (repeat' (first | (with_reducible exact Below.refl _ _) | (with_reducible assumption) | (with_reducible refine drewN_below ?_ _) | (with_reducible refine Below.drew ?_) | (with_reducible refine Below.alloc ?_ ?_ _) | (with_reducible refine Below.setCell ?_ ?_ _) | (simp; done) | omega | (simp; omega))))
    · obtain ⟨i1, i2⟩ := hIdem.out hx
      have I1 := Lib.hid i1
      have I2 := Lib.hid i2
      clear i1 i2
      have xG : w.heap.size < w2.heap.size + 1 := by omega
      have xA : w.heap.size + 1 < w2.heap.size + 1 := by omega
      have xB : w.heap.size + 2 < w2.heap.size + 1 := by omega
      have xX : w1.heap.size < w2.heap.size + 1 := by omega
      have xY : w2.heap.size < w2.heap.size + 1 := by omega
      refine wp_region_held_drew (S := (fun w' => w'.cell? ⟨w.heap.size, 0, none⟩ = some (.string k) ∧ w'.cell? ⟨w.heap.size, 1, none⟩ = some (.int .i64 I) ∧ w'.cell? ⟨w.heap.size, 2, none⟩ = some (.int .i64 F) ∧ w'.cell? ⟨w.heap.size, 3, none⟩ = some (.string r) ∧ w'.cell? ⟨w.heap.size, 4, none⟩ = some (.string o) ∧ w'.cell? ⟨w.heap.size + 1, 0, none⟩ = some (.int .i64 an) ∧ w'.cell? ⟨w.heap.size + 1, 1, none⟩ = some (.int .i64 ad) ∧ w'.cell? ⟨w.heap.size + 2, 0, none⟩ = some (.int .i64 bn) ∧ w'.cell? ⟨w.heap.size + 2, 1, none⟩ = some (.int .i64 bd) ∧ w'.cell? ⟨w1.heap.size, 0, none⟩ = some (.int .i64 x1) ∧ w'.cell? ⟨w1.heap.size, 1, none⟩ = some (.int .i64 x2) ∧ w'.cell? ⟨w2.heap.size, 0, none⟩ = some (.int .i64 y1) ∧ w'.cell? ⟨w2.heap.size, 1, none⟩ = some (.int .i64 y2) ∧ w2.heap.size + 1 ≤ w'.heap.size ∧ Below w2.heap.size w2 w')) (by kernel_rfl) ?_ ?_
      · (refine ⟨?_, ?_, ?_, ?_, ?_, ?_, ?_, ?_, ?_, ?_, ?_, ?_, ?_, ?_, ?_⟩ <;> first | assumption | ((repeat' (first | (with_reducible exact Below.refl _ _) | (with_reducible assumption) | (with_reducible refine drewN_below ?_ _) | (with_reducible refine Below.drew ?_) | (with_reducible refine Below.alloc ?_ ?_ _) | (with_reducible refine Below.setCell ?_ ?_ _) | (simp; done) | omega | (simp; omega))); done) | (simp [*]; done) | (simp [go_sem, *]; done) | (simp; omega))
      intro hH0
      refine wpAnyH_take (i := 0) (v := ?_) rfl (by kernel_rfl) (by kernel_rfl) (by kernel_rfl) (fun _ _ _ h => h) (Or.inl ⟨by rfl, ?_⟩) (by assumption) ?_
      rotate_left
      focus (intro wq hSq; (try dsimp only at hSq); go_simp; first | done | (with_reducible rfl))
      (try simp only [Act.put, List.getElem_toArray, List.getElem_cons_zero, List.setIfInBounds_toArray, List.set_cons_zero, List.set_cons_succ])
      refine wpAnyH_ready (rs := [1]) (by kernel_rfl) (by simp) ?_
      refine AllReadyH.cons rfl (fun K hK => ?_) AllReadyH.nil
      rw [if_pos (by rfl)]
      go_simp
      refine (ris_any _ _ _).mono ?_
      rintro e wr ⟨rfl, hbr⟩
      obtain ⟨hcr, hfr, hzr, hBr⟩ := after (a := w2) (B := w2.heap.size) (w2.heap.size + 1) hbr (by first | (with_reducible assumption) | (simp; done) | omega | (simp; omega)) (by repeat' (first | (with_reducible exact Below.refl _ _) | (with_reducible assumption) | (with_reducible refine drewN_below ?_ _) | (with_reducible refine Below.drew ?_) | (with_reducible refine Below.alloc ?_ ?_ _) | (with_reducible refine Below.setCell ?_ ?_ _) | (simp; done) | omega | (simp; omega))) (by omega)
      have yG := Nat.lt_of_lt_of_le xG hzr
      have yA := Nat.lt_of_lt_of_le xA hzr
      have yB := Nat.lt_of_lt_of_le xB hzr
      have yX := Nat.lt_of_lt_of_le xX hzr
      have yY := Nat.lt_of_lt_of_le xY hzr
      rw [hx]
      dsimp only
      refine hK.out _ _ ?_ (fun hHeld => ?_)
      · (refine ⟨?_, ?_, ?_, ?_, ?_, ?_, ?_, ?_, ?_, ?_, ?_, ?_, ?_, ?_, ?_⟩ <;> first | assumption | ((repeat' (first | (with_reducible exact Below.refl _ _) | (with_reducible assumption) | (with_reducible refine drewN_below ?_ _) | (with_reducible refine Below.drew ?_) | (with_reducible refine Below.alloc ?_ ?_ _) | (with_reducible refine Below.setCell ?_ ?_ _) | (simp; done) | omega | (simp; omega))); done) | (simp [*]; done) | (simp [go_sem, *]; done) | (simp; omega))
      clear hK K
      (try simp only [Act.put, List.getElem_toArray, List.getElem_cons_succ, List.getElem_cons_zero, List.setIfInBounds_toArray, List.set_cons_zero, List.set_cons_succ])
      refine wpAnyH_take (i := 2) (v := ?_) rfl (by kernel_rfl) (by kernel_rfl) (by kernel_rfl) (fun _ _ _ h => h) (Or.inl ⟨by rfl, ?_⟩) (by assumption) ?_
      rotate_left
      focus (intro wq hSq; (try dsimp only at hSq); go_simp; first | done | (with_reducible rfl))
      (try simp only [Act.put, List.getElem_toArray, List.getElem_cons_succ, List.getElem_cons_zero, List.setIfInBounds_toArray, List.set_cons_zero, List.set_cons_succ])
      refine wpAnyH_take (i := 3) (v := ?_) rfl (by kernel_rfl) (by kernel_rfl) (by kernel_rfl) (fun _ _ _ h => h) (Or.inl ⟨by rfl, ?_⟩) (by assumption) ?_
      rotate_left
      focus (intro wq hSq; (try dsimp only at hSq); go_simp; first | done | (with_reducible rfl))
      (try simp only [Act.put, List.getElem_toArray, List.getElem_cons_succ, List.getElem_cons_zero, List.setIfInBounds_toArray, List.set_cons_zero, List.set_cons_succ])
      refine wpAnyH_take (i := 4) (v := ?_) rfl (by kernel_rfl) (by kernel_rfl) (by kernel_rfl) (fun _ _ _ h => h) (Or.inl ⟨by rfl, ?_⟩) (by assumption) ?_
      rotate_left
      focus (intro wq hSq; (try dsimp only at hSq); go_simp; first | done | (with_reducible rfl))
      (try simp only [Act.put, List.getElem_toArray, List.getElem_cons_succ, List.getElem_cons_zero, List.setIfInBounds_toArray, List.set_cons_zero, List.set_cons_succ])
      refine wpAnyH_ready (rs := [5]) (by kernel_rfl) (by simp) ?_
      refine AllReadyH.cons rfl (fun K hK => ?_) AllReadyH.nil
      rw [if_pos (by rfl)]
      go_simp
      refine (Is_any _ _ _ _ _ _ _ hI hF _).mono ?_
      rintro e wr ⟨rfl, hbr⟩
      obtain ⟨hcr, hfr, hzr, hBr⟩ := after (a := w2) (B := w2.heap.size) (w2.heap.size + 1) hbr (by first | (with_reducible assumption) | (simp; done) | omega | (simp; omega)) (by repeat' (first | (with_reducible exact Below.refl _ _) | (with_reducible assumption) | (with_reducible refine drewN_below ?_ _) | (with_reducible refine Below.drew ?_) | (with_reducible refine Below.alloc ?_ ?_ _) | (with_reducible refine Below.setCell ?_ ?_ _) | (simp; done) | omega | (simp; omega))) (by omega)
      have yG := Nat.lt_of_lt_of_le xG hzr
      have yA := Nat.lt_of_lt_of_le xA hzr
      have yB := Nat.lt_of_lt_of_le xB hzr
      have yX := Nat.lt_of_lt_of_le xX hzr
      have yY := Nat.lt_of_lt_of_le xY hzr
      rw [I2.out]
      dsimp only
      refine hK.out _ _ ?_ (fun hHeld => ?_)
      · (refine ⟨?_, ?_, ?_, ?_, ?_, ?_, ?_, ?_, ?_, ?_, ?_, ?_, ?_, ?_, ?_⟩ <;> first | assumption | ((repeat' (first | (with_reducible exact Below.refl _ _) | (with_reducible assumption) | (with_reducible refine drewN_below ?_ _) | (with_reducible refine Below.drew ?_) | (with_reducible refine Below.alloc ?_ ?_ _) | (with_reducible refine Below.setCell ?_ ?_ _) | (simp; done) | omega | (simp; omega))); done) | (simp [*]; done) | (simp [go_sem, *]; done) | (simp; omega))
      clear hK K
      (try simp only [Act.put, List.getElem_toArray, List.getElem_cons_succ, List.getElem_cons_zero, List.setIfInBounds_toArray, List.set_cons_zero, List.set_cons_succ])
      refine wpAnyH_take (i := 6) (v := ?_) rfl (by kernel_rfl) (by kernel_rfl) (by kernel_rfl) (fun _ _ _ h => h) (Or.inl ⟨by rfl, ?_⟩) (by assumption) ?_
      rotate_left
      focus (intro wq hSq; (try dsimp only at hSq); go_simp; first | done | (with_reducible rfl))
      (try simp only [Act.put, List.getElem_toArray, List.getElem_cons_succ, List.getElem_cons_zero, List.setIfInBounds_toArray, List.set_cons_zero, List.set_cons_succ])
      refine wpAnyH_take (i := 7) (v := ?_) rfl (by kernel_rfl) (by kernel_rfl) (by kernel_rfl) (fun _ _ _ h => h) (Or.inl ⟨by rfl, ?_⟩) (by assumption) ?_
      rotate_left
      focus (intro wq hSq; (try dsimp only at hSq); go_simp; first | done | (with_reducible rfl))
      (try simp only [Act.put, List.getElem_toArray, List.getElem_cons_succ, List.getElem_cons_zero, List.setIfInBounds_toArray, List.set_cons_zero, List.set_cons_succ])
      refine wpAnyH_take (i := 8) (v := ?_) rfl (by kernel_rfl) (by kernel_rfl) (by kernel_rfl) (fun _ _ _ h => h) (Or.inl ⟨by rfl, ?_⟩) (by assumption) ?_
      rotate_left
      focus (intro wq hSq; (try dsimp only at hSq); go_simp; first | done | (with_reducible rfl))
      (try simp only [Act.put, List.getElem_toArray, List.getElem_cons_succ, List.getElem_cons_zero, List.setIfInBounds_toArray, List.set_cons_zero, List.set_cons_succ])
      refine wpAnyH_take (i := 9) (v := ?_) rfl (by kernel_rfl) (by kernel_rfl) (by kernel_rfl) (fun _ _ _ h => h) (Or.inl ⟨by rfl, ?_⟩) (by assumption) ?_
      rotate_left
      focus (intro wq hSq; (try dsimp only at hSq); go_simp; first | done | (with_reducible rfl))
      (try simp only [Act.put, List.getElem_toArray, List.getElem_cons_succ, List.getElem_cons_zero, List.setIfInBounds_toArray, List.set_cons_zero, List.set_cons_succ])
      refine wpAnyH_take (i := 11) (v := ?_) rfl (by kernel_rfl) (by kernel_rfl) (by kernel_rfl) (fun _ _ _ h => h) (Or.inl ⟨by rfl, ?_⟩) (by assumption) ?_
      rotate_left
      focus (intro wq hSq; (try dsimp only at hSq); go_simp; first | done | (with_reducible rfl))
      (try simp only [Act.put, List.getElem_toArray, List.getElem_cons_succ, List.getElem_cons_zero, List.setIfInBounds_toArray, List.set_cons_zero, List.set_cons_succ])
      refine wpAnyH_ready (rs := [10]) (by kernel_rfl) (by simp) ?_
      refine AllReadyH.cons rfl (fun K hK => ?_) AllReadyH.nil
      rw [if_pos (by rfl)]
      go_simp
      refine (Fit_any _ _ _ _ _ _ _ hI hF _).mono ?_
      rintro e wr ⟨rfl, hbr⟩
      obtain ⟨hcr, hfr, hzr, hBr⟩ := after (a := w2) (B := w2.heap.size) (w2.heap.size + 1) hbr (by first | (with_reducible assumption) | (simp; done) | omega | (simp; omega)) (by repeat' (first | (with_reducible exact Below.refl _ _) | (with_reducible assumption) | (with_reducible refine drewN_below ?_ _) | (with_reducible refine Below.drew ?_) | (with_reducible refine Below.alloc ?_ ?_ _) | (with_reducible refine Below.setCell ?_ ?_ _) | (simp; done) | omega | (simp; omega))) (by omega)
      have yG := Nat.lt_of_lt_of_le xG hzr
      have yA := Nat.lt_of_lt_of_le xA hzr
      have yB := Nat.lt_of_lt_of_le xB hzr
      have yX := Nat.lt_of_lt_of_le xX hzr
      have yY := Nat.lt_of_lt_of_le xY hzr
      rw [I1.out]
      dsimp only
      refine hK.out _ _ ?_ (fun hHeld => ?_)
      · (refine ⟨?_, ?_, ?_, ?_, ?_, ?_, ?_, ?_, ?_, ?_, ?_, ?_, ?_, ?_, ?_⟩ <;> first | assumption | ((repeat' (first | (with_reducible exact Below.refl _ _) | (with_reducible assumption) | (with_reducible refine drewN_below ?_ _) | (with_reducible refine Below.drew ?_) | (with_reducible refine Below.alloc ?_ ?_ _) | (with_reducible refine Below.setCell ?_ ?_ _) | (simp; done) | omega | (simp; omega))); done) | (simp [*]; done) | (simp [go_sem, *]; done) | (simp; omega))
      clear hK K
      (try simp only [Act.put, List.getElem_toArray, List.getElem_cons_succ, List.getElem_cons_zero, List.setIfInBounds_toArray, List.set_cons_zero, List.set_cons_succ])
      refine wpAnyH_take (i := 12) (v := ?_) rfl (by kernel_rfl) (by kernel_rfl) (by kernel_rfl) (fun _ _ _ h => h) (Or.inl ⟨by rfl, ?_⟩) (by assumption) ?_
      rotate_left
      focus (intro wq hSq; (try dsimp only at hSq); go_simp; first | done | (with_reducible rfl))
      (try simp only [Act.put, List.getElem_toArray, List.getElem_cons_succ, List.getElem_cons_zero, List.setIfInBounds_toArray, List.set_cons_zero, List.set_cons_succ])
      refine wpAnyH_take (i := 13) (v := ?_) rfl (by kernel_rfl) (by kernel_rfl) (by kernel_rfl) (fun _ _ _ h => h) (Or.inl ⟨by rfl, ?_⟩) (by assumption) ?_
      rotate_left
      focus (intro wq hSq; (try dsimp only at hSq); go_simp; first | done | (with_reducible rfl))
      (try simp only [Act.put, List.getElem_toArray, List.getElem_cons_succ, List.getElem_cons_zero, List.setIfInBounds_toArray, List.set_cons_zero, List.set_cons_succ])
      refine wpAnyH_take (i := 14) (v := ?_) rfl (by kernel_rfl) (by kernel_rfl) (by kernel_rfl) (fun _ _ _ h => h) (Or.inl ⟨by rfl, ?_⟩) (by assumption) ?_
      rotate_left
      focus (intro wq hSq; (try dsimp only at hSq); go_simp; first | done | (with_reducible rfl))
      (try simp only [Act.put, List.getElem_toArray, List.getElem_cons_succ, List.getElem_cons_zero, List.setIfInBounds_toArray, List.set_cons_zero, List.set_cons_succ])
      refine wpAnyH_done (by kernel_rfl) ?_ _
      obtain ⟨s0, s1, s2, s3, s4, s5, s6, s7, s8, s9, s10, s11, s12, s13, s14⟩ := (by assumption : wr.cell? ⟨w.heap.size, 0, none⟩ = some (.string k) ∧ wr.cell? ⟨w.heap.size, 1, none⟩ = some (.int .i64 I) ∧ wr.cell? ⟨w.heap.size, 2, none⟩ = some (.int .i64 F) ∧ wr.cell? ⟨w.heap.size, 3, none⟩ = some (.string r) ∧ wr.cell? ⟨w.heap.size, 4, none⟩ = some (.string o) ∧ wr.cell? ⟨w.heap.size + 1, 0, none⟩ = some (.int .i64 an) ∧ wr.cell? ⟨w.heap.size + 1, 1, none⟩ = some (.int .i64 ad) ∧ wr.cell? ⟨w.heap.size + 2, 0, none⟩ = some (.int .i64 bn) ∧ wr.cell? ⟨w.heap.size + 2, 1, none⟩ = some (.int .i64 bd) ∧ wr.cell? ⟨w1.heap.size, 0, none⟩ = some (.int .i64 x1) ∧ wr.cell? ⟨w1.heap.size, 1, none⟩ = some (.int .i64 x2) ∧ wr.cell? ⟨w2.heap.size, 0, none⟩ = some (.int .i64 y1) ∧ wr.cell? ⟨w2.heap.size, 1, none⟩ = some (.int .i64 y2) ∧ w2.heap.size + 1 ≤ wr.heap.size ∧ Below w2.heap.size w2 wr)
      have cG0w3 := s0
      have cG1w3 := s1
      have cG2w3 := s2
      have cG3w3 := s3
      have cG4w3 := s4
      have cA0w3 := s5
      have cA1w3 := s6
      have cB0w3 := s7
      have cB1w3 := s8
      have cX0w3 := s9
      have cX1w3 := s10
      have cY0w3 := s11
      have cY1w3 := s12
      have bGw3 : w.heap.size < wr.heap.size := Nat.lt_of_lt_of_le xG s13
      have dGw3 : w.heap.size < wr.heap.size + 1 := Nat.lt_succ_of_lt bGw3
      have bAw3 : w.heap.size + 1 < wr.heap.size := Nat.lt_of_lt_of_le xA s13
      have dAw3 : w.heap.size + 1 < wr.heap.size + 1 := Nat.lt_succ_of_lt bAw3
      have bBw3 : w.heap.size + 2 < wr.heap.size := Nat.lt_of_lt_of_le xB s13
      have dBw3 : w.heap.size + 2 < wr.heap.size + 1 := Nat.lt_succ_of_lt bBw3
      have bXw3 : w1.heap.size < wr.heap.size := Nat.lt_of_lt_of_le xX s13
      have dXw3 : w1.heap.size < wr.heap.size + 1 := Nat.lt_succ_of_lt bXw3
      have bYw3 : w2.heap.size < wr.heap.size := Nat.lt_of_lt_of_le xY s13
      have dYw3 : w2.heap.size < wr.heap.size + 1 := Nat.lt_succ_of_lt bYw3
      have hBw3 : Below w.heap.size w wr := Below.trans hBw2 (s14.mono hBw2.size)
      have zw3 : w.heap.size ≤ wr.heap.size := hBw3.size
      clear s0 s1 s2 s3 s4 s5 s6 s7 s8 s9 s10 s11 s12 s13 s14 xG xA xB xX xY hcr hfr hzr hBr hbr zw2 hBw2 dXw2 bXw2 cX1w2 cX0w2 dBw2 bBw2 cB1w2 cB0w2 dAw2 bAw2 cA1w2 cA0w2 dGw2 bGw2 cG4w2 cG3w2 cG2w2 cG1w2 cG0w2
      repeat (clear hcr hfr hzr hBr hbr)
      skip
      obtain ⟨w3, ew3⟩ : ∃ x, x = wr := ⟨_, rfl⟩
      subst ew3
      go_wp2
      go_meet
      (refine ⟨rfl, ?_, ?_, ?_, ?_, ?_, ?_, ?_, ?_, ?_, ?_, ?_, ?_, ?_, ?_, ?_, ?_, ?_, ?_, ?_⟩ <;> first | assumption | (simp [go_sem, *]; done) | omega | (simp; omega) | (repeat' (first | (with_reducible exact Below.refl _ _) | (with_reducible assumption) | (with_reducible refine drewN_below ?_ _) | (with_reducible refine Below.drew ?_) | (with_reducible refine Below.alloc ?_ ?_ _) | (with_reducible refine Below.setCell ?_ ?_ _) | (simp; done) | omega | (simp; omega))))
  case rest =>
    obtain ⟨rfl, cG0w3, cG1w3, cG2w3, cG3w3, cG4w3, bGw3, cA0w3, cA1w3, bAw3, cB0w3, cB1w3, bBw3, cX0w3, cX1w3, bXw3, cY0w3, cY1w3, bYw3, hBw3⟩ := hcut
    have dGw3 : w.heap.size < wc.heap.size + 1 := Nat.lt_succ_of_lt bGw3
    have dAw3 : w.heap.size + 1 < wc.heap.size + 1 := Nat.lt_succ_of_lt bAw3
    have dBw3 : w.heap.size + 2 < wc.heap.size + 1 := Nat.lt_succ_of_lt bBw3
    have dXw3 : w1.heap.size < wc.heap.size + 1 := Nat.lt_succ_of_lt bXw3
    have dYw3 : w2.heap.size < wc.heap.size + 1 := Nat.lt_succ_of_lt bYw3
    have zw3 : w.heap.size ≤ wc.heap.size := hBw3.size
    obtain ⟨w3, ew3⟩ : ∃ x, x = wc := ⟨_, rfl⟩
    subst ew3
    clear zw2 hBw2 dXw2 bXw2 cX1w2 cX0w2 dBw2 bBw2 cB1w2 cB0w2 dAw2 bAw2 cA1w2 cA0w2 dGw2 bGw2 cG4w2 cG3w2 cG2w2 cG1w2 cG0w2
    go_upto_region 5 with fail
    go_cut [56] (fun s56 wx => s56 = .bool false ∧ wx.cell? ⟨w.heap.size, 0, none⟩ = some (.string k) ∧ wx.cell? ⟨w.heap.size, 1, none⟩ = some (.int .i64 I) ∧ wx.cell? ⟨w.heap.size, 2, none⟩ = some (.int .i64 F) ∧ wx.cell? ⟨w.heap.size, 3, none⟩ = some (.string r) ∧ wx.cell? ⟨w.heap.size, 4, none⟩ = some (.string o) ∧ w.heap.size < wx.heap.size ∧ wx.cell? ⟨w.heap.size + 1, 0, none⟩ = some (.int .i64 an) ∧ wx.cell? ⟨w.heap.size + 1, 1, none⟩ = some (.int .i64 ad) ∧ w.heap.size + 1 < wx.heap.size ∧ wx.cell? ⟨w.heap.size + 2, 0, none⟩ = some (.int .i64 bn) ∧ wx.cell? ⟨w.heap.size + 2, 1, none⟩ = some (.int .i64 bd) ∧ w.heap.size + 2 < wx.heap.size ∧ wx.cell? ⟨w1.heap.size, 0, none⟩ = some (.int .i64 x1) ∧ wx.cell? ⟨w1.heap.size, 1, none⟩ = some (.int .i64 x2) ∧ w1.heap.size < wx.heap.size ∧ wx.cell? ⟨w2.heap.size, 0, none⟩ = some (.int .i64 y1) ∧ wx.cell? ⟨w2.heap.size, 1, none⟩ = some (.int .i64 y2) ∧ w2.heap.size < wx.heap.size ∧ Below w.heap.size w wx)
    case first =>
      cases ho : (o.toList == [119, 114, 97, 112])
      rotate_left
      · skip
        go_wp2
        go_meet
        (refine ⟨rfl, ?_, ?_, ?_, ?_, ?_, ?_, ?_, ?_, ?_, ?_, ?_, ?_, ?_, ?_, ?_, ?_, ?_, ?_, ?_⟩ <;> first | assumption | (simp [go_sem, *]; done) | omega | (simp; omega) | (repeat' (first | (with_reducible exact Below.refl _ _) | (with_reducible assumption) | (with_reducible refine drewN_below ?_ _) | (with_reducible refine Below.drew ?_) | (with_reducible refine Below.alloc ?_ ?_ _) | (with_reducible refine Below.setCell ?_ ?_ _) | (simp; done) | omega | (simp; omega))))
      cases hx : Q.isq x1 x2
      · skip
        go_wp2_with fail
        refine (ris_any _ _ _).mono ?_
        rintro e w4 ⟨rfl, hw4⟩
        have hmw4 : Below w3.heap.size w3 w4 := on_below hw4 (by repeat' (first | (with_reducible exact Below.refl _ _) | (with_reducible assumption) | (with_reducible refine drewN_below ?_ _) | (with_reducible refine Below.drew ?_) | (with_reducible refine Below.alloc ?_ ?_ _) | (with_reducible refine Below.setCell ?_ ?_ _) | (simp; done) | omega | (simp; omega))) (by first | (with_reducible assumption) | (simp; done) | omega | (simp; omega))
        have cG0w4 := (hmw4.cell (p := ⟨w.heap.size, 0, none⟩) bGw3).trans cG0w3
        have cG1w4 := (hmw4.cell (p := ⟨w.heap.size, 1, none⟩) bGw3).trans cG1w3
        have cG2w4 := (hmw4.cell (p := ⟨w.heap.size, 2, none⟩) bGw3).trans cG2w3
        have cG3w4 := (hmw4.cell (p := ⟨w.heap.size, 3, none⟩) bGw3).trans cG3w3
        have cG4w4 := (hmw4.cell (p := ⟨w.heap.size, 4, none⟩) bGw3).trans cG4w3
        have bGw4 : w.heap.size < w4.heap.size := Nat.lt_of_lt_of_le bGw3 hmw4.size
        have dGw4 : w.heap.size < w4.heap.size + 1 := Nat.lt_succ_of_lt bGw4
        have cA0w4 := (hmw4.cell (p := ⟨w.heap.size + 1, 0, none⟩) bAw3).trans cA0w3
        have cA1w4 := (hmw4.cell (p := ⟨w.heap.size + 1, 1, none⟩) bAw3).trans cA1w3
        have bAw4 : w.heap.size + 1 < w4.heap.size := Nat.lt_of_lt_of_le bAw3 hmw4.size
        have dAw4 : w.heap.size + 1 < w4.heap.size + 1 := Nat.lt_succ_of_lt bAw4
        have cB0w4 := (hmw4.cell (p := ⟨w.heap.size + 2, 0, none⟩) bBw3).trans cB0w3
        have cB1w4 := (hmw4.cell (p := ⟨w.heap.size + 2, 1, none⟩) bBw3).trans cB1w3
        have bBw4 : w.heap.size + 2 < w4.heap.size := Nat.lt_of_lt_of_le bBw3 hmw4.size
        have dBw4 : w.heap.size + 2 < w4.heap.size + 1 := Nat.lt_succ_of_lt bBw4
        have cX0w4 := (hmw4.cell (p := ⟨w1.heap.size, 0, none⟩) bXw3).trans cX0w3
        have cX1w4 := (hmw4.cell (p := ⟨w1.heap.size, 1, none⟩) bXw3).trans cX1w3
        have bXw4 : w1.heap.size < w4.heap.size := Nat.lt_of_lt_of_le bXw3 hmw4.size
        have dXw4 : w1.heap.size < w4.heap.size + 1 := Nat.lt_succ_of_lt bXw4
        have cY0w4 := (hmw4.cell (p := ⟨w2.heap.size, 0, none⟩) bYw3).trans cY0w3
        have cY1w4 := (hmw4.cell (p := ⟨w2.heap.size, 1, none⟩) bYw3).trans cY1w3
        have bYw4 : w2.heap.size < w4.heap.size := Nat.lt_of_lt_of_le bYw3 hmw4.size
        have dYw4 : w2.heap.size < w4.heap.size + 1 := Nat.lt_succ_of_lt bYw4
        have hBw4 : Below w.heap.size w w4 := Below.trans hBw3 (hmw4.mono hBw3.size)
        have zw4 : w.heap.size ≤ w4.heap.size := hBw4.size
        clear hmw4 hw4 zw3 dYw3 dXw3 dBw3 dAw3 dGw3 hBw3 bYw3 cY1w3 cY0w3 bXw3 cX1w3 cX0w3 bBw3 cB1w3 cB0w3 bAw3 cA1w3 cA0w3 bGw3 cG4w3 cG3w3 cG2w3 cG1w3 cG0w3
        rw [hx]
        go_wp2
        go_meet
        (refine ⟨rfl, ?_, ?_, ?_, ?_, ?_, ?_, ?_, ?_, ?_, ?_, ?_, ?_, ?_, ?_, ?_, ?_, ?_, ?_, ?_⟩ <;> first | assumption | (simp [go_sem, *]; done) | omega | (simp; omega) | (repeat' (first | (with_reducible exact Below.refl _ _) | (with_reducible assumption) | (with_reducible refine drewN_below ?_ _) | (with_reducible refine Below.drew ?_) | (with_reducible refine Below.alloc ?_ ?_ _) | (with_reducible refine Below.setCell ?_ ?_ _) | (simp; done) | omega | (simp; omega))))
      · cases hy : Q.isq y1 y2
        · skip
          go_wp2_with fail
          refine (ris_any _ _ _).mono ?_
          rintro e w4 ⟨rfl, hw4⟩
          have hmw4 : Below w3.heap.size w3 w4 := on_below hw4 (by repeat' (first | (with_reducible exact Below.refl _ _) | (with_reducible assumption) | (with_reducible refine drewN_below ?_ _) | (with_reducible refine Below.drew ?_) | (with_reducible refine Below.alloc ?_ ?_ _) | (with_reducible refine Below.setCell ?_ ?_ _) | (simp; done) | omega | (simp; omega))) (by first | (with_reducible assumption) | (simp; done) | omega | (simp; omega))
          have cG0w4 := (hmw4.cell (p := ⟨w.heap.size, 0, none⟩) bGw3).trans cG0w3
          have cG1w4 := (hmw4.cell (p := ⟨w.heap.size, 1, none⟩) bGw3).trans cG1w3
          have cG2w4 := (hmw4.cell (p := ⟨w.heap.size, 2, none⟩) bGw3).trans cG2w3
          have cG3w4 := (hmw4.cell (p := ⟨w.heap.size, 3, none⟩) bGw3).trans cG3w3
          have cG4w4 := (hmw4.cell (p := ⟨w.heap.size, 4, none⟩) bGw3).trans cG4w3
          have bGw4 : w.heap.size < w4.heap.size := Nat.lt_of_lt_of_le bGw3 hmw4.size
          have dGw4 : w.heap.size < w4.heap.size + 1 := Nat.lt_succ_of_lt bGw4
          have cA0w4 := (hmw4.cell (p := ⟨w.heap.size + 1, 0, none⟩) bAw3).trans cA0w3
          have cA1w4 := (hmw4.cell (p := ⟨w.heap.size + 1, 1, none⟩) bAw3).trans cA1w3
          have bAw4 : w.heap.size + 1 < w4.heap.size := Nat.lt_of_lt_of_le bAw3 hmw4.size
          have dAw4 : w.heap.size + 1 < w4.heap.size + 1 := Nat.lt_succ_of_lt bAw4
          have cB0w4 := (hmw4.cell (p := ⟨w.heap.size + 2, 0, none⟩) bBw3).trans cB0w3
          have cB1w4 := (hmw4.cell (p := ⟨w.heap.size + 2, 1, none⟩) bBw3).trans cB1w3
          have bBw4 : w.heap.size + 2 < w4.heap.size := Nat.lt_of_lt_of_le bBw3 hmw4.size
          have dBw4 : w.heap.size + 2 < w4.heap.size + 1 := Nat.lt_succ_of_lt bBw4
          have cX0w4 := (hmw4.cell (p := ⟨w1.heap.size, 0, none⟩) bXw3).trans cX0w3
          have cX1w4 := (hmw4.cell (p := ⟨w1.heap.size, 1, none⟩) bXw3).trans cX1w3
          have bXw4 : w1.heap.size < w4.heap.size := Nat.lt_of_lt_of_le bXw3 hmw4.size
          have dXw4 : w1.heap.size < w4.heap.size + 1 := Nat.lt_succ_of_lt bXw4
          have cY0w4 := (hmw4.cell (p := ⟨w2.heap.size, 0, none⟩) bYw3).trans cY0w3
          have cY1w4 := (hmw4.cell (p := ⟨w2.heap.size, 1, none⟩) bYw3).trans cY1w3
          have bYw4 : w2.heap.size < w4.heap.size := Nat.lt_of_lt_of_le bYw3 hmw4.size
          have dYw4 : w2.heap.size < w4.heap.size + 1 := Nat.lt_succ_of_lt bYw4
          have hBw4 : Below w.heap.size w w4 := Below.trans hBw3 (hmw4.mono hBw3.size)
          have zw4 : w.heap.size ≤ w4.heap.size := hBw4.size
          clear hmw4 hw4 zw3 dYw3 dXw3 dBw3 dAw3 dGw3 hBw3 bYw3 cY1w3 cY0w3 bXw3 cX1w3 cX0w3 bBw3 cB1w3 cB0w3 bAw3 cA1w3 cA0w3 bGw3 cG4w3 cG3w3 cG2w3 cG1w3 cG0w3
          rw [hx]
          go_wp2_with fail
          refine (ris_any _ _ _).mono ?_
          rintro e w5 ⟨rfl, hw5⟩
          have hmw5 : Below w4.heap.size w4 w5 := on_below hw5 (by repeat' (first | (with_reducible exact Below.refl _ _) | (with_reducible assumption) | (with_reducible refine drewN_below ?_ _) | (with_reducible refine Below.drew ?_) | (with_reducible refine Below.alloc ?_ ?_ _) | (with_reducible refine Below.setCell ?_ ?_ _) | (simp; done) | omega | (simp; omega))) (by first | (with_reducible assumption) | (simp; done) | omega | (simp; omega))
          have cG0w5 := (hmw5.cell (p := ⟨w.heap.size, 0, none⟩) bGw4).trans cG0w4
          have cG1w5 := (hmw5.cell (p := ⟨w.heap.size, 1, none⟩) bGw4).trans cG1w4
          have cG2w5 := (hmw5.cell (p := ⟨w.heap.size, 2, none⟩) bGw4).trans cG2w4
          have cG3w5 := (hmw5.cell (p := ⟨w.heap.size, 3, none⟩) bGw4).trans cG3w4
          have cG4w5 := (hmw5.cell (p := ⟨w.heap.size, 4, none⟩) bGw4).trans cG4w4
          have bGw5 : w.heap.size < w5.heap.size := Nat.lt_of_lt_of_le bGw4 hmw5.size
          have dGw5 : w.heap.size < w5.heap.size + 1 := Nat.lt_succ_of_lt bGw5
          have cA0w5 := (hmw5.cell (p := ⟨w.heap.size + 1, 0, none⟩) bAw4).trans cA0w4
          have cA1w5 := (hmw5.cell (p := ⟨w.heap.size + 1, 1, none⟩) bAw4).trans cA1w4
          have bAw5 : w.heap.size + 1 < w5.heap.size := Nat.lt_of_lt_of_le bAw4 hmw5.size
          have dAw5 : w.heap.size + 1 < w5.heap.size + 1 := Nat.lt_succ_of_lt bAw5
          have cB0w5 := (hmw5.cell (p := ⟨w.heap.size + 2, 0, none⟩) bBw4).trans cB0w4
          have cB1w5 := (hmw5.cell (p := ⟨w.heap.size + 2, 1, none⟩) bBw4).trans cB1w4
          have bBw5 : w.heap.size + 2 < w5.heap.size := Nat.lt_of_lt_of_le bBw4 hmw5.size
          have dBw5 : w.heap.size + 2 < w5.heap.size + 1 := Nat.lt_succ_of_lt bBw5
          have cX0w5 := (hmw5.cell (p := ⟨w1.heap.size, 0, none⟩) bXw4).trans cX0w4
          have cX1w5 := (hmw5.cell (p := ⟨w1.heap.size, 1, none⟩) bXw4).trans cX1w4
          have bXw5 : w1.heap.size < w5.heap.size := Nat.lt_of_lt_of_le bXw4 hmw5.size
          have dXw5 : w1.heap.size < w5.heap.size + 1 := Nat.lt_succ_of_lt bXw5
          have cY0w5 := (hmw5.cell (p := ⟨w2.heap.size, 0, none⟩) bYw4).trans cY0w4
          have cY1w5 := (hmw5.cell (p := ⟨w2.heap.size, 1, none⟩) bYw4).trans cY1w4
          have bYw5 : w2.heap.size < w5.heap.size := Nat.lt_of_lt_of_le bYw4 hmw5.size
          have dYw5 : w2.heap.size < w5.heap.size + 1 := Nat.lt_succ_of_lt bYw5
          have hBw5 : Below w.heap.size w w5 := Below.trans hBw4 (hmw5.mono hBw4.size)
          have zw5 : w.heap.size ≤ w5.heap.size := hBw5.size
          clear hmw5 hw5 zw4 hBw4 dYw4 bYw4 cY1w4 cY0w4 dXw4 bXw4 cX1w4 cX0w4 dBw4 bBw4 cB1w4 cB0w4 dAw4 bAw4 cA1w4 cA0w4 dGw4 bGw4 cG4w4 cG3w4 cG2w4 cG1w4 cG0w4
          rw [hy]
          go_wp2
          go_meet
          (refine ⟨rfl, ?_, ?_, ?_, ?_, ?_, ?_, ?_, ?_, ?_, ?_, ?_, ?_, ?_, ?_, ?_, ?_, ?_, ?_, ?_⟩ <;> first | assumption | (simp [go_sem, *]; done) | omega | (simp; omega) | (repeat' (first | (with_reducible exact Below.refl _ _) | (with_reducible assumption) | (with_reducible refine drewN_below ?_ _) | (with_reducible refine Below.drew ?_) | (with_reducible refine Below.alloc ?_ ?_ _) | (with_reducible refine Below.setCell ?_ ?_ _) | (simp; done) | omega | (simp; omega))))
        · by_cases hc : c1 ≤ 0
          rotate_left
          · skip
            have t1 : decide (c1 ≤ 0) = false := decide_eq_false hc
            clear hc
            go_wp2_with fail
            refine (ris_any _ _ _).mono ?_
            rintro e w4 ⟨rfl, hw4⟩
            have hmw4 : Below w3.heap.size w3 w4 := on_below hw4 (by repeat' (first | (with_reducible exact Below.refl _ _) | (with_reducible assumption) | (with_reducible refine drewN_below ?_ _) | (with_reducible refine Below.drew ?_) | (with_reducible refine Below.alloc ?_ ?_ _) | (with_reducible refine Below.setCell ?_ ?_ _) | (simp; done) | omega | (simp; omega))) (by first | (with_reducible assumption) | (simp; done) | omega | (simp; omega))
            have cG0w4 := (hmw4.cell (p := ⟨w.heap.size, 0, none⟩) bGw3).trans cG0w3
            have cG1w4 := (hmw4.cell (p := ⟨w.heap.size, 1, none⟩) bGw3).trans cG1w3
            have cG2w4 := (hmw4.cell (p := ⟨w.heap.size, 2, none⟩) bGw3).trans cG2w3
            have cG3w4 := (hmw4.cell (p := ⟨w.heap.size, 3, none⟩) bGw3).trans cG3w3
            have cG4w4 := (hmw4.cell (p := ⟨w.heap.size, 4, none⟩) bGw3).trans cG4w3
            have bGw4 : w.heap.size < w4.heap.size := Nat.lt_of_lt_of_le bGw3 hmw4.size
            have dGw4 : w.heap.size < w4.heap.size + 1 := Nat.lt_succ_of_lt bGw4
            have cA0w4 := (hmw4.cell (p := ⟨w.heap.size + 1, 0, none⟩) bAw3).trans cA0w3
            have cA1w4 := (hmw4.cell (p := ⟨w.heap.size + 1, 1, none⟩) bAw3).trans cA1w3
            have bAw4 : w.heap.size + 1 < w4.heap.size := Nat.lt_of_lt_of_le bAw3 hmw4.size
            have dAw4 : w.heap.size + 1 < w4.heap.size + 1 := Nat.lt_succ_of_lt bAw4
            have cB0w4 := (hmw4.cell (p := ⟨w.heap.size + 2, 0, none⟩) bBw3).trans cB0w3
            have cB1w4 := (hmw4.cell (p := ⟨w.heap.size + 2, 1, none⟩) bBw3).trans cB1w3
            have bBw4 : w.heap.size + 2 < w4.heap.size := Nat.lt_of_lt_of_le bBw3 hmw4.size
            have dBw4 : w.heap.size + 2 < w4.heap.size + 1 := Nat.lt_succ_of_lt bBw4
            have cX0w4 := (hmw4.cell (p := ⟨w1.heap.size, 0, none⟩) bXw3).trans cX0w3
            have cX1w4 := (hmw4.cell (p := ⟨w1.heap.size, 1, none⟩) bXw3).trans cX1w3
            have bXw4 : w1.heap.size < w4.heap.size := Nat.lt_of_lt_of_le bXw3 hmw4.size
            have dXw4 : w1.heap.size < w4.heap.size + 1 := Nat.lt_succ_of_lt bXw4
            have cY0w4 := (hmw4.cell (p := ⟨w2.heap.size, 0, none⟩) bYw3).trans cY0w3
            have cY1w4 := (hmw4.cell (p := ⟨w2.heap.size, 1, none⟩) bYw3).trans cY1w3
            have bYw4 : w2.heap.size < w4.heap.size := Nat.lt_of_lt_of_le bYw3 hmw4.size
            have dYw4 : w2.heap.size < w4.heap.size + 1 := Nat.lt_succ_of_lt bYw4
            have hBw4 : Below w.heap.size w w4 := Below.trans hBw3 (hmw4.mono hBw3.size)
            have zw4 : w.heap.size ≤ w4.heap.size := hBw4.size
            clear hmw4 hw4 zw3 dYw3 dXw3 dBw3 dAw3 dGw3 hBw3 bYw3 cY1w3 cY0w3 bXw3 cX1w3 cX0w3 bBw3 cB1w3 cB0w3 bAw3 cA1w3 cA0w3 bGw3 cG4w3 cG3w3 cG2w3 cG1w3 cG0w3
            rw [hx]
            go_wp2_with fail
            refine (ris_any _ _ _).mono ?_
            rintro e w5 ⟨rfl, hw5⟩
            have hmw5 : Below w4.heap.size w4 w5 := on_below hw5 (by repeat' (first | (with_reducible exact Below.refl _ _) | (with_reducible assumption) | (with_reducible refine drewN_below ?_ _) | (with_reducible refine Below.drew ?_) | (with_reducible refine Below.alloc ?_ ?_ _) | (with_reducible refine Below.setCell ?_ ?_ _) | (simp; done) | omega | (simp; omega))) (by first | (with_reducible assumption) | (simp; done) | omega | (simp; omega))
            have cG0w5 := (hmw5.cell (p := ⟨w.heap.size, 0, none⟩) bGw4).trans cG0w4
            have cG1w5 := (hmw5.cell (p := ⟨w.heap.size, 1, none⟩) bGw4).trans cG1w4
            have cG2w5 := (hmw5.cell (p := ⟨w.heap.size, 2, none⟩) bGw4).trans cG2w4
            have cG3w5 := (hmw5.cell (p := ⟨w.heap.size, 3, none⟩) bGw4).trans cG3w4
            have cG4w5 := (hmw5.cell (p := ⟨w.heap.size, 4, none⟩) bGw4).trans cG4w4
            have bGw5 : w.heap.size < w5.heap.size := Nat.lt_of_lt_of_le bGw4 hmw5.size
            have dGw5 : w.heap.size < w5.heap.size + 1 := Nat.lt_succ_of_lt bGw5
            have cA0w5 := (hmw5.cell (p := ⟨w.heap.size + 1, 0, none⟩) bAw4).trans cA0w4
            have cA1w5 := (hmw5.cell (p := ⟨w.heap.size + 1, 1, none⟩) bAw4).trans cA1w4
            have bAw5 : w.heap.size + 1 < w5.heap.size := Nat.lt_of_lt_of_le bAw4 hmw5.size
            have dAw5 : w.heap.size + 1 < w5.heap.size + 1 := Nat.lt_succ_of_lt bAw5
            have cB0w5 := (hmw5.cell (p := ⟨w.heap.size + 2, 0, none⟩) bBw4).trans cB0w4
            have cB1w5 := (hmw5.cell (p := ⟨w.heap.size + 2, 1, none⟩) bBw4).trans cB1w4
            have bBw5 : w.heap.size + 2 < w5.heap.size := Nat.lt_of_lt_of_le bBw4 hmw5.size
            have dBw5 : w.heap.size + 2 < w5.heap.size + 1 := Nat.lt_succ_of_lt bBw5
            have cX0w5 := (hmw5.cell (p := ⟨w1.heap.size, 0, none⟩) bXw4).trans cX0w4
            have cX1w5 := (hmw5.cell (p := ⟨w1.heap.size, 1, none⟩) bXw4).trans cX1w4
            have bXw5 : w1.heap.size < w5.heap.size := Nat.lt_of_lt_of_le bXw4 hmw5.size
            have dXw5 : w1.heap.size < w5.heap.size + 1 := Nat.lt_succ_of_lt bXw5
            have cY0w5 := (hmw5.cell (p := ⟨w2.heap.size, 0, none⟩) bYw4).trans cY0w4
            have cY1w5 := (hmw5.cell (p := ⟨w2.heap.size, 1, none⟩) bYw4).trans cY1w4
            have bYw5 : w2.heap.size < w5.heap.size := Nat.lt_of_lt_of_le bYw4 hmw5.size
            have dYw5 : w2.heap.size < w5.heap.size + 1 := Nat.lt_succ_of_lt bYw5
            have hBw5 : Below w.heap.size w w5 := Below.trans hBw4 (hmw5.mono hBw4.size)
            have zw5 : w.heap.size ≤ w5.heap.size := hBw5.size
            clear hmw5 hw5 zw4 hBw4 dYw4 bYw4 cY1w4 cY0w4 dXw4 bXw4 cX1w4 cX0w4 dBw4 bBw4 cB1w4 cB0w4 dAw4 bAw4 cA1w4 cA0w4 dGw4 bGw4 cG4w4 cG3w4 cG2w4 cG1w4 cG0w4
            rw [hy]
            go_wp2_with fail
            refine (rcmp_any _ _ _ _ _).mono ?_
            rintro e w6 ⟨rfl, hw6⟩
            have hmw6 : Below w5.heap.size w5 w6 := on_below hw6 (by repeat' (first | (with_reducible exact Below.refl _ _) | (with_reducible assumption) | (with_reducible refine drewN_below ?_ _) | (with_reducible refine Below.drew ?_) | (with_reducible refine Below.alloc ?_ ?_ _) | (with_reducible refine Below.setCell ?_ ?_ _) | (simp; done) | omega | (simp; omega))) (by first | (with_reducible assumption) | (simp; done) | omega | (simp; omega))
            have cG0w6 := (hmw6.cell (p := ⟨w.heap.size, 0, none⟩) bGw5).trans cG0w5
            have cG1w6 := (hmw6.cell (p := ⟨w.heap.size, 1, none⟩) bGw5).trans cG1w5
            have cG2w6 := (hmw6.cell (p := ⟨w.heap.size, 2, none⟩) bGw5).trans cG2w5
            have cG3w6 := (hmw6.cell (p := ⟨w.heap.size, 3, none⟩) bGw5).trans cG3w5
            have cG4w6 := (hmw6.cell (p := ⟨w.heap.size, 4, none⟩) bGw5).trans cG4w5
            have bGw6 : w.heap.size < w6.heap.size := Nat.lt_of_lt_of_le bGw5 hmw6.size
            have dGw6 : w.heap.size < w6.heap.size + 1 := Nat.lt_succ_of_lt bGw6
            have cA0w6 := (hmw6.cell (p := ⟨w.heap.size + 1, 0, none⟩) bAw5).trans cA0w5
            have cA1w6 := (hmw6.cell (p := ⟨w.heap.size + 1, 1, none⟩) bAw5).trans cA1w5
            have bAw6 : w.heap.size + 1 < w6.heap.size := Nat.lt_of_lt_of_le bAw5 hmw6.size
            have dAw6 : w.heap.size + 1 < w6.heap.size + 1 := Nat.lt_succ_of_lt bAw6
            have cB0w6 := (hmw6.cell (p := ⟨w.heap.size + 2, 0, none⟩) bBw5).trans cB0w5
            have cB1w6 := (hmw6.cell (p := ⟨w.heap.size + 2, 1, none⟩) bBw5).trans cB1w5
            have bBw6 : w.heap.size + 2 < w6.heap.size := Nat.lt_of_lt_of_le bBw5 hmw6.size
            have dBw6 : w.heap.size + 2 < w6.heap.size + 1 := Nat.lt_succ_of_lt bBw6
            have cX0w6 := (hmw6.cell (p := ⟨w1.heap.size, 0, none⟩) bXw5).trans cX0w5
            have cX1w6 := (hmw6.cell (p := ⟨w1.heap.size, 1, none⟩) bXw5).trans cX1w5
            have bXw6 : w1.heap.size < w6.heap.size := Nat.lt_of_lt_of_le bXw5 hmw6.size
            have dXw6 : w1.heap.size < w6.heap.size + 1 := Nat.lt_succ_of_lt bXw6
            have cY0w6 := (hmw6.cell (p := ⟨w2.heap.size, 0, none⟩) bYw5).trans cY0w5
            have cY1w6 := (hmw6.cell (p := ⟨w2.heap.size, 1, none⟩) bYw5).trans cY1w5
            have bYw6 : w2.heap.size < w6.heap.size := Nat.lt_of_lt_of_le bYw5 hmw6.size
            have dYw6 : w2.heap.size < w6.heap.size + 1 := Nat.lt_succ_of_lt bYw6
            have hBw6 : Below w.heap.size w w6 := Below.trans hBw5 (hmw6.mono hBw5.size)
            have zw6 : w.heap.size ≤ w6.heap.size := hBw6.size
            clear hmw6 hw6 zw5 hBw5 dYw5 bYw5 cY1w5 cY0w5 dXw5 bXw5 cX1w5 cX0w5 dBw5 bBw5 cB1w5 cB0w5 dAw5 bAw5 cA1w5 cA0w5 dGw5 bGw5 cG4w5 cG3w5 cG2w5 cG1w5 cG0w5
            rw [hC1.out]
            go_wp2
            go_meet
            (refine ⟨rfl, ?_, ?_, ?_, ?_, ?_, ?_, ?_, ?_, ?_, ?_, ?_, ?_, ?_, ?_, ?_, ?_, ?_, ?_, ?_⟩ <;> first | assumption | (simp [go_sem, *]; done) | omega | (simp; omega) | (repeat' (first | (with_reducible exact Below.refl _ _) | (with_reducible assumption) | (with_reducible refine drewN_below ?_ _) | (with_reducible refine Below.drew ?_) | (with_reducible refine Below.alloc ?_ ?_ _) | (with_reducible refine Below.setCell ?_ ?_ _) | (simp; done) | omega | (simp; omega))))
          · skip
            have t2 : decide (0 < c2) = false := decide_eq_false (by have := hMono.out ho hx hy hc; omega)
            have t1 : decide (c1 ≤ 0) = true := decide_eq_true hc
            clear hc
            go_wp2_with fail
            refine (ris_any _ _ _).mono ?_
            rintro e w4 ⟨rfl, hw4⟩
            have hmw4 : Below w3.heap.size w3 w4 := on_below hw4 (by repeat' (first | (with_reducible exact Below.refl _ _) | (with_reducible assumption) | (with_reducible refine drewN_below ?_ _) | (with_reducible refine Below.drew ?_) | (with_reducible refine Below.alloc ?_ ?_ _) | (with_reducible refine Below.setCell ?_ ?_ _) | (simp; done) | omega | (simp; omega))) (by first | (with_reducible assumption) | (simp; done) | omega | (simp; omega))
            have cG0w4 := (hmw4.cell (p := ⟨w.heap.size, 0, none⟩) bGw3).trans cG0w3
            have cG1w4 := (hmw4.cell (p := ⟨w.heap.size, 1, none⟩) bGw3).trans cG1w3
            have cG2w4 := (hmw4.cell (p := ⟨w.heap.size, 2, none⟩) bGw3).trans cG2w3
            have cG3w4 := (hmw4.cell (p := ⟨w.heap.size, 3, none⟩) bGw3).trans cG3w3
            have cG4w4 := (hmw4.cell (p := ⟨w.heap.size, 4, none⟩) bGw3).trans cG4w3
            have bGw4 : w.heap.size < w4.heap.size := Nat.lt_of_lt_of_le bGw3 hmw4.size
            have dGw4 : w.heap.size < w4.heap.size + 1 := Nat.lt_succ_of_lt bGw4
            have cA0w4 := (hmw4.cell (p := ⟨w.heap.size + 1, 0, none⟩) bAw3).trans cA0w3
            have cA1w4 := (hmw4.cell (p := ⟨w.heap.size + 1, 1, none⟩) bAw3).trans cA1w3
            have bAw4 : w.heap.size + 1 < w4.heap.size := Nat.lt_of_lt_of_le bAw3 hmw4.size
            have dAw4 : w.heap.size + 1 < w4.heap.size + 1 := Nat.lt_succ_of_lt bAw4
            have cB0w4 := (hmw4.cell (p := ⟨w.heap.size + 2, 0, none⟩) bBw3).trans cB0w3
            have cB1w4 := (hmw4.cell (p := ⟨w.heap.size + 2, 1, none⟩) bBw3).trans cB1w3
            have bBw4 : w.heap.size + 2 < w4.heap.size := Nat.lt_of_lt_of_le bBw3 hmw4.size
            have dBw4 : w.heap.size + 2 < w4.heap.size + 1 := Nat.lt_succ_of_lt bBw4
            have cX0w4 := (hmw4.cell (p := ⟨w1.heap.size, 0, none⟩) bXw3).trans cX0w3
            have cX1w4 := (hmw4.cell (p := ⟨w1.heap.size, 1, none⟩) bXw3).trans cX1w3
            have bXw4 : w1.heap.size < w4.heap.size := Nat.lt_of_lt_of_le bXw3 hmw4.size
            have dXw4 : w1.heap.size < w4.heap.size + 1 := Nat.lt_succ_of_lt bXw4
            have cY0w4 := (hmw4.cell (p := ⟨w2.heap.size, 0, none⟩) bYw3).trans cY0w3
            have cY1w4 := (hmw4.cell (p := ⟨w2.heap.size, 1, none⟩) bYw3).trans cY1w3
            have bYw4 : w2.heap.size < w4.heap.size := Nat.lt_of_lt_of_le bYw3 hmw4.size
            have dYw4 : w2.heap.size < w4.heap.size + 1 := Nat.lt_succ_of_lt bYw4
            have hBw4 : Below w.heap.size w w4 := Below.trans hBw3 (hmw4.mono hBw3.size)
            have zw4 : w.heap.size ≤ w4.heap.size := hBw4.size
            clear hmw4 hw4 zw3 dYw3 dXw3 dBw3 dAw3 dGw3 hBw3 bYw3 cY1w3 cY0w3 bXw3 cX1w3 cX0w3 bBw3 cB1w3 cB0w3 bAw3 cA1w3 cA0w3 bGw3 cG4w3 cG3w3 cG2w3 cG1w3 cG0w3
            rw [hx]
            go_wp2_with fail
            refine (ris_any _ _ _).mono ?_
            rintro e w5 ⟨rfl, hw5⟩
            have hmw5 : Below w4.heap.size w4 w5 := on_below hw5 (by repeat' (first | (with_reducible exact Below.refl _ _) | (with_reducible assumption) | (with_reducible refine drewN_below ?_ _) | (with_reducible refine Below.drew ?_) | (with_reducible refine Below.alloc ?_ ?_ _) | (with_reducible refine Below.setCell ?_ ?_ _) | (simp; done) | omega | (simp; omega))) (by first | (with_reducible assumption) | (simp; done) | omega | (simp; omega))
            have cG0w5 := (hmw5.cell (p := ⟨w.heap.size, 0, none⟩) bGw4).trans cG0w4
            have cG1w5 := (hmw5.cell (p := ⟨w.heap.size, 1, none⟩) bGw4).trans cG1w4
            have cG2w5 := (hmw5.cell (p := ⟨w.heap.size, 2, none⟩) bGw4).trans cG2w4
            have cG3w5 := (hmw5.cell (p := ⟨w.heap.size, 3, none⟩) bGw4).trans cG3w4
            have cG4w5 := (hmw5.cell (p := ⟨w.heap.size, 4, none⟩) bGw4).trans cG4w4
            have bGw5 : w.heap.size < w5.heap.size := Nat.lt_of_lt_of_le bGw4 hmw5.size
            have dGw5 : w.heap.size < w5.heap.size + 1 := Nat.lt_succ_of_lt bGw5
            have cA0w5 := (hmw5.cell (p := ⟨w.heap.size + 1, 0, none⟩) bAw4).trans cA0w4
            have cA1w5 := (hmw5.cell (p := ⟨w.heap.size + 1, 1, none⟩) bAw4).trans cA1w4
            have bAw5 : w.heap.size + 1 < w5.heap.size := Nat.lt_of_lt_of_le bAw4 hmw5.size
            have dAw5 : w.heap.size + 1 < w5.heap.size + 1 := Nat.lt_succ_of_lt bAw5
            have cB0w5 := (hmw5.cell (p := ⟨w.heap.size + 2, 0, none⟩) bBw4).trans cB0w4
            have cB1w5 := (hmw5.cell (p := ⟨w.heap.size + 2, 1, none⟩) bBw4).trans cB1w4
            have bBw5 : w.heap.size + 2 < w5.heap.size := Nat.lt_of_lt_of_le bBw4 hmw5.size
            have dBw5 : w.heap.size + 2 < w5.heap.size + 1 := Nat.lt_succ_of_lt bBw5
            have cX0w5 := (hmw5.cell (p := ⟨w1.heap.size, 0, none⟩) bXw4).trans cX0w4
            have cX1w5 := (hmw5.cell (p := ⟨w1.heap.size, 1, none⟩) bXw4).trans cX1w4
            have bXw5 : w1.heap.size < w5.heap.size := Nat.lt_of_lt_of_le bXw4 hmw5.size
            have dXw5 : w1.heap.size < w5.heap.size + 1 := Nat.lt_succ_of_lt bXw5
            have cY0w5 := (hmw5.cell (p := ⟨w2.heap.size, 0, none⟩) bYw4).trans cY0w4
            have cY1w5 := (hmw5.cell (p := ⟨w2.heap.size, 1, none⟩) bYw4).trans cY1w4
            have bYw5 : w2.heap.size < w5.heap.size := Nat.lt_of_lt_of_le bYw4 hmw5.size
            have dYw5 : w2.heap.size < w5.heap.size + 1 := Nat.lt_succ_of_lt bYw5
            have hBw5 : Below w.heap.size w w5 := Below.trans hBw4 (hmw5.mono hBw4.size)
            have zw5 : w.heap.size ≤ w5.heap.size := hBw5.size
            clear hmw5 hw5 zw4 hBw4 dYw4 bYw4 cY1w4 cY0w4 dXw4 bXw4 cX1w4 cX0w4 dBw4 bBw4 cB1w4 cB0w4 dAw4 bAw4 cA1w4 cA0w4 dGw4 bGw4 cG4w4 cG3w4 cG2w4 cG1w4 cG0w4
            rw [hy]
            go_wp2_with fail
            refine (rcmp_any _ _ _ _ _).mono ?_
            rintro e w6 ⟨rfl, hw6⟩
            have hmw6 : Below w5.heap.size w5 w6 := on_below hw6 (by repeat' (first | (with_reducible exact Below.refl _ _) | (with_reducible assumption) | (with_reducible refine drewN_below ?_ _) | (with_reducible refine Below.drew ?_) | (with_reducible refine Below.alloc ?_ ?_ _) | (with_reducible refine Below.setCell ?_ ?_ _) | (simp; done) | omega | (simp; omega))) (by first | (with_reducible assumption) | (simp; done) | omega | (simp; omega))
            have cG0w6 := (hmw6.cell (p := ⟨w.heap.size, 0, none⟩) bGw5).trans cG0w5
            have cG1w6 := (hmw6.cell (p := ⟨w.heap.size, 1, none⟩) bGw5).trans cG1w5
            have cG2w6 := (hmw6.cell (p := ⟨w.heap.size, 2, none⟩) bGw5).trans cG2w5
            have cG3w6 := (hmw6.cell (p := ⟨w.heap.size, 3, none⟩) bGw5).trans cG3w5
            have cG4w6 := (hmw6.cell (p := ⟨w.heap.size, 4, none⟩) bGw5).trans cG4w5
            have bGw6 : w.heap.size < w6.heap.size := Nat.lt_of_lt_of_le bGw5 hmw6.size
            have dGw6 : w.heap.size < w6.heap.size + 1 := Nat.lt_succ_of_lt bGw6
            have cA0w6 := (hmw6.cell (p := ⟨w.heap.size + 1, 0, none⟩) bAw5).trans cA0w5
            have cA1w6 := (hmw6.cell (p := ⟨w.heap.size + 1, 1, none⟩) bAw5).trans cA1w5
            have bAw6 : w.heap.size + 1 < w6.heap.size := Nat.lt_of_lt_of_le bAw5 hmw6.size
            have dAw6 : w.heap.size + 1 < w6.heap.size + 1 := Nat.lt_succ_of_lt bAw6
            have cB0w6 := (hmw6.cell (p := ⟨w.heap.size + 2, 0, none⟩) bBw5).trans cB0w5
            have cB1w6 := (hmw6.cell (p := ⟨w.heap.size + 2, 1, none⟩) bBw5).trans cB1w5
            have bBw6 : w.heap.size + 2 < w6.heap.size := Nat.lt_of_lt_of_le bBw5 hmw6.size
            have dBw6 : w.heap.size + 2 < w6.heap.size + 1 := Nat.lt_succ_of_lt bBw6
            have cX0w6 := (hmw6.cell (p := ⟨w1.heap.size, 0, none⟩) bXw5).trans cX0w5
            have cX1w6 := (hmw6.cell (p := ⟨w1.heap.size, 1, none⟩) bXw5).trans cX1w5
            have bXw6 : w1.heap.size < w6.heap.size := Nat.lt_of_lt_of_le bXw5 hmw6.size
            have dXw6 : w1.heap.size < w6.heap.size + 1 := Nat.lt_succ_of_lt bXw6
            have cY0w6 := (hmw6.cell (p := ⟨w2.heap.size, 0, none⟩) bYw5).trans cY0w5
            have cY1w6 := (hmw6.cell (p := ⟨w2.heap.size, 1, none⟩) bYw5).trans cY1w5
            have bYw6 : w2.heap.size < w6.heap.size := Nat.lt_of_lt_of_le bYw5 hmw6.size
            have dYw6 : w2.heap.size < w6.heap.size + 1 := Nat.lt_succ_of_lt bYw6
            have hBw6 : Below w.heap.size w w6 := Below.trans hBw5 (hmw6.mono hBw5.size)
            have zw6 : w.heap.size ≤ w6.heap.size := hBw6.size
            clear hmw6 hw6 zw5 hBw5 dYw5 bYw5 cY1w5 cY0w5 dXw5 bXw5 cX1w5 cX0w5 dBw5 bBw5 cB1w5 cB0w5 dAw5 bAw5 cA1w5 cA0w5 dGw5 bGw5 cG4w5 cG3w5 cG2w5 cG1w5 cG0w5
            rw [hC1.out]
            go_wp2_with fail
            refine (rcmp_any _ _ _ _ _).mono ?_
            rintro e w7 ⟨rfl, hw7⟩
            have hmw7 : Below w6.heap.size w6 w7 := on_below hw7 (by repeat' (first | (with_reducible exact Below.refl _ _) | (with_reducible assumption) | (with_reducible refine drewN_below ?_ _) | (with_reducible refine Below.drew ?_) | (with_reducible refine Below.alloc ?_ ?_ _) | (with_reducible refine Below.setCell ?_ ?_ _) | (simp; done) | omega | (simp; omega))) (by first | (with_reducible assumption) | (simp; done) | omega | (simp; omega))
            have cG0w7 := (hmw7.cell (p := ⟨w.heap.size, 0, none⟩) bGw6).trans cG0w6
            have cG1w7 := (hmw7.cell (p := ⟨w.heap.size, 1, none⟩) bGw6).trans cG1w6
            have cG2w7 := (hmw7.cell (p := ⟨w.heap.size, 2, none⟩) bGw6).trans cG2w6
            have cG3w7 := (hmw7.cell (p := ⟨w.heap.size, 3, none⟩) bGw6).trans cG3w6
            have cG4w7 := (hmw7.cell (p := ⟨w.heap.size, 4, none⟩) bGw6).trans cG4w6
            have bGw7 : w.heap.size < w7.heap.size := Nat.lt_of_lt_of_le bGw6 hmw7.size
            have dGw7 : w.heap.size < w7.heap.size + 1 := Nat.lt_succ_of_lt bGw7
            have cA0w7 := (hmw7.cell (p := ⟨w.heap.size + 1, 0, none⟩) bAw6).trans cA0w6
            have cA1w7 := (hmw7.cell (p := ⟨w.heap.size + 1, 1, none⟩) bAw6).trans cA1w6
            have bAw7 : w.heap.size + 1 < w7.heap.size := Nat.lt_of_lt_of_le bAw6 hmw7.size
            have dAw7 : w.heap.size + 1 < w7.heap.size + 1 := Nat.lt_succ_of_lt bAw7
            have cB0w7 := (hmw7.cell (p := ⟨w.heap.size + 2, 0, none⟩) bBw6).trans cB0w6
            have cB1w7 := (hmw7.cell (p := ⟨w.heap.size + 2, 1, none⟩) bBw6).trans cB1w6
            have bBw7 : w.heap.size + 2 < w7.heap.size := Nat.lt_of_lt_of_le bBw6 hmw7.size
            have dBw7 : w.heap.size + 2 < w7.heap.size + 1 := Nat.lt_succ_of_lt bBw7
            have cX0w7 := (hmw7.cell (p := ⟨w1.heap.size, 0, none⟩) bXw6).trans cX0w6
            have cX1w7 := (hmw7.cell (p := ⟨w1.heap.size, 1, none⟩) bXw6).trans cX1w6
            have bXw7 : w1.heap.size < w7.heap.size := Nat.lt_of_lt_of_le bXw6 hmw7.size
            have dXw7 : w1.heap.size < w7.heap.size + 1 := Nat.lt_succ_of_lt bXw7
            have cY0w7 := (hmw7.cell (p := ⟨w2.heap.size, 0, none⟩) bYw6).trans cY0w6
            have cY1w7 := (hmw7.cell (p := ⟨w2.heap.size, 1, none⟩) bYw6).trans cY1w6
            have bYw7 : w2.heap.size < w7.heap.size := Nat.lt_of_lt_of_le bYw6 hmw7.size
            have dYw7 : w2.heap.size < w7.heap.size + 1 := Nat.lt_succ_of_lt bYw7
            have hBw7 : Below w.heap.size w w7 := Below.trans hBw6 (hmw7.mono hBw6.size)
            have zw7 : w.heap.size ≤ w7.heap.size := hBw7.size
            clear hmw7 hw7 zw6 hBw6 dYw6 bYw6 cY1w6 cY0w6 dXw6 bXw6 cX1w6 cX0w6 dBw6 bBw6 cB1w6 cB0w6 dAw6 bAw6 cA1w6 cA0w6 dGw6 bGw6 cG4w6 cG3w6 cG2w6 cG1w6 cG0w6
            rw [hC2.out]
            go_wp2
            go_meet
            (refine ⟨rfl, ?_, ?_, ?_, ?_, ?_, ?_, ?_, ?_, ?_, ?_, ?_, ?_, ?_, ?_, ?_, ?_, ?_, ?_, ?_⟩ <;> first | assumption | (simp [go_sem, *]; done) | omega | (simp; omega) | (repeat' (first | (with_reducible exact Below.refl _ _) | (with_reducible assumption) | (with_reducible refine drewN_below ?_ _) | (with_reducible refine Below.drew ?_) | (with_reducible refine Below.alloc ?_ ?_ _) | (with_reducible refine Below.setCell ?_ ?_ _) | (simp; done) | omega | (simp; omega))))
    case rest =>
      obtain ⟨rfl, cG0w4, cG1w4, cG2w4, cG3w4, cG4w4, bGw4, cA0w4, cA1w4, bAw4, cB0w4, cB1w4, bBw4, cX0w4, cX1w4, bXw4, cY0w4, cY1w4, bYw4, hBw4⟩ := hcut
      have dGw4 : w.heap.size < wc.heap.size + 1 := Nat.lt_succ_of_lt bGw4
      have dAw4 : w.heap.size + 1 < wc.heap.size + 1 := Nat.lt_succ_of_lt bAw4
      have dBw4 : w.heap.size + 2 < wc.heap.size + 1 := Nat.lt_succ_of_lt bBw4
      have dXw4 : w1.heap.size < wc.heap.size + 1 := Nat.lt_succ_of_lt bXw4
      have dYw4 : w2.heap.size < wc.heap.size + 1 := Nat.lt_succ_of_lt bYw4
      have zw4 : w.heap.size ≤ wc.heap.size := hBw4.size
      obtain ⟨w4, ew4⟩ : ∃ x, x = wc := ⟨_, rfl⟩
      subst ew4
      clear zw3 dYw3 dXw3 dBw3 dAw3 dGw3 hBw3 bYw3 cY1w3 cY0w3 bXw3 cX1w3 cX0w3 bBw3 cB1w3 cB0w3 bAw3 cA1w3 cA0w3 bGw3 cG4w3 cG3w3 cG2w3 cG1w3 cG0w3
      go_wp2_with fail
      refine (Bound_any _ _ _ _ _ hI hF _).mono ?_
      rintro e w5 ⟨rfl, hw5⟩
      have hmw5 : Below w4.heap.size w4 w5 := on_below hw5 (by repeat' (first | (with_reducible exact Below.refl _ _) | (with_reducible assumption) | (with_reducible refine drewN_below ?_ _) | (with_reducible refine Below.drew ?_) | (with_reducible refine Below.alloc ?_ ?_ _) | (with_reducible refine Below.setCell ?_ ?_ _) | (simp; done) | omega | (simp; omega))) (by first | (with_reducible assumption) | (simp; done) | omega | (simp; omega))
      have cG0w5 := (hmw5.cell (p := ⟨w.heap.size, 0, none⟩) bGw4).trans cG0w4
      have cG1w5 := (hmw5.cell (p := ⟨w.heap.size, 1, none⟩) bGw4).trans cG1w4
      have cG2w5 := (hmw5.cell (p := ⟨w.heap.size, 2, none⟩) bGw4).trans cG2w4
      have cG3w5 := (hmw5.cell (p := ⟨w.heap.size, 3, none⟩) bGw4).trans cG3w4
      have cG4w5 := (hmw5.cell (p := ⟨w.heap.size, 4, none⟩) bGw4).trans cG4w4
      have bGw5 : w.heap.size < w5.heap.size := Nat.lt_of_lt_of_le bGw4 hmw5.size
      have dGw5 : w.heap.size < w5.heap.size + 1 := Nat.lt_succ_of_lt bGw5
      have cA0w5 := (hmw5.cell (p := ⟨w.heap.size + 1, 0, none⟩) bAw4).trans cA0w4
      have cA1w5 := (hmw5.cell (p := ⟨w.heap.size + 1, 1, none⟩) bAw4).trans cA1w4
      have bAw5 : w.heap.size + 1 < w5.heap.size := Nat.lt_of_lt_of_le bAw4 hmw5.size
      have dAw5 : w.heap.size + 1 < w5.heap.size + 1 := Nat.lt_succ_of_lt bAw5
      have cB0w5 := (hmw5.cell (p := ⟨w.heap.size + 2, 0, none⟩) bBw4).trans cB0w4
      have cB1w5 := (hmw5.cell (p := ⟨w.heap.size + 2, 1, none⟩) bBw4).trans cB1w4
      have bBw5 : w.heap.size + 2 < w5.heap.size := Nat.lt_of_lt_of_le bBw4 hmw5.size
      have dBw5 : w.heap.size + 2 < w5.heap.size + 1 := Nat.lt_succ_of_lt bBw5
      have cX0w5 := (hmw5.cell (p := ⟨w1.heap.size, 0, none⟩) bXw4).trans cX0w4
      have cX1w5 := (hmw5.cell (p := ⟨w1.heap.size, 1, none⟩) bXw4).trans cX1w4
      have bXw5 : w1.heap.size < w5.heap.size := Nat.lt_of_lt_of_le bXw4 hmw5.size
      have dXw5 : w1.heap.size < w5.heap.size + 1 := Nat.lt_succ_of_lt bXw5
      have cY0w5 := (hmw5.cell (p := ⟨w2.heap.size, 0, none⟩) bYw4).trans cY0w4
      have cY1w5 := (hmw5.cell (p := ⟨w2.heap.size, 1, none⟩) bYw4).trans cY1w4
      have bYw5 : w2.heap.size < w5.heap.size := Nat.lt_of_lt_of_le bYw4 hmw5.size
      have dYw5 : w2.heap.size < w5.heap.size + 1 := Nat.lt_succ_of_lt bYw5
      have hBw5 : Below w.heap.size w w5 := Below.trans hBw4 (hmw5.mono hBw4.size)
      have zw5 : w.heap.size ≤ w5.heap.size := hBw5.size
      clear hmw5 hw5 zw4 dYw4 dXw4 dBw4 dAw4 dGw4 hBw4 bYw4 cY1w4 cY0w4 bXw4 cX1w4 cX0w4 bBw4 cB1w4 cB0w4 bAw4 cA1w4 cA0w4 bGw4 cG4w4 cG3w4 cG2w4 cG1w4 cG0w4
      rw [hBn.out]
      go_upto_region 8 with fail
      go_cut [11] (fun s11 wx => s11 = .bool ins ∧ wx.cell? ⟨w.heap.size, 0, none⟩ = some (.string k) ∧ wx.cell? ⟨w.heap.size, 1, none⟩ = some (.int .i64 I) ∧ wx.cell? ⟨w.heap.size, 2, none⟩ = some (.int .i64 F) ∧ wx.cell? ⟨w.heap.size, 3, none⟩ = some (.string r) ∧ wx.cell? ⟨w.heap.size, 4, none⟩ = some (.string o) ∧ w.heap.size < wx.heap.size ∧ wx.cell? ⟨w.heap.size + 1, 0, none⟩ = some (.int .i64 an) ∧ wx.cell? ⟨w.heap.size + 1, 1, none⟩ = some (.int .i64 ad) ∧ w.heap.size + 1 < wx.heap.size ∧ wx.cell? ⟨w.heap.size + 2, 0, none⟩ = some (.int .i64 bn) ∧ wx.cell? ⟨w.heap.size + 2, 1, none⟩ = some (.int .i64 bd) ∧ w.heap.size + 2 < wx.heap.size ∧ wx.cell? ⟨w1.heap.size, 0, none⟩ = some (.int .i64 x1) ∧ wx.cell? ⟨w1.heap.size, 1, none⟩ = some (.int .i64 x2) ∧ w1.heap.size < wx.heap.size ∧ wx.cell? ⟨w2.heap.size, 0, none⟩ = some (.int .i64 y1) ∧ wx.cell? ⟨w2.heap.size, 1, none⟩ = some (.int .i64 y2) ∧ w2.heap.size < wx.heap.size ∧ wx.cell? ⟨w5.heap.size, 0, none⟩ = some (.int .i64 b1) ∧ wx.cell? ⟨w5.heap.size, 1, none⟩ = some (.int .i64 b2) ∧ w5.heap.size < wx.heap.size ∧ Below w.heap.size w wx)
      case first =>
        cases ha : Q.isq an ad
        · skip
          have ei : ins = false := by rw [← hIns.out, ha]; rfl
          subst ei
          have xG : w.heap.size < w5.heap.size + 1 := by omega
          have xA : w.heap.size + 1 < w5.heap.size + 1 := by omega
          have xB : w.heap.size + 2 < w5.heap.size + 1 := by omega
          have xX : w1.heap.size < w5.heap.size + 1 := by omega
          have xY : w2.heap.size < w5.heap.size + 1 := by omega
          have xN : w5.heap.size < w5.heap.size + 1 := by omega
          refine wp_region_held_drew (S := (fun w' => w'.cell? ⟨w.heap.size, 0, none⟩ = some (.string k) ∧ w'.cell? ⟨w.heap.size, 1, none⟩ = some (.int .i64 I) ∧ w'.cell? ⟨w.heap.size, 2, none⟩ = some (.int .i64 F) ∧ w'.cell? ⟨w.heap.size, 3, none⟩ = some (.string r) ∧ w'.cell? ⟨w.heap.size, 4, none⟩ = some (.string o) ∧ w'.cell? ⟨w.heap.size + 1, 0, none⟩ = some (.int .i64 an) ∧ w'.cell? ⟨w.heap.size + 1, 1, none⟩ = some (.int .i64 ad) ∧ w'.cell? ⟨w.heap.size + 2, 0, none⟩ = some (.int .i64 bn) ∧ w'.cell? ⟨w.heap.size + 2, 1, none⟩ = some (.int .i64 bd) ∧ w'.cell? ⟨w1.heap.size, 0, none⟩ = some (.int .i64 x1) ∧ w'.cell? ⟨w1.heap.size, 1, none⟩ = some (.int .i64 x2) ∧ w'.cell? ⟨w2.heap.size, 0, none⟩ = some (.int .i64 y1) ∧ w'.cell? ⟨w2.heap.size, 1, none⟩ = some (.int .i64 y2) ∧ w'.cell? ⟨w5.heap.size, 0, none⟩ = some (.int .i64 b1) ∧ w'.cell? ⟨w5.heap.size, 1, none⟩ = some (.int .i64 b2) ∧ w5.heap.size + 1 ≤ w'.heap.size ∧ Below w5.heap.size w5 w')) (by kernel_rfl) ?_ ?_
          · (refine ⟨?_, ?_, ?_, ?_, ?_, ?_, ?_, ?_, ?_, ?_, ?_, ?_, ?_, ?_, ?_, ?_, ?_⟩ <;> first | assumption | ((repeat' (first | (with_reducible exact Below.refl _ _) | (with_reducible assumption) | (with_reducible refine drewN_below ?_ _) | (with_reducible refine Below.drew ?_) | (with_reducible refine Below.alloc ?_ ?_ _) | (with_reducible refine Below.setCell ?_ ?_ _) | (simp; done) | omega | (simp; omega))); done) | (simp [*]; done) | (simp [go_sem, *]; done) | (simp; omega))
          intro hH0
          refine wpAnyH_take (i := 0) (v := ?_) rfl (by kernel_rfl) (by kernel_rfl) (by kernel_rfl) (fun _ _ _ h => h) (Or.inl ⟨by rfl, ?_⟩) (by assumption) ?_
          rotate_left
          focus (intro wq hSq; (try dsimp only at hSq); go_simp; first | done | (with_reducible rfl))
          (try simp only [Act.put, List.getElem_toArray, List.getElem_cons_zero, List.setIfInBounds_toArray, List.set_cons_zero, List.set_cons_succ])
          refine wpAnyH_ready (rs := [1]) (by kernel_rfl) (by simp) ?_
          refine AllReadyH.cons rfl (fun K hK => ?_) AllReadyH.nil
          rw [if_pos (by rfl)]
          go_simp
          refine (ris_any _ _ _).mono ?_
          rintro e wr ⟨rfl, hbr⟩
          obtain ⟨hcr, hfr, hzr, hBr⟩ := after (a := w5) (B := w5.heap.size) (w5.heap.size + 1) hbr (by first | (with_reducible assumption) | (simp; done) | omega | (simp; omega)) (by repeat' (first | (with_reducible exact Below.refl _ _) | (with_reducible assumption) | (with_reducible refine drewN_below ?_ _) | (with_reducible refine Below.drew ?_) | (with_reducible refine Below.alloc ?_ ?_ _) | (with_reducible refine Below.setCell ?_ ?_ _) | (simp; done) | omega | (simp; omega))) (by omega)
          have yG := Nat.lt_of_lt_of_le xG hzr
          have yA := Nat.lt_of_lt_of_le xA hzr
          have yB := Nat.lt_of_lt_of_le xB hzr
          have yX := Nat.lt_of_lt_of_le xX hzr
          have yY := Nat.lt_of_lt_of_le xY hzr
          have yN := Nat.lt_of_lt_of_le xN hzr
          rw [ha]
          dsimp only
          refine hK.out _ _ ?_ (fun hHeld => ?_)
          · (refine ⟨?_, ?_, ?_, ?_, ?_, ?_, ?_, ?_, ?_, ?_, ?_, ?_, ?_, ?_, ?_, ?_, ?_⟩ <;> first | assumption | ((repeat' (first | (with_reducible exact Below.refl _ _) | (with_reducible assumption) | (with_reducible refine drewN_below ?_ _) | (with_reducible refine Below.drew ?_) | (with_reducible refine Below.alloc ?_ ?_ _) | (with_reducible refine Below.setCell ?_ ?_ _) | (simp; done) | omega | (simp; omega))); done) | (simp [*]; done) | (simp [go_sem, *]; done) | (simp; omega))
          clear hK K
          (try simp only [Act.put, List.getElem_toArray, List.getElem_cons_succ, List.getElem_cons_zero, List.setIfInBounds_toArray, List.set_cons_zero, List.set_cons_succ])
          refine wpAnyH_take (i := 2) (v := ?_) rfl (by kernel_rfl) (by kernel_rfl) (by kernel_rfl) (fun _ _ _ h => h) (Or.inl ⟨by rfl, ?_⟩) (by assumption) ?_
          rotate_left
          focus (intro wq hSq; (try dsimp only at hSq); go_simp; first | done | (with_reducible rfl))
          (try simp only [Act.put, List.getElem_toArray, List.getElem_cons_succ, List.getElem_cons_zero, List.setIfInBounds_toArray, List.set_cons_zero, List.set_cons_succ])
          refine wpAnyH_take (i := 3) (v := undef) rfl (by kernel_rfl) (by kernel_rfl) (by kernel_rfl) (fun _ _ _ h => h) (Or.inr ⟨by rfl, rfl⟩) (by assumption) ?_
          (try simp only [Act.put, List.getElem_toArray, List.getElem_cons_succ, List.getElem_cons_zero, List.setIfInBounds_toArray, List.set_cons_zero, List.set_cons_succ])
          refine wpAnyH_take (i := 5) (v := undef) rfl (by kernel_rfl) (by kernel_rfl) (by kernel_rfl) (fun _ _ _ h => h) (Or.inr ⟨by rfl, rfl⟩) (by assumption) ?_
          (try simp only [Act.put, List.getElem_toArray, List.getElem_cons_succ, List.getElem_cons_zero, List.setIfInBounds_toArray, List.set_cons_zero, List.set_cons_succ])
          refine wpAnyH_take (i := 4) (v := undef) rfl (by kernel_rfl) (by kernel_rfl) (by kernel_rfl) (fun _ _ _ h => h) (Or.inr ⟨by rfl, rfl⟩) (by assumption) ?_
          (try simp only [Act.put, List.getElem_toArray, List.getElem_cons_succ, List.getElem_cons_zero, List.setIfInBounds_toArray, List.set_cons_zero, List.set_cons_succ])
          refine wpAnyH_take (i := 6) (v := undef) rfl (by kernel_rfl) (by kernel_rfl) (by kernel_rfl) (fun _ _ _ h => h) (Or.inr ⟨by rfl, rfl⟩) (by assumption) ?_
          (try simp only [Act.put, List.getElem_toArray, List.getElem_cons_succ, List.getElem_cons_zero, List.setIfInBounds_toArray, List.set_cons_zero, List.set_cons_succ])
          refine wpAnyH_take (i := 7) (v := undef) rfl (by kernel_rfl) (by kernel_rfl) (by kernel_rfl) (fun _ _ _ h => h) (Or.inr ⟨by rfl, rfl⟩) (by assumption) ?_
          (try simp only [Act.put, List.getElem_toArray, List.getElem_cons_succ, List.getElem_cons_zero, List.setIfInBounds_toArray, List.set_cons_zero, List.set_cons_succ])
          refine wpAnyH_take (i := 8) (v := ?_) rfl (by kernel_rfl) (by kernel_rfl) (by kernel_rfl) (fun _ _ _ h => h) (Or.inl ⟨by rfl, ?_⟩) (by assumption) ?_
          rotate_left
          focus (intro wq hSq; (try dsimp only at hSq); go_simp; first | done | (with_reducible rfl))
          (try simp only [Act.put, List.getElem_toArray, List.getElem_cons_succ, List.getElem_cons_zero, List.setIfInBounds_toArray, List.set_cons_zero, List.set_cons_succ])
          refine wpAnyH_take (i := 9) (v := ?_) rfl (by kernel_rfl) (by kernel_rfl) (by kernel_rfl) (fun _ _ _ h => h) (Or.inl ⟨by rfl, ?_⟩) (by assumption) ?_
          rotate_left
          focus (intro wq hSq; (try dsimp only at hSq); go_simp; first | done | (with_reducible rfl))
          (try simp only [Act.put, List.getElem_toArray, List.getElem_cons_succ, List.getElem_cons_zero, List.setIfInBounds_toArray, List.set_cons_zero, List.set_cons_succ])
          refine wpAnyH_take (i := 10) (v := undef) rfl (by kernel_rfl) (by kernel_rfl) (by kernel_rfl) (fun _ _ _ h => h) (Or.inr ⟨by rfl, rfl⟩) (by assumption) ?_
          (try simp only [Act.put, List.getElem_toArray, List.getElem_cons_succ, List.getElem_cons_zero, List.setIfInBounds_toArray, List.set_cons_zero, List.set_cons_succ])
          refine wpAnyH_take (i := 11) (v := undef) rfl (by kernel_rfl) (by kernel_rfl) (by kernel_rfl) (fun _ _ _ h => h) (Or.inr ⟨by rfl, rfl⟩) (by assumption) ?_
          (try simp only [Act.put, List.getElem_toArray, List.getElem_cons_succ, List.getElem_cons_zero, List.setIfInBounds_toArray, List.set_cons_zero, List.set_cons_succ])
          refine wpAnyH_take (i := 12) (v := undef) rfl (by kernel_rfl) (by kernel_rfl) (by kernel_rfl) (fun _ _ _ h => h) (Or.inr ⟨by rfl, rfl⟩) (by assumption) ?_
          (try simp only [Act.put, List.getElem_toArray, List.getElem_cons_succ, List.getElem_cons_zero, List.setIfInBounds_toArray, List.set_cons_zero, List.set_cons_succ])
          refine wpAnyH_take (i := 13) (v := undef) rfl (by kernel_rfl) (by kernel_rfl) (by kernel_rfl) (fun _ _ _ h => h) (Or.inr ⟨by rfl, rfl⟩) (by assumption) ?_
          (try simp only [Act.put, List.getElem_toArray, List.getElem_cons_succ, List.getElem_cons_zero, List.setIfInBounds_toArray, List.set_cons_zero, List.set_cons_succ])
          refine wpAnyH_take (i := 14) (v := undef) rfl (by kernel_rfl) (by kernel_rfl) (by kernel_rfl) (fun _ _ _ h => h) (Or.inr ⟨by rfl, rfl⟩) (by assumption) ?_
          (try simp only [Act.put, List.getElem_toArray, List.getElem_cons_succ, List.getElem_cons_zero, List.setIfInBounds_toArray, List.set_cons_zero, List.set_cons_succ])
          refine wpAnyH_take (i := 15) (v := ?_) rfl (by kernel_rfl) (by kernel_rfl) (by kernel_rfl) (fun _ _ _ h => h) (Or.inl ⟨by rfl, ?_⟩) (by assumption) ?_
          rotate_left
          focus (intro wq hSq; (try dsimp only at hSq); go_simp; first | done | (with_reducible rfl))
          (try simp only [Act.put, List.getElem_toArray, List.getElem_cons_succ, List.getElem_cons_zero, List.setIfInBounds_toArray, List.set_cons_zero, List.set_cons_succ])
          refine wpAnyH_take (i := 16) (v := ?_) rfl (by kernel_rfl) (by kernel_rfl) (by kernel_rfl) (fun _ _ _ h => h) (Or.inl ⟨by rfl, ?_⟩) (by assumption) ?_
          rotate_left
          focus (intro wq hSq; (try dsimp only at hSq); go_simp; first | done | (with_reducible rfl))
          (try simp only [Act.put, List.getElem_toArray, List.getElem_cons_succ, List.getElem_cons_zero, List.setIfInBounds_toArray, List.set_cons_zero, List.set_cons_succ])
          refine wpAnyH_done (by kernel_rfl) ?_ _
          obtain ⟨s0, s1, s2, s3, s4, s5, s6, s7, s8, s9, s10, s11, s12, s13, s14, s15, s16⟩ := (by assumption : wr.cell? ⟨w.heap.size, 0, none⟩ = some (.string k) ∧ wr.cell? ⟨w.heap.size, 1, none⟩ = some (.int .i64 I) ∧ wr.cell? ⟨w.heap.size, 2, none⟩ = some (.int .i64 F) ∧ wr.cell? ⟨w.heap.size, 3, none⟩ = some (.string r) ∧ wr.cell? ⟨w.heap.size, 4, none⟩ = some (.string o) ∧ wr.cell? ⟨w.heap.size + 1, 0, none⟩ = some (.int .i64 an) ∧ wr.cell? ⟨w.heap.size + 1, 1, none⟩ = some (.int .i64 ad) ∧ wr.cell? ⟨w.heap.size + 2, 0, none⟩ = some (.int .i64 bn) ∧ wr.cell? ⟨w.heap.size + 2, 1, none⟩ = some (.int .i64 bd) ∧ wr.cell? ⟨w1.heap.size, 0, none⟩ = some (.int .i64 x1) ∧ wr.cell? ⟨w1.heap.size, 1, none⟩ = some (.int .i64 x2) ∧ wr.cell? ⟨w2.heap.size, 0, none⟩ = some (.int .i64 y1) ∧ wr.cell? ⟨w2.heap.size, 1, none⟩ = some (.int .i64 y2) ∧ wr.cell? ⟨w5.heap.size, 0, none⟩ = some (.int .i64 b1) ∧ wr.cell? ⟨w5.heap.size, 1, none⟩ = some (.int .i64 b2) ∧ w5.heap.size + 1 ≤ wr.heap.size ∧ Below w5.heap.size w5 wr)
          have cG0w6 := s0
          have cG1w6 := s1
          have cG2w6 := s2
          have cG3w6 := s3
          have cG4w6 := s4
          have cA0w6 := s5
          have cA1w6 := s6
          have cB0w6 := s7
          have cB1w6 := s8
          have cX0w6 := s9
          have cX1w6 := s10
          have cY0w6 := s11
          have cY1w6 := s12
          have cN0w6 := s13
          have cN1w6 := s14
          have bGw6 : w.heap.size < wr.heap.size := Nat.lt_of_lt_of_le xG s15
          have dGw6 : w.heap.size < wr.heap.size + 1 := Nat.lt_succ_of_lt bGw6
          have bAw6 : w.heap.size + 1 < wr.heap.size := Nat.lt_of_lt_of_le xA s15
          have dAw6 : w.heap.size + 1 < wr.heap.size + 1 := Nat.lt_succ_of_lt bAw6
          have bBw6 : w.heap.size + 2 < wr.heap.size := Nat.lt_of_lt_of_le xB s15
          have dBw6 : w.heap.size + 2 < wr.heap.size + 1 := Nat.lt_succ_of_lt bBw6
          have bXw6 : w1.heap.size < wr.heap.size := Nat.lt_of_lt_of_le xX s15
          have dXw6 : w1.heap.size < wr.heap.size + 1 := Nat.lt_succ_of_lt bXw6
          have bYw6 : w2.heap.size < wr.heap.size := Nat.lt_of_lt_of_le xY s15
          have dYw6 : w2.heap.size < wr.heap.size + 1 := Nat.lt_succ_of_lt bYw6
          have bNw6 : w5.heap.size < wr.heap.size := Nat.lt_of_lt_of_le xN s15
          have dNw6 : w5.heap.size < wr.heap.size + 1 := Nat.lt_succ_of_lt bNw6
          have hBw6 : Below w.heap.size w wr := Below.trans hBw5 (s16.mono hBw5.size)
          have zw6 : w.heap.size ≤ wr.heap.size := hBw6.size
          clear s0 s1 s2 s3 s4 s5 s6 s7 s8 s9 s10 s11 s12 s13 s14 s15 s16 xG xA xB xX xY xN hcr hfr hzr hBr hbr zw5 hBw5 dYw5 bYw5 cY1w5 cY0w5 dXw5 bXw5 cX1w5 cX0w5 dBw5 bBw5 cB1w5 cB0w5 dAw5 bAw5 cA1w5 cA0w5 dGw5 bGw5 cG4w5 cG3w5 cG2w5 cG1w5 cG0w5
          repeat (clear hcr hfr hzr hBr hbr)
          skip
          obtain ⟨w6, ew6⟩ : ∃ x, x = wr := ⟨_, rfl⟩
          subst ew6
          go_wp2
          go_meet
          (refine ⟨rfl, ?_, ?_, ?_, ?_, ?_, ?_, ?_, ?_, ?_, ?_, ?_, ?_, ?_, ?_, ?_, ?_, ?_, ?_, ?_, ?_, ?_, ?_⟩ <;> first | assumption | (simp [go_sem, *]; done) | omega | (simp; omega) | (repeat' (first | (with_reducible exact Below.refl _ _) | (with_reducible assumption) | (with_reducible refine drewN_below ?_ _) | (with_reducible refine Below.drew ?_) | (with_reducible refine Below.alloc ?_ ?_ _) | (with_reducible refine Below.setCell ?_ ?_ _) | (simp; done) | omega | (simp; omega))))
        · by_cases h4 : c4 ≤ 0
          rotate_left
          · skip
            have ei : ins = false := by rw [← hIns.out, ha, show decide (c4 ≤ 0) = false from decide_eq_false h4]; rfl
            subst ei
            have t4 : decide (c4 ≤ 0) = false := decide_eq_false h4
            clear h4
            have xG : w.heap.size < w5.heap.size + 1 := by omega
            have xA : w.heap.size + 1 < w5.heap.size + 1 := by omega
            have xB : w.heap.size + 2 < w5.heap.size + 1 := by omega
            have xX : w1.heap.size < w5.heap.size + 1 := by omega
            have xY : w2.heap.size < w5.heap.size + 1 := by omega
            have xN : w5.heap.size < w5.heap.size + 1 := by omega
            refine wp_region_held_drew (S := (fun w' => w'.cell? ⟨w.heap.size, 0, none⟩ = some (.string k) ∧ w'.cell? ⟨w.heap.size, 1, none⟩ = some (.int .i64 I) ∧ w'.cell? ⟨w.heap.size, 2, none⟩ = some (.int .i64 F) ∧ w'.cell? ⟨w.heap.size, 3, none⟩ = some (.string r) ∧ w'.cell? ⟨w.heap.size, 4, none⟩ = some (.string o) ∧ w'.cell? ⟨w.heap.size + 1, 0, none⟩ = some (.int .i64 an) ∧ w'.cell? ⟨w.heap.size + 1, 1, none⟩ = some (.int .i64 ad) ∧ w'.cell? ⟨w.heap.size + 2, 0, none⟩ = some (.int .i64 bn) ∧ w'.cell? ⟨w.heap.size + 2, 1, none⟩ = some (.int .i64 bd) ∧ w'.cell? ⟨w1.heap.size, 0, none⟩ = some (.int .i64 x1) ∧ w'.cell? ⟨w1.heap.size, 1, none⟩ = some (.int .i64 x2) ∧ w'.cell? ⟨w2.heap.size, 0, none⟩ = some (.int .i64 y1) ∧ w'.cell? ⟨w2.heap.size, 1, none⟩ = some (.int .i64 y2) ∧ w'.cell? ⟨w5.heap.size, 0, none⟩ = some (.int .i64 b1) ∧ w'.cell? ⟨w5.heap.size, 1, none⟩ = some (.int .i64 b2) ∧ w5.heap.size + 1 ≤ w'.heap.size ∧ Below w5.heap.size w5 w')) (by kernel_rfl) ?_ ?_
            · (refine ⟨?_, ?_, ?_, ?_, ?_, ?_, ?_, ?_, ?_, ?_, ?_, ?_, ?_, ?_, ?_, ?_, ?_⟩ <;> first | assumption | ((repeat' (first | (with_reducible exact Below.refl _ _) | (with_reducible assumption) | (with_reducible refine drewN_below ?_ _) | (with_reducible refine Below.drew ?_) | (with_reducible refine Below.alloc ?_ ?_ _) | (with_reducible refine Below.setCell ?_ ?_ _) | (simp; done) | omega | (simp; omega))); done) | (simp [*]; done) | (simp [go_sem, *]; done) | (simp; omega))
            intro hH0
            refine wpAnyH_take (i := 0) (v := ?_) rfl (by kernel_rfl) (by kernel_rfl) (by kernel_rfl) (fun _ _ _ h => h) (Or.inl ⟨by rfl, ?_⟩) (by assumption) ?_
            rotate_left
            focus (intro wq hSq; (try dsimp only at hSq); go_simp; first | done | (with_reducible rfl))
            (try simp only [Act.put, List.getElem_toArray, List.getElem_cons_zero, List.setIfInBounds_toArray, List.set_cons_zero, List.set_cons_succ])
            refine wpAnyH_ready (rs := [1]) (by kernel_rfl) (by simp) ?_
            refine AllReadyH.cons rfl (fun K hK => ?_) AllReadyH.nil
            rw [if_pos (by rfl)]
            go_simp
            refine (ris_any _ _ _).mono ?_
            rintro e wr ⟨rfl, hbr⟩
            obtain ⟨hcr, hfr, hzr, hBr⟩ := after (a := w5) (B := w5.heap.size) (w5.heap.size + 1) hbr (by first | (with_reducible assumption) | (simp; done) | omega | (simp; omega)) (by repeat' (first | (with_reducible exact Below.refl _ _) | (with_reducible assumption) | (with_reducible refine drewN_below ?_ _) | (with_reducible refine Below.drew ?_) | (with_reducible refine Below.alloc ?_ ?_ _) | (with_reducible refine Below.setCell ?_ ?_ _) | (simp; done) | omega | (simp; omega))) (by omega)
            have yG := Nat.lt_of_lt_of_le xG hzr
            have yA := Nat.lt_of_lt_of_le xA hzr
            have yB := Nat.lt_of_lt_of_le xB hzr
            have yX := Nat.lt_of_lt_of_le xX hzr
            have yY := Nat.lt_of_lt_of_le xY hzr
            have yN := Nat.lt_of_lt_of_le xN hzr
            rw [ha]
            dsimp only
            refine hK.out _ _ ?_ (fun hHeld => ?_)
            · (refine ⟨?_, ?_, ?_, ?_, ?_, ?_, ?_, ?_, ?_, ?_, ?_, ?_, ?_, ?_, ?_, ?_, ?_⟩ <;> first | assumption | ((repeat' (first | (with_reducible exact Below.refl _ _) | (with_reducible assumption) | (with_reducible refine drewN_below ?_ _) | (with_reducible refine Below.drew ?_) | (with_reducible refine Below.alloc ?_ ?_ _) | (with_reducible refine Below.setCell ?_ ?_ _) | (simp; done) | omega | (simp; omega))); done) | (simp [*]; done) | (simp [go_sem, *]; done) | (simp; omega))
            clear hK K
            (try simp only [Act.put, List.getElem_toArray, List.getElem_cons_succ, List.getElem_cons_zero, List.setIfInBounds_toArray, List.set_cons_zero, List.set_cons_succ])
            refine wpAnyH_take (i := 2) (v := ?_) rfl (by kernel_rfl) (by kernel_rfl) (by kernel_rfl) (fun _ _ _ h => h) (Or.inl ⟨by rfl, ?_⟩) (by assumption) ?_
            rotate_left
            focus (intro wq hSq; (try dsimp only at hSq); go_simp; first | done | (with_reducible rfl))
            (try simp only [Act.put, List.getElem_toArray, List.getElem_cons_succ, List.getElem_cons_zero, List.setIfInBounds_toArray, List.set_cons_zero, List.set_cons_succ])
            refine wpAnyH_take (i := 3) (v := ?_) rfl (by kernel_rfl) (by kernel_rfl) (by kernel_rfl) (fun _ _ _ h => h) (Or.inl ⟨by rfl, ?_⟩) (by assumption) ?_
            rotate_left
            focus (intro wq hSq; (try dsimp only at hSq); go_simp; first | done | (with_reducible rfl))
            (try simp only [Act.put, List.getElem_toArray, List.getElem_cons_succ, List.getElem_cons_zero, List.setIfInBounds_toArray, List.set_cons_zero, List.set_cons_succ])
            refine wpAnyH_take (i := 5) (v := ?_) rfl (by kernel_rfl) (by kernel_rfl) (by kernel_rfl) (fun _ _ _ h => h) (Or.inl ⟨by rfl, ?_⟩) (by assumption) ?_
            rotate_left
            focus (intro wq hSq; (try dsimp only at hSq); go_simp; first | done | (with_reducible rfl))
            (try simp only [Act.put, List.getElem_toArray, List.getElem_cons_succ, List.getElem_cons_zero, List.setIfInBounds_toArray, List.set_cons_zero, List.set_cons_succ])
            refine wpAnyH_ready (rs := [4]) (by kernel_rfl) (by simp) ?_
            refine AllReadyH.cons rfl (fun K hK => ?_) AllReadyH.nil
            rw [if_pos (by rfl)]
            go_simp
            refine (Least_any _ _ _ _ _ hI hF _).mono ?_
            rintro e wr ⟨rfl, hbr⟩
            obtain ⟨hcr, hfr, hzr, hBr⟩ := after (a := w5) (B := w5.heap.size) (w5.heap.size + 1) hbr (by first | (with_reducible assumption) | (simp; done) | omega | (simp; omega)) (by repeat' (first | (with_reducible exact Below.refl _ _) | (with_reducible assumption) | (with_reducible refine drewN_below ?_ _) | (with_reducible refine Below.drew ?_) | (with_reducible refine Below.alloc ?_ ?_ _) | (with_reducible refine Below.setCell ?_ ?_ _) | (simp; done) | omega | (simp; omega))) (by omega)
            have yG := Nat.lt_of_lt_of_le xG hzr
            have yA := Nat.lt_of_lt_of_le xA hzr
            have yB := Nat.lt_of_lt_of_le xB hzr
            have yX := Nat.lt_of_lt_of_le xX hzr
            have yY := Nat.lt_of_lt_of_le xY hzr
            have yN := Nat.lt_of_lt_of_le xN hzr
            rw [hLs.out]
            dsimp only
            refine hK.out _ _ ?_ (fun hHeld => ?_)
            · (refine ⟨?_, ?_, ?_, ?_, ?_, ?_, ?_, ?_, ?_, ?_, ?_, ?_, ?_, ?_, ?_, ?_, ?_⟩ <;> first | assumption | ((repeat' (first | (with_reducible exact Below.refl _ _) | (with_reducible assumption) | (with_reducible refine drewN_below ?_ _) | (with_reducible refine Below.drew ?_) | (with_reducible refine Below.alloc ?_ ?_ _) | (with_reducible refine Below.setCell ?_ ?_ _) | (simp; done) | omega | (simp; omega))); done) | (simp [*]; done) | (simp [go_sem, *]; done) | (simp; omega))
            clear hK K
            (try simp only [Act.put, List.getElem_toArray, List.getElem_cons_succ, List.getElem_cons_zero, List.setIfInBounds_toArray, List.set_cons_zero, List.set_cons_succ])
            refine wpAnyH_ready (rs := [6]) (by kernel_rfl) (by simp) ?_
            refine AllReadyH.cons rfl (fun K hK => ?_) AllReadyH.nil
            rw [if_pos (by rfl)]
            go_simp
            refine (rcmp_any _ _ _ _ _).mono ?_
            rintro e wr ⟨rfl, hbr⟩
            obtain ⟨hcr, hfr, hzr, hBr⟩ := after (a := w5) (B := w5.heap.size) (w5.heap.size + 1) hbr (by first | (with_reducible assumption) | (simp; done) | omega | (simp; omega)) (by repeat' (first | (with_reducible exact Below.refl _ _) | (with_reducible assumption) | (with_reducible refine drewN_below ?_ _) | (with_reducible refine Below.drew ?_) | (with_reducible refine Below.alloc ?_ ?_ _) | (with_reducible refine Below.setCell ?_ ?_ _) | (simp; done) | omega | (simp; omega))) (by omega)
            have yG := Nat.lt_of_lt_of_le xG hzr
            have yA := Nat.lt_of_lt_of_le xA hzr
            have yB := Nat.lt_of_lt_of_le xB hzr
            have yX := Nat.lt_of_lt_of_le xX hzr
            have yY := Nat.lt_of_lt_of_le xY hzr
            have yN := Nat.lt_of_lt_of_le xN hzr
            rw [hC4.out]
            dsimp only
            refine hK.out _ _ ?_ (fun hHeld => ?_)
            · (refine ⟨?_, ?_, ?_, ?_, ?_, ?_, ?_, ?_, ?_, ?_, ?_, ?_, ?_, ?_, ?_, ?_, ?_⟩ <;> first | assumption | ((repeat' (first | (with_reducible exact Below.refl _ _) | (with_reducible assumption) | (with_reducible refine drewN_below ?_ _) | (with_reducible refine Below.drew ?_) | (with_reducible refine Below.alloc ?_ ?_ _) | (with_reducible refine Below.setCell ?_ ?_ _) | (simp; done) | omega | (simp; omega))); done) | (simp [*]; done) | (simp [go_sem, *]; done) | (simp; omega))
            clear hK K
            (try simp only [Act.put, List.getElem_toArray, List.getElem_cons_succ, List.getElem_cons_zero, List.setIfInBounds_toArray, List.set_cons_zero, List.set_cons_succ])
            refine wpAnyH_take (i := 7) (v := ?_) rfl (by kernel_rfl) (by kernel_rfl) (by kernel_rfl) (fun _ _ _ h => h) (Or.inl ⟨by rfl, ?_⟩) (by assumption) ?_
            rotate_left
            focus (intro wq hSq; (try dsimp only at hSq); go_simp; first | done | (with_reducible rfl))
            (try simp only [Act.put, List.getElem_toArray, List.getElem_cons_succ, List.getElem_cons_zero, List.setIfInBounds_toArray, List.set_cons_zero, List.set_cons_succ])
            refine wpAnyH_take (i := 8) (v := ?_) rfl (by kernel_rfl) (by kernel_rfl) (by kernel_rfl) (fun _ _ _ h => h) (Or.inl ⟨by rfl, ?_⟩) (by assumption) ?_
            rotate_left
            focus (intro wq hSq; (try dsimp only at hSq); go_simp; first | done | (with_reducible rfl))
            (try simp only [Act.put, List.getElem_toArray, List.getElem_cons_succ, List.getElem_cons_zero, List.setIfInBounds_toArray, List.set_cons_zero, List.set_cons_succ])
            refine wpAnyH_take (i := 9) (v := ?_) rfl (by kernel_rfl) (by kernel_rfl) (by kernel_rfl) (fun _ _ _ h => h) (Or.inl ⟨by rfl, ?_⟩) (by assumption) ?_
            rotate_left
            focus (intro wq hSq; (try dsimp only at hSq); go_simp; first | done | (with_reducible rfl))
            (try simp only [Act.put, List.getElem_toArray, List.getElem_cons_succ, List.getElem_cons_zero, List.setIfInBounds_toArray, List.set_cons_zero, List.set_cons_succ])
            refine wpAnyH_take (i := 10) (v := undef) rfl (by kernel_rfl) (by kernel_rfl) (by kernel_rfl) (fun _ _ _ h => h) (Or.inr ⟨by rfl, rfl⟩) (by assumption) ?_
            (try simp only [Act.put, List.getElem_toArray, List.getElem_cons_succ, List.getElem_cons_zero, List.setIfInBounds_toArray, List.set_cons_zero, List.set_cons_succ])
            refine wpAnyH_take (i := 11) (v := undef) rfl (by kernel_rfl) (by kernel_rfl) (by kernel_rfl) (fun _ _ _ h => h) (Or.inr ⟨by rfl, rfl⟩) (by assumption) ?_
            (try simp only [Act.put, List.getElem_toArray, List.getElem_cons_succ, List.getElem_cons_zero, List.setIfInBounds_toArray, List.set_cons_zero, List.set_cons_succ])
            refine wpAnyH_take (i := 12) (v := undef) rfl (by kernel_rfl) (by kernel_rfl) (by kernel_rfl) (fun _ _ _ h => h) (Or.inr ⟨by rfl, rfl⟩) (by assumption) ?_
            (try simp only [Act.put, List.getElem_toArray, List.getElem_cons_succ, List.getElem_cons_zero, List.setIfInBounds_toArray, List.set_cons_zero, List.set_cons_succ])
            refine wpAnyH_take (i := 13) (v := undef) rfl (by kernel_rfl) (by kernel_rfl) (by kernel_rfl) (fun _ _ _ h => h) (Or.inr ⟨by rfl, rfl⟩) (by assumption) ?_
            (try simp only [Act.put, List.getElem_toArray, List.getElem_cons_succ, List.getElem_cons_zero, List.setIfInBounds_toArray, List.set_cons_zero, List.set_cons_succ])
            refine wpAnyH_take (i := 14) (v := undef) rfl (by kernel_rfl) (by kernel_rfl) (by kernel_rfl) (fun _ _ _ h => h) (Or.inr ⟨by rfl, rfl⟩) (by assumption) ?_
            (try simp only [Act.put, List.getElem_toArray, List.getElem_cons_succ, List.getElem_cons_zero, List.setIfInBounds_toArray, List.set_cons_zero, List.set_cons_succ])
            refine wpAnyH_take (i := 15) (v := ?_) rfl (by kernel_rfl) (by kernel_rfl) (by kernel_rfl) (fun _ _ _ h => h) (Or.inl ⟨by rfl, ?_⟩) (by assumption) ?_
            rotate_left
            focus (intro wq hSq; (try dsimp only at hSq); go_simp; first | done | (with_reducible rfl))
            (try simp only [Act.put, List.getElem_toArray, List.getElem_cons_succ, List.getElem_cons_zero, List.setIfInBounds_toArray, List.set_cons_zero, List.set_cons_succ])
            refine wpAnyH_take (i := 16) (v := ?_) rfl (by kernel_rfl) (by kernel_rfl) (by kernel_rfl) (fun _ _ _ h => h) (Or.inl ⟨by rfl, ?_⟩) (by assumption) ?_
            rotate_left
            focus (intro wq hSq; (try dsimp only at hSq); go_simp; first | done | (with_reducible rfl))
            (try simp only [Act.put, List.getElem_toArray, List.getElem_cons_succ, List.getElem_cons_zero, List.setIfInBounds_toArray, List.set_cons_zero, List.set_cons_succ])
            refine wpAnyH_done (by kernel_rfl) ?_ _
            obtain ⟨s0, s1, s2, s3, s4, s5, s6, s7, s8, s9, s10, s11, s12, s13, s14, s15, s16⟩ := (by assumption : wr.cell? ⟨w.heap.size, 0, none⟩ = some (.string k) ∧ wr.cell? ⟨w.heap.size, 1, none⟩ = some (.int .i64 I) ∧ wr.cell? ⟨w.heap.size, 2, none⟩ = some (.int .i64 F) ∧ wr.cell? ⟨w.heap.size, 3, none⟩ = some (.string r) ∧ wr.cell? ⟨w.heap.size, 4, none⟩ = some (.string o) ∧ wr.cell? ⟨w.heap.size + 1, 0, none⟩ = some (.int .i64 an) ∧ wr.cell? ⟨w.heap.size + 1, 1, none⟩ = some (.int .i64 ad) ∧ wr.cell? ⟨w.heap.size + 2, 0, none⟩ = some (.int .i64 bn) ∧ wr.cell? ⟨w.heap.size + 2, 1, none⟩ = some (.int .i64 bd) ∧ wr.cell? ⟨w1.heap.size, 0, none⟩ = some (.int .i64 x1) ∧ wr.cell? ⟨w1.heap.size, 1, none⟩ = some (.int .i64 x2) ∧ wr.cell? ⟨w2.heap.size, 0, none⟩ = some (.int .i64 y1) ∧ wr.cell? ⟨w2.heap.size, 1, none⟩ = some (.int .i64 y2) ∧ wr.cell? ⟨w5.heap.size, 0, none⟩ = some (.int .i64 b1) ∧ wr.cell? ⟨w5.heap.size, 1, none⟩ = some (.int .i64 b2) ∧ w5.heap.size + 1 ≤ wr.heap.size ∧ Below w5.heap.size w5 wr)
            have cG0w6 := s0
            have cG1w6 := s1
            have cG2w6 := s2
            have cG3w6 := s3
            have cG4w6 := s4
            have cA0w6 := s5
            have cA1w6 := s6
            have cB0w6 := s7
            have cB1w6 := s8
            have cX0w6 := s9
            have cX1w6 := s10
            have cY0w6 := s11
            have cY1w6 := s12
            have cN0w6 := s13
            have cN1w6 := s14
            have bGw6 : w.heap.size < wr.heap.size := Nat.lt_of_lt_of_le xG s15
            have dGw6 : w.heap.size < wr.heap.size + 1 := Nat.lt_succ_of_lt bGw6
            have bAw6 : w.heap.size + 1 < wr.heap.size := Nat.lt_of_lt_of_le xA s15
            have dAw6 : w.heap.size + 1 < wr.heap.size + 1 := Nat.lt_succ_of_lt bAw6
            have bBw6 : w.heap.size + 2 < wr.heap.size := Nat.lt_of_lt_of_le xB s15
            have dBw6 : w.heap.size + 2 < wr.heap.size + 1 := Nat.lt_succ_of_lt bBw6
            have bXw6 : w1.heap.size < wr.heap.size := Nat.lt_of_lt_of_le xX s15
            have dXw6 : w1.heap.size < wr.heap.size + 1 := Nat.lt_succ_of_lt bXw6
            have bYw6 : w2.heap.size < wr.heap.size := Nat.lt_of_lt_of_le xY s15
            have dYw6 : w2.heap.size < wr.heap.size + 1 := Nat.lt_succ_of_lt bYw6
            have bNw6 : w5.heap.size < wr.heap.size := Nat.lt_of_lt_of_le xN s15
            have dNw6 : w5.heap.size < wr.heap.size + 1 := Nat.lt_succ_of_lt bNw6
            have hBw6 : Below w.heap.size w wr := Below.trans hBw5 (s16.mono hBw5.size)
            have zw6 : w.heap.size ≤ wr.heap.size := hBw6.size
            clear s0 s1 s2 s3 s4 s5 s6 s7 s8 s9 s10 s11 s12 s13 s14 s15 s16 xG xA xB xX xY xN hcr hfr hzr hBr hbr zw5 hBw5 dYw5 bYw5 cY1w5 cY0w5 dXw5 bXw5 cX1w5 cX0w5 dBw5 bBw5 cB1w5 cB0w5 dAw5 bAw5 cA1w5 cA0w5 dGw5 bGw5 cG4w5 cG3w5 cG2w5 cG1w5 cG0w5
            repeat (clear hcr hfr hzr hBr hbr)
            skip
            obtain ⟨w6, ew6⟩ : ∃ x, x = wr := ⟨_, rfl⟩
            subst ew6
            go_wp2
            go_meet
            (refine ⟨rfl, ?_, ?_, ?_, ?_, ?_, ?_, ?_, ?_, ?_, ?_, ?_, ?_, ?_, ?_, ?_, ?_, ?_, ?_, ?_, ?_, ?_, ?_⟩ <;> first | assumption | (simp [go_sem, *]; done) | omega | (simp; omega) | (repeat' (first | (with_reducible exact Below.refl _ _) | (with_reducible assumption) | (with_reducible refine drewN_below ?_ _) | (with_reducible refine Below.drew ?_) | (with_reducible refine Below.alloc ?_ ?_ _) | (with_reducible refine Below.setCell ?_ ?_ _) | (simp; done) | omega | (simp; omega))))
          · by_cases h5 : c5 ≤ 0
            rotate_left
            · skip
              have ei : ins = false := by rw [← hIns.out, ha, show decide (c4 ≤ 0) = true from decide_eq_true h4, show decide (c5 ≤ 0) = false from decide_eq_false h5]; rfl
              subst ei
              have t4 : decide (c4 ≤ 0) = true := decide_eq_true h4
              have t5 : decide (c5 ≤ 0) = false := decide_eq_false h5
              clear h4 h5
              have xG : w.heap.size < w5.heap.size + 1 := by omega
              have xA : w.heap.size + 1 < w5.heap.size + 1 := by omega
              have xB : w.heap.size + 2 < w5.heap.size + 1 := by omega
              have xX : w1.heap.size < w5.heap.size + 1 := by omega
              have xY : w2.heap.size < w5.heap.size + 1 := by omega
              have xN : w5.heap.size < w5.heap.size + 1 := by omega
              refine wp_region_held_drew (S := (fun w' => w'.cell? ⟨w.heap.size, 0, none⟩ = some (.string k) ∧ w'.cell? ⟨w.heap.size, 1, none⟩ = some (.int .i64 I) ∧ w'.cell? ⟨w.heap.size, 2, none⟩ = some (.int .i64 F) ∧ w'.cell? ⟨w.heap.size, 3, none⟩ = some (.string r) ∧ w'.cell? ⟨w.heap.size, 4, none⟩ = some (.string o) ∧ w'.cell? ⟨w.heap.size + 1, 0, none⟩ = some (.int .i64 an) ∧ w'.cell? ⟨w.heap.size + 1, 1, none⟩ = some (.int .i64 ad) ∧ w'.cell? ⟨w.heap.size + 2, 0, none⟩ = some (.int .i64 bn) ∧ w'.cell? ⟨w.heap.size + 2, 1, none⟩ = some (.int .i64 bd) ∧ w'.cell? ⟨w1.heap.size, 0, none⟩ = some (.int .i64 x1) ∧ w'.cell? ⟨w1.heap.size, 1, none⟩ = some (.int .i64 x2) ∧ w'.cell? ⟨w2.heap.size, 0, none⟩ = some (.int .i64 y1) ∧ w'.cell? ⟨w2.heap.size, 1, none⟩ = some (.int .i64 y2) ∧ w'.cell? ⟨w5.heap.size, 0, none⟩ = some (.int .i64 b1) ∧ w'.cell? ⟨w5.heap.size, 1, none⟩ = some (.int .i64 b2) ∧ w5.heap.size + 1 ≤ w'.heap.size ∧ Below w5.heap.size w5 w')) (by kernel_rfl) ?_ ?_
              · (refine ⟨?_, ?_, ?_, ?_, ?_, ?_, ?_, ?_, ?_, ?_, ?_, ?_, ?_, ?_, ?_, ?_, ?_⟩ <;> first | assumption | ((repeat' (first | (with_reducible exact Below.refl _ _) | (with_reducible assumption) | (with_reducible refine drewN_below ?_ _) | (with_reducible refine Below.drew ?_) | (with_reducible refine Below.alloc ?_ ?_ _) | (with_reducible refine Below.setCell ?_ ?_ _) | (simp; done) | omega | (simp; omega))); done) | (simp [*]; done) | (simp [go_sem, *]; done) | (simp; omega))
              intro hH0
              refine wpAnyH_take (i := 0) (v := ?_) rfl (by kernel_rfl) (by kernel_rfl) (by kernel_rfl) (fun _ _ _ h => h) (Or.inl ⟨by rfl, ?_⟩) (by assumption) ?_
              rotate_left
              focus (intro wq hSq; (try dsimp only at hSq); go_simp; first | done | (with_reducible rfl))
              (try simp only [Act.put, List.getElem_toArray, List.getElem_cons_zero, List.setIfInBounds_toArray, List.set_cons_zero, List.set_cons_succ])
              refine wpAnyH_ready (rs := [1]) (by kernel_rfl) (by simp) ?_
              refine AllReadyH.cons rfl (fun K hK => ?_) AllReadyH.nil
              rw [if_pos (by rfl)]
              go_simp
              refine (ris_any _ _ _).mono ?_
              rintro e wr ⟨rfl, hbr⟩
              obtain ⟨hcr, hfr, hzr, hBr⟩ := after (a := w5) (B := w5.heap.size) (w5.heap.size + 1) hbr (by first | (with_reducible assumption) | (simp; done) | omega | (simp; omega)) (by repeat' (first | (with_reducible exact Below.refl _ _) | (with_reducible assumption) | (with_reducible refine drewN_below ?_ _) | (with_reducible refine Below.drew ?_) | (with_reducible refine Below.alloc ?_ ?_ _) | (with_reducible refine Below.setCell ?_ ?_ _) | (simp; done) | omega | (simp; omega))) (by omega)
              have yG := Nat.lt_of_lt_of_le xG hzr
              have yA := Nat.lt_of_lt_of_le xA hzr
              have yB := Nat.lt_of_lt_of_le xB hzr
              have yX := Nat.lt_of_lt_of_le xX hzr
              have yY := Nat.lt_of_lt_of_le xY hzr
              have yN := Nat.lt_of_lt_of_le xN hzr
              rw [ha]
              dsimp only
              refine hK.out _ _ ?_ (fun hHeld => ?_)
              · (refine ⟨?_, ?_, ?_, ?_, ?_, ?_, ?_, ?_, ?_, ?_, ?_, ?_, ?_, ?_, ?_, ?_, ?_⟩ <;> first | assumption | ((repeat' (first | (with_reducible exact Below.refl _ _) | (with_reducible assumption) | (with_reducible refine drewN_below ?_ _) | (with_reducible refine Below.drew ?_) | (with_reducible refine Below.alloc ?_ ?_ _) | (with_reducible refine Below.setCell ?_ ?_ _) | (simp; done) | omega | (simp; omega))); done) | (simp [*]; done) | (simp [go_sem, *]; done) | (simp; omega))
              clear hK K
              (try simp only [Act.put, List.getElem_toArray, List.getElem_cons_succ, List.getElem_cons_zero, List.setIfInBounds_toArray, List.set_cons_zero, List.set_cons_succ])
              refine wpAnyH_take (i := 2) (v := ?_) rfl (by kernel_rfl) (by kernel_rfl) (by kernel_rfl) (fun _ _ _ h => h) (Or.inl ⟨by rfl, ?_⟩) (by assumption) ?_
              rotate_left
              focus (intro wq hSq; (try dsimp only at hSq); go_simp; first | done | (with_reducible rfl))
              (try simp only [Act.put, List.getElem_toArray, List.getElem_cons_succ, List.getElem_cons_zero, List.setIfInBounds_toArray, List.set_cons_zero, List.set_cons_succ])
              refine wpAnyH_take (i := 3) (v := ?_) rfl (by kernel_rfl) (by kernel_rfl) (by kernel_rfl) (fun _ _ _ h => h) (Or.inl ⟨by rfl, ?_⟩) (by assumption) ?_
              rotate_left
              focus (intro wq hSq; (try dsimp only at hSq); go_simp; first | done | (with_reducible rfl))
              (try simp only [Act.put, List.getElem_toArray, List.getElem_cons_succ, List.getElem_cons_zero, List.setIfInBounds_toArray, List.set_cons_zero, List.set_cons_succ])
              refine wpAnyH_take (i := 5) (v := ?_) rfl (by kernel_rfl) (by kernel_rfl) (by kernel_rfl) (fun _ _ _ h => h) (Or.inl ⟨by rfl, ?_⟩) (by assumption) ?_
              rotate_left
              focus (intro wq hSq; (try dsimp only at hSq); go_simp; first | done | (with_reducible rfl))
              (try simp only [Act.put, List.getElem_toArray, List.getElem_cons_succ, List.getElem_cons_zero, List.setIfInBounds_toArray, List.set_cons_zero, List.set_cons_succ])
              refine wpAnyH_ready (rs := [4]) (by kernel_rfl) (by simp) ?_
              refine AllReadyH.cons rfl (fun K hK => ?_) AllReadyH.nil
              rw [if_pos (by rfl)]
              go_simp
              refine (Least_any _ _ _ _ _ hI hF _).mono ?_
              rintro e wr ⟨rfl, hbr⟩
              obtain ⟨hcr, hfr, hzr, hBr⟩ := after (a := w5) (B := w5.heap.size) (w5.heap.size + 1) hbr (by first | (with_reducible assumption) | (simp; done) | omega | (simp; omega)) (by repeat' (first | (with_reducible exact Below.refl _ _) | (with_reducible assumption) | (with_reducible refine drewN_below ?_ _) | (with_reducible refine Below.drew ?_) | (with_reducible refine Below.alloc ?_ ?_ _) | (with_reducible refine Below.setCell ?_ ?_ _) | (simp; done) | omega | (simp; omega))) (by omega)
              have yG := Nat.lt_of_lt_of_le xG hzr
              have yA := Nat.lt_of_lt_of_le xA hzr
              have yB := Nat.lt_of_lt_of_le xB hzr
              have yX := Nat.lt_of_lt_of_le xX hzr
              have yY := Nat.lt_of_lt_of_le xY hzr
              have yN := Nat.lt_of_lt_of_le xN hzr
              rw [hLs.out]
              dsimp only
              refine hK.out _ _ ?_ (fun hHeld => ?_)
              · (refine ⟨?_, ?_, ?_, ?_, ?_, ?_, ?_, ?_, ?_, ?_, ?_, ?_, ?_, ?_, ?_, ?_, ?_⟩ <;> first | assumption | ((repeat' (first | (with_reducible exact Below.refl _ _) | (with_reducible assumption) | (with_reducible refine drewN_below ?_ _) | (with_reducible refine Below.drew ?_) | (with_reducible refine Below.alloc ?_ ?_ _) | (with_reducible refine Below.setCell ?_ ?_ _) | (simp; done) | omega | (simp; omega))); done) | (simp [*]; done) | (simp [go_sem, *]; done) | (simp; omega))
              clear hK K
              (try simp only [Act.put, List.getElem_toArray, List.getElem_cons_succ, List.getElem_cons_zero, List.setIfInBounds_toArray, List.set_cons_zero, List.set_cons_succ])
              refine wpAnyH_ready (rs := [6]) (by kernel_rfl) (by simp) ?_
              refine AllReadyH.cons rfl (fun K hK => ?_) AllReadyH.nil
              rw [if_pos (by rfl)]
              go_simp
              refine (rcmp_any _ _ _ _ _).mono ?_
              rintro e wr ⟨rfl, hbr⟩
              obtain ⟨hcr, hfr, hzr, hBr⟩ := after (a := w5) (B := w5.heap.size) (w5.heap.size + 1) hbr (by first | (with_reducible assumption) | (simp; done) | omega | (simp; omega)) (by repeat' (first | (with_reducible exact Below.refl _ _) | (with_reducible assumption) | (with_reducible refine drewN_below ?_ _) | (with_reducible refine Below.drew ?_) | (with_reducible refine Below.alloc ?_ ?_ _) | (with_reducible refine Below.setCell ?_ ?_ _) | (simp; done) | omega | (simp; omega))) (by omega)
              have yG := Nat.lt_of_lt_of_le xG hzr
              have yA := Nat.lt_of_lt_of_le xA hzr
              have yB := Nat.lt_of_lt_of_le xB hzr
              have yX := Nat.lt_of_lt_of_le xX hzr
              have yY := Nat.lt_of_lt_of_le xY hzr
              have yN := Nat.lt_of_lt_of_le xN hzr
              rw [hC4.out]
              dsimp only
              refine hK.out _ _ ?_ (fun hHeld => ?_)
              · (refine ⟨?_, ?_, ?_, ?_, ?_, ?_, ?_, ?_, ?_, ?_, ?_, ?_, ?_, ?_, ?_, ?_, ?_⟩ <;> first | assumption | ((repeat' (first | (with_reducible exact Below.refl _ _) | (with_reducible assumption) | (with_reducible refine drewN_below ?_ _) | (with_reducible refine Below.drew ?_) | (with_reducible refine Below.alloc ?_ ?_ _) | (with_reducible refine Below.setCell ?_ ?_ _) | (simp; done) | omega | (simp; omega))); done) | (simp [*]; done) | (simp [go_sem, *]; done) | (simp; omega))
              clear hK K
              (try simp only [Act.put, List.getElem_toArray, List.getElem_cons_succ, List.getElem_cons_zero, List.setIfInBounds_toArray, List.set_cons_zero, List.set_cons_succ])
              refine wpAnyH_take (i := 7) (v := ?_) rfl (by kernel_rfl) (by kernel_rfl) (by kernel_rfl) (fun _ _ _ h => h) (Or.inl ⟨by rfl, ?_⟩) (by assumption) ?_
              rotate_left
              focus (intro wq hSq; (try dsimp only at hSq); go_simp; first | done | (with_reducible rfl))
              (try simp only [Act.put, List.getElem_toArray, List.getElem_cons_succ, List.getElem_cons_zero, List.setIfInBounds_toArray, List.set_cons_zero, List.set_cons_succ])
              refine wpAnyH_take (i := 8) (v := ?_) rfl (by kernel_rfl) (by kernel_rfl) (by kernel_rfl) (fun _ _ _ h => h) (Or.inl ⟨by rfl, ?_⟩) (by assumption) ?_
              rotate_left
              focus (intro wq hSq; (try dsimp only at hSq); go_simp; first | done | (with_reducible rfl))
              (try simp only [Act.put, List.getElem_toArray, List.getElem_cons_succ, List.getElem_cons_zero, List.setIfInBounds_toArray, List.set_cons_zero, List.set_cons_succ])
              refine wpAnyH_take (i := 9) (v := ?_) rfl (by kernel_rfl) (by kernel_rfl) (by kernel_rfl) (fun _ _ _ h => h) (Or.inl ⟨by rfl, ?_⟩) (by assumption) ?_
              rotate_left
              focus (intro wq hSq; (try dsimp only at hSq); go_simp; first | done | (with_reducible rfl))
              (try simp only [Act.put, List.getElem_toArray, List.getElem_cons_succ, List.getElem_cons_zero, List.setIfInBounds_toArray, List.set_cons_zero, List.set_cons_succ])
              refine wpAnyH_take (i := 10) (v := ?_) rfl (by kernel_rfl) (by kernel_rfl) (by kernel_rfl) (fun _ _ _ h => h) (Or.inl ⟨by rfl, ?_⟩) (by assumption) ?_
              rotate_left
              focus (intro wq hSq; (try dsimp only at hSq); go_simp; first | done | (with_reducible rfl))
              (try simp only [Act.put, List.getElem_toArray, List.getElem_cons_succ, List.getElem_cons_zero, List.setIfInBounds_toArray, List.set_cons_zero, List.set_cons_succ])
              refine wpAnyH_take (i := 11) (v := ?_) rfl (by kernel_rfl) (by kernel_rfl) (by kernel_rfl) (fun _ _ _ h => h) (Or.inl ⟨by rfl, ?_⟩) (by assumption) ?_
              rotate_left
              focus (intro wq hSq; (try dsimp only at hSq); go_simp; first | done | (with_reducible rfl))
              (try simp only [Act.put, List.getElem_toArray, List.getElem_cons_succ, List.getElem_cons_zero, List.setIfInBounds_toArray, List.set_cons_zero, List.set_cons_succ])
              refine wpAnyH_ready (rs := [12]) (by kernel_rfl) (by simp) ?_
              refine AllReadyH.cons rfl (fun K hK => ?_) AllReadyH.nil
              rw [if_pos (by rfl)]
              go_simp
              refine (Greatest_any _ _ _ _ _ hI hF _).mono ?_
              rintro e wr ⟨rfl, hbr⟩
              obtain ⟨hcr, hfr, hzr, hBr⟩ := after (a := w5) (B := w5.heap.size) (w5.heap.size + 1) hbr (by first | (with_reducible assumption) | (simp; done) | omega | (simp; omega)) (by repeat' (first | (with_reducible exact Below.refl _ _) | (with_reducible assumption) | (with_reducible refine drewN_below ?_ _) | (with_reducible refine Below.drew ?_) | (with_reducible refine Below.alloc ?_ ?_ _) | (with_reducible refine Below.setCell ?_ ?_ _) | (simp; done) | omega | (simp; omega))) (by omega)
              have yG := Nat.lt_of_lt_of_le xG hzr
              have yA := Nat.lt_of_lt_of_le xA hzr
              have yB := Nat.lt_of_lt_of_le xB hzr
              have yX := Nat.lt_of_lt_of_le xX hzr
              have yY := Nat.lt_of_lt_of_le xY hzr
              have yN := Nat.lt_of_lt_of_le xN hzr
              rw [hGr.out]
              dsimp only
              refine hK.out _ _ ?_ (fun hHeld => ?_)
              · (refine ⟨?_, ?_, ?_, ?_, ?_, ?_, ?_, ?_, ?_, ?_, ?_, ?_, ?_, ?_, ?_, ?_, ?_⟩ <;> first | assumption | ((repeat' (first | (with_reducible exact Below.refl _ _) | (with_reducible assumption) | (with_reducible refine drewN_below ?_ _) | (with_reducible refine Below.drew ?_) | (with_reducible refine Below.alloc ?_ ?_ _) | (with_reducible refine Below.setCell ?_ ?_ _) | (simp; done) | omega | (simp; omega))); done) | (simp [*]; done) | (simp [go_sem, *]; done) | (simp; omega))
              clear hK K
              (try simp only [Act.put, List.getElem_toArray, List.getElem_cons_succ, List.getElem_cons_zero, List.setIfInBounds_toArray, List.set_cons_zero, List.set_cons_succ])
              refine wpAnyH_ready (rs := [13]) (by kernel_rfl) (by simp) ?_
              refine AllReadyH.cons rfl (fun K hK => ?_) AllReadyH.nil
              rw [if_pos (by rfl)]
              go_simp
              refine (rcmp_any _ _ _ _ _).mono ?_
              rintro e wr ⟨rfl, hbr⟩
              obtain ⟨hcr, hfr, hzr, hBr⟩ := after (a := w5) (B := w5.heap.size) (w5.heap.size + 1) hbr (by first | (with_reducible assumption) | (simp; done) | omega | (simp; omega)) (by repeat' (first | (with_reducible exact Below.refl _ _) | (with_reducible assumption) | (with_reducible refine drewN_below ?_ _) | (with_reducible refine Below.drew ?_) | (with_reducible refine Below.alloc ?_ ?_ _) | (with_reducible refine Below.setCell ?_ ?_ _) | (simp; done) | omega | (simp; omega))) (by omega)
              have yG := Nat.lt_of_lt_of_le xG hzr
              have yA := Nat.lt_of_lt_of_le xA hzr
              have yB := Nat.lt_of_lt_of_le xB hzr
              have yX := Nat.lt_of_lt_of_le xX hzr
              have yY := Nat.lt_of_lt_of_le xY hzr
              have yN := Nat.lt_of_lt_of_le xN hzr
              rw [hC5.out]
              dsimp only
              refine hK.out _ _ ?_ (fun hHeld => ?_)
              · (refine ⟨?_, ?_, ?_, ?_, ?_, ?_, ?_, ?_, ?_, ?_, ?_, ?_, ?_, ?_, ?_, ?_, ?_⟩ <;> first | assumption | ((repeat' (first | (with_reducible exact Below.refl _ _) | (with_reducible assumption) | (with_reducible refine drewN_below ?_ _) | (with_reducible refine Below.drew ?_) | (with_reducible refine Below.alloc ?_ ?_ _) | (with_reducible refine Below.setCell ?_ ?_ _) | (simp; done) | omega | (simp; omega))); done) | (simp [*]; done) | (simp [go_sem, *]; done) | (simp; omega))
              clear hK K
              (try simp only [Act.put, List.getElem_toArray, List.getElem_cons_succ, List.getElem_cons_zero, List.setIfInBounds_toArray, List.set_cons_zero, List.set_cons_succ])
              refine wpAnyH_take (i := 14) (v := ?_) rfl (by kernel_rfl) (by kernel_rfl) (by kernel_rfl) (fun _ _ _ h => h) (Or.inl ⟨by rfl, ?_⟩) (by assumption) ?_
              rotate_left
              focus (intro wq hSq; (try dsimp only at hSq); go_simp; first | done | (with_reducible rfl))
              (try simp only [Act.put, List.getElem_toArray, List.getElem_cons_succ, List.getElem_cons_zero, List.setIfInBounds_toArray, List.set_cons_zero, List.set_cons_succ])
              refine wpAnyH_take (i := 15) (v := ?_) rfl (by kernel_rfl) (by kernel_rfl) (by kernel_rfl) (fun _ _ _ h => h) (Or.inl ⟨by rfl, ?_⟩) (by assumption) ?_
              rotate_left
              focus (intro wq hSq; (try dsimp only at hSq); go_simp; first | done | (with_reducible rfl))
              (try simp only [Act.put, List.getElem_toArray, List.getElem_cons_succ, List.getElem_cons_zero, List.setIfInBounds_toArray, List.set_cons_zero, List.set_cons_succ])
              refine wpAnyH_take (i := 16) (v := ?_) rfl (by kernel_rfl) (by kernel_rfl) (by kernel_rfl) (fun _ _ _ h => h) (Or.inl ⟨by rfl, ?_⟩) (by assumption) ?_
              rotate_left
              focus (intro wq hSq; (try dsimp only at hSq); go_simp; first | done | (with_reducible rfl))
              (try simp only [Act.put, List.getElem_toArray, List.getElem_cons_succ, List.getElem_cons_zero, List.setIfInBounds_toArray, List.set_cons_zero, List.set_cons_succ])
              refine wpAnyH_done (by kernel_rfl) ?_ _
              obtain ⟨s0, s1, s2, s3, s4, s5, s6, s7, s8, s9, s10, s11, s12, s13, s14, s15, s16⟩ := (by assumption : wr.cell? ⟨w.heap.size, 0, none⟩ = some (.string k) ∧ wr.cell? ⟨w.heap.size, 1, none⟩ = some (.int .i64 I) ∧ wr.cell? ⟨w.heap.size, 2, none⟩ = some (.int .i64 F) ∧ wr.cell? ⟨w.heap.size, 3, none⟩ = some (.string r) ∧ wr.cell? ⟨w.heap.size, 4, none⟩ = some (.string o) ∧ wr.cell? ⟨w.heap.size + 1, 0, none⟩ = some (.int .i64 an) ∧ wr.cell? ⟨w.heap.size + 1, 1, none⟩ = some (.int .i64 ad) ∧ wr.cell? ⟨w.heap.size + 2, 0, none⟩ = some (.int .i64 bn) ∧ wr.cell? ⟨w.heap.size + 2, 1, none⟩ = some (.int .i64 bd) ∧ wr.cell? ⟨w1.heap.size, 0, none⟩ = some (.int .i64 x1) ∧ wr.cell? ⟨w1.heap.size, 1, none⟩ = some (.int .i64 x2) ∧ wr.cell? ⟨w2.heap.size, 0, none⟩ = some (.int .i64 y1) ∧ wr.cell? ⟨w2.heap.size, 1, none⟩ = some (.int .i64 y2) ∧ wr.cell? ⟨w5.heap.size, 0, none⟩ = some (.int .i64 b1) ∧ wr.cell? ⟨w5.heap.size, 1, none⟩ = some (.int .i64 b2) ∧ w5.heap.size + 1 ≤ wr.heap.size ∧ Below w5.heap.size w5 wr)
              have cG0w6 := s0
              have cG1w6 := s1
              have cG2w6 := s2
              have cG3w6 := s3
              have cG4w6 := s4
              have cA0w6 := s5
              have cA1w6 := s6
              have cB0w6 := s7
              have cB1w6 := s8
              have cX0w6 := s9
              have cX1w6 := s10
              have cY0w6 := s11
              have cY1w6 := s12
              have cN0w6 := s13
              have cN1w6 := s14
              have bGw6 : w.heap.size < wr.heap.size := Nat.lt_of_lt_of_le xG s15
              have dGw6 : w.heap.size < wr.heap.size + 1 := Nat.lt_succ_of_lt bGw6
              have bAw6 : w.heap.size + 1 < wr.heap.size := Nat.lt_of_lt_of_le xA s15
              have dAw6 : w.heap.size + 1 < wr.heap.size + 1 := Nat.lt_succ_of_lt bAw6
              have bBw6 : w.heap.size + 2 < wr.heap.size := Nat.lt_of_lt_of_le xB s15
              have dBw6 : w.heap.size + 2 < wr.heap.size + 1 := Nat.lt_succ_of_lt bBw6
              have bXw6 : w1.heap.size < wr.heap.size := Nat.lt_of_lt_of_le xX s15
              have dXw6 : w1.heap.size < wr.heap.size + 1 := Nat.lt_succ_of_lt bXw6
              have bYw6 : w2.heap.size < wr.heap.size := Nat.lt_of_lt_of_le xY s15
              have dYw6 : w2.heap.size < wr.heap.size + 1 := Nat.lt_succ_of_lt bYw6
              have bNw6 : w5.heap.size < wr.heap.size := Nat.lt_of_lt_of_le xN s15
              have dNw6 : w5.heap.size < wr.heap.size + 1 := Nat.lt_succ_of_lt bNw6
              have hBw6 : Below w.heap.size w wr := Below.trans hBw5 (s16.mono hBw5.size)
              have zw6 : w.heap.size ≤ wr.heap.size := hBw6.size
              clear s0 s1 s2 s3 s4 s5 s6 s7 s8 s9 s10 s11 s12 s13 s14 s15 s16 xG xA xB xX xY xN hcr hfr hzr hBr hbr zw5 hBw5 dYw5 bYw5 cY1w5 cY0w5 dXw5 bXw5 cX1w5 cX0w5 dBw5 bBw5 cB1w5 cB0w5 dAw5 bAw5 cA1w5 cA0w5 dGw5 bGw5 cG4w5 cG3w5 cG2w5 cG1w5 cG0w5
              repeat (clear hcr hfr hzr hBr hbr)
              skip
              obtain ⟨w6, ew6⟩ : ∃ x, x = wr := ⟨_, rfl⟩
              subst ew6
              go_wp2
              go_meet
              (refine ⟨rfl, ?_, ?_, ?_, ?_, ?_, ?_, ?_, ?_, ?_, ?_, ?_, ?_, ?_, ?_, ?_, ?_, ?_, ?_, ?_, ?_, ?_, ?_⟩ <;> first | assumption | (simp [go_sem, *]; done) | omega | (simp; omega) | (repeat' (first | (with_reducible exact Below.refl _ _) | (with_reducible assumption) | (with_reducible refine drewN_below ?_ _) | (with_reducible refine Below.drew ?_) | (with_reducible refine Below.alloc ?_ ?_ _) | (with_reducible refine Below.setCell ?_ ?_ _) | (simp; done) | omega | (simp; omega))))
            · skip
              have ei : ins = true := by rw [← hIns.out, ha, show decide (c4 ≤ 0) = true from decide_eq_true h4, show decide (c5 ≤ 0) = true from decide_eq_true h5]; rfl
              subst ei
              have t4 : decide (c4 ≤ 0) = true := decide_eq_true h4
              have t5 : decide (c5 ≤ 0) = true := decide_eq_true h5
              clear h4 h5
              have xG : w.heap.size < w5.heap.size + 1 := by omega
              have xA : w.heap.size + 1 < w5.heap.size + 1 := by omega
              have xB : w.heap.size + 2 < w5.heap.size + 1 := by omega
              have xX : w1.heap.size < w5.heap.size + 1 := by omega
              have xY : w2.heap.size < w5.heap.size + 1 := by omega
              have xN : w5.heap.size < w5.heap.size + 1 := by omega
              refine wp_region_held_drew (S := (fun w' => w'.cell? ⟨w.heap.size, 0, none⟩ = some (.string k) ∧ w'.cell? ⟨w.heap.size, 1, none⟩ = some (.int .i64 I) ∧ w'.cell? ⟨w.heap.size, 2, none⟩ = some (.int .i64 F) ∧ w'.cell? ⟨w.heap.size, 3, none⟩ = some (.string r) ∧ w'.cell? ⟨w.heap.size, 4, none⟩ = some (.string o) ∧ w'.cell? ⟨w.heap.size + 1, 0, none⟩ = some (.int .i64 an) ∧ w'.cell? ⟨w.heap.size + 1, 1, none⟩ = some (.int .i64 ad) ∧ w'.cell? ⟨w.heap.size + 2, 0, none⟩ = some (.int .i64 bn) ∧ w'.cell? ⟨w.heap.size + 2, 1, none⟩ = some (.int .i64 bd) ∧ w'.cell? ⟨w1.heap.size, 0, none⟩ = some (.int .i64 x1) ∧ w'.cell? ⟨w1.heap.size, 1, none⟩ = some (.int .i64 x2) ∧ w'.cell? ⟨w2.heap.size, 0, none⟩ = some (.int .i64 y1) ∧ w'.cell? ⟨w2.heap.size, 1, none⟩ = some (.int .i64 y2) ∧ w'.cell? ⟨w5.heap.size, 0, none⟩ = some (.int .i64 b1) ∧ w'.cell? ⟨w5.heap.size, 1, none⟩ = some (.int .i64 b2) ∧ w5.heap.size + 1 ≤ w'.heap.size ∧ Below w5.heap.size w5 w')) (by kernel_rfl) ?_ ?_
              · (refine ⟨?_, ?_, ?_, ?_, ?_, ?_, ?_, ?_, ?_, ?_, ?_, ?_, ?_, ?_, ?_, ?_, ?_⟩ <;> first | assumption | ((repeat' (first | (with_reducible exact Below.refl _ _) | (with_reducible assumption) | (with_reducible refine drewN_below ?_ _) | (with_reducible refine Below.drew ?_) | (with_reducible refine Below.alloc ?_ ?_ _) | (with_reducible refine Below.setCell ?_ ?_ _) | (simp; done) | omega | (simp; omega))); done) | (simp [*]; done) | (simp [go_sem, *]; done) | (simp; omega))
              intro hH0
              refine wpAnyH_take (i := 0) (v := ?_) rfl (by kernel_rfl) (by kernel_rfl) (by kernel_rfl) (fun _ _ _ h => h) (Or.inl ⟨by rfl, ?_⟩) (by assumption) ?_
              rotate_left
              focus (intro wq hSq; (try dsimp only at hSq); go_simp; first | done | (with_reducible rfl))
              (try simp only [Act.put, List.getElem_toArray, List.getElem_cons_zero, List.setIfInBounds_toArray, List.set_cons_zero, List.set_cons_succ])
              refine wpAnyH_ready (rs := [1]) (by kernel_rfl) (by simp) ?_
              refine AllReadyH.cons rfl (fun K hK => ?_) AllReadyH.nil
              rw [if_pos (by rfl)]
              go_simp
              refine (ris_any _ _ _).mono ?_
              rintro e wr ⟨rfl, hbr⟩
              obtain ⟨hcr, hfr, hzr, hBr⟩ := after (a := w5) (B := w5.heap.size) (w5.heap.size + 1) hbr (by first | (with_reducible assumption) | (simp; done) | omega | (simp; omega)) (by repeat' (first | (with_reducible exact Below.refl _ _) | (with_reducible assumption) | (with_reducible refine drewN_below ?_ _) | (with_reducible refine Below.drew ?_) | (with_reducible refine Below.alloc ?_ ?_ _) | (with_reducible refine Below.setCell ?_ ?_ _) | (simp; done) | omega | (simp; omega))) (by omega)
              have yG := Nat.lt_of_lt_of_le xG hzr
              have yA := Nat.lt_of_lt_of_le xA hzr
              have yB := Nat.lt_of_lt_of_le xB hzr
              have yX := Nat.lt_of_lt_of_le xX hzr
              have yY := Nat.lt_of_lt_of_le xY hzr
              have yN := Nat.lt_of_lt_of_le xN hzr
              rw [ha]
              dsimp only
              refine hK.out _ _ ?_ (fun hHeld => ?_)
              · (refine ⟨?_, ?_, ?_, ?_, ?_, ?_, ?_, ?_, ?_, ?_, ?_, ?_, ?_, ?_, ?_, ?_, ?_⟩ <;> first | assumption | ((repeat' (first | (with_reducible exact Below.refl _ _) | (with_reducible assumption) | (with_reducible refine drewN_below ?_ _) | (with_reducible refine Below.drew ?_) | (with_reducible refine Below.alloc ?_ ?_ _) | (with_reducible refine Below.setCell ?_ ?_ _) | (simp; done) | omega | (simp; omega))); done) | (simp [*]; done) | (simp [go_sem, *]; done) | (simp; omega))
              clear hK K
              (try simp only [Act.put, List.getElem_toArray, List.getElem_cons_succ, List.getElem_cons_zero, List.setIfInBounds_toArray, List.set_cons_zero, List.set_cons_succ])
              refine wpAnyH_take (i := 2) (v := ?_) rfl (by kernel_rfl) (by kernel_rfl) (by kernel_rfl) (fun _ _ _ h => h) (Or.inl ⟨by rfl, ?_⟩) (by assumption) ?_
              rotate_left
              focus (intro wq hSq; (try dsimp only at hSq); go_simp; first | done | (with_reducible rfl))
              (try simp only [Act.put, List.getElem_toArray, List.getElem_cons_succ, List.getElem_cons_zero, List.setIfInBounds_toArray, List.set_cons_zero, List.set_cons_succ])
              refine wpAnyH_take (i := 3) (v := ?_) rfl (by kernel_rfl) (by kernel_rfl) (by kernel_rfl) (fun _ _ _ h => h) (Or.inl ⟨by rfl, ?_⟩) (by assumption) ?_
              rotate_left
              focus (intro wq hSq; (try dsimp only at hSq); go_simp; first | done | (with_reducible rfl))
              (try simp only [Act.put, List.getElem_toArray, List.getElem_cons_succ, List.getElem_cons_zero, List.setIfInBounds_toArray, List.set_cons_zero, List.set_cons_succ])
              refine wpAnyH_take (i := 5) (v := ?_) rfl (by kernel_rfl) (by kernel_rfl) (by kernel_rfl) (fun _ _ _ h => h) (Or.inl ⟨by rfl, ?_⟩) (by assumption) ?_
              rotate_left
              focus (intro wq hSq; (try dsimp only at hSq); go_simp; first | done | (with_reducible rfl))
              (try simp only [Act.put, List.getElem_toArray, List.getElem_cons_succ, List.getElem_cons_zero, List.setIfInBounds_toArray, List.set_cons_zero, List.set_cons_succ])
              refine wpAnyH_ready (rs := [4]) (by kernel_rfl) (by simp) ?_
              refine AllReadyH.cons rfl (fun K hK => ?_) AllReadyH.nil
              rw [if_pos (by rfl)]
              go_simp
              refine (Least_any _ _ _ _ _ hI hF _).mono ?_
              rintro e wr ⟨rfl, hbr⟩
              obtain ⟨hcr, hfr, hzr, hBr⟩ := after (a := w5) (B := w5.heap.size) (w5.heap.size + 1) hbr (by first | (with_reducible assumption) | (simp; done) | omega | (simp; omega)) (by repeat' (first | (with_reducible exact Below.refl _ _) | (with_reducible assumption) | (with_reducible refine drewN_below ?_ _) | (with_reducible refine Below.drew ?_) | (with_reducible refine Below.alloc ?_ ?_ _) | (with_reducible refine Below.setCell ?_ ?_ _) | (simp; done) | omega | (simp; omega))) (by omega)
              have yG := Nat.lt_of_lt_of_le xG hzr
              have yA := Nat.lt_of_lt_of_le xA hzr
              have yB := Nat.lt_of_lt_of_le xB hzr
              have yX := Nat.lt_of_lt_of_le xX hzr
              have yY := Nat.lt_of_lt_of_le xY hzr
              have yN := Nat.lt_of_lt_of_le xN hzr
              rw [hLs.out]
              dsimp only
              refine hK.out _ _ ?_ (fun hHeld => ?_)
              · (refine ⟨?_, ?_, ?_, ?_, ?_, ?_, ?_, ?_, ?_, ?_, ?_, ?_, ?_, ?_, ?_, ?_, ?_⟩ <;> first | assumption | ((repeat' (first | (with_reducible exact Below.refl _ _) | (with_reducible assumption) | (with_reducible refine drewN_below ?_ _) | (with_reducible refine Below.drew ?_) | (with_reducible refine Below.alloc ?_ ?_ _) | (with_reducible refine Below.setCell ?_ ?_ _) | (simp; done) | omega | (simp; omega))); done) | (simp [*]; done) | (simp [go_sem, *]; done) | (simp; omega))
              clear hK K
              (try simp only [Act.put, List.getElem_toArray, List.getElem_cons_succ, List.getElem_cons_zero, List.setIfInBounds_toArray, List.set_cons_zero, List.set_cons_succ])
              refine wpAnyH_ready (rs := [6]) (by kernel_rfl) (by simp) ?_
              refine AllReadyH.cons rfl (fun K hK => ?_) AllReadyH.nil
              rw [if_pos (by rfl)]
              go_simp
              refine (rcmp_any _ _ _ _ _).mono ?_
              rintro e wr ⟨rfl, hbr⟩
              obtain ⟨hcr, hfr, hzr, hBr⟩ := after (a := w5) (B := w5.heap.size) (w5.heap.size + 1) hbr (by first | (with_reducible assumption) | (simp; done) | omega | (simp; omega)) (by repeat' (first | (with_reducible exact Below.refl _ _) | (with_reducible assumption) | (with_reducible refine drewN_below ?_ _) | (with_reducible refine Below.drew ?_) | (with_reducible refine Below.alloc ?_ ?_ _) | (with_reducible refine Below.setCell ?_ ?_ _) | (simp; done) | omega | (simp; omega))) (by omega)
              have yG := Nat.lt_of_lt_of_le xG hzr
              have yA := Nat.lt_of_lt_of_le xA hzr
              have yB := Nat.lt_of_lt_of_le xB hzr
              have yX := Nat.lt_of_lt_of_le xX hzr
              have yY := Nat.lt_of_lt_of_le xY hzr
              have yN := Nat.lt_of_lt_of_le xN hzr
              rw [hC4.out]
              dsimp only
              refine hK.out _ _ ?_ (fun hHeld => ?_)
              · (refine ⟨?_, ?_, ?_, ?_, ?_, ?_, ?_, ?_, ?_, ?_, ?_, ?_, ?_, ?_, ?_, ?_, ?_⟩ <;> first | assumption | ((repeat' (first | (with_reducible exact Below.refl _ _) | (with_reducible assumption) | (with_reducible refine drewN_below ?_ _) | (with_reducible refine Below.drew ?_) | (with_reducible refine Below.alloc ?_ ?_ _) | (with_reducible refine Below.setCell ?_ ?_ _) | (simp; done) | omega | (simp; omega))); done) | (simp [*]; done) | (simp [go_sem, *]; done) | (simp; omega))
              clear hK K
              (try simp only [Act.put, List.getElem_toArray, List.getElem_cons_succ, List.getElem_cons_zero, List.setIfInBounds_toArray, List.set_cons_zero, List.set_cons_succ])
              refine wpAnyH_take (i := 7) (v := ?_) rfl (by kernel_rfl) (by kernel_rfl) (by kernel_rfl) (fun _ _ _ h => h) (Or.inl ⟨by rfl, ?_⟩) (by assumption) ?_
              rotate_left
              focus (intro wq hSq; (try dsimp only at hSq); go_simp; first | done | (with_reducible rfl))
              (try simp only [Act.put, List.getElem_toArray, List.getElem_cons_succ, List.getElem_cons_zero, List.setIfInBounds_toArray, List.set_cons_zero, List.set_cons_succ])
              refine wpAnyH_take (i := 8) (v := ?_) rfl (by kernel_rfl) (by kernel_rfl) (by kernel_rfl) (fun _ _ _ h => h) (Or.inl ⟨by rfl, ?_⟩) (by assumption) ?_
              rotate_left
              focus (intro wq hSq; (try dsimp only at hSq); go_simp; first | done | (with_reducible rfl))
              (try simp only [Act.put, List.getElem_toArray, List.getElem_cons_succ, List.getElem_cons_zero, List.setIfInBounds_toArray, List.set_cons_zero, List.set_cons_succ])
              refine wpAnyH_take (i := 9) (v := ?_) rfl (by kernel_rfl) (by kernel_rfl) (by kernel_rfl) (fun _ _ _ h => h) (Or.inl ⟨by rfl, ?_⟩) (by assumption) ?_
              rotate_left
              focus (intro wq hSq; (try dsimp only at hSq); go_simp; first | done | (with_reducible rfl))
              (try simp only [Act.put, List.getElem_toArray, List.getElem_cons_succ, List.getElem_cons_zero, List.setIfInBounds_toArray, List.set_cons_zero, List.set_cons_succ])
              refine wpAnyH_take (i := 10) (v := ?_) rfl (by kernel_rfl) (by kernel_rfl) (by kernel_rfl) (fun _ _ _ h => h) (Or.inl ⟨by rfl, ?_⟩) (by assumption) ?_
              rotate_left
              focus (intro wq hSq; (try dsimp only at hSq); go_simp; first | done | (with_reducible rfl))
              (try simp only [Act.put, List.getElem_toArray, List.getElem_cons_succ, List.getElem_cons_zero, List.setIfInBounds_toArray, List.set_cons_zero, List.set_cons_succ])
              refine wpAnyH_take (i := 11) (v := ?_) rfl (by kernel_rfl) (by kernel_rfl) (by kernel_rfl) (fun _ _ _ h => h) (Or.inl ⟨by rfl, ?_⟩) (by assumption) ?_
              rotate_left
              focus (intro wq hSq; (try dsimp only at hSq); go_simp; first | done | (with_reducible rfl))
              (try simp only [Act.put, List.getElem_toArray, List.getElem_cons_succ, List.getElem_cons_zero, List.setIfInBounds_toArray, List.set_cons_zero, List.set_cons_succ])
              refine wpAnyH_ready (rs := [12]) (by kernel_rfl) (by simp) ?_
              refine AllReadyH.cons rfl (fun K hK => ?_) AllReadyH.nil
              rw [if_pos (by rfl)]
              go_simp
              refine (Greatest_any _ _ _ _ _ hI hF _).mono ?_
              rintro e wr ⟨rfl, hbr⟩
              obtain ⟨hcr, hfr, hzr, hBr⟩ := after (a := w5) (B := w5.heap.size) (w5.heap.size + 1) hbr (by first | (with_reducible assumption) | (simp; done) | omega | (simp; omega)) (by repeat' (first | (with_reducible exact Below.refl _ _) | (with_reducible assumption) | (with_reducible refine drewN_below ?_ _) | (with_reducible refine Below.drew ?_) | (with_reducible refine Below.alloc ?_ ?_ _) | (with_reducible refine Below.setCell ?_ ?_ _) | (simp; done) | omega | (simp; omega))) (by omega)
              have yG := Nat.lt_of_lt_of_le xG hzr
              have yA := Nat.lt_of_lt_of_le xA hzr
              have yB := Nat.lt_of_lt_of_le xB hzr
              have yX := Nat.lt_of_lt_of_le xX hzr
              have yY := Nat.lt_of_lt_of_le xY hzr
              have yN := Nat.lt_of_lt_of_le xN hzr
              rw [hGr.out]
              dsimp only
              refine hK.out _ _ ?_ (fun hHeld => ?_)
              · (refine ⟨?_, ?_, ?_, ?_, ?_, ?_, ?_, ?_, ?_, ?_, ?_, ?_, ?_, ?_, ?_, ?_, ?_⟩ <;> first | assumption | ((repeat' (first | (with_reducible exact Below.refl _ _) | (with_reducible assumption) | (with_reducible refine drewN_below ?_ _) | (with_reducible refine Below.drew ?_) | (with_reducible refine Below.alloc ?_ ?_ _) | (with_reducible refine Below.setCell ?_ ?_ _) | (simp; done) | omega | (simp; omega))); done) | (simp [*]; done) | (simp [go_sem, *]; done) | (simp; omega))
              clear hK K
              (try simp only [Act.put, List.getElem_toArray, List.getElem_cons_succ, List.getElem_cons_zero, List.setIfInBounds_toArray, List.set_cons_zero, List.set_cons_succ])
              refine wpAnyH_ready (rs := [13]) (by kernel_rfl) (by simp) ?_
              refine AllReadyH.cons rfl (fun K hK => ?_) AllReadyH.nil
              rw [if_pos (by rfl)]
              go_simp
              refine (rcmp_any _ _ _ _ _).mono ?_
              rintro e wr ⟨rfl, hbr⟩
              obtain ⟨hcr, hfr, hzr, hBr⟩ := after (a := w5) (B := w5.heap.size) (w5.heap.size + 1) hbr (by first | (with_reducible assumption) | (simp; done) | omega | (simp; omega)) (by repeat' (first | (with_reducible exact Below.refl _ _) | (with_reducible assumption) | (with_reducible refine drewN_below ?_ _) | (with_reducible refine Below.drew ?_) | (with_reducible refine Below.alloc ?_ ?_ _) | (with_reducible refine Below.setCell ?_ ?_ _) | (simp; done) | omega | (simp; omega))) (by omega)
              have yG := Nat.lt_of_lt_of_le xG hzr
              have yA := Nat.lt_of_lt_of_le xA hzr
              have yB := Nat.lt_of_lt_of_le xB hzr
              have yX := Nat.lt_of_lt_of_le xX hzr
              have yY := Nat.lt_of_lt_of_le xY hzr
              have yN := Nat.lt_of_lt_of_le xN hzr
              rw [hC5.out]
              dsimp only
              refine hK.out _ _ ?_ (fun hHeld => ?_)
              · (refine ⟨?_, ?_, ?_, ?_, ?_, ?_, ?_, ?_, ?_, ?_, ?_, ?_, ?_, ?_, ?_, ?_, ?_⟩ <;> first | assumption | ((repeat' (first | (with_reducible exact Below.refl _ _) | (with_reducible assumption) | (with_reducible refine drewN_below ?_ _) | (with_reducible refine Below.drew ?_) | (with_reducible refine Below.alloc ?_ ?_ _) | (with_reducible refine Below.setCell ?_ ?_ _) | (simp; done) | omega | (simp; omega))); done) | (simp [*]; done) | (simp [go_sem, *]; done) | (simp; omega))
              clear hK K
              (try simp only [Act.put, List.getElem_toArray, List.getElem_cons_succ, List.getElem_cons_zero, List.setIfInBounds_toArray, List.set_cons_zero, List.set_cons_succ])
              refine wpAnyH_take (i := 14) (v := ?_) rfl (by kernel_rfl) (by kernel_rfl) (by kernel_rfl) (fun _ _ _ h => h) (Or.inl ⟨by rfl, ?_⟩) (by assumption) ?_
              rotate_left
              focus (intro wq hSq; (try dsimp only at hSq); go_simp; first | done | (with_reducible rfl))
              (try simp only [Act.put, List.getElem_toArray, List.getElem_cons_succ, List.getElem_cons_zero, List.setIfInBounds_toArray, List.set_cons_zero, List.set_cons_succ])
              refine wpAnyH_take (i := 15) (v := ?_) rfl (by kernel_rfl) (by kernel_rfl) (by kernel_rfl) (fun _ _ _ h => h) (Or.inl ⟨by rfl, ?_⟩) (by assumption) ?_
              rotate_left
              focus (intro wq hSq; (try dsimp only at hSq); go_simp; first | done | (with_reducible rfl))
              (try simp only [Act.put, List.getElem_toArray, List.getElem_cons_succ, List.getElem_cons_zero, List.setIfInBounds_toArray, List.set_cons_zero, List.set_cons_succ])
              refine wpAnyH_take (i := 16) (v := ?_) rfl (by kernel_rfl) (by kernel_rfl) (by kernel_rfl) (fun _ _ _ h => h) (Or.inl ⟨by rfl, ?_⟩) (by assumption) ?_
              rotate_left
              focus (intro wq hSq; (try dsimp only at hSq); go_simp; first | done | (with_reducible rfl))
              (try simp only [Act.put, List.getElem_toArray, List.getElem_cons_succ, List.getElem_cons_zero, List.setIfInBounds_toArray, List.set_cons_zero, List.set_cons_succ])
              refine wpAnyH_done (by kernel_rfl) ?_ _
              obtain ⟨s0, s1, s2, s3, s4, s5, s6, s7, s8, s9, s10, s11, s12, s13, s14, s15, s16⟩ := (by assumption : wr.cell? ⟨w.heap.size, 0, none⟩ = some (.string k) ∧ wr.cell? ⟨w.heap.size, 1, none⟩ = some (.int .i64 I) ∧ wr.cell? ⟨w.heap.size, 2, none⟩ = some (.int .i64 F) ∧ wr.cell? ⟨w.heap.size, 3, none⟩ = some (.string r) ∧ wr.cell? ⟨w.heap.size, 4, none⟩ = some (.string o) ∧ wr.cell? ⟨w.heap.size + 1, 0, none⟩ = some (.int .i64 an) ∧ wr.cell? ⟨w.heap.size + 1, 1, none⟩ = some (.int .i64 ad) ∧ wr.cell? ⟨w.heap.size + 2, 0, none⟩ = some (.int .i64 bn) ∧ wr.cell? ⟨w.heap.size + 2, 1, none⟩ = some (.int .i64 bd) ∧ wr.cell? ⟨w1.heap.size, 0, none⟩ = some (.int .i64 x1) ∧ wr.cell? ⟨w1.heap.size, 1, none⟩ = some (.int .i64 x2) ∧ wr.cell? ⟨w2.heap.size, 0, none⟩ = some (.int .i64 y1) ∧ wr.cell? ⟨w2.heap.size, 1, none⟩ = some (.int .i64 y2) ∧ wr.cell? ⟨w5.heap.size, 0, none⟩ = some (.int .i64 b1) ∧ wr.cell? ⟨w5.heap.size, 1, none⟩ = some (.int .i64 b2) ∧ w5.heap.size + 1 ≤ wr.heap.size ∧ Below w5.heap.size w5 wr)
              have cG0w6 := s0
              have cG1w6 := s1
              have cG2w6 := s2
              have cG3w6 := s3
              have cG4w6 := s4
              have cA0w6 := s5
              have cA1w6 := s6
              have cB0w6 := s7
              have cB1w6 := s8
              have cX0w6 := s9
              have cX1w6 := s10
              have cY0w6 := s11
              have cY1w6 := s12
              have cN0w6 := s13
              have cN1w6 := s14
              have bGw6 : w.heap.size < wr.heap.size := Nat.lt_of_lt_of_le xG s15
              have dGw6 : w.heap.size < wr.heap.size + 1 := Nat.lt_succ_of_lt bGw6
              have bAw6 : w.heap.size + 1 < wr.heap.size := Nat.lt_of_lt_of_le xA s15
              have dAw6 : w.heap.size + 1 < wr.heap.size + 1 := Nat.lt_succ_of_lt bAw6
              have bBw6 : w.heap.size + 2 < wr.heap.size := Nat.lt_of_lt_of_le xB s15
              have dBw6 : w.heap.size + 2 < wr.heap.size + 1 := Nat.lt_succ_of_lt bBw6
              have bXw6 : w1.heap.size < wr.heap.size := Nat.lt_of_lt_of_le xX s15
              have dXw6 : w1.heap.size < wr.heap.size + 1 := Nat.lt_succ_of_lt bXw6
              have bYw6 : w2.heap.size < wr.heap.size := Nat.lt_of_lt_of_le xY s15
              have dYw6 : w2.heap.size < wr.heap.size + 1 := Nat.lt_succ_of_lt bYw6
              have bNw6 : w5.heap.size < wr.heap.size := Nat.lt_of_lt_of_le xN s15
              have dNw6 : w5.heap.size < wr.heap.size + 1 := Nat.lt_succ_of_lt bNw6
              have hBw6 : Below w.heap.size w wr := Below.trans hBw5 (s16.mono hBw5.size)
              have zw6 : w.heap.size ≤ wr.heap.size := hBw6.size
              clear s0 s1 s2 s3 s4 s5 s6 s7 s8 s9 s10 s11 s12 s13 s14 s15 s16 xG xA xB xX xY xN hcr hfr hzr hBr hbr zw5 hBw5 dYw5 bYw5 cY1w5 cY0w5 dXw5 bXw5 cX1w5 cX0w5 dBw5 bBw5 cB1w5 cB0w5 dAw5 bAw5 cA1w5 cA0w5 dGw5 bGw5 cG4w5 cG3w5 cG2w5 cG1w5 cG0w5
              repeat (clear hcr hfr hzr hBr hbr)
              skip
              obtain ⟨w6, ew6⟩ : ∃ x, x = wr := ⟨_, rfl⟩
              subst ew6
              go_wp2
              go_meet
              (refine ⟨rfl, ?_, ?_, ?_, ?_, ?_, ?_, ?_, ?_, ?_, ?_, ?_, ?_, ?_, ?_, ?_, ?_, ?_, ?_, ?_, ?_, ?_, ?_⟩ <;> first | assumption | (simp [go_sem, *]; done) | omega | (simp; omega) | (repeat' (first | (with_reducible exact Below.refl _ _) | (with_reducible assumption) | (with_reducible refine drewN_below ?_ _) | (with_reducible refine Below.drew ?_) | (with_reducible refine Below.alloc ?_ ?_ _) | (with_reducible refine Below.setCell ?_ ?_ _) | (simp; done) | omega | (simp; omega))))
      case rest =>
        obtain ⟨rfl, cG0w6, cG1w6, cG2w6, cG3w6, cG4w6, bGw6, cA0w6, cA1w6, bAw6, cB0w6, cB1w6, bBw6, cX0w6, cX1w6, bXw6, cY0w6, cY1w6, bYw6, cN0w6, cN1w6, bNw6, hBw6⟩ := hcut
        have dGw6 : w.heap.size < wc.heap.size + 1 := Nat.lt_succ_of_lt bGw6
        have dAw6 : w.heap.size + 1 < wc.heap.size + 1 := Nat.lt_succ_of_lt bAw6
        have dBw6 : w.heap.size + 2 < wc.heap.size + 1 := Nat.lt_succ_of_lt bBw6
        have dXw6 : w1.heap.size < wc.heap.size + 1 := Nat.lt_succ_of_lt bXw6
        have dYw6 : w2.heap.size < wc.heap.size + 1 := Nat.lt_succ_of_lt bYw6
        have dNw6 : w5.heap.size < wc.heap.size + 1 := Nat.lt_succ_of_lt bNw6
        have zw6 : w.heap.size ≤ wc.heap.size := hBw6.size
        obtain ⟨w6, ew6⟩ : ∃ x, x = wc := ⟨_, rfl⟩
        subst ew6
        clear zw5 hBw5 dYw5 bYw5 cY1w5 cY0w5 dXw5 bXw5 cX1w5 cX0w5 dBw5 bBw5 cB1w5 cB0w5 dAw5 bAw5 cA1w5 cA0w5 dGw5 bGw5 cG4w5 cG3w5 cG2w5 cG1w5 cG0w5
        by_cases hbe : be = 0
        rotate_left
        · skip
          have t0 : (be == 0) = false := by rw [beq_eq_false_iff_ne]; exact hbe
          clear hbe
          go_wp2_with fail
          refine (awake_any _).mono ?_
          rintro e w7 ⟨rfl, hw7⟩
          have hmw7 : Below w6.heap.size w6 w7 := on_below hw7 (by repeat' (first | (with_reducible exact Below.refl _ _) | (with_reducible assumption) | (with_reducible refine drewN_below ?_ _) | (with_reducible refine Below.drew ?_) | (with_reducible refine Below.alloc ?_ ?_ _) | (with_reducible refine Below.setCell ?_ ?_ _) | (simp; done) | omega | (simp; omega))) (by first | (with_reducible assumption) | (simp; done) | omega | (simp; omega))
          have cG0w7 := (hmw7.cell (p := ⟨w.heap.size, 0, none⟩) bGw6).trans cG0w6
          have cG1w7 := (hmw7.cell (p := ⟨w.heap.size, 1, none⟩) bGw6).trans cG1w6
          have cG2w7 := (hmw7.cell (p := ⟨w.heap.size, 2, none⟩) bGw6).trans cG2w6
          have cG3w7 := (hmw7.cell (p := ⟨w.heap.size, 3, none⟩) bGw6).trans cG3w6
          have cG4w7 := (hmw7.cell (p := ⟨w.heap.size, 4, none⟩) bGw6).trans cG4w6
          have bGw7 : w.heap.size < w7.heap.size := Nat.lt_of_lt_of_le bGw6 hmw7.size
          have dGw7 : w.heap.size < w7.heap.size + 1 := Nat.lt_succ_of_lt bGw7
          have cA0w7 := (hmw7.cell (p := ⟨w.heap.size + 1, 0, none⟩) bAw6).trans cA0w6
          have cA1w7 := (hmw7.cell (p := ⟨w.heap.size + 1, 1, none⟩) bAw6).trans cA1w6
          have bAw7 : w.heap.size + 1 < w7.heap.size := Nat.lt_of_lt_of_le bAw6 hmw7.size
          have dAw7 : w.heap.size + 1 < w7.heap.size + 1 := Nat.lt_succ_of_lt bAw7
          have cB0w7 := (hmw7.cell (p := ⟨w.heap.size + 2, 0, none⟩) bBw6).trans cB0w6
          have cB1w7 := (hmw7.cell (p := ⟨w.heap.size + 2, 1, none⟩) bBw6).trans cB1w6
          have bBw7 : w.heap.size + 2 < w7.heap.size := Nat.lt_of_lt_of_le bBw6 hmw7.size
          have dBw7 : w.heap.size + 2 < w7.heap.size + 1 := Nat.lt_succ_of_lt bBw7
          have cX0w7 := (hmw7.cell (p := ⟨w1.heap.size, 0, none⟩) bXw6).trans cX0w6
          have cX1w7 := (hmw7.cell (p := ⟨w1.heap.size, 1, none⟩) bXw6).trans cX1w6
          have bXw7 : w1.heap.size < w7.heap.size := Nat.lt_of_lt_of_le bXw6 hmw7.size
          have dXw7 : w1.heap.size < w7.heap.size + 1 := Nat.lt_succ_of_lt bXw7
          have cY0w7 := (hmw7.cell (p := ⟨w2.heap.size, 0, none⟩) bYw6).trans cY0w6
          have cY1w7 := (hmw7.cell (p := ⟨w2.heap.size, 1, none⟩) bYw6).trans cY1w6
          have bYw7 : w2.heap.size < w7.heap.size := Nat.lt_of_lt_of_le bYw6 hmw7.size
          have dYw7 : w2.heap.size < w7.heap.size + 1 := Nat.lt_succ_of_lt bYw7
          have cN0w7 := (hmw7.cell (p := ⟨w5.heap.size, 0, none⟩) bNw6).trans cN0w6
          have cN1w7 := (hmw7.cell (p := ⟨w5.heap.size, 1, none⟩) bNw6).trans cN1w6
          have bNw7 : w5.heap.size < w7.heap.size := Nat.lt_of_lt_of_le bNw6 hmw7.size
          have dNw7 : w5.heap.size < w7.heap.size + 1 := Nat.lt_succ_of_lt bNw7
          have hBw7 : Below w.heap.size w w7 := Below.trans hBw6 (hmw7.mono hBw6.size)
          have zw7 : w.heap.size ≤ w7.heap.size := hBw7.size
          clear hmw7 hw7 zw6 dNw6 dYw6 dXw6 dBw6 dAw6 dGw6 hBw6 bNw6 cN1w6 cN0w6 bYw6 cY1w6 cY0w6 bXw6 cX1w6 cX0w6 bBw6 cB1w6 cB0w6 bAw6 cA1w6 cA0w6 bGw6 cG4w6 cG3w6 cG2w6 cG1w6 cG0w6
          go_wp2
          go_ret
          exact ⟨rfl, (by repeat' (first | (with_reducible exact Below.refl _ _) | (with_reducible assumption) | (with_reducible refine drewN_below ?_ _) | (with_reducible refine Below.drew ?_) | (with_reducible refine Below.alloc ?_ ?_ _) | (with_reducible refine Below.setCell ?_ ?_ _) | (simp; done) | omega | (simp; omega)))⟩
        have t0 : (be == 0) = true := by rw [beq_iff_eq]; exact hbe
        cases hin : ins
        · skip
          clear hbe
          go_wp2_with fail
          refine (awake_any _).mono ?_
          rintro e w7 ⟨rfl, hw7⟩
          have hmw7 : Below w6.heap.size w6 w7 := on_below hw7 (by repeat' (first | (with_reducible exact Below.refl _ _) | (with_reducible assumption) | (with_reducible refine drewN_below ?_ _) | (with_reducible refine Below.drew ?_) | (with_reducible refine Below.alloc ?_ ?_ _) | (with_reducible refine Below.setCell ?_ ?_ _) | (simp; done) | omega | (simp; omega))) (by first | (with_reducible assumption) | (simp; done) | omega | (simp; omega))
          have cG0w7 := (hmw7.cell (p := ⟨w.heap.size, 0, none⟩) bGw6).trans cG0w6
          have cG1w7 := (hmw7.cell (p := ⟨w.heap.size, 1, none⟩) bGw6).trans cG1w6
          have cG2w7 := (hmw7.cell (p := ⟨w.heap.size, 2, none⟩) bGw6).trans cG2w6
          have cG3w7 := (hmw7.cell (p := ⟨w.heap.size, 3, none⟩) bGw6).trans cG3w6
          have cG4w7 := (hmw7.cell (p := ⟨w.heap.size, 4, none⟩) bGw6).trans cG4w6
          have bGw7 : w.heap.size < w7.heap.size := Nat.lt_of_lt_of_le bGw6 hmw7.size
          have dGw7 : w.heap.size < w7.heap.size + 1 := Nat.lt_succ_of_lt bGw7
          have cA0w7 := (hmw7.cell (p := ⟨w.heap.size + 1, 0, none⟩) bAw6).trans cA0w6
          have cA1w7 := (hmw7.cell (p := ⟨w.heap.size + 1, 1, none⟩) bAw6).trans cA1w6
          have bAw7 : w.heap.size + 1 < w7.heap.size := Nat.lt_of_lt_of_le bAw6 hmw7.size
          have dAw7 : w.heap.size + 1 < w7.heap.size + 1 := Nat.lt_succ_of_lt bAw7
          have cB0w7 := (hmw7.cell (p := ⟨w.heap.size + 2, 0, none⟩) bBw6).trans cB0w6
          have cB1w7 := (hmw7.cell (p := ⟨w.heap.size + 2, 1, none⟩) bBw6).trans cB1w6
          have bBw7 : w.heap.size + 2 < w7.heap.size := Nat.lt_of_lt_of_le bBw6 hmw7.size
          have dBw7 : w.heap.size + 2 < w7.heap.size + 1 := Nat.lt_succ_of_lt bBw7
          have cX0w7 := (hmw7.cell (p := ⟨w1.heap.size, 0, none⟩) bXw6).trans cX0w6
          have cX1w7 := (hmw7.cell (p := ⟨w1.heap.size, 1, none⟩) bXw6).trans cX1w6
          have bXw7 : w1.heap.size < w7.heap.size := Nat.lt_of_lt_of_le bXw6 hmw7.size
          have dXw7 : w1.heap.size < w7.heap.size + 1 := Nat.lt_succ_of_lt bXw7
          have cY0w7 := (hmw7.cell (p := ⟨w2.heap.size, 0, none⟩) bYw6).trans cY0w6
          have cY1w7 := (hmw7.cell (p := ⟨w2.heap.size, 1, none⟩) bYw6).trans cY1w6
          have bYw7 : w2.heap.size < w7.heap.size := Nat.lt_of_lt_of_le bYw6 hmw7.size
          have dYw7 : w2.heap.size < w7.heap.size + 1 := Nat.lt_succ_of_lt bYw7
          have cN0w7 := (hmw7.cell (p := ⟨w5.heap.size, 0, none⟩) bNw6).trans cN0w6
          have cN1w7 := (hmw7.cell (p := ⟨w5.heap.size, 1, none⟩) bNw6).trans cN1w6
          have bNw7 : w5.heap.size < w7.heap.size := Nat.lt_of_lt_of_le bNw6 hmw7.size
          have dNw7 : w5.heap.size < w7.heap.size + 1 := Nat.lt_succ_of_lt bNw7
          have hBw7 : Below w.heap.size w w7 := Below.trans hBw6 (hmw7.mono hBw6.size)
          have zw7 : w.heap.size ≤ w7.heap.size := hBw7.size
          clear hmw7 hw7 zw6 dNw6 dYw6 dXw6 dBw6 dAw6 dGw6 hBw6 bNw6 cN1w6 cN0w6 bYw6 cY1w6 cY0w6 bXw6 cX1w6 cX0w6 bBw6 cB1w6 cB0w6 bAw6 cA1w6 cA0w6 bGw6 cG4w6 cG3w6 cG2w6 cG1w6 cG0w6
          go_wp2
          go_ret
          exact ⟨rfl, (by repeat' (first | (with_reducible exact Below.refl _ _) | (with_reducible assumption) | (with_reducible refine drewN_below ?_ _) | (with_reducible refine Below.drew ?_) | (with_reducible refine Below.alloc ?_ ?_ _) | (with_reducible refine Below.setCell ?_ ?_ _) | (simp; done) | omega | (simp; omega)))⟩
        · cases hqb : Q.isq b1 b2
          · skip
            clear hbe
            go_wp2_with fail
            refine (ris_any _ _ _).mono ?_
            rintro e w7 ⟨rfl, hw7⟩
            have hmw7 : Below w6.heap.size w6 w7 := on_below hw7 (by repeat' (first | (with_reducible exact Below.refl _ _) | (with_reducible assumption) | (with_reducible refine drewN_below ?_ _) | (with_reducible refine Below.drew ?_) | (with_reducible refine Below.alloc ?_ ?_ _) | (with_reducible refine Below.setCell ?_ ?_ _) | (simp; done) | omega | (simp; omega))) (by first | (with_reducible assumption) | (simp; done) | omega | (simp; omega))
            have cG0w7 := (hmw7.cell (p := ⟨w.heap.size, 0, none⟩) bGw6).trans cG0w6
            have cG1w7 := (hmw7.cell (p := ⟨w.heap.size, 1, none⟩) bGw6).trans cG1w6
            have cG2w7 := (hmw7.cell (p := ⟨w.heap.size, 2, none⟩) bGw6).trans cG2w6
            have cG3w7 := (hmw7.cell (p := ⟨w.heap.size, 3, none⟩) bGw6).trans cG3w6
            have cG4w7 := (hmw7.cell (p := ⟨w.heap.size, 4, none⟩) bGw6).trans cG4w6
            have bGw7 : w.heap.size < w7.heap.size := Nat.lt_of_lt_of_le bGw6 hmw7.size
            have dGw7 : w.heap.size < w7.heap.size + 1 := Nat.lt_succ_of_lt bGw7
            have cA0w7 := (hmw7.cell (p := ⟨w.heap.size + 1, 0, none⟩) bAw6).trans cA0w6
            have cA1w7 := (hmw7.cell (p := ⟨w.heap.size + 1, 1, none⟩) bAw6).trans cA1w6
            have bAw7 : w.heap.size + 1 < w7.heap.size := Nat.lt_of_lt_of_le bAw6 hmw7.size
            have dAw7 : w.heap.size + 1 < w7.heap.size + 1 := Nat.lt_succ_of_lt bAw7
            have cB0w7 := (hmw7.cell (p := ⟨w.heap.size + 2, 0, none⟩) bBw6).trans cB0w6
            have cB1w7 := (hmw7.cell (p := ⟨w.heap.size + 2, 1, none⟩) bBw6).trans cB1w6
            have bBw7 : w.heap.size + 2 < w7.heap.size := Nat.lt_of_lt_of_le bBw6 hmw7.size
            have dBw7 : w.heap.size + 2 < w7.heap.size + 1 := Nat.lt_succ_of_lt bBw7
            have cX0w7 := (hmw7.cell (p := ⟨w1.heap.size, 0, none⟩) bXw6).trans cX0w6
            have cX1w7 := (hmw7.cell (p := ⟨w1.heap.size, 1, none⟩) bXw6).trans cX1w6
            have bXw7 : w1.heap.size < w7.heap.size := Nat.lt_of_lt_of_le bXw6 hmw7.size
            have dXw7 : w1.heap.size < w7.heap.size + 1 := Nat.lt_succ_of_lt bXw7
            have cY0w7 := (hmw7.cell (p := ⟨w2.heap.size, 0, none⟩) bYw6).trans cY0w6
            have cY1w7 := (hmw7.cell (p := ⟨w2.heap.size, 1, none⟩) bYw6).trans cY1w6
            have bYw7 : w2.heap.size < w7.heap.size := Nat.lt_of_lt_of_le bYw6 hmw7.size
            have dYw7 : w2.heap.size < w7.heap.size + 1 := Nat.lt_succ_of_lt bYw7
            have cN0w7 := (hmw7.cell (p := ⟨w5.heap.size, 0, none⟩) bNw6).trans cN0w6
            have cN1w7 := (hmw7.cell (p := ⟨w5.heap.size, 1, none⟩) bNw6).trans cN1w6
            have bNw7 : w5.heap.size < w7.heap.size := Nat.lt_of_lt_of_le bNw6 hmw7.size
            have dNw7 : w5.heap.size < w7.heap.size + 1 := Nat.lt_succ_of_lt bNw7
            have hBw7 : Below w.heap.size w w7 := Below.trans hBw6 (hmw7.mono hBw6.size)
            have zw7 : w.heap.size ≤ w7.heap.size := hBw7.size
            clear hmw7 hw7 zw6 dNw6 dYw6 dXw6 dBw6 dAw6 dGw6 hBw6 bNw6 cN1w6 cN0w6 bYw6 cY1w6 cY0w6 bXw6 cX1w6 cX0w6 bBw6 cB1w6 cB0w6 bAw6 cA1w6 cA0w6 bGw6 cG4w6 cG3w6 cG2w6 cG1w6 cG0w6
            rw [hqb]
            go_wp2_with fail
            refine (awake_any _).mono ?_
            rintro e w8 ⟨rfl, hw8⟩
            have hmw8 : Below w7.heap.size w7 w8 := on_below hw8 (by repeat' (first | (with_reducible exact Below.refl _ _) | (with_reducible assumption) | (with_reducible refine drewN_below ?_ _) | (with_reducible refine Below.drew ?_) | (with_reducible refine Below.alloc ?_ ?_ _) | (with_reducible refine Below.setCell ?_ ?_ _) | (simp; done) | omega | (simp; omega))) (by first | (with_reducible assumption) | (simp; done) | omega | (simp; omega))
            have cG0w8 := (hmw8.cell (p := ⟨w.heap.size, 0, none⟩) bGw7).trans cG0w7
            have cG1w8 := (hmw8.cell (p := ⟨w.heap.size, 1, none⟩) bGw7).trans cG1w7
            have cG2w8 := (hmw8.cell (p := ⟨w.heap.size, 2, none⟩) bGw7).trans cG2w7
            have cG3w8 := (hmw8.cell (p := ⟨w.heap.size, 3, none⟩) bGw7).trans cG3w7
            have cG4w8 := (hmw8.cell (p := ⟨w.heap.size, 4, none⟩) bGw7).trans cG4w7
            have bGw8 : w.heap.size < w8.heap.size := Nat.lt_of_lt_of_le bGw7 hmw8.size
            have dGw8 : w.heap.size < w8.heap.size + 1 := Nat.lt_succ_of_lt bGw8
            have cA0w8 := (hmw8.cell (p := ⟨w.heap.size + 1, 0, none⟩) bAw7).trans cA0w7
            have cA1w8 := (hmw8.cell (p := ⟨w.heap.size + 1, 1, none⟩) bAw7).trans cA1w7
            have bAw8 : w.heap.size + 1 < w8.heap.size := Nat.lt_of_lt_of_le bAw7 hmw8.size
            have dAw8 : w.heap.size + 1 < w8.heap.size + 1 := Nat.lt_succ_of_lt bAw8
            have cB0w8 := (hmw8.cell (p := ⟨w.heap.size + 2, 0, none⟩) bBw7).trans cB0w7
            have cB1w8 := (hmw8.cell (p := ⟨w.heap.size + 2, 1, none⟩) bBw7).trans cB1w7
            have bBw8 : w.heap.size + 2 < w8.heap.size := Nat.lt_of_lt_of_le bBw7 hmw8.size
            have dBw8 : w.heap.size + 2 < w8.heap.size + 1 := Nat.lt_succ_of_lt bBw8
            have cX0w8 := (hmw8.cell (p := ⟨w1.heap.size, 0, none⟩) bXw7).trans cX0w7
            have cX1w8 := (hmw8.cell (p := ⟨w1.heap.size, 1, none⟩) bXw7).trans cX1w7
            have bXw8 : w1.heap.size < w8.heap.size := Nat.lt_of_lt_of_le bXw7 hmw8.size
            have dXw8 : w1.heap.size < w8.heap.size + 1 := Nat.lt_succ_of_lt bXw8
            have cY0w8 := (hmw8.cell (p := ⟨w2.heap.size, 0, none⟩) bYw7).trans cY0w7
            have cY1w8 := (hmw8.cell (p := ⟨w2.heap.size, 1, none⟩) bYw7).trans cY1w7
            have bYw8 : w2.heap.size < w8.heap.size := Nat.lt_of_lt_of_le bYw7 hmw8.size
            have dYw8 : w2.heap.size < w8.heap.size + 1 := Nat.lt_succ_of_lt bYw8
            have cN0w8 := (hmw8.cell (p := ⟨w5.heap.size, 0, none⟩) bNw7).trans cN0w7
            have cN1w8 := (hmw8.cell (p := ⟨w5.heap.size, 1, none⟩) bNw7).trans cN1w7
            have bNw8 : w5.heap.size < w8.heap.size := Nat.lt_of_lt_of_le bNw7 hmw8.size
            have dNw8 : w5.heap.size < w8.heap.size + 1 := Nat.lt_succ_of_lt bNw8
            have hBw8 : Below w.heap.size w w8 := Below.trans hBw7 (hmw8.mono hBw7.size)
            have zw8 : w.heap.size ≤ w8.heap.size := hBw8.size
            clear hmw8 hw8 zw7 hBw7 dNw7 bNw7 cN1w7 cN0w7 dYw7 bYw7 cY1w7 cY0w7 dXw7 bXw7 cX1w7 cX0w7 dBw7 bBw7 cB1w7 cB0w7 dAw7 bAw7 cA1w7 cA0w7 dGw7 bGw7 cG4w7 cG3w7 cG2w7 cG1w7 cG0w7
            go_wp2
            go_ret
            exact ⟨rfl, (by repeat' (first | (with_reducible exact Below.refl _ _) | (with_reducible assumption) | (with_reducible refine drewN_below ?_ _) | (with_reducible refine Below.drew ?_) | (with_reducible refine Below.alloc ?_ ?_ _) | (with_reducible refine Below.setCell ?_ ?_ _) | (simp; done) | omega | (simp; omega)))⟩
          · cases hqf : Q.isq f1 f2
            · skip
              clear hbe
              go_wp2_with fail
              refine (ris_any _ _ _).mono ?_
              rintro e w7 ⟨rfl, hw7⟩
              have hmw7 : Below w6.heap.size w6 w7 := on_below hw7 (by repeat' (first | (with_reducible exact Below.refl _ _) | (with_reducible assumption) | (with_reducible refine drewN_below ?_ _) | (with_reducible refine Below.drew ?_) | (with_reducible refine Below.alloc ?_ ?_ _) | (with_reducible refine Below.setCell ?_ ?_ _) | (simp; done) | omega | (simp; omega))) (by first | (with_reducible assumption) | (simp; done) | omega | (simp; omega))
              have cG0w7 := (hmw7.cell (p := ⟨w.heap.size, 0, none⟩) bGw6).trans cG0w6
              have cG1w7 := (hmw7.cell (p := ⟨w.heap.size, 1, none⟩) bGw6).trans cG1w6
              have cG2w7 := (hmw7.cell (p := ⟨w.heap.size, 2, none⟩) bGw6).trans cG2w6
              have cG3w7 := (hmw7.cell (p := ⟨w.heap.size, 3, none⟩) bGw6).trans cG3w6
              have cG4w7 := (hmw7.cell (p := ⟨w.heap.size, 4, none⟩) bGw6).trans cG4w6
              have bGw7 : w.heap.size < w7.heap.size := Nat.lt_of_lt_of_le bGw6 hmw7.size
              have dGw7 : w.heap.size < w7.heap.size + 1 := Nat.lt_succ_of_lt bGw7
              have cA0w7 := (hmw7.cell (p := ⟨w.heap.size + 1, 0, none⟩) bAw6).trans cA0w6
              have cA1w7 := (hmw7.cell (p := ⟨w.heap.size + 1, 1, none⟩) bAw6).trans cA1w6
              have bAw7 : w.heap.size + 1 < w7.heap.size := Nat.lt_of_lt_of_le bAw6 hmw7.size
              have dAw7 : w.heap.size + 1 < w7.heap.size + 1 := Nat.lt_succ_of_lt bAw7
              have cB0w7 := (hmw7.cell (p := ⟨w.heap.size + 2, 0, none⟩) bBw6).trans cB0w6
              have cB1w7 := (hmw7.cell (p := ⟨w.heap.size + 2, 1, none⟩) bBw6).trans cB1w6
              have bBw7 : w.heap.size + 2 < w7.heap.size := Nat.lt_of_lt_of_le bBw6 hmw7.size
              have dBw7 : w.heap.size + 2 < w7.heap.size + 1 := Nat.lt_succ_of_lt bBw7
              have cX0w7 := (hmw7.cell (p := ⟨w1.heap.size, 0, none⟩) bXw6).trans cX0w6
              have cX1w7 := (hmw7.cell (p := ⟨w1.heap.size, 1, none⟩) bXw6).trans cX1w6
              have bXw7 : w1.heap.size < w7.heap.size := Nat.lt_of_lt_of_le bXw6 hmw7.size
              have dXw7 : w1.heap.size < w7.heap.size + 1 := Nat.lt_succ_of_lt bXw7
              have cY0w7 := (hmw7.cell (p := ⟨w2.heap.size, 0, none⟩) bYw6).trans cY0w6
              have cY1w7 := (hmw7.cell (p := ⟨w2.heap.size, 1, none⟩) bYw6).trans cY1w6
              have bYw7 : w2.heap.size < w7.heap.size := Nat.lt_of_lt_of_le bYw6 hmw7.size
              have dYw7 : w2.heap.size < w7.heap.size + 1 := Nat.lt_succ_of_lt bYw7
              have cN0w7 := (hmw7.cell (p := ⟨w5.heap.size, 0, none⟩) bNw6).trans cN0w6
              have cN1w7 := (hmw7.cell (p := ⟨w5.heap.size, 1, none⟩) bNw6).trans cN1w6
              have bNw7 : w5.heap.size < w7.heap.size := Nat.lt_of_lt_of_le bNw6 hmw7.size
              have dNw7 : w5.heap.size < w7.heap.size + 1 := Nat.lt_succ_of_lt bNw7
              have hBw7 : Below w.heap.size w w7 := Below.trans hBw6 (hmw7.mono hBw6.size)
              have zw7 : w.heap.size ≤ w7.heap.size := hBw7.size
              clear hmw7 hw7 zw6 dNw6 dYw6 dXw6 dBw6 dAw6 dGw6 hBw6 bNw6 cN1w6 cN0w6 bYw6 cY1w6 cY0w6 bXw6 cX1w6 cX0w6 bBw6 cB1w6 cB0w6 bAw6 cA1w6 cA0w6 bGw6 cG4w6 cG3w6 cG2w6 cG1w6 cG0w6
              rw [hqb]
              go_wp2_with fail
              refine (rsub_any _ _ _ _ _).mono ?_
              rintro e w8 ⟨rfl, hw8⟩
              have hmw8 : Below w7.heap.size w7 w8 := on_below hw8 (by repeat' (first | (with_reducible exact Below.refl _ _) | (with_reducible assumption) | (with_reducible refine drewN_below ?_ _) | (with_reducible refine Below.drew ?_) | (with_reducible refine Below.alloc ?_ ?_ _) | (with_reducible refine Below.setCell ?_ ?_ _) | (simp; done) | omega | (simp; omega))) (by first | (with_reducible assumption) | (simp; done) | omega | (simp; omega))
              have cG0w8 := (hmw8.cell (p := ⟨w.heap.size, 0, none⟩) bGw7).trans cG0w7
              have cG1w8 := (hmw8.cell (p := ⟨w.heap.size, 1, none⟩) bGw7).trans cG1w7
              have cG2w8 := (hmw8.cell (p := ⟨w.heap.size, 2, none⟩) bGw7).trans cG2w7
              have cG3w8 := (hmw8.cell (p := ⟨w.heap.size, 3, none⟩) bGw7).trans cG3w7
              have cG4w8 := (hmw8.cell (p := ⟨w.heap.size, 4, none⟩) bGw7).trans cG4w7
              have bGw8 : w.heap.size < w8.heap.size := Nat.lt_of_lt_of_le bGw7 hmw8.size
              have dGw8 : w.heap.size < w8.heap.size + 1 := Nat.lt_succ_of_lt bGw8
              have cA0w8 := (hmw8.cell (p := ⟨w.heap.size + 1, 0, none⟩) bAw7).trans cA0w7
              have cA1w8 := (hmw8.cell (p := ⟨w.heap.size + 1, 1, none⟩) bAw7).trans cA1w7
              have bAw8 : w.heap.size + 1 < w8.heap.size := Nat.lt_of_lt_of_le bAw7 hmw8.size
              have dAw8 : w.heap.size + 1 < w8.heap.size + 1 := Nat.lt_succ_of_lt bAw8
              have cB0w8 := (hmw8.cell (p := ⟨w.heap.size + 2, 0, none⟩) bBw7).trans cB0w7
              have cB1w8 := (hmw8.cell (p := ⟨w.heap.size + 2, 1, none⟩) bBw7).trans cB1w7
              have bBw8 : w.heap.size + 2 < w8.heap.size := Nat.lt_of_lt_of_le bBw7 hmw8.size
              have dBw8 : w.heap.size + 2 < w8.heap.size + 1 := Nat.lt_succ_of_lt bBw8
              have cX0w8 := (hmw8.cell (p := ⟨w1.heap.size, 0, none⟩) bXw7).trans cX0w7
              have cX1w8 := (hmw8.cell (p := ⟨w1.heap.size, 1, none⟩) bXw7).trans cX1w7
              have bXw8 : w1.heap.size < w8.heap.size := Nat.lt_of_lt_of_le bXw7 hmw8.size
              have dXw8 : w1.heap.size < w8.heap.size + 1 := Nat.lt_succ_of_lt bXw8
              have cY0w8 := (hmw8.cell (p := ⟨w2.heap.size, 0, none⟩) bYw7).trans cY0w7
              have cY1w8 := (hmw8.cell (p := ⟨w2.heap.size, 1, none⟩) bYw7).trans cY1w7
              have bYw8 : w2.heap.size < w8.heap.size := Nat.lt_of_lt_of_le bYw7 hmw8.size
              have dYw8 : w2.heap.size < w8.heap.size + 1 := Nat.lt_succ_of_lt bYw8
              have cN0w8 := (hmw8.cell (p := ⟨w5.heap.size, 0, none⟩) bNw7).trans cN0w7
              have cN1w8 := (hmw8.cell (p := ⟨w5.heap.size, 1, none⟩) bNw7).trans cN1w7
              have bNw8 : w5.heap.size < w8.heap.size := Nat.lt_of_lt_of_le bNw7 hmw8.size
              have dNw8 : w5.heap.size < w8.heap.size + 1 := Nat.lt_succ_of_lt bNw8
              have hBw8 : Below w.heap.size w w8 := Below.trans hBw7 (hmw8.mono hBw7.size)
              have zw8 : w.heap.size ≤ w8.heap.size := hBw8.size
              clear hmw8 hw8 zw7 hBw7 dNw7 bNw7 cN1w7 cN0w7 dYw7 bYw7 cY1w7 cY0w7 dXw7 bXw7 cX1w7 cX0w7 dBw7 bBw7 cB1w7 cB0w7 dAw7 bAw7 cA1w7 cA0w7 dGw7 bGw7 cG4w7 cG3w7 cG2w7 cG1w7 cG0w7
              rw [hSb.out]
              go_wp2_with fail
              refine (rabs_any _ _ _).mono ?_
              rintro e w9 ⟨rfl, hw9⟩
              have hmw9 : Below w8.heap.size w8 w9 := on_below hw9 (by repeat' (first | (with_reducible exact Below.refl _ _) | (with_reducible assumption) | (with_reducible refine drewN_below ?_ _) | (with_reducible refine Below.drew ?_) | (with_reducible refine Below.alloc ?_ ?_ _) | (with_reducible refine Below.setCell ?_ ?_ _) | (simp; done) | omega | (simp; omega))) (by first | (with_reducible assumption) | (simp; done) | omega | (simp; omega))
              have cG0w9 := (hmw9.cell (p := ⟨w.heap.size, 0, none⟩) bGw8).trans cG0w8
              have cG1w9 := (hmw9.cell (p := ⟨w.heap.size, 1, none⟩) bGw8).trans cG1w8
              have cG2w9 := (hmw9.cell (p := ⟨w.heap.size, 2, none⟩) bGw8).trans cG2w8
              have cG3w9 := (hmw9.cell (p := ⟨w.heap.size, 3, none⟩) bGw8).trans cG3w8
              have cG4w9 := (hmw9.cell (p := ⟨w.heap.size, 4, none⟩) bGw8).trans cG4w8
              have bGw9 : w.heap.size < w9.heap.size := Nat.lt_of_lt_of_le bGw8 hmw9.size
              have dGw9 : w.heap.size < w9.heap.size + 1 := Nat.lt_succ_of_lt bGw9
              have cA0w9 := (hmw9.cell (p := ⟨w.heap.size + 1, 0, none⟩) bAw8).trans cA0w8
              have cA1w9 := (hmw9.cell (p := ⟨w.heap.size + 1, 1, none⟩) bAw8).trans cA1w8
              have bAw9 : w.heap.size + 1 < w9.heap.size := Nat.lt_of_lt_of_le bAw8 hmw9.size
              have dAw9 : w.heap.size + 1 < w9.heap.size + 1 := Nat.lt_succ_of_lt bAw9
              have cB0w9 := (hmw9.cell (p := ⟨w.heap.size + 2, 0, none⟩) bBw8).trans cB0w8
              have cB1w9 := (hmw9.cell (p := ⟨w.heap.size + 2, 1, none⟩) bBw8).trans cB1w8
              have bBw9 : w.heap.size + 2 < w9.heap.size := Nat.lt_of_lt_of_le bBw8 hmw9.size
              have dBw9 : w.heap.size + 2 < w9.heap.size + 1 := Nat.lt_succ_of_lt bBw9
              have cX0w9 := (hmw9.cell (p := ⟨w1.heap.size, 0, none⟩) bXw8).trans cX0w8
              have cX1w9 := (hmw9.cell (p := ⟨w1.heap.size, 1, none⟩) bXw8).trans cX1w8
              have bXw9 : w1.heap.size < w9.heap.size := Nat.lt_of_lt_of_le bXw8 hmw9.size
              have dXw9 : w1.heap.size < w9.heap.size + 1 := Nat.lt_succ_of_lt bXw9
              have cY0w9 := (hmw9.cell (p := ⟨w2.heap.size, 0, none⟩) bYw8).trans cY0w8
              have cY1w9 := (hmw9.cell (p := ⟨w2.heap.size, 1, none⟩) bYw8).trans cY1w8
              have bYw9 : w2.heap.size < w9.heap.size := Nat.lt_of_lt_of_le bYw8 hmw9.size
              have dYw9 : w2.heap.size < w9.heap.size + 1 := Nat.lt_succ_of_lt bYw9
              have cN0w9 := (hmw9.cell (p := ⟨w5.heap.size, 0, none⟩) bNw8).trans cN0w8
              have cN1w9 := (hmw9.cell (p := ⟨w5.heap.size, 1, none⟩) bNw8).trans cN1w8
              have bNw9 : w5.heap.size < w9.heap.size := Nat.lt_of_lt_of_le bNw8 hmw9.size
              have dNw9 : w5.heap.size < w9.heap.size + 1 := Nat.lt_succ_of_lt bNw9
              have hBw9 : Below w.heap.size w w9 := Below.trans hBw8 (hmw9.mono hBw8.size)
              have zw9 : w.heap.size ≤ w9.heap.size := hBw9.size
              clear hmw9 hw9 zw8 hBw8 dNw8 bNw8 cN1w8 cN0w8 dYw8 bYw8 cY1w8 cY0w8 dXw8 bXw8 cX1w8 cX0w8 dBw8 bBw8 cB1w8 cB0w8 dAw8 bAw8 cA1w8 cA0w8 dGw8 bGw8 cG4w8 cG3w8 cG2w8 cG1w8 cG0w8
              rw [hOf.out]
              go_wp2_with fail
              refine (ris_any _ _ _).mono ?_
              rintro e w10 ⟨rfl, hw10⟩
              have hmw10 : Below w9.heap.size w9 w10 := on_below hw10 (by repeat' (first | (with_reducible exact Below.refl _ _) | (with_reducible assumption) | (with_reducible refine drewN_below ?_ _) | (with_reducible refine Below.drew ?_) | (with_reducible refine Below.alloc ?_ ?_ _) | (with_reducible refine Below.setCell ?_ ?_ _) | (simp; done) | omega | (simp; omega))) (by first | (with_reducible assumption) | (simp; done) | omega | (simp; omega))
              have cG0w10 := (hmw10.cell (p := ⟨w.heap.size, 0, none⟩) bGw9).trans cG0w9
              have cG1w10 := (hmw10.cell (p := ⟨w.heap.size, 1, none⟩) bGw9).trans cG1w9
              have cG2w10 := (hmw10.cell (p := ⟨w.heap.size, 2, none⟩) bGw9).trans cG2w9
              have cG3w10 := (hmw10.cell (p := ⟨w.heap.size, 3, none⟩) bGw9).trans cG3w9
              have cG4w10 := (hmw10.cell (p := ⟨w.heap.size, 4, none⟩) bGw9).trans cG4w9
              have bGw10 : w.heap.size < w10.heap.size := Nat.lt_of_lt_of_le bGw9 hmw10.size
              have dGw10 : w.heap.size < w10.heap.size + 1 := Nat.lt_succ_of_lt bGw10
              have cA0w10 := (hmw10.cell (p := ⟨w.heap.size + 1, 0, none⟩) bAw9).trans cA0w9
              have cA1w10 := (hmw10.cell (p := ⟨w.heap.size + 1, 1, none⟩) bAw9).trans cA1w9
              have bAw10 : w.heap.size + 1 < w10.heap.size := Nat.lt_of_lt_of_le bAw9 hmw10.size
              have dAw10 : w.heap.size + 1 < w10.heap.size + 1 := Nat.lt_succ_of_lt bAw10
              have cB0w10 := (hmw10.cell (p := ⟨w.heap.size + 2, 0, none⟩) bBw9).trans cB0w9
              have cB1w10 := (hmw10.cell (p := ⟨w.heap.size + 2, 1, none⟩) bBw9).trans cB1w9
              have bBw10 : w.heap.size + 2 < w10.heap.size := Nat.lt_of_lt_of_le bBw9 hmw10.size
              have dBw10 : w.heap.size + 2 < w10.heap.size + 1 := Nat.lt_succ_of_lt bBw10
              have cX0w10 := (hmw10.cell (p := ⟨w1.heap.size, 0, none⟩) bXw9).trans cX0w9
              have cX1w10 := (hmw10.cell (p := ⟨w1.heap.size, 1, none⟩) bXw9).trans cX1w9
              have bXw10 : w1.heap.size < w10.heap.size := Nat.lt_of_lt_of_le bXw9 hmw10.size
              have dXw10 : w1.heap.size < w10.heap.size + 1 := Nat.lt_succ_of_lt bXw10
              have cY0w10 := (hmw10.cell (p := ⟨w2.heap.size, 0, none⟩) bYw9).trans cY0w9
              have cY1w10 := (hmw10.cell (p := ⟨w2.heap.size, 1, none⟩) bYw9).trans cY1w9
              have bYw10 : w2.heap.size < w10.heap.size := Nat.lt_of_lt_of_le bYw9 hmw10.size
              have dYw10 : w2.heap.size < w10.heap.size + 1 := Nat.lt_succ_of_lt bYw10
              have cN0w10 := (hmw10.cell (p := ⟨w5.heap.size, 0, none⟩) bNw9).trans cN0w9
              have cN1w10 := (hmw10.cell (p := ⟨w5.heap.size, 1, none⟩) bNw9).trans cN1w9
              have bNw10 : w5.heap.size < w10.heap.size := Nat.lt_of_lt_of_le bNw9 hmw10.size
              have dNw10 : w5.heap.size < w10.heap.size + 1 := Nat.lt_succ_of_lt bNw10
              have cO0w10 : w10.cell? ⟨w9.heap.size, 0, none⟩ = some (.int .i64 f1) := by rw [hw10.cell (p := ⟨w9.heap.size, 0, none⟩) (by first | (with_reducible assumption) | (simp; done) | omega | (simp; omega))]; simp [go_sem]
              have cO1w10 : w10.cell? ⟨w9.heap.size, 1, none⟩ = some (.int .i64 f2) := by rw [hw10.cell (p := ⟨w9.heap.size, 1, none⟩) (by first | (with_reducible assumption) | (simp; done) | omega | (simp; omega))]; simp [go_sem]
              have bOw10 : w9.heap.size < w10.heap.size := by have := hw10.size; first | omega | (simp at this; omega)
              have dOw10 : w9.heap.size < w10.heap.size + 1 := Nat.lt_succ_of_lt bOw10
              have hBw10 : Below w.heap.size w w10 := Below.trans hBw9 (hmw10.mono hBw9.size)
              have zw10 : w.heap.size ≤ w10.heap.size := hBw10.size
              clear hmw10 hw10 zw9 hBw9 dNw9 bNw9 cN1w9 cN0w9 dYw9 bYw9 cY1w9 cY0w9 dXw9 bXw9 cX1w9 cX0w9 dBw9 bBw9 cB1w9 cB0w9 dAw9 bAw9 cA1w9 cA0w9 dGw9 bGw9 cG4w9 cG3w9 cG2w9 cG1w9 cG0w9
              rw [hqf]
              go_wp2_with fail
              refine (awake_any _).mono ?_
              rintro e w11 ⟨rfl, hw11⟩
              have hmw11 : Below w10.heap.size w10 w11 := on_below hw11 (by repeat' (first | (with_reducible exact Below.refl _ _) | (with_reducible assumption) | (with_reducible refine drewN_below ?_ _) | (with_reducible refine Below.drew ?_) | (with_reducible refine Below.alloc ?_ ?_ _) | (with_reducible refine Below.setCell ?_ ?_ _) | (simp; done) | omega | (simp; omega))) (by first | (with_reducible assumption) | (simp; done) | omega | (simp; omega))
              have cG0w11 := (hmw11.cell (p := ⟨w.heap.size, 0, none⟩) bGw10).trans cG0w10
              have cG1w11 := (hmw11.cell (p := ⟨w.heap.size, 1, none⟩) bGw10).trans cG1w10
              have cG2w11 := (hmw11.cell (p := ⟨w.heap.size, 2, none⟩) bGw10).trans cG2w10
              have cG3w11 := (hmw11.cell (p := ⟨w.heap.size, 3, none⟩) bGw10).trans cG3w10
              have cG4w11 := (hmw11.cell (p := ⟨w.heap.size, 4, none⟩) bGw10).trans cG4w10
              have bGw11 : w.heap.size < w11.heap.size := Nat.lt_of_lt_of_le bGw10 hmw11.size
              have dGw11 : w.heap.size < w11.heap.size + 1 := Nat.lt_succ_of_lt bGw11
              have cA0w11 := (hmw11.cell (p := ⟨w.heap.size + 1, 0, none⟩) bAw10).trans cA0w10
              have cA1w11 := (hmw11.cell (p := ⟨w.heap.size + 1, 1, none⟩) bAw10).trans cA1w10
              have bAw11 : w.heap.size + 1 < w11.heap.size := Nat.lt_of_lt_of_le bAw10 hmw11.size
              have dAw11 : w.heap.size + 1 < w11.heap.size + 1 := Nat.lt_succ_of_lt bAw11
              have cB0w11 := (hmw11.cell (p := ⟨w.heap.size + 2, 0, none⟩) bBw10).trans cB0w10
              have cB1w11 := (hmw11.cell (p := ⟨w.heap.size + 2, 1, none⟩) bBw10).trans cB1w10
              have bBw11 : w.heap.size + 2 < w11.heap.size := Nat.lt_of_lt_of_le bBw10 hmw11.size
              have dBw11 : w.heap.size + 2 < w11.heap.size + 1 := Nat.lt_succ_of_lt bBw11
              have cX0w11 := (hmw11.cell (p := ⟨w1.heap.size, 0, none⟩) bXw10).trans cX0w10
              have cX1w11 := (hmw11.cell (p := ⟨w1.heap.size, 1, none⟩) bXw10).trans cX1w10
              have bXw11 : w1.heap.size < w11.heap.size := Nat.lt_of_lt_of_le bXw10 hmw11.size
              have dXw11 : w1.heap.size < w11.heap.size + 1 := Nat.lt_succ_of_lt bXw11
              have cY0w11 := (hmw11.cell (p := ⟨w2.heap.size, 0, none⟩) bYw10).trans cY0w10
              have cY1w11 := (hmw11.cell (p := ⟨w2.heap.size, 1, none⟩) bYw10).trans cY1w10
              have bYw11 : w2.heap.size < w11.heap.size := Nat.lt_of_lt_of_le bYw10 hmw11.size
              have dYw11 : w2.heap.size < w11.heap.size + 1 := Nat.lt_succ_of_lt bYw11
              have cN0w11 := (hmw11.cell (p := ⟨w5.heap.size, 0, none⟩) bNw10).trans cN0w10
              have cN1w11 := (hmw11.cell (p := ⟨w5.heap.size, 1, none⟩) bNw10).trans cN1w10
              have bNw11 : w5.heap.size < w11.heap.size := Nat.lt_of_lt_of_le bNw10 hmw11.size
              have dNw11 : w5.heap.size < w11.heap.size + 1 := Nat.lt_succ_of_lt bNw11
              have cO0w11 := (hmw11.cell (p := ⟨w9.heap.size, 0, none⟩) bOw10).trans cO0w10
              have cO1w11 := (hmw11.cell (p := ⟨w9.heap.size, 1, none⟩) bOw10).trans cO1w10
              have bOw11 : w9.heap.size < w11.heap.size := Nat.lt_of_lt_of_le bOw10 hmw11.size
              have dOw11 : w9.heap.size < w11.heap.size + 1 := Nat.lt_succ_of_lt bOw11
              have hBw11 : Below w.heap.size w w11 := Below.trans hBw10 (hmw11.mono hBw10.size)
              have zw11 : w.heap.size ≤ w11.heap.size := hBw11.size
              clear hmw11 hw11 zw10 hBw10 dOw10 bOw10 cO1w10 cO0w10 dNw10 bNw10 cN1w10 cN0w10 dYw10 bYw10 cY1w10 cY0w10 dXw10 bXw10 cX1w10 cX0w10 dBw10 bBw10 cB1w10 cB0w10 dAw10 bAw10 cA1w10 cA0w10 dGw10 bGw10 cG4w10 cG3w10 cG2w10 cG1w10 cG0w10
              go_wp2
              go_ret
              exact ⟨rfl, (by repeat' (first | (with_reducible exact Below.refl _ _) | (with_reducible assumption) | (with_reducible refine drewN_below ?_ _) | (with_reducible refine Below.drew ?_) | (with_reducible refine Below.alloc ?_ ?_ _) | (with_reducible refine Below.setCell ?_ ?_ _) | (simp; done) | omega | (simp; omega)))⟩
            · skip
              have t6 : decide (0 < c6) = false := decide_eq_false (by have := hOff.out hbe hin hqb hqf; omega)
              clear hbe
              go_wp2_with fail
              refine (ris_any _ _ _).mono ?_
              rintro e w7 ⟨rfl, hw7⟩
              have hmw7 : Below w6.heap.size w6 w7 := on_below hw7 (by repeat' (first | (with_reducible exact Below.refl _ _) | (with_reducible assumption) | (with_reducible refine drewN_below ?_ _) | (with_reducible refine Below.drew ?_) | (with_reducible refine Below.alloc ?_ ?_ _) | (with_reducible refine Below.setCell ?_ ?_ _) | (simp; done) | omega | (simp; omega))) (by first | (with_reducible assumption) | (simp; done) | omega | (simp; omega))
              have cG0w7 := (hmw7.cell (p := ⟨w.heap.size, 0, none⟩) bGw6).trans cG0w6
              have cG1w7 := (hmw7.cell (p := ⟨w.heap.size, 1, none⟩) bGw6).trans cG1w6
              have cG2w7 := (hmw7.cell (p := ⟨w.heap.size, 2, none⟩) bGw6).trans cG2w6
              have cG3w7 := (hmw7.cell (p := ⟨w.heap.size, 3, none⟩) bGw6).trans cG3w6
              have cG4w7 := (hmw7.cell (p := ⟨w.heap.size, 4, none⟩) bGw6).trans cG4w6
              have bGw7 : w.heap.size < w7.heap.size := Nat.lt_of_lt_of_le bGw6 hmw7.size
              have dGw7 : w.heap.size < w7.heap.size + 1 := Nat.lt_succ_of_lt bGw7
              have cA0w7 := (hmw7.cell (p := ⟨w.heap.size + 1, 0, none⟩) bAw6).trans cA0w6
              have cA1w7 := (hmw7.cell (p := ⟨w.heap.size + 1, 1, none⟩) bAw6).trans cA1w6
              have bAw7 : w.heap.size + 1 < w7.heap.size := Nat.lt_of_lt_of_le bAw6 hmw7.size
              have dAw7 : w.heap.size + 1 < w7.heap.size + 1 := Nat.lt_succ_of_lt bAw7
              have cB0w7 := (hmw7.cell (p := ⟨w.heap.size + 2, 0, none⟩) bBw6).trans cB0w6
              have cB1w7 := (hmw7.cell (p := ⟨w.heap.size + 2, 1, none⟩) bBw6).trans cB1w6
              have bBw7 : w.heap.size + 2 < w7.heap.size := Nat.lt_of_lt_of_le bBw6 hmw7.size
              have dBw7 : w.heap.size + 2 < w7.heap.size + 1 := Nat.lt_succ_of_lt bBw7
              have cX0w7 := (hmw7.cell (p := ⟨w1.heap.size, 0, none⟩) bXw6).trans cX0w6
              have cX1w7 := (hmw7.cell (p := ⟨w1.heap.size, 1, none⟩) bXw6).trans cX1w6
              have bXw7 : w1.heap.size < w7.heap.size := Nat.lt_of_lt_of_le bXw6 hmw7.size
              have dXw7 : w1.heap.size < w7.heap.size + 1 := Nat.lt_succ_of_lt bXw7
              have cY0w7 := (hmw7.cell (p := ⟨w2.heap.size, 0, none⟩) bYw6).trans cY0w6
              have cY1w7 := (hmw7.cell (p := ⟨w2.heap.size, 1, none⟩) bYw6).trans cY1w6
              have bYw7 : w2.heap.size < w7.heap.size := Nat.lt_of_lt_of_le bYw6 hmw7.size
              have dYw7 : w2.heap.size < w7.heap.size + 1 := Nat.lt_succ_of_lt bYw7
              have cN0w7 := (hmw7.cell (p := ⟨w5.heap.size, 0, none⟩) bNw6).trans cN0w6
              have cN1w7 := (hmw7.cell (p := ⟨w5.heap.size, 1, none⟩) bNw6).trans cN1w6
              have bNw7 : w5.heap.size < w7.heap.size := Nat.lt_of_lt_of_le bNw6 hmw7.size
              have dNw7 : w5.heap.size < w7.heap.size + 1 := Nat.lt_succ_of_lt bNw7
              have hBw7 : Below w.heap.size w w7 := Below.trans hBw6 (hmw7.mono hBw6.size)
              have zw7 : w.heap.size ≤ w7.heap.size := hBw7.size
              clear hmw7 hw7 zw6 dNw6 dYw6 dXw6 dBw6 dAw6 dGw6 hBw6 bNw6 cN1w6 cN0w6 bYw6 cY1w6 cY0w6 bXw6 cX1w6 cX0w6 bBw6 cB1w6 cB0w6 bAw6 cA1w6 cA0w6 bGw6 cG4w6 cG3w6 cG2w6 cG1w6 cG0w6
              rw [hqb]
              go_wp2_with fail
              refine (rsub_any _ _ _ _ _).mono ?_
              rintro e w8 ⟨rfl, hw8⟩
              have hmw8 : Below w7.heap.size w7 w8 := on_below hw8 (by repeat' (first | (with_reducible exact Below.refl _ _) | (with_reducible assumption) | (with_reducible refine drewN_below ?_ _) | (with_reducible refine Below.drew ?_) | (with_reducible refine Below.alloc ?_ ?_ _) | (with_reducible refine Below.setCell ?_ ?_ _) | (simp; done) | omega | (simp; omega))) (by first | (with_reducible assumption) | (simp; done) | omega | (simp; omega))
              have cG0w8 := (hmw8.cell (p := ⟨w.heap.size, 0, none⟩) bGw7).trans cG0w7
              have cG1w8 := (hmw8.cell (p := ⟨w.heap.size, 1, none⟩) bGw7).trans cG1w7
              have cG2w8 := (hmw8.cell (p := ⟨w.heap.size, 2, none⟩) bGw7).trans cG2w7
              have cG3w8 := (hmw8.cell (p := ⟨w.heap.size, 3, none⟩) bGw7).trans cG3w7
              have cG4w8 := (hmw8.cell (p := ⟨w.heap.size, 4, none⟩) bGw7).trans cG4w7
              have bGw8 : w.heap.size < w8.heap.size := Nat.lt_of_lt_of_le bGw7 hmw8.size
              have dGw8 : w.heap.size < w8.heap.size + 1 := Nat.lt_succ_of_lt bGw8
              have cA0w8 := (hmw8.cell (p := ⟨w.heap.size + 1, 0, none⟩) bAw7).trans cA0w7
              have cA1w8 := (hmw8.cell (p := ⟨w.heap.size + 1, 1, none⟩) bAw7).trans cA1w7
              have bAw8 : w.heap.size + 1 < w8.heap.size := Nat.lt_of_lt_of_le bAw7 hmw8.size
              have dAw8 : w.heap.size + 1 < w8.heap.size + 1 := Nat.lt_succ_of_lt bAw8
              have cB0w8 := (hmw8.cell (p := ⟨w.heap.size + 2, 0, none⟩) bBw7).trans cB0w7
              have cB1w8 := (hmw8.cell (p := ⟨w.heap.size + 2, 1, none⟩) bBw7).trans cB1w7
              have bBw8 : w.heap.size + 2 < w8.heap.size := Nat.lt_of_lt_of_le bBw7 hmw8.size
              have dBw8 : w.heap.size + 2 < w8.heap.size + 1 := Nat.lt_succ_of_lt bBw8
              have cX0w8 := (hmw8.cell (p := ⟨w1.heap.size, 0, none⟩) bXw7).trans cX0w7
              have cX1w8 := (hmw8.cell (p := ⟨w1.heap.size, 1, none⟩) bXw7).trans cX1w7
              have bXw8 : w1.heap.size < w8.heap.size := Nat.lt_of_lt_of_le bXw7 hmw8.size
              have dXw8 : w1.heap.size < w8.heap.size + 1 := Nat.lt_succ_of_lt bXw8
              have cY0w8 := (hmw8.cell (p := ⟨w2.heap.size, 0, none⟩) bYw7).trans cY0w7
              have cY1w8 := (hmw8.cell (p := ⟨w2.heap.size, 1, none⟩) bYw7).trans cY1w7
              have bYw8 : w2.heap.size < w8.heap.size := Nat.lt_of_lt_of_le bYw7 hmw8.size
              have dYw8 : w2.heap.size < w8.heap.size + 1 := Nat.lt_succ_of_lt bYw8
              have cN0w8 := (hmw8.cell (p := ⟨w5.heap.size, 0, none⟩) bNw7).trans cN0w7
              have cN1w8 := (hmw8.cell (p := ⟨w5.heap.size, 1, none⟩) bNw7).trans cN1w7
              have bNw8 : w5.heap.size < w8.heap.size := Nat.lt_of_lt_of_le bNw7 hmw8.size
              have dNw8 : w5.heap.size < w8.heap.size + 1 := Nat.lt_succ_of_lt bNw8
              have hBw8 : Below w.heap.size w w8 := Below.trans hBw7 (hmw8.mono hBw7.size)
              have zw8 : w.heap.size ≤ w8.heap.size := hBw8.size
              clear hmw8 hw8 zw7 hBw7 dNw7 bNw7 cN1w7 cN0w7 dYw7 bYw7 cY1w7 cY0w7 dXw7 bXw7 cX1w7 cX0w7 dBw7 bBw7 cB1w7 cB0w7 dAw7 bAw7 cA1w7 cA0w7 dGw7 bGw7 cG4w7 cG3w7 cG2w7 cG1w7 cG0w7
              rw [hSb.out]
              go_wp2_with fail
              refine (rabs_any _ _ _).mono ?_
              rintro e w9 ⟨rfl, hw9⟩
              have hmw9 : Below w8.heap.size w8 w9 := on_below hw9 (by repeat' (first | (with_reducible exact Below.refl _ _) | (with_reducible assumption) | (with_reducible refine drewN_below ?_ _) | (with_reducible refine Below.drew ?_) | (with_reducible refine Below.alloc ?_ ?_ _) | (with_reducible refine Below.setCell ?_ ?_ _) | (simp; done) | omega | (simp; omega))) (by first | (with_reducible assumption) | (simp; done) | omega | (simp; omega))
              have cG0w9 := (hmw9.cell (p := ⟨w.heap.size, 0, none⟩) bGw8).trans cG0w8
              have cG1w9 := (hmw9.cell (p := ⟨w.heap.size, 1, none⟩) bGw8).trans cG1w8
              have cG2w9 := (hmw9.cell (p := ⟨w.heap.size, 2, none⟩) bGw8).trans cG2w8
              have cG3w9 := (hmw9.cell (p := ⟨w.heap.size, 3, none⟩) bGw8).trans cG3w8
              have cG4w9 := (hmw9.cell (p := ⟨w.heap.size, 4, none⟩) bGw8).trans cG4w8
              have bGw9 : w.heap.size < w9.heap.size := Nat.lt_of_lt_of_le bGw8 hmw9.size
              have dGw9 : w.heap.size < w9.heap.size + 1 := Nat.lt_succ_of_lt bGw9
              have cA0w9 := (hmw9.cell (p := ⟨w.heap.size + 1, 0, none⟩) bAw8).trans cA0w8
              have cA1w9 := (hmw9.cell (p := ⟨w.heap.size + 1, 1, none⟩) bAw8).trans cA1w8
              have bAw9 : w.heap.size + 1 < w9.heap.size := Nat.lt_of_lt_of_le bAw8 hmw9.size
              have dAw9 : w.heap.size + 1 < w9.heap.size + 1 := Nat.lt_succ_of_lt bAw9
              have cB0w9 := (hmw9.cell (p := ⟨w.heap.size + 2, 0, none⟩) bBw8).trans cB0w8
              have cB1w9 := (hmw9.cell (p := ⟨w.heap.size + 2, 1, none⟩) bBw8).trans cB1w8
              have bBw9 : w.heap.size + 2 < w9.heap.size := Nat.lt_of_lt_of_le bBw8 hmw9.size
              have dBw9 : w.heap.size + 2 < w9.heap.size + 1 := Nat.lt_succ_of_lt bBw9
              have cX0w9 := (hmw9.cell (p := ⟨w1.heap.size, 0, none⟩) bXw8).trans cX0w8
              have cX1w9 := (hmw9.cell (p := ⟨w1.heap.size, 1, none⟩) bXw8).trans cX1w8
              have bXw9 : w1.heap.size < w9.heap.size := Nat.lt_of_lt_of_le bXw8 hmw9.size
              have dXw9 : w1.heap.size < w9.heap.size + 1 := Nat.lt_succ_of_lt bXw9
              have cY0w9 := (hmw9.cell (p := ⟨w2.heap.size, 0, none⟩) bYw8).trans cY0w8
              have cY1w9 := (hmw9.cell (p := ⟨w2.heap.size, 1, none⟩) bYw8).trans cY1w8
              have bYw9 : w2.heap.size < w9.heap.size := Nat.lt_of_lt_of_le bYw8 hmw9.size
              have dYw9 : w2.heap.size < w9.heap.size + 1 := Nat.lt_succ_of_lt bYw9
              have cN0w9 := (hmw9.cell (p := ⟨w5.heap.size, 0, none⟩) bNw8).trans cN0w8
              have cN1w9 := (hmw9.cell (p := ⟨w5.heap.size, 1, none⟩) bNw8).trans cN1w8
              have bNw9 : w5.heap.size < w9.heap.size := Nat.lt_of_lt_of_le bNw8 hmw9.size
              have dNw9 : w5.heap.size < w9.heap.size + 1 := Nat.lt_succ_of_lt bNw9
              have hBw9 : Below w.heap.size w w9 := Below.trans hBw8 (hmw9.mono hBw8.size)
              have zw9 : w.heap.size ≤ w9.heap.size := hBw9.size
              clear hmw9 hw9 zw8 hBw8 dNw8 bNw8 cN1w8 cN0w8 dYw8 bYw8 cY1w8 cY0w8 dXw8 bXw8 cX1w8 cX0w8 dBw8 bBw8 cB1w8 cB0w8 dAw8 bAw8 cA1w8 cA0w8 dGw8 bGw8 cG4w8 cG3w8 cG2w8 cG1w8 cG0w8
              rw [hOf.out]
              go_wp2_with fail
              refine (ris_any _ _ _).mono ?_
              rintro e w10 ⟨rfl, hw10⟩
              have hmw10 : Below w9.heap.size w9 w10 := on_below hw10 (by repeat' (first | (with_reducible exact Below.refl _ _) | (with_reducible assumption) | (with_reducible refine drewN_below ?_ _) | (with_reducible refine Below.drew ?_) | (with_reducible refine Below.alloc ?_ ?_ _) | (with_reducible refine Below.setCell ?_ ?_ _) | (simp; done) | omega | (simp; omega))) (by first | (with_reducible assumption) | (simp; done) | omega | (simp; omega))
              have cG0w10 := (hmw10.cell (p := ⟨w.heap.size, 0, none⟩) bGw9).trans cG0w9
              have cG1w10 := (hmw10.cell (p := ⟨w.heap.size, 1, none⟩) bGw9).trans cG1w9
              have cG2w10 := (hmw10.cell (p := ⟨w.heap.size, 2, none⟩) bGw9).trans cG2w9
              have cG3w10 := (hmw10.cell (p := ⟨w.heap.size, 3, none⟩) bGw9).trans cG3w9
              have cG4w10 := (hmw10.cell (p := ⟨w.heap.size, 4, none⟩) bGw9).trans cG4w9
              have bGw10 : w.heap.size < w10.heap.size := Nat.lt_of_lt_of_le bGw9 hmw10.size
              have dGw10 : w.heap.size < w10.heap.size + 1 := Nat.lt_succ_of_lt bGw10
              have cA0w10 := (hmw10.cell (p := ⟨w.heap.size + 1, 0, none⟩) bAw9).trans cA0w9
              have cA1w10 := (hmw10.cell (p := ⟨w.heap.size + 1, 1, none⟩) bAw9).trans cA1w9
              have bAw10 : w.heap.size + 1 < w10.heap.size := Nat.lt_of_lt_of_le bAw9 hmw10.size
              have dAw10 : w.heap.size + 1 < w10.heap.size + 1 := Nat.lt_succ_of_lt bAw10
              have cB0w10 := (hmw10.cell (p := ⟨w.heap.size + 2, 0, none⟩) bBw9).trans cB0w9
              have cB1w10 := (hmw10.cell (p := ⟨w.heap.size + 2, 1, none⟩) bBw9).trans cB1w9
              have bBw10 : w.heap.size + 2 < w10.heap.size := Nat.lt_of_lt_of_le bBw9 hmw10.size
              have dBw10 : w.heap.size + 2 < w10.heap.size + 1 := Nat.lt_succ_of_lt bBw10
              have cX0w10 := (hmw10.cell (p := ⟨w1.heap.size, 0, none⟩) bXw9).trans cX0w9
              have cX1w10 := (hmw10.cell (p := ⟨w1.heap.size, 1, none⟩) bXw9).trans cX1w9
              have bXw10 : w1.heap.size < w10.heap.size := Nat.lt_of_lt_of_le bXw9 hmw10.size
              have dXw10 : w1.heap.size < w10.heap.size + 1 := Nat.lt_succ_of_lt bXw10
              have cY0w10 := (hmw10.cell (p := ⟨w2.heap.size, 0, none⟩) bYw9).trans cY0w9
              have cY1w10 := (hmw10.cell (p := ⟨w2.heap.size, 1, none⟩) bYw9).trans cY1w9
              have bYw10 : w2.heap.size < w10.heap.size := Nat.lt_of_lt_of_le bYw9 hmw10.size
              have dYw10 : w2.heap.size < w10.heap.size + 1 := Nat.lt_succ_of_lt bYw10
              have cN0w10 := (hmw10.cell (p := ⟨w5.heap.size, 0, none⟩) bNw9).trans cN0w9
              have cN1w10 := (hmw10.cell (p := ⟨w5.heap.size, 1, none⟩) bNw9).trans cN1w9
              have bNw10 : w5.heap.size < w10.heap.size := Nat.lt_of_lt_of_le bNw9 hmw10.size
              have dNw10 : w5.heap.size < w10.heap.size + 1 := Nat.lt_succ_of_lt bNw10
              have cO0w10 : w10.cell? ⟨w9.heap.size, 0, none⟩ = some (.int .i64 f1) := by rw [hw10.cell (p := ⟨w9.heap.size, 0, none⟩) (by first | (with_reducible assumption) | (simp; done) | omega | (simp; omega))]; simp [go_sem]
              have cO1w10 : w10.cell? ⟨w9.heap.size, 1, none⟩ = some (.int .i64 f2) := by rw [hw10.cell (p := ⟨w9.heap.size, 1, none⟩) (by first | (with_reducible assumption) | (simp; done) | omega | (simp; omega))]; simp [go_sem]
              have bOw10 : w9.heap.size < w10.heap.size := by have := hw10.size; first | omega | (simp at this; omega)
              have dOw10 : w9.heap.size < w10.heap.size + 1 := Nat.lt_succ_of_lt bOw10
              have hBw10 : Below w.heap.size w w10 := Below.trans hBw9 (hmw10.mono hBw9.size)
              have zw10 : w.heap.size ≤ w10.heap.size := hBw10.size
              clear hmw10 hw10 zw9 hBw9 dNw9 bNw9 cN1w9 cN0w9 dYw9 bYw9 cY1w9 cY0w9 dXw9 bXw9 cX1w9 cX0w9 dBw9 bBw9 cB1w9 cB0w9 dAw9 bAw9 cA1w9 cA0w9 dGw9 bGw9 cG4w9 cG3w9 cG2w9 cG1w9 cG0w9
              rw [hqf]
              go_wp2_with fail
              refine (rcmp_any _ _ _ _ _).mono ?_
              rintro e w11 ⟨rfl, hw11⟩
              have hmw11 : Below w10.heap.size w10 w11 := on_below hw11 (by repeat' (first | (with_reducible exact Below.refl _ _) | (with_reducible assumption) | (with_reducible refine drewN_below ?_ _) | (with_reducible refine Below.drew ?_) | (with_reducible refine Below.alloc ?_ ?_ _) | (with_reducible refine Below.setCell ?_ ?_ _) | (simp; done) | omega | (simp; omega))) (by first | (with_reducible assumption) | (simp; done) | omega | (simp; omega))
              have cG0w11 := (hmw11.cell (p := ⟨w.heap.size, 0, none⟩) bGw10).trans cG0w10
              have cG1w11 := (hmw11.cell (p := ⟨w.heap.size, 1, none⟩) bGw10).trans cG1w10
              have cG2w11 := (hmw11.cell (p := ⟨w.heap.size, 2, none⟩) bGw10).trans cG2w10
              have cG3w11 := (hmw11.cell (p := ⟨w.heap.size, 3, none⟩) bGw10).trans cG3w10
              have cG4w11 := (hmw11.cell (p := ⟨w.heap.size, 4, none⟩) bGw10).trans cG4w10
              have bGw11 : w.heap.size < w11.heap.size := Nat.lt_of_lt_of_le bGw10 hmw11.size
              have dGw11 : w.heap.size < w11.heap.size + 1 := Nat.lt_succ_of_lt bGw11
              have cA0w11 := (hmw11.cell (p := ⟨w.heap.size + 1, 0, none⟩) bAw10).trans cA0w10
              have cA1w11 := (hmw11.cell (p := ⟨w.heap.size + 1, 1, none⟩) bAw10).trans cA1w10
              have bAw11 : w.heap.size + 1 < w11.heap.size := Nat.lt_of_lt_of_le bAw10 hmw11.size
              have dAw11 : w.heap.size + 1 < w11.heap.size + 1 := Nat.lt_succ_of_lt bAw11
              have cB0w11 := (hmw11.cell (p := ⟨w.heap.size + 2, 0, none⟩) bBw10).trans cB0w10
              have cB1w11 := (hmw11.cell (p := ⟨w.heap.size + 2, 1, none⟩) bBw10).trans cB1w10
              have bBw11 : w.heap.size + 2 < w11.heap.size := Nat.lt_of_lt_of_le bBw10 hmw11.size
              have dBw11 : w.heap.size + 2 < w11.heap.size + 1 := Nat.lt_succ_of_lt bBw11
              have cX0w11 := (hmw11.cell (p := ⟨w1.heap.size, 0, none⟩) bXw10).trans cX0w10
              have cX1w11 := (hmw11.cell (p := ⟨w1.heap.size, 1, none⟩) bXw10).trans cX1w10
              have bXw11 : w1.heap.size < w11.heap.size := Nat.lt_of_lt_of_le bXw10 hmw11.size
              have dXw11 : w1.heap.size < w11.heap.size + 1 := Nat.lt_succ_of_lt bXw11
              have cY0w11 := (hmw11.cell (p := ⟨w2.heap.size, 0, none⟩) bYw10).trans cY0w10
              have cY1w11 := (hmw11.cell (p := ⟨w2.heap.size, 1, none⟩) bYw10).trans cY1w10
              have bYw11 : w2.heap.size < w11.heap.size := Nat.lt_of_lt_of_le bYw10 hmw11.size
              have dYw11 : w2.heap.size < w11.heap.size + 1 := Nat.lt_succ_of_lt bYw11
              have cN0w11 := (hmw11.cell (p := ⟨w5.heap.size, 0, none⟩) bNw10).trans cN0w10
              have cN1w11 := (hmw11.cell (p := ⟨w5.heap.size, 1, none⟩) bNw10).trans cN1w10
              have bNw11 : w5.heap.size < w11.heap.size := Nat.lt_of_lt_of_le bNw10 hmw11.size
              have dNw11 : w5.heap.size < w11.heap.size + 1 := Nat.lt_succ_of_lt bNw11
              have cO0w11 := (hmw11.cell (p := ⟨w9.heap.size, 0, none⟩) bOw10).trans cO0w10
              have cO1w11 := (hmw11.cell (p := ⟨w9.heap.size, 1, none⟩) bOw10).trans cO1w10
              have bOw11 : w9.heap.size < w11.heap.size := Nat.lt_of_lt_of_le bOw10 hmw11.size
              have dOw11 : w9.heap.size < w11.heap.size + 1 := Nat.lt_succ_of_lt bOw11
              have hBw11 : Below w.heap.size w w11 := Below.trans hBw10 (hmw11.mono hBw10.size)
              have zw11 : w.heap.size ≤ w11.heap.size := hBw11.size
              clear hmw11 hw11 zw10 hBw10 dOw10 bOw10 cO1w10 cO0w10 dNw10 bNw10 cN1w10 cN0w10 dYw10 bYw10 cY1w10 cY0w10 dXw10 bXw10 cX1w10 cX0w10 dBw10 bBw10 cB1w10 cB0w10 dAw10 bAw10 cA1w10 cA0w10 dGw10 bGw10 cG4w10 cG3w10 cG2w10 cG1w10 cG0w10
              rw [hC6.out]
              go_wp2_with fail
              refine (awake_any _).mono ?_
              rintro e w12 ⟨rfl, hw12⟩
              have hmw12 : Below w11.heap.size w11 w12 := on_below hw12 (by repeat' (first | (with_reducible exact Below.refl _ _) | (with_reducible assumption) | (with_reducible refine drewN_below ?_ _) | (with_reducible refine Below.drew ?_) | (with_reducible refine Below.alloc ?_ ?_ _) | (with_reducible refine Below.setCell ?_ ?_ _) | (simp; done) | omega | (simp; omega))) (by first | (with_reducible assumption) | (simp; done) | omega | (simp; omega))
              have cG0w12 := (hmw12.cell (p := ⟨w.heap.size, 0, none⟩) bGw11).trans cG0w11
              have cG1w12 := (hmw12.cell (p := ⟨w.heap.size, 1, none⟩) bGw11).trans cG1w11
              have cG2w12 := (hmw12.cell (p := ⟨w.heap.size, 2, none⟩) bGw11).trans cG2w11
              have cG3w12 := (hmw12.cell (p := ⟨w.heap.size, 3, none⟩) bGw11).trans cG3w11
              have cG4w12 := (hmw12.cell (p := ⟨w.heap.size, 4, none⟩) bGw11).trans cG4w11
              have bGw12 : w.heap.size < w12.heap.size := Nat.lt_of_lt_of_le bGw11 hmw12.size
              have dGw12 : w.heap.size < w12.heap.size + 1 := Nat.lt_succ_of_lt bGw12
              have cA0w12 := (hmw12.cell (p := ⟨w.heap.size + 1, 0, none⟩) bAw11).trans cA0w11
              have cA1w12 := (hmw12.cell (p := ⟨w.heap.size + 1, 1, none⟩) bAw11).trans cA1w11
              have bAw12 : w.heap.size + 1 < w12.heap.size := Nat.lt_of_lt_of_le bAw11 hmw12.size
              have dAw12 : w.heap.size + 1 < w12.heap.size + 1 := Nat.lt_succ_of_lt bAw12
              have cB0w12 := (hmw12.cell (p := ⟨w.heap.size + 2, 0, none⟩) bBw11).trans cB0w11
              have cB1w12 := (hmw12.cell (p := ⟨w.heap.size + 2, 1, none⟩) bBw11).trans cB1w11
              have bBw12 : w.heap.size + 2 < w12.heap.size := Nat.lt_of_lt_of_le bBw11 hmw12.size
              have dBw12 : w.heap.size + 2 < w12.heap.size + 1 := Nat.lt_succ_of_lt bBw12
              have cX0w12 := (hmw12.cell (p := ⟨w1.heap.size, 0, none⟩) bXw11).trans cX0w11
              have cX1w12 := (hmw12.cell (p := ⟨w1.heap.size, 1, none⟩) bXw11).trans cX1w11
              have bXw12 : w1.heap.size < w12.heap.size := Nat.lt_of_lt_of_le bXw11 hmw12.size
              have dXw12 : w1.heap.size < w12.heap.size + 1 := Nat.lt_succ_of_lt bXw12
              have cY0w12 := (hmw12.cell (p := ⟨w2.heap.size, 0, none⟩) bYw11).trans cY0w11
              have cY1w12 := (hmw12.cell (p := ⟨w2.heap.size, 1, none⟩) bYw11).trans cY1w11
              have bYw12 : w2.heap.size < w12.heap.size := Nat.lt_of_lt_of_le bYw11 hmw12.size
              have dYw12 : w2.heap.size < w12.heap.size + 1 := Nat.lt_succ_of_lt bYw12
              have cN0w12 := (hmw12.cell (p := ⟨w5.heap.size, 0, none⟩) bNw11).trans cN0w11
              have cN1w12 := (hmw12.cell (p := ⟨w5.heap.size, 1, none⟩) bNw11).trans cN1w11
              have bNw12 : w5.heap.size < w12.heap.size := Nat.lt_of_lt_of_le bNw11 hmw12.size
              have dNw12 : w5.heap.size < w12.heap.size + 1 := Nat.lt_succ_of_lt bNw12
              have cO0w12 := (hmw12.cell (p := ⟨w9.heap.size, 0, none⟩) bOw11).trans cO0w11
              have cO1w12 := (hmw12.cell (p := ⟨w9.heap.size, 1, none⟩) bOw11).trans cO1w11
              have bOw12 : w9.heap.size < w12.heap.size := Nat.lt_of_lt_of_le bOw11 hmw12.size
              have dOw12 : w9.heap.size < w12.heap.size + 1 := Nat.lt_succ_of_lt bOw12
              have hBw12 : Below w.heap.size w w12 := Below.trans hBw11 (hmw12.mono hBw11.size)
              have zw12 : w.heap.size ≤ w12.heap.size := hBw12.size
              clear hmw12 hw12 zw11 hBw11 dOw11 bOw11 cO1w11 cO0w11 dNw11 bNw11 cN1w11 cN0w11 dYw11 bYw11 cY1w11 cY0w11 dXw11 bXw11 cX1w11 cX0w11 dBw11 bBw11 cB1w11 cB0w11 dAw11 bAw11 cA1w11 cA0w11 dGw11 bGw11 cG4w11 cG3w11 cG2w11 cG1w11 cG0w11
              go_wp2
              go_ret
              exact ⟨rfl, (by repeat' (first | (with_reducible exact Below.refl _ _) | (with_reducible assumption) | (with_reducible refine drewN_below ?_ _) | (with_reducible refine Below.drew ?_) | (with_reducible refine Below.alloc ?_ ?_ _) | (with_reducible refine Below.setCell ?_ ?_ _) | (simp; done) | omega | (simp; omega)))⟩

end Go.Proofs.YtmadhpbdianddaaDoor
