import Derived.Test.YtgohccjmphapfaaGreatDoorMu
set_option linter.all false
noncomputable section
namespace Go.Proofs.YtgohccjmphapfaaGreatDoor
open Go Go.Pv Go.RowKit
set_option maxRecDepth 100000
def Wu5 (_ : List UInt8) (s : Sh) : Bool := (s.kids == 0) || (s.nums == false)
theorem Wxd {l : List UInt8} {s : Sh} (h : shp l = some s) : Wu5 l s = true := by
 unfold shp at h
 repeat (refine Wgs (Q := Wu5) h rfl (fun h => ?_))
 cases h
theorem Wq6 {a b : ByteArray} (h : a.data.toList = b.data.toList) : a = b := by
 rw [← Wb4 a, ← Wb4 b, h]
theorem Wyy {a : ByteArray} (h : emp a = true) : a = ⟨#[]⟩ := by
 unfold emp at h
 have := eq_of_beq h
 rw [tol, tol] at this
 exact Wq6 this
theorem Wyz {fk : ByteArray} {fi ff : Int} {fr fo : ByteArray} (h : nul fk fi ff fr fo = true) : fk = ⟨#[]⟩ ∧ fi = 0 ∧ ff = 0 ∧ fr = ⟨#[]⟩ ∧ fo = ⟨#[]⟩ := by
 unfold nul at h
 simp only [Bool.and_eq_true, beq_iff_eq] at h
 obtain ⟨h1, h2, h3, h4, h5, _⟩ := h
 rw [tol, tol] at h1 h4 h5
 exact ⟨Wq6 h1, h2, h3, Wq6 h4, Wq6 h5⟩
theorem Wo7 {l : List UInt8} (h : l.all (fun b => decide (97 ≤ b.toNat ∧ b.toNat ≤ 122)) = true) : ∀ c ∈ l, dlm.contains c = false := by
 intro c hc
 have := of_decide_eq_true (List.all_eq_true.1 h c hc)
 unfold dlm
 simp only [List.contains_cons, List.contains_nil, Bool.or_false, Bool.or_eq_false_iff, beq_eq_false_iff_ne, ne_eq]
 refine ⟨?_, ?_, ?_, ?_⟩ <;> (rintro rfl; revert this; decide)
theorem Wy0 {op : ByteArray} {s : Sh} (hs : shp op.toList = some s) : ∀ c ∈ op.data.toList, dlm.contains c = false := by
 have hc := Wei hs
 unfold Wmr at hc
 simp only [Bool.and_eq_true, Bool.or_eq_true, decide_eq_true_eq, beq_iff_eq] at hc
 obtain ⟨_, _, _, _, hlet, _⟩ := hc
 rw [tol] at hlet
 exact Wo7 hlet
theorem Wu6 {b : BT} (hv : b.vld = true) (r : List UInt8) : blk (b.txt ++ r) = b.txt ++ r := by
 obtain ⟨op, name, n, m, X, fk, fi, ff, fr, fo, kids⟩ := b
 obtain ⟨s, F, _⟩ := Whe hv
 rw [BT.txt]
 unfold Wb5
 split
 ·exact Wa0 F.hop (Wy0 F.hs) r
 ·exact Wfn _ (by decide)
theorem Good.mk' {a b : List UInt8} (h : Good (a ++ b)) : Good b := ⟨h.1.right, by have := h.2; simp only [List.length_append] at this; omega⟩
theorem Good.cons' {a : UInt8} {b : List UInt8} (h : Good (a :: b)) : Good b := ⟨h.1.tail, by have := h.2; simp only [List.length_cons] at this; omega⟩
theorem Good.asc' {l : List UInt8} (h : Good l) : Go.Pv.asc (bt l) = true := asc7 h.1 h.2
theorem Wj4 (N : Nat) : ∀ (n : Nat) (b : BT), b.vld = true → b.depth ≤ n → ∀ (l R : List UInt8), blk l = b.txt ++ R → Ends R → Good (b.txt ++ R) → Wu3 (Kfn N n) (bt l) false b (bt R) false
 | 0, b, _, hd, _, _, _, _, _ => by cases b; simp [BT.depth] at hd
 | n + 1, .mk op name nn m X fk fi ff fr fo kids, hv, hd, l, R, hl, hR, hG => by
  intro κ
  simp only [BT.depth] at hd
  obtain ⟨s, F, ha⟩ := Whe hv
  obtain ⟨c1, c2, c3, c4, c5, c6, c7, c8, c9, c10, c11, c12⟩ := K9w F.hs ha
  simp only [BT.vld, Bool.and_eq_true] at hv
  have hvk := BT.vldL_mem hv.2
  have hop7 := Wy0 F.hs
  have hk2 := Wxd F.hs
  unfold Wu5 at hk2
  have hck := Wei F.hs
  unfold Wmr at hck
  simp only [Bool.and_eq_true, Bool.or_eq_true, decide_eq_true_eq, beq_iff_eq] at hck hk2
  have hnm : s.nums = false → X = [] := fun e => by
   have := hck.2.2.1
   rw [e] at this
   have : ¬ 0 < s.most := of_decide_eq_false this.symm
   exact List.eq_nil_of_length_eq_zero (by omega)
  show Ko9 Ke7 Kel Kdh Ki1 (Kfn N n) Ka0 Kbh (bt l) false κ = _
  unfold Ko9
  rw [BT.txt, F.hs, wdO] at hl hG
  simp only [BT.call]
  cases hbr : bare s with
  | true =>
   obtain ⟨e1, e2⟩ := F.hb hbr
   rw [e1, e2] at hl hG
   simp only [BT.txtL, List.append_nil, Wb5] at hl hG
   rw [show (⟨#[40]⟩ : W4w) = bt [40] from rfl, Wuv 40 l (by rw [hl]; exact Wo5 F.hop hop7 40 rfl R), hl]
   rw [Whg _ op.data.toList R (Wa0 F.hop hop7 R) hop7 hR hG.asc', Wb4]
   rw [K2y, F.hs]
   simp only [shK]
   rw [bx_t, Wc8, hbr]
   simp only [show (!(true == false)) = true from rfl]
   rw [K7v]
   simp only [Bool.not_false, Bool.not_true, bx_f]
   have hb' := hbr
   unfold bare at hb'
   simp only [Bool.and_eq_true, beq_iff_eq] at hb'
   obtain ⟨_, _, g1, g2, g3, g4, g5, _⟩ := hb'
   obtain rfl := hnm g5
   obtain rfl := Wyy (c9 g4)
   obtain ⟨rfl, rfl, rfl, rfl, rfl⟩ := Wyz (c10 g3)
   obtain rfl := c11 (by omega)
   obtain rfl := c12 (by omega)
   subst e2
   rfl
  | false =>
   have hne := F.hw hbr
   rw [Wzs hne] at hl hG
   have hl' : blk l = 40 :: (op.data.toList ++ (flt (fldl s name nn m fk fi ff fr fo X) ++ (flt (BT.txtL kids) ++ 41 :: R))) := by
    rw [hl]; simp [flt]
   have hG' : Good (40 :: (op.data.toList ++ (flt (fldl s name nn m fk fi ff fr fo X) ++ (flt (BT.txtL kids) ++ 41 :: R)))) := by
    have e : (40 :: (op.data.toList ++ (List.flatMap (fun w => 32 :: w) (fldl s name nn m fk fi ff fr fo X ++ BT.txtL kids) ++ [41])) ++ R : List UInt8) = 40 :: (op.data.toList ++ (flt (fldl s name nn m fk fi ff fr fo X) ++ (flt (BT.txtL kids) ++ 41 :: R))) := by simp [flt]
    rw [← e]; exact hG
   have hE2 : Ends (flt (BT.txtL kids) ++ 41 :: R) := Wdb _ _ (Wm3 R)
   have hE1 := Wdb (fldl s name nn m fk fi ff fr fo X) _ hE2
   rw [show (⟨#[40]⟩ : W4w) = bt [40] from rfl, Wjz 40 l _ hl']
   rw [Whg _ op.data.toList _ (Wa0 F.hop hop7 _) hop7 hE1 hG'.cons'.asc', Wb4]
   rw [K2y, F.hs]
   simp only [shK]
   rw [bx_t, Wc8, hbr]
   simp only [show (!(false == true)) = true from rfl]
   rw [K7v]
   simp only [Bool.not_false, Bool.not_true, bx_t, bx_f]
   have hk0 : s.nums = true → ∃ R', flt (BT.txtL kids) ++ 41 :: R = 41 :: R' := fun e => by
    have h0 : s.kids = 0 := by
     rcases hk2 with h | h
     ·exact h
     ·rw [e] at h; cases h
    have : kids = [] := List.eq_nil_of_length_eq_zero (by have := F.hk; omega)
    subst this
    exact ⟨R, rfl⟩
   rw [Wo6 s op name nn m fk fi ff fr fo X _ (by omega) (by omega) (by omega) c6 (fun h => c11 (by omega)) (fun h => c12 (by omega)) c8 (fun h => Wyz (c10 h)) c7 (fun h => Wyy (c9 h)) hnm hk0 hE2 hG'.cons'.mk']
   have hGR : Good (flt (BT.txtL kids) ++ 41 :: R) := hG'.cons'.mk'.mk'
   have close : ∀ κ' : Bool → ByteArray → Bool → Option DV, Ke7 (bt [41]) (bt (41 :: R)) false κ' = κ' true (bt R) false := fun κ' => Wjz 41 _ _ (Wfn _ (by decide)) _ _
   have IH : ∀ x ∈ kids, ∀ r, Ends r → Good (x.txt ++ r) → Wu3 (Kfn N n) (bt (32 :: (x.txt ++ r))) false x (bt r) false := fun x hx r hr hg =>
    Wj4 N n x (hvk x hx) (by have := BT.depthL_mem x hx; omega) _ r (by rw [Wjy, Wu6 (hvk x hx)]) hr hg
   cases X with
   | cons q X =>
    have h0 : s.kids = 0 := by
     rcases hk2 with h | h
     ·exact h
     ·have := hnm h; cases this
    have : kids = [] := List.eq_nil_of_length_eq_zero (by have := F.hk; omega)
    subst this
    simp only [rfin]
    rw [h0, kidsN]
    simp only [BT.txtL, Kjg, List.nil_append]
    rw [show (⟨#[41]⟩ : W4w) = bt [41] from rfl]
    try dsimp only
    rw [close]
    try dsimp only
    rw [K7v]
    try dsimp only
    rw [Kpa (by rw [W1k]; omega), bx_t, List.drop_zero, Wu4]
    rfl
   | nil =>
    simp only [rfin]
    have hkk := F.hk
    match kids, F.hkl, hkk, IH, hGR with
    | [], _, hkk, _, _ =>
     rw [show s.kids = 0 by simpa using hkk.symm, kids0]
     simp only [BT.txtL, Kjg, List.nil_append]
     rw [show (⟨#[41]⟩ : W4w) = bt [41] from rfl]
     try dsimp only
     rw [close]
     try dsimp only
     rw [K7v]
     try dsimp only
     rfl
    | [x], _, hkk, IH, hGR =>
     simp only [BT.txtL, Kgm, Kjg, List.append_nil, List.cons_append] at hGR ⊢
     rw [show s.kids = 1 by simpa using hkk.symm, kids1 _ _ _ _ _ _ _ _ _ _ _ _ _ _ _ _ _ _ _ _ _ _ _ _ _ _ _ (IH x (by simp) _ (Wm3 R) hGR.cons')]
     rw [show (⟨#[41]⟩ : W4w) = bt [41] from rfl]
     try dsimp only
     rw [close]
     try dsimp only
     rw [K7v]
     try dsimp only
     rw [Kpa (by rw [BT.cells_len]; omega), bx_t, List.drop_zero, Wzy]
     rfl
    | [x, y], _, hkk, IH, hGR =>
     simp only [BT.txtL, Kgm, Kjg, List.append_nil, List.cons_append, List.append_assoc] at hGR ⊢
     rw [show s.kids = 2 by simpa using hkk.symm, kids2 _ _ _ _ _ _ _ _ _ _ _ _ _ _ _ _ _ _ _ _ _ _ _ _ _ _ _ (IH x (by simp) _ (K9y _) hGR.cons') (IH y (by simp) _ (Wm3 R) hGR.next.cons')]
     rw [show (⟨#[41]⟩ : W4w) = bt [41] from rfl]
     try dsimp only
     rw [close]
     try dsimp only
     rw [K7v]
     try dsimp only
     rw [Kpa (by rw [List.length_append, BT.cells_len, BT.cells_len]; omega), bx_t, List.drop_zero, Wzz]
     rfl
    | x :: y :: z :: k, h, _, _, _ => simp at h
end Go.Proofs.YtgohccjmphapfaaGreatDoor
end
