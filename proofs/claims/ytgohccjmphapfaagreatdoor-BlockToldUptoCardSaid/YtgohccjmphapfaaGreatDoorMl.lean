import Derived.Test.YtgohccjmphapfaaGreatDoorMe
set_option linter.all false
noncomputable section
namespace Go.Proofs.YtgohccjmphapfaaGreatDoor
open Go Go.Pv Go.RowKit
set_option maxRecDepth 100000
def Wmv (f : W2a) (x : BT) : Prop := ∀ (acc : List UInt8) (κ0 κ1 : Nat → List DV → Option DV), acc.length + x.txt.length ≤ 140737488355328 → x.call f acc.length (Kjh (bt acc)) κ0 κ1 = κ1 (acc ++ x.txt).length (Kjh (bt (acc ++ x.txt)))
theorem Wq0 (f0 f1 : W2g) (f3 f4 : W16) (f5 : W2a) (f6 : W2c) (f7 : W2l) (f8 : W2h) (W : List (List UInt8)) (hl : W.length ≤ 1099511627776) (op name : W4w) (n m : Int) (e : W4x) (fk : W4w) (fi ff : Int) (fr fo : W4w) (q : W4x) (κ) :
  ∀ (rest done : List (List UInt8)) (acc : List UInt8), W = done ++ rest → acc.length + (rest.flatMap (fun w => 32 :: w)).length ≤ 140737488355328 → LF (Kiz f0 f1 Kah f3 f4 f5 f6 f7 f8) (rest.length + 1) (.h1 (W.map fun w => [sv w]) (W.length : Nat) done.length acc.length op name n m e fk fi ff fr fo q (Kjh (bt acc))) κ = κ.2 (acc ++ rest.flatMap (fun w => 32 :: w)).length op name n m e fk fi ff fr fo q (Kjh (bt (acc ++ rest.flatMap (fun w => 32 :: w))))
 | [], done, acc, he, hA => by
  simp only [LF, Kiz]
  rw [decide_eq_false (by simp [he]), bx_f]
  simp
 | x :: rest, done, acc, he, hA => by
  have hlen : W.length = done.length + rest.length + 1 := by simp [he]; omega
  rw [show (x :: rest).length + 1 = (rest.length + 1) + 1 from rfl, LF]
  simp only [Kiz]
  have h1 : decide ((done.length : Int) < ((W.length : Nat) : Int)) = true := by simp; omega
  have h2 : decide (0 ≤ (done.length : Int)) = true := by simp
  have h3 : (W.map fun w => [sv w])[Int.toNat (done.length : Int)]? = some [sv x] := by simp [he]
  have hw : IntKind.wrap .i64 ((done.length : Int) + 1) = ((done ++ [x]).length : Nat) := by rw [Kcp (by omega) (by omega)]; simp
  simp only [List.flatMap_cons, List.length_append, List.length_cons] at hA
  rw [h1, bx_t, h2, bx_t, h3]
  simp only [optE]
  rw [show ∀ k : KT, ld_s [sv x] 0 k = k (bt x) from fun k => rfl, show (⟨#[32]⟩ : W4w) = bt [32] from rfl, Kd7, Kd7, room (by simp only [List.length_cons, List.length_nil]; omega), Kxy, hw]
  rw [ws2 ([32] ++ x) acc (by simp) (by simp only [List.length_append, List.length_cons, List.length_nil]; omega)]
  have ih := Wq0 f0 f1 f3 f4 f5 f6 f7 f8 W hl op name n m e fk fi ff fr fo q κ rest (done ++ [x]) (acc ++ ([32] ++ x)) (by simp [he]) (by simp only [List.length_append, List.length_cons, List.length_nil]; omega)
  refine ih.trans ?_
  simp [List.append_assoc]
theorem Wuo (f0 f1 : W2g) (f3 f4 : W16) (f5 : W2a) (f6 : W2c) (f7 : W2l) (f8 : W2h) (Ks : List BT) (hl : Ks.length ≤ 1073741824) (hf : ∀ x ∈ Ks, Wmv f5 x) (κ) :
  ∀ (rest done : List BT) (acc : List UInt8), Ks = done ++ rest → acc.length + ((BT.txtL rest).flatMap (fun w => 32 :: w)).length ≤ 140737488355328 → LF (Ket f0 f1 Kah f3 f4 f5 f6 f7 f8) (rest.length + 1) (.h1 (BT.cellsL Ks) (Ks.length : Nat) done.length acc.length (Kjh (bt acc))) κ = κ.2 (acc ++ (BT.txtL rest).flatMap (fun w => 32 :: w)).length (Kjh (bt (acc ++ (BT.txtL rest).flatMap (fun w => 32 :: w))))
 | [], done, acc, he, hA => by
  simp only [LF, Ket]
  rw [decide_eq_false (by simp [he]), bx_f]
  simp [BT.txtL]
 | x :: rest, done, acc, he, hA => by
  have hlen : Ks.length = done.length + rest.length + 1 := by simp [he]; omega
  rw [show (x :: rest).length + 1 = (rest.length + 1) + 1 from rfl, LF]
  simp only [Ket]
  have h1 : decide ((done.length : Int) < ((Ks.length : Nat) : Int)) = true := by simp; omega
  have h2 : decide (0 ≤ (done.length : Int)) = true := by simp
  have h3 : (BT.cellsL Ks)[Int.toNat (done.length : Int)]? = some x.cells := by simp [BT.cellsL_eq, he]
  have hw : IntKind.wrap .i64 ((done.length : Int) + 1) = ((done ++ [x]).length : Nat) := by rw [Kcp (by omega) (by omega)]; simp
  simp only [BT.txtL, List.flatMap_cons, List.length_append, List.length_cons] at hA
  rw [h1, bx_t, h2, bx_t, h3]
  simp only [optE]
  rw [Kmb, hw]
  have hx := hf x (by simp [he])
  have ih := Wuo f0 f1 f3 f4 f5 f6 f7 f8 Ks hl hf κ rest (done ++ [x]) (acc ++ [32] ++ x.txt) (by simp [he]) (by simp only [List.length_append, List.length_cons, List.length_nil]; omega)
  unfold Wmv at hx
  generalize hT : x.txt = tx at hx ih hA
  have hgoal : LF (Ket f0 f1 Kah f3 f4 f5 f6 f7 f8) (rest.length + 1) (.h1 (BT.cellsL Ks) (Ks.length : Nat) (done ++ [x]).length (acc ++ [32] ++ tx).length (Kjh (bt (acc ++ [32] ++ tx)))) κ = κ.2 (acc ++ (BT.txtL (x :: rest)).flatMap (fun w => 32 :: w)).length (Kjh (bt (acc ++ (BT.txtL (x :: rest)).flatMap (fun w => 32 :: w)))) := by
   refine ih.trans ?_
   simp [BT.txtL, hT, List.append_assoc]
  rw [← hgoal]
  generalize (done ++ [x]).length = dl
  clear hgoal ih hT hf he
  cases x with
  | mk op name n m nums fk fi ff fr fo kk =>
   simp only [BT.call] at hx ⊢
   rw [show (⟨#[32]⟩ : W4w) = bt [32] from rfl]
   rw [ws2 [32] acc (by simp) (by simp only [List.length_cons, List.length_nil]; omega)]
   rw [hx (acc ++ [32]) _ _ (by simp only [List.length_append, List.length_cons, List.length_nil]; omega)]
theorem Wq1 (f0 f2 : W2g) (f3 f5 : W16) (f4 : W2a) (f6 : W2c) (f7 : W2l) (f8 : W2h) (W : List (List UInt8)) (hl : W.length ≤ 1099511627776) (op name : W4w) (n m : Int) (e : W4x) (fk : W4w) (fi ff : Int) (fr fo : W4w) (q : W4x) (κ) :
  ∀ (rest done : List (List UInt8)) (acc : List UInt8), W = done ++ rest → acc.length + (rest.flatMap (fun w => 32 :: w)).length ≤ 140737488355328 → LF (Kl0 f0 Kah f2 f3 f4 f5 f6 f7 f8) (rest.length + 1) (.h1 (W.map fun w => [sv w]) (W.length : Nat) done.length acc.length op name n m e fk fi ff fr fo q (Kjh (bt acc))) κ = κ.2 (acc ++ rest.flatMap (fun w => 32 :: w)).length op name n m e fk fi ff fr fo q (Kjh (bt (acc ++ rest.flatMap (fun w => 32 :: w))))
 | [], done, acc, he, hA => by
  simp only [LF, Kl0]
  rw [decide_eq_false (by simp [he]), bx_f]
  simp
 | x :: rest, done, acc, he, hA => by
  have hlen : W.length = done.length + rest.length + 1 := by simp [he]; omega
  rw [show (x :: rest).length + 1 = (rest.length + 1) + 1 from rfl, LF]
  simp only [Kl0]
  have h1 : decide ((done.length : Int) < ((W.length : Nat) : Int)) = true := by simp; omega
  have h2 : decide (0 ≤ (done.length : Int)) = true := by simp
  have h3 : (W.map fun w => [sv w])[Int.toNat (done.length : Int)]? = some [sv x] := by simp [he]
  have hw : IntKind.wrap .i64 ((done.length : Int) + 1) = ((done ++ [x]).length : Nat) := by rw [Kcp (by omega) (by omega)]; simp
  simp only [List.flatMap_cons, List.length_append, List.length_cons] at hA
  rw [h1, bx_t, h2, bx_t, h3]
  simp only [optE]
  rw [show ∀ k : KT, ld_s [sv x] 0 k = k (bt x) from fun k => rfl, show (⟨#[32]⟩ : W4w) = bt [32] from rfl, Kd7, Kd7, room (by simp only [List.length_cons, List.length_nil]; omega), Kxy, hw]
  rw [ws2 ([32] ++ x) acc (by simp) (by simp only [List.length_append, List.length_cons, List.length_nil]; omega)]
  have ih := Wq1 f0 f2 f3 f5 f4 f6 f7 f8 W hl op name n m e fk fi ff fr fo q κ rest (done ++ [x]) (acc ++ ([32] ++ x)) (by simp [he]) (by simp only [List.length_append, List.length_cons, List.length_nil]; omega)
  refine ih.trans ?_
  simp [List.append_assoc]
theorem Wup (f0 f2 : W2g) (f3 f5 : W16) (f4 : W2a) (f6 : W2c) (f7 : W2l) (f8 : W2h) (Ks : List BT) (hl : Ks.length ≤ 1073741824) (hf : ∀ x ∈ Ks, Wmv f4 x) (κ) :
  ∀ (rest done : List BT) (acc : List UInt8), Ks = done ++ rest → acc.length + ((BT.txtL rest).flatMap (fun w => 32 :: w)).length ≤ 140737488355328 → LF (Kgu f0 Kah f2 f3 f4 f5 f6 f7 f8) (rest.length + 1) (.h1 (BT.cellsL Ks) (Ks.length : Nat) done.length acc.length (Kjh (bt acc))) κ = κ.2 (acc ++ (BT.txtL rest).flatMap (fun w => 32 :: w)).length (Kjh (bt (acc ++ (BT.txtL rest).flatMap (fun w => 32 :: w))))
 | [], done, acc, he, hA => by
  simp only [LF, Kgu]
  rw [decide_eq_false (by simp [he]), bx_f]
  simp [BT.txtL]
 | x :: rest, done, acc, he, hA => by
  have hlen : Ks.length = done.length + rest.length + 1 := by simp [he]; omega
  rw [show (x :: rest).length + 1 = (rest.length + 1) + 1 from rfl, LF]
  simp only [Kgu]
  have h1 : decide ((done.length : Int) < ((Ks.length : Nat) : Int)) = true := by simp; omega
  have h2 : decide (0 ≤ (done.length : Int)) = true := by simp
  have h3 : (BT.cellsL Ks)[Int.toNat (done.length : Int)]? = some x.cells := by simp [BT.cellsL_eq, he]
  have hw : IntKind.wrap .i64 ((done.length : Int) + 1) = ((done ++ [x]).length : Nat) := by rw [Kcp (by omega) (by omega)]; simp
  simp only [BT.txtL, List.flatMap_cons, List.length_append, List.length_cons] at hA
  rw [h1, bx_t, h2, bx_t, h3]
  simp only [optE]
  rw [Kmb, hw]
  have hx := hf x (by simp [he])
  have ih := Wup f0 f2 f3 f5 f4 f6 f7 f8 Ks hl hf κ rest (done ++ [x]) (acc ++ [32] ++ x.txt) (by simp [he]) (by simp only [List.length_append, List.length_cons, List.length_nil]; omega)
  unfold Wmv at hx
  generalize hT : x.txt = tx at hx ih hA
  have hgoal : LF (Kgu f0 Kah f2 f3 f4 f5 f6 f7 f8) (rest.length + 1) (.h1 (BT.cellsL Ks) (Ks.length : Nat) (done ++ [x]).length (acc ++ [32] ++ tx).length (Kjh (bt (acc ++ [32] ++ tx)))) κ = κ.2 (acc ++ (BT.txtL (x :: rest)).flatMap (fun w => 32 :: w)).length (Kjh (bt (acc ++ (BT.txtL (x :: rest)).flatMap (fun w => 32 :: w)))) := by
   refine ih.trans ?_
   simp [BT.txtL, hT, List.append_assoc]
  rw [← hgoal]
  generalize (done ++ [x]).length = dl
  clear hgoal ih hT hf he
  cases x with
  | mk op name n m nums fk fi ff fr fo kk =>
   simp only [BT.call] at hx ⊢
   rw [show (⟨#[32]⟩ : W4w) = bt [32] from rfl]
   rw [ws2 [32] acc (by simp) (by simp only [List.length_cons, List.length_nil]; omega)]
   rw [hx (acc ++ [32]) _ _ (by simp only [List.length_append, List.length_cons, List.length_nil]; omega)]
end Go.Proofs.YtgohccjmphapfaaGreatDoor
end

noncomputable section
namespace Go.Proofs.YtgohccjmphapfaaGreatDoor
open Go Go.Pv Go.RowKit
set_option maxRecDepth 100000
def bare (s : Sh) : Bool := (s.ins == s.ins) && ((s.outs == s.outs) && ((s.kids == 0) && ((s.ints == 0) && ((s.fmt == false) && ((s.name == false) && ((s.nums == false) && true))))))
theorem Wc8 (s : Sh) (k : KB) : Ka0 s.ins s.outs s.kids s.ints s.fmt s.name s.nums k = k (bare s) := rfl
structure Fit (op name : W4w) (n m : Int) (X : List (Int × Int)) (fk : W4w) (fi ff : Int) (fr fo : W4w) (kids : List BT) (s : Sh) : Prop where
 hs : shp op.toList = some s
 hn : -4096 ≤ n ∧ n ≤ 4096
 hm : -4096 ≤ m ∧ m ≤ 4096
 hX : X.length ≤ 256
 hk : (kids.length : Int) = s.kids
 hkl : kids.length ≤ 2
 hop : op.data.toList ≠ []
 hb : bare s = true → fldl s name n m fk fi ff fr fo X = [] ∧ kids = []
 hw : bare s = false → fldl s name n m fk fi ff fr fo X ++ BT.txtL kids ≠ []
theorem Whe {op name : ByteArray} {n m : Int} {X : List (Int × Int)} {fk : ByteArray} {fi ff : Int} {fr fo : ByteArray} {kids : List BT} (hv : (BT.mk op name n m X fk fi ff fr fo kids).vld = true) : ∃ s, Fit op name n m X fk fi ff fr fo kids s ∧ ask s op.toList (K4h name) (emp name) (nul fk fi ff fr fo) (Z.vld fk fr fo fi ff) n m X = true := by
 simp only [BT.vld, Bool.and_eq_true] at hv
 obtain ⟨hask, _⟩ := hv
 obtain ⟨s, hs, hkn⟩ := Wkt hask
 have hask' : ask s op.toList (K4h name) (emp name) (nul fk fi ff fr fo) (Z.vld fk fr fo fi ff) n m X = true := by
  rw [hs] at hask; simp only [askO, Bool.and_eq_true] at hask; exact hask.2
 obtain ⟨b1, b2, b3, b4, b5, _, _, _, _, _, b6, b7⟩ := K9w hs hask'
 have hc := Wei hs
 unfold Wmr at hc
 simp only [Bool.and_eq_true, Bool.or_eq_true, decide_eq_true_eq, beq_iff_eq] at hc
 obtain ⟨hi, ⟨_, _, _⟩, hq1, hq2, _, hne, _⟩ := hc
 refine ⟨s, ⟨hs, b1, b2, b3, hkn, ?_, ?_, ?_, ?_⟩, hask'⟩
 ·rcases K7t hs with ⟨h, _⟩ | ⟨h, _⟩ | ⟨h, _⟩ <;> rw [h] at hkn <;> omega
 ·rw [tol] at hne
  intro e; rw [e] at hne; simp at hne
 ·intro hb
  unfold bare at hb
  simp only [Bool.and_eq_true, beq_iff_eq] at hb
  obtain ⟨_, _, h1, h2, h3, h4, h5, _⟩ := hb
  rw [h5] at hq1
  have hX : X = [] := by
   have : ¬ 0 < s.most := of_decide_eq_false hq1.symm
   exact List.eq_nil_of_length_eq_zero (by omega)
  refine ⟨?_, List.eq_nil_of_length_eq_zero (by omega)⟩
  unfold fldl
  rw [h2, h3, h4, hX]; rfl
 ·intro hb e
  have he := List.append_eq_nil_iff.1 e
  rw [BT.txtL_eq] at he
  have hk0 : s.kids = 0 := by have := he.2; simp at this; rw [this] at hkn; simpa using hkn.symm
  have hf := he.1
  unfold fldl at hf
  simp only [List.append_eq_nil_iff] at hf
  obtain ⟨f1, f2, f3, f4, f5⟩ := hf
  have g1 : s.ints = 0 := by
   rcases hi with hi | ⟨hi, _⟩ | ⟨hi, _⟩
   ·exact hi
   ·rw [hi] at f1; cases f1
   ·rw [hi] at f1; cases f1
  have g3 : s.fmt = false := by cases h : s.fmt with | false => rfl | true => rw [h] at f3; cases f3
  have g4 : s.name = false := by cases h : s.name with | false => rfl | true => rw [h] at f4; cases f4
  have hX : X = [] := by simpa using f5
  have g5 : s.nums = false := by
   rw [hX] at b5
   rw [hq2]; exact decide_eq_false (by simp at b5; omega)
  unfold bare at hb
  rw [hk0, g1, g3, g4, g5] at hb
  simp at hb
theorem Wzs {op : List UInt8} {ws : List (List UInt8)} (h : ws ≠ []) : Wb5 op ws = 40 :: (op ++ (ws.flatMap (fun w => 32 :: w) ++ [41])) := by
 cases ws with
 | nil => contradiction
 | cons _ _ => rfl
theorem Whf (N : Nat) : ∀ (n : Nat) (b : BT), b.ok → b.nok → b.vld = true → b.depth ≤ n → Wmv (Kbt N n) b
 | 0, b, _, _, _, hd => by cases b; simp [BT.depth] at hd
 | n + 1, .mk op name nn m nums fk fi ff fr fo kids, hb, hn, hv, hd => by
  intro acc κ0 κ1 ht
  simp only [BT.depth] at hd
  have hok := hb.2.2.2.2.2.2.2
  have hnk := hn.2
  obtain ⟨s, F, _⟩ := Whe hv
  simp only [BT.vld, Bool.and_eq_true] at hv
  have hvk := BT.vldL_mem hv.2
  have hnl : name.size ≤ 1152921504606846976 := by have := hn.1; unfold reachBytes at this; omega
  show Kww Kaj Kai Kah (Kcx N n) (Kby N n) (Kbt N n) Kbf Ka0 Kbh op name nn m (nums.map qpc) fk fi ff fr fo (BT.cellsL kids) acc.length (Kjh (bt acc)) κ0 κ1 = _
  unfold Kww
  rw [K2y, F.hs]
  simp only [shK]
  rw [Wc8]
  rw [BT.txt, F.hs, wdO] at ht ⊢
  have hop : op = bt op.data.toList := (Wb4 op).symm
  cases hbr : bare s with
  | true =>
   obtain ⟨e1, e2⟩ := F.hb hbr
   rw [e1, e2] at ht ⊢
   simp only [BT.txtL, List.append_nil, Wb5] at ht ⊢
   rw [bx_t]
   conv => lhs; rw [hop]
   exact ws2 op.data.toList acc F.hop ht _ _
  | false =>
   have hne := F.hw hbr
   rw [Wzs hne] at ht ⊢
   have hfl : (fldl s name nn m fk fi ff fr fo nums).length ≤ 4 + nums.length := Wky s name nn m fk fi ff fr fo nums
   have hfp := Whd op name nn m nums fk fi ff fr fo (BT.cellsL kids) s (by have := F.hn; unfold i64; omega) (by have := F.hm; unfold i64; omega) (by have := F.hX; omega) hnl
   generalize fldl s name nn m fk fi ff fr fo nums = FL at hfl hfp ht hne ⊢
   simp only [List.flatMap_append, List.length_append, List.length_cons, List.length_nil] at ht
   rw [bx_f]
   have hr1 : ∀ t : Option DV, bx (decide (((ByteArray.size (⟨#[40]⟩) + op.size : Nat) : Int) > IntKind.max .i64)) none t = t := fun t => by
    rw [Lib.size_eq op, show ByteArray.size (⟨#[40]⟩ : W4w) = 1 from rfl, room (by omega)]
   have hr2 : (⟨#[40]⟩ : W4w) ++ op = bt (40 :: op.data.toList) := by
    rw [show (⟨#[40]⟩ : W4w) = bt [40] from rfl]
    conv => lhs; rw [hop]
    rw [Kxy]; rfl
   rw [hr1, hr2, ws2 (40 :: op.data.toList) acc (by simp) (by simp only [List.length_cons]; omega), hfp]
   have φ6 : ∀ c L, Kjv (.h1 (FL.map fun w => [sv w]) (((FL.map fun w => [sv w]).length : Nat) : Int) 0 c op name nn m (nums.map qpc) fk fi ff fr fo (BT.cellsL kids) L) = FL.length + 1 := fun c L => by simp [Kjv]
   rw [φ6]
   have W := fun κ => Wq0 Kaj Kai (Kcx N n) (Kby N n) (Kbt N n) Kbf Ka0 Kbh FL (by have := F.hX; omega) op name nn m (nums.map qpc) fk fi ff fr fo (BT.cellsL kids) κ FL [] (acc ++ (40 :: op.data.toList)) rfl (by simp only [List.length_append, List.length_cons]; omega)
   rw [List.length_map]
   refine (W _).trans ?_
   simp only []
   have φ11 : ∀ c L, Kga (.h1 (BT.cellsL kids) (((BT.cellsL kids).length : Nat) : Int) 0 c L) = kids.length + 1 := fun c L => by simp [Kga, BT.cellsL_eq]
   rw [φ11]
   have K := fun κ => Wuo Kaj Kai (Kcx N n) (Kby N n) (Kbt N n) Kbf Ka0 Kbh kids (by have := F.hkl; omega) (fun x hx => Whf N n x (BT.okL_mem hok x hx) (BT.nokL_mem hnk x hx) (hvk x hx) (by have := BT.depthL_mem x hx; omega)) κ kids [] (acc ++ (40 :: op.data.toList) ++ FL.flatMap (fun w => 32 :: w)) rfl (by simp only [List.length_append, List.length_cons]; omega)
   rw [show (((BT.cellsL kids).length : Nat) : Int) = (kids.length : Nat) by rw [BT.cellsL_eq, List.length_map]]
   refine (K _).trans ?_
   simp only []
   rw [show (⟨#[41]⟩ : W4w) = bt [41] from rfl, ws2 [41] _ (by simp) (by simp only [List.length_append, List.length_cons, List.length_nil]; omega)]
   simp only [List.append_assoc, List.flatMap_append, List.cons_append, List.nil_append]
theorem Wsh (N : Nat) : ∀ (n : Nat) (b : BT), b.ok → b.nok → b.vld = true → b.depth ≤ n → b.txt.length ≤ 140737488355328 → ∀ (κ0 : W4y) (κ1 : Nat → List DV → Option DV), b.call (Kcx N n) κ0 κ1 = κ1 b.txt.length (Kjh (bt b.txt))
 | 0, b, _, _, _, hd, _, _, _ => by cases b; simp [BT.depth] at hd
 | n + 1, .mk op name nn m nums fk fi ff fr fo kids, hb, hn, hv, hd, ht, κ0, κ1 => by
  simp only [BT.depth] at hd
  have hok := hb.2.2.2.2.2.2.2
  have hnk := hn.2
  obtain ⟨s, F, _⟩ := Whe hv
  simp only [BT.vld, Bool.and_eq_true] at hv
  have hvk := BT.vldL_mem hv.2
  have hnl : name.size ≤ 1152921504606846976 := by have := hn.1; unfold reachBytes at this; omega
  show K2v Kai Kah Kaj (Kcx N n) (Kbt N n) (Kby N n) Kbf Ka0 Kbh op name nn m (nums.map qpc) fk fi ff fr fo (BT.cellsL kids) κ0 κ1 = _
  unfold K2v
  rw [K2y, F.hs]
  simp only [shK]
  rw [Wc8]
  rw [BT.txt, F.hs, wdO] at ht ⊢
  have hop : op = bt op.data.toList := (Wb4 op).symm
  cases hbr : bare s with
  | true =>
   obtain ⟨e1, e2⟩ := F.hb hbr
   rw [e1, e2] at ht ⊢
   simp only [BT.txtL, List.append_nil, Wb5] at ht ⊢
   rw [bx_t]
   conv => lhs; rw [hop]
   exact ws0 op.data.toList F.hop ht _ _
  | false =>
   have hne := F.hw hbr
   rw [Wzs hne] at ht ⊢
   have hfl : (fldl s name nn m fk fi ff fr fo nums).length ≤ 4 + nums.length := Wky s name nn m fk fi ff fr fo nums
   have hfp := Whd op name nn m nums fk fi ff fr fo (BT.cellsL kids) s (by have := F.hn; unfold i64; omega) (by have := F.hm; unfold i64; omega) (by have := F.hX; omega) hnl
   generalize fldl s name nn m fk fi ff fr fo nums = FL at hfl hfp ht hne ⊢
   simp only [List.flatMap_append, List.length_append, List.length_cons, List.length_nil] at ht
   rw [bx_f]
   have hr1 : ∀ t : Option DV, bx (decide (((ByteArray.size (⟨#[40]⟩) + op.size : Nat) : Int) > IntKind.max .i64)) none t = t := fun t => by
    rw [Lib.size_eq op, show ByteArray.size (⟨#[40]⟩ : W4w) = 1 from rfl, room (by omega)]
   have hr2 : (⟨#[40]⟩ : W4w) ++ op = bt (40 :: op.data.toList) := by
    rw [show (⟨#[40]⟩ : W4w) = bt [40] from rfl]
    conv => lhs; rw [hop]
    rw [Kxy]; rfl
   rw [hr1, hr2, ws0 (40 :: op.data.toList) (by simp) (by simp only [List.length_cons]; omega), hfp]
   have φ6 : ∀ c L, Km1 (.h1 (FL.map fun w => [sv w]) (((FL.map fun w => [sv w]).length : Nat) : Int) 0 c op name nn m (nums.map qpc) fk fi ff fr fo (BT.cellsL kids) L) = FL.length + 1 := fun c L => by simp [Km1]
   rw [φ6]
   have W := fun κ => Wq1 Kai Kaj (Kcx N n) (Kby N n) (Kbt N n) Kbf Ka0 Kbh FL (by have := F.hX; omega) op name nn m (nums.map qpc) fk fi ff fr fo (BT.cellsL kids) κ FL [] (40 :: op.data.toList) rfl (by simp only [List.length_cons]; omega)
   rw [List.length_map]
   refine (W _).trans ?_
   simp only []
   have φ11 : ∀ c L, Kia (.h1 (BT.cellsL kids) (((BT.cellsL kids).length : Nat) : Int) 0 c L) = kids.length + 1 := fun c L => by simp [Kia, BT.cellsL_eq]
   rw [φ11]
   have K := fun κ => Wup Kai Kaj (Kcx N n) (Kby N n) (Kbt N n) Kbf Ka0 Kbh kids (by have := F.hkl; omega) (fun x hx => Whf N n x (BT.okL_mem hok x hx) (BT.nokL_mem hnk x hx) (hvk x hx) (by have := BT.depthL_mem x hx; omega)) κ kids [] ((40 :: op.data.toList) ++ FL.flatMap (fun w => 32 :: w)) rfl (by simp only [List.length_append, List.length_cons]; omega)
   rw [show (((BT.cellsL kids).length : Nat) : Int) = (kids.length : Nat) by rw [BT.cellsL_eq, List.length_map]]
   refine (K _).trans ?_
   simp only []
   rw [show (⟨#[41]⟩ : W4w) = bt [41] from rfl, ws2 [41] _ (by simp) (by simp only [List.length_append, List.length_cons, List.length_nil]; omega)]
   simp only [List.append_assoc, List.flatMap_append, List.cons_append, List.nil_append]
end Go.Proofs.YtgohccjmphapfaaGreatDoor
end

noncomputable section
namespace Go.Proofs.YtgohccjmphapfaaGreatDoor
open Go Go.Pv Go.RowKit
set_option maxRecDepth 100000
theorem Wuq (l : List UInt8) : (Kjh (bt l)).all Woj = true := by
 rw [List.all_eq_true]
 intro x hx
 unfold Kjh at hx
 obtain ⟨b, _, rfl⟩ := List.mem_map.1 hx
 have hb := b.toNat_lt
 show (true && decide ((0 : Int) ≤ ((b.toNat : Nat) : Int)) && decide (((b.toNat : Nat) : Int) < 256)) = true
 rw [decide_eq_true (by omega), decide_eq_true (by omega)]; rfl
theorem W1b (l : List UInt8) (h0 : l ≠ []) (h : l.length ≤ 140737488355328) (k : KT) : Ke6 l.length (Kjh (bt l)) k = k (bt l) := by
 unfold Ke6
 have hl : l.length ≠ 0 := by simpa using h0
 rw [List.take_of_length_le (by rw [Wc7]; omega), Kpa (by omega), Kpa (by rw [Wc7]; omega), Kpa h, Wuq, Wzq]; rfl
theorem W1c {op name : ByteArray} {n m : Int} {X : List (Int × Int)} {fk : ByteArray} {fi ff : Int} {fr fo : ByteArray} {kids : List BT} {s : Sh} (F : Fit op name n m X fk fi ff fr fo kids s) : (BT.mk op name n m X fk fi ff fr fo kids).txt ≠ [] := by
 rw [BT.txt]
 unfold Wb5
 split
 ·exact F.hop
 ·simp
theorem Wur {N : Nat} (b : BT) (hb : b.ok) (hn : b.nok) (hd : 4 * b.depth ≤ N) (ht : b.vld = true → b.txt.length ≤ 140737488355328) (k : W4o) : b.call (Kxt N) k = bx b.vld (k (bt b.txt) 0) (k ⟨#[]⟩ 2) := by
 have hv := Kxx N N b hb hd
 have hw := Wsh N N b hb hn
 obtain ⟨op, name, n, m, X, fk, fi, ff, fr, fo, kids⟩ := b
 simp only [BT.call] at hv hw ⊢
 unfold Kxt Wat
 rw [show Kjp N = Kps N N from rfl, hv]
 cases h : (BT.mk op name n m X fk fi ff fr fo kids).vld with
 | false => rfl
 | true =>
  obtain ⟨s, F, _⟩ := Whe h
  rw [Bool.not_true, bx_f, bx_t, show K8u N = Kcx N N from rfl, hw h (by omega) (ht h), W1b _ (W1c F) (ht h)]
theorem Ww4 {N : Nat} (hN : 21 ≤ N) (b : BT) (hb : b.ok) (hn : b.nok) (hd : b.depth ≤ N) (ht : b.vld = true → b.txt.length ≤ 140737488355328) (k : W4o) : b.call (Khv N) k = bx b.vld (k (bt b.txt) 0) (k ⟨#[]⟩ 2) := by
 have hv := K5c N N b hb hn hd
 have hw := Wqz N hN N b hb hn
 obtain ⟨op, name, n, m, X, fk, fi, ff, fr, fo, kids⟩ := b
 simp only [BT.call] at hv hw ⊢
 unfold Khv Kub
 rw [show Kgx N = Kem N N from rfl, hv]
 cases h : (BT.mk op name n m X fk fi ff fr fo kids).vld with
 | false => rfl
 | true =>
  rw [Bool.not_true, bx_f, bx_t, show Kq5 N = Kd3 N N from rfl, hw h hd (by have := ht h; omega)]
end Go.Proofs.YtgohccjmphapfaaGreatDoor
end

noncomputable section
namespace Go.Proofs.YtgohccjmphapfaaGreatDoor
open Go Go.Pv Go.RowKit
set_option maxRecDepth 100000
theorem Wus (k r o : W4w) (I F : Int) : (ftl k r o I F).length ≤ 61 := by
 unfold ftl
 cases h : Z.vld k r o I F with
 | false => simp
 | true =>
  obtain ⟨hI, hF, h1, h2, h3⟩ := Whb h
  have l1 := ilen hI
  have l2 := ilen hF
  rw [Lib.size_eq] at h1 h2 h3
  simp only [cond_true, List.length_append, List.length_cons, List.length_nil]
  omega
theorem fla (a b : List (List UInt8)) : ((a ++ b).flatMap (fun w => 32 :: w)).length = (a.flatMap (fun w => 32 :: w)).length + (b.flatMap (fun w => 32 :: w)).length := by
 rw [List.flatMap_append, List.length_append]
theorem Wmw : ∀ X : List (Int × Int), ((X.map qtl).flatMap (fun w => 32 :: w)).length ≤ 44 * X.length
 | [] => by simp
 | q :: X => by
  have := Wmw X
  have := Wzp q
  simp only [List.map_cons, List.flatMap_cons, List.length_append, List.length_cons]
  omega
theorem Wut (s : Sh) (name : W4w) (n m : Int) (fk : W4w) (fi ff : Int) (fr fo : W4w) (X : List (Int × Int)) (hn : i64 n) (hm : i64 m) (hnm : s.name = true → name.size ≤ 40) : ((fldl s name n m fk fi ff fr fo X).flatMap (fun w => 32 :: w)).length ≤ 149 + 44 * X.length := by
 unfold fldl
 rw [fla, fla, fla, fla]
 have h1 := ilen hn
 have h2 := ilen hm
 have h3 := Wus fk fr fo fi ff
 have h5 := Wmw X
 have a1 : ((bif decide (s.ints ≥ 1) then [Lib.itoa n] else []).flatMap (fun w => 32 :: w)).length ≤ 22 := by cases decide (s.ints ≥ 1) <;> simp <;> omega
 have a2 : ((bif decide (s.ints ≥ 2) then [Lib.itoa m] else []).flatMap (fun w => 32 :: w)).length ≤ 22 := by cases decide (s.ints ≥ 2) <;> simp <;> omega
 have a3 : ((bif s.fmt then [ftl fk fr fo fi ff] else []).flatMap (fun w => 32 :: w)).length ≤ 62 := by cases s.fmt <;> simp <;> omega
 have a4 : ((bif s.name then [34 :: (name.data.toList ++ [34])] else []).flatMap (fun w => 32 :: w)).length ≤ 43 := by
  cases h : s.name with
  | false => simp
  | true =>
   have := hnm h
   rw [Lib.size_eq] at this
   simp only [cond_true, List.flatMap_cons, List.flatMap_nil, List.append_nil, List.length_cons, List.length_append, List.length_nil]
   omega
 omega
theorem Wjx {s : ByteArray} (h : K4h s = true) : s.size ≤ 40 := by
 unfold K4h at h
 exact (of_decide_eq_true ((Bool.and_eq_true _ _).mp h).1).2
theorem Ww5 (op : List UInt8) (ws : List (List UInt8)) : (Wb5 op ws).length ≤ op.length + (ws.flatMap (fun w => 32 :: w)).length + 2 := by
 unfold Wb5
 split
 ·simp
 ·simp only [List.length_cons, List.length_append, List.length_nil]; omega
mutual
theorem Wuu : ∀ b : BT, b.vld = true → b.txt.length + 1 ≤ 16384 * b.pre.length
 | .mk op name n m nums fk fi ff fr fo kids, hv => by
  obtain ⟨s, F, ha⟩ := Whe hv
  have hv' := hv
  simp only [BT.vld, Bool.and_eq_true] at hv'
  have hk := Wq2 kids hv'.2
  have hc := Wei F.hs
  unfold Wmr at hc
  simp only [Bool.and_eq_true, Bool.or_eq_true, decide_eq_true_eq, beq_iff_eq] at hc
  obtain ⟨_, _, _, _, _, _, hol⟩ := hc
  rw [tol] at hol
  obtain ⟨_, _, b3, _, _, _, hP, _⟩ := K9w F.hs ha
  have hf := Wut s name n m fk fi ff fr fo nums (by have := F.hn; unfold i64; omega) (by have := F.hm; unfold i64; omega) (fun e => Wjx (hP e))
  rw [BT.txt, F.hs, wdO]
  have hj := Ww5 op.data.toList (fldl s name n m fk fi ff fr fo nums ++ BT.txtL kids)
  rw [fla] at hj
  rw [show (BT.mk op name n m nums fk fi ff fr fo kids).pre.length = 1 + (BT.preL kids).length by simp [BT.pre]; omega]
  omega
theorem Wq2 : ∀ bs : List BT, BT.vldL bs = true → ((BT.txtL bs).flatMap (fun w => 32 :: w)).length ≤ 16384 * (BT.preL bs).length
 | [], _ => by simp [BT.txtL]
 | b :: bs, h => by
  rw [BT.vldL, Bool.and_eq_true] at h
  have h1 := Wuu b h.1
  have h2 := Wq2 bs h.2
  have h3 : 1 ≤ b.pre.length := by cases b; simp [BT.pre]
  simp only [BT.txtL, BT.preL, List.flatMap_cons, List.length_append, List.length_cons]
  omega
end
end Go.Proofs.YtgohccjmphapfaaGreatDoor
end

noncomputable section
namespace Go.Proofs.YtgohccjmphapfaaGreatDoor
open Go Go.Pv Go.RowKit
set_option maxRecDepth 100000
def blk (l : List UInt8) : List UInt8 := Lib.trimLeftS l [32, 10]
theorem Wjy (l : List UInt8) : blk (32 :: l) = blk l := by simp [blk, Lib.trimLeftS]
theorem Wfn {c : UInt8} (l : List UInt8) (h : [32, 10].contains c = false) : blk (c :: l) = c :: l := by
 unfold blk Lib.trimLeftS
 rw [List.dropWhile_cons, h]; rfl
theorem Wzt : blk [] = [] := rfl
theorem Wkz (l : List UInt8) (w : Bool) (κ : W3y) : Kdg (bt l) w κ = κ (bt (blk l)) w := by
 unfold Kdg Kov Kro
 rw [show asc (⟨#[32, 10]⟩ : W4w) = true from by unfold asc; rfl, Kuw]; rfl
def hd (c : UInt8) : List UInt8 → Bool
 | [] => false
 | b :: _ => b == c
theorem K9x (l : List UInt8) (i j : Nat) : (bt l).extract i j = bt ((l.drop i).take (j - i)) := by
 rw [Lib.extract_eq, Kuw]; rfl
theorem Wys (c : UInt8) (l : List UInt8) (k : KB) : Kmz (bt l) (bt [c]) k = k (hd c l) := by
 unfold Kmz Kq2 Ki5 Kq1
 simp only [Kd7]
 cases l with
 | nil => rw [decide_eq_false (by simp)]; rfl
 | cons b l =>
  have c1 : decide ((([c].length : Nat) : Int) ≤ (((b :: l).length : Nat) : Int)) = true := decide_eq_true (by simp only [List.length_cons, List.length_nil]; omega)
  have c2 : decide ((0 : Int) ≤ (([c].length : Nat) : Int)) = true := decide_eq_true (by omega)
  simp only [ge_iff_le, c1, c2, Nat.le_refl, decide_true, Bool.and_self, bx_t]
  rw [K9x, tol, tol, Kuw, Kuw]
  simp [hd]
theorem Wc9 (c : UInt8) (l : List UInt8) (w : Bool) (κ : W4d) : Kfk (bt [c]) (bt l) w κ = κ (hd c (blk l)) (bt (blk l)) w := by
 unfold Kfk Ksa
 rw [Wkz, Wys]
theorem Wjz (c : UInt8) (l r : List UInt8) (h : blk l = c :: r) (w : Bool) (κ : W4d) : Ke7 (bt [c]) (bt l) w κ = κ true (bt r) w := by
 unfold Ke7 Kof
 rw [Wc9, h]
 simp only [hd, beq_self_eq_true, bx_t, Kd7]
 rw [show (decide ((0 : Int) ≤ (((c :: r).length : Nat) : Int)) && decide ((((c :: r).length : Nat) : Int) ≤ (((c :: r).length : Nat) : Int)) && decide ((0 : Int) ≤ (([c].length : Nat) : Int)) && decide ((([c].length : Nat) : Int) ≤ (((c :: r).length : Nat) : Int))) = true by (simp only [Bool.and_eq_true, decide_eq_true_eq, List.length_cons, List.length_nil]; omega), bx_t, K9x]
 simp
theorem Wuv (c : UInt8) (l : List UInt8) (h : hd c (blk l) = false) (w : Bool) (κ : W4d) : Ke7 (bt [c]) (bt l) w κ = κ false (bt (blk l)) w := by
 unfold Ke7 Kof
 rw [Wc9, h]
 rfl
theorem Wo2 (n : Nat) (l : List UInt8) (h : n ≤ l.length) (w : Bool) (κ : W3l) : Kki (n : Int) (bt l) w κ = κ (bt (l.take n)) (bt (l.drop n)) w := by
 unfold Kki Kxc
 simp only [Kd7]
 rw [show (decide ((0 : Int) ≤ (n : Int)) && decide ((n : Int) ≤ ((l.length : Nat) : Int)) && decide ((0 : Nat) ≤ 0) && decide ((0 : Int) ≤ (n : Int))) = true by (simp only [Bool.and_eq_true, decide_eq_true_eq, List.length_cons, List.length_nil]; omega), bx_t]
 rw [show (decide ((0 : Int) ≤ ((l.length : Nat) : Int)) && decide (((l.length : Nat) : Int) ≤ ((l.length : Nat) : Int)) && decide ((0 : Int) ≤ (n : Int)) && decide ((n : Int) ≤ ((l.length : Nat) : Int))) = true by (simp only [Bool.and_eq_true, decide_eq_true_eq, List.length_cons, List.length_nil]; omega), bx_t, K9x, K9x]
 have e : List.take (l.length - n) (List.drop n l) = List.drop n l := List.take_of_length_le (by rw [List.length_drop]; exact Nat.le_refl _)
 simp [e]
def dlm : List UInt8 := [32, 10, 40, 41]
theorem Wyt : ∀ (wd r : List UInt8), (∀ c ∈ wd, dlm.contains c = false) → (r = [] ∨ ∃ c r', r = c :: r' ∧ dlm.contains c = true) → Lib.indexAny (wd ++ r) dlm = if r = [] then -1 else (wd.length : Int)
 | [], r, _, hr => by
  rcases hr with rfl | ⟨c, r', rfl, hc⟩
  ·rfl
  ·simp only [List.nil_append, Lib.indexAny, hc, if_true]; simp
 | b :: wd, r, hw, hr => by
  have ih := Wyt wd r (fun c hc => hw c (List.mem_cons_of_mem _ hc)) hr
  have hb := hw b (List.mem_cons_self ..)
  simp only [List.cons_append, Lib.indexAny, hb, ih]
  by_cases hn : r = []
  ·simp [hn]
  ·simp [hn]
   first | done | omega
theorem Whg (l wd r : List UInt8) (hl : blk l = wd ++ r) (hw : ∀ c ∈ wd, dlm.contains c = false) (hr : r = [] ∨ ∃ c r', r = c :: r' ∧ dlm.contains c = true) (ha : asc (bt (wd ++ r)) = true) (w : Bool) (κ : W3l) :
  Kel (bt l) w κ = κ (bt wd) (bt r) w := by
 unfold Kel Kxd
 rw [Wkz, hl]
 unfold strings_IndexAny
 rw [ha, show asc (⟨#[32, 10, 40, 41]⟩ : W4w) = true from by unfold asc; rfl, Kuw, show (⟨#[32, 10, 40, 41]⟩ : W4w).data.toList = dlm from rfl, Wyt wd r hw hr]
 simp only [Bool.and_self, cond_true]
 by_cases hn : r = []
 ·subst hn
  rw [if_pos rfl, List.append_nil, show decide ((-1 : Int) < 0) = true from rfl, bx_t, Kd7, Wo2 wd.length wd (Nat.le_refl _)]
  simp
 ·rw [if_neg hn, decide_eq_false (by omega), bx_f, Wo2 wd.length (wd ++ r) (by simp)]
  simp
end Go.Proofs.YtgohccjmphapfaaGreatDoor
end

noncomputable section
namespace Go.Proofs.YtgohccjmphapfaaGreatDoor
open Go Go.Pv Go.RowKit
set_option maxRecDepth 100000
def dgt (c : UInt8) : Bool := decide (48 ≤ c.toNat ∧ c.toNat ≤ 57)
theorem Wmx {u : Nat} (h : u < 10) : (UInt8.ofNat (48 + u)).toNat = 48 + u := by
 rw [UInt8.toNat_ofNat']; omega
theorem Wb6 : ∀ u : Nat, (Lib.decDigits u).all dgt = true := by
 intro u
 induction u using Nat.strongRecOn with
 | ind u ih =>
  rw [Lib.decDigits]
  split
  ·rename_i h
   rw [List.all_cons, List.all_nil, Bool.and_true]; unfold dgt; rw [Wmx h]; exact decide_eq_true (by omega)
  ·rename_i h
   rw [List.all_append, ih (u / 10) (by omega), List.all_cons, List.all_nil, Bool.and_true, Bool.true_and]
   unfold dgt; rw [Wmx (Nat.mod_lt _ (by decide))]; exact decide_eq_true (by omega)
theorem Whh (u : Nat) : Lib.decDigits u ≠ [] := by
 rw [Lib.decDigits]; split <;> simp
theorem Wmy (acc : Nat) (d : Nat) (hd : d < 10) (r : List UInt8) (h : acc * 10 + d < 1000000000000000000) : Lib.parseUint10 acc (UInt8.ofNat (48 + d) :: r) = Lib.parseUint10 (acc * 10 + d) r := by
 rw [Lib.parseUint10, Wmx hd, if_pos (by omega), if_neg (by omega), if_neg (by omega)]
 congr 1
 omega
theorem Ww6 : ∀ (u : Nat), u < 1000000000000000000 → ∀ r, Lib.parseUint10 0 (Lib.decDigits u ++ r) = Lib.parseUint10 u r := by
 intro u
 induction u using Nat.strongRecOn with
 | ind u ih =>
  intro hu r
  rw [Lib.decDigits]
  split
  ·rename_i h
   rw [List.cons_append, List.nil_append, Wmy 0 u h r (by omega)]
   congr 1; omega
  ·rename_i h
   rw [List.append_assoc, ih (u / 10) (by omega) (by omega), List.cons_append, List.nil_append, Wmy _ _ (Nat.mod_lt _ (by decide)) r (by omega)]
   congr 1; omega
theorem Wuw (u : Nat) (hu : u < 1000000000000000000) : Lib.parseMag (Lib.decDigits u) = .ok u := by
 have := Ww6 u hu []
 rw [List.append_nil] at this
 rw [Lib.parseMag, if_neg (Whh u), this]; rfl
theorem Wmz {n : Int} (h0 : -1000000000 ≤ n) (h1 : n ≤ 1000000000) : Lib.atoiAll (Lib.itoa n) = .ok n := by
 by_cases hn : n < 0
 ·obtain ⟨u, rfl⟩ : ∃ u : Nat, n = -(u : Int) := ⟨n.natAbs, by omega⟩
  rw [Lib.itoa_neg u (by omega), Lib.atoiAll]
  have e1 : (45 : UInt8).toNat = 45 := rfl
  simp only [e1, or_true, if_true, Wuw u (by omega)]
  rw [if_neg (by simp), if_neg (by omega)]
 ·obtain ⟨u, rfl⟩ : ∃ u : Nat, n = u := ⟨n.toNat, by omega⟩
  rw [Lib.itoa_nonneg]
  have ha := Wb6 u
  have hm := Wuw u (by omega)
  cases hd : Lib.decDigits u with
  | nil => exact absurd hd (Whh u)
  | cons c r =>
   rw [hd] at ha hm
   rw [List.all_cons, Bool.and_eq_true] at ha
   have hc := of_decide_eq_true ha.1
   rw [Lib.atoiAll]
   rw [if_neg (by omega), hm]
   simp only []
   rw [if_neg (by omega), if_neg (by omega), if_neg (by omega)]
theorem Wda {n : Int} (h : i64 n) : ∀ c ∈ Lib.itoa n, dlm.contains c = false := by
 have key : ∀ u : Nat, ∀ c ∈ Lib.decDigits u, dlm.contains c = false := by
  intro u c hc
  have := of_decide_eq_true (List.all_eq_true.1 (Wb6 u) c hc)
  unfold dlm
  simp only [List.contains_cons, List.contains_nil, Bool.or_false, Bool.or_eq_false_iff, beq_eq_false_iff_ne, ne_eq]
  refine ⟨?_, ?_, ?_, ?_⟩ <;> (rintro rfl; revert this; decide)
 by_cases hn : n < 0
 ·obtain ⟨u, rfl⟩ : ∃ u : Nat, n = -(u : Int) := ⟨n.natAbs, by omega⟩
  rw [Lib.itoa_neg u (by omega)]
  intro c hc
  rcases List.mem_cons.1 hc with rfl | hc
  ·rfl
  ·exact key u c hc
 ·obtain ⟨u, rfl⟩ : ∃ u : Nat, n = u := ⟨n.toNat, by omega⟩
  rw [Lib.itoa_nonneg]; exact key u
theorem Ww7 {n : Int} (h : i64 n) (r : List UInt8) : blk (Lib.itoa n ++ r) = Lib.itoa n ++ r := by
 have hd := Wda h
 cases he : Lib.itoa n with
 | nil =>
  exfalso
  by_cases hn : n < 0
  ·obtain ⟨u, rfl⟩ : ∃ u : Nat, n = -(u : Int) := ⟨n.natAbs, by omega⟩
   rw [Lib.itoa_neg u (by omega)] at he; cases he
  ·obtain ⟨u, rfl⟩ : ∃ u : Nat, n = u := ⟨n.toNat, by omega⟩
   rw [Lib.itoa_nonneg] at he; exact Whh u he
 | cons c l =>
  have hc := hd c (by rw [he]; simp)
  rw [List.cons_append]
  apply Wfn
  unfold dlm at hc
  simp only [List.contains_cons, List.contains_nil, Bool.or_false, Bool.or_eq_false_iff] at hc ⊢
  exact ⟨hc.1, hc.2.1⟩
def Ends (r : List UInt8) : Prop := r = [] ∨ ∃ c r', r = c :: r' ∧ dlm.contains c = true
theorem K7v (r : W4w) (κ : W3y) : Kdh true r false κ = κ r false := rfl
theorem Wyu {n : Int} (h : -1000000000 ≤ n ∧ n ≤ 1000000000) (r : List UInt8) (hr : Ends r) (ha : asc (bt (Lib.itoa n ++ r)) = true) (κ : W4t) :
  Kfm (bt (32 :: (Lib.itoa n ++ r))) false κ = κ n (bt r) false := by
 have hi : i64 n := by unfold i64; omega
 unfold Kfm Ksc
 rw [Whg (32 :: (Lib.itoa n ++ r)) (Lib.itoa n) r (by rw [Wjy, Ww7 hi]) (Wda hi) hr ha]
 unfold Koc
 have hl := ilen hi
 rw [Kd7, decide_eq_true (by omega), Kuw, Wmz h.1 h.2]
 simp only [cond_true, atV]
 rw [Wg9 hi]
 simp only [beq_self_eq_true]
 rw [K7v]
end Go.Proofs.YtgohccjmphapfaaGreatDoor
end

noncomputable section
namespace Go.Proofs.YtgohccjmphapfaaGreatDoor
open Go Go.Pv Go.RowKit
set_option maxRecDepth 100000
theorem Whi (c : UInt8) (l : List UInt8) (k : W3y) : Kkh (bt l) (bt [c]) k = bif hd c l then k (bt l.tail) true else k (bt l) false := by
 unfold Kkh Kw8 Kn8 Kq3
 have hp := Wys c l
 unfold Kmz Kq2 at hp
 rw [hp]
 cases l with
 | nil => rfl
 | cons b l =>
  cases h : hd c (b :: l) with
  | false => rfl
  | true =>
   have c1 : decide ((([c].length : Nat) : Int) ≤ (((b :: l).length : Nat) : Int)) = true := decide_eq_true (by simp only [List.length_cons, List.length_nil]; omega)
   have c2 : decide ((0 : Int) ≤ (([c].length : Nat) : Int)) = true := decide_eq_true (by omega)
   have c3 : decide ((0 : Int) ≤ (((b :: l).length : Nat) : Int)) = true := decide_eq_true (by omega)
   have c4 : decide ((((b :: l).length : Nat) : Int) ≤ (((b :: l).length : Nat) : Int)) = true := decide_eq_true (by omega)
   simp only [Kd7, c1, c2, c3, c4, Bool.and_self, bx_t, Bool.not_true, bx_f, cond_true]
   rw [K9x]
   simp
theorem Wux (c : UInt8) (l : List UInt8) (hl : l.length ≤ 1152921504606846976) (k : W3y) : Kp5 (bt (l ++ [c])) (bt [c]) k = k (bt l) true := by
 unfold Kp5 Kw9 Kn9 Kq4 Khs Kmn
 have e0 : (((l ++ [c]).length : Nat) : Int) - (([c].length : Nat) : Int) = (l.length : Nat) := by simp
 have e1 : IntKind.wrap .i64 ((((l ++ [c]).length : Nat) : Int) - (([c].length : Nat) : Int)) = (l.length : Nat) := by rw [e0, Kfo (by omega)]
 have c1 : decide ((([c].length : Nat) : Int) ≤ (((l ++ [c]).length : Nat) : Int)) = true := decide_eq_true (by simp only [List.length_append, List.length_cons, List.length_nil]; omega)
 have c2 : decide ((0 : Int) ≤ ((l.length : Nat) : Int)) = true := decide_eq_true (by omega)
 have c3 : decide ((0 : Int) ≤ (((l ++ [c]).length : Nat) : Int)) = true := decide_eq_true (by omega)
 have c4 : decide ((((l ++ [c]).length : Nat) : Int) ≤ (((l ++ [c]).length : Nat) : Int)) = true := decide_eq_true (by omega)
 have c5 : decide (((l.length : Nat) : Int) ≤ (((l ++ [c]).length : Nat) : Int)) = true := decide_eq_true (by simp only [List.length_append, List.length_cons, List.length_nil]; omega)
 simp only [ge_iff_le, Kd7, e1, c1, c2, c3, c4, c5, Nat.le_refl, decide_true, Bool.and_self, bx_t, Bool.not_true, bx_f]
 rw [K9x, K9x, tol, tol, Kuw, Kuw]
 simp [bx]
theorem Wj0 {s : ByteArray} (h : K4h s = true) : ∀ c ∈ s.data.toList, pbI (c.toNat : Nat) = true := by
 unfold K4h at h
 exact List.all_eq_true.1 ((Bool.and_eq_true _ _).mp h).2
theorem Wyv {c : UInt8} (h : pbI (c.toNat : Nat) = true) : dlm.contains c = false ∧ c.toNat < 128 := by
 unfold pbI at h
 simp only [Bool.or_eq_true, Bool.and_eq_true, decide_eq_true_eq, beq_iff_eq] at h
 constructor
 ·unfold dlm
  simp only [List.contains_cons, List.contains_nil, Bool.or_false, Bool.or_eq_false_iff, beq_eq_false_iff_ne, ne_eq]
  refine ⟨?_, ?_, ?_, ?_⟩ <;> (rintro rfl; revert h; decide)
 ·omega
theorem Wzu {nm : ByteArray} (hp : K4h nm = true) (r : List UInt8) (hr : Ends r) (ha : asc (bt ((34 :: (nm.data.toList ++ [34])) ++ r)) = true) (κ : W3l) :
  Kja (bt (32 :: ((34 :: (nm.data.toList ++ [34])) ++ r))) false κ = κ nm (bt r) false := by
 have hs := Wjx hp
 rw [Lib.size_eq] at hs
 unfold Kja Kxe
 rw [Whg _ (34 :: (nm.data.toList ++ [34])) r (by rw [Wjy]; exact Wfn _ rfl) ?_ hr ha]
 ·rw [show (⟨#[34]⟩ : W4w) = bt [34] from rfl, Whi]
  simp only [hd, beq_self_eq_true, cond_true, List.tail_cons]
  rw [Wux 34 nm.data.toList (by omega)]
  simp only [bx_t]
  rw [K7v, Wb4]
 ·intro c hc
  rcases List.mem_cons.1 hc with rfl | hc
  ·rfl
  ·rcases List.mem_append.1 hc with hc | hc
   ·exact (Wyv (Wj0 hp c hc)).1
   ·simp at hc; subst hc; rfl
end Go.Proofs.YtgohccjmphapfaaGreatDoor
end
