import Derived.Test.YtgohccjmphapfaaGreatDoorJh
set_option linter.all false
noncomputable section
namespace Go.Proofs.YtgohccjmphapfaaGreatDoor
open Go Go.Pv Go.RowKit
mutual
def BT.pre : BT → List BT
 | .mk op name n m nums fk fi ff fr fo kids => .mk op name n m nums fk fi ff fr fo kids :: BT.preL kids
def BT.preL : List BT → List BT
 | [] => []
 | b :: bs => b.pre ++ BT.preL bs
end
def BT.opn : BT → List UInt8
 | .mk op _ _ _ _ _ _ _ _ _ _ => op.toList
mutual
def BT.hav (l : List UInt8) : BT → List BT
 | .mk op name n m nums fk fi ff fr fo kids => (bif op.toList == l then [.mk op name n m nums fk fi ff fr fo kids] else []) ++ BT.havL l kids
def BT.havL (l : List UInt8) : List BT → List BT
 | [] => []
 | b :: bs => b.hav l ++ BT.havL l bs
end
mutual
theorem BT.hav_pre (l : List UInt8) : ∀ b : BT, b.hav l = b.pre.filter (fun x => x.opn == l)
 | .mk op name n m nums fk fi ff fr fo kids => by
  rw [BT.hav, BT.pre, List.filter_cons, BT.hav_preL l kids]
  by_cases h : (op.toList == l) = true
  ·rw [if_pos (show ((BT.mk op name n m nums fk fi ff fr fo kids).opn == l) = true from h), h]; rfl
  ·rw [if_neg (show ¬ ((BT.mk op name n m nums fk fi ff fr fo kids).opn == l) = true from h), (by simpa using h : (op.toList == l) = false)]; rfl
theorem BT.hav_preL (l : List UInt8) : ∀ bs : List BT, BT.havL l bs = (BT.preL bs).filter (fun x => x.opn == l)
 | [] => rfl
 | b :: bs => by rw [BT.havL, BT.preL, List.filter_append, BT.hav_pre l b, BT.hav_preL l bs]
end
def flat (l : List BT) : W4z := (l.map BT.cells).flatten
theorem Wqm (a b : List BT) : flat (a ++ b) = flat a ++ flat b := by unfold flat; rw [List.map_append, List.flatten_append]
theorem K7u : ∀ l : List BT, (flat l).length = l.length * 11
 | [] => rfl
 | b :: l => by
  have : flat (b :: l) = b.cells ++ flat l := rfl
  rw [this, List.length_append, BT.cells_len, K7u l, List.length_cons]; omega
theorem Wb2 : ∀ l : List BT, Kcy 11 l.length (flat l) = l.map BT.cells
 | [] => rfl
 | b :: l => by
  have : flat (b :: l) = b.cells ++ flat l := rfl
  rw [List.length_cons, Kcy, this, List.take_left' (BT.cells_len b), List.drop_left' (BT.cells_len b), Wb2 l]; rfl
theorem Wgt : ∀ l : List BT, List.all (flat l) Kh0 = true
 | [] => rfl
 | b :: l => by
  have : flat (b :: l) = b.cells ++ flat l := rfl
  rw [this, List.all_append, Wgt l]
  cases b; rfl
def Kh7 (n : Nat) : Prop := n ≤ 800000000000
theorem Kpa {a b : Nat} (h : a ≤ b) : Nat.ble a b = true := Nat.ble_eq_true_of_le h
theorem Kum : 800000000000 ≤ maxLen := by decide
theorem Wyl {a b : Nat} {l : List DV} (hl : l.length = a * 11) (h : Kh7 (a + b)) : (true && true && Nat.ble (a * 11) (l.length) && Nat.ble (a + b) maxLen && Nat.ble ((a + b) * 160) 140737488355328) = true := by
 have hm := Kum
 unfold Kh7 at h
 rw [Kpa (show a * 11 ≤ l.length by omega), Kpa (show a + b ≤ maxLen by omega), Kpa (show (a + b) * 160 ≤ 140737488355328 by omega)]; rfl
theorem W06 {b : Nat} (h : Kh7 b) : (Nat.ble b maxLen && Nat.ble (b * 160) 140737488355328) = true := by
 have hm := Kum
 unfold Kh7 at h
 rw [Kpa (show b ≤ maxLen by omega), Kpa (show b * 160 ≤ 140737488355328 by omega)]; rfl
theorem Wmk (f0 : W2d) (a b : W4w) (c d : Int) (e : W4x) (f : W4w) (g h : Int) (i j : W4w) (kids : List BT) (hl : kids.length < 9223372036854775807) (hf : ∀ x ∈ kids, ∀ k : List (List DV) → Option DV, x.call f0 k = k (x.pre.map BT.cells)) (κ : W31) :
  ∀ (rest done acc : List BT), kids = done ++ rest → Kh7 (acc ++ BT.preL rest).length → LF (Khg f0) (rest.length + 1) (.h0 acc.length done.length a b c d e f g h i j (BT.cellsL kids) (flat acc)) κ = κ (acc ++ BT.preL rest).length (flat (acc ++ BT.preL rest))
 | [], done, acc, he, hb => by
  simp only [LF, Khg, BT.cellsL_eq, List.length_map, BT.preL, List.append_nil]
  have : decide ((done.length : Int) < (kids.length : Int)) = false := by simp [he]
  rw [this, bx_f]
 | x :: rest, done, acc, he, hb => by
  have hpre : acc ++ BT.preL (x :: rest) = (acc ++ x.pre) ++ BT.preL rest := by rw [BT.preL, List.append_assoc]
  have ih := Wmk f0 a b c d e f g h i j kids hl hf κ rest (done ++ [x]) (acc ++ x.pre) (by simp [he]) (hpre ▸ hb)
  have hlen : kids.length = done.length + rest.length + 1 := by simp [he]; omega
  rw [show (x :: rest).length + 1 = (rest.length + 1) + 1 from rfl, LF]
  simp only [Khg, BT.cellsL_eq, List.length_map]
  have h1 : decide ((done.length : Int) < (kids.length : Int)) = true := by simp; omega
  have h2 : decide (0 ≤ (done.length : Int)) = true := by simp
  have h3 : (kids.map BT.cells)[Int.toNat (done.length : Int)]? = some x.cells := by simp [he]
  have hc : ∀ K : List (List DV) → Option DV, x.call (fun v2 v3 v4 v5 v6 v7 v8 v9 v10 v11 v12 => f0 v2 v3 v4 v5 v6 v7 v8 v9 v10 v11 v12 K) = x.call f0 K := fun K => by cases x; rfl
  rw [h1, bx_t, h2, bx_t, h3]
  simp only [optE]
  rw [Kmb, hc, hf x (by simp [he])]
  have h4 : Nat.beq (List.length (x.pre.map BT.cells)) 0 = false := by cases x; rfl
  have h5 : List.all (List.flatten (x.pre.map BT.cells)) Kh0 = true := Wgt x.pre
  have hb2 : Kh7 (acc.length + x.pre.length) := by
   unfold Kh7 at *
   rw [hpre, List.length_append, List.length_append] at hb; omega
  rw [h4, bx_f, h5, bx_t, List.length_map, Wyl (K7u acc) hb2, bx_t]
  rw [List.take_of_length_le (by rw [K7u]; omega)]
  rw [Kcp (by omega) (by omega)]
  rw [show (done.length : Int) + 1 = ((done ++ [x]).length : Nat) by simp]
  rw [show flat acc ++ List.flatten (x.pre.map BT.cells) = flat (acc ++ x.pre) from (Wqm _ _).symm, show acc.length + x.pre.length = (acc ++ x.pre).length from List.length_append.symm]
  rw [← BT.cellsL_eq, ih, hpre]
theorem BT.preL_mem {x : BT} : ∀ {bs : List BT}, x ∈ bs → x.pre.length ≤ (BT.preL bs).length
 | b :: bs, hx => by
  rw [BT.preL, List.length_append]
  rcases List.mem_cons.1 hx with rfl | hx
  ·omega
  ·have := BT.preL_mem hx; omega
theorem Wc6 (N : Nat) : ∀ (n : Nat) (b : BT), b.ok → b.depth ≤ n → Kh7 b.pre.length → ∀ k : List (List DV) → Option DV, b.call (Khn N n) k = k (b.pre.map BT.cells)
 | 0, b, _, hd, _, k => by cases b; simp [BT.depth] at hd
 | n + 1, .mk op name nn m nums fk fi ff fr fo kids, hb, hd, hfit, k => by
  simp only [BT.depth] at hd
  have hok := hb.2.2.2.2.2.2.2
  have hl : kids.length * 160 ≤ reachBytes := hb.2.2.2.2.2.2.1
  have hr : reachBytes < 9223372036854775807 := by decide
  have hfit' : (BT.preL kids).length + 1 ≤ 800000000000 := hfit
  have hrec := Wmk (Khn N n) op name nn m (nums.map qpc) fk fi ff fr fo kids (by omega) (fun x hx k => Wc6 N n x (BT.okL_mem hok x hx) (by have := BT.depthL_mem x hx; omega) (by have := BT.preL_mem hx; unfold Kh7; omega) k) (fun z w => bx (Nat.ble (0 + z * 11) (w.length)) (k (Kcy 11 z (List.drop 0 w))) none) kids [] [.mk op name nn m nums fk fi ff fr fo kids] rfl hfit
  refine Eq.trans ?_ (Eq.trans hrec ?_)
  ·show LF _ _ _ _ = LF _ _ _ _
   congr 1
   simp [Kkp, BT.cellsL_eq]
  ·show bx (Nat.ble (0 + (BT.pre (.mk op name nn m nums fk fi ff fr fo kids)).length * 11) (List.length (flat (BT.pre (.mk op name nn m nums fk fi ff fr fo kids))))) _ _ = _
   rw [Kpa (by rw [K7u]; omega), bx_t, List.drop_zero]
   exact congrArg k (Wb2 _)
theorem K9v (f0 : W2e) (s : W4w) (kids : List BT) (hl : kids.length < 9223372036854775807) (hf : ∀ x ∈ kids, ∀ k : List (List DV) → Option DV, x.call (f0 s) k = k ((x.hav s.toList).map BT.cells)) (κ : W4n) :
  ∀ (rest done acc : List BT), kids = done ++ rest → Kh7 (acc ++ BT.havL s.toList rest).length → LF (Kgt f0) (rest.length + 1) (.h0 s acc.length (BT.cellsL kids) (kids.length : Nat) done.length (flat acc)) κ = κ.1 (acc ++ BT.havL s.toList rest).length (flat (acc ++ BT.havL s.toList rest))
 | [], done, acc, he, hb => by
  simp only [LF, Kgt, BT.havL, List.append_nil]
  have : decide ((done.length : Int) < (kids.length : Int)) = false := by simp [he]
  rw [this, bx_f]
 | x :: rest, done, acc, he, hb => by
  have hpre : acc ++ BT.havL s.toList (x :: rest) = (acc ++ x.hav s.toList) ++ BT.havL s.toList rest := by rw [BT.havL, List.append_assoc]
  have ih := K9v f0 s kids hl hf κ rest (done ++ [x]) (acc ++ x.hav s.toList) (by simp [he]) (hpre ▸ hb)
  have hlen : kids.length = done.length + rest.length + 1 := by simp [he]; omega
  rw [show (x :: rest).length + 1 = (rest.length + 1) + 1 from rfl, LF]
  simp only [Kgt]
  have h1 : decide ((done.length : Int) < (kids.length : Int)) = true := by simp; omega
  have h2 : decide (0 ≤ (done.length : Int)) = true := by simp
  have h3 : (BT.cellsL kids)[Int.toNat (done.length : Int)]? = some x.cells := by rw [BT.cellsL_eq]; simp [he]
  have hc : ∀ K : List (List DV) → Option DV, x.call (fun v2 v3 v4 v5 v6 v7 v8 v9 v10 v11 v12 => f0 s v2 v3 v4 v5 v6 v7 v8 v9 v10 v11 v12 K) = x.call (f0 s) K := fun K => by cases x; rfl
  rw [h1, bx_t, h2, bx_t, h3]
  simp only [optE]
  rw [Kmb, hc, hf x (by simp [he])]
  have h5 : List.all (List.flatten ((x.hav s.toList).map BT.cells)) Kh0 = true := Wgt _
  have hb2 : Kh7 (acc.length + (x.hav s.toList).length) := by
   unfold Kh7 at *
   rw [hpre, List.length_append, List.length_append] at hb; omega
  rw [Kcp (by omega) (by omega), show (done.length : Int) + 1 = ((done ++ [x]).length : Nat) by simp]
  rw [List.length_map]
  by_cases h0 : x.hav s.toList = []
  ·rw [h0]
   rw [show Nat.beq (List.length ([] : List BT)) 0 = true from rfl, bx_t, hpre]
   rw [h0, List.append_nil] at ih ⊢
   exact ih
  ·have h4 : Nat.beq (x.hav s.toList).length 0 = false := by
    cases hx : x.hav s.toList with
    | nil => exact absurd hx h0
    | cons q r => rfl
   rw [h4, bx_f, h5, bx_t, Wyl (K7u acc) hb2, bx_t]
   rw [List.take_of_length_le (by rw [K7u]; omega)]
   rw [show flat acc ++ List.flatten ((x.hav s.toList).map BT.cells) = flat (acc ++ x.hav s.toList) from (Wqm _ _).symm, show acc.length + (x.hav s.toList).length = (acc ++ x.hav s.toList).length from List.length_append.symm]
   rw [ih, hpre]
def Wzj (κ : W4n) (l : List BT) : W4y := match l with | [] => κ.2 | b :: r => κ.1 (b :: r).length (flat (b :: r))
theorem Wwv {κ : (Nat → List DV → Option DV) × Option DV} {l : List BT} (h : l ≠ []) : Wzj κ l = κ.1 l.length (flat l) := by
 cases l with
 | nil => exact absurd rfl h
 | cons b r => rfl
theorem Wfm (f0 : W2e) (s : W4w) (kids : List BT) (hl : kids.length < 9223372036854775807) (hf : ∀ x ∈ kids, ∀ k : List (List DV) → Option DV, x.call (f0 s) k = k ((x.hav s.toList).map BT.cells)) (κ : W4n) :
  ∀ (rest done : List BT), kids = done ++ rest → Kh7 (BT.havL s.toList rest).length → LF (Kgt f0) (rest.length + 1) (.h1 s (BT.cellsL kids) (kids.length : Nat) done.length) κ = Wzj κ (BT.havL s.toList rest)
 | [], done, he, hb => by
  simp only [LF, Kgt, BT.havL]
  have : decide ((done.length : Int) < (kids.length : Int)) = false := by simp [he]
  rw [this, bx_f]; rfl
 | x :: rest, done, he, hb => by
  have hlen : kids.length = done.length + rest.length + 1 := by simp [he]; omega
  have hb1 : (x.hav s.toList).length + (BT.havL s.toList rest).length ≤ 800000000000 := by
   have : (BT.havL s.toList (x :: rest)).length ≤ 800000000000 := hb
   rw [BT.havL, List.length_append] at this; exact this
  rw [show (x :: rest).length + 1 = (rest.length + 1) + 1 from rfl, LF]
  simp only [Kgt]
  have h1 : decide ((done.length : Int) < (kids.length : Int)) = true := by simp; omega
  have h2 : decide (0 ≤ (done.length : Int)) = true := by simp
  have h3 : (BT.cellsL kids)[Int.toNat (done.length : Int)]? = some x.cells := by rw [BT.cellsL_eq]; simp [he]
  have hc : ∀ K : List (List DV) → Option DV, x.call (fun v2 v3 v4 v5 v6 v7 v8 v9 v10 v11 v12 => f0 s v2 v3 v4 v5 v6 v7 v8 v9 v10 v11 v12 K) = x.call (f0 s) K := fun K => by cases x; rfl
  rw [h1, bx_t, h2, bx_t, h3]
  simp only [optE]
  rw [Kmb, hc, hf x (by simp [he])]
  have h5 : List.all (List.flatten ((x.hav s.toList).map BT.cells)) Kh0 = true := Wgt _
  rw [Kcp (by omega) (by omega), show (done.length : Int) + 1 = ((done ++ [x]).length : Nat) by simp]
  rw [List.length_map, BT.havL]
  by_cases h0 : x.hav s.toList = []
  ·rw [h0]
   rw [show Nat.beq (List.length ([] : List BT)) 0 = true from rfl, bx_t]
   exact Wfm f0 s kids hl hf κ rest (done ++ [x]) (by simp [he]) (by unfold Kh7; omega)
  ·have h4 : Nat.beq (x.hav s.toList).length 0 = false := by
    cases hx : x.hav s.toList with
    | nil => exact absurd hx h0
    | cons q r => rfl
   rw [h4, bx_f, h5, bx_t, W06 (show Kh7 (x.hav s.toList).length by unfold Kh7; omega), bx_t]
   rw [Wwv (by simp [h0])]
   exact K9v f0 s kids hl hf κ rest (done ++ [x]) (x.hav s.toList) (by simp [he]) (by unfold Kh7; rw [List.length_append]; omega)
mutual
theorem BT.havL_len (l : List UInt8) (bs : List BT) : (BT.havL l bs).length ≤ (BT.preL bs).length := by rw [BT.hav_preL]; exact List.length_filter_le _ _
end
theorem K22 (N : Nat) (s : W4w) : ∀ (n : Nat) (b : BT), b.ok → b.depth ≤ n → Kh7 b.pre.length → ∀ k : List (List DV) → Option DV, b.call (Kji N n s) k = k ((b.hav s.toList).map BT.cells)
 | 0, b, _, hd, _, k => by cases b; simp [BT.depth] at hd
 | n + 1, .mk op name nn m nums fk fi ff fr fo kids, hb, hd, hfit, k => by
  simp only [BT.depth] at hd
  have hok := hb.2.2.2.2.2.2.2
  have hl : kids.length * 160 ≤ reachBytes := hb.2.2.2.2.2.2.1
  have hr : reachBytes < 9223372036854775807 := by decide
  have hfit' : (BT.preL kids).length + 1 ≤ 800000000000 := hfit
  have hrec : ∀ x ∈ kids, ∀ k : List (List DV) → Option DV, x.call (Kji N n s) k = k ((x.hav s.toList).map BT.cells) := fun x hx k => K22 N s n x (BT.okL_mem hok x hx) (by have := BT.depthL_mem x hx; omega) (by have := BT.preL_mem hx; unfold Kh7; omega) k
  have hhl := BT.havL_len s.toList kids
  have hout : ∀ l : List BT, bx (Nat.ble (0 + l.length * 11) (List.length (flat l))) (k (Kcy 11 l.length (List.drop 0 (flat l)))) none = k (l.map BT.cells) := fun l => by
   rw [Kpa (by rw [K7u]; omega), bx_t, List.drop_zero, Wb2]
  have hon : ∀ l : List BT, Wzj ((fun z w => bx (Nat.ble (0 + z * 11) (w.length)) (k (Kcy 11 z (List.drop 0 w))) none), k []) l = k (l.map BT.cells) := fun l => by
   cases l with
   | nil => rfl
   | cons q r => exact hout (q :: r)
  have hk : (BT.cellsL kids).length = kids.length := by simp [BT.cellsL_eq]
  show K0f (Kji N n) s op name nn m (nums.map qpc) fk fi ff fr fo (BT.cellsL kids) k = _
  unfold K0f
  rw [BT.hav, hk]
  cases (op.toList == s.toList) with
  | true =>
   rw [bx_t]
   have := K9v (Kji N n) s kids (by omega) hrec ((fun z w => bx (Nat.ble (0 + z * 11) (w.length)) (k (Kcy 11 z (List.drop 0 w))) none), k []) kids [] [.mk op name nn m nums fk fi ff fr fo kids] rfl (by unfold Kh7; rw [List.length_append, List.length_singleton]; omega)
   refine Eq.trans ?_ (Eq.trans this (hout _))
   show LF _ _ _ _ = LF _ _ _ _
   congr 1
  | false =>
   rw [bx_f]
   have := Wfm (Kji N n) s kids (by omega) hrec ((fun z w => bx (Nat.ble (0 + z * 11) (w.length)) (k (Kcy 11 z (List.drop 0 w))) none), k []) kids [] rfl (by unfold Kh7; omega)
   refine Eq.trans ?_ (Eq.trans this (hon _))
   show LF _ _ _ _ = LF _ _ _ _
   congr 1
end Go.Proofs.YtgohccjmphapfaaGreatDoor
end

noncomputable section
namespace Go.Proofs.YtgohccjmphapfaaGreatDoor
open Go Go.Pv Go.RowKit
def BT.nam : BT → ByteArray
 | .mk _ name _ _ _ _ _ _ _ _ _ => name
def BT.num : BT → List (Int × Int)
 | .mk _ _ _ _ nums _ _ _ _ _ _ => nums
theorem Krt (s : W4w) : Krz s s = true := by unfold Krz; exact beq_self_eq_true _
theorem Kwq {s t : ByteArray} (h : s ≠ t) : Krz s t = false := by
 cases hk : Krz s t with
 | false => rfl
 | true => exact absurd (Wa4 hk) h
theorem Wg5 (s t : W4w) (x : DV) : ∀ D : List (ByteArray × DV), dget (dset D s x) t = bif Krz t s then some x else dget D t
 | [] => rfl
 | (a, d) :: l => by
  have ih := Wg5 s t x l
  by_cases hsa : s = a
  ·subst hsa
   rw [dset, Krt, cond_true, dget, dget]
   cases Krz t s <;> rfl
  ·rw [dset, Kwq hsa, cond_false, dget, dget, ih]
   by_cases hta : t = a
   ·subst hta
    rw [Krt, cond_true, cond_true, Kwq (fun h => hsa h.symm)]; rfl
   ·rw [Kwq hta, cond_false, cond_false]
theorem Wjs (X Y : List (Int × Int)) (hl : X.length < 9223372036854775807) (κ : KB × Option DV) : ∀ (r1 r2 d1 d2 : List (Int × Int)), X = d1 ++ r1 → Y = d2 ++ r2 → d1.length = d2.length → r1.length = r2.length →
  LF Kd5 (r1.length + 1) (.h0 (X.map qpc) (Y.map qpc) (X.length : Nat) d1.length) κ = bx (decide (r1 = r2)) κ.2 (κ.1 false)
 | [], [], d1, d2, hX, hY, hd, hr => by
  simp only [LF, Kd5]
  have : decide ((d1.length : Int) < (X.length : Int)) = false := by simp [hX]
  rw [this, bx_f]; rfl
 | q :: r1, r :: r2, d1, d2, hX, hY, hd, hr => by
  have hlx : X.length = d1.length + r1.length + 1 := by simp [hX]; omega
  have ih := Wjs X Y hl κ r1 r2 (d1 ++ [q]) (d2 ++ [r]) (by simp [hX]) (by simp [hY]) (by simp [hd]) (by simpa using hr)
  rw [show (q :: r1).length + 1 = (r1.length + 1) + 1 from rfl, LF]
  simp only [Kd5]
  have h1 : decide ((d1.length : Int) < (X.length : Int)) = true := by simp; omega
  have h2 : decide (0 ≤ (d1.length : Int)) = true := by simp
  have h3 : (X.map qpc)[Int.toNat (d1.length : Int)]? = some (qpc q) := by simp [hX]
  have h4 : (Y.map qpc)[Int.toNat (d1.length : Int)]? = some (qpc r) := by rw [hd]; simp [hY]
  simp only [h1, h2, h3, h4, bx_t, optE, ld_q]
  rw [Kcp (by omega) (by omega)]
  rw [show (d1.length : Int) + 1 = ((d1 ++ [q]).length : Nat) by simp, ih]
  by_cases e : q = r
  ·subst e
   simp [bx_f]
  ·have e' : ((q.1 == r.1) && ((q.2 == r.2) && true)) = false := by
    have : ¬ (q.1 = r.1 ∧ q.2 = r.2) := fun h => e (Prod.ext h.1 h.2)
    simpa using this
   rw [e']
   simp [e, bx_t, bx_f]
theorem Wsc (X Y : List (Int × Int)) (hl : X.length < 9223372036854775807) (k : KB) : Kbc (X.map qpc) (Y.map qpc) k = k (decide (X = Y)) := by
 unfold Kbc Kla
 simp only [List.length_map]
 by_cases h : X.length = Y.length
 ·have e : (((X.length : Nat) : Int) != ((Y.length : Nat) : Int)) = false := by simp [h]
  rw [e, bx_f]
  have hf : Keu (Kbi.h0 (X.map qpc) (Y.map qpc) (X.length : Nat) 0) = X.length + 1 := by simp [Keu]
  rw [hf]
  refine Eq.trans (Wjs X Y hl ((fun z => k z), k true) X Y [] [] rfl rfl rfl h) ?_
  cases decide (X = Y) <;> rfl
 ·have e : (((X.length : Nat) : Int) != ((Y.length : Nat) : Int)) = true := by simp; omega
  rw [e, bx_t, decide_eq_false (fun hxy => h (by rw [hxy]))]
def Inv1 (D : List (ByteArray × DV)) (l : List BT) : Prop := ∀ s, (dget D s = none ∧ ∀ y ∈ l, y.nam ≠ s) ∨ ∃ X, dget D s = some (.lst 2 (X.map qpc)) ∧ (∃ y ∈ l, y.nam = s) ∧ X.length < 9223372036854775807 ∧ ∀ y ∈ l, y.nam = s → y.num = X
def Inv2 (D : List (ByteArray × DV)) (l : List BT) : Prop := ∀ s, (dget D s = none ∧ ∀ y ∈ l, y.nam ≠ s) ∨ (dget D s = some (.val (.bool true)) ∧ ∃ y ∈ l, y.nam = s)
def R1 (y x : BT) : Prop := y.nam = x.nam → y.num = x.num
theorem Wqn {D : List (ByteArray × DV)} {l : List BT} {x : BT} (h : Inv1 D l) (hx : x.num.length < 9223372036854775807) (hp : ∀ y ∈ l, y.nam = x.nam → y.num = x.num) : Inv1 (dset D x.nam (.lst 2 (x.num.map qpc))) (l ++ [x]) := by
 intro s
 rw [Wg5]
 by_cases hs : s = x.nam
 ·subst hs
  rw [Krt, cond_true]
  refine .inr ⟨x.num, rfl, ⟨x, by simp, rfl⟩, hx, fun y hy hn => ?_⟩
  rcases List.mem_append.1 hy with hy | hy
  ·exact hp y hy hn
  ·rw [List.mem_singleton.1 hy]
 ·rw [Kwq hs, cond_false]
  rcases h s with ⟨h1, h2⟩ | ⟨X, h1, ⟨y, hy, hn⟩, h3, h4⟩
  ·refine .inl ⟨h1, fun y hy => ?_⟩
   rcases List.mem_append.1 hy with hy | hy
   ·exact h2 y hy
   ·rw [List.mem_singleton.1 hy]; exact fun h => hs h.symm
  ·refine .inr ⟨X, h1, ⟨y, List.mem_append_left _ hy, hn⟩, h3, fun z hz hzn => ?_⟩
   rcases List.mem_append.1 hz with hz | hz
   ·exact h4 z hz hzn
   ·rw [List.mem_singleton.1 hz] at hzn; exact absurd hzn.symm hs
theorem Wku {D : List (ByteArray × DV)} {l : List BT} {x : BT} (h : Inv2 D l) : Inv2 (dset D x.nam (.val (.bool true))) (l ++ [x]) := by
 intro s
 rw [Wg5]
 by_cases hs : s = x.nam
 ·subst hs
  rw [Krt, cond_true]
  exact .inr ⟨rfl, x, by simp, rfl⟩
 ·rw [Kwq hs, cond_false]
  rcases h s with ⟨h1, h2⟩ | ⟨h1, y, hy, hn⟩
  ·refine .inl ⟨h1, fun y hy => ?_⟩
   rcases List.mem_append.1 hy with hy | hy
   ·exact h2 y hy
   ·rw [List.mem_singleton.1 hy]; exact fun h => hs h.symm
  ·exact .inr ⟨h1, y, List.mem_append_left _ hy, hn⟩
theorem Wkv {R : BT → BT → Prop} {l : List BT} {x : BT} (h : l.Pairwise R) (hx : ∀ y ∈ l, R y x) : (l ++ [x]).Pairwise R :=
 List.pairwise_append.2 ⟨h, by simp, fun a ha b hb => by rw [List.mem_singleton.1 hb]; exact hx a ha⟩
theorem Wov (f1 : W2e) (a b : W4w) (c d : Int) (e : W4x) (f : W4w) (g h : Int) (i j : W4w) (q : W4x) (Ks : List BT) (hl : Ks.length < 9223372036854775807) (hn : ∀ x ∈ Ks, x.num.length < 9223372036854775807) (κ : (Bool → ByteArray → ByteArray → Int → Int → List (List DV) → ByteArray → Int → Int → ByteArray → ByteArray → List (List DV) → List (ByteArray × DV) → Option DV) × (ByteArray → ByteArray → Int → Int → List (List DV) → ByteArray → Int → Int → ByteArray → ByteArray → List (List DV) → List (ByteArray × DV) → Option DV)) :
  ∀ (rest done : List BT) (T : List (ByteArray × DV)), Ks = done ++ rest → done.Pairwise R1 → Inv1 T done →
  (Ks.Pairwise R1 ∧ ∃ T', Inv1 T' Ks ∧ LF (Ken Kbc f1) (rest.length + 1) (.h0 (Ks.map BT.cells) (Ks.length : Nat) done.length a b c d e f g h i j q T) κ = κ.2 a b c d e f g h i j q T') ∨
  (¬ Ks.Pairwise R1 ∧ ∃ T', LF (Ken Kbc f1) (rest.length + 1) (.h0 (Ks.map BT.cells) (Ks.length : Nat) done.length a b c d e f g h i j q T) κ = κ.1 false a b c d e f g h i j q T')
 | [], done, T, he, hp, hi => by
  rw [List.append_nil] at he
  subst he
  refine .inl ⟨hp, T, hi, ?_⟩
  simp only [LF, Ken]
  have : decide ((Ks.length : Int) < (Ks.length : Int)) = false := by simp
  rw [this, bx_f]
 | x :: rest, done, T, he, hp, hi => by
  have hlen : Ks.length = done.length + rest.length + 1 := by simp [he]; omega
  have h1 : decide ((done.length : Int) < (Ks.length : Int)) = true := by simp; omega
  have h2 : decide (0 ≤ (done.length : Int)) = true := by simp
  have h3 : (Ks.map BT.cells)[Int.toNat (done.length : Int)]? = some x.cells := by simp [he]
  have hxn : x.num.length < 9223372036854775807 := hn x (by simp [he])
  have hw : IntKind.wrap .i64 ((done.length : Int) + 1) = ((done ++ [x]).length : Nat) := by rw [Kcp (by omega) (by omega)]; simp
  have hstep : ∀ (g : ByteArray → List (List DV) → Option DV), Kal x.cells 0 (fun v3 v4 v5 v6 v7 v8 v9 v10 v11 v12 v13 => g v4 v7) = g x.nam (x.num.map qpc) := fun g => by cases x; rfl
  rw [show (x :: rest).length + 1 = (rest.length + 1) + 1 from rfl, LF]
  simp only [Ken, h1, h2, h3, bx_t, optE]
  rw [hstep (fun v4 v7 => optV (dget T v4) (fun d14 => Wwi ([d14]) 0 (fun v15 => Kbc v15 v7 (fun r16 => bx (!r16) (κ.1 false a b c d e f g h i j q T) (LF (Ken Kbc f1) (rest.length + 1) (.h0 (Ks.map BT.cells) (Ks.length : Nat) (IntKind.wrap .i64 ((done.length : Int) + 1)) a b c d e f g h i j q (dset T v4 (.lst 2 v7))) κ)))) (LF (Ken Kbc f1) (rest.length + 1) (.h0 (Ks.map BT.cells) (Ks.length : Nat) (IntKind.wrap .i64 ((done.length : Int) + 1)) a b c d e f g h i j q (dset T v4 (.lst 2 v7))) κ))]
  rw [hw]
  rcases hi x.nam with ⟨g1, g2⟩ | ⟨X, g1, ⟨y, hy, hyn⟩, g3, g4⟩
  ·rw [g1]
   exact Wov f1 a b c d e f g h i j q Ks hl hn κ rest (done ++ [x]) _ (by simp [he]) (Wkv hp (fun y hy h => absurd h (g2 y hy))) (Wqn hi hxn (fun y hy h => absurd h (g2 y hy)))
  ·rw [g1]
   simp only [optV]
   rw [show ∀ K : List (List DV) → Option DV, Wwi [DV.lst 2 (X.map qpc)] 0 K = K (X.map qpc) from fun K => rfl, Wsc X x.num g3]
   by_cases hX : X = x.num
   ·rw [decide_eq_true hX, Bool.not_true, bx_f]
    exact Wov f1 a b c d e f g h i j q Ks hl hn κ rest (done ++ [x]) _ (by simp [he]) (Wkv hp (fun y hy h => (g4 y hy h).trans hX)) (Wqn hi hxn (fun y hy h => (g4 y hy h).trans hX))
   ·rw [decide_eq_false hX, Bool.not_false, bx_t]
    refine .inr ⟨fun hpw => ?_, T, rfl⟩
    rw [he] at hpw
    have := (List.pairwise_append.1 hpw).2.2 y hy x (by simp) hyn
    exact hX ((g4 y hy hyn).symm.trans this)
def Rn (y x : BT) : Prop := y.nam ≠ x.nam
theorem Wt5 (f0 : W2y) (f1 : W2e) (Ks Ss : List BT) (hl : Ss.length < 9223372036854775807) (T : List (ByteArray × DV)) (hT : Inv1 T Ks) (κ : KB × Option DV) :
  ∀ (rest done : List BT) (Z : List (ByteArray × DV)), Ss = done ++ rest → done.Pairwise Rn → (∀ x ∈ done, ∀ y ∈ Ks, y.nam ≠ x.nam) → Inv2 Z done →
  ((Ss.Pairwise Rn ∧ ∀ x ∈ Ss, ∀ y ∈ Ks, y.nam ≠ x.nam) ∧ LF (Kdz f0 f1) (rest.length + 1) (.h0 (Ss.map BT.cells) (Ss.length : Nat) done.length T Z) κ = κ.2) ∨
  (¬ (Ss.Pairwise Rn ∧ ∀ x ∈ Ss, ∀ y ∈ Ks, y.nam ≠ x.nam) ∧ LF (Kdz f0 f1) (rest.length + 1) (.h0 (Ss.map BT.cells) (Ss.length : Nat) done.length T Z) κ = κ.1 false)
 | [], done, Z, he, hp, hk, hi => by
  rw [List.append_nil] at he
  subst he
  refine .inl ⟨⟨hp, hk⟩, ?_⟩
  simp only [LF, Kdz]
  have : decide ((Ss.length : Int) < (Ss.length : Int)) = false := by simp
  rw [this, bx_f]
 | x :: rest, done, Z, he, hp, hk, hi => by
  have hlen : Ss.length = done.length + rest.length + 1 := by simp [he]; omega
  have h1 : decide ((done.length : Int) < (Ss.length : Int)) = true := by simp; omega
  have h2 : decide (0 ≤ (done.length : Int)) = true := by simp
  have h3 : (Ss.map BT.cells)[Int.toNat (done.length : Int)]? = some x.cells := by simp [he]
  have hw : IntKind.wrap .i64 ((done.length : Int) + 1) = ((done ++ [x]).length : Nat) := by rw [Kcp (by omega) (by omega)]; simp
  have hstep : ∀ (g : ByteArray → Option DV), Kal x.cells 0 (fun v3 v4 v5 v6 v7 v8 v9 v10 v11 v12 v13 => g v4) = g x.nam := fun g => by cases x; rfl
  rw [show (x :: rest).length + 1 = (rest.length + 1) + 1 from rfl, LF]
  simp only [Kdz, h1, h2, h3, bx_t, optE]
  rw [hstep (fun v22 => optV (dget T v22) (fun d32 => Wwi ([d32]) 0 (fun v33 => κ.1 false)) (optV (dget Z v22) (fun d34 => ld_b ([d34]) 0 (fun v35 => bx (v35) (κ.1 false) (LF (Kdz f0 f1) (rest.length + 1) (.h0 (Ss.map BT.cells) (Ss.length : Nat) (IntKind.wrap .i64 ((done.length : Int) + 1)) T (dset Z v22 (.val (.bool true)))) κ))) (LF (Kdz f0 f1) (rest.length + 1) (.h0 (Ss.map BT.cells) (Ss.length : Nat) (IntKind.wrap .i64 ((done.length : Int) + 1)) T (dset Z v22 (.val (.bool true)))) κ)))]
  rw [hw]
  rcases hT x.nam with ⟨g1, g2⟩ | ⟨X, g1, ⟨y, hy, hyn⟩, _, _⟩
  ·rw [g1]
   simp only [optV]
   rcases hi x.nam with ⟨k1, k2⟩ | ⟨k1, y, hy, hyn⟩
   ·rw [k1]
    refine Wt5 f0 f1 Ks Ss hl T hT κ rest (done ++ [x]) _ (by simp [he]) (Wkv hp (fun y hy h => absurd h (k2 y hy))) (fun z hz y hy => ?_) (Wku hi)
    rcases List.mem_append.1 hz with hz | hz
    ·exact hk z hz y hy
    ·rw [List.mem_singleton.1 hz]; exact g2 y hy
   ·rw [k1]
    refine .inr ⟨fun hh => ?_, rfl⟩
    have hpw := hh.1
    rw [he] at hpw
    exact (List.pairwise_append.1 hpw).2.2 y hy x (by simp) hyn
  ·rw [g1]
   refine .inr ⟨fun hh => hh.2 x (by simp [he]) y hy hyn, rfl⟩
end Go.Proofs.YtgohccjmphapfaaGreatDoor
end

noncomputable section
namespace Go.Proofs.YtgohccjmphapfaaGreatDoor
open Go Go.Pv Go.RowKit
def isK (x : BT) : Bool := x.opn == [107, 110, 111, 98]
def isS (x : BT) : Bool := x.opn == [115, 104, 111, 119]
def bad (x y : BT) : Bool := !(emp x.nam) && (Krz x.nam y.nam && !(isK x && (isK y && Wbc x.num y.num)))
theorem tle (a b : W4w) : (a.toList == b.toList) = Krz a b := by rw [ByteArray.toList_eq, ByteArray.toList_eq]; rfl
theorem Www (x y : BT) (hx : x.num.length < 9223372036854775807) (A B : W4y) (f : BT → BT → Option DV) (hf : f x y = (bx (!(ByteArray.toList x.nam == ByteArray.toList (⟨#[]⟩))) (bx (!(ByteArray.toList x.nam == ByteArray.toList y.nam)) B (bx (!(!(x.opn == ByteArray.toList (⟨#[107, 110, 111, 98]⟩)))) (bx (!(!(y.opn == ByteArray.toList (⟨#[107, 110, 111, 98]⟩)))) (Kaz (x.num.map qpc) (y.num.map qpc) (fun r26 => bx (!r26) A B)) A) A)) B)) : f x y = bx (bad x y) A B := by
 rw [hf, Wmc _ _ hx, tle x.nam y.nam]
 rw [show (ByteArray.toList (⟨#[107, 110, 111, 98]⟩)) = [107, 110, 111, 98] from tl _]
 unfold bad isK emp
 cases (ByteArray.toList x.nam == ByteArray.toList (⟨#[]⟩)) <;> cases Krz x.nam y.nam <;> cases (x.opn == [107, 110, 111, 98]) <;> cases (y.opn == [107, 110, 111, 98]) <;> cases Wbc x.num y.num <;> rfl
theorem Wqo (f1 : W2d) (L : List BT) (hl : L.length < 9223372036854775807) (hn : ∀ x ∈ L, x.num.length < 9223372036854775807) (κ : (Bool → List (List DV) → Int → Option DV) × (List (List DV) → Int → Option DV)) (pk r : List BT) (x : BT) (hL : L = pk ++ x :: r) :
  ∀ (rest done : List BT), pk = done ++ rest → LF (Kcs Kaz f1) (rest.length + 1) (.h0 (L.map BT.cells) pk.length done.length) κ = bx (rest.any (bad x)) (κ.1 true (L.map BT.cells) pk.length) (κ.2 (L.map BT.cells) pk.length)
 | [], done, he => by
  simp only [LF, Kcs]
  have : decide ((done.length : Int) < (pk.length : Int)) = false := by simp [he]
  rw [this, bx_f]; rfl
 | y :: rest, done, he => by
  have ih := Wqo f1 L hl hn κ pk r x hL rest (done ++ [y]) (by simp [he])
  have hlen : L.length = done.length + rest.length + 1 + r.length + 1 := by simp [hL, he]; omega
  have h1 : decide ((done.length : Int) < (pk.length : Int)) = true := by simp [he]; omega
  have h2 : decide (0 ≤ (done.length : Int)) = true := by simp
  have h2' : decide (0 ≤ (pk.length : Int)) = true := by simp
  have h3 : (L.map BT.cells)[Int.toNat (pk.length : Int)]? = some x.cells := by simp [hL]
  have h4 : (L.map BT.cells)[Int.toNat (done.length : Int)]? = some y.cells := by simp [hL, he]
  have hw : IntKind.wrap .i64 ((done.length : Int) + 1) = ((done ++ [y]).length : Nat) := by rw [Kcp (by omega) (by omega)]; simp
  rw [show (y :: rest).length + 1 = (rest.length + 1) + 1 from rfl, LF]
  simp only [Kcs, h1, h2, h2', h3, h4, bx_t, optE]
  refine Eq.trans (Www x y (hn x (by simp [hL])) (κ.1 true (L.map BT.cells) pk.length) (LF (Kcs Kaz f1) (rest.length + 1) (.h0 (L.map BT.cells) pk.length (IntKind.wrap .i64 ((done.length : Int) + 1))) κ) (fun x y => Kal x.cells 0 (fun v3 v4 v5 v6 v7 v8 v9 v10 v11 v12 v13 => Kal y.cells 0 (fun v15 v16 v17 v18 v19 v20 v21 v22 v23 v24 v25 => bx (!(v4.toList == ByteArray.toList (⟨#[]⟩))) (bx (!(v4.toList == v16.toList)) (LF (Kcs Kaz f1) (rest.length + 1) (.h0 (L.map BT.cells) pk.length (IntKind.wrap .i64 ((done.length : Int) + 1))) κ) (bx (!(!(v3.toList == ByteArray.toList (⟨#[107, 110, 111, 98]⟩)))) (bx (!(!(v15.toList == ByteArray.toList (⟨#[107, 110, 111, 98]⟩)))) (Kaz v7 v19 (fun r26 => bx (!r26) (κ.1 true (L.map BT.cells) pk.length) (LF (Kcs Kaz f1) (rest.length + 1) (.h0 (L.map BT.cells) pk.length (IntKind.wrap .i64 ((done.length : Int) + 1))) κ))) (κ.1 true (L.map BT.cells) pk.length)) (κ.1 true (L.map BT.cells) pk.length))) (LF (Kcs Kaz f1) (rest.length + 1) (.h0 (L.map BT.cells) pk.length (IntKind.wrap .i64 ((done.length : Int) + 1))) κ)))) (by cases x; cases y; rfl)) ?_
  rw [hw, ih, List.any_cons]
  cases bad x y <;> rfl
def Rb (y x : BT) : Prop := bad x y = false
theorem Wqp (f1 : W2d) (L : List BT) (hl : L.length < 9223372036854775807) (hn : ∀ x ∈ L, x.num.length < 9223372036854775807) (κ : KB × Option DV) :
  ∀ (rest done : List BT), L = done ++ rest → done.Pairwise Rb →
  (L.Pairwise Rb ∧ LF (Kct Kaz f1) (rest.length + 1) (.h0 (L.map BT.cells) done.length) κ = κ.2) ∨
  (¬ L.Pairwise Rb ∧ LF (Kct Kaz f1) (rest.length + 1) (.h0 (L.map BT.cells) done.length) κ = κ.1 true)
 | [], done, he, hp => by
  rw [List.append_nil] at he
  subst he
  refine .inl ⟨hp, ?_⟩
  simp only [LF, Kct, List.length_map]
  have : decide ((L.length : Int) < (L.length : Int)) = false := by simp
  rw [this, bx_f]
 | x :: rest, done, he, hp => by
  have hlen : L.length = done.length + rest.length + 1 := by simp [he]; omega
  have h1 : decide ((done.length : Int) < (L.length : Int)) = true := by simp; omega
  have hw : IntKind.wrap .i64 ((done.length : Int) + 1) = ((done ++ [x]).length : Nat) := by rw [Kcp (by omega) (by omega)]; simp
  rw [show (x :: rest).length + 1 = (rest.length + 1) + 1 from rfl, LF]
  simp only [Kct, List.length_map, h1, bx_t]
  have hin := Wqo f1 L hl hn ((fun z27_0 z27_1 z27_2 => κ.1 z27_0), (fun z28_0 z28_1 => LF (Kct Kaz f1) (rest.length + 1) (.h0 z28_0 (IntKind.wrap .i64 (z28_1 + 1))) κ)) done rest x he done [] rfl
  have hf : Kh3 (Kbz.h0 (L.map BT.cells) done.length 0) = done.length + 1 := by simp [Kh3]
  rw [hf]
  have hin' := hin
  simp only [hw] at hin'
  cases hb : done.any (bad x) with
  | true =>
   refine .inr ⟨fun hpw => ?_, ?_⟩
   ·rw [he] at hpw
    obtain ⟨y, hy, hyb⟩ := List.any_eq_true.1 hb
    have : bad x y = false := (List.pairwise_append.1 hpw).2.2 y hy x (by simp)
    rw [this] at hyb; cases hyb
   ·rw [hb, bx_t] at hin'
    exact hin'
  | false =>
   rw [hb, bx_f] at hin'
   have hg : (done ++ [x]).Pairwise Rb := Wkv hp (fun y hy => by
    have := List.any_eq_false.1 hb y hy
    show bad x y = false
    simpa using this)
   have hrec := Wqp f1 L hl hn κ rest (done ++ [x]) (by simp [he]) hg
   have hE : ∀ Z, LF (Kct Kaz f1) (rest.length + 1) (.h0 (L.map BT.cells) (done ++ [x]).length) κ = Z → LF (Kcs Kaz f1) (done.length + 1) (.h0 (L.map BT.cells) done.length 0) ((fun z27_0 z27_1 z27_2 => κ.1 z27_0), (fun z28_0 z28_1 => LF (Kct Kaz f1) (rest.length + 1) (.h0 z28_0 (IntKind.wrap .i64 (z28_1 + 1))) κ)) = Z := fun Z hZ => by
    rw [← hZ]
    refine Eq.trans hin ?_
    rw [hb, bx_f]
    show LF (Kct Kaz f1) (rest.length + 1) (.h0 (L.map BT.cells) (IntKind.wrap .i64 ((done.length : Int) + 1))) κ = _
    rw [hw]
   rcases hrec with ⟨q1, q2⟩ | ⟨q1, q2⟩
   ·exact .inl ⟨q1, hE _ q2⟩
   ·exact .inr ⟨q1, hE _ q2⟩
def W (x : BT) : Prop := (emp x.nam = true ∧ isK x = false ∧ isS x = false) ∨ (emp x.nam = false ∧ isK x = true ∧ isS x = false ∧ ∀ q ∈ x.num, Q.isq q.1 q.2 = true) ∨ (emp x.nam = false ∧ isK x = false ∧ isS x = true)
def Wzk (l : List UInt8) (s : Sh) : Bool := (s.name && ([[107, 110, 111, 98], [115, 104, 111, 119]] : List (List UInt8)).contains l) || (!s.name && (!(l == [107, 110, 111, 98]) && !(l == [115, 104, 111, 119])))
theorem Wwx {l : List UInt8} {s : Sh} (h : shp l = some s) : Wzk l s = true := by
 unfold shp at h
 repeat (refine Wgs (Q := Wzk) h rfl (fun h => ?_))
 cases h
theorem Wwy {l : List UInt8} {s : Sh} (hs : shp l = some s) : (s.name = true ∧ l ∈ [[107, 110, 111, 98], [115, 104, 111, 119]]) ∨ (s.name = false ∧ (l == [107, 110, 111, 98]) = false ∧ (l == [115, 104, 111, 119]) = false) := by
 have h := Wwx hs
 unfold Wzk at h
 simp only [Bool.or_eq_true, Bool.and_eq_true, decide_eq_true_eq, Bool.not_eq_true', List.contains_eq_mem] at h
 exact h
theorem Wzl {s : ByteArray} (h : K4h s = true) : emp s = false := by
 unfold K4h at h
 rw [Bool.and_eq_true, decide_eq_true_eq] at h
 cases he : emp s with
 | false => rfl
 | true =>
  unfold emp at he
  rw [tle] at he
  have := Wa4 he
  rw [this] at h
  exact absurd h.1.1 (by decide)
theorem Wzm {X : List (Int × Int)} (h : ctl X = true) : ∀ q ∈ X, Q.isq q.1 q.2 = true := by
 have : (X.all fun q => Q.isq q.1 q.2) = true := by
  cases ha : (X.all fun q => Q.isq q.1 q.2) with
  | true => rfl
  | false => rw [Woq ha] at h; cases h
 exact fun q hq => List.all_eq_true.1 this q hq
theorem W_of {x : BT} (h : x.vld = true) : W x := by
 obtain ⟨op, name, n, m, nums, fk, fi, ff, fr, fo, kids⟩ := x
 rw [BT.vld, Bool.and_eq_true] at h
 have h := h.1
 cases hs : shp op.toList with
 | none => rw [hs] at h; cases h
 | some s =>
  rw [hs] at h
  simp only [askO, Bool.and_eq_true, ask] at h
  obtain ⟨_, h1, _, _, _, _, _, _, h8⟩ := h
  rcases Wwy hs with ⟨g1, g2⟩ | ⟨g1, g2, g3⟩
  ·rw [g1, cond_true] at h1
   have hne := Wzl h1
   simp only [List.mem_cons, List.not_mem_nil, or_false] at g2
   rcases g2 with g2 | g2
   ·refine .inr (.inl ⟨hne, ?_, ?_, ?_⟩)
    ·show (op.toList == [107, 110, 111, 98]) = true; rw [g2]; rfl
    ·show (op.toList == [115, 104, 111, 119]) = false; rw [g2]; rfl
    ·rw [g2] at h8; exact Wzm h8
   ·refine .inr (.inr ⟨hne, ?_, ?_⟩)
    ·show (op.toList == [107, 110, 111, 98]) = false; rw [g2]; rfl
    ·show (op.toList == [115, 104, 111, 119]) = true; rw [g2]; rfl
  ·rw [g1, cond_false] at h1
   exact .inl ⟨h1, g2, g3⟩
theorem Wt6 {q r : Int × Int} (h1 : Q.isq q.1 q.2 = true) : Wma q r = decide (q = r) := by unfold Wma; rw [h1]; simp
theorem Wqq : ∀ {X Y : List (Int × Int)}, (∀ q ∈ X, Q.isq q.1 q.2 = true) → Wbc X Y = decide (X = Y)
 | [], [], _ => rfl
 | [], _ :: _, _ => rfl
 | _ :: _, [], _ => rfl
 | q :: X, r :: Y, h => by
  rw [Wbc, Wt6 (h q (by simp)), Wqq (fun z hz => h z (by simp [hz]))]
  by_cases e : q = r <;> by_cases e2 : X = Y <;> simp [e, e2]
def RA (y x : BT) : Prop := isK y = true → isK x = true → R1 y x
def RB (y x : BT) : Prop := isS y = true → isS x = true → Rn y x
def RC (y x : BT) : Prop := (isS y = true → isK x = true → x.nam ≠ y.nam) ∧ (isK y = true → isS x = true → y.nam ≠ x.nam)
theorem Wzn {x y : BT} (hx : W x) (hy : W y) : Rb y x ↔ (RA y x ∧ (RB y x ∧ RC y x)) := by
 unfold Rb RA RB RC bad R1 Rn
 have hk : ∀ s t : ByteArray, Krz s t = true ↔ s = t := fun s t => ⟨Wa4, fun h => h ▸ Krt s⟩
 rcases hx with ⟨a1, a2, a3⟩ | ⟨a1, a2, a3, a4⟩ | ⟨a1, a2, a3⟩ <;> rcases hy with ⟨b1, b2, b3⟩ | ⟨b1, b2, b3, b4⟩ | ⟨b1, b2, b3⟩
 ·simp [a1, a2, a3, b2, b3]
 ·simp [a1, a2, a3, b2, b3]
 ·simp [a1, a2, a3, b2, b3]
 ·have : Krz x.nam y.nam = false := Kwq (fun h => by rw [h, b1] at a1; cases a1)
  simp [a1, a2, a3, b2, b3, this]
 ·rw [Wqq a4]
  by_cases hn : x.nam = y.nam
  ·have hk' : Krz x.nam y.nam = true := (hk _ _).2 hn
   by_cases hX : x.num = y.num
   ·simp [a1, a2, a3, b2, b3, hk', hn, hX]
   ·have : ¬ y.num = x.num := fun h => hX h.symm
    simp [a1, a2, a3, b2, b3, hk', hn, hX, this, b1, Krt]
  ·have : Krz x.nam y.nam = false := Kwq hn
   have hn' : ¬ y.nam = x.nam := fun h => hn h.symm
   simp [a1, a2, a3, b2, b3, this, hn']
 ·by_cases hn : x.nam = y.nam
  ·have hk' : Krz x.nam y.nam = true := (hk _ _).2 hn
   simp [a1, a2, a3, b2, b3, hk', hn, b1, Krt]
  ·have : Krz x.nam y.nam = false := Kwq hn
   simp [a1, a2, a3, b2, b3, this, hn]
 ·have : Krz x.nam y.nam = false := Kwq (fun h => by rw [h, b1] at a1; cases a1)
  simp [a1, a2, a3, b2, b3, this]
 ·by_cases hn : x.nam = y.nam
  ·have hk' : Krz x.nam y.nam = true := (hk _ _).2 hn
   simp [a1, a2, a3, b2, b3, hk', hn, b1, Krt]
  ·have : Krz x.nam y.nam = false := Kwq hn
   have hn' : ¬ y.nam = x.nam := fun h => hn h.symm
   simp [a1, a2, a3, b2, b3, this, hn']
 ·by_cases hn : x.nam = y.nam
  ·have hk' : Krz x.nam y.nam = true := (hk _ _).2 hn
   simp [a1, a2, a3, b2, b3, hk', hn, b1, Krt]
  ·have : Krz x.nam y.nam = false := Kwq hn
   have hn' : ¬ y.nam = x.nam := fun h => hn h.symm
   simp [a1, a2, a3, b2, b3, this, hn']
theorem Wym {R : BT → BT → Prop} (hs : ∀ {x y}, R x y → R y x) : ∀ {l : List BT}, (∀ x ∈ l, R x x) → l.Pairwise R → ∀ x ∈ l, ∀ y ∈ l, R x y
 | [], _, _, x, hx => by cases hx
 | a :: l, hr, hp, x, hx => fun y hy => by
  obtain ⟨h1, h2⟩ := List.pairwise_cons.1 hp
  rcases List.mem_cons.1 hx with rfl | hx'
  ·rcases List.mem_cons.1 hy with rfl | hy'
   ·exact hr _ (by simp)
   ·exact h1 y hy'
  ·rcases List.mem_cons.1 hy with rfl | hy'
   ·exact hs (h1 x hx')
   ·exact Wym (R := R) hs (fun z hz => hr z (by simp [hz])) h2 x hx' y hy'
theorem Wyn {R : BT → BT → Prop} : ∀ {l : List BT}, (∀ x ∈ l, ∀ y ∈ l, R x y) → l.Pairwise R
 | [], _ => List.Pairwise.nil
 | a :: l, h => List.pairwise_cons.2 ⟨fun y hy => h a (by simp) y (by simp [hy]), Wyn (fun x hx y hy => h x (by simp [hx]) y (by simp [hy]))⟩
theorem Wt7 {P : List BT} (hW : ∀ x ∈ P, W x) : P.Pairwise Rb ↔ ((P.filter isK).Pairwise R1 ∧ ((P.filter isS).Pairwise Rn ∧ ∀ x ∈ P.filter isS, ∀ y ∈ P.filter isK, y.nam ≠ x.nam)) := by
 rw [List.Pairwise.iff_of_mem (S := fun y x => RA y x ∧ (RB y x ∧ RC y x)) (fun {y x} hy hx => Wzn (hW x hx) (hW y hy))]
 rw [List.pairwise_and_iff, List.pairwise_and_iff, List.pairwise_filter, List.pairwise_filter]
 refine and_congr Iff.rfl (and_congr Iff.rfl ⟨fun h x hx y hy => ?_, fun h => ?_⟩)
 ·obtain ⟨hx, hxs⟩ := List.mem_filter.1 hx
  obtain ⟨hy, hyk⟩ := List.mem_filter.1 hy
  have := Wym (R := RC) (fun {x y} h => ⟨fun p q => h.2 q p, fun p q => h.1 q p⟩) (fun z hz => ⟨fun p q => by
   rcases hW z hz with ⟨_, a, b⟩ | ⟨_, a, b, _⟩ | ⟨_, a, b⟩ <;> simp_all, fun p q => by
   rcases hW z hz with ⟨_, a, b⟩ | ⟨_, a, b, _⟩ | ⟨_, a, b⟩ <;> simp_all⟩) h y hy x hx
  exact this.2 hyk hxs
 ·exact Wyn (fun y hy x hx => ⟨fun p q => h y (List.mem_filter.2 ⟨hy, p⟩) x (List.mem_filter.2 ⟨hx, q⟩), fun p q => h x (List.mem_filter.2 ⟨hx, q⟩) y (List.mem_filter.2 ⟨hy, p⟩)⟩)
end Go.Proofs.YtgohccjmphapfaaGreatDoor
end
