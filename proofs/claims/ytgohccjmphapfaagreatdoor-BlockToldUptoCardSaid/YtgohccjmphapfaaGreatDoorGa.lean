import Derived.Test.YtgohccjmphapfaaGreatDoorTg
import Derived.Test.YtgohccjmphapfaaGreatDoorBt
set_option linter.all false
noncomputable section
namespace Go.Proofs.YtgohccjmphapfaaGreatDoor
open Go Go.Pv Go.RowKit
def BT.call {α : Type} (f : ByteArray → ByteArray → Int → Int → List (List DV) → ByteArray → Int → Int → ByteArray → ByteArray → List (List DV) → α) : BT → α
 | .mk op name n m nums fk fi ff fr fo kids => f op name n m (nums.map qpc) fk fi ff fr fo (BT.cellsL kids)
theorem Kmb (b : BT) (k : W30) : Kal b.cells 0 k = b.call k := by cases b; rfl
mutual
def BT.depth : BT → Nat
 | .mk _ _ _ _ _ _ _ _ _ _ kids => BT.depthL kids + 1
def BT.depthL : List BT → Nat
 | [] => 0
 | b :: bs => max b.depth (BT.depthL bs)
end
mutual
def BT.size : BT → Int
 | .mk _ _ _ _ _ _ _ _ _ _ kids => BT.sizeL 1 kids
def BT.sizeL : Int → List BT → Int
 | acc, [] => acc
 | acc, b :: bs => BT.sizeL (IntKind.wrap .i64 (acc + b.size)) bs
end
theorem Kcp {i : Int} (h0 : 0 ≤ i) (h1 : i < 9223372036854775807) : IntKind.wrap .i64 (i + 1) = i + 1 := by
 simp [IntKind.wrap, IntKind.bits, IntKind.signed]
 omega
theorem Wl8 (f0 : W17) (a b : W4w) (c d : Int) (e : W4x) (f : W4w) (g h : Int) (i j : W4w) (kids : List BT) (hl : kids.length < 9223372036854775807) (hf : ∀ x ∈ kids, ∀ k : KI, x.call f0 k = k x.size) (κ : KI) :
  ∀ (rest done : List BT) (acc : Int), kids = done ++ rest → LF (Khd f0) (rest.length + 1) (.h0 acc done.length a b c d e f g h i j (BT.cellsL kids)) κ = κ (BT.sizeL acc rest)
 | [], done, acc, he => by
  simp only [LF, Khd, BT.cellsL_eq, List.length_map, BT.sizeL]
  have : decide ((done.length : Int) < (kids.length : Int)) = false := by simp [he]
  rw [this, bx_f]
 | x :: rest, done, acc, he => by
  have ih := Wl8 f0 a b c d e f g h i j kids hl hf κ rest (done ++ [x]) (IntKind.wrap .i64 (acc + x.size)) (by simp [he])
  have hlen : kids.length = done.length + rest.length + 1 := by simp [he]; omega
  rw [show (x :: rest).length + 1 = (rest.length + 1) + 1 from rfl]
  rw [LF]
  simp only [Khd]
  have h1 : decide ((done.length : Int) < (((BT.cellsL kids).length : Nat) : Int)) = true := by simp [BT.cellsL_eq]; omega
  have h2 : decide (0 ≤ (done.length : Int)) = true := by simp
  have h3 : (BT.cellsL kids)[Int.toNat (done.length : Int)]? = some x.cells := by simp [BT.cellsL_eq, he]
  rw [h1, bx_t, h2, bx_t, h3]
  simp only [optE]
  rw [Kmb]
  have hc : ∀ K : KI, x.call (fun v2 v3 v4 v5 v6 v7 v8 v9 v10 v11 v12 => f0 v2 v3 v4 v5 v6 v7 v8 v9 v10 v11 v12 K) = x.call f0 K := fun K => by cases x; rfl
  rw [hc, hf x (by simp [he])]
  rw [Kcp (by omega) (by omega)]
  rw [show (done.length : Int) + 1 = ((done ++ [x]).length : Nat) by simp]
  rw [ih, BT.sizeL]
theorem BT.okL_mem : ∀ {bs : List BT}, BT.okL bs → ∀ b ∈ bs, b.ok
 | b :: bs, h, x, hx => by
  rcases List.mem_cons.1 hx with rfl | hx
  ·exact h.1
  ·exact BT.okL_mem h.2 x hx
theorem BT.depthL_mem : ∀ {bs : List BT}, ∀ b ∈ bs, b.depth ≤ BT.depthL bs
 | b :: bs, x, hx => by
  simp only [BT.depthL]
  rcases List.mem_cons.1 hx with rfl | hx
  ·exact Nat.le_max_left _ _
  ·exact Nat.le_trans (BT.depthL_mem x hx) (Nat.le_max_right _ _)
theorem Wc1 (N : Nat) : ∀ (n : Nat) (b : BT), b.ok → b.depth ≤ n → ∀ k : KI, b.call (Kf2 N n) k = k b.size
 | 0, b, _, hd, k => by cases b; simp [BT.depth] at hd
 | n + 1, .mk op name nn m nums fk fi ff fr fo kids, hb, hd, k => by
  simp only [BT.depth] at hd
  have hok := hb.2.2.2.2.2.2.2
  have hl : kids.length * 160 ≤ reachBytes := hb.2.2.2.2.2.2.1
  have hr : reachBytes < 9223372036854775807 := by decide
  have := Wl8 (Kf2 N n) op name nn m (nums.map qpc) fk fi ff fr fo kids (by omega) (fun x hx k => Wc1 N n x (BT.okL_mem hok x hx) (by have := BT.depthL_mem x hx; omega) k) k kids [] 1 rfl
  simp only [BT.call, BT.size]
  rw [← this]
  show LF _ _ _ _ = LF _ _ _ _
  congr 1
  simp [Kkj, BT.cellsL_eq]
end Go.Proofs.YtgohccjmphapfaaGreatDoor
end
