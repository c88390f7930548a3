import Derived.Test.YtgohccjmphapfaaGreatDoorJs
set_option linter.all false
noncomputable section
namespace Go.Proofs.YtgohccjmphapfaaGreatDoor
open Go Go.Pv Go.RowKit
mutual
def BT.sht : BT → Bool
 | .mk op name _ _ nums _ _ _ _ _ kids => !decide ((name.size : Int) > 100) && (!decide ((op.size : Int) > 100) && (!decide ((nums.length : Int) > 300) && BT.shtL kids))
def BT.shtL : List BT → Bool
 | [] => true
 | b :: bs => b.sht && BT.shtL bs
end
theorem Wjt (f0 : W19) (kids : List BT) (hl : kids.length < 9223372036854775807) (hf : ∀ x ∈ kids, ∀ k : KB, x.call f0 k = k x.sht) (κ : KB × Option DV) :
  ∀ (rest done : List BT), kids = done ++ rest → LF (Kgn f0) (rest.length + 1) (.h0 (BT.cellsL kids) (kids.length : Nat) done.length) κ = bx (BT.shtL rest) κ.2 (κ.1 false)
 | [], done, he => by
  simp only [LF, Kgn]
  have : decide ((done.length : Int) < (kids.length : Int)) = false := by simp [he]
  rw [this, bx_f]; rfl
 | x :: rest, done, he => by
  have ih := Wjt f0 kids hl hf κ rest (done ++ [x]) (by simp [he])
  have hlen : kids.length = done.length + rest.length + 1 := by simp [he]; omega
  have h1 : decide ((done.length : Int) < (kids.length : Int)) = true := by simp; omega
  have h2 : decide (0 ≤ (done.length : Int)) = true := by simp
  have h3 : (BT.cellsL kids)[Int.toNat (done.length : Int)]? = some x.cells := by rw [BT.cellsL_eq]; simp [he]
  have hc : ∀ K : KB, x.call (fun v2 v3 v4 v5 v6 v7 v8 v9 v10 v11 v12 => f0 v2 v3 v4 v5 v6 v7 v8 v9 v10 v11 v12 K) = x.call f0 K := fun K => by cases x; rfl
  rw [show (x :: rest).length + 1 = (rest.length + 1) + 1 from rfl, LF]
  simp only [Kgn, h1, h2, h3, bx_t, optE]
  rw [Kmb, hc, hf x (by simp [he]), Kcp (by omega) (by omega), show (done.length : Int) + 1 = ((done ++ [x]).length : Nat) by simp, ih, BT.shtL]
  cases x.sht <;> rfl
theorem Wju (N : Nat) : ∀ (n : Nat) (b : BT), b.ok → b.depth ≤ n → ∀ k : KB, b.call (Kfa N n) k = k b.sht
 | 0, b, _, hd, k => by cases b; simp [BT.depth] at hd
 | n + 1, .mk op name nn m nums fk fi ff fr fo kids, hb, hd, k => by
  simp only [BT.depth] at hd
  have hok := hb.2.2.2.2.2.2.2
  have hl : kids.length * 160 ≤ reachBytes := hb.2.2.2.2.2.2.1
  have hr : reachBytes < 9223372036854775807 := by decide
  show Kne (Kfa N n) op name nn m (nums.map qpc) fk fi ff fr fo (BT.cellsL kids) k = _
  unfold Kne
  rw [BT.sht, List.length_map]
  cases decide ((name.size : Int) > 100) with
  | true => rfl
  | false =>
   cases decide ((op.size : Int) > 100) with
   | true => rfl
   | false =>
    cases decide ((nums.length : Int) > 300) with
    | true => rfl
    | false =>
     simp only [Bool.not_false, bx_t, bx_f, Bool.true_and]
     have := Wjt (Kfa N n) kids (by omega) (fun x hx k => Wju N n x (BT.okL_mem hok x hx) (by have := BT.depthL_mem x hx; omega) k) ((fun z => k z), k true) kids [] rfl
     refine Eq.trans ?_ (Eq.trans this ?_)
     ·show LF _ _ _ _ = LF _ _ _ _
      congr 1
      ·simp [Kj1, BT.cellsL_eq]
      ·simp [BT.cellsL_eq]
     ·cases BT.shtL kids <;> rfl
theorem Ww2 (N : Nat) (b : BT) (hok : b.ok) (hd : b.depth ≤ N) (k : KB) : b.call (Kjj N) k = k (!decide (b.size > 700) && b.sht) := by
 have h1 := Wc1 N N b hok hd
 have h2 := Wju N N b hok hd
 obtain ⟨op, name, n, m, nums, fk, fi, ff, fr, fo, kids⟩ := b
 generalize (BT.mk op name n m nums fk fi ff fr fo kids).size = sz at *
 generalize (BT.mk op name n m nums fk fi ff fr fo kids).sht = sh at *
 have h1' : ∀ k : KI, Kdv N op name n m (nums.map qpc) fk fi ff fr fo (BT.cellsL kids) k = k sz := h1
 have h2' : ∀ k : KB, Kl1 N op name n m (nums.map qpc) fk fi ff fr fo (BT.cellsL kids) k = k sh := h2
 show Ko1 (Kl1 N) (Kdv N) op name n m (nums.map qpc) fk fi ff fr fo (BT.cellsL kids) k = _
 unfold Ko1
 rw [h1']
 cases decide (sz > 700) with
 | true => rfl
 | false => rw [bx_f, h2']; simp
end Go.Proofs.YtgohccjmphapfaaGreatDoor
end
