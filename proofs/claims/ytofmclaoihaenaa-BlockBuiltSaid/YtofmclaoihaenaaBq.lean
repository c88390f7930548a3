/-
  The law's own loops.
-/
import Derived.Test.YtofmclaoihaenaaBo
set_option linter.all false
namespace Go.Proofs.Ytofmclaoihaenaa
open Go Go.Pv Go.RowKit
theorem same_r (N : Nat) (a b : BT) (ha : a.ok) (hb : b.ok) (hd : a.depth ≤ N) (k : KB) : BT.call2 (serinetteref05_Same N) a b k = k (a.same b) := same_ref N N a b ha hb hd k
theorem same_p (N : Nat) (a b : BT) (ha : a.ok) (hb : b.ok) (hd : 2 * a.depth ≤ N) (k : KB) : BT.call2 (block_Same N) a b k = k (a.same b) := same_prog N N a b ha hb hd k
theorem l15_loop (N : Nat) (X : List BT) (hl : X.length < 9223372036854775807) (hX : ∀ x ∈ X, x.ok ∧ 2 * x.depth ≤ N) (x0 : ByteArray) (i : Nat) (p : BT) (hp : X[i]? = some p) (x3 x4 : Int) (κ : _) :
    ∀ (r d : List BT), X = d ++ r → LF (FL15 N) (r.length + 1) (.h0 x0 (BT.cellsL X) (i : Nat) x3 x4 (X.length : Nat) d.length) κ = κ.2 x0 (BT.cellsL X) (i : Nat) x3 x4
  | [], d, hd => by
    simp only [LF, FL15, F_serinettelaw05_BlockBuilt_l15, B_serinettelaw05_BlockBuilt_l15_h0]
    have : decide ((d.length : Int) < (X.length : Int)) = false := by simp [hd]
    rw [this, bx_f]
  | q :: r, d, hd => by
    have hlx : X.length = d.length + r.length + 1 := by simp [hd]; omega
    have ih := l15_loop N X hl hX x0 i p hp x3 x4 κ r (d ++ [q]) (by simp [hd])
    have hpm : p ∈ X := List.mem_of_getElem? hp
    have hqm : q ∈ X := by simp [hd]
    rw [show (q :: r).length + 1 = (r.length + 1) + 1 from rfl, LF]
    simp only [FL15, F_serinettelaw05_BlockBuilt_l15, B_serinettelaw05_BlockBuilt_l15_h0]
    have h1 : decide ((d.length : Int) < (X.length : Int)) = true := by simp; omega
    have h2 : decide (0 ≤ (d.length : Int)) = true := by simp
    have h2' : decide (0 ≤ (i : Int)) = true := by simp
    have h3 : (BT.cellsL X)[Int.toNat (d.length : Int)]? = some q.cells := by simp [BT.cellsL_eq, hd]
    have h4 : (BT.cellsL X)[Int.toNat (i : Int)]? = some p.cells := by simp [BT.cellsL_eq, hp]
    simp only [h1, h2, h2', h3, h4, bx_t, optE, ld_tree]
    rw [call_call, same_p N p q (hX p hpm).1 (hX q hqm).1 (hX p hpm).2]
    rw [call_call, same_r N p q (hX p hpm).1 (hX q hqm).1 (by have := (hX p hpm).2; omega)]
    rw [wrap_next (by omega) (by omega), show (d.length : Int) + 1 = ((d ++ [q]).length : Nat) by simp]
    simp only [beq_self_eq_true, Bool.not_true, bx_f]
    exact ih
theorem join_p (N : Nat) (op : ByteArray) (x y : BT) (hx : x.ok ∧ x.depth ≤ N) (hy : y.ok ∧ y.depth ≤ N) (K : F11 (Option DV)) : BT.call2 (block_Join N op) x y K = (joinT op x y).call K := by
  have := joined_prog N op [x, y] (by simp) (by intro z hz; simp at hz; rcases hz with rfl | rfl; exact hx; exact hy) K
  cases x; cases y
  exact this
theorem join_r (op : ByteArray) (x y : BT) (K : F11 (Option DV)) : BT.call2 (serinetteref05_Join op) x y K = (joinT op x y).call K := by
  cases x; cases y; rfl
theorem l12_loop (N : Nat) (X : List BT) (hl : X.length < 9223372036854775807) (hX : ∀ x ∈ X, x.ok ∧ 2 * x.depth + 2 ≤ N) (op : ByteArray) (κ : KB × Option DV) :
    ∀ (r d : List BT), X = d ++ r → LF (FL12 N) (r.length + 1) (.h0 op (BT.cellsL X) (X.length : Nat) d.length) κ = κ.2
  | [], d, hd => by
    simp only [LF, FL12, F_serinettelaw05_BlockBuilt_l12, B_serinettelaw05_BlockBuilt_l12_h0]
    have : decide ((d.length : Int) < (X.length : Int)) = false := by simp [hd]
    rw [this, bx_f]
  | q :: r, d, hd => by
    have hlx : X.length = d.length + r.length + 1 := by simp [hd]; omega
    have ih := l12_loop N X hl hX op κ r (d ++ [q]) (by simp [hd])
    have hqm : q ∈ X := by simp [hd]
    obtain ⟨z, hz⟩ : ∃ z, X[0]? = some z := ⟨X[0], List.getElem?_eq_getElem (by omega)⟩
    have hzm : z ∈ X := List.mem_of_getElem? hz
    have hqi : X[d.length]? = some q := by simp [hd]
    obtain ⟨m, hm⟩ : ∃ m, r.length + 1 = m := ⟨_, rfl⟩
    rw [show (q :: r).length + 1 = (r.length + 1) + 1 from rfl, hm, LF]
    simp only [FL12, F_serinettelaw05_BlockBuilt_l12, B_serinettelaw05_BlockBuilt_l12_h0]
    have h1 : decide ((d.length : Int) < (X.length : Int)) = true := by simp; omega
    rw [h1, bx_t]
    have hkl : (BT.cellsL X).length = X.length := by simp [BT.cellsL_eq]
    have hfu : φ_serinettelaw05_BlockBuilt_l15 (.h0 op (BT.cellsL X) (d.length : Nat) (X.length : Nat) (d.length : Nat) (X.length : Nat) 0) = X.length + 1 := by simp [φ_serinettelaw05_BlockBuilt_l15]
    rw [hkl, hfu]
    refine Eq.trans (l15_loop N X hl (fun x hx => ⟨(hX x hx).1, by have := (hX x hx).2; omega⟩) op d.length q hqi _ _ _ X [] rfl) ?_
    have h2 : decide (0 ≤ (d.length : Int)) = true := by simp
    have h3 : (BT.cellsL X)[Int.toNat (d.length : Int)]? = some q.cells := by simp [BT.cellsL_eq, hd]
    have h4 : (BT.cellsL X)[Int.toNat 0]? = some z.cells := by simp [BT.cellsL_eq, hz]
    simp only [h2, h3, h4, bx_t, optE, ld_tree]
    have hA : (joinT op q z).ok := joinT_ok (hX q hqm).1 (hX z hzm).1
    have hD := joinT_depth op q z
    refine Eq.trans (join_pair (serinetteref05_Same N) (joinT op q z) (fun K => by rw [same_r N _ _ hA hA (by have := (hX q hqm).2; have := (hX z hzm).2; omega), BT.same_self]) (block_Join N op) (serinetteref05_Join op) q z (fun K => join_p N op q z ⟨(hX q hqm).1, by have := (hX q hqm).2; omega⟩ ⟨(hX z hzm).1, by have := (hX z hzm).2; omega⟩ K) (fun K => join_r op q z K) _) ?_
    rw [wrap_next (by omega) (by omega), show (d.length : Int) + 1 = ((d ++ [q]).length : Nat) by simp, ← hm]
    simp only [Bool.not_true, bx_f]
    exact ih
end Go.Proofs.Ytofmclaoihaenaa
