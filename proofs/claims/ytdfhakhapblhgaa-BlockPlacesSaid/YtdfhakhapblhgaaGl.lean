/-
  Few and short.
-/
import Derived.Test.YtdfhakhapblhgaaGe
set_option linter.all false
namespace Go.Proofs.Ytdfhakhapblhgaa
open Go Go.Pv Go.RowKit
mutual
def BT.short : BT → Bool
  | .mk op nm _ _ nums _ _ _ _ _ kids => !(decide (((ByteArray.size nm : Nat) : Int) > 100)) && (!(decide (((ByteArray.size op : Nat) : Int) > 100)) && (!(decide (((nums.length : Nat) : Int) > 300)) && BT.shortL kids))
def BT.shortL : List BT → Bool
  | [] => true
  | b :: bs => b.short && BT.shortL bs
end
theorem short_loop (f0 : F11 (KB → Option DV)) (X : List BT) (hl : X.length < 9223372036854775807) (hf : ∀ x ∈ X, ∀ k : KB, x.call f0 k = k x.short) (κ : KB × Option DV) :
    ∀ (r d : List BT), X = d ++ r → LF (F_serinettelaw05_short_l4 f0) (r.length + 1) (.h0 (BT.cellsL X) (X.length : Nat) d.length) κ = bx (BT.shortL r) κ.2 (κ.1 false)
  | [], d, hX => by
    simp only [LF, F_serinettelaw05_short_l4, B_serinettelaw05_short_l4_h0]
    have : decide ((d.length : Int) < (X.length : Int)) = false := by simp [hX]
    rw [this, bx_f]; rfl
  | q :: r, d, hX => by
    have hlx : X.length = d.length + r.length + 1 := by simp [hX]; omega
    have ih := short_loop f0 X hl hf κ r (d ++ [q]) (by simp [hX])
    rw [show (q :: r).length + 1 = (r.length + 1) + 1 from rfl, LF]
    simp only [F_serinettelaw05_short_l4, B_serinettelaw05_short_l4_h0]
    have h1 : decide ((d.length : Int) < (X.length : Int)) = true := by simp; omega
    have h2 : decide (0 ≤ (d.length : Int)) = true := by simp
    have h3 : (BT.cellsL X)[Int.toNat (d.length : Int)]? = some q.cells := by simp [BT.cellsL_eq, hX]
    simp only [h1, h2, h3, bx_t, optE, ld_tree]
    rw [← callc, hf q (by simp [hX])]
    rw [wrap_next (by omega) (by omega), show (d.length : Int) + 1 = ((d ++ [q]).length : Nat) by simp, ih]
    simp only [BT.shortL]
    cases q.short <;> simp [bx_t, bx_f]
theorem short_tree (N : Nat) : ∀ (n : Nat) (b : BT), b.ok → b.depth ≤ n → ∀ k : KB, b.call (serinettelaw05_short_n N n) k = k b.short
  | 0, b, _, hd, k => by cases b; simp [BT.depth] at hd
  | n + 1, .mk op nm nn m nums fk fi ff fr fo kids, hb, hd, k => by
    simp only [BT.depth] at hd
    have hok := hb.2.2.2.2.2.2.2
    have hl : kids.length * 160 ≤ reachBytes := hb.2.2.2.2.2.2.1
    have hr : reachBytes < 9223372036854775807 := by decide
    show B_serinettelaw05_short (serinettelaw05_short_n N n) op nm nn m (nums.map qpc) fk fi ff fr fo (BT.cellsL kids) k = _
    unfold B_serinettelaw05_short
    simp only [BT.short, List.length_map]
    cases (!(decide (((ByteArray.size nm : Nat) : Int) > 100))) with
    | false => rfl
    | true =>
    cases (!(decide (((ByteArray.size op : Nat) : Int) > 100))) with
    | false => rfl
    | true =>
    cases (decide (((nums.length : Nat) : Int) > 300)) with
    | true => rfl
    | false =>
    simp only [bx_t, bx_f, Bool.true_and, Bool.not_false]
    have := short_loop (serinettelaw05_short_n N n) kids (by omega) (fun x hx k => short_tree N n x (BT.okL_mem hok x hx) (by have := BT.depthL_mem x hx; omega) k) (k, k true) kids [] rfl
    have hkl : (BT.cellsL kids).length = kids.length := by simp [BT.cellsL_eq]
    simp only [φ_serinettelaw05_short_l4, hkl]
    rw [show Int.toNat (((kids.length : Nat) : Int) - 0) + 1 = kids.length + 1 by omega]
    refine Eq.trans this ?_
    cases BT.shortL kids <;> rfl
def BT.few (b : BT) : Bool := bif decide (b.size > 700) then false else b.short
theorem few_tree (N : Nat) (b : BT) (hb : b.ok) (hd : b.depth ≤ N) (k : KB) : b.call (serinettelaw05_few N) k = k b.few := by
  have h1 := size_tree N N b hb hd
  have h2 := short_tree N N b hb hd
  cases b with
  | mk op nm nn m nums fk fi ff fr fo kids =>
    show serinettelaw05_few N op nm nn m (nums.map qpc) fk fi ff fr fo (BT.cellsL kids) k = _
    unfold serinettelaw05_few B_serinettelaw05_few
    refine Eq.trans (h1 _) ?_
    unfold BT.few
    cases (decide (BT.size (.mk op nm nn m nums fk fi ff fr fo kids) > 700)) with
    | true => rfl
    | false => exact h2 k
end Go.Proofs.Ytdfhakhapblhgaa
