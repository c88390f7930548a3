/-
  Same: the program's and the specification's.
-/
import Derived.Test.YtdfhakhapblhgaaGc
set_option linter.all false
namespace Go.Proofs.Ytdfhakhapblhgaa
open Go Go.Pv Go.RowKit
mutual
/-- Diagrams alike. -/
def BT.same : BT → BT → Bool
  | .mk op nm n m nums fk fi ff fr fo kids, .mk op' nm' n' m' nums' fk' fi' ff' fr' fo' kids' =>
    (ByteArray.toList op == ByteArray.toList op') && ((ByteArray.toList nm == ByteArray.toList nm') && ((n == n') && ((m == m') && (((ByteArray.toList fk == ByteArray.toList fk') && ((fi == fi') && ((ff == ff') && ((ByteArray.toList fr == ByteArray.toList fr') && ((ByteArray.toList fo == ByteArray.toList fo') && true))))) && (alike nums nums' && BT.sameL kids kids')))))
def BT.sameL : List BT → List BT → Bool
  | [], [] => true
  | a :: us, b :: vs => a.same b && BT.sameL us vs
  | _, _ => false
end
abbrev F11 (α : Type) := ByteArray → ByteArray → Int → Int → List (List DV) → ByteArray → Int → Int → ByteArray → ByteArray → List (List DV) → α
/-- A function of two diagrams' fields, at two trees. -/
def BT.call2 {α : Type} (f : F11 (F11 α)) (a b : BT) : α := b.call (a.call f)
theorem sameL_len : ∀ {a b : List BT}, BT.sameL a b = true → a.length = b.length
  | [], [], _ => rfl
  | a :: us, b :: vs, h => by
    simp only [BT.sameL, Bool.and_eq_true] at h
    simp [sameL_len h.2]
  | [], b :: vs, h => by simp [BT.sameL] at h
  | a :: us, [], h => by simp [BT.sameL] at h
theorem ne_len {a b : List BT} (h : a.length ≠ b.length) : BT.sameL a b = false := by
  cases h2 : BT.sameL a b with
  | false => rfl
  | true => exact absurd (sameL_len h2) h
theorem call_call (f0 : F11 (F11 (KB → Option DV))) (x y : BT) (K : KB) : x.call (fun v3 v4 v5 v6 v7 v8 v9 v10 v11 v12 v13 => y.call (fun v15 v16 v17 v18 v19 v20 v21 v22 v23 v24 v25 => f0 v3 v4 v5 v6 v7 v8 v9 v10 v11 v12 v13 v15 v16 v17 v18 v19 v20 v21 v22 v23 v24 v25 K)) = BT.call2 f0 x y K := by cases x; cases y; rfl
theorem same_loop (f0 : F11 (F11 (KB → Option DV))) (f1 : List (List DV) → List (List DV) → KB → Option DV) (x1 x2 : ByteArray) (x3 x4 : Int) (x5 : List (List DV)) (x6 : ByteArray) (x7 x8 : Int) (x9 x10 x12 x13 : ByteArray) (x14 x15 : Int) (x16 : List (List DV)) (x17 : ByteArray) (x18 x19 : Int) (x20 x21 : ByteArray) (X Y : List BT) (hl : X.length < 9223372036854775807) (hf : ∀ x ∈ X, ∀ y ∈ Y, ∀ k : KB, BT.call2 f0 x y k = k (x.same y)) (κ : KB × Option DV) :
    ∀ (r1 r2 d1 d2 : List BT), X = d1 ++ r1 → Y = d2 ++ r2 → d1.length = d2.length → r1.length = r2.length →
    LF (F_serinetteref05_Same_l4 f0 f1) (r1.length + 1) (.h0 d1.length x1 x2 x3 x4 x5 x6 x7 x8 x9 x10 (BT.cellsL X) x12 x13 x14 x15 x16 x17 x18 x19 x20 x21 (BT.cellsL Y)) κ = bx (BT.sameL r1 r2) κ.2 (κ.1 false)
  | [], [], d1, d2, hX, hY, hd, hr => by
    simp only [LF, F_serinetteref05_Same_l4, B_serinetteref05_Same_l4_h0, BT.cellsL_eq, List.length_map]
    have : decide ((d1.length : Int) < (X.length : Int)) = false := by simp [hX]
    rw [this, bx_f]; rfl
  | q :: r1, r :: r2, d1, d2, hX, hY, hd, hr => by
    have hlx : X.length = d1.length + r1.length + 1 := by simp [hX]; omega
    have ih := same_loop f0 f1 x1 x2 x3 x4 x5 x6 x7 x8 x9 x10 x12 x13 x14 x15 x16 x17 x18 x19 x20 x21 X Y hl hf κ r1 r2 (d1 ++ [q]) (d2 ++ [r]) (by simp [hX]) (by simp [hY]) (by simp [hd]) (by simpa using hr)
    rw [show (q :: r1).length + 1 = (r1.length + 1) + 1 from rfl, LF]
    simp only [F_serinetteref05_Same_l4, B_serinetteref05_Same_l4_h0]
    have h1 : decide ((d1.length : Int) < (((BT.cellsL X).length : Nat) : Int)) = true := by simp [BT.cellsL_eq]; omega
    have h2 : decide (0 ≤ (d1.length : Int)) = true := by simp
    have h3 : (BT.cellsL X)[Int.toNat (d1.length : Int)]? = some q.cells := by simp [BT.cellsL_eq, hX]
    have h4 : (BT.cellsL Y)[Int.toNat (d1.length : Int)]? = some r.cells := by rw [hd]; simp [BT.cellsL_eq, hY]
    simp only [h1, h2, h3, h4, bx_t, optE, ld_tree]
    rw [call_call, hf q (by simp [hX]) r (by simp [hY])]
    rw [wrap_next (by omega) (by omega)]
    rw [show (d1.length : Int) + 1 = ((d1 ++ [q]).length : Nat) by simp, ih]
    simp only [BT.sameL]
    cases q.same r <;> simp [bx_t, bx_f]
  | [], r :: r2, d1, d2, hX, hY, hd, hr => by simp at hr
  | q :: r1, [], d1, d2, hX, hY, hd, hr => by simp at hr
theorem same_ref (N : Nat) : ∀ (n : Nat) (a b : BT), a.ok → b.ok → a.depth ≤ n → ∀ k : KB, BT.call2 (serinetteref05_Same_n N n) a b k = k (a.same b)
  | 0, a, b, _, _, hd, k => by cases a; simp [BT.depth] at hd
  | n + 1, .mk op nm nn m nums fk fi ff fr fo kids, .mk op' nm' nn' m' nums' fk' fi' ff' fr' fo' kids', ha, hb, hd, k => by
    simp only [BT.depth] at hd
    have hoka := ha.2.2.2.2.2.2.2
    have hokb := hb.2.2.2.2.2.2.2
    have hl : kids.length * 160 ≤ reachBytes := ha.2.2.2.2.2.2.1
    have hln : nums.length * 16 ≤ reachBytes := ha.2.2.2.2.1
    have hr : reachBytes < 9223372036854775807 := by decide
    show B_serinetteref05_Same (serinetteref05_Same_n N n) serinetteref05_Alike op nm nn m (nums.map qpc) fk fi ff fr fo (BT.cellsL kids) op' nm' nn' m' (nums'.map qpc) fk' fi' ff' fr' fo' (BT.cellsL kids') k = _
    unfold B_serinetteref05_Same
    simp only [Bool.not_not, BT.same]
    cases (ByteArray.toList op == ByteArray.toList op') with
    | false => rfl
    | true =>
    cases (ByteArray.toList nm == ByteArray.toList nm') with
    | false => rfl
    | true =>
    have e1 : (!(nn != nn')) = (nn == nn') := by simp [bne]
    have e2 : (!(m != m')) = (m == m') := by simp [bne]
    rw [e1, e2]
    cases (nn == nn') with
    | false => rfl
    | true =>
    cases (m == m') with
    | false => rfl
    | true =>
    generalize ((ByteArray.toList fk == ByteArray.toList fk') && ((fi == fi') && ((ff == ff') && ((ByteArray.toList fr == ByteArray.toList fr') && ((ByteArray.toList fo == ByteArray.toList fo') && true))))) = c
    cases c with
    | false => rfl
    | true =>
    simp only [bx_t, Bool.true_and]
    rw [alike_ref nums nums' (by omega)]
    cases alike nums nums' with
    | false => rfl
    | true =>
    simp only [Bool.not_true, Bool.not_false, bx_t, Bool.true_and]
    by_cases h : kids.length = kids'.length
    · have h1 : ((((BT.cellsL kids).length : Nat) : Int) != (((BT.cellsL kids').length : Nat) : Int)) = false := by simp [BT.cellsL_eq, h]
      rw [h1, bx_f]
      have := same_loop (serinetteref05_Same_n N n) serinetteref05_Alike op nm nn m (nums.map qpc) fk fi ff fr fo op' nm' nn' m' (nums'.map qpc) fk' fi' ff' fr' fo' kids kids' (by omega)
        (fun x hx y hy k => same_ref N n x y (BT.okL_mem hoka x hx) (BT.okL_mem hokb y hy) (by have := BT.depthL_mem x hx; omega) k) (k, k true) kids kids' [] [] rfl rfl rfl h
      simp only [φ_serinetteref05_Same_l4]
      rw [show Int.toNat ((((BT.cellsL kids).length : Nat) : Int) - 0) + 1 = kids.length + 1 by simp [BT.cellsL_eq]]
      refine Eq.trans this ?_
      cases BT.sameL kids kids' <;> rfl
    · have h1 : ((((BT.cellsL kids).length : Nat) : Int) != (((BT.cellsL kids').length : Nat) : Int)) = true := by simp [BT.cellsL_eq]; omega
      rw [h1, bx_t, ne_len h]
end Go.Proofs.Ytdfhakhapblhgaa
