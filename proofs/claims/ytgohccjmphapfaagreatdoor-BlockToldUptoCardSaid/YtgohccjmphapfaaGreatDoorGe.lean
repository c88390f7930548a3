import Derived.Test.YtgohccjmphapfaaGreatDoorGa
import Derived.Test.YtgohccjmphapfaaGreatDoorQ
set_option linter.all false
noncomputable section
namespace Go.Proofs.YtgohccjmphapfaaGreatDoor
open Go Go.Pv Go.RowKit
theorem Wgr (a b : Nat) : Int.tmod (a : Int) (b : Int) = ((a % b : Nat) : Int) := by rw [Int.tmod_eq_emod_of_nonneg (by omega)]; rfl
theorem Wjm (p : Kao → Nat) (κ : KI) : ∀ (n e a b : Nat), b < 2 ^ n → LF (Kbq p) (2 * n + 1 + e) (.h0 a b) κ = κ ((Nat.gcd a b : Nat) : Int)
 | 0, e, a, b, hb => by
  have : b = 0 := by simpa using hb
  subst this
  rw [show 2 * 0 + 1 + e = e + 1 by omega]
  simp [LF, Kbq, bx_f]
 | n + 1, e, a, b, hb => by
  have step : ∀ (f a b : Nat), b ≠ 0 → LF (Kbq p) (f + 1) (.h0 a b) κ = LF (Kbq p) f (.h0 b ((a % b : Nat) : Int)) κ := by
   intro f a b hb
   have h1 : ((b : Int) != 0) = true := by simp [hb]
   have h2 : ((b : Int) == 0) = false := by simp [hb]
   simp only [LF, Kbq, h1, h2, bx_t, bx_f, Wgr]
  have stop : ∀ (f a : Nat), LF (Kbq p) (f + 1) (.h0 a ((0 : Nat) : Int)) κ = κ (a : Int) := by
   intro f a
   simp [LF, Kbq, bx_f]
  rw [show 2 * (n + 1) + 1 + e = (2 * n + 1 + e) + 1 + 1 by omega]
  by_cases h0 : b = 0
  ·subst h0
   rw [stop]; simp
  ·rw [step _ a b h0]
   by_cases h1 : a % b = 0
   ·rw [h1, stop, Nat.gcd_comm, Nat.gcd_rec, h1, Nat.gcd_zero_left]
   ·rw [step _ b (a % b) h1]
    have hc : a % b < b := Nat.mod_lt _ (by omega)
    have h2 : b % (a % b) < 2 ^ n := by
     have hlt : b % (a % b) < a % b := Nat.mod_lt _ (by omega)
     have hdm := Nat.mod_add_div b (a % b)
     have hq : 1 ≤ b / (a % b) := Nat.div_pos (by omega) (by omega)
     have hm : a % b ≤ (a % b) * (b / (a % b)) := Nat.le_mul_of_pos_right _ hq
     rw [Nat.pow_succ] at hb
     omega
    rw [Wjm p κ n e (a % b) (b % (a % b)) h2]
    congr 2
    rw [Nat.gcd_comm a b, Nat.gcd_rec b a, Nat.gcd_rec (a % b) b, Nat.gcd_comm]
theorem Wgz (p : Kci → Nat) (κ : KI) : ∀ (n e a b : Nat), b < 2 ^ n → LF (Kfx p) (2 * n + 1 + e) (.h0 a b) κ = κ ((Nat.gcd a b : Nat) : Int)
 | 0, e, a, b, hb => by
  have : b = 0 := by simpa using hb
  subst this
  rw [show 2 * 0 + 1 + e = e + 1 by omega]
  simp [LF, Kfx, bx_f]
 | n + 1, e, a, b, hb => by
  have step : ∀ (f a b : Nat), b ≠ 0 → LF (Kfx p) (f + 1) (.h0 a b) κ = LF (Kfx p) f (.h0 b ((a % b : Nat) : Int)) κ := by
   intro f a b hb
   have h1 : ((b : Int) != 0) = true := by simp [hb]
   have h2 : ((b : Int) == 0) = false := by simp [hb]
   simp only [LF, Kfx, h1, h2, bx_t, bx_f, Wgr]
  have stop : ∀ (f a : Nat), LF (Kfx p) (f + 1) (.h0 a ((0 : Nat) : Int)) κ = κ (a : Int) := by
   intro f a
   simp [LF, Kfx, bx_f]
  rw [show 2 * (n + 1) + 1 + e = (2 * n + 1 + e) + 1 + 1 by omega]
  by_cases h0 : b = 0
  ·subst h0
   rw [stop]; simp
  ·rw [step _ a b h0]
   by_cases h1 : a % b = 0
   ·rw [h1, stop, Nat.gcd_comm, Nat.gcd_rec, h1, Nat.gcd_zero_left]
   ·rw [step _ b (a % b) h1]
    have hc : a % b < b := Nat.mod_lt _ (by omega)
    have h2 : b % (a % b) < 2 ^ n := by
     have hlt : b % (a % b) < a % b := Nat.mod_lt _ (by omega)
     have hdm := Nat.mod_add_div b (a % b)
     have hq : 1 ≤ b / (a % b) := Nat.div_pos (by omega) (by omega)
     have hm : a % b ≤ (a % b) * (b / (a % b)) := Nat.le_mul_of_pos_right _ hq
     rw [Nat.pow_succ] at hb
     omega
    rw [Wgz p κ n e (a % b) (b % (a % b)) h2]
    congr 2
    rw [Nat.gcd_comm a b, Nat.gcd_rec b a, Nat.gcd_rec (a % b) b, Nat.gcd_comm]
theorem Woo (a b : Int) (ha : -1073741824 ≤ a ∧ a ≤ 1073741824) (hb : 1 ≤ b ∧ b ≤ 1073741824) (k : KI) : Kj9 a b k = k ((Nat.gcd a.natAbs b.natAbs : Nat) : Int) := by
 have h2 : decide (b < 0) = false := by simp; omega
 have hw : a < 0 → IntKind.wrap .i64 (0 - a) = ((a.natAbs : Nat) : Int) := fun h => by
  simp [IntKind.wrap, IntKind.bits, IntKind.signed]; omega
 have eb : b = ((b.natAbs : Nat) : Int) := by omega
 unfold Kj9 Kpe
 simp only [h2, bx_f, Kg1]
 have key := Wjm Kg1 k 31 137 a.natAbs b.natAbs (by omega)
 rw [← eb] at key
 by_cases h : a < 0
 ·rw [show decide (a < 0) = true by simp [h], bx_t, hw h]
  exact key
 ·rw [show decide (a < 0) = false by simp [h], bx_f]
  have ea : a = ((a.natAbs : Nat) : Int) := by omega
  rw [← ea] at key
  exact key
theorem Wl9 (a b : Int) (k : KB) : Kcm a b k = k (Q.isq a b) := by
 unfold Kcm Kw2
 have hq : Q.isq a b = decide (-1073741824 ≤ a ∧ a ≤ 1073741824 ∧ 1 ≤ b ∧ b ≤ 1073741824 ∧ a.natAbs.gcd b.natAbs = 1) := rfl
 by_cases h1 : b ≥ 1
 ·by_cases h2 : b ≤ 1073741824
  ·by_cases h3 : a ≥ -1073741824
   ·by_cases h4 : a ≤ 1073741824
    ·simp only [h1, h2, h3, h4, decide_true, bx_t]
     rw [Woo a b ⟨h3, h4⟩ ⟨h1, h2⟩, hq]
     congr 1
     by_cases h5 : a.natAbs.gcd b.natAbs = 1
     ·simp [h5]; omega
     ·have : ((a.natAbs.gcd b.natAbs : Nat) : Int) ≠ 1 := by omega
      simp [this, h5]
    ·have : Q.isq a b = false := by rw [hq]; simp; omega
     simp only [h1, h2, h3, h4, decide_true, decide_false, bx_t, bx_f, this]
   ·have : Q.isq a b = false := by rw [hq]; simp; omega
    simp only [h1, h2, h3, decide_true, decide_false, bx_t, bx_f, this]
  ·have : Q.isq a b = false := by rw [hq]; simp; omega
   simp only [h1, h2, decide_true, decide_false, bx_t, bx_f, this]
 ·have : Q.isq a b = false := by rw [hq]; simp; omega
  simp only [h1, decide_false, bx_f, this]
theorem K9s (a b : Nat) (hb : b ≤ 1073741824) (k : KI) : Kqs a b k = k ((Nat.gcd a b : Nat) : Int) := by
 unfold Kqs K3k
 exact Wgz Kqr k 31 137 a b (by omega)
theorem Wc2 (a : Int) (ha : -1073741824 ≤ a ∧ a ≤ 1073741824) (k : KI) : Kzx a k = k ((a.natAbs : Nat) : Int) := by
 unfold Kzx Wae
 by_cases h : a < 0
 ·rw [show decide (a < 0) = true by simp [h], bx_t]
  congr 1
  simp [IntKind.wrap, IntKind.bits, IntKind.signed]; omega
 ·rw [show decide (a < 0) = false by simp [h], bx_f]
  congr 1
  simp [IntKind.wrap, IntKind.bits, IntKind.signed]; omega
theorem Wb0 (a b : Int) (k : KB) : Knj a b k = k (Q.isq a b) := by
 unfold Knj Weu
 have hq : Q.isq a b = decide (-1073741824 ≤ a ∧ a ≤ 1073741824 ∧ 1 ≤ b ∧ b ≤ 1073741824 ∧ a.natAbs.gcd b.natAbs = 1) := rfl
 by_cases h3 : a < -1073741824
 ·have : Q.isq a b = false := by rw [hq]; simp; omega
  simp only [h3, decide_true, Bool.not_true, bx_f, this]
 ·by_cases h4 : a > 1073741824
  ·have : Q.isq a b = false := by rw [hq]; simp; omega
   simp only [h3, h4, decide_true, decide_false, Bool.not_true, Bool.not_false, bx_t, bx_f, this]
  ·by_cases h1 : b < 1
   ·have : Q.isq a b = false := by rw [hq]; simp; omega
    simp only [h3, h4, h1, decide_true, decide_false, Bool.not_true, Bool.not_false, bx_t, bx_f, this]
   ·by_cases h2 : b > 1073741824
    ·have : Q.isq a b = false := by rw [hq]; simp; omega
     simp only [h3, h4, h1, h2, decide_true, decide_false, Bool.not_false, bx_t, this]
    ·simp only [h3, h4, h1, h2, decide_false, Bool.not_false, bx_t, bx_f]
     rw [Wc2 a ⟨by omega, by omega⟩, Wc2 b ⟨by omega, by omega⟩, K9s _ _ (by omega), hq]
     congr 1
     by_cases h5 : a.natAbs.gcd b.natAbs = 1
     ·simp [h5]; omega
     ·have : ((a.natAbs.gcd b.natAbs : Nat) : Int) ≠ 1 := by omega
      simp [this, h5]
end Go.Proofs.YtgohccjmphapfaaGreatDoor
end

noncomputable section
namespace Go.Proofs.YtgohccjmphapfaaGreatDoor
open Go Go.Pv Go.RowKit
def Wma (q r : Int × Int) : Bool := decide (q = r) || (!Q.isq q.1 q.2 && !Q.isq r.1 r.2)
theorem Kfo {x : Int} (h : -1152921504606846976 ≤ x ∧ x ≤ 1152921504606846976) : IntKind.wrap .i64 x = x := by
 simp [IntKind.wrap, IntKind.bits, IntKind.signed]
 omega
theorem Wr3 (a b : Int) (k : KI) : Kpq a b k = k (if a < b then -1 else if a > b then 1 else 0) := by
 simp only [Kpq, Kw5, Kyg, Kz3, bne_self_eq_false, bx_f]
 by_cases h : a < b
 ·simp only [h, decide_true, bx_t, if_true]
 ·by_cases h2 : a > b
  ·simp only [h, h2, decide_true, decide_false, bx_t, bx_f, if_true, if_false]
  ·simp only [h, h2, decide_false, bx_f, if_false]
def Wbc : List (Int × Int) → List (Int × Int) → Bool
 | [], [] => true
 | q :: qs, r :: rs => Wma q r && Wbc qs rs
 | _, _ => false
theorem ld_q (q : Int × Int) (k : KQ) : Ki3 (qpc q) 0 k = k q.1 q.2 := rfl
theorem Wmb : ∀ {a b : List (Int × Int)}, Wbc a b = true → a.length = b.length
 | [], [], _ => rfl
 | q :: qs, r :: rs, h => by
  simp only [Wbc, Bool.and_eq_true] at h
  simp [Wmb h.2]
theorem Wjn (X Y : List (Int × Int)) (hl : X.length < 9223372036854775807) (κ : KB × Option DV) : ∀ (r1 r2 d1 d2 : List (Int × Int)), X = d1 ++ r1 → Y = d2 ++ r2 → d1.length = d2.length → r1.length = r2.length →
  LF (Kgr Kcm) (r1.length + 1) (.h0 (X.map qpc) (Y.map qpc) d1.length) κ = bx (Wbc r1 r2) κ.2 (κ.1 false)
 | [], [], d1, d2, hX, hY, hd, hr => by
  simp only [LF, Kgr, List.length_map]
  have : decide ((d1.length : Int) < (X.length : Int)) = false := by simp [hX]
  rw [this, bx_f]; rfl
 | q :: r1, r :: r2, d1, d2, hX, hY, hd, hr => by
  have hlx : X.length = d1.length + r1.length + 1 := by simp [hX]; omega
  have ih := Wjn X Y hl κ r1 r2 (d1 ++ [q]) (d2 ++ [r]) (by simp [hX]) (by simp [hY]) (by simp [hd]) (by simpa using hr)
  rw [show (q :: r1).length + 1 = (r1.length + 1) + 1 from rfl, LF]
  simp only [Kgr, List.length_map]
  have h1 : decide ((d1.length : Int) < (X.length : Int)) = true := by simp; omega
  have h2 : decide (0 ≤ (d1.length : Int)) = true := by simp
  have h3 : (X.map qpc)[Int.toNat (d1.length : Int)]? = some (qpc q) := by simp [hX]
  have h4 : (Y.map qpc)[Int.toNat (d1.length : Int)]? = some (qpc r) := by rw [hd]; simp [hY]
  simp only [h1, h2, h3, h4, bx_t, optE, ld_q, Wl9]
  rw [Kcp (by omega) (by omega)]
  rw [show (d1.length : Int) + 1 = ((d1 ++ [q]).length : Nat) by simp, ih]
  simp only [Wbc, Wma]
  by_cases e : q = r
  ·subst e
   simp [bx_f]
  ·have e' : ((q.1 == r.1) && ((q.2 == r.2) && true)) = false := by
    have : ¬ (q.1 = r.1 ∧ q.2 = r.2) := fun h => e (Prod.ext h.1 h.2)
    simpa using this
   rw [e']
   cases h5 : Q.isq q.1 q.2 <;> cases h6 : Q.isq r.1 r.2 <;> simp [e, bx_t, bx_f]
theorem Wmc (X Y : List (Int × Int)) (hl : X.length < 9223372036854775807) (k : KB) : Kaz (X.map qpc) (Y.map qpc) k = k (Wbc X Y) := by
 unfold Kaz Kr3
 simp only [List.length_map, Kj5]
 by_cases h : X.length = Y.length
 ·have h1 : (((X.length : Nat) : Int) != ((Y.length : Nat) : Int)) = false := by simp [h]
  rw [h1, bx_f]
  have := Wjn X Y hl (k, k true) X Y [] [] rfl rfl rfl h
  rw [show Int.toNat (((X.length : Nat) : Int) - 0) + 1 = X.length + 1 by omega]
  refine Eq.trans this ?_
  cases Wbc X Y <;> rfl
 ·have h1 : (((X.length : Nat) : Int) != ((Y.length : Nat) : Int)) = true := by simp; omega
  rw [h1, bx_t]
  cases h2 : Wbc X Y with
  | false => rfl
  | true => exact absurd (Wmb h2) h
end Go.Proofs.YtgohccjmphapfaaGreatDoor
end

noncomputable section
namespace Go.Proofs.YtgohccjmphapfaaGreatDoor
open Go Go.Pv Go.RowKit
mutual
def BT.same : BT → BT → Bool
 | .mk op nm n m nums fk fi ff fr fo kids, .mk op' nm' n' m' nums' fk' fi' ff' fr' fo' kids' =>
  (op.toList == op'.toList) && ((nm.toList == nm'.toList) && ((n == n') && ((m == m') && (((fk.toList == fk'.toList) && ((fi == fi') && ((ff == ff') && ((fr.toList == fr'.toList) && ((fo.toList == fo'.toList) && true))))) && (Wbc nums nums' && BT.sameL kids kids')))))
def BT.sameL : List BT → List BT → Bool
 | [], [] => true
 | a :: us, b :: vs => a.same b && BT.sameL us vs
 | _, _ => false
end
abbrev F11 (α : Type) := ByteArray → ByteArray → Int → Int → List (List DV) → ByteArray → Int → Int → ByteArray → ByteArray → List (List DV) → α
def BT.call2 {α : Type} (f : F11 (F11 α)) (a b : BT) : α := b.call (a.call f)
theorem Wmd : ∀ {a b : List BT}, BT.sameL a b = true → a.length = b.length
 | [], [], _ => rfl
 | a :: us, b :: vs, h => by
  simp only [BT.sameL, Bool.and_eq_true] at h
  simp [Wmd h.2]
 | [], b :: vs, h => by simp [BT.sameL] at h
 | a :: us, [], h => by simp [BT.sameL] at h
theorem W0y {a b : List BT} (h : a.length ≠ b.length) : BT.sameL a b = false := by
 cases h2 : BT.sameL a b with
 | false => rfl
 | true => exact absurd (Wmd h2) h
theorem Wto (f0 : F11 (F11 (KB → Option DV))) (x y : BT) (K : KB) : x.call (fun v3 v4 v5 v6 v7 v8 v9 v10 v11 v12 v13 => y.call (fun v15 v16 v17 v18 v19 v20 v21 v22 v23 v24 v25 => f0 v3 v4 v5 v6 v7 v8 v9 v10 v11 v12 v13 v15 v16 v17 v18 v19 v20 v21 v22 v23 v24 v25 K)) = BT.call2 f0 x y K := by cases x; cases y; rfl
theorem Wme (f0 : F11 (F11 (KB → Option DV))) (f1 : W2y) (x1 x2 : W4w) (x3 x4 : Int) (x5 : W4x) (x6 : W4w) (x7 x8 : Int) (x9 x10 x12 x13 : W4w) (x14 x15 : Int) (x16 : W4x) (x17 : W4w) (x18 x19 : Int) (x20 x21 : W4w) (X Y : List BT) (hl : X.length < 9223372036854775807) (hf : ∀ x ∈ X, ∀ y ∈ Y, ∀ k : KB, BT.call2 f0 x y k = k (x.same y)) (κ : KB × Option DV) :
  ∀ (r1 r2 d1 d2 : List BT), X = d1 ++ r1 → Y = d2 ++ r2 → d1.length = d2.length → r1.length = r2.length →
  LF (Khj f0 f1) (r1.length + 1) (.h0 d1.length x1 x2 x3 x4 x5 x6 x7 x8 x9 x10 (BT.cellsL X) x12 x13 x14 x15 x16 x17 x18 x19 x20 x21 (BT.cellsL Y)) κ = bx (BT.sameL r1 r2) κ.2 (κ.1 false)
 | [], [], d1, d2, hX, hY, hd, hr => by
  simp only [LF, Khj, BT.cellsL_eq, List.length_map]
  have : decide ((d1.length : Int) < (X.length : Int)) = false := by simp [hX]
  rw [this, bx_f]; rfl
 | q :: r1, r :: r2, d1, d2, hX, hY, hd, hr => by
  have hlx : X.length = d1.length + r1.length + 1 := by simp [hX]; omega
  have ih := Wme f0 f1 x1 x2 x3 x4 x5 x6 x7 x8 x9 x10 x12 x13 x14 x15 x16 x17 x18 x19 x20 x21 X Y hl hf κ r1 r2 (d1 ++ [q]) (d2 ++ [r]) (by simp [hX]) (by simp [hY]) (by simp [hd]) (by simpa using hr)
  rw [show (q :: r1).length + 1 = (r1.length + 1) + 1 from rfl, LF]
  simp only [Khj]
  have h1 : decide ((d1.length : Int) < (((BT.cellsL X).length : Nat) : Int)) = true := by simp [BT.cellsL_eq]; omega
  have h2 : decide (0 ≤ (d1.length : Int)) = true := by simp
  have h3 : (BT.cellsL X)[Int.toNat (d1.length : Int)]? = some q.cells := by simp [BT.cellsL_eq, hX]
  have h4 : (BT.cellsL Y)[Int.toNat (d1.length : Int)]? = some r.cells := by rw [hd]; simp [BT.cellsL_eq, hY]
  simp only [h1, h2, h3, h4, bx_t, optE, Kmb]
  rw [Wto, hf q (by simp [hX]) r (by simp [hY])]
  rw [Kcp (by omega) (by omega)]
  rw [show (d1.length : Int) + 1 = ((d1 ++ [q]).length : Nat) by simp, ih]
  simp only [BT.sameL]
  cases q.same r <;> simp [bx_t, bx_f]
 | [], r :: r2, d1, d2, hX, hY, hd, hr => by simp at hr
 | q :: r1, [], d1, d2, hX, hY, hd, hr => by simp at hr
theorem Wqf (N : Nat) : ∀ (n : Nat) (a b : BT), a.ok → b.ok → a.depth ≤ n → ∀ k : KB, BT.call2 (Ke1 N n) a b k = k (a.same b)
 | 0, a, b, _, _, hd, k => by cases a; simp [BT.depth] at hd
 | n + 1, .mk op nm nn m nums fk fi ff fr fo kids, .mk op' nm' nn' m' nums' fk' fi' ff' fr' fo' kids', ha, hb, hd, k => by
  simp only [BT.depth] at hd
  have hoka := ha.2.2.2.2.2.2.2
  have hokb := hb.2.2.2.2.2.2.2
  have hl : kids.length * 160 ≤ reachBytes := ha.2.2.2.2.2.2.1
  have hln : nums.length * 16 ≤ reachBytes := ha.2.2.2.2.1
  have hr : reachBytes < 9223372036854775807 := by decide
  show Kob (Ke1 N n) Kaz op nm nn m (nums.map qpc) fk fi ff fr fo (BT.cellsL kids) op' nm' nn' m' (nums'.map qpc) fk' fi' ff' fr' fo' (BT.cellsL kids') k = _
  unfold Kob
  simp only [Bool.not_not, BT.same]
  cases (op.toList == op'.toList) with
  | false => rfl
  | true =>
  cases (nm.toList == nm'.toList) with
  | false => rfl
  | true =>
  have e1 : (!(nn != nn')) = (nn == nn') := by simp [bne]
  have e2 : (!(m != m')) = (m == m') := by simp [bne]
  rw [e1, e2]
  cases (nn == nn') with
  | false => rfl
  | true =>
  cases (m == m') with
  | false => rfl
  | true =>
  generalize ((fk.toList == fk'.toList) && ((fi == fi') && ((ff == ff') && ((fr.toList == fr'.toList) && ((fo.toList == fo'.toList) && true))))) = c
  cases c with
  | false => rfl
  | true =>
  simp only [bx_t, Bool.true_and]
  rw [Wmc nums nums' (by omega)]
  cases Wbc nums nums' with
  | false => rfl
  | true =>
  simp only [Bool.not_true, Bool.not_false, bx_t, Bool.true_and]
  by_cases h : kids.length = kids'.length
  ·have h1 : ((((BT.cellsL kids).length : Nat) : Int) != (((BT.cellsL kids').length : Nat) : Int)) = false := by simp [BT.cellsL_eq, h]
   rw [h1, bx_f]
   have := Wme (Ke1 N n) Kaz op nm nn m (nums.map qpc) fk fi ff fr fo op' nm' nn' m' (nums'.map qpc) fk' fi' ff' fr' fo' kids kids' (by omega)
    (fun x hx y hy k => Wqf N n x y (BT.okL_mem hoka x hx) (BT.okL_mem hokb y hy) (by have := BT.depthL_mem x hx; omega) k) (k, k true) kids kids' [] [] rfl rfl rfl h
   simp only [Kkx]
   rw [show Int.toNat ((((BT.cellsL kids).length : Nat) : Int) - 0) + 1 = kids.length + 1 by simp [BT.cellsL_eq]]
   refine Eq.trans this ?_
   cases BT.sameL kids kids' <;> rfl
  ·have h1 : ((((BT.cellsL kids).length : Nat) : Int) != (((BT.cellsL kids').length : Nat) : Int)) = true := by simp [BT.cellsL_eq]; omega
   rw [h1, bx_t, W0y h]
end Go.Proofs.YtgohccjmphapfaaGreatDoor
end
