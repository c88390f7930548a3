import Derived.Test.YtgohccjmphapfaaGreatDoorMl
set_option linter.all false
noncomputable section
namespace Go.Proofs.YtgohccjmphapfaaGreatDoor
open Go Go.Pv Go.RowKit
set_option maxRecDepth 100000
theorem Wuy {c : UInt8} : ∀ {a : List UInt8} (b : List UInt8), c ∉ a → Lib.indexByte (a ++ c :: b) c = a.length
 | [], b, _ => by simp [Lib.indexByte]
 | x :: a, b, h => by
  have hx : (x == c) = false := beq_eq_false_iff_ne.2 fun e => h (by rw [e]; simp)
  have ih := Wuy (a := a) b (fun e => h (List.mem_cons_of_mem _ e))
  simp only [List.cons_append, Lib.indexByte, hx, ih]
  simp
  first | done | omega
theorem Wuz {c : UInt8} : ∀ {a : List UInt8}, c ∉ a → Lib.indexByte a c = -1
 | [], _ => rfl
 | x :: a, h => by
  have hx : (x == c) = false := beq_eq_false_iff_ne.2 fun e => h (by rw [e]; simp)
  have ih := Wuz (a := a) (fun e => h (List.mem_cons_of_mem _ e))
  simp only [Lib.indexByte, hx, ih]
  rfl
theorem Wk0 (l : List UInt8) (c : UInt8) (k : KI) : stringslite_Index (bt l) (bt [c]) k = k (Lib.indexByte l c) := by
 unfold stringslite_Index
 rw [Kuw, Kuw]
theorem Wu0 {c : UInt8} {a : List UInt8} (b : List UInt8) (h : c ∉ a) (hl : a.length + b.length ≤ 576460752303423488) (k : W3l) : Kq9 (bt (a ++ c :: b)) (bt [c]) k = k (bt a) (bt b) true := by
 unfold Kq9 K2w Kud Kuu
 rw [Wk0, Wuy b h]
 have e1 : IntKind.wrap .i64 ((a.length : Int) + (([c].length : Nat) : Int)) = ((a.length + 1 : Nat) : Int) := by rw [show ((a.length : Int) + (([c].length : Nat) : Int)) = ((a.length + 1 : Nat) : Int) by simp, Kfo (by omega)]
 have c1 : decide ((0 : Int) ≤ (a.length : Int)) = true := decide_eq_true (by omega)
 have c2 : decide ((a.length : Int) ≤ (((a ++ c :: b).length : Nat) : Int)) = true := decide_eq_true (by simp only [List.length_append, List.length_cons]; omega)
 have c3 : decide ((0 : Int) ≤ (((a ++ c :: b).length : Nat) : Int)) = true := decide_eq_true (by omega)
 have c4 : decide ((((a ++ c :: b).length : Nat) : Int) ≤ (((a ++ c :: b).length : Nat) : Int)) = true := decide_eq_true (by omega)
 have c5 : decide ((0 : Int) ≤ ((a.length + 1 : Nat) : Int)) = true := decide_eq_true (by omega)
 have c6 : decide (((a.length + 1 : Nat) : Int) ≤ (((a ++ c :: b).length : Nat) : Int)) = true := decide_eq_true (by simp only [List.length_append, List.length_cons]; omega)
 simp only [ge_iff_le, Kd7, e1, c1, c2, c3, c4, c5, c6, Nat.le_refl, decide_true, Bool.and_self, bx_t]
 rw [K9x, K9x]
 simp only [Int.toNat_natCast, List.length_append, List.length_cons]
 have f1 : List.take (a.length - Int.toNat 0) (List.drop (Int.toNat 0) (a ++ c :: b)) = a := by simp
 have f2 : List.drop (a.length + 1) (a ++ c :: b) = b := by
  rw [List.drop_append]; simp
 have f3 : List.take (a.length + (b.length + 1) - (a.length + 1)) b = b := List.take_of_length_le (by omega)
 rw [f1, f2, f3]
theorem Wq3 {c : UInt8} {a : List UInt8} (h : c ∉ a) (k : W3l) : Kq9 (bt a) (bt [c]) k = k (bt a) (bt []) false := by
 unfold Kq9 K2w Kud Kuu
 rw [Wk0, Wuz h]
 rfl
def val (a : Nat) (l : List UInt8) : Nat := l.foldl (fun n c => 10 * n + (c.toNat - 48)) a
theorem Wzv : ∀ u : Nat, val 0 (Lib.decDigits u) = u := by
 intro u
 induction u using Nat.strongRecOn with
 | ind u ih =>
  rw [Lib.decDigits]
  split
  ·rename_i h
   show 10 * 0 + ((UInt8.ofNat (48 + u)).toNat - 48) = u
   rw [Wmx h]; omega
  ·rename_i h
   unfold val
   rw [List.foldl_append]
   show 10 * val 0 (Lib.decDigits (u / 10)) + ((UInt8.ofNat (48 + u % 10)).toNat - 48) = u
   rw [ih (u / 10) (by omega), Wmx (Nat.mod_lt _ (by decide))]; omega
theorem u64s {x : Int} (h : 0 ≤ x ∧ x < 18446744073709551616) : IntKind.wrap .u64 x = x := by
 simp only [IntKind.wrap, IntKind.bits, IntKind.signed]
 simp
 omega
theorem u8s {x : Int} (h : 0 ≤ x ∧ x < 256) : IntKind.wrap .u8 x = x := by
 simp only [IntKind.wrap, IntKind.bits, IntKind.signed]
 simp
 omega
theorem Whj (B : List UInt8) (hB : B.length ≤ 18) (hd : B.all dgt = true) (κ : (Int → Bool → Option DV) × KI) : ∀ (r d : List UInt8) (a : Nat), B = d ++ r → a < 10 ^ d.length → LF Km0 (r.length + 1) (.h0 a (Kse (bt B)) (B.length : Nat) d.length) κ = κ.2 (val a r)
 | [], d, a, he, ha => by
  simp only [LF, Km0]
  rw [decide_eq_false (by simp [he]), bx_f]; rfl
 | c :: r, d, a, he, ha => by
  have hlen : B.length = d.length + r.length + 1 := by simp [he]; omega
  have hc : dgt c = true := List.all_eq_true.1 hd c (by simp [he])
  have hc := of_decide_eq_true hc
  have hp : (10 : Nat) ^ d.length ≤ 10 ^ 17 := Nat.pow_le_pow_right (by omega) (by omega)
  have hp : (10 : Nat) ^ d.length ≤ 100000000000000000 := hp
  have hp2 : (10 : Nat) ^ (d.length + 1) = 10 ^ d.length * 10 := Nat.pow_succ ..
  rw [show (c :: r).length + 1 = (r.length + 1) + 1 from rfl, LF]
  simp only [Km0]
  have h1 : decide ((d.length : Int) < ((B.length : Nat) : Int)) = true := by simp; omega
  have h2 : decide (0 ≤ (d.length : Int)) = true := by simp
  have h3 : (Kse (bt B))[Int.toNat (d.length : Int)]? = some [.val (.int .u8 c.toNat)] := by unfold Kse; rw [Kuw]; simp [he]
  have hw : IntKind.wrap .i64 ((d.length : Int) + 1) = ((d ++ [c]).length : Nat) := by rw [Kcp (by omega) (by omega)]; simp
  rw [h1, bx_t, h2, bx_t, h3]
  simp only [optE]
  rw [ld_u, decide_eq_false (by omega), Bool.not_false, bx_t, decide_eq_false (by omega), bx_f, hw]
  have e : IntKind.wrap .u64 ((IntKind.wrap .u64 (10 * (a : Int))) + (IntKind.wrap .u64 (IntKind.wrap .u8 (((c.toNat : Nat) : Int) - 48)))) = ((10 * a + (c.toNat - 48) : Nat) : Int) := by
   have w1 : IntKind.wrap .u64 (10 * (a : Int)) = 10 * (a : Int) := u64s (by omega)
   have w2 : IntKind.wrap .u8 (((c.toNat : Nat) : Int) - 48) = ((c.toNat : Nat) : Int) - 48 := u8s (by omega)
   have w3 : IntKind.wrap .u64 (((c.toNat : Nat) : Int) - 48) = ((c.toNat : Nat) : Int) - 48 := u64s (by omega)
   rw [w1, w2, w3, u64s (by omega)]; omega
  rw [e, Whj B hB hd κ r (d ++ [c]) (10 * a + (c.toNat - 48)) (by simp [he]) (by rw [List.length_append, List.length_cons, List.length_nil, hp2]; omega)]
  rfl
theorem Wej {u : Nat} (hu : u ≤ 1073741824) (k : Int → Bool → Option DV) : K0z (bt (Lib.decDigits u)) 10 k = k u true := by
 have hl : (Lib.decDigits u).length ≤ 10 := by
  have key : ∀ (m u : Nat), u < 10 ^ (m + 1) → (Lib.decDigits u).length ≤ m + 1 := by
   intro m
   induction m with
   | zero => intro u h; rw [Lib.decDigits, dif_pos (by omega)]; simp
   | succ m ih =>
    intro u h
    rw [Lib.decDigits]
    split
    ·simp
    ·have := ih (u / 10) (by rw [Nat.pow_succ] at h; omega)
     rw [List.length_append]; simp; omega
  exact key 9 u (by omega)
 have h1 : 1 ≤ (Lib.decDigits u).length := by
  have := Whh u
  cases h : Lib.decDigits u with
  | nil => exact absurd h this
  | cons _ _ => simp
 unfold K0z K56
 rw [Kd7, decide_eq_false (by omega), Bool.not_false, bx_t, decide_eq_false (by omega), bx_f]
 have hb : (Kse (bt (Lib.decDigits u))).length = (Lib.decDigits u).length := by rw [K6i, Kd7]
 rw [hb, show Koa (Kfs.h0 0 (Kse (bt (Lib.decDigits u))) (((Lib.decDigits u).length : Nat) : Int) 0) = (Lib.decDigits u).length + 1 by simp [Koa]]
 have := Whj (Lib.decDigits u) (by omega) (Wb6 u) (fun z3_0 z3_1 => k z3_0 z3_1, fun z4_0 => k z4_0 true) (Lib.decDigits u) [] 0 rfl (by simp)
 refine this.trans ?_
 rw [Wzv]
end Go.Proofs.YtgohccjmphapfaaGreatDoor
end

noncomputable section
namespace Go.Proofs.YtgohccjmphapfaaGreatDoor
open Go Go.Pv Go.RowKit
set_option maxRecDepth 100000
theorem Whk {c : UInt8} (hc : dgt c = false) (u : Nat) : c ∉ Lib.decDigits u := fun h => by
 have := List.all_eq_true.1 (Wb6 u) c h
 rw [hc] at this; cases this
theorem Ww8 {n : Nat} (hn : n ≤ 1073741824) (k : W3w) : Kmt (bt (Lib.decDigits n)) k = k n 1 true := by
 unfold Kmt Kwy
 rw [show (⟨#[47]⟩ : W4w) = bt [47] from rfl, Wq3 (Whk rfl n), bx_f, show (⟨#[46]⟩ : W4w) = bt [46] from rfl, Wq3 (Whk rfl n), Wej hn]
 rfl
theorem Ww9 {n d : Nat} (hn : n ≤ 1073741824) (hd : d ≤ 1073741824) (h0 : d ≠ 0) (k : W3w) : Kmt (bt (Lib.decDigits n ++ 47 :: Lib.decDigits d)) k = k n d true := by
 have l1 := dlen (a := n) (by omega)
 have l2 := dlen (a := d) (by omega)
 unfold Kmt Kwy
 rw [show (⟨#[47]⟩ : W4w) = bt [47] from rfl, Wu0 (Lib.decDigits d) (Whk rfl n) (by omega), bx_t, Wej hn, Wej hd, bx_t, bx_t]
 rw [show ((d : Int) != 0) = true by simp; omega]
theorem Wu1 (neg : Bool) (n d : Nat) (hn : n ≤ 1073741824) (hd : 1 ≤ d ∧ d ≤ 1073741824) (hg : Nat.gcd n d = 1) (k : KQ) : Kn4 neg n d k = k (if neg then -(n : Int) else n) d := by
 unfold Kn4 K0e
 have h0 : ((d : Int) == 0) = false := by rw [beq_eq_false_iff_ne]; omega
 rw [h0, bx_f, K9s n d hd.2, hg]
 have e1 : IntKind.wrap .u64 (Int.tdiv (n : Int) ((1 : Nat) : Int)) = n := by rw [show Int.tdiv (n : Int) ((1 : Nat) : Int) = n by simp]; exact u64s (by omega)
 have e2 : IntKind.wrap .u64 (Int.tdiv (d : Int) ((1 : Nat) : Int)) = d := by rw [show Int.tdiv (d : Int) ((1 : Nat) : Int) = d by simp]; exact u64s (by omega)
 rw [show (((1 : Nat) : Int) == 0) = false from rfl, bx_f, bx_f, e1, e2, decide_eq_false (by omega), Bool.not_false, bx_t, decide_eq_false (by omega), bx_f]
 rw [Kfo (x := (n : Int)) (by omega), Kfo (x := (d : Int)) (by omega), Kfo (by omega)]
 cases neg with
 | true => rw [bx_t, Int.zero_sub]; rfl
 | false => rw [bx_f]; rfl
theorem Wm0 {n : Int} (h : i64 n) (r : List UInt8) : (Lib.itoa n ++ r == [110, 111, 110, 101]) = false := by
 rw [beq_eq_false_iff_ne]
 intro e
 by_cases hn : n < 0
 ·obtain ⟨u, rfl⟩ : ∃ u : Nat, n = -(u : Int) := ⟨n.natAbs, by omega⟩
  rw [Lib.itoa_neg u (by omega)] at e; cases e
 ·obtain ⟨u, rfl⟩ : ∃ u : Nat, n = u := ⟨n.toNat, by omega⟩
  rw [Lib.itoa_nonneg] at e
  have ha := Wb6 u
  cases hd : Lib.decDigits u with
  | nil => exact Whh u hd
  | cons c l =>
   rw [hd] at e ha
   rw [List.all_cons, Bool.and_eq_true] at ha
   injection e with e _
   rw [e] at ha; exact absurd ha.1 (by decide)
def mag (n d : Nat) : List UInt8 := bif (d : Int) == 1 then Lib.decDigits n else Lib.decDigits n ++ (47 :: Lib.decDigits d)
theorem Wq4 {n d : Nat} (hn : n ≤ 1073741824) (hd : 1 ≤ d ∧ d ≤ 1073741824) (k : W3w) : Kmt (bt (mag n d)) k = k n d true := by
 unfold mag
 by_cases h1 : d = 1
 ·subst h1
  exact Ww8 hn k
 ·rw [show ((d : Int) == 1) = false by rw [beq_eq_false_iff_ne]; omega]
  exact Ww9 hn hd.2 (by omega) k
theorem W1d (n d : Nat) : hd 45 (mag n d) = false := by
 have ha := Wb6 n
 have key : ∀ r, hd 45 (Lib.decDigits n ++ r) = false := by
  intro r
  cases hd' : Lib.decDigits n with
  | nil => exact absurd hd' (Whh n)
  | cons c l =>
   rw [hd'] at ha
   rw [List.all_cons, Bool.and_eq_true] at ha
   rw [List.cons_append, hd, beq_eq_false_iff_ne]
   intro e; rw [e] at ha; exact absurd ha.1 (by decide)
 unfold mag
 cases ((d : Int) == 1) with
 | true => have := key []; rwa [List.append_nil] at this
 | false => exact key _
theorem Wo3 {q : Int × Int} (h : vq q = true) (k : W24) : K4g (bt (qtl q)) k = k q.1 q.2 0 := by
 obtain ⟨a, b⟩ := q
 unfold K4g K8w
 cases hq : Q.isq a b with
 | false =>
  have : (a, b) = (0, 0) := by
   unfold vq at h
   simp only [hq, Bool.or_false, Bool.and_eq_true, beq_iff_eq] at h
   rw [h.1, h.2]
  cases this
  have e : qtl (0, 0) = [110, 111, 110, 101] := rfl
  rw [e, tol, tol, Kuw]
  rfl
 | true =>
  obtain ⟨a1, a2, b1, b2, hg⟩ := (Q.isq_iff a b).1 hq
  obtain ⟨d, rfl⟩ : ∃ d : Nat, b = d := ⟨b.toNat, by omega⟩
  have hgl : ∀ l : List UInt8, (ByteArray.toList (bt l) == ByteArray.toList (⟨#[110, 111, 110, 101]⟩ : W4w)) = (l == [110, 111, 110, 101]) := fun l => by rw [tol, tol, Kuw]
  rw [hgl]
  have hnone : (qtl (a, (d : Int)) == [110, 111, 110, 101]) = false := by
   unfold qtl
   rw [hq]
   have hi : i64 a := by unfold i64; omega
   cases h1 : ((d : Int) == 1) with
   | true => have := Wm0 hi []; rwa [List.append_nil] at this
   | false => exact Wm0 hi _
  rw [hnone, bx_f]
  have fin : ∀ (neg : Bool) (n : Nat), n = a.natAbs → (if neg then -(n : Int) else n) = a → (Kn4 neg n d (fun r6 r7 => Knj r6 r7 (fun r8 => bx (!r8) (k 0 0 4) (k r6 r7 0)))) = k a d 0 := by
   intro neg n hn he
   rw [Wu1 neg n d (by omega) (by omega) (by rw [hn]; simpa using hg), he, Wb0, hq]; rfl
  by_cases hn : a < 0
  ·obtain ⟨n, rfl⟩ : ∃ n : Nat, a = -(n : Int) := ⟨a.natAbs, by omega⟩
   have e : qtl (-(n : Int), (d : Int)) = 45 :: mag n d := by
    unfold qtl mag
    rw [hq]
    simp only [cond_true, Lib.itoa_neg n (by omega)]
    rw [Lib.itoa_nonneg]
    cases ((d : Int) == 1) <;> rfl
   rw [e, show (⟨#[45]⟩ : W4w) = bt [45] from rfl, Whi]
   simp only [hd, beq_self_eq_true, cond_true, List.tail_cons]
   rw [Wq4 (by omega) (by omega), Bool.not_true, bx_f]
   exact fin true n (by omega) (by simp)
  ·obtain ⟨n, rfl⟩ : ∃ n : Nat, a = n := ⟨a.toNat, by omega⟩
   have e : qtl ((n : Int), (d : Int)) = mag n d := by
    unfold qtl mag
    rw [hq]
    simp only [cond_true]
    rw [Lib.itoa_nonneg, Lib.itoa_nonneg]
   rw [e, show (⟨#[45]⟩ : W4w) = bt [45] from rfl, Whi, W1d]
   simp only [cond_false]
   rw [Wq4 (by omega) (by omega), Bool.not_true, bx_f]
   exact fin false n (by omega) (by simp)
end Go.Proofs.YtgohccjmphapfaaGreatDoor
end

noncomputable section
namespace Go.Proofs.YtgohccjmphapfaaGreatDoor
open Go Go.Pv Go.RowKit
set_option maxRecDepth 100000
theorem Wek (q : Int × Int) : ∀ c ∈ qtl q, dlm.contains c = false := by
 unfold qtl
 cases h : Q.isq q.1 q.2 with
 | false =>
  simp only [cond_false]
  decide
 | true =>
  obtain ⟨ha, hb⟩ := Wha h
  simp only [cond_true]
  cases (q.2 == 1) with
  | true => exact Wda ha
  | false =>
   intro c hc
   simp only [cond_false] at hc
   rcases List.mem_append.1 hc with hc | hc
   ·exact Wda ha c hc
   ·rcases List.mem_cons.1 hc with rfl | hc
    ·rfl
    ·exact Wda hb c hc
theorem Wzw {n : Int} (h : i64 n) : Lib.itoa n ≠ [] := by
 by_cases hn : n < 0
 ·obtain ⟨u, rfl⟩ : ∃ u : Nat, n = -(u : Int) := ⟨n.natAbs, by omega⟩
  rw [Lib.itoa_neg u (by omega)]; simp
 ·obtain ⟨u, rfl⟩ : ∃ u : Nat, n = u := ⟨n.toNat, by omega⟩
  rw [Lib.itoa_nonneg]; exact Whh u
theorem Wm1 (q : Int × Int) : qtl q ≠ [] := by
 unfold qtl
 cases h : Q.isq q.1 q.2 with
 | false => simp
 | true =>
  obtain ⟨ha, hb⟩ := Wha h
  simp only [cond_true]
  cases (q.2 == 1) with
  | true => exact Wzw ha
  | false => simp
theorem Wa0 {wd : List UInt8} (h0 : wd ≠ []) (hw : ∀ c ∈ wd, dlm.contains c = false) (r : List UInt8) : blk (wd ++ r) = wd ++ r := by
 cases wd with
 | nil => contradiction
 | cons c l =>
  have hc := hw c (by simp)
  rw [List.cons_append]
  apply Wfn
  unfold dlm at hc
  simp only [List.contains_cons, List.contains_nil, Bool.or_false, Bool.or_eq_false_iff] at hc ⊢
  exact ⟨hc.1, hc.2.1⟩
end Go.Proofs.YtgohccjmphapfaaGreatDoor
end
