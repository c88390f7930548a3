import Derived.Test.YtgohccjmphapfaaGreatDoorMo
import Derived.Lib.Split
import Derived.Lib.CutLaws
import Derived.Lib.IndexBytes
import Derived.Lib.Join
set_option linter.all false
noncomputable section
namespace Go.Proofs.YtgohccjmphapfaaGreatDoor
def Q.cut1 (c : UInt8) : List UInt8 → List UInt8 × List UInt8 × Bool
 | [] => ([], [], false)
 | d :: r => if d = c then ([], r, true) else (d :: (Q.cut1 c r).1, (Q.cut1 c r).2.1, (Q.cut1 c r).2.2)
namespace Q
theorem index_cut (c : UInt8) : ∀ l : List UInt8, (Lib.indexByte l c = -1 ∧ cut1 c l = (l, [], false)) ∨ ∃ i : Nat, i < l.length ∧ Lib.indexByte l c = i ∧ cut1 c l = (l.take i, l.drop (i + 1), true)
 | [] => Or.inl ⟨rfl, rfl⟩
 | d :: r => by
  by_cases h : d = c
  ·right
   refine ⟨0, by simp, ?_, ?_⟩
   ·unfold Lib.indexByte; rw [if_pos (by rw [beq_iff_eq]; exact h)]; rfl
   ·rw [cut1, if_pos h]; rfl
  ·have hb : ¬ (d == c) = true := by rw [beq_iff_eq]; exact h
   rcases index_cut c r with ⟨h1, h2⟩ | ⟨i, h1, h2, h3⟩
   ·left
    constructor
    ·unfold Lib.indexByte; rw [if_neg hb, h1]; rfl
    ·rw [cut1, if_neg h, h2]
   ·right
    refine ⟨i + 1, by simp; omega, ?_, ?_⟩
    ·unfold Lib.indexByte; rw [if_neg hb, if_neg (by rw [h2, beq_iff_eq]; omega), h2]; simp
    ·rw [cut1, if_neg h, h3]; simp
end Q
theorem Wgu {c : UInt8} : ∀ {a : List UInt8} (b : List UInt8), c ∉ a → Q.cut1 c (a ++ c :: b) = (a, b, true)
 | [], b, _ => by simp [Q.cut1]
 | d :: r, b, h => by
  have h1 : d ≠ c := fun e => h (by simp [e])
  have h2 : c ∉ r := fun e => h (List.mem_cons_of_mem _ e)
  simp only [List.cons_append, Q.cut1, if_neg h1, Wgu b h2]
theorem Wm2 {c : UInt8} : ∀ {a : List UInt8}, c ∉ a → Q.cut1 c a = (a, [], false)
 | [], _ => rfl
 | d :: r, h => by
  have h1 : d ≠ c := fun e => h (by simp [e])
  have h2 : c ∉ r := fun e => h (List.mem_cons_of_mem _ e)
  simp only [Q.cut1, if_neg h1, Wm2 h2]
def Wj1 (c : UInt8) : Nat → List UInt8 → List (List UInt8)
 | 0, l => [l]
 | n + 1, l => if (Q.cut1 c l).2.2 = true then (Q.cut1 c l).1 :: Wj1 c n (Q.cut1 c l).2.1 else [l]
theorem Wq5 (c : UInt8) : ∀ (n : Nat) (s : ByteArray), Lib.splitB ⟨#[c]⟩ 0 n s = (Wj1 c n s.data.toList).map fun l => (⟨l.toArray⟩ : ByteArray)
 | 0, s => by simp [Lib.splitB, Wj1]
 | n + 1, s => by
  have hi : Lib.indexB s ⟨#[c]⟩ = Lib.indexByte s.data.toList c := by
   rw [Lib.one s ⟨#[c]⟩ rfl]
   congr 1
   show (((c.toNat : Nat) : Int)).toNat.toUInt8 = c
   simp
  unfold Lib.splitB Wj1
  rw [hi]
  rcases Q.index_cut c s.data.toList with ⟨h1, h2⟩ | ⟨i, h0, h1, h2⟩
  ·rw [h1, h2]; simp
  ·rw [h1, h2]
   have hL : s.data.toList.length = s.size := (Lib.size_eq s).symm
   rw [if_neg (by simp), Wq5 c n]
   simp only [if_true, List.map_cons, List.cons.injEq]
   constructor
   ·rw [Lib.extract_eq]; simp
   ·congr 2
    rw [Lib.extract_eq]
    have ht : List.take (s.size - (i + 1)) (List.drop (i + 1) s.data.toList) = List.drop (i + 1) s.data.toList := List.take_of_length_le (by rw [List.length_drop, ← Lib.size_eq]; exact Nat.le_refl _)
    rw [show (ByteArray.mk #[c]).size = 1 from rfl]
    simpa using ht
theorem W1e {c : UInt8} {a b d e : List UInt8} (ha : c ∉ a) (hb : c ∉ b) (hd : c ∉ d) (he : c ∉ e) : Wj1 c 4 (a ++ c :: (b ++ c :: (d ++ c :: e))) = [a, b, d, e] := by
 simp only [Wj1, Wgu _ ha, Wgu _ hb, Wgu _ hd, Wm2 he, if_true]
 simp
open Go Go.Pv Go.RowKit
set_option maxRecDepth 100000
theorem Wxa (l : List UInt8) (c : UInt8) (hl : l.length ≤ 576460752303423488) (k : KT) : Kn7 (bt (l ++ [c])) (bt [c]) k = k (bt l) := by
 unfold Kn7 Kvv Kno Kp4 Khs Kmn
 have e0 : (((l ++ [c]).length : Nat) : Int) - (([c].length : Nat) : Int) = (l.length : Nat) := by simp
 have e1 : IntKind.wrap .i64 ((((l ++ [c]).length : Nat) : Int) - (([c].length : Nat) : Int)) = (l.length : Nat) := by rw [e0, Kfo (by omega)]
 have c1 : decide ((([c].length : Nat) : Int) ≤ (((l ++ [c]).length : Nat) : Int)) = true := decide_eq_true (by simp only [List.length_append, List.length_cons, List.length_nil]; omega)
 have c2 : decide ((0 : Int) ≤ ((l.length : Nat) : Int)) = true := decide_eq_true (by omega)
 have c3 : decide ((0 : Int) ≤ (((l ++ [c]).length : Nat) : Int)) = true := decide_eq_true (by omega)
 have c4 : decide ((((l ++ [c]).length : Nat) : Int) ≤ (((l ++ [c]).length : Nat) : Int)) = true := decide_eq_true (by omega)
 have c5 : decide (((l.length : Nat) : Int) ≤ (((l ++ [c]).length : Nat) : Int)) = true := decide_eq_true (by simp only [List.length_append, List.length_cons, List.length_nil]; omega)
 simp only [ge_iff_le, Kd7, e1, c1, c2, c3, c4, c5, Nat.le_refl, decide_true, Bool.and_self, bx_t]
 rw [K9x, K9x, tol, tol, Kuw, Kuw]
 simp [bx]
theorem Whl {k r o : ByteArray} {I F : Int} (h : Z.vld k r o I F = true) : (∃ i f : Nat, I = i ∧ F = f ∧ i ≤ 30 ∧ f ≤ 30) ∧ (k.data.toList = [102, 105, 120] ∨ k.data.toList = [102, 108, 111, 97, 116]) ∧ (r.data.toList = [102, 108, 111, 111, 114] ∨ r.data.toList = [110, 101, 97, 114] ∨ r.data.toList = [122, 101, 114, 111]) ∧ (o.data.toList = [115, 97, 116] ∨ o.data.toList = [110, 111, 110, 101] ∨ o.data.toList = [119, 114, 97, 112]) := by
 unfold Z.vld Z.hsz Z.hrd Z.hov at h
 simp only [tol, Bool.and_eq_true, Bool.or_eq_true, beq_iff_eq] at h
 obtain ⟨⟨h1, h2⟩, h3⟩ := h
 have hk : (0 ≤ I ∧ I ≤ 30 ∧ 0 ≤ F ∧ F ≤ 30) ∧ (k.data.toList = [102, 105, 120] ∨ k.data.toList = [102, 108, 111, 97, 116]) := by
  split at h1
  ·rename_i hh
   have := of_decide_eq_true h1
   exact ⟨by omega, .inl hh⟩
  ·split at h1
   ·rename_i hh
    have := of_decide_eq_true h1
    exact ⟨by omega, .inr hh⟩
   ·cases h1
 refine ⟨⟨I.toNat, F.toNat, by omega, by omega, by omega, by omega⟩, hk.2, ?_, ?_⟩
 ·rcases h2 with (h2 | h2) | h2
  ·exact .inl h2
  ·exact .inr (.inl h2)
  ·exact .inr (.inr h2)
 ·rcases h3 with (h3 | h3) | ⟨h3, _⟩
  ·exact .inl h3
  ·exact .inr (.inl h3)
  ·exact .inr (.inr h3)
theorem Wo4 {k r o : ByteArray} {I F : Int} (h : Z.vld k r o I F = true) (K : ByteArray → Int → Int → ByteArray → ByteArray → Int → Option DV) : K4d (bt (ftl k r o I F)) K = K k I F r o 0 := by
 obtain ⟨⟨i, f, hi, hf, hi30, hf30⟩, hk, hr, ho⟩ := Whl h
 have nk : (40 : UInt8) ∉ k.data.toList := by rcases hk with e | e <;> rw [e] <;> decide
 have nr : (44 : UInt8) ∉ r.data.toList := by rcases hr with e | e | e <;> rw [e] <;> decide
 have no : (44 : UInt8) ∉ o.data.toList := by rcases ho with e | e | e <;> rw [e] <;> decide
 have lk : k.data.toList.length ≤ 5 := by rcases hk with e | e <;> rw [e] <;> decide
 have lr : r.data.toList.length ≤ 5 := by rcases hr with e | e | e <;> rw [e] <;> decide
 have lo : o.data.toList.length ≤ 5 := by rcases ho with e | e | e <;> rw [e] <;> decide
 have lr2 : 4 ≤ r.data.toList.length := by rcases hr with e | e | e <;> rw [e] <;> decide
 have li := dlen (a := i) (by omega)
 have lf := dlen (a := f) (by omega)
 have hft : ftl k r o I F = k.data.toList ++ 40 :: ((Lib.decDigits i ++ 44 :: (Lib.decDigits f ++ 44 :: (r.data.toList ++ 44 :: o.data.toList))) ++ [41]) := by
  unfold ftl
  rw [h, hi, hf, Lib.itoa_nonneg, Lib.itoa_nonneg]
  simp
 unfold K4d K8v
 have hT := Wjv k r o I F
 rw [hft] at hT ⊢
 rw [show (⟨#[40]⟩ : ByteArray) = bt [40] from rfl, Wu0 _ nk (by simp only [List.length_append, List.length_cons, List.length_nil]; omega)]
 rw [show (⟨#[41]⟩ : ByteArray) = bt [41] from rfl, Wxa _ 41 (by simp only [List.length_append, List.length_cons]; omega)]
 unfold strings_SplitN
 rw [decide_eq_true (by refine ⟨rfl, rfl, ?_⟩; rw [Kd7]; simp only [List.length_append, List.length_cons]; omega), Kd7]
 rw [show min 5 ((Lib.decDigits i ++ 44 :: (Lib.decDigits f ++ 44 :: (r.data.toList ++ 44 :: o.data.toList))).length + 1) - 1 = 4 by simp only [List.length_append, List.length_cons]; omega]
 rw [Wq5, Kuw, W1e (Whk rfl i) (Whk rfl f) nr no]
 simp only [cond_true, List.map_cons, List.map_nil]
 rw [show (((([[DV.val (Value.string (⟨(Lib.decDigits i).toArray⟩ : ByteArray))], [.val (.string ⟨(Lib.decDigits f).toArray⟩)], [.val (.string ⟨r.data.toList.toArray⟩)], [.val (.string ⟨o.data.toList.toArray⟩)]] : List (List DV)).length : Nat) : Int) != 4) = false from rfl, bx_f]
 have ai : ∀ (u : Nat), u ≤ 30 → ∀ (κ e : KI), Koc ⟨(Lib.decDigits u).toArray⟩ κ e = κ u := by
  intro u hu κ e
  unfold Koc
  have hl := dlen (a := u) (by omega)
  have hb : (⟨(Lib.decDigits u).toArray⟩ : ByteArray) = bt (Lib.decDigits u) := rfl
  rw [hb, Kd7, decide_eq_true (by omega), Kuw]
  have := Wmz (n := u) (by omega) (by omega)
  rw [Lib.itoa_nonneg] at this
  rw [this]; rfl
 have hbr : (⟨r.data.toList.toArray⟩ : ByteArray) = r := Wb4 r
 have hbo : (⟨o.data.toList.toArray⟩ : ByteArray) = o := Wb4 o
 rw [hbr, hbo]
 have l1 : ∀ (x : ByteArray) (k : KT), ld_s [.val (.string x)] 0 k = k x := fun _ _ => rfl
 simp only [optE, show Int.toNat 0 = 0 from rfl, show Int.toNat 1 = 1 from rfl, show Int.toNat 2 = 2 from rfl, show Int.toNat 3 = 3 from rfl, List.getElem?_cons_zero, List.getElem?_cons_succ, l1]
 rw [ai i hi30, ai f hf30, Wb4, ← hi, ← hf, Wg0, h]
 simp only [Bool.not_true, Bool.not_false, bx_t]
 rw [hT]
 simp only [beq_self_eq_true, Bool.not_true, bx_f]
end Go.Proofs.YtgohccjmphapfaaGreatDoor
end

noncomputable section
namespace Go.Proofs.YtgohccjmphapfaaGreatDoor
open Go Go.Pv Go.RowKit
set_option maxRecDepth 100000
theorem Wxb {k r o : ByteArray} {I F : Int} (h : Z.vld k r o I F = true) : ∃ b : List UInt8, ftl k r o I F = b ++ [41] ∧ (41 : UInt8) ∉ b ∧ (∃ c l, b = c :: l ∧ [32, 10].contains c = false) ∧ b.length ≤ 100 := by
 obtain ⟨⟨i, f, hi, hf, hi30, hf30⟩, hk, hr, ho⟩ := Whl h
 have nk : (41 : UInt8) ∉ k.data.toList := by rcases hk with e | e <;> rw [e] <;> decide
 have nr : (41 : UInt8) ∉ r.data.toList := by rcases hr with e | e | e <;> rw [e] <;> decide
 have no : (41 : UInt8) ∉ o.data.toList := by rcases ho with e | e | e <;> rw [e] <;> decide
 have hd : ∃ c l, k.data.toList = c :: l ∧ [32, 10].contains c = false := by rcases hk with e | e <;> exact ⟨_, _, e, by decide⟩
 have hl := Wus k r o I F
 have e : ftl k r o I F = (k.data.toList ++ 40 :: (Lib.decDigits i ++ 44 :: (Lib.decDigits f ++ 44 :: (r.data.toList ++ 44 :: o.data.toList)))) ++ [41] := by
  unfold ftl
  rw [h, hi, hf, Lib.itoa_nonneg, Lib.itoa_nonneg]
  simp
 refine ⟨_, e, ?_, ?_, ?_⟩
 ·have n1 : (41 : UInt8) ∉ Lib.decDigits i := Whk rfl i
  have n2 : (41 : UInt8) ∉ Lib.decDigits f := Whk rfl f
  simp only [List.mem_append, List.mem_cons, nk, n1, n2, nr, no, false_or, or_false]
  decide
 ·obtain ⟨c, l, h1, h2⟩ := hd
  exact ⟨c, l ++ _, by rw [h1]; rfl, h2⟩
 ·rw [e] at hl
  simp only [List.length_append, List.length_cons, List.length_nil] at hl ⊢
  omega
theorem Wu2 {k r o : ByteArray} {I F : Int} (h : Z.vld k r o I F = true) (R : List UInt8) (hR : R.length ≤ 1073741824) (κ : W4g) :
  Khw (bt (32 :: (ftl k r o I F ++ R))) false κ = κ k I F r o (bt R) false := by
 obtain ⟨b, hb, hn, ⟨c, l, hc, hcb⟩, hlen⟩ := Wxb h
 unfold Khw Kue
 rw [Wkz, Wjy]
 have hblk : blk (ftl k r o I F ++ R) = b ++ 41 :: R := by
  rw [hb, List.append_assoc, hc, List.cons_append, Wfn _ hcb]; rfl
 rw [hblk]
 unfold K2x K4e
 rw [show (⟨#[41]⟩ : W4w) = bt [41] from rfl, Wk0, Wuy R hn]
 have hw : IntKind.wrap .i64 ((b.length : Int) + 1) = ((b.length + 1 : Nat) : Int) := by rw [Kcp (by omega) (by omega)]; rfl
 simp only []
 rw [hw, Wo2 (b.length + 1) (b ++ 41 :: R) (by simp)]
 have e1 : (b ++ 41 :: R).take (b.length + 1) = ftl k r o I F := by
  rw [hb, List.take_append]
  simp
  exact List.take_of_length_le (by omega)
 have e2 : (b ++ 41 :: R).drop (b.length + 1) = R := by
  rw [List.drop_append]; simp
 rw [e1, e2, Wo4 h]
 rfl
end Go.Proofs.YtgohccjmphapfaaGreatDoor
end

noncomputable section
namespace Go.Proofs.YtgohccjmphapfaaGreatDoor
open Go Go.Pv Go.RowKit
set_option maxRecDepth 100000
def P7 (l : List UInt8) : Prop := ∀ c ∈ l, c.toNat < 128
theorem P7.app {a b : List UInt8} (ha : P7 a) (hb : P7 b) : P7 (a ++ b) := fun c hc => (List.mem_append.1 hc).elim (ha c) (hb c)
theorem P7.cons {x : UInt8} {b : List UInt8} (hx : x.toNat < 128) (hb : P7 b) : P7 (x :: b) := fun c hc => by
 rcases List.mem_cons.1 hc with rfl | hc
 ·exact hx
 ·exact hb c hc
theorem P7.nil : P7 [] := fun c hc => by cases hc
theorem W1f (u : Nat) : P7 (Lib.decDigits u) := fun c hc => by
 have := of_decide_eq_true (List.all_eq_true.1 (Wb6 u) c hc)
 omega
theorem Whm (n : Int) : P7 (Lib.itoa n) := by
 unfold Lib.itoa
 split
 ·exact .cons (by decide) (W1f _)
 ·exact W1f _
theorem qtl_7 (q : Int × Int) : P7 (qtl q) := by
 unfold qtl
 cases Q.isq q.1 q.2 with
 | false => simp only [cond_false]; unfold P7; decide
 | true =>
  simp only [cond_true]
  cases (q.2 == 1) with
  | true => exact Whm _
  | false => exact .app (Whm _) (.cons (by decide) (Whm _))
theorem ftl_7 (k r o : W4w) (I F : Int) : P7 (ftl k r o I F) := by
 unfold ftl
 cases h : Z.vld k r o I F with
 | false => exact .nil
 | true =>
  obtain ⟨_, hk, hr, ho⟩ := Whl h
  have n1 : P7 k.data.toList := by rcases hk with e | e <;> rw [e] <;> unfold P7 <;> decide
  have n2 : P7 r.data.toList := by rcases hr with e | e | e <;> rw [e] <;> unfold P7 <;> decide
  have n3 : P7 o.data.toList := by rcases ho with e | e | e <;> rw [e] <;> unfold P7 <;> decide
  exact n1.app (.cons (by decide) ((Whm _).app (.cons (by decide) ((Whm _).app (.cons (by decide) (n2.app (.cons (by decide) (n3.app (.cons (by decide) .nil)))))))))
theorem Wyw : ∀ {ws : List (List UInt8)}, (∀ w ∈ ws, P7 w) → P7 (ws.flatMap (fun w => 32 :: w))
 | [], _ => .nil
 | w :: ws, h => by
  rw [List.flatMap_cons]
  exact .app (.cons (by decide) (h w (by simp))) (Wyw fun v hv => h v (List.mem_cons_of_mem _ hv))
theorem W1g {op : List UInt8} {ws : List (List UInt8)} (h0 : P7 op) (h : ∀ w ∈ ws, P7 w) : P7 (Wb5 op ws) := by
 unfold Wb5
 split
 ·exact h0
 ·exact .cons (by decide) (h0.app ((Wyw h).app (.cons (by decide) .nil)))
theorem W1h (s : Sh) (name : W4w) (n m : Int) (fk : W4w) (fi ff : Int) (fr fo : W4w) (X : List (Int × Int)) (hP : s.name = true → K4h name = true) : ∀ w ∈ fldl s name n m fk fi ff fr fo X, P7 w := by
 intro w hw
 unfold fldl at hw
 rcases List.mem_append.1 hw with hw | hw
 ·cases h : decide (s.ints ≥ 1) <;> rw [h] at hw <;> simp at hw
  subst hw; exact Whm _
 rcases List.mem_append.1 hw with hw | hw
 ·cases h : decide (s.ints ≥ 2) <;> rw [h] at hw <;> simp at hw
  subst hw; exact Whm _
 rcases List.mem_append.1 hw with hw | hw
 ·cases h : s.fmt <;> rw [h] at hw <;> simp at hw
  subst hw; exact ftl_7 _ _ _ _ _
 rcases List.mem_append.1 hw with hw | hw
 ·cases h : s.name <;> rw [h] at hw
  ·cases hw
  ·simp only [cond_true, List.mem_singleton] at hw
   subst hw
   exact .cons (by decide) (.app (fun c hc => (Wyv (Wj0 (hP h) c hc)).2) (.cons (by decide) .nil))
 ·obtain ⟨q, _, rfl⟩ := List.mem_map.1 hw
  exact qtl_7 q
mutual
theorem W1i : ∀ b : BT, b.vld = true → P7 b.txt
 | .mk op name n m nums fk fi ff fr fo kids, hv => by
  obtain ⟨s, F, ha⟩ := Whe hv
  have hv' := hv
  simp only [BT.vld, Bool.and_eq_true] at hv'
  have hk := Wyx kids hv'.2
  have hc := Wei F.hs
  unfold Wmr at hc
  simp only [Bool.and_eq_true, Bool.or_eq_true, decide_eq_true_eq, beq_iff_eq] at hc
  obtain ⟨_, _, _, _, hlet, _⟩ := hc
  obtain ⟨_, _, _, _, _, _, hP, _⟩ := K9w F.hs ha
  rw [BT.txt, F.hs, wdO]
  refine W1g (fun c hc => ?_) (fun w hw => ?_)
  ·have := of_decide_eq_true (List.all_eq_true.1 hlet c (by rw [tol]; exact hc))
   omega
  ·rcases List.mem_append.1 hw with hw | hw
   ·exact W1h s name n m fk fi ff fr fo nums hP w hw
   ·exact hk w hw
theorem Wyx : ∀ bs : List BT, BT.vldL bs = true → ∀ w ∈ BT.txtL bs, P7 w
 | [], _ => fun w hw => by cases hw
 | b :: bs, h => fun w hw => by
  rw [BT.vldL, Bool.and_eq_true] at h
  rw [BT.txtL] at hw
  rcases List.mem_cons.1 hw with rfl | hw
  ·exact W1i b h.1
  ·exact Wyx bs h.2 w hw
end
theorem W1j {l : List UInt8} (h : P7 l) (hl : l.length < 4294967281) : asc (bt l) = true := by
 unfold asc
 rw [Kd7, decide_eq_true hl, Kuw, Bool.true_and, List.all_eq_true]
 exact fun c hc => decide_eq_true (h c hc)
end Go.Proofs.YtgohccjmphapfaaGreatDoor
end

noncomputable section
namespace Go.Proofs.YtgohccjmphapfaaGreatDoor
open Go Go.Pv Go.RowKit
set_option maxRecDepth 100000
theorem Wo5 {wd : List UInt8} (h0 : wd ≠ []) (hw : ∀ c ∈ wd, dlm.contains c = false) (x : UInt8) (hx : dlm.contains x = true) (r : List UInt8) : hd x (wd ++ r) = false := by
 cases wd with
 | nil => contradiction
 | cons c l =>
  have hc := hw c (by simp)
  rw [List.cons_append, hd]
  cases h : (c == x) with
  | false => rfl
  | true => rw [eq_of_beq h] at hc; rw [hc] at hx; cases hx
theorem Wj2 {q : Int × Int} (h : vq q = true) (r : List UInt8) (hr : Ends r) (ha : asc (bt (qtl q ++ r)) = true) (κ : W4r) :
  Ki0 (bt (qtl q ++ r)) false κ = κ q.1 q.2 (bt r) false := by
 unfold Ki0 Kuf
 rw [Whg _ (qtl q) r (Wa0 (Wm1 q) (Wek q) r) (Wek q) hr ha]
 rw [Wo3 h]
 simp only [beq_self_eq_true, bx_t]
 rw [Weh]
 simp only [beq_self_eq_true]
 rw [K7v]
def flt (ws : List (List UInt8)) : List UInt8 := ws.flatMap (fun w => 32 :: w)
theorem Kjg : flt [] = [] := rfl
theorem Kgm (w : List UInt8) (ws : List (List UInt8)) : flt (w :: ws) = 32 :: (w ++ flt ws) := by simp [flt]
theorem Kmc (a b : List (List UInt8)) : flt (a ++ b) = flt a ++ flt b := by simp [flt]
theorem Wdb (ws : List (List UInt8)) (r : List UInt8) (hr : Ends r) : Ends (flt ws ++ r) := by
 cases ws with
 | nil => exact hr
 | cons w ws => exact .inr ⟨32, w ++ flt ws ++ r, by rw [Kgm]; simp, rfl⟩
theorem Wzx (ws : List (List UInt8)) : ws.length ≤ (flt ws).length := by
 induction ws with
 | nil => simp
 | cons w ws ih => rw [Kgm]; simp only [List.length_cons, List.length_append]; omega
theorem Wm3 (r : List UInt8) : Ends (41 :: r) := .inr ⟨41, r, rfl, rfl⟩
theorem asc7 {l : List UInt8} (h : P7 l) (hl : l.length ≤ 1073741824) : asc (bt l) = true := W1j h (by omega)
theorem P7.left {a b : List UInt8} (h : P7 (a ++ b)) : P7 a := fun c hc => h c (List.mem_append_left _ hc)
theorem P7.right {a b : List UInt8} (h : P7 (a ++ b)) : P7 b := fun c hc => h c (List.mem_append_right _ hc)
theorem P7.tail {x : UInt8} {b : List UInt8} (h : P7 (x :: b)) : P7 b := fun c hc => h c (List.mem_cons_of_mem _ hc)
abbrev FF := Kax Kfm Khw Kja Kfk Ki0
theorem Wj3 (s : Sh) (hs : s.nums = true) (op name : W4w) (n m : Int) (fk : W4w) (fi ff : Int) (fr fo : W4w) (X : List (Int × Int)) (hl : X.length ≤ 1073741824) (hX : X.all vq = true) (R : List UInt8)
  (κ : (ByteArray → Bool → ByteArray → ByteArray → Int → Int → ByteArray → Int → Int → ByteArray → ByteArray → Option DV) × (ByteArray → Bool → ByteArray → ByteArray → Int → Int → Nat → ByteArray → Int → Int → ByteArray → ByteArray → List DV → Option DV)) :
  ∀ (r d : List (Int × Int)) (L : W4z) (e : Nat), X = d ++ r → L.length = 2 * d.length → P7 (flt (r.map qtl) ++ 41 :: R) → (flt (r.map qtl) ++ 41 :: R).length ≤ 1073741824 →
  LF FF (r.length + 1 + e) (.h1 (bt (flt (r.map qtl) ++ 41 :: R)) false op name n m d.length fk fi ff fr fo s.ins s.outs s.kids s.ints s.fmt s.name true L) κ = κ.2 (bt (41 :: R)) false op name n m X.length fk fi ff fr fo (L ++ r.flatMap qpc)
 | [], d, L, e, he, hL, h7, hlen => by
  rw [show ([] : List (Int × Int)).length + 1 + e = e + 1 by simp; omega, LF]
  simp only [FF, Kax, List.map_nil, Kjg, List.nil_append, Bool.not_false, bx_t]
  rw [show (⟨#[41]⟩ : W4w) = bt [41] from rfl, Wc9, Wfn _ (by decide)]
  simp only [hd, beq_self_eq_true, Bool.not_true, bx_f, List.flatMap_nil, List.append_nil]
  rw [he, List.append_nil]
 | q :: r, d, L, e, he, hL, h7, hlen => by
  have hlen' : X.length = d.length + r.length + 1 := by simp [he]; omega
  have hq : vq q = true := List.all_eq_true.1 hX q (by simp [he])
  rw [show (q :: r).length + 1 + e = (r.length + 1 + e) + 1 by simp; omega, LF]
  simp only [List.map_cons, Kgm, List.cons_append, List.append_assoc] at h7 hlen ⊢
  simp only [FF, Kax, Bool.not_false, bx_t]
  have hb : (true && true && Nat.ble (d.length * 2) (L.length) && Nat.ble (d.length + 1) maxLen && Nat.ble ((d.length + 1) * 16) 140737488355328) = true := by
   have := Kum
   rw [Kpa (by omega), Kpa (by omega), Kpa (by omega)]; rfl
  rw [show (⟨#[41]⟩ : W4w) = bt [41] from rfl, Wc9, Wjy, Wa0 (Wm1 q) (Wek q), Wo5 (Wm1 q) (Wek q) 41 rfl]
  simp only [Bool.not_false, bx_t]
  rw [Wj2 hq _ (Wdb _ _ (Wm3 R)) (asc7 h7.tail (by simp only [List.length_cons] at hlen; omega)), hb, bx_t]
  have ih := Wj3 s hs op name n m fk fi ff fr fo X hl hX R κ r (d ++ [q]) (L ++ qpc q) e (by simp [he]) (by simp [qpc]; omega) h7.tail.right (by simp only [List.length_cons, List.length_append] at hlen ⊢; omega)
  rw [show (d ++ [q]).length = d.length + 1 by simp] at ih
  rw [List.take_of_length_le (by omega)]
  refine Eq.trans ?_ (ih.trans ?_)
  ·rfl
  ·simp
def rfin (X : List (Int × Int)) (κ0 : W3k) (κ1 : W3g) (t : W4w) (op name : W4w) (n m : Int) (fk : W4w) (fi ff : Int) (fr fo : W4w) : W4y := match X with
 | [] => κ0 t false op name n m fk fi ff fr fo
 | _ => κ1 t false op name n m X.length fk fi ff fr fo (X.flatMap qpc)
theorem Wxc (s : Sh) (op name : W4w) (n m : Int) (fk : W4w) (fi ff : Int) (fr fo : W4w) (X : List (Int × Int)) (hl : X.length ≤ 1073741824) (hX : X.all vq = true) (R : List UInt8) (h0 : s.nums = false → X = []) (h1 : s.nums = true → ∃ R', R = 41 :: R') (h7 : P7 (flt (X.map qtl) ++ R)) (hlen : (flt (X.map qtl) ++ R).length ≤ 1073741824)
  (κ0 : W3k) (κ1 : W3g) :
  LF FF (Ka1 (.h0 (bt (flt (X.map qtl) ++ R)) false op name n m fk fi ff fr fo s.ins s.outs s.kids s.ints s.fmt s.name s.nums)) (.h0 (bt (flt (X.map qtl) ++ R)) false op name n m fk fi ff fr fo s.ins s.outs s.kids s.ints s.fmt s.name s.nums) (κ0, κ1) = rfin X κ0 κ1 (bt R) op name n m fk fi ff fr fo := by
 simp only [Ka1, Kd7]
 rw [LF]
 simp only [FF, Kax]
 cases hn : s.nums with
 | false =>
  rw [h0 hn, bx_f]; rfl
 | true =>
  obtain ⟨R', rfl⟩ := h1 hn
  rw [bx_t, Bool.not_false, bx_t, show (⟨#[41]⟩ : W4w) = bt [41] from rfl, Wc9]
  cases X with
  | nil =>
   simp only [List.map_nil, Kjg, List.nil_append]
   rw [Wfn _ (by decide)]
   simp only [hd, beq_self_eq_true, Bool.not_true, bx_f]
   rfl
  | cons q r =>
   have hq : vq q = true := List.all_eq_true.1 hX q (by simp)
   simp only [List.map_cons, Kgm, List.cons_append, List.append_assoc] at h7 hlen ⊢
   rw [Wjy, Wa0 (Wm1 q) (Wek q), Wo5 (Wm1 q) (Wek q) 41 rfl]
   simp only [Bool.not_false, bx_t]
   rw [Wj2 hq _ (Wdb _ _ (Wm3 R')) (asc7 h7.tail (by simp only [List.length_cons] at hlen; omega))]
   have hfl := Wzx (r.map qtl)
   rw [List.length_map] at hfl
   obtain ⟨e, he⟩ : ∃ e, (32 :: (qtl q ++ (flt (r.map qtl) ++ 41 :: R'))).length = r.length + 1 + e := ⟨(32 :: (qtl q ++ (flt (r.map qtl) ++ 41 :: R'))).length - (r.length + 1), by simp only [List.length_cons, List.length_append]; omega⟩
   rw [he]
   have ih := Wj3 s hn op name n m fk fi ff fr fo (q :: r) hl hX R' (κ0, κ1) r [q] (qpc q) e rfl rfl h7.tail.right (by simp only [List.length_cons, List.length_append] at hlen ⊢; omega)
   refine Eq.trans ?_ (ih.trans ?_)
   ·rfl
   ·simp [rfin]
end Go.Proofs.YtgohccjmphapfaaGreatDoor
end

noncomputable section
namespace Go.Proofs.YtgohccjmphapfaaGreatDoor
open Go Go.Pv Go.RowKit
set_option maxRecDepth 100000
def Good (l : List UInt8) : Prop := P7 l ∧ l.length ≤ 1073741824
theorem Good.next {w r : List UInt8} (h : Good (32 :: (w ++ r))) : Good r := ⟨h.1.tail.right, by have := h.2; simp only [List.length_cons, List.length_append] at this; omega⟩
theorem Good.asc {w r : List UInt8} (h : Good (32 :: (w ++ r))) : asc (bt (w ++ r)) = true := asc7 h.1.tail (by have := h.2; simp only [List.length_cons] at this; omega)
theorem K9y (r : List UInt8) : Ends (32 :: r) := .inr ⟨32, r, rfl, rfl⟩
theorem Wo6 (s : Sh) (op name : W4w) (n m : Int) (fk : W4w) (fi ff : Int) (fr fo : W4w) (X : List (Int × Int)) (R : List UInt8)
  (hn : -1000000000 ≤ n ∧ n ≤ 1000000000) (hm : -1000000000 ≤ m ∧ m ≤ 1000000000) (hl : X.length ≤ 1073741824) (hX : X.all vq = true)
  (i1 : ¬ s.ints ≥ 1 → n = 0) (i2 : ¬ s.ints ≥ 2 → m = 0) (f1 : s.fmt = true → Z.vld fk fr fo fi ff = true) (f0 : s.fmt = false → fk = ⟨#[]⟩ ∧ fi = 0 ∧ ff = 0 ∧ fr = ⟨#[]⟩ ∧ fo = ⟨#[]⟩) (n1 : s.name = true → K4h name = true) (n0 : s.name = false → name = ⟨#[]⟩)
  (h0 : s.nums = false → X = []) (h1 : s.nums = true → ∃ R', R = 41 :: R') (hR : Ends R) (hG : Good (flt (fldl s name n m fk fi ff fr fo X) ++ R))
  (κ0 : W3k) (κ1 : W3g) :
  Ki1 s.ins s.outs s.kids s.ints s.fmt s.name s.nums (bt (flt (fldl s name n m fk fi ff fr fo X) ++ R)) false op ⟨#[]⟩ 0 0 ⟨#[]⟩ 0 0 ⟨#[]⟩ ⟨#[]⟩ κ0 κ1 = rfin X κ0 κ1 (bt R) op name n m fk fi ff fr fo := by
 unfold Ki1 Kuk
 unfold fldl at hG ⊢
 have hE : Ends (flt (X.map qtl) ++ R) := Wdb _ _ hR
 have N1 : ∀ r, Ends r → Good (32 :: (Lib.itoa n ++ r)) → ∀ κ, Kfm (bt (32 :: (Lib.itoa n ++ r))) false κ = κ n (bt r) false := fun r e g κ => Wyu hn r e g.asc κ
 have M1 : ∀ r, Ends r → Good (32 :: (Lib.itoa m ++ r)) → ∀ κ, Kfm (bt (32 :: (Lib.itoa m ++ r))) false κ = κ m (bt r) false := fun r e g κ => Wyu hm r e g.asc κ
 have F1 : s.fmt = true → ∀ r, Good (32 :: (ftl fk fr fo fi ff ++ r)) → ∀ κ, Khw (bt (32 :: (ftl fk fr fo fi ff ++ r))) false κ = κ fk fi ff fr fo (bt r) false := fun h r g κ => Wu2 (f1 h) r g.next.2 κ
 have Q1 : s.name = true → ∀ r, Ends r → Good (32 :: ((34 :: (name.data.toList ++ [34])) ++ r)) → ∀ κ, Kja (bt (32 :: ((34 :: (name.data.toList ++ [34])) ++ r))) false κ = κ name (bt r) false := fun h r e g κ => Wzu (n1 h) r e g.asc κ
 generalize Lib.itoa n = wn at hG N1 ⊢
 generalize Lib.itoa m = wm at hG M1 ⊢
 generalize ftl fk fr fo fi ff = wf at hG F1 ⊢
 generalize (34 :: (name.data.toList ++ [34]) : List UInt8) = wq at hG Q1 ⊢
 have T := fun g : Good (flt (X.map qtl) ++ R) => fun (op name : W4w) (n m : Int) (fk : W4w) (fi ff : Int) (fr fo : W4w) => Wxc s op name n m fk fi ff fr fo X hl hX R h0 h1 g.1 g.2 κ0 κ1
 by_cases c1 : s.ints ≥ 1
 ·rw [decide_eq_true c1] at hG ⊢
  by_cases c2 : s.ints ≥ 2
  ·rw [decide_eq_true c2] at hG ⊢
   cases hf : s.fmt <;> cases hq : s.name
   ·-- 2 0 0
    simp only [hf, hq, bx_t, bx_f, cond_true, cond_false, List.nil_append, List.cons_append] at hG ⊢
    have hG : Good (32 :: (wn ++ (32 :: (wm ++ (flt (X.map qtl) ++ R))))) := by simpa only [Kmc, Kgm, Kjg, List.nil_append, List.cons_append, List.append_assoc] using hG
    rw [show flt ((wn :: wm :: X.map qtl) : List (List UInt8)) ++ R = 32 :: (wn ++ (32 :: (wm ++ (flt (X.map qtl) ++ R)))) by simp only [Kmc, Kgm, Kjg, List.nil_append, List.cons_append, List.append_assoc]]
    rw [N1 _ (K9y _) hG]
    rw [M1 _ hE (hG).next]
    have hT := T ((hG).next).next
    simp only [hf, hq] at hT
    obtain ⟨rfl, rfl, rfl, rfl, rfl⟩ := f0 hf
    obtain rfl := n0 hq
    exact hT _ _ _ _ _ _ _ _ _
   ·-- 2 0 1
    simp only [hf, hq, bx_t, bx_f, cond_true, cond_false, List.nil_append, List.cons_append] at hG ⊢
    have hG : Good (32 :: (wn ++ (32 :: (wm ++ (32 :: (wq ++ (flt (X.map qtl) ++ R))))))) := by simpa only [Kmc, Kgm, Kjg, List.nil_append, List.cons_append, List.append_assoc] using hG
    rw [show flt ((wn :: wm :: wq :: X.map qtl) : List (List UInt8)) ++ R = 32 :: (wn ++ (32 :: (wm ++ (32 :: (wq ++ (flt (X.map qtl) ++ R)))))) by simp only [Kmc, Kgm, Kjg, List.nil_append, List.cons_append, List.append_assoc]]
    rw [N1 _ (K9y _) hG]
    rw [M1 _ (K9y _) (hG).next]
    rw [Q1 hq _ hE ((hG).next).next]
    have hT := T (((hG).next).next).next
    simp only [hf, hq] at hT
    obtain ⟨rfl, rfl, rfl, rfl, rfl⟩ := f0 hf
    exact hT _ _ _ _ _ _ _ _ _
   ·-- 2 1 0
    simp only [hf, hq, bx_t, bx_f, cond_true, cond_false, List.nil_append, List.cons_append] at hG ⊢
    have hG : Good (32 :: (wn ++ (32 :: (wm ++ (32 :: (wf ++ (flt (X.map qtl) ++ R))))))) := by simpa only [Kmc, Kgm, Kjg, List.nil_append, List.cons_append, List.append_assoc] using hG
    rw [show flt ((wn :: wm :: wf :: X.map qtl) : List (List UInt8)) ++ R = 32 :: (wn ++ (32 :: (wm ++ (32 :: (wf ++ (flt (X.map qtl) ++ R)))))) by simp only [Kmc, Kgm, Kjg, List.nil_append, List.cons_append, List.append_assoc]]
    rw [N1 _ (K9y _) hG]
    rw [M1 _ (K9y _) (hG).next]
    rw [F1 hf _ ((hG).next).next]
    have hT := T (((hG).next).next).next
    simp only [hf, hq] at hT
    obtain rfl := n0 hq
    exact hT _ _ _ _ _ _ _ _ _
   ·-- 2 1 1
    simp only [hf, hq, bx_t, bx_f, cond_true, cond_false, List.nil_append, List.cons_append] at hG ⊢
    have hG : Good (32 :: (wn ++ (32 :: (wm ++ (32 :: (wf ++ (32 :: (wq ++ (flt (X.map qtl) ++ R))))))))) := by simpa only [Kmc, Kgm, Kjg, List.nil_append, List.cons_append, List.append_assoc] using hG
    rw [show flt ((wn :: wm :: wf :: wq :: X.map qtl) : List (List UInt8)) ++ R = 32 :: (wn ++ (32 :: (wm ++ (32 :: (wf ++ (32 :: (wq ++ (flt (X.map qtl) ++ R)))))))) by simp only [Kmc, Kgm, Kjg, List.nil_append, List.cons_append, List.append_assoc]]
    rw [N1 _ (K9y _) hG]
    rw [M1 _ (K9y _) (hG).next]
    rw [F1 hf _ ((hG).next).next]
    rw [Q1 hq _ hE (((hG).next).next).next]
    have hT := T ((((hG).next).next).next).next
    simp only [hf, hq] at hT
    exact hT _ _ _ _ _ _ _ _ _
  ·rw [decide_eq_false c2] at hG ⊢
   cases hf : s.fmt <;> cases hq : s.name
   ·-- 1 0 0
    simp only [hf, hq, bx_t, bx_f, cond_true, cond_false, List.nil_append, List.cons_append] at hG ⊢
    have hG : Good (32 :: (wn ++ (flt (X.map qtl) ++ R))) := by simpa only [Kmc, Kgm, Kjg, List.nil_append, List.cons_append, List.append_assoc] using hG
    rw [show flt ((wn :: X.map qtl) : List (List UInt8)) ++ R = 32 :: (wn ++ (flt (X.map qtl) ++ R)) by simp only [Kmc, Kgm, Kjg, List.nil_append, List.cons_append, List.append_assoc]]
    rw [N1 _ hE hG]
    have hT := T (hG).next
    simp only [hf, hq] at hT
    obtain rfl := i2 c2
    obtain ⟨rfl, rfl, rfl, rfl, rfl⟩ := f0 hf
    obtain rfl := n0 hq
    exact hT _ _ _ _ _ _ _ _ _
   ·-- 1 0 1
    simp only [hf, hq, bx_t, bx_f, cond_true, cond_false, List.nil_append, List.cons_append] at hG ⊢
    have hG : Good (32 :: (wn ++ (32 :: (wq ++ (flt (X.map qtl) ++ R))))) := by simpa only [Kmc, Kgm, Kjg, List.nil_append, List.cons_append, List.append_assoc] using hG
    rw [show flt ((wn :: wq :: X.map qtl) : List (List UInt8)) ++ R = 32 :: (wn ++ (32 :: (wq ++ (flt (X.map qtl) ++ R)))) by simp only [Kmc, Kgm, Kjg, List.nil_append, List.cons_append, List.append_assoc]]
    rw [N1 _ (K9y _) hG]
    rw [Q1 hq _ hE (hG).next]
    have hT := T ((hG).next).next
    simp only [hf, hq] at hT
    obtain rfl := i2 c2
    obtain ⟨rfl, rfl, rfl, rfl, rfl⟩ := f0 hf
    exact hT _ _ _ _ _ _ _ _ _
   ·-- 1 1 0
    simp only [hf, hq, bx_t, bx_f, cond_true, cond_false, List.nil_append, List.cons_append] at hG ⊢
    have hG : Good (32 :: (wn ++ (32 :: (wf ++ (flt (X.map qtl) ++ R))))) := by simpa only [Kmc, Kgm, Kjg, List.nil_append, List.cons_append, List.append_assoc] using hG
    rw [show flt ((wn :: wf :: X.map qtl) : List (List UInt8)) ++ R = 32 :: (wn ++ (32 :: (wf ++ (flt (X.map qtl) ++ R)))) by simp only [Kmc, Kgm, Kjg, List.nil_append, List.cons_append, List.append_assoc]]
    rw [N1 _ (K9y _) hG]
    rw [F1 hf _ (hG).next]
    have hT := T ((hG).next).next
    simp only [hf, hq] at hT
    obtain rfl := i2 c2
    obtain rfl := n0 hq
    exact hT _ _ _ _ _ _ _ _ _
   ·-- 1 1 1
    simp only [hf, hq, bx_t, bx_f, cond_true, cond_false, List.nil_append, List.cons_append] at hG ⊢
    have hG : Good (32 :: (wn ++ (32 :: (wf ++ (32 :: (wq ++ (flt (X.map qtl) ++ R))))))) := by simpa only [Kmc, Kgm, Kjg, List.nil_append, List.cons_append, List.append_assoc] using hG
    rw [show flt ((wn :: wf :: wq :: X.map qtl) : List (List UInt8)) ++ R = 32 :: (wn ++ (32 :: (wf ++ (32 :: (wq ++ (flt (X.map qtl) ++ R)))))) by simp only [Kmc, Kgm, Kjg, List.nil_append, List.cons_append, List.append_assoc]]
    rw [N1 _ (K9y _) hG]
    rw [F1 hf _ (hG).next]
    rw [Q1 hq _ hE ((hG).next).next]
    have hT := T (((hG).next).next).next
    simp only [hf, hq] at hT
    obtain rfl := i2 c2
    exact hT _ _ _ _ _ _ _ _ _
 ·have c2 : ¬ s.ints ≥ 2 := by omega
  rw [decide_eq_false c1, decide_eq_false c2] at hG ⊢
  cases hf : s.fmt <;> cases hq : s.name
  ·-- 0 0 0
   simp only [hf, hq, bx_t, bx_f, cond_true, cond_false, List.nil_append, List.cons_append] at hG ⊢
   have hG : Good (flt (X.map qtl) ++ R) := by simpa only [Kmc, Kgm, Kjg, List.nil_append, List.cons_append, List.append_assoc] using hG
   rw [show flt ((X.map qtl) : List (List UInt8)) ++ R = flt (X.map qtl) ++ R by simp only [Kmc, Kgm, Kjg, List.nil_append, List.cons_append, List.append_assoc]]
   have hT := T hG
   simp only [hf, hq] at hT
   obtain rfl := i1 c1
   obtain rfl := i2 c2
   obtain ⟨rfl, rfl, rfl, rfl, rfl⟩ := f0 hf
   obtain rfl := n0 hq
   exact hT _ _ _ _ _ _ _ _ _
  ·-- 0 0 1
   simp only [hf, hq, bx_t, bx_f, cond_true, cond_false, List.nil_append, List.cons_append] at hG ⊢
   have hG : Good (32 :: (wq ++ (flt (X.map qtl) ++ R))) := by simpa only [Kmc, Kgm, Kjg, List.nil_append, List.cons_append, List.append_assoc] using hG
   rw [show flt ((wq :: X.map qtl) : List (List UInt8)) ++ R = 32 :: (wq ++ (flt (X.map qtl) ++ R)) by simp only [Kmc, Kgm, Kjg, List.nil_append, List.cons_append, List.append_assoc]]
   rw [Q1 hq _ hE hG]
   have hT := T (hG).next
   simp only [hf, hq] at hT
   obtain rfl := i1 c1
   obtain rfl := i2 c2
   obtain ⟨rfl, rfl, rfl, rfl, rfl⟩ := f0 hf
   exact hT _ _ _ _ _ _ _ _ _
  ·-- 0 1 0
   simp only [hf, hq, bx_t, bx_f, cond_true, cond_false, List.nil_append, List.cons_append] at hG ⊢
   have hG : Good (32 :: (wf ++ (flt (X.map qtl) ++ R))) := by simpa only [Kmc, Kgm, Kjg, List.nil_append, List.cons_append, List.append_assoc] using hG
   rw [show flt ((wf :: X.map qtl) : List (List UInt8)) ++ R = 32 :: (wf ++ (flt (X.map qtl) ++ R)) by simp only [Kmc, Kgm, Kjg, List.nil_append, List.cons_append, List.append_assoc]]
   rw [F1 hf _ hG]
   have hT := T (hG).next
   simp only [hf, hq] at hT
   obtain rfl := i1 c1
   obtain rfl := i2 c2
   obtain rfl := n0 hq
   exact hT _ _ _ _ _ _ _ _ _
  ·-- 0 1 1
   simp only [hf, hq, bx_t, bx_f, cond_true, cond_false, List.nil_append, List.cons_append] at hG ⊢
   have hG : Good (32 :: (wf ++ (32 :: (wq ++ (flt (X.map qtl) ++ R))))) := by simpa only [Kmc, Kgm, Kjg, List.nil_append, List.cons_append, List.append_assoc] using hG
   rw [show flt ((wf :: wq :: X.map qtl) : List (List UInt8)) ++ R = 32 :: (wf ++ (32 :: (wq ++ (flt (X.map qtl) ++ R)))) by simp only [Kmc, Kgm, Kjg, List.nil_append, List.cons_append, List.append_assoc]]
   rw [F1 hf _ hG]
   rw [Q1 hq _ hE (hG).next]
   have hT := T ((hG).next).next
   simp only [hf, hq] at hT
   obtain rfl := i1 c1
   obtain rfl := i2 c2
   exact hT _ _ _ _ _ _ _ _ _
end Go.Proofs.YtgohccjmphapfaaGreatDoor
end

noncomputable section
namespace Go.Proofs.YtgohccjmphapfaaGreatDoor
open Go Go.Pv Go.RowKit
set_option maxRecDepth 100000
section
variable (f0 : W2x) (f1 : W2t) (f2 : W21) (f3 : W2j) (f4 : W2o) (f5 : W2l) (f6 : W2h)
 (t : W4w) (w : Bool) (a1 a2 : W4w) (a3 a4 : Int) (a5 : W4w) (a6 a7 : Int) (a8 a9 : W4w) (b1 b2 : W4w) (b3 b4 : Int) (b5 : W4w) (b6 b7 : Int) (b8 b9 : W4w)
def Wu3 (f4 : W2o) (t : W4w) (w : Bool) (b : BT) (t' : W4w) (w' : Bool) : Prop :=
 ∀ κ : ByteArray → ByteArray → Int → Int → List (List DV) → ByteArray → Int → Int → ByteArray → ByteArray → List (List DV) → ByteArray → Bool → Option DV, f4 t w κ = b.call (fun op name n m X fk fi ff fr fo ks => κ op name n m X fk fi ff fr fo ks t' w')
theorem kids0 (κ) : LF (Kbj f0 f1 f2 f3 f4 f5 f6) (Kbw (.h0 0 0 t w a1 a2 a3 a4 a5 a6 a7 a8 a9 b1 b2 b3 b4 b5 b6 b7 b8 b9)) (.h0 0 0 t w a1 a2 a3 a4 a5 a6 a7 a8 a9 b1 b2 b3 b4 b5 b6 b7 b8 b9) κ = κ.1 t w a1 a2 a3 a4 a5 a6 a7 a8 a9 b1 b2 b3 b4 b5 b6 b7 b8 b9 := by
 rw [show Kbw (.h0 0 0 t w a1 a2 a3 a4 a5 a6 a7 a8 a9 b1 b2 b3 b4 b5 b6 b7 b8 b9) = 0 + 1 from rfl, LF]
 simp only [Kbj]
 rw [show decide ((0 : Int) < 0) = false from rfl, bx_f]
theorem kidsN (c : Nat) (L : W4z) (κ) : LF (Kbj f0 f1 f2 f3 f4 f5 f6) (Kbw (.h2 0 0 t w a1 a2 a3 a4 a5 a6 a7 a8 a9 b1 b2 b3 b4 c b5 b6 b7 b8 b9 L)) (.h2 0 0 t w a1 a2 a3 a4 a5 a6 a7 a8 a9 b1 b2 b3 b4 c b5 b6 b7 b8 b9 L) κ = κ.2.2.1 t w a1 a2 a3 a4 a5 a6 a7 a8 a9 b1 b2 b3 b4 c b5 b6 b7 b8 b9 L := by
 rw [show Kbw (.h2 0 0 t w a1 a2 a3 a4 a5 a6 a7 a8 a9 b1 b2 b3 b4 c b5 b6 b7 b8 b9 L) = 0 + 1 from rfl, LF]
 simp only [Kbj]
 rw [show decide ((0 : Int) < 0) = false from rfl, bx_f]
theorem kids1 {x : BT} {t' : ByteArray} {w' : Bool} (hx : Wu3 f4 t w x t' w') (κ) : LF (Kbj f0 f1 f2 f3 f4 f5 f6) (Kbw (.h0 1 0 t w a1 a2 a3 a4 a5 a6 a7 a8 a9 b1 b2 b3 b4 b5 b6 b7 b8 b9)) (.h0 1 0 t w a1 a2 a3 a4 a5 a6 a7 a8 a9 b1 b2 b3 b4 b5 b6 b7 b8 b9) κ = κ.2.1 t' w' a1 a2 a3 a4 a5 a6 a7 a8 a9 b1 b2 b3 b4 b5 b6 b7 b8 b9 1 x.cells := by
 rw [show Kbw (.h0 1 0 t w a1 a2 a3 a4 a5 a6 a7 a8 a9 b1 b2 b3 b4 b5 b6 b7 b8 b9) = 1 + 1 from rfl, LF]
 simp only [Kbj]
 rw [show decide ((0 : Int) < 1) = true from rfl, bx_t, hx]
 cases x
 simp only [BT.call, LF, Kbj]
 rw [show decide (IntKind.wrap .i64 ((0 : Int) + 1) < 1) = false from rfl, bx_f]
 rfl
theorem kids2 {x y : BT} {t' t'' : ByteArray} {w' w'' : Bool} (hx : Wu3 f4 t w x t' w') (hy : Wu3 f4 t' w' y t'' w'') (κ) : LF (Kbj f0 f1 f2 f3 f4 f5 f6) (Kbw (.h0 2 0 t w a1 a2 a3 a4 a5 a6 a7 a8 a9 b1 b2 b3 b4 b5 b6 b7 b8 b9)) (.h0 2 0 t w a1 a2 a3 a4 a5 a6 a7 a8 a9 b1 b2 b3 b4 b5 b6 b7 b8 b9) κ = κ.2.1 t'' w'' a1 a2 a3 a4 a5 a6 a7 a8 a9 b1 b2 b3 b4 b5 b6 b7 b8 b9 2 (x.cells ++ y.cells) := by
 rw [show Kbw (.h0 2 0 t w a1 a2 a3 a4 a5 a6 a7 a8 a9 b1 b2 b3 b4 b5 b6 b7 b8 b9) = 2 + 1 from rfl, LF]
 simp only [Kbj]
 rw [show decide ((0 : Int) < 2) = true from rfl, bx_t, hx]
 cases x
 simp only [BT.call]
 rw [show (2 : Nat) = 1 + 1 from rfl, LF]
 simp only [Kbj]
 rw [show decide (IntKind.wrap .i64 ((0 : Int) + 1) < 2) = true from rfl, bx_t, hy]
 cases y
 simp only [BT.call, List.length_cons, List.length_nil]
 rw [show (true && true && Nat.ble (1 * 11) (0 + 1 + 1 + 1 + 1 + 1 + 1 + 1 + 1 + 1 + 1 + 1) && Nat.ble (1 + 1) maxLen && Nat.ble ((1 + 1) * 160) 140737488355328) = true by (have := Kum; rw [Kpa (by omega), Kpa (by omega), Kpa (by omega)]; rfl), bx_t]
 rw [show (decide (0 ≤ ((1 : Nat) : Int)) && decide (((1 : Nat) : Int) < (((1 + 1) : Nat) : Int))) = true from rfl, bx_t]
 simp only [LF, Kbj]
 rw [show decide (IntKind.wrap .i64 (IntKind.wrap .i64 ((0 : Int) + 1) + 1) < 2) = false from rfl, bx_f]
 rfl
end
theorem Wu4 : ∀ X : List (Int × Int), Kcy 2 X.length (X.flatMap qpc) = X.map qpc
 | [] => rfl
 | q :: X => by
  simp only [List.length_cons, List.flatMap_cons, List.map_cons, Kcy]
  rw [show (qpc q ++ X.flatMap qpc).take 2 = qpc q from rfl, show (qpc q ++ X.flatMap qpc).drop 2 = X.flatMap qpc from rfl, Wu4 X]
theorem W1k (X : List (Int × Int)) : (X.flatMap qpc).length = X.length * 2 := by
 induction X with
 | nil => rfl
 | cons q X ih => simp only [List.flatMap_cons, List.length_append, List.length_cons, ih, qpc, List.length_nil]; omega
theorem Wzy (x : BT) : Kcy 11 1 x.cells = BT.cellsL [x] := by cases x; rfl
theorem Wzz (x y : BT) : Kcy 11 2 (x.cells ++ y.cells) = BT.cellsL [x, y] := by cases x; cases y; rfl
end Go.Proofs.YtgohccjmphapfaaGreatDoor
end
