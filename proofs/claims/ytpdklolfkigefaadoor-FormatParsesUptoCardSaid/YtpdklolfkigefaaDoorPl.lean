/-
  Cutting a format's text: lists of bytes.
-/
import Derived.Lib.Split
import Derived.Lib.CutLaws
import Derived.Lib.IndexBytes
import Derived.Lib.AtoiAll
import Derived.Lib.Strings
import Derived.Lib.Join
import Derived.Lib.ItoaNum
import Derived.Test.YtpdklolfkigefaaDoorVa
set_option linter.all false
namespace Go.Proofs.YtpdklolfkigefaaDoor
/-- What stands before the first c, what behind it, and whether there is one. -/
def Q.cut1 (c : UInt8) : List UInt8 → List UInt8 × List UInt8 × Bool
  | [] => ([], [], false)
  | d :: r => if d = c then ([], r, true) else (d :: (Q.cut1 c r).1, (Q.cut1 c r).2.1, (Q.cut1 c r).2.2)
namespace Q
theorem index_cut (c : UInt8) : ∀ l : List UInt8, (Lib.indexByte l c = -1 ∧ cut1 c l = (l, [], false)) ∨ ∃ i : Nat, i < l.length ∧ Lib.indexByte l c = i ∧ cut1 c l = (l.take i, l.drop (i + 1), true)
  | [] => Or.inl ⟨rfl, rfl⟩
  | d :: r => by
    by_cases h : d = c
    · right
      refine ⟨0, by simp, ?_, ?_⟩
      · unfold Lib.indexByte; rw [if_pos (by rw [beq_iff_eq]; exact h)]; rfl
      · rw [cut1, if_pos h]; rfl
    · have hb : ¬ (d == c) = true := by rw [beq_iff_eq]; exact h
      rcases index_cut c r with ⟨h1, h2⟩ | ⟨i, h1, h2, h3⟩
      · left
        constructor
        · unfold Lib.indexByte; rw [if_neg hb, h1]; rfl
        · rw [cut1, if_neg h, h2]
      · right
        refine ⟨i + 1, by simp; omega, ?_, ?_⟩
        · unfold Lib.indexByte; rw [if_neg hb, if_neg (by rw [h2, beq_iff_eq]; omega), h2]; simp
        · rw [cut1, if_neg h, h3]; simp
end Q
theorem cut1_hit {c : UInt8} : ∀ {a : List UInt8} (b : List UInt8), c ∉ a → Q.cut1 c (a ++ c :: b) = (a, b, true)
  | [], b, _ => by simp [Q.cut1]
  | d :: r, b, h => by
    have h1 : d ≠ c := fun e => h (by simp [e])
    have h2 : c ∉ r := fun e => h (List.mem_cons_of_mem _ e)
    simp only [List.cons_append, Q.cut1, if_neg h1, cut1_hit b h2]
theorem cut1_miss {c : UInt8} : ∀ {a : List UInt8}, c ∉ a → Q.cut1 c a = (a, [], false)
  | [], _ => rfl
  | d :: r, h => by
    have h1 : d ≠ c := fun e => h (by simp [e])
    have h2 : c ∉ r := fun e => h (List.mem_cons_of_mem _ e)
    simp only [Q.cut1, if_neg h1, cut1_miss h2]
theorem cut1_len (c : UInt8) : ∀ l : List UInt8, (Q.cut1 c l).1.length ≤ l.length ∧ (Q.cut1 c l).2.1.length ≤ l.length
  | [] => by simp [Q.cut1]
  | d :: r => by
    have := cut1_len c r
    unfold Q.cut1
    split
    · simp
    · simp only [List.length_cons]; omega
theorem trim_len (s p : List UInt8) : (Lib.trimSuffix s p).length ≤ s.length := by
  unfold Lib.trimSuffix
  split
  · rw [List.length_take]; omega
  · exact Nat.le_refl _
theorem trim_hit (x p : List UInt8) : Lib.trimSuffix (x ++ p) p = x := by
  unfold Lib.trimSuffix Lib.hasSuffix
  rw [if_pos (by simp)]
  simp
/-- Cuts at a byte. -/
def splitL (c : UInt8) : Nat → List UInt8 → List (List UInt8)
  | 0, l => [l]
  | n + 1, l => if (Q.cut1 c l).2.2 = true then (Q.cut1 c l).1 :: splitL c n (Q.cut1 c l).2.1 else [l]
theorem splitB_L (c : UInt8) : ∀ (n : Nat) (s : ByteArray), Lib.splitB ⟨#[c]⟩ 0 n s = (splitL c n s.data.toList).map fun l => (⟨l.toArray⟩ : ByteArray)
  | 0, s => by simp [Lib.splitB, splitL]
  | n + 1, s => by
    have hi : Lib.indexB s ⟨#[c]⟩ = Lib.indexByte s.data.toList c := by
      rw [Lib.one s ⟨#[c]⟩ rfl]
      congr 1
      show (((c.toNat : Nat) : Int)).toNat.toUInt8 = c
      simp
    unfold Lib.splitB splitL
    rw [hi]
    rcases Q.index_cut c s.data.toList with ⟨h1, h2⟩ | ⟨i, h0, h1, h2⟩
    · rw [h1, h2]; simp
    · rw [h1, h2]
      have hL : s.data.toList.length = s.size := (Lib.size_eq s).symm
      rw [if_neg (by simp), splitB_L c n]
      simp only [if_true, List.map_cons, List.cons.injEq]
      constructor
      · rw [Lib.extract_eq]; simp
      · congr 2
        rw [Lib.extract_eq]
        have ht : List.take (s.size - (i + 1)) (List.drop (i + 1) s.data.toList) = List.drop (i + 1) s.data.toList := List.take_of_length_le (by rw [List.length_drop, ← Lib.size_eq]; exact Nat.le_refl _)
        rw [show (ByteArray.mk #[c]).size = 1 from rfl]
        simpa using ht
theorem splitL_len (c : UInt8) : ∀ (n : Nat) (l x : List UInt8), x ∈ splitL c n l → x.length ≤ l.length
  | 0, l, x, h => by simp [splitL] at h; rw [h]; exact Nat.le_refl _
  | n + 1, l, x, h => by
    have hc := cut1_len c l
    unfold splitL at h
    split at h
    · rcases List.mem_cons.1 h with rfl | h
      · exact hc.1
      · exact Nat.le_trans (splitL_len c n _ x h) hc.2
    · simp at h; rw [h]; exact Nat.le_refl _
theorem split4 {c : UInt8} {a b d e : List UInt8} (ha : c ∉ a) (hb : c ∉ b) (hd : c ∉ d) (he : c ∉ e) : splitL c 4 (a ++ c :: (b ++ c :: (d ++ c :: e))) = [a, b, d, e] := by
  simp only [splitL, cut1_hit _ ha, cut1_hit _ hb, cut1_hit _ hd, cut1_miss he, if_true]
  simp
theorem join4 (a b d e : List UInt8) : Lib.join [a, b, d, e] [44] = a ++ 44 :: (b ++ 44 :: (d ++ 44 :: e)) := by
  simp [Lib.join, List.intercalate]
/-- A number that was read. -/
def okV (x : Lib.NumEnd Int) : Option Int := match x with | .ok v => some v | _ => none
def isR (x : Lib.NumEnd Int) : Bool := match x with | .range => true | _ => false
theorem okV_some {x : Lib.NumEnd Int} {v : Int} (h : okV x = some v) : x = .ok v := by
  unfold okV at h
  split at h
  · simp at h; rw [h]
  · cases h
theorem dd1 {u : Nat} (h : u < 10) : Lib.decDigits u = [UInt8.ofNat (48 + u)] := by
  unfold Lib.decDigits; rw [dif_pos h]
theorem dd2 {u : Nat} (h : 10 ≤ u) (h2 : u < 100) : Lib.decDigits u = [UInt8.ofNat (48 + u / 10), UInt8.ofNat (48 + u % 10)] := by
  unfold Lib.decDigits; rw [dif_neg (by omega), dd1 (by omega)]; rfl
theorem dig_ok (u : Nat) (h : u ≤ 30) : Lib.atoiAll (Lib.decDigits u) = .ok (u : Int) ∧ (44 : UInt8) ∉ Lib.decDigits u ∧ (40 : UInt8) ∉ Lib.decDigits u ∧ (Lib.decDigits u).length ≤ 2 := by
  have : u = 0 ∨ u = 1 ∨ u = 2 ∨ u = 3 ∨ u = 4 ∨ u = 5 ∨ u = 6 ∨ u = 7 ∨ u = 8 ∨ u = 9 ∨ u = 10 ∨ u = 11 ∨ u = 12 ∨ u = 13 ∨ u = 14 ∨ u = 15 ∨ u = 16 ∨ u = 17 ∨ u = 18 ∨ u = 19 ∨ u = 20 ∨ u = 21 ∨ u = 22 ∨ u = 23 ∨ u = 24 ∨ u = 25 ∨ u = 26 ∨ u = 27 ∨ u = 28 ∨ u = 29 ∨ u = 30 := by omega
  rcases this with rfl | rfl | rfl | rfl | rfl | rfl | rfl | rfl | rfl | rfl | rfl | rfl | rfl | rfl | rfl | rfl | rfl | rfl | rfl | rfl | rfl | rfl | rfl | rfl | rfl | rfl | rfl | rfl | rfl | rfl | rfl <;> first
    | (rw [dd1 (by omega)]; exact ⟨rfl, by decide, by decide, by decide⟩)
    | (rw [dd2 (by omega) (by omega)]; exact ⟨rfl, by decide, by decide, by decide⟩)
end Go.Proofs.YtpdklolfkigefaaDoor
