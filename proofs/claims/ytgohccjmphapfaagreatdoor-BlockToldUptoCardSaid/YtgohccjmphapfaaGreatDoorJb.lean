import Derived.Test.YtgohccjmphapfaaGreatDoorGe
set_option linter.all false
noncomputable section
namespace Go.Proofs.YtgohccjmphapfaaGreatDoor
open Go Go.Pv Go.RowKit
theorem tl (l : List UInt8) : ByteArray.toList ⟨l.toArray⟩ = l := by rw [ByteArray.toList_eq]
theorem W0z {l : List UInt8} {a b : List UInt8} (h : (l == a) = true) (hab : (a == b) = false) : (l == b) = false := by
 rw [beq_iff_eq] at h; subst h; exact hab
namespace Z
def hsz (k : ByteArray) (I F : Int) : Bool := if k.toList == [102, 105, 120] then decide (0 ≤ I ∧ I ≤ 30 ∧ 0 ≤ F ∧ F ≤ 30 ∧ I + F ≤ 30) else if k.toList == [102, 108, 111, 97, 116] then decide (1 ≤ I ∧ I ≤ 24 ∧ 0 ≤ F ∧ F ≤ 20 ∧ I + F ≤ 30) else false
def hrd (r : ByteArray) : Bool := (r.toList == [102, 108, 111, 111, 114]) || (r.toList == [110, 101, 97, 114]) || (r.toList == [122, 101, 114, 111])
def hov (k o : ByteArray) : Bool := (o.toList == [115, 97, 116]) || (o.toList == [110, 111, 110, 101]) || ((o.toList == [119, 114, 97, 112]) && (k.toList == [102, 105, 120]))
def vld (k r o : ByteArray) (I F : Int) : Bool := hsz k I F && hrd r && hov k o
end Z
theorem iw {x : Int} (h : -9223372036854775808 ≤ x ∧ x ≤ 9223372036854775807) : IntKind.wrap .i64 x = x := by
 simp [IntKind.wrap, IntKind.bits, IntKind.signed]; omega
theorem W00 {p1 p2 p3 p4 q : Prop} [Decidable p1] [Decidable p2] [Decidable p3] [Decidable p4] [Decidable q] {x : Bool} (h : p1 → p2 → p3 → p4 → x = decide q) (k : Bool → Option DV) :
  (bx (decide p1) (bx (decide p2) (bx (decide p3) (bx (decide p4) (k x) (k false)) (k false)) (k false)) (k false)) = k (decide (p1 ∧ p2 ∧ p3 ∧ p4 ∧ q)) := by
 by_cases h1 : p1
 ·by_cases h2 : p2
  ·by_cases h3 : p3
   ·by_cases h4 : p4
    ·simp [h1, h2, h3, h4, h h1 h2 h3 h4, bx_t]
    ·simp [h1, h2, h3, h4, bx_t, bx_f]
   ·simp [h1, h2, h3, bx_t, bx_f]
  ·simp [h1, h2, bx_t, bx_f]
 ·simp [h1, bx_f]
theorem chA (I F : Int) (k : Bool → Option DV) : (bx (decide (0 ≤ I)) (bx (decide (I ≤ 30)) (bx (decide (0 ≤ F)) (bx (decide (F ≤ 30)) (k (decide (IntKind.wrap .i64 (I + F) ≤ 30))) (k false)) (k false)) (k false)) (k false)) = k (decide (0 ≤ I ∧ I ≤ 30 ∧ 0 ≤ F ∧ F ≤ 30 ∧ I + F ≤ 30)) :=
 W00 (fun h1 h2 h3 h4 => by rw [iw (by omega)]) k
theorem chB (I F : Int) (k : Bool → Option DV) : (bx (decide (1 ≤ I)) (bx (decide (I ≤ 24)) (bx (decide (0 ≤ F)) (bx (decide (F ≤ 20)) (k (decide (IntKind.wrap .i64 (I + F) ≤ 30))) (k false)) (k false)) (k false)) (k false)) = k (decide (1 ≤ I ∧ I ≤ 24 ∧ 0 ≤ F ∧ F ≤ 20 ∧ I + F ≤ 30)) :=
 W00 (fun h1 h2 h3 h4 => by rw [iw (by omega)]) k
theorem Wtp (k0 r o : ByteArray) (I F : Int) (k : Bool → Option DV) : Kwa k0 I F r o k = k (Z.hsz k0 I F) := by
 unfold Kwa K1o Z.hsz
 rw [chA I F k, chB I F k]
 simp only [tl]
 cases (k0.toList == [102, 105, 120]) <;> cases (k0.toList == [102, 108, 111, 97, 116]) <;> rfl
theorem Wtq (k0 r o : ByteArray) (I F : Int) (k : Bool → Option DV) : Kwb k0 I F r o k = k (Z.hrd r) := by
 unfold Kwb K1p Z.hrd
 simp only [tl]
 cases (r.toList == [102, 108, 111, 111, 114]) <;> cases (r.toList == [110, 101, 97, 114]) <;> rfl
theorem Wwl (k0 r o : ByteArray) (I F : Int) (k : Bool → Option DV) : Kyb k0 I F r o k = k (Z.hov k0 o) := by
 unfold Kyb K3l Z.hov
 simp only [tl]
 cases (o.toList == [115, 97, 116]) <;> cases (o.toList == [110, 111, 110, 101]) <;> cases (o.toList == [119, 114, 97, 112]) <;> rfl
theorem Wg0 (k0 r o : ByteArray) (I F : Int) (k : Bool → Option DV) : Kqu k0 I F r o k = k (Z.vld k0 r o I F) := by
 unfold Kqu K8e Z.vld
 simp only [Wtp, Wtq, Wwl]
 cases Z.hsz k0 I F <;> cases Z.hrd r <;> rfl
theorem Wmf (k0 r o : ByteArray) (I F : Int) (k : Bool → Option DV) : Kgv k0 I F r o k = k (Z.vld k0 r o I F) := by
 unfold Kgv Kr0 Kmd Z.vld Z.hsz Z.hrd Z.hov
 simp only [tl, ge_iff_le, chA, chB]
 generalize decide (0 ≤ I ∧ I ≤ 30 ∧ 0 ≤ F ∧ F ≤ 30 ∧ I + F ≤ 30) = a
 generalize decide (1 ≤ I ∧ I ≤ 24 ∧ 0 ≤ F ∧ F ≤ 20 ∧ I + F ≤ 30) = b
 have hcd : (k0.toList == [102, 105, 120]) = true → (k0.toList == [102, 108, 111, 97, 116]) = false := fun h => W0z h (by decide)
 generalize (k0.toList == [102, 105, 120]) = c at *
 generalize (k0.toList == [102, 108, 111, 97, 116]) = d at *
 generalize (r.toList == [102, 108, 111, 111, 114]) = e
 generalize (r.toList == [110, 101, 97, 114]) = f
 generalize (r.toList == [122, 101, 114, 111]) = g
 generalize (o.toList == [115, 97, 116]) = p
 generalize (o.toList == [110, 111, 110, 101]) = q
 generalize (o.toList == [119, 114, 97, 112]) = s
 cases e <;> cases f <;> cases g <;> first | rfl | skip
 all_goals cases c <;> cases d <;> cases p <;> cases q <;> cases s <;> first | rfl | (cases a <;> cases b <;> first | rfl | (have := hcd rfl; contradiction))
structure Sh where
 ins : Int
 outs : Int
 kids : Int
 ints : Int
 fmt : Bool
 name : Bool
 nums : Bool
 least : Int
 most : Int
def shp (l : List UInt8) : Option Sh :=
 bif (l == [99, 117, 116]) then some ⟨1, 0, 0, 0, false, false, false, 0, 0⟩ else
 bif (l == [119, 105, 114, 101]) then some ⟨1, 1, 0, 0, false, false, false, 0, 0⟩ else
 bif (l == [110, 101, 103]) then some ⟨1, 1, 0, 0, false, false, false, 0, 0⟩ else
 bif (l == [97, 98, 115]) then some ⟨1, 1, 0, 0, false, false, false, 0, 0⟩ else
 bif (l == [102, 108, 111, 111, 114]) then some ⟨1, 1, 0, 0, false, false, false, 0, 0⟩ else
 bif (l == [114, 111, 117, 110, 100]) then some ⟨1, 1, 0, 0, false, false, false, 0, 0⟩ else
 bif (l == [102, 114, 97, 99]) then some ⟨1, 1, 0, 0, false, false, false, 0, 0⟩ else
 bif (l == [110, 111, 116]) then some ⟨1, 1, 0, 0, false, false, false, 0, 0⟩ else
 bif (l == [97, 100, 100]) then some ⟨2, 1, 0, 0, false, false, false, 0, 0⟩ else
 bif (l == [115, 117, 98]) then some ⟨2, 1, 0, 0, false, false, false, 0, 0⟩ else
 bif (l == [109, 117, 108]) then some ⟨2, 1, 0, 0, false, false, false, 0, 0⟩ else
 bif (l == [100, 105, 118]) then some ⟨2, 1, 0, 0, false, false, false, 0, 0⟩ else
 bif (l == [109, 111, 100]) then some ⟨2, 1, 0, 0, false, false, false, 0, 0⟩ else
 bif (l == [109, 105, 110]) then some ⟨2, 1, 0, 0, false, false, false, 0, 0⟩ else
 bif (l == [109, 97, 120]) then some ⟨2, 1, 0, 0, false, false, false, 0, 0⟩ else
 bif (l == [108, 116]) then some ⟨2, 1, 0, 0, false, false, false, 0, 0⟩ else
 bif (l == [108, 101]) then some ⟨2, 1, 0, 0, false, false, false, 0, 0⟩ else
 bif (l == [101, 113]) then some ⟨2, 1, 0, 0, false, false, false, 0, 0⟩ else
 bif (l == [110, 101]) then some ⟨2, 1, 0, 0, false, false, false, 0, 0⟩ else
 bif (l == [97, 110, 100]) then some ⟨2, 1, 0, 0, false, false, false, 0, 0⟩ else
 bif (l == [111, 114]) then some ⟨2, 1, 0, 0, false, false, false, 0, 0⟩ else
 bif (l == [120, 111, 114]) then some ⟨2, 1, 0, 0, false, false, false, 0, 0⟩ else
 bif (l == [115, 104, 108]) then some ⟨2, 1, 0, 0, false, false, false, 0, 0⟩ else
 bif (l == [115, 104, 114]) then some ⟨2, 1, 0, 0, false, false, false, 0, 0⟩ else
 bif (l == [112, 105, 99, 107]) then some ⟨3, 1, 0, 0, false, false, false, 0, 0⟩ else
 bif (l == [102, 105, 116]) then some ⟨1, 1, 0, 0, true, false, false, 0, 0⟩ else
 bif (l == [100, 101, 108, 97, 121]) then some ⟨1, 1, 0, 1, false, false, false, 0, 0⟩ else
 bif (l == [118, 97, 114, 121]) then some ⟨2, 1, 0, 2, false, false, false, 0, 0⟩ else
 bif (l == [110, 117, 109]) then some ⟨0, 1, 0, 0, false, false, true, 1, 1⟩ else
 bif (l == [119, 97, 118, 101]) then some ⟨0, 1, 0, 0, false, false, true, 1, 256⟩ else
 bif (l == [116, 97, 98, 108, 101]) then some ⟨1, 1, 0, 0, false, false, true, 1, 256⟩ else
 bif (l == [115, 116, 111, 114, 101]) then some ⟨3, 1, 0, 0, false, false, true, 1, 256⟩ else
 bif (l == [107, 110, 111, 98]) then some ⟨0, 1, 0, 0, false, true, true, 4, 4⟩ else
 bif (l == [115, 104, 111, 119]) then some ⟨1, 1, 0, 0, false, true, false, 0, 0⟩ else
 bif (l == [112, 97, 114]) then some ⟨0, 0, 2, 0, false, false, false, 0, 0⟩ else
 bif (l == [115, 101, 113]) then some ⟨0, 0, 2, 0, false, false, false, 0, 0⟩ else
 bif (l == [115, 112, 108, 105, 116]) then some ⟨0, 0, 2, 0, false, false, false, 0, 0⟩ else
 bif (l == [109, 101, 114, 103, 101]) then some ⟨0, 0, 2, 0, false, false, false, 0, 0⟩ else
 bif (l == [114, 101, 99]) then some ⟨0, 0, 2, 0, false, false, false, 0, 0⟩ else
 bif (l == [117, 112]) then some ⟨0, 0, 1, 1, false, false, false, 0, 0⟩ else
 bif (l == [100, 111, 119, 110]) then some ⟨0, 0, 1, 1, false, false, false, 0, 0⟩ else
 bif (l == [103, 97, 116, 101]) then some ⟨0, 0, 1, 0, false, false, false, 0, 0⟩ else
 bif (l == [114, 101, 115, 101, 116]) then some ⟨0, 0, 1, 0, false, false, false, 0, 0⟩ else
 none
def shp2 (l : List UInt8) : Option Sh :=
 bif (l == [119, 105, 114, 101]) then some ⟨1, 1, 0, 0, false, false, false, 0, 0⟩ else
 bif (l == [110, 101, 103]) then some ⟨1, 1, 0, 0, false, false, false, 0, 0⟩ else
 bif (l == [97, 98, 115]) then some ⟨1, 1, 0, 0, false, false, false, 0, 0⟩ else
 bif (l == [102, 108, 111, 111, 114]) then some ⟨1, 1, 0, 0, false, false, false, 0, 0⟩ else
 bif (l == [114, 111, 117, 110, 100]) then some ⟨1, 1, 0, 0, false, false, false, 0, 0⟩ else
 bif (l == [102, 114, 97, 99]) then some ⟨1, 1, 0, 0, false, false, false, 0, 0⟩ else
 bif (l == [110, 111, 116]) then some ⟨1, 1, 0, 0, false, false, false, 0, 0⟩ else
 bif (l == [99, 117, 116]) then some ⟨1, 0, 0, 0, false, false, false, 0, 0⟩ else
 bif (l == [110, 117, 109]) then some ⟨0, 1, 0, 0, false, false, true, 1, 1⟩ else
 bif (l == [97, 100, 100]) then some ⟨2, 1, 0, 0, false, false, false, 0, 0⟩ else
 bif (l == [115, 117, 98]) then some ⟨2, 1, 0, 0, false, false, false, 0, 0⟩ else
 bif (l == [109, 117, 108]) then some ⟨2, 1, 0, 0, false, false, false, 0, 0⟩ else
 bif (l == [100, 105, 118]) then some ⟨2, 1, 0, 0, false, false, false, 0, 0⟩ else
 bif (l == [109, 111, 100]) then some ⟨2, 1, 0, 0, false, false, false, 0, 0⟩ else
 bif (l == [109, 105, 110]) then some ⟨2, 1, 0, 0, false, false, false, 0, 0⟩ else
 bif (l == [109, 97, 120]) then some ⟨2, 1, 0, 0, false, false, false, 0, 0⟩ else
 bif (l == [108, 116]) then some ⟨2, 1, 0, 0, false, false, false, 0, 0⟩ else
 bif (l == [108, 101]) then some ⟨2, 1, 0, 0, false, false, false, 0, 0⟩ else
 bif (l == [101, 113]) then some ⟨2, 1, 0, 0, false, false, false, 0, 0⟩ else
 bif (l == [110, 101]) then some ⟨2, 1, 0, 0, false, false, false, 0, 0⟩ else
 bif (l == [97, 110, 100]) then some ⟨2, 1, 0, 0, false, false, false, 0, 0⟩ else
 bif (l == [111, 114]) then some ⟨2, 1, 0, 0, false, false, false, 0, 0⟩ else
 bif (l == [120, 111, 114]) then some ⟨2, 1, 0, 0, false, false, false, 0, 0⟩ else
 bif (l == [115, 104, 108]) then some ⟨2, 1, 0, 0, false, false, false, 0, 0⟩ else
 bif (l == [115, 104, 114]) then some ⟨2, 1, 0, 0, false, false, false, 0, 0⟩ else
 bif (l == [112, 105, 99, 107]) then some ⟨3, 1, 0, 0, false, false, false, 0, 0⟩ else
 bif (l == [102, 105, 116]) then some ⟨1, 1, 0, 0, true, false, false, 0, 0⟩ else
 bif (l == [100, 101, 108, 97, 121]) then some ⟨1, 1, 0, 1, false, false, false, 0, 0⟩ else
 bif (l == [118, 97, 114, 121]) then some ⟨2, 1, 0, 2, false, false, false, 0, 0⟩ else
 bif (l == [116, 97, 98, 108, 101]) then some ⟨1, 1, 0, 0, false, false, true, 1, 256⟩ else
 bif (l == [115, 116, 111, 114, 101]) then some ⟨3, 1, 0, 0, false, false, true, 1, 256⟩ else
 bif (l == [119, 97, 118, 101]) then some ⟨0, 1, 0, 0, false, false, true, 1, 256⟩ else
 bif (l == [107, 110, 111, 98]) then some ⟨0, 1, 0, 0, false, true, true, 4, 4⟩ else
 bif (l == [115, 104, 111, 119]) then some ⟨1, 1, 0, 0, false, true, false, 0, 0⟩ else
 bif (l == [112, 97, 114]) then some ⟨0, 0, 2, 0, false, false, false, 0, 0⟩ else
 bif (l == [115, 101, 113]) then some ⟨0, 0, 2, 0, false, false, false, 0, 0⟩ else
 bif (l == [115, 112, 108, 105, 116]) then some ⟨0, 0, 2, 0, false, false, false, 0, 0⟩ else
 bif (l == [109, 101, 114, 103, 101]) then some ⟨0, 0, 2, 0, false, false, false, 0, 0⟩ else
 bif (l == [114, 101, 99]) then some ⟨0, 0, 2, 0, false, false, false, 0, 0⟩ else
 bif (l == [117, 112]) then some ⟨0, 0, 1, 1, false, false, false, 0, 0⟩ else
 bif (l == [100, 111, 119, 110]) then some ⟨0, 0, 1, 1, false, false, false, 0, 0⟩ else
 bif (l == [103, 97, 116, 101]) then some ⟨0, 0, 1, 0, false, false, false, 0, 0⟩ else
 bif (l == [114, 101, 115, 101, 116]) then some ⟨0, 0, 1, 0, false, false, false, 0, 0⟩ else
 none
def shK (r : Option Sh) (k : Int → Int → Int → Int → Bool → Bool → Bool → Bool → Option DV) : Option DV := match r with
 | some s => k s.ins s.outs s.kids s.ints s.fmt s.name s.nums true
 | none => k 0 0 0 0 false false false false
def opK (r : Option Sh) (k : Int → Int → Int → Bool → Bool → Bool → Bool → Int → Int → Bool → Option DV) : Option DV := match r with
 | some s => k s.ins s.outs s.kids (decide (s.ints ≥ 1)) (decide (s.ints ≥ 2)) s.name s.fmt s.least s.most true
 | none => k 0 0 0 false false false false 0 0 false
theorem Ke4 {c : Bool} {s : Sh} {r : Option Sh} {a b : Option DV} {k : Int → Int → Int → Int → Bool → Bool → Bool → Bool → Option DV} (h1 : a = shK (some s) k) (h2 : b = shK r k) : bx c a b = shK (bif c then some s else r) k := by
 cases c
 ·exact h2
 ·exact h1
theorem Ke5 {c : Bool} {s : Sh} {r : Option Sh} {a b : Option DV} {k : Int → Int → Int → Bool → Bool → Bool → Bool → Int → Int → Bool → Option DV} (h1 : a = opK (some s) k) (h2 : b = opK r k) : bx c a b = opK (bif c then some s else r) k := by
 cases c
 ·exact h2
 ·exact h1
theorem K2y (op : ByteArray) (k : Int → Int → Int → Int → Bool → Bool → Bool → Bool → Option DV) : Kbh op k = shK (shp op.toList) k := by
 unfold Kbh K3i shp
 simp only [tl]
 exact Ke4 rfl (Ke4 rfl (Ke4 rfl (Ke4 rfl (Ke4 rfl (Ke4 rfl (Ke4 rfl (Ke4 rfl (Ke4 rfl (Ke4 rfl (Ke4 rfl (Ke4 rfl (Ke4 rfl (Ke4 rfl (Ke4 rfl (Ke4 rfl (Ke4 rfl (Ke4 rfl (Ke4 rfl (Ke4 rfl (Ke4 rfl (Ke4 rfl (Ke4 rfl (Ke4 rfl (Ke4 rfl (Ke4 rfl (Ke4 rfl (Ke4 rfl (Ke4 rfl (Ke4 rfl (Ke4 rfl (Ke4 rfl (Ke4 rfl (Ke4 rfl (Ke4 rfl (Ke4 rfl (Ke4 rfl (Ke4 rfl (Ke4 rfl (Ke4 rfl (Ke4 rfl (Ke4 rfl (Ke4 rfl (rfl)))))))))))))))))))))))))))))))))))))))))))
theorem W01 (op : ByteArray) (k : Int → Int → Int → Bool → Bool → Bool → Bool → Int → Int → Bool → Option DV) : Kbu op k = opK (shp2 op.toList) k := by
 unfold Kbu Kw1 shp2
 simp only [tl]
 exact Ke5 rfl (Ke5 rfl (Ke5 rfl (Ke5 rfl (Ke5 rfl (Ke5 rfl (Ke5 rfl (Ke5 rfl (Ke5 rfl (Ke5 rfl (Ke5 rfl (Ke5 rfl (Ke5 rfl (Ke5 rfl (Ke5 rfl (Ke5 rfl (Ke5 rfl (Ke5 rfl (Ke5 rfl (Ke5 rfl (Ke5 rfl (Ke5 rfl (Ke5 rfl (Ke5 rfl (Ke5 rfl (Ke5 rfl (Ke5 rfl (Ke5 rfl (Ke5 rfl (Ke5 rfl (Ke5 rfl (Ke5 rfl (Ke5 rfl (Ke5 rfl (Ke5 rfl (Ke5 rfl (Ke5 rfl (Ke5 rfl (Ke5 rfl (Ke5 rfl (Ke5 rfl (Ke5 rfl (Ke5 rfl (rfl)))))))))))))))))))))))))))))))))))))))))))
theorem Wzg (l : List UInt8) : shp2 l = shp l := by
 by_cases h0 : l = [99, 117, 116]
 ·subst h0; rfl
 by_cases h1 : l = [119, 105, 114, 101]
 ·subst h1; rfl
 by_cases h2 : l = [110, 101, 103]
 ·subst h2; rfl
 by_cases h3 : l = [97, 98, 115]
 ·subst h3; rfl
 by_cases h4 : l = [102, 108, 111, 111, 114]
 ·subst h4; rfl
 by_cases h5 : l = [114, 111, 117, 110, 100]
 ·subst h5; rfl
 by_cases h6 : l = [102, 114, 97, 99]
 ·subst h6; rfl
 by_cases h7 : l = [110, 111, 116]
 ·subst h7; rfl
 by_cases h8 : l = [97, 100, 100]
 ·subst h8; rfl
 by_cases h9 : l = [115, 117, 98]
 ·subst h9; rfl
 by_cases h10 : l = [109, 117, 108]
 ·subst h10; rfl
 by_cases h11 : l = [100, 105, 118]
 ·subst h11; rfl
 by_cases h12 : l = [109, 111, 100]
 ·subst h12; rfl
 by_cases h13 : l = [109, 105, 110]
 ·subst h13; rfl
 by_cases h14 : l = [109, 97, 120]
 ·subst h14; rfl
 by_cases h15 : l = [108, 116]
 ·subst h15; rfl
 by_cases h16 : l = [108, 101]
 ·subst h16; rfl
 by_cases h17 : l = [101, 113]
 ·subst h17; rfl
 by_cases h18 : l = [110, 101]
 ·subst h18; rfl
 by_cases h19 : l = [97, 110, 100]
 ·subst h19; rfl
 by_cases h20 : l = [111, 114]
 ·subst h20; rfl
 by_cases h21 : l = [120, 111, 114]
 ·subst h21; rfl
 by_cases h22 : l = [115, 104, 108]
 ·subst h22; rfl
 by_cases h23 : l = [115, 104, 114]
 ·subst h23; rfl
 by_cases h24 : l = [112, 105, 99, 107]
 ·subst h24; rfl
 by_cases h25 : l = [102, 105, 116]
 ·subst h25; rfl
 by_cases h26 : l = [100, 101, 108, 97, 121]
 ·subst h26; rfl
 by_cases h27 : l = [118, 97, 114, 121]
 ·subst h27; rfl
 by_cases h28 : l = [110, 117, 109]
 ·subst h28; rfl
 by_cases h29 : l = [119, 97, 118, 101]
 ·subst h29; rfl
 by_cases h30 : l = [116, 97, 98, 108, 101]
 ·subst h30; rfl
 by_cases h31 : l = [115, 116, 111, 114, 101]
 ·subst h31; rfl
 by_cases h32 : l = [107, 110, 111, 98]
 ·subst h32; rfl
 by_cases h33 : l = [115, 104, 111, 119]
 ·subst h33; rfl
 by_cases h34 : l = [112, 97, 114]
 ·subst h34; rfl
 by_cases h35 : l = [115, 101, 113]
 ·subst h35; rfl
 by_cases h36 : l = [115, 112, 108, 105, 116]
 ·subst h36; rfl
 by_cases h37 : l = [109, 101, 114, 103, 101]
 ·subst h37; rfl
 by_cases h38 : l = [114, 101, 99]
 ·subst h38; rfl
 by_cases h39 : l = [117, 112]
 ·subst h39; rfl
 by_cases h40 : l = [100, 111, 119, 110]
 ·subst h40; rfl
 by_cases h41 : l = [103, 97, 116, 101]
 ·subst h41; rfl
 by_cases h42 : l = [114, 101, 115, 101, 116]
 ·subst h42; rfl
 have e0 : (l == [99, 117, 116]) = false := by simpa using h0
 have e1 : (l == [119, 105, 114, 101]) = false := by simpa using h1
 have e2 : (l == [110, 101, 103]) = false := by simpa using h2
 have e3 : (l == [97, 98, 115]) = false := by simpa using h3
 have e4 : (l == [102, 108, 111, 111, 114]) = false := by simpa using h4
 have e5 : (l == [114, 111, 117, 110, 100]) = false := by simpa using h5
 have e6 : (l == [102, 114, 97, 99]) = false := by simpa using h6
 have e7 : (l == [110, 111, 116]) = false := by simpa using h7
 have e8 : (l == [97, 100, 100]) = false := by simpa using h8
 have e9 : (l == [115, 117, 98]) = false := by simpa using h9
 have e10 : (l == [109, 117, 108]) = false := by simpa using h10
 have e11 : (l == [100, 105, 118]) = false := by simpa using h11
 have e12 : (l == [109, 111, 100]) = false := by simpa using h12
 have e13 : (l == [109, 105, 110]) = false := by simpa using h13
 have e14 : (l == [109, 97, 120]) = false := by simpa using h14
 have e15 : (l == [108, 116]) = false := by simpa using h15
 have e16 : (l == [108, 101]) = false := by simpa using h16
 have e17 : (l == [101, 113]) = false := by simpa using h17
 have e18 : (l == [110, 101]) = false := by simpa using h18
 have e19 : (l == [97, 110, 100]) = false := by simpa using h19
 have e20 : (l == [111, 114]) = false := by simpa using h20
 have e21 : (l == [120, 111, 114]) = false := by simpa using h21
 have e22 : (l == [115, 104, 108]) = false := by simpa using h22
 have e23 : (l == [115, 104, 114]) = false := by simpa using h23
 have e24 : (l == [112, 105, 99, 107]) = false := by simpa using h24
 have e25 : (l == [102, 105, 116]) = false := by simpa using h25
 have e26 : (l == [100, 101, 108, 97, 121]) = false := by simpa using h26
 have e27 : (l == [118, 97, 114, 121]) = false := by simpa using h27
 have e28 : (l == [110, 117, 109]) = false := by simpa using h28
 have e29 : (l == [119, 97, 118, 101]) = false := by simpa using h29
 have e30 : (l == [116, 97, 98, 108, 101]) = false := by simpa using h30
 have e31 : (l == [115, 116, 111, 114, 101]) = false := by simpa using h31
 have e32 : (l == [107, 110, 111, 98]) = false := by simpa using h32
 have e33 : (l == [115, 104, 111, 119]) = false := by simpa using h33
 have e34 : (l == [112, 97, 114]) = false := by simpa using h34
 have e35 : (l == [115, 101, 113]) = false := by simpa using h35
 have e36 : (l == [115, 112, 108, 105, 116]) = false := by simpa using h36
 have e37 : (l == [109, 101, 114, 103, 101]) = false := by simpa using h37
 have e38 : (l == [114, 101, 99]) = false := by simpa using h38
 have e39 : (l == [117, 112]) = false := by simpa using h39
 have e40 : (l == [100, 111, 119, 110]) = false := by simpa using h40
 have e41 : (l == [103, 97, 116, 101]) = false := by simpa using h41
 have e42 : (l == [114, 101, 115, 101, 116]) = false := by simpa using h42
 simp only [shp, shp2, e0, e1, e2, e3, e4, e5, e6, e7, e8, e9, e10, e11, e12, e13, e14, e15, e16, e17, e18, e19, e20, e21, e22, e23, e24, e25, e26, e27, e28, e29, e30, e31, e32, e33, e34, e35, e36, e37, e38, e39, e40, e41, e42, cond_false]
theorem Wb1 (op : ByteArray) (k : Int → Int → Int → Bool → Bool → Bool → Bool → Int → Int → Bool → Option DV) : Kbu op k = opK (shp op.toList) k := by rw [W01, Wzg]
theorem Wgs {Q : List UInt8 → Sh → Bool} {l lit : List UInt8} {s s' : Sh} {r : Option Sh} (h : (bif (l == lit) then some s' else r) = some s) (h1 : Q lit s' = true) (h2 : r = some s → Q l s = true) : Q l s = true := by
 cases hc : (l == lit) with
 | true => rw [hc] at h; cases h; rw [eq_of_beq hc]; exact h1
 | false => rw [hc] at h; exact h2 h
end Go.Proofs.YtgohccjmphapfaaGreatDoor
end

noncomputable section
namespace Go.Proofs.YtgohccjmphapfaaGreatDoor
open Go Go.Pv Go.RowKit
def vq (q : Int × Int) : Bool := (q.1 == 0 && q.2 == 0) || Q.isq q.1 q.2
theorem Wjo (a b : Int) (k : KB) : Kqt a b k = k (vq (a, b)) := by
 unfold Kqt K8d vq
 cases ha : (a == 0) <;> cases hb : (b == 0) <;> simp [bx_t, bx_f, Wb0]
theorem Wtr (a b : Int) (k : KB) : Kgw a b k = k (vq (a, b)) := by
 unfold Kgw Kr2 vq
 rw [Wl9]
 cases hq : Q.isq a b <;> cases ha : (a == 0) <;> cases hb : (b == 0) <;> simp [bx_t, bx_f]
theorem Wwm (a b : Int) (k : KB) : Kgj a b k = k (!vq (a, b)) := by unfold Kgj Kzz; rw [Wjo]
theorem Wr4 (a b : Int) (k : KB) : Kex a b k = k (!Q.isq a b) := by unfold Kex Kw3; rw [Wb0]
theorem Wc3 (X : List (Int × Int)) (hl : X.length < 9223372036854775807) (κ : KI × Option DV) : ∀ (r d : List (Int × Int)), X = d ++ r → ∃ i : Nat, LF (Kbb Kgj) (r.length + 1) (.h0 (X.map qpc) (X.length : Nat) d.length) κ = bx (r.any fun q => !vq q) (κ.1 (i : Int)) κ.2
 | [], d, hX => by
  refine ⟨0, ?_⟩
  simp only [LF, Kbb]
  have : decide ((d.length : Int) < (X.length : Int)) = false := by simp [hX]
  rw [this, bx_f]; rfl
 | q :: r, d, hX => by
  have hlx : X.length = d.length + r.length + 1 := by simp [hX]; omega
  obtain ⟨i, ih⟩ := Wc3 X hl κ r (d ++ [q]) (by simp [hX])
  have h1 : decide ((d.length : Int) < (X.length : Int)) = true := by simp; omega
  have h2 : decide (0 ≤ (d.length : Int)) = true := by simp
  have h3 : (X.map qpc)[Int.toNat (d.length : Int)]? = some (qpc q) := by simp [hX]
  have hL : LF (Kbb Kgj) ((q :: r).length + 1) (.h0 (X.map qpc) (X.length : Nat) d.length) κ = bx (!vq q) (κ.1 (d.length : Int)) (bx (r.any fun q => !vq q) (κ.1 (i : Int)) κ.2) := by
   rw [show (q :: r).length + 1 = (r.length + 1) + 1 from rfl, LF]
   simp only [Kbb, h1, h2, h3, bx_t, optE, ld_q]
   rw [Wwm, Kcp (by omega) (by omega), show (d.length : Int) + 1 = ((d ++ [q]).length : Nat) by simp, ih]
  cases hp : (!vq q) with
  | true => exact ⟨d.length, by rw [hL]; simp [List.any_cons, hp, bx_t]⟩
  | false => exact ⟨i, by rw [hL]; simp [List.any_cons, hp, bx_f]⟩
theorem Wf2 (X : List (Int × Int)) (hl : X.length < 9223372036854775807) (k : KB) : Kbr (X.map qpc) k = k (X.any fun q => !vq q) := by
 unfold Kbr Keg Kcj Ker
 have hm : (X.map qpc).length = X.length := by simp
 have hf : Int.toNat (((X.length : Nat) : Int) - 0) + 1 = X.length + 1 := by omega
 simp only [hm, Kc1, hf]
 obtain ⟨i, h⟩ := Wc3 X hl ((fun r1 => k (decide (r1 ≥ 0))), k (decide ((-1 : Int) ≥ 0))) X [] rfl
 refine Eq.trans h ?_
 cases X.any fun q => !vq q with
 | true => exact congrArg k (decide_eq_true (show (i : Int) ≥ 0 by omega))
 | false => rfl
theorem K9t (X : List (Int × Int)) (hl : X.length < 9223372036854775807) (κ : KI × Option DV) : ∀ (r d : List (Int × Int)), X = d ++ r → ∃ i : Nat, LF (Kba Kex) (r.length + 1) (.h0 (X.map qpc) (X.length : Nat) d.length) κ = bx (r.any fun q => !Q.isq q.1 q.2) (κ.1 (i : Int)) κ.2
 | [], d, hX => by
  refine ⟨0, ?_⟩
  simp only [LF, Kba]
  have : decide ((d.length : Int) < (X.length : Int)) = false := by simp [hX]
  rw [this, bx_f]; rfl
 | q :: r, d, hX => by
  have hlx : X.length = d.length + r.length + 1 := by simp [hX]; omega
  obtain ⟨i, ih⟩ := K9t X hl κ r (d ++ [q]) (by simp [hX])
  have h1 : decide ((d.length : Int) < (X.length : Int)) = true := by simp; omega
  have h2 : decide (0 ≤ (d.length : Int)) = true := by simp
  have h3 : (X.map qpc)[Int.toNat (d.length : Int)]? = some (qpc q) := by simp [hX]
  have hL : LF (Kba Kex) ((q :: r).length + 1) (.h0 (X.map qpc) (X.length : Nat) d.length) κ = bx (!Q.isq q.1 q.2) (κ.1 (d.length : Int)) (bx (r.any fun q => !Q.isq q.1 q.2) (κ.1 (i : Int)) κ.2) := by
   rw [show (q :: r).length + 1 = (r.length + 1) + 1 from rfl, LF]
   simp only [Kba, h1, h2, h3, bx_t, optE, ld_q]
   rw [Wr4, Kcp (by omega) (by omega), show (d.length : Int) + 1 = ((d ++ [q]).length : Nat) by simp, ih]
  cases hp : (!Q.isq q.1 q.2) with
  | true => exact ⟨d.length, by rw [hL]; simp [List.any_cons, hp, bx_t]⟩
  | false => exact ⟨i, by rw [hL]; simp [List.any_cons, hp, bx_f]⟩
theorem Wc4 (X : List (Int × Int)) (hl : X.length < 9223372036854775807) (k : KB) : Kbn (X.map qpc) k = k (X.any fun q => !Q.isq q.1 q.2) := by
 unfold Kbn Kd8 Kcd Kek
 have hm : (X.map qpc).length = X.length := by simp
 have hf : Int.toNat (((X.length : Nat) : Int) - 0) + 1 = X.length + 1 := by omega
 simp only [hm, Kco, hf]
 obtain ⟨i, h⟩ := K9t X hl ((fun r1 => k (decide (r1 ≥ 0))), k (decide ((-1 : Int) ≥ 0))) X [] rfl
 refine Eq.trans h ?_
 cases X.any fun q => !Q.isq q.1 q.2 with
 | true => exact congrArg k (decide_eq_true (show (i : Int) ≥ 0 by omega))
 | false => rfl
theorem Wr5 (X : List (Int × Int)) (hl : X.length < 9223372036854775807) (k : KB) : Kyc (X.map qpc) k = k (decide (1 ≤ X.length ∧ X.length ≤ 256) && X.all vq) := by
 unfold Kyc K3m
 simp only [Wf2 X hl, List.length_map]
 have ha : (!(X.any fun q => !vq q)) = X.all vq := by rw [List.not_any_eq_all_not]; simp
 rw [ha]
 by_cases h1 : 1 ≤ X.length
 ·have e1 : decide (1 ≤ ((X.length : Nat) : Int)) = true := by simp; omega
  by_cases h2 : X.length ≤ 256
  ·have e2 : decide (((X.length : Nat) : Int) ≤ 256) = true := by simp; omega
   rw [e1, bx_t, e2, bx_t, decide_eq_true ⟨h1, h2⟩, Bool.true_and]
  ·have e2 : decide (((X.length : Nat) : Int) ≤ 256) = false := by simp; omega
   rw [e1, bx_t, e2, bx_f, decide_eq_false (fun h => h2 h.2), Bool.false_and]
 ·have e1 : decide (1 ≤ ((X.length : Nat) : Int)) = false := by simp; omega
  rw [e1, bx_f, decide_eq_false (fun h => h1 h.1), Bool.false_and]
def pbI (n : Int) : Bool := (decide (97 ≤ n) && decide (n ≤ 122)) || (decide (65 ≤ n) && decide (n ≤ 90)) || (decide (48 ≤ n) && decide (n ≤ 57)) || (n == 95) || (n == 45) || (n == 47)
def K4h (s : W4w) : Bool := decide (1 ≤ s.size ∧ s.size ≤ 40) && s.data.toList.all fun c => pbI (c.toNat : Nat)
theorem Wop (n : Int) (k : KB) : Kly n k = k (pbI n) := by
 unfold Kly Kyd pbI
 generalize decide (97 ≤ n) = a
 generalize decide (n ≤ 122) = b
 generalize decide (65 ≤ n) = c
 generalize decide (n ≤ 90) = d
 generalize decide (48 ≤ n) = e
 generalize decide (n ≤ 57) = f
 generalize (n == 95) = g
 generalize (n == 45) = h
 generalize (n == 47) = i
 cases a <;> cases b <;> cases c <;> cases d <;> cases e <;> cases f <;> cases g <;> cases h <;> rfl
theorem ld_u (b : UInt8) (k : W4v) : W0w [.val (.int .u8 b.toNat)] 0 k = k (b.toNat : Nat) := rfl
theorem Wmg (s : W4w) (hl : s.size < 9223372036854775807) (κ : KB × Option DV) : ∀ (r d : List UInt8), s.data.toList = d ++ r → LF (Kmy Kly) (r.length + 1) (.h0 (Kse s) (s.size : Nat) d.length) κ = bx (r.all fun c => pbI (c.toNat : Nat)) κ.2 (κ.1 false)
 | [], d, hX => by
  have hs : s.size = d.length := by have : s.size = s.data.toList.length := rfl; rw [this, hX]; simp
  simp only [LF, Kmy]
  have : decide ((d.length : Int) < (s.size : Int)) = false := by simp [hs]
  rw [this, bx_f]; rfl
 | c :: r, d, hX => by
  have hs : s.size = d.length + r.length + 1 := by have : s.size = s.data.toList.length := rfl; rw [this, hX]; simp; omega
  have ih := Wmg s hl κ r (d ++ [c]) (by simp [hX])
  have h1 : decide ((d.length : Int) < (s.size : Int)) = true := by simp; omega
  have h2 : decide (0 ≤ (d.length : Int)) = true := by simp
  have h3 : (Kse s)[Int.toNat (d.length : Int)]? = some [.val (.int .u8 c.toNat)] := by unfold Kse; rw [hX]; simp
  rw [show (c :: r).length + 1 = (r.length + 1) + 1 from rfl, LF]
  simp only [Kmy, h1, h2, h3, bx_t, optE, ld_u, Wop]
  rw [Kcp (by omega) (by omega), show (d.length : Int) + 1 = ((d ++ [c]).length : Nat) by simp, ih]
  cases hp : pbI (c.toNat : Nat) with
  | true => simp [List.all_cons, hp, bx_f]
  | false => simp [List.all_cons, hp, bx_t, bx_f]
theorem Wts (s : W4w) (k : KB) : K0r s k = k (K4h s) := by
 unfold K0r K50 K4h
 by_cases h1 : 1 ≤ s.size
 ·have e1 : (!(decide ((s.size : Int) < 1))) = true := by simp; omega
  by_cases h2 : s.size ≤ 40
  ·have e2 : decide ((s.size : Int) > 40) = false := by simp; omega
   have hm : (Kse s).length = s.size := K6i s
   have hf : Int.toNat (((s.size : Nat) : Int) - 0) + 1 = s.data.toList.length + 1 := by have : s.size = s.data.toList.length := rfl; omega
   rw [e1, bx_t, e2, bx_f]
   simp only [hm, Ksz, hf]
   refine Eq.trans (Wmg s (by omega) ((fun z => k z), k true) s.data.toList [] rfl) ?_
   rw [decide_eq_true ⟨h1, h2⟩, Bool.true_and]
   cases s.data.toList.all fun c => pbI (c.toNat : Nat) <;> rfl
  ·have e2 : decide ((s.size : Int) > 40) = true := by simp; omega
   rw [e1, bx_t, e2, bx_t, decide_eq_false (fun h => h2 h.2), Bool.false_and]
 ·have e1 : (!(decide ((s.size : Int) < 1))) = false := by simp; omega
  rw [e1, bx_f, decide_eq_false (fun h => h1 h.1), Bool.false_and]
theorem W02 (s : W4w) (i : Nat) : s[i]? = s.data.toList[i]? := by
 cases s with
 | mk a =>
  rw [Array.getElem?_toList]
  rfl
theorem Wr6 (n : Int) (κ0 κn : W4y) : (bx (decide (n ≥ 97)) (bx (!(decide (n ≤ 122))) (bx (decide (n ≥ 65)) (bx (!(decide (n ≤ 90))) (bx (decide (n ≥ 48)) (bx (!(decide (n ≤ 57))) (bx (!(n == 95)) (bx (!(n == 45)) (bx (!(n == 47)) κ0 κn) κn) κn) κn) (bx (!(n == 95)) (bx (!(n == 45)) (bx (!(n == 47)) κ0 κn) κn) κn)) κn) (bx (decide (n ≥ 48)) (bx (!(decide (n ≤ 57))) (bx (!(n == 95)) (bx (!(n == 45)) (bx (!(n == 47)) κ0 κn) κn) κn) κn) (bx (!(n == 95)) (bx (!(n == 45)) (bx (!(n == 47)) κ0 κn) κn) κn))) κn) (bx (decide (n ≥ 65)) (bx (!(decide (n ≤ 90))) (bx (decide (n ≥ 48)) (bx (!(decide (n ≤ 57))) (bx (!(n == 95)) (bx (!(n == 45)) (bx (!(n == 47)) κ0 κn) κn) κn) κn) (bx (!(n == 95)) (bx (!(n == 45)) (bx (!(n == 47)) κ0 κn) κn) κn)) κn) (bx (decide (n ≥ 48)) (bx (!(decide (n ≤ 57))) (bx (!(n == 95)) (bx (!(n == 45)) (bx (!(n == 47)) κ0 κn) κn) κn) κn) (bx (!(n == 95)) (bx (!(n == 45)) (bx (!(n == 47)) κ0 κn) κn) κn)))) = bx (pbI n) κn κ0 := by
 unfold pbI
 simp only [ge_iff_le]
 generalize decide (97 ≤ n) = a
 generalize decide (n ≤ 122) = b
 generalize decide (65 ≤ n) = c
 generalize decide (n ≤ 90) = d
 generalize decide (48 ≤ n) = e
 generalize decide (n ≤ 57) = f
 generalize (n == 95) = g
 generalize (n == 45) = h
 generalize (n == 47) = i
 cases a <;> cases b <;> cases c <;> cases d <;> cases e <;> cases f <;> cases g <;> cases h <;> cases i <;> rfl
theorem Wjp (s : W4w) (hl : s.size < 9223372036854775807) (κ : (ByteArray → Bool → Option DV) × KT) : ∀ (r d : List UInt8), s.data.toList = d ++ r → LF Khe (r.length + 1) (.h0 s d.length) κ = bx (r.all fun c => pbI (c.toNat : Nat)) (κ.2 s) (κ.1 s false)
 | [], d, hX => by
  have hs : s.size = d.length := by have : s.size = s.data.toList.length := rfl; rw [this, hX]; simp
  simp only [LF, Khe]
  have : decide ((d.length : Int) < (s.size : Int)) = false := by simp [hs]
  rw [this, bx_f]; rfl
 | c :: r, d, hX => by
  have hs : s.size = d.length + r.length + 1 := by have : s.size = s.data.toList.length := rfl; rw [this, hX]; simp; omega
  have ih := Wjp s hl κ r (d ++ [c]) (by simp [hX])
  have h1 : decide ((d.length : Int) < (s.size : Int)) = true := by simp; omega
  have h2 : decide (0 ≤ (d.length : Int)) = true := by simp
  have h3 : s[Int.toNat (d.length : Int)]? = some c := by rw [W02, hX]; simp
  rw [show (c :: r).length + 1 = (r.length + 1) + 1 from rfl, LF]
  simp only [Khe, h1, h2, h3, bx_t]
  rw [Wr6, Kcp (by omega) (by omega), show (d.length : Int) + 1 = ((d ++ [c]).length : Nat) by simp, ih]
  cases hp : pbI (c.toNat : Nat) with
  | true => simp [List.all_cons, hp, bx_t]
  | false => simp [List.all_cons, hp, bx_f]
theorem Wwn (s : W4w) (hl : s.size < 9223372036854775807) (k : KB) : Kkd s k = k (K4h s) := by
 unfold Kkd Kto K4h
 have hf : Int.toNat (((s.size : Nat) : Int) - 0) + 1 = s.data.toList.length + 1 := by have : s.size = s.data.toList.length := rfl; omega
 simp only [Kkm, hf]
 refine Eq.trans (Wjp s hl _ s.data.toList [] rfl) ?_
 by_cases h1 : 1 ≤ s.size
 ·have e1 : decide ((s.size : Int) ≥ 1) = true := by simp; omega
  by_cases h2 : s.size ≤ 40
  ·have e2 : decide ((s.size : Int) ≤ 40) = true := by simp; omega
   rw [decide_eq_true ⟨h1, h2⟩, Bool.true_and]
   simp only [e1, e2, bx_t]
   cases s.data.toList.all fun c => pbI (c.toNat : Nat) <;> rfl
  ·have e2 : decide ((s.size : Int) ≤ 40) = false := by simp; omega
   rw [decide_eq_false (fun h => h2 h.2), Bool.false_and]
   simp only [e1, e2, bx_t]
   cases s.data.toList.all fun c => pbI (c.toNat : Nat) <;> rfl
 ·have e1 : decide ((s.size : Int) ≥ 1) = false := by simp; omega
  rw [decide_eq_false (fun h => h1 h.1), Bool.false_and]
  simp only [e1, bx_f]
  cases s.data.toList.all fun c => pbI (c.toNat : Nat) <;> rfl
end Go.Proofs.YtgohccjmphapfaaGreatDoor
end
