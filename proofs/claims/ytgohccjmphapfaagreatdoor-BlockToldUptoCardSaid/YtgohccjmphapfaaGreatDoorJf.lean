import Derived.Test.YtgohccjmphapfaaGreatDoorJd
set_option linter.all false
noncomputable section
namespace Go.Proofs.YtgohccjmphapfaaGreatDoor
open Go Go.Pv Go.RowKit
def askc (s : Sh) (P nm nl V : Bool) (n m : Int) (X : List (Int × Int)) (R : Bool) : Bool :=
 (bif s.name then P else nm) && (((decide (s.ints ≥ 1)) || (n == 0)) && (((decide (s.ints ≥ 2)) || (m == 0)) && ((bif s.fmt then V else nl) && (!(decide ((X.length : Int) < s.least)) && (!(decide ((X.length : Int) > s.most)) && (X.all vq && R))))))
theorem Kok (s : Sh) (l : List UInt8) (P nm nl V : Bool) (n m : Int) (X : List (Int × Int)) : ask s l P nm nl V n m X = askc s P nm nl V n m X (rng2 l n m X) := rfl
theorem g1_0 (X : List (Int × Int)) : decide ((X.length : Int) < 0) = false := by simp
theorem g2_0 (X : List (Int × Int)) : decide ((X.length : Int) > 0) = !((X.length : Int) == 0) := by
 cases X with
 | nil => rfl
 | cons q r => rw [Bool.eq_iff_iff]; simp; omega
theorem av_0 (X : List (Int × Int)) : (!((X.length : Int) == 0) || X.all vq) = true := by
 cases X with
 | nil => rfl
 | cons q r =>
  have : (((q :: r).length : Int) == 0) = false := by simp; omega
  rw [this]; rfl
theorem Wqk {q : Int × Int} (h : Q.isq q.1 q.2 = true) : vq q = true := by unfold vq; rw [h, Bool.or_true]
theorem Wtz (X : List (Int × Int)) : (!ctl X || (!decide ((X.length : Int) < 4) && (!decide ((X.length : Int) > 4) && X.all vq))) = true := by
 match X with
 | [] => rfl
 | [_] => rfl
 | [_, _] => rfl
 | [_, _, _] => rfl
 | [f, lo, hi, st] =>
  cases h : ctl [f, lo, hi, st] with
  | false => rfl
  | true =>
   rw [ctl4] at h
   simp only [Bool.and_eq_true] at h
   obtain ⟨⟨h1, h2, h3, h4⟩, _⟩ := h
   simp [Wqk h1, Wqk h2, Wqk h3, Wqk h4]
 | _ :: _ :: _ :: _ :: _ :: _ => rfl
section
set_option maxRecDepth 20000
set_option synthInstance.maxHeartbeats 2000000
theorem taA : ∀ a b c P V nl nm z g1 g2 A R : Bool, g1 = false → g2 = !z → (!z || A) = true → ((a && ((false || b) && ((false || c) && ((false || nl) && ((false || nm) && (false || z)))))) && true) = (a && ((bif false then P else nm) && ((false || b) && ((false || c) && ((bif false then V else nl) && (!g1 && (!g2 && (A && true)))))))) := by decide
theorem clA (i o kd kn : Int) (P nm nl V R : Bool) (n m : Int) (X : List (Int × Int)) : (own ⟨i, o, kd, 0, false, false, false, 0, 0⟩ kn nm nl n m X.length && true) = ((kn == kd) && askc ⟨i, o, kd, 0, false, false, false, 0, 0⟩ P nm nl V n m X true) := by
 exact taA (kn == kd) (n == 0) (m == 0) P V nl nm ((X.length : Int) == 0) (decide ((X.length : Int) < 0)) (decide ((X.length : Int) > 0)) (X.all vq) true (g1_0 X) (g2_0 X) (av_0 X)
theorem taN : ∀ a b c P V nl nm z g1 g2 A R : Bool, ((a && ((false || b) && ((false || c) && ((false || nl) && ((false || nm) && (true || z)))))) && ((!g1 && !g2) && A)) = (a && ((bif false then P else nm) && ((false || b) && ((false || c) && ((bif false then V else nl) && (!g1 && (!g2 && (A && true)))))))) := by decide
theorem clN (i o kd kn : Int) (P nm nl V R : Bool) (n m : Int) (X : List (Int × Int)) : (own ⟨i, o, kd, 0, false, false, true, 1, 1⟩ kn nm nl n m X.length && (decide (X.length = 1) && X.all vq)) = ((kn == kd) && askc ⟨i, o, kd, 0, false, false, true, 1, 1⟩ P nm nl V n m X true) := by
 have e : decide (X.length = 1) = (!decide ((X.length : Int) < 1) && !decide ((X.length : Int) > 1)) := by
  rw [Bool.eq_iff_iff]; simp; omega
 rw [e]
 exact taN (kn == kd) (n == 0) (m == 0) P V nl nm ((X.length : Int) == 0) (decide ((X.length : Int) < 1)) (decide ((X.length : Int) > 1)) (X.all vq) true
theorem taF : ∀ a b c P V nl nm z g1 g2 A R : Bool, g1 = false → g2 = !z → (!z || A) = true → ((a && ((false || b) && ((false || c) && ((true || nl) && ((false || nm) && (false || z)))))) && V) = (a && ((bif false then P else nm) && ((false || b) && ((false || c) && ((bif true then V else nl) && (!g1 && (!g2 && (A && true)))))))) := by decide
theorem clF (i o kd kn : Int) (P nm nl V R : Bool) (n m : Int) (X : List (Int × Int)) : (own ⟨i, o, kd, 0, true, false, false, 0, 0⟩ kn nm nl n m X.length && V) = ((kn == kd) && askc ⟨i, o, kd, 0, true, false, false, 0, 0⟩ P nm nl V n m X true) := by
 exact taF (kn == kd) (n == 0) (m == 0) P V nl nm ((X.length : Int) == 0) (decide ((X.length : Int) < 0)) (decide ((X.length : Int) > 0)) (X.all vq) true (g1_0 X) (g2_0 X) (av_0 X)
theorem taD : ∀ a b c P V nl nm z g1 g2 A R : Bool, g1 = false → g2 = !z → (!z || A) = true → ((a && ((true || b) && ((false || c) && ((false || nl) && ((false || nm) && (false || z)))))) && R) = (a && ((bif false then P else nm) && ((true || b) && ((false || c) && ((bif false then V else nl) && (!g1 && (!g2 && (A && R)))))))) := by decide
theorem clD (i o kd kn : Int) (P nm nl V R : Bool) (n m : Int) (X : List (Int × Int)) : (own ⟨i, o, kd, 1, false, false, false, 0, 0⟩ kn nm nl n m X.length && R) = ((kn == kd) && askc ⟨i, o, kd, 1, false, false, false, 0, 0⟩ P nm nl V n m X R) := by
 exact taD (kn == kd) (n == 0) (m == 0) P V nl nm ((X.length : Int) == 0) (decide ((X.length : Int) < 0)) (decide ((X.length : Int) > 0)) (X.all vq) R (g1_0 X) (g2_0 X) (av_0 X)
theorem taV : ∀ a b c P V nl nm z g1 g2 A R : Bool, g1 = false → g2 = !z → (!z || A) = true → ((a && ((true || b) && ((true || c) && ((false || nl) && ((false || nm) && (false || z)))))) && R) = (a && ((bif false then P else nm) && ((true || b) && ((true || c) && ((bif false then V else nl) && (!g1 && (!g2 && (A && R)))))))) := by decide
theorem clV (i o kd kn : Int) (P nm nl V R : Bool) (n m : Int) (X : List (Int × Int)) : (own ⟨i, o, kd, 2, false, false, false, 0, 0⟩ kn nm nl n m X.length && R) = ((kn == kd) && askc ⟨i, o, kd, 2, false, false, false, 0, 0⟩ P nm nl V n m X R) := by
 exact taV (kn == kd) (n == 0) (m == 0) P V nl nm ((X.length : Int) == 0) (decide ((X.length : Int) < 0)) (decide ((X.length : Int) > 0)) (X.all vq) R (g1_0 X) (g2_0 X) (av_0 X)
theorem taT : ∀ a b c P V nl nm z g1 g2 A R : Bool, ((a && ((false || b) && ((false || c) && ((false || nl) && ((false || nm) && (true || z)))))) && ((!g1 && !g2) && A)) = (a && ((bif false then P else nm) && ((false || b) && ((false || c) && ((bif false then V else nl) && (!g1 && (!g2 && (A && true)))))))) := by decide
theorem clT (i o kd kn : Int) (P nm nl V R : Bool) (n m : Int) (X : List (Int × Int)) : (own ⟨i, o, kd, 0, false, false, true, 1, 256⟩ kn nm nl n m X.length && (decide (1 ≤ X.length ∧ X.length ≤ 256) && X.all vq)) = ((kn == kd) && askc ⟨i, o, kd, 0, false, false, true, 1, 256⟩ P nm nl V n m X true) := by
 have e : decide (1 ≤ X.length ∧ X.length ≤ 256) = (!decide ((X.length : Int) < 1) && !decide ((X.length : Int) > 256)) := by
  rw [Bool.eq_iff_iff]; simp; omega
 rw [e]
 exact taT (kn == kd) (n == 0) (m == 0) P V nl nm ((X.length : Int) == 0) (decide ((X.length : Int) < 1)) (decide ((X.length : Int) > 256)) (X.all vq) true
theorem taK : ∀ a b c P V nl nm z g1 g2 A R : Bool, (!R || (!g1 && (!g2 && A))) = true → ((a && ((false || b) && ((false || c) && ((false || nl) && ((true || nm) && (true || z)))))) && (P && R)) = (a && ((bif true then P else nm) && ((false || b) && ((false || c) && ((bif false then V else nl) && (!g1 && (!g2 && (A && R)))))))) := by decide
theorem clK (i o kd kn : Int) (P nm nl V R : Bool) (n m : Int) (X : List (Int × Int)) : (own ⟨i, o, kd, 0, false, true, true, 4, 4⟩ kn nm nl n m X.length && (P && ctl X)) = ((kn == kd) && askc ⟨i, o, kd, 0, false, true, true, 4, 4⟩ P nm nl V n m X (ctl X)) := by
 exact taK (kn == kd) (n == 0) (m == 0) P V nl nm ((X.length : Int) == 0) (decide ((X.length : Int) < 4)) (decide ((X.length : Int) > 4)) (X.all vq) (ctl X) (Wtz X)
theorem taS : ∀ a b c P V nl nm z g1 g2 A R : Bool, g1 = false → g2 = !z → (!z || A) = true → ((a && ((false || b) && ((false || c) && ((false || nl) && ((true || nm) && (false || z)))))) && P) = (a && ((bif true then P else nm) && ((false || b) && ((false || c) && ((bif false then V else nl) && (!g1 && (!g2 && (A && true)))))))) := by decide
theorem clS (i o kd kn : Int) (P nm nl V R : Bool) (n m : Int) (X : List (Int × Int)) : (own ⟨i, o, kd, 0, false, true, false, 0, 0⟩ kn nm nl n m X.length && P) = ((kn == kd) && askc ⟨i, o, kd, 0, false, true, false, 0, 0⟩ P nm nl V n m X true) := by
 exact taS (kn == kd) (n == 0) (m == 0) P V nl nm ((X.length : Int) == 0) (decide ((X.length : Int) < 0)) (decide ((X.length : Int) > 0)) (X.all vq) true (g1_0 X) (g2_0 X) (av_0 X)
end
theorem Wt0 (l : List UInt8) (kn : Int) (P nm nl V : Bool) (n m : Int) (X : List (Int × Int)) : (ownO (shp l) kn nm nl n m X.length && rng l P V n m X) = askO (shp l) l kn P nm nl V n m X := by
 by_cases h0 : l = [99, 117, 116]
 ·subst h0
  have e1 : shp [99, 117, 116] = some ⟨1, 0, 0, 0, false, false, false, 0, 0⟩ := rfl
  have e2 : rng [99, 117, 116] P V n m X = true := rfl
  have e3 : rng2 [99, 117, 116] n m X = true := rfl
  rw [e1, e2]; simp only [ownO, askO, Kok, e3]; exact clA 1 0 0 kn P nm nl V true n m X
 by_cases h1 : l = [119, 105, 114, 101]
 ·subst h1
  have e1 : shp [119, 105, 114, 101] = some ⟨1, 1, 0, 0, false, false, false, 0, 0⟩ := rfl
  have e2 : rng [119, 105, 114, 101] P V n m X = true := rfl
  have e3 : rng2 [119, 105, 114, 101] n m X = true := rfl
  rw [e1, e2]; simp only [ownO, askO, Kok, e3]; exact clA 1 1 0 kn P nm nl V true n m X
 by_cases h2 : l = [110, 101, 103]
 ·subst h2
  have e1 : shp [110, 101, 103] = some ⟨1, 1, 0, 0, false, false, false, 0, 0⟩ := rfl
  have e2 : rng [110, 101, 103] P V n m X = true := rfl
  have e3 : rng2 [110, 101, 103] n m X = true := rfl
  rw [e1, e2]; simp only [ownO, askO, Kok, e3]; exact clA 1 1 0 kn P nm nl V true n m X
 by_cases h3 : l = [97, 98, 115]
 ·subst h3
  have e1 : shp [97, 98, 115] = some ⟨1, 1, 0, 0, false, false, false, 0, 0⟩ := rfl
  have e2 : rng [97, 98, 115] P V n m X = true := rfl
  have e3 : rng2 [97, 98, 115] n m X = true := rfl
  rw [e1, e2]; simp only [ownO, askO, Kok, e3]; exact clA 1 1 0 kn P nm nl V true n m X
 by_cases h4 : l = [102, 108, 111, 111, 114]
 ·subst h4
  have e1 : shp [102, 108, 111, 111, 114] = some ⟨1, 1, 0, 0, false, false, false, 0, 0⟩ := rfl
  have e2 : rng [102, 108, 111, 111, 114] P V n m X = true := rfl
  have e3 : rng2 [102, 108, 111, 111, 114] n m X = true := rfl
  rw [e1, e2]; simp only [ownO, askO, Kok, e3]; exact clA 1 1 0 kn P nm nl V true n m X
 by_cases h5 : l = [114, 111, 117, 110, 100]
 ·subst h5
  have e1 : shp [114, 111, 117, 110, 100] = some ⟨1, 1, 0, 0, false, false, false, 0, 0⟩ := rfl
  have e2 : rng [114, 111, 117, 110, 100] P V n m X = true := rfl
  have e3 : rng2 [114, 111, 117, 110, 100] n m X = true := rfl
  rw [e1, e2]; simp only [ownO, askO, Kok, e3]; exact clA 1 1 0 kn P nm nl V true n m X
 by_cases h6 : l = [102, 114, 97, 99]
 ·subst h6
  have e1 : shp [102, 114, 97, 99] = some ⟨1, 1, 0, 0, false, false, false, 0, 0⟩ := rfl
  have e2 : rng [102, 114, 97, 99] P V n m X = true := rfl
  have e3 : rng2 [102, 114, 97, 99] n m X = true := rfl
  rw [e1, e2]; simp only [ownO, askO, Kok, e3]; exact clA 1 1 0 kn P nm nl V true n m X
 by_cases h7 : l = [110, 111, 116]
 ·subst h7
  have e1 : shp [110, 111, 116] = some ⟨1, 1, 0, 0, false, false, false, 0, 0⟩ := rfl
  have e2 : rng [110, 111, 116] P V n m X = true := rfl
  have e3 : rng2 [110, 111, 116] n m X = true := rfl
  rw [e1, e2]; simp only [ownO, askO, Kok, e3]; exact clA 1 1 0 kn P nm nl V true n m X
 by_cases h8 : l = [97, 100, 100]
 ·subst h8
  have e1 : shp [97, 100, 100] = some ⟨2, 1, 0, 0, false, false, false, 0, 0⟩ := rfl
  have e2 : rng [97, 100, 100] P V n m X = true := rfl
  have e3 : rng2 [97, 100, 100] n m X = true := rfl
  rw [e1, e2]; simp only [ownO, askO, Kok, e3]; exact clA 2 1 0 kn P nm nl V true n m X
 by_cases h9 : l = [115, 117, 98]
 ·subst h9
  have e1 : shp [115, 117, 98] = some ⟨2, 1, 0, 0, false, false, false, 0, 0⟩ := rfl
  have e2 : rng [115, 117, 98] P V n m X = true := rfl
  have e3 : rng2 [115, 117, 98] n m X = true := rfl
  rw [e1, e2]; simp only [ownO, askO, Kok, e3]; exact clA 2 1 0 kn P nm nl V true n m X
 by_cases h10 : l = [109, 117, 108]
 ·subst h10
  have e1 : shp [109, 117, 108] = some ⟨2, 1, 0, 0, false, false, false, 0, 0⟩ := rfl
  have e2 : rng [109, 117, 108] P V n m X = true := rfl
  have e3 : rng2 [109, 117, 108] n m X = true := rfl
  rw [e1, e2]; simp only [ownO, askO, Kok, e3]; exact clA 2 1 0 kn P nm nl V true n m X
 by_cases h11 : l = [100, 105, 118]
 ·subst h11
  have e1 : shp [100, 105, 118] = some ⟨2, 1, 0, 0, false, false, false, 0, 0⟩ := rfl
  have e2 : rng [100, 105, 118] P V n m X = true := rfl
  have e3 : rng2 [100, 105, 118] n m X = true := rfl
  rw [e1, e2]; simp only [ownO, askO, Kok, e3]; exact clA 2 1 0 kn P nm nl V true n m X
 by_cases h12 : l = [109, 111, 100]
 ·subst h12
  have e1 : shp [109, 111, 100] = some ⟨2, 1, 0, 0, false, false, false, 0, 0⟩ := rfl
  have e2 : rng [109, 111, 100] P V n m X = true := rfl
  have e3 : rng2 [109, 111, 100] n m X = true := rfl
  rw [e1, e2]; simp only [ownO, askO, Kok, e3]; exact clA 2 1 0 kn P nm nl V true n m X
 by_cases h13 : l = [109, 105, 110]
 ·subst h13
  have e1 : shp [109, 105, 110] = some ⟨2, 1, 0, 0, false, false, false, 0, 0⟩ := rfl
  have e2 : rng [109, 105, 110] P V n m X = true := rfl
  have e3 : rng2 [109, 105, 110] n m X = true := rfl
  rw [e1, e2]; simp only [ownO, askO, Kok, e3]; exact clA 2 1 0 kn P nm nl V true n m X
 by_cases h14 : l = [109, 97, 120]
 ·subst h14
  have e1 : shp [109, 97, 120] = some ⟨2, 1, 0, 0, false, false, false, 0, 0⟩ := rfl
  have e2 : rng [109, 97, 120] P V n m X = true := rfl
  have e3 : rng2 [109, 97, 120] n m X = true := rfl
  rw [e1, e2]; simp only [ownO, askO, Kok, e3]; exact clA 2 1 0 kn P nm nl V true n m X
 by_cases h15 : l = [108, 116]
 ·subst h15
  have e1 : shp [108, 116] = some ⟨2, 1, 0, 0, false, false, false, 0, 0⟩ := rfl
  have e2 : rng [108, 116] P V n m X = true := rfl
  have e3 : rng2 [108, 116] n m X = true := rfl
  rw [e1, e2]; simp only [ownO, askO, Kok, e3]; exact clA 2 1 0 kn P nm nl V true n m X
 by_cases h16 : l = [108, 101]
 ·subst h16
  have e1 : shp [108, 101] = some ⟨2, 1, 0, 0, false, false, false, 0, 0⟩ := rfl
  have e2 : rng [108, 101] P V n m X = true := rfl
  have e3 : rng2 [108, 101] n m X = true := rfl
  rw [e1, e2]; simp only [ownO, askO, Kok, e3]; exact clA 2 1 0 kn P nm nl V true n m X
 by_cases h17 : l = [101, 113]
 ·subst h17
  have e1 : shp [101, 113] = some ⟨2, 1, 0, 0, false, false, false, 0, 0⟩ := rfl
  have e2 : rng [101, 113] P V n m X = true := rfl
  have e3 : rng2 [101, 113] n m X = true := rfl
  rw [e1, e2]; simp only [ownO, askO, Kok, e3]; exact clA 2 1 0 kn P nm nl V true n m X
 by_cases h18 : l = [110, 101]
 ·subst h18
  have e1 : shp [110, 101] = some ⟨2, 1, 0, 0, false, false, false, 0, 0⟩ := rfl
  have e2 : rng [110, 101] P V n m X = true := rfl
  have e3 : rng2 [110, 101] n m X = true := rfl
  rw [e1, e2]; simp only [ownO, askO, Kok, e3]; exact clA 2 1 0 kn P nm nl V true n m X
 by_cases h19 : l = [97, 110, 100]
 ·subst h19
  have e1 : shp [97, 110, 100] = some ⟨2, 1, 0, 0, false, false, false, 0, 0⟩ := rfl
  have e2 : rng [97, 110, 100] P V n m X = true := rfl
  have e3 : rng2 [97, 110, 100] n m X = true := rfl
  rw [e1, e2]; simp only [ownO, askO, Kok, e3]; exact clA 2 1 0 kn P nm nl V true n m X
 by_cases h20 : l = [111, 114]
 ·subst h20
  have e1 : shp [111, 114] = some ⟨2, 1, 0, 0, false, false, false, 0, 0⟩ := rfl
  have e2 : rng [111, 114] P V n m X = true := rfl
  have e3 : rng2 [111, 114] n m X = true := rfl
  rw [e1, e2]; simp only [ownO, askO, Kok, e3]; exact clA 2 1 0 kn P nm nl V true n m X
 by_cases h21 : l = [120, 111, 114]
 ·subst h21
  have e1 : shp [120, 111, 114] = some ⟨2, 1, 0, 0, false, false, false, 0, 0⟩ := rfl
  have e2 : rng [120, 111, 114] P V n m X = true := rfl
  have e3 : rng2 [120, 111, 114] n m X = true := rfl
  rw [e1, e2]; simp only [ownO, askO, Kok, e3]; exact clA 2 1 0 kn P nm nl V true n m X
 by_cases h22 : l = [115, 104, 108]
 ·subst h22
  have e1 : shp [115, 104, 108] = some ⟨2, 1, 0, 0, false, false, false, 0, 0⟩ := rfl
  have e2 : rng [115, 104, 108] P V n m X = true := rfl
  have e3 : rng2 [115, 104, 108] n m X = true := rfl
  rw [e1, e2]; simp only [ownO, askO, Kok, e3]; exact clA 2 1 0 kn P nm nl V true n m X
 by_cases h23 : l = [115, 104, 114]
 ·subst h23
  have e1 : shp [115, 104, 114] = some ⟨2, 1, 0, 0, false, false, false, 0, 0⟩ := rfl
  have e2 : rng [115, 104, 114] P V n m X = true := rfl
  have e3 : rng2 [115, 104, 114] n m X = true := rfl
  rw [e1, e2]; simp only [ownO, askO, Kok, e3]; exact clA 2 1 0 kn P nm nl V true n m X
 by_cases h24 : l = [112, 105, 99, 107]
 ·subst h24
  have e1 : shp [112, 105, 99, 107] = some ⟨3, 1, 0, 0, false, false, false, 0, 0⟩ := rfl
  have e2 : rng [112, 105, 99, 107] P V n m X = true := rfl
  have e3 : rng2 [112, 105, 99, 107] n m X = true := rfl
  rw [e1, e2]; simp only [ownO, askO, Kok, e3]; exact clA 3 1 0 kn P nm nl V true n m X
 by_cases h25 : l = [102, 105, 116]
 ·subst h25
  have e1 : shp [102, 105, 116] = some ⟨1, 1, 0, 0, true, false, false, 0, 0⟩ := rfl
  have e2 : rng [102, 105, 116] P V n m X = V := rfl
  have e3 : rng2 [102, 105, 116] n m X = true := rfl
  rw [e1, e2]; simp only [ownO, askO, Kok, e3]; exact clF 1 1 0 kn P nm nl V true n m X
 by_cases h26 : l = [100, 101, 108, 97, 121]
 ·subst h26
  have e1 : shp [100, 101, 108, 97, 121] = some ⟨1, 1, 0, 1, false, false, false, 0, 0⟩ := rfl
  have e2 : rng [100, 101, 108, 97, 121] P V n m X = (decide (0 ≤ n) && decide (n ≤ 4096)) := rfl
  have e3 : rng2 [100, 101, 108, 97, 121] n m X = (decide (0 ≤ n) && decide (n ≤ 4096)) := rfl
  rw [e1, e2]; simp only [ownO, askO, Kok, e3]; exact clD 1 1 0 kn P nm nl V (decide (0 ≤ n) && decide (n ≤ 4096)) n m X
 by_cases h27 : l = [118, 97, 114, 121]
 ·subst h27
  have e1 : shp [118, 97, 114, 121] = some ⟨2, 1, 0, 2, false, false, false, 0, 0⟩ := rfl
  have e2 : rng [118, 97, 114, 121] P V n m X = (decide (0 ≤ n) && (decide (n ≤ m) && decide (m ≤ 4096))) := rfl
  have e3 : rng2 [118, 97, 114, 121] n m X = (decide (0 ≤ n) && (decide (n ≤ m) && decide (m ≤ 4096))) := rfl
  rw [e1, e2]; simp only [ownO, askO, Kok, e3]; exact clV 2 1 0 kn P nm nl V (decide (0 ≤ n) && (decide (n ≤ m) && decide (m ≤ 4096))) n m X
 by_cases h28 : l = [110, 117, 109]
 ·subst h28
  have e1 : shp [110, 117, 109] = some ⟨0, 1, 0, 0, false, false, true, 1, 1⟩ := rfl
  have e2 : rng [110, 117, 109] P V n m X = (decide (X.length = 1) && X.all vq) := rfl
  have e3 : rng2 [110, 117, 109] n m X = true := rfl
  rw [e1, e2]; simp only [ownO, askO, Kok, e3]; exact clN 0 1 0 kn P nm nl V true n m X
 by_cases h29 : l = [119, 97, 118, 101]
 ·subst h29
  have e1 : shp [119, 97, 118, 101] = some ⟨0, 1, 0, 0, false, false, true, 1, 256⟩ := rfl
  have e2 : rng [119, 97, 118, 101] P V n m X = (decide (1 ≤ X.length ∧ X.length ≤ 256) && X.all vq) := rfl
  have e3 : rng2 [119, 97, 118, 101] n m X = true := rfl
  rw [e1, e2]; simp only [ownO, askO, Kok, e3]; exact clT 0 1 0 kn P nm nl V true n m X
 by_cases h30 : l = [116, 97, 98, 108, 101]
 ·subst h30
  have e1 : shp [116, 97, 98, 108, 101] = some ⟨1, 1, 0, 0, false, false, true, 1, 256⟩ := rfl
  have e2 : rng [116, 97, 98, 108, 101] P V n m X = (decide (1 ≤ X.length ∧ X.length ≤ 256) && X.all vq) := rfl
  have e3 : rng2 [116, 97, 98, 108, 101] n m X = true := rfl
  rw [e1, e2]; simp only [ownO, askO, Kok, e3]; exact clT 1 1 0 kn P nm nl V true n m X
 by_cases h31 : l = [115, 116, 111, 114, 101]
 ·subst h31
  have e1 : shp [115, 116, 111, 114, 101] = some ⟨3, 1, 0, 0, false, false, true, 1, 256⟩ := rfl
  have e2 : rng [115, 116, 111, 114, 101] P V n m X = (decide (1 ≤ X.length ∧ X.length ≤ 256) && X.all vq) := rfl
  have e3 : rng2 [115, 116, 111, 114, 101] n m X = true := rfl
  rw [e1, e2]; simp only [ownO, askO, Kok, e3]; exact clT 3 1 0 kn P nm nl V true n m X
 by_cases h32 : l = [107, 110, 111, 98]
 ·subst h32
  have e1 : shp [107, 110, 111, 98] = some ⟨0, 1, 0, 0, false, true, true, 4, 4⟩ := rfl
  have e2 : rng [107, 110, 111, 98] P V n m X = (P && ctl X) := rfl
  have e3 : rng2 [107, 110, 111, 98] n m X = (ctl X) := rfl
  rw [e1, e2]; simp only [ownO, askO, Kok, e3]; exact clK 0 1 0 kn P nm nl V true n m X
 by_cases h33 : l = [115, 104, 111, 119]
 ·subst h33
  have e1 : shp [115, 104, 111, 119] = some ⟨1, 1, 0, 0, false, true, false, 0, 0⟩ := rfl
  have e2 : rng [115, 104, 111, 119] P V n m X = P := rfl
  have e3 : rng2 [115, 104, 111, 119] n m X = true := rfl
  rw [e1, e2]; simp only [ownO, askO, Kok, e3]; exact clS 1 1 0 kn P nm nl V true n m X
 by_cases h34 : l = [112, 97, 114]
 ·subst h34
  have e1 : shp [112, 97, 114] = some ⟨0, 0, 2, 0, false, false, false, 0, 0⟩ := rfl
  have e2 : rng [112, 97, 114] P V n m X = true := rfl
  have e3 : rng2 [112, 97, 114] n m X = true := rfl
  rw [e1, e2]; simp only [ownO, askO, Kok, e3]; exact clA 0 0 2 kn P nm nl V true n m X
 by_cases h35 : l = [115, 101, 113]
 ·subst h35
  have e1 : shp [115, 101, 113] = some ⟨0, 0, 2, 0, false, false, false, 0, 0⟩ := rfl
  have e2 : rng [115, 101, 113] P V n m X = true := rfl
  have e3 : rng2 [115, 101, 113] n m X = true := rfl
  rw [e1, e2]; simp only [ownO, askO, Kok, e3]; exact clA 0 0 2 kn P nm nl V true n m X
 by_cases h36 : l = [115, 112, 108, 105, 116]
 ·subst h36
  have e1 : shp [115, 112, 108, 105, 116] = some ⟨0, 0, 2, 0, false, false, false, 0, 0⟩ := rfl
  have e2 : rng [115, 112, 108, 105, 116] P V n m X = true := rfl
  have e3 : rng2 [115, 112, 108, 105, 116] n m X = true := rfl
  rw [e1, e2]; simp only [ownO, askO, Kok, e3]; exact clA 0 0 2 kn P nm nl V true n m X
 by_cases h37 : l = [109, 101, 114, 103, 101]
 ·subst h37
  have e1 : shp [109, 101, 114, 103, 101] = some ⟨0, 0, 2, 0, false, false, false, 0, 0⟩ := rfl
  have e2 : rng [109, 101, 114, 103, 101] P V n m X = true := rfl
  have e3 : rng2 [109, 101, 114, 103, 101] n m X = true := rfl
  rw [e1, e2]; simp only [ownO, askO, Kok, e3]; exact clA 0 0 2 kn P nm nl V true n m X
 by_cases h38 : l = [114, 101, 99]
 ·subst h38
  have e1 : shp [114, 101, 99] = some ⟨0, 0, 2, 0, false, false, false, 0, 0⟩ := rfl
  have e2 : rng [114, 101, 99] P V n m X = true := rfl
  have e3 : rng2 [114, 101, 99] n m X = true := rfl
  rw [e1, e2]; simp only [ownO, askO, Kok, e3]; exact clA 0 0 2 kn P nm nl V true n m X
 by_cases h39 : l = [117, 112]
 ·subst h39
  have e1 : shp [117, 112] = some ⟨0, 0, 1, 1, false, false, false, 0, 0⟩ := rfl
  have e2 : rng [117, 112] P V n m X = (decide (1 ≤ n) && decide (n ≤ 8)) := rfl
  have e3 : rng2 [117, 112] n m X = (decide (1 ≤ n) && decide (n ≤ 8)) := rfl
  rw [e1, e2]; simp only [ownO, askO, Kok, e3]; exact clD 0 0 1 kn P nm nl V (decide (1 ≤ n) && decide (n ≤ 8)) n m X
 by_cases h40 : l = [100, 111, 119, 110]
 ·subst h40
  have e1 : shp [100, 111, 119, 110] = some ⟨0, 0, 1, 1, false, false, false, 0, 0⟩ := rfl
  have e2 : rng [100, 111, 119, 110] P V n m X = (decide (1 ≤ n) && decide (n ≤ 8)) := rfl
  have e3 : rng2 [100, 111, 119, 110] n m X = (decide (1 ≤ n) && decide (n ≤ 8)) := rfl
  rw [e1, e2]; simp only [ownO, askO, Kok, e3]; exact clD 0 0 1 kn P nm nl V (decide (1 ≤ n) && decide (n ≤ 8)) n m X
 by_cases h41 : l = [103, 97, 116, 101]
 ·subst h41
  have e1 : shp [103, 97, 116, 101] = some ⟨0, 0, 1, 0, false, false, false, 0, 0⟩ := rfl
  have e2 : rng [103, 97, 116, 101] P V n m X = true := rfl
  have e3 : rng2 [103, 97, 116, 101] n m X = true := rfl
  rw [e1, e2]; simp only [ownO, askO, Kok, e3]; exact clA 0 0 1 kn P nm nl V true n m X
 by_cases h42 : l = [114, 101, 115, 101, 116]
 ·subst h42
  have e1 : shp [114, 101, 115, 101, 116] = some ⟨0, 0, 1, 0, false, false, false, 0, 0⟩ := rfl
  have e2 : rng [114, 101, 115, 101, 116] P V n m X = true := rfl
  have e3 : rng2 [114, 101, 115, 101, 116] n m X = true := rfl
  rw [e1, e2]; simp only [ownO, askO, Kok, e3]; exact clA 0 0 1 kn P nm nl V true n m X
 have e0 : (l == [99, 117, 116]) = false := by simpa using h0
 have e1 : (l == [119, 105, 114, 101]) = false := by simpa using h1
 have e2 : (l == [110, 101, 103]) = false := by simpa using h2
 have e3 : (l == [97, 98, 115]) = false := by simpa using h3
 have e4 : (l == [102, 108, 111, 111, 114]) = false := by simpa using h4
 have e5 : (l == [114, 111, 117, 110, 100]) = false := by simpa using h5
 have e6 : (l == [102, 114, 97, 99]) = false := by simpa using h6
 have e7 : (l == [110, 111, 116]) = false := by simpa using h7
 have e8 : (l == [97, 100, 100]) = false := by simpa using h8
 have e9 : (l == [115, 117, 98]) = false := by simpa using h9
 have e10 : (l == [109, 117, 108]) = false := by simpa using h10
 have e11 : (l == [100, 105, 118]) = false := by simpa using h11
 have e12 : (l == [109, 111, 100]) = false := by simpa using h12
 have e13 : (l == [109, 105, 110]) = false := by simpa using h13
 have e14 : (l == [109, 97, 120]) = false := by simpa using h14
 have e15 : (l == [108, 116]) = false := by simpa using h15
 have e16 : (l == [108, 101]) = false := by simpa using h16
 have e17 : (l == [101, 113]) = false := by simpa using h17
 have e18 : (l == [110, 101]) = false := by simpa using h18
 have e19 : (l == [97, 110, 100]) = false := by simpa using h19
 have e20 : (l == [111, 114]) = false := by simpa using h20
 have e21 : (l == [120, 111, 114]) = false := by simpa using h21
 have e22 : (l == [115, 104, 108]) = false := by simpa using h22
 have e23 : (l == [115, 104, 114]) = false := by simpa using h23
 have e24 : (l == [112, 105, 99, 107]) = false := by simpa using h24
 have e25 : (l == [102, 105, 116]) = false := by simpa using h25
 have e26 : (l == [100, 101, 108, 97, 121]) = false := by simpa using h26
 have e27 : (l == [118, 97, 114, 121]) = false := by simpa using h27
 have e28 : (l == [110, 117, 109]) = false := by simpa using h28
 have e29 : (l == [119, 97, 118, 101]) = false := by simpa using h29
 have e30 : (l == [116, 97, 98, 108, 101]) = false := by simpa using h30
 have e31 : (l == [115, 116, 111, 114, 101]) = false := by simpa using h31
 have e32 : (l == [107, 110, 111, 98]) = false := by simpa using h32
 have e33 : (l == [115, 104, 111, 119]) = false := by simpa using h33
 have e34 : (l == [112, 97, 114]) = false := by simpa using h34
 have e35 : (l == [115, 101, 113]) = false := by simpa using h35
 have e36 : (l == [115, 112, 108, 105, 116]) = false := by simpa using h36
 have e37 : (l == [109, 101, 114, 103, 101]) = false := by simpa using h37
 have e38 : (l == [114, 101, 99]) = false := by simpa using h38
 have e39 : (l == [117, 112]) = false := by simpa using h39
 have e40 : (l == [100, 111, 119, 110]) = false := by simpa using h40
 have e41 : (l == [103, 97, 116, 101]) = false := by simpa using h41
 have e42 : (l == [114, 101, 115, 101, 116]) = false := by simpa using h42
 have : shp l = none := by simp only [shp, e0, e1, e2, e3, e4, e5, e6, e7, e8, e9, e10, e11, e12, e13, e14, e15, e16, e17, e18, e19, e20, e21, e22, e23, e24, e25, e26, e27, e28, e29, e30, e31, e32, e33, e34, e35, e36, e37, e38, e39, e40, e41, e42, cond_false]
 rw [this]; rfl
end Go.Proofs.YtgohccjmphapfaaGreatDoor
end

noncomputable section
namespace Go.Proofs.YtgohccjmphapfaaGreatDoor
open Go Go.Pv Go.RowKit
mutual
def BT.dep : BT → Int
 | .mk _ _ _ _ _ _ _ _ _ _ kids => IntKind.wrap .i64 (BT.depL 0 kids + 1)
def BT.depL : Int → List BT → Int
 | acc, [] => acc
 | acc, b :: bs => BT.depL (if b.dep > acc then b.dep else acc) bs
end
mutual
def BT.nok : BT → Prop
 | .mk _ name _ _ _ _ _ _ _ _ kids => name.size ≤ reachBytes ∧ BT.nokL kids
def BT.nokL : List BT → Prop
 | [] => True
 | b :: bs => b.nok ∧ BT.nokL bs
end
theorem BT.nokL_mem : ∀ {bs : List BT}, BT.nokL bs → ∀ b ∈ bs, b.nok
 | b :: bs, h, x, hx => by
  rcases List.mem_cons.1 hx with rfl | hx
  ·exact h.1
  ·exact BT.nokL_mem h.2 x hx
mutual
def BT.vld : BT → Bool
 | .mk op name n m nums fk fi ff fr fo kids => askO (shp op.toList) op.toList kids.length (K4h name) (emp name) (nul fk fi ff fr fo) (Z.vld fk fr fo fi ff) n m nums && BT.vldL kids
def BT.vldL : List BT → Bool
 | [] => true
 | b :: bs => b.vld && BT.vldL bs
end
theorem BT.vldL_eq : ∀ bs : List BT, BT.vldL bs = bs.all BT.vld
 | [] => rfl
 | b :: bs => by rw [BT.vldL, BT.vldL_eq bs, List.all_cons]
theorem Wfl (f0 : W17) (kids : List BT) (hl : kids.length < 9223372036854775807) (hf : ∀ x ∈ kids, ∀ k : KI, x.call f0 k = k x.size) (κ : KI) :
  ∀ (rest done : List BT) (acc : Int), kids = done ++ rest → LF (Kpp f0) (rest.length + 1) (.h0 acc (BT.cellsL kids) (kids.length : Nat) done.length) κ = κ (BT.sizeL acc rest)
 | [], done, acc, he => by
  simp only [LF, Kpp, BT.cellsL_eq, List.length_map, BT.sizeL]
  have : decide ((done.length : Int) < (kids.length : Int)) = false := by simp [he]
  rw [this, bx_f]
 | x :: rest, done, acc, he => by
  have ih := Wfl f0 kids hl hf κ rest (done ++ [x]) (IntKind.wrap .i64 (acc + x.size)) (by simp [he])
  have hlen : kids.length = done.length + rest.length + 1 := by simp [he]; omega
  rw [show (x :: rest).length + 1 = (rest.length + 1) + 1 from rfl]
  rw [LF]
  simp only [Kpp, BT.cellsL_eq, List.length_map]
  have h1 : decide ((done.length : Int) < (kids.length : Int)) = true := by simp; omega
  have h2 : decide (0 ≤ (done.length : Int)) = true := by simp
  have h3 : (kids.map BT.cells)[Int.toNat (done.length : Int)]? = some x.cells := by simp [he]
  rw [h1, bx_t, h2, bx_t, h3]
  simp only [optE]
  rw [Kmb]
  have hc : ∀ K : KI, x.call (fun v2 v3 v4 v5 v6 v7 v8 v9 v10 v11 v12 => f0 v2 v3 v4 v5 v6 v7 v8 v9 v10 v11 v12 K) = x.call f0 K := fun K => by cases x; rfl
  rw [hc, hf x (by simp [he])]
  rw [Kcp (by omega) (by omega)]
  rw [show (done.length : Int) + 1 = ((done ++ [x]).length : Nat) by simp]
  rw [← BT.cellsL_eq, ih, BT.sizeL]
theorem Wc5 (f0 : W17) (kids : List BT) (hl : kids.length < 9223372036854775807) (hf : ∀ x ∈ kids, ∀ k : KI, x.call f0 k = k x.dep) (κ : KI) :
  ∀ (rest done : List BT) (acc : Int), kids = done ++ rest → LF (Knw f0) (rest.length + 1) (.h0 acc (BT.cellsL kids) (kids.length : Nat) done.length) κ = κ (BT.depL acc rest)
 | [], done, acc, he => by
  simp only [LF, Knw, BT.cellsL_eq, List.length_map, BT.depL]
  have : decide ((done.length : Int) < (kids.length : Int)) = false := by simp [he]
  rw [this, bx_f]
 | x :: rest, done, acc, he => by
  have ih := Wc5 f0 kids hl hf κ rest (done ++ [x]) (if x.dep > acc then x.dep else acc) (by simp [he])
  have hlen : kids.length = done.length + rest.length + 1 := by simp [he]; omega
  rw [show (x :: rest).length + 1 = (rest.length + 1) + 1 from rfl]
  rw [LF]
  simp only [Knw, BT.cellsL_eq, List.length_map]
  have h1 : decide ((done.length : Int) < (kids.length : Int)) = true := by simp; omega
  have h2 : decide (0 ≤ (done.length : Int)) = true := by simp
  have h3 : (kids.map BT.cells)[Int.toNat (done.length : Int)]? = some x.cells := by simp [he]
  rw [h1, bx_t, h2, bx_t, h3]
  simp only [optE]
  rw [Kmb]
  have hc : ∀ K : KI, x.call (fun v2 v3 v4 v5 v6 v7 v8 v9 v10 v11 v12 => f0 v2 v3 v4 v5 v6 v7 v8 v9 v10 v11 v12 K) = x.call f0 K := fun K => by cases x; rfl
  rw [hc, hf x (by simp [he])]
  rw [Kcp (by omega) (by omega)]
  rw [show (done.length : Int) + 1 = ((done ++ [x]).length : Nat) by simp]
  rw [← BT.cellsL_eq, ih, BT.depL]
theorem Kzd (f0 : W17) (a b : W4w) (c d : Int) (e : W4x) (f : W4w) (g h : Int) (i j : W4w) (kids : List BT) (hl : kids.length < 9223372036854775807) (hf : ∀ x ∈ kids, ∀ k : KI, x.call f0 k = k x.dep) (κ : KI) :
  ∀ (rest done : List BT) (acc : Int), kids = done ++ rest → LF (Kgo f0) (rest.length + 1) (.h0 acc done.length a b c d e f g h i j (BT.cellsL kids)) κ = κ (BT.depL acc rest)
 | [], done, acc, he => by
  simp only [LF, Kgo, BT.cellsL_eq, List.length_map, BT.depL]
  have : decide ((done.length : Int) < (kids.length : Int)) = false := by simp [he]
  rw [this, bx_f]
 | x :: rest, done, acc, he => by
  have ih := Kzd f0 a b c d e f g h i j kids hl hf κ rest (done ++ [x]) (if x.dep > acc then x.dep else acc) (by simp [he])
  have hlen : kids.length = done.length + rest.length + 1 := by simp [he]; omega
  rw [show (x :: rest).length + 1 = (rest.length + 1) + 1 from rfl]
  rw [LF]
  simp only [Kgo, BT.cellsL_eq, List.length_map]
  have h1 : decide ((done.length : Int) < (kids.length : Int)) = true := by simp; omega
  have h2 : decide (0 ≤ (done.length : Int)) = true := by simp
  have h3 : (kids.map BT.cells)[Int.toNat (done.length : Int)]? = some x.cells := by simp [he]
  rw [h1, bx_t, h2, bx_t, h3]
  simp only [optE]
  rw [Kmb]
  have hc : ∀ K : KI, x.call (fun v2 v3 v4 v5 v6 v7 v8 v9 v10 v11 v12 => f0 v2 v3 v4 v5 v6 v7 v8 v9 v10 v11 v12 K) = x.call f0 K := fun K => by cases x; rfl
  rw [hc, hf x (by simp [he])]
  rw [Kcp (by omega) (by omega)]
  rw [show (done.length : Int) + 1 = ((done ++ [x]).length : Nat) by simp]
  rw [← BT.cellsL_eq, ih, BT.depL]
theorem K9u (N : Nat) : ∀ (n : Nat) (b : BT), b.ok → b.depth ≤ n → ∀ k : KI, b.call (Kqh N n) k = k b.size
 | 0, b, _, hd, k => by cases b; simp [BT.depth] at hd
 | n + 1, .mk op name nn m nums fk fi ff fr fo kids, hb, hd, k => by
  simp only [BT.depth] at hd
  have hok := hb.2.2.2.2.2.2.2
  have hl : kids.length * 160 ≤ reachBytes := hb.2.2.2.2.2.2.1
  have hr : reachBytes < 9223372036854775807 := by decide
  have := Wfl (Kqh N n) kids (by omega) (fun x hx k => K9u N n x (BT.okL_mem hok x hx) (by have := BT.depthL_mem x hx; omega) k) (fun z => k z) kids [] 1 rfl
  simp only [BT.call, BT.size]
  refine Eq.trans ?_ this
  show LF _ _ _ _ = LF _ _ _ _
  congr 1
  ·simp [Kwr, BT.cellsL_eq]
  ·simp [BT.cellsL_eq]
theorem K7s (N : Nat) : ∀ (n : Nat) (b : BT), b.ok → b.depth ≤ n → ∀ k : KI, b.call (Kn2 N n) k = k b.dep
 | 0, b, _, hd, k => by cases b; simp [BT.depth] at hd
 | n + 1, .mk op name nn m nums fk fi ff fr fo kids, hb, hd, k => by
  simp only [BT.depth] at hd
  have hok := hb.2.2.2.2.2.2.2
  have hl : kids.length * 160 ≤ reachBytes := hb.2.2.2.2.2.2.1
  have hr : reachBytes < 9223372036854775807 := by decide
  have := Wc5 (Kn2 N n) kids (by omega) (fun x hx k => K7s N n x (BT.okL_mem hok x hx) (by have := BT.depthL_mem x hx; omega) k) (fun z => k (IntKind.wrap .i64 (1 + z))) kids [] 0 rfl
  simp only [BT.call, BT.dep]
  rw [Int.add_comm]
  refine Eq.trans ?_ this
  show LF _ _ _ _ = LF _ _ _ _
  congr 1
  ·simp [Kuo, BT.cellsL_eq]
  ·simp [BT.cellsL_eq]
theorem Krx (N : Nat) : ∀ (n : Nat) (b : BT), b.ok → b.depth ≤ n → ∀ k : KI, b.call (Kfb N n) k = k b.dep
 | 0, b, _, hd, k => by cases b; simp [BT.depth] at hd
 | n + 1, .mk op name nn m nums fk fi ff fr fo kids, hb, hd, k => by
  simp only [BT.depth] at hd
  have hok := hb.2.2.2.2.2.2.2
  have hl : kids.length * 160 ≤ reachBytes := hb.2.2.2.2.2.2.1
  have hr : reachBytes < 9223372036854775807 := by decide
  have := Kzd (Kfb N n) op name nn m (nums.map qpc) fk fi ff fr fo kids (by omega) (fun x hx k => Krx N n x (BT.okL_mem hok x hx) (by have := BT.depthL_mem x hx; omega) k) (fun z => k (IntKind.wrap .i64 (z + 1))) kids [] 0 rfl
  simp only [BT.call, BT.dep]
  refine Eq.trans ?_ this
  show LF _ _ _ _ = LF _ _ _ _
  congr 1
  ·simp [Kj2, BT.cellsL_eq]
theorem Wg3 (f0 : W19) (kids : List BT) (hl : kids.length < 9223372036854775807) (hf : ∀ x ∈ kids, ∀ k : KB, x.call f0 k = k (!x.vld)) (κ : KI × Option DV) :
  ∀ (rest done : List BT), kids = done ++ rest → ∃ i : Nat, LF (Ka6 f0) (rest.length + 1) (.h0 (BT.cellsL kids) (kids.length : Nat) done.length) κ = bx (rest.any fun b => !b.vld) (κ.1 (i : Nat)) κ.2
 | [], done, he => by
  refine ⟨0, ?_⟩
  simp only [LF, Ka6]
  have : decide ((done.length : Int) < (kids.length : Int)) = false := by simp [he]
  rw [this, bx_f]; rfl
 | x :: rest, done, he => by
  obtain ⟨i, ih⟩ := Wg3 f0 kids hl hf κ rest (done ++ [x]) (by simp [he])
  have hlen : kids.length = done.length + rest.length + 1 := by simp [he]; omega
  have h1 : decide ((done.length : Int) < (kids.length : Int)) = true := by simp; omega
  have h2 : decide (0 ≤ (done.length : Int)) = true := by simp
  have h3 : (BT.cellsL kids)[Int.toNat (done.length : Int)]? = some x.cells := by simp [BT.cellsL_eq, he]
  have hc : ∀ K : KB, x.call (fun v2 v3 v4 v5 v6 v7 v8 v9 v10 v11 v12 => f0 v2 v3 v4 v5 v6 v7 v8 v9 v10 v11 v12 K) = x.call f0 K := fun K => by cases x; rfl
  have hL : LF (Ka6 f0) ((x :: rest).length + 1) (.h0 (BT.cellsL kids) (kids.length : Nat) done.length) κ = bx (!x.vld) (κ.1 (done.length : Nat)) (bx (rest.any fun b => !b.vld) (κ.1 (i : Nat)) κ.2) := by
   rw [show (x :: rest).length + 1 = (rest.length + 1) + 1 from rfl, LF]
   simp only [Ka6, h1, h2, h3, bx_t, optE]
   rw [Kmb, hc, hf x (by simp [he]), Kcp (by omega) (by omega), show (done.length : Int) + 1 = ((done ++ [x]).length : Nat) by simp, ih]
  cases hp : x.vld with
  | false => exact ⟨done.length, by rw [hL]; simp [List.any_cons, hp, bx_t]⟩
  | true => exact ⟨i, by rw [hL]; simp [List.any_cons, hp, bx_f]⟩
theorem Kxx (N : Nat) : ∀ (n : Nat) (b : BT), b.ok → 4 * b.depth ≤ n → ∀ k : KB, b.call (Kps N n) k = k b.vld
 | 0, b, _, hd, k => by cases b; simp [BT.depth] at hd
 | 1, b, _, hd, k => by cases b; simp [BT.depth] at hd; omega
 | 2, b, _, hd, k => by cases b; simp [BT.depth] at hd; omega
 | 3, b, _, hd, k => by cases b; simp [BT.depth] at hd; omega
 | n + 4, .mk op name nn m nums fk fi ff fr fo kids, hb, hd, k => by
  simp only [BT.depth] at hd
  have hok := hb.2.2.2.2.2.2.2
  have hl : kids.length * 160 ≤ reachBytes := hb.2.2.2.2.2.2.1
  have hln : nums.length * 16 ≤ reachBytes := hb.2.2.2.2.1
  have hr : reachBytes < 9223372036854775807 := by decide
  show Kyi (Kcl N (n + 3)) Kpr Klj op name nn m (nums.map qpc) fk fi ff fr fo (BT.cellsL kids) k = _
  unfold Kyi
  rw [Wwo, BT.cellsL_eq, List.length_map, List.length_map]
  have hrest : ∀ k : KB, Kcl N (n + 3) (kids.map BT.cells) k = k (!BT.vldL kids) := fun k => by
   have hi := Wg3 (Kus N (n + 1)) kids (by omega) (fun x hx k => by
    have hx' := Kxx N n x (BT.okL_mem hok x hx) (by have := BT.depthL_mem x hx; omega) (fun r => k (!r))
    refine Eq.trans ?_ hx'
    cases x; rfl) ((fun r => k (decide (r ≥ 0))), k (decide ((-1 : Int) ≥ 0))) kids [] rfl
   obtain ⟨i, hi⟩ := hi
   have hv : (kids.any fun b => !b.vld) = !BT.vldL kids := by
    rw [BT.vldL_eq, List.any_eq_not_all_not]; simp
   rw [hv] at hi
   refine Eq.trans ?_ (Eq.trans hi ?_)
   ·show LF _ _ _ _ = LF _ _ _ _
    rw [← BT.cellsL_eq]
    congr 1
    ·simp [Kcf, BT.cellsL_eq]
    ·simp [BT.cellsL_eq]
   ·cases BT.vldL kids with
    | false => exact congrArg k (decide_eq_true (show (i : Int) ≥ 0 by omega))
    | true => rfl
  have hfe := Wt0 op.toList kids.length (K4h name) (emp name) (nul fk fi ff fr fo) (Z.vld fk fr fo fi ff) nn m nums
  rw [BT.vld, ← hfe]
  cases ownO (shp op.toList) (kids.length : Nat) (emp name) (nul fk fi ff fr fo) nn m (nums.length : Nat) with
  | false => rfl
  | true =>
   rw [bx_t, Wr8 op name nn m nums (by omega)]
   cases rng op.toList (K4h name) (Z.vld fk fr fo fi ff) nn m nums with
   | false => rfl
   | true =>
    rw [bx_t, hrest]
    simp
theorem Wjr (f0 : W19) (f1 : W2u) (f2 : W2m) (a b : W4w) (c d : Int) (e : W4x) (f : W4w) (g h : Int) (i j : W4w) (kids : List BT) (hl : kids.length < 9223372036854775807) (hf : ∀ x ∈ kids, ∀ k : KB, x.call f0 k = k x.vld) (κ : KB × Option DV) :
  ∀ (rest done : List BT), kids = done ++ rest → LF (Kgq f0 f1 f2) (rest.length + 1) (.h0 done.length a b c d e f g h i j (BT.cellsL kids)) κ = bx (BT.vldL rest) κ.2 (κ.1 false)
 | [], done, he => by
  simp only [LF, Kgq, BT.cellsL_eq, List.length_map]
  have : decide ((done.length : Int) < (kids.length : Int)) = false := by simp [he]
  rw [this, bx_f]; rfl
 | x :: rest, done, he => by
  have ih := Wjr f0 f1 f2 a b c d e f g h i j kids hl hf κ rest (done ++ [x]) (by simp [he])
  have hlen : kids.length = done.length + rest.length + 1 := by simp [he]; omega
  have h1 : decide ((done.length : Int) < (kids.length : Int)) = true := by simp; omega
  have h2 : decide (0 ≤ (done.length : Int)) = true := by simp
  have h3 : (kids.map BT.cells)[Int.toNat (done.length : Int)]? = some x.cells := by simp [he]
  have hc : ∀ K : KB, x.call (fun v2 v3 v4 v5 v6 v7 v8 v9 v10 v11 v12 => f0 v2 v3 v4 v5 v6 v7 v8 v9 v10 v11 v12 K) = x.call f0 K := fun K => by cases x; rfl
  rw [show (x :: rest).length + 1 = (rest.length + 1) + 1 from rfl, LF]
  simp only [Kgq, BT.cellsL_eq, List.length_map, h1, h2, h3, bx_t, optE]
  rw [Kmb, hc, hf x (by simp [he]), Kcp (by omega) (by omega), show (done.length : Int) + 1 = ((done ++ [x]).length : Nat) by simp, ← BT.cellsL_eq, ih, BT.vldL]
  cases x.vld <;> rfl
theorem K5c (N : Nat) : ∀ (n : Nat) (b : BT), b.ok → b.nok → b.depth ≤ n → ∀ k : KB, b.call (Kem N n) k = k b.vld
 | 0, b, _, _, hd, k => by cases b; simp [BT.depth] at hd
 | n + 1, .mk op name nn m nums fk fi ff fr fo kids, hb, hnk, hd, k => by
  simp only [BT.depth] at hd
  have hok := hb.2.2.2.2.2.2.2
  have hl : kids.length * 160 ≤ reachBytes := hb.2.2.2.2.2.2.1
  have hln : nums.length * 16 ≤ reachBytes := hb.2.2.2.2.1
  have hr : reachBytes < 9223372036854775807 := by decide
  have hnm : name.size ≤ reachBytes := hnk.1
  show Kng (Kem N n) Kf6 Kbu op name nn m (nums.map qpc) fk fi ff fr fo (BT.cellsL kids) k = _
  unfold Kng
  rw [Wb1, BT.vld]
  cases shp op.toList with
  | none => rfl
  | some s =>
   simp only [opK, Bool.not_true, Bool.not_false, bx_t]
   have hkl : (BT.cellsL kids).length = kids.length := by simp [BT.cellsL_eq]
   simp only [hkl, askO, bne, Bool.not_not]
   cases hk : ((kids.length : Int) == s.kids) with
   | false => rfl
   | true =>
    rw [bx_t, Wr9 s op name (by omega) nn m nums (by omega)]
    cases ask s op.toList (K4h name) (emp name) (nul fk fi ff fr fo) (Z.vld fk fr fo fi ff) nn m nums with
    | false => rfl
    | true =>
     have := Wjr (Kem N n) Kf6 Kbu op name nn m (nums.map qpc) fk fi ff fr fo kids (by omega) (fun x hx k => K5c N n x (BT.okL_mem hok x hx) (BT.nokL_mem hnk.2 x hx) (by have := BT.depthL_mem x hx; omega) k) ((fun z => k z), k true) kids [] rfl
     refine Eq.trans ?_ (Eq.trans this ?_)
     ·show LF _ _ _ _ = LF _ _ _ _
      congr 1
      simp [Kj4, BT.cellsL_eq]
     ·cases BT.vldL kids <;> rfl
end Go.Proofs.YtgohccjmphapfaaGreatDoor
end
