import Derived.Test.YtgohccjmphapfaaGreatDoorJt
import Derived.Lib.ItoaLen
set_option linter.all false
noncomputable section
namespace Go.Proofs.YtgohccjmphapfaaGreatDoor
open Go Go.Pv Go.RowKit
set_option maxRecDepth 100000
def bt (l : List UInt8) : W4w := ⟨l.toArray⟩
theorem Kd7 (l : List UInt8) : (bt l).size = l.length := by simp [bt, ByteArray.size]
theorem Kxy (a b : List UInt8) : bt a ++ bt b = bt (a ++ b) := by apply ByteArray.ext; simp [bt]
theorem Wb4 (s : W4w) : bt s.data.toList = s := by simp [bt]
theorem Kuw (l : List UInt8) : (bt l).data.toList = l := by simp [bt]
theorem room {n : Nat} (h : n ≤ 4611686018427387904) (t : W4y) : bx (decide (((n : Nat) : Int) > IntKind.max .i64)) none t = t := by
 rw [decide_eq_false (by rw [show IntKind.max .i64 = 9223372036854775807 from rfl]; omega)]; rfl
theorem ilen {n : Int} (h : i64 n) : (Lib.itoa n).length ≤ 21 := Lib.itoa_length_le n h.1 h.2
theorem Ww3 {n : Int} (h : i64 n) (k : KT) : Ki7 n 10 k = k (bt (Lib.itoa n)) := by
 unfold Ki7
 rw [decide_eq_true (show (-9223372036854775808 ≤ n ∧ n ≤ 9223372036854775807) ∧ (10 : Int) = 10 from ⟨h, rfl⟩)]; rfl
theorem Wg9 {n : Int} (h : i64 n) (k : KT) : strconv_Itoa n k = k (bt (Lib.itoa n)) := by
 unfold strconv_Itoa
 rw [decide_eq_true (show (-9223372036854775808 ≤ n ∧ n ≤ 9223372036854775807) from h)]; rfl
def qtl (q : Int × Int) : List UInt8 := bif Q.isq q.1 q.2 then (bif q.2 == 1 then Lib.itoa q.1 else Lib.itoa q.1 ++ (47 :: Lib.itoa q.2)) else [110, 111, 110, 101]
theorem Wha {a b : Int} (h : Q.isq a b = true) : i64 a ∧ i64 b := by
 have := (Q.isq_iff a b).1 h; unfold i64; omega
theorem Weh (a b : Int) (k : KT) : Kny a b k = k (bt (qtl (a, b))) := by
 unfold Kny Waq qtl
 rw [Wb0]
 cases h : Q.isq a b with
 | false => rfl
 | true =>
  obtain ⟨ha, hb⟩ := Wha h
  simp only [Bool.not_true, bx_f, cond_true]
  rw [Ww3 ha]
  cases h1 : (b == 1) with
  | true => rfl
  | false =>
   simp only [bx_f, cond_false]
   have l1 := ilen ha
   have l2 := ilen hb
   rw [show (⟨#[47]⟩ : W4w) = bt [47] from rfl, Kd7, Kd7, room (by simp only [List.length_append, List.length_cons, List.length_nil]; omega), Ww3 hb]
   simp only [Kxy]
   rw [Kd7, Kd7, room (by simp only [List.length_append, List.length_cons, List.length_nil]; omega)]
   rw [List.append_assoc]; rfl
theorem Wuj (a b : Int) (k : KT) : Khu a b k = k (bt (qtl (a, b))) := by
 unfold Khu Kt5 qtl
 rw [Wl9]
 cases h : Q.isq a b with
 | false => rfl
 | true =>
  obtain ⟨ha, hb⟩ := Wha h
  simp only [Bool.not_true, bx_f, cond_true]
  rw [Ww3 ha]
  cases h1 : (b == 1) with
  | true => rw [show (b != 1) = false by simpa [bne] using h1]; rfl
  | false =>
   rw [show (b != 1) = true by simpa [bne] using h1]
   simp only [bx_t, cond_false]
   have l1 := ilen ha
   have l2 := ilen hb
   rw [show (⟨#[47]⟩ : W4w) = bt [47] from rfl, Kd7, Kd7, room (by simp only [List.length_append, List.length_cons, List.length_nil]; omega), Ww3 hb]
   simp only [Kxy]
   rw [Kd7, Kd7, room (by simp only [List.length_append, List.length_cons, List.length_nil]; omega)]
   rw [List.append_assoc]; rfl
theorem Wzp (q : Int × Int) : (qtl q).length ≤ 43 := by
 unfold qtl
 cases h : Q.isq q.1 q.2 with
 | false => simp
 | true =>
  obtain ⟨ha, hb⟩ := Wha h
  have l1 := ilen ha
  have l2 := ilen hb
  simp only [cond_true]
  cases (q.2 == 1) <;> simp only [cond_true, cond_false, List.length_append, List.length_cons] <;> omega
def ftl (k r o : W4w) (I F : Int) : List UInt8 := bif Z.vld k r o I F then k.data.toList ++ (40 :: (Lib.itoa I ++ (44 :: (Lib.itoa F ++ (44 :: (r.data.toList ++ (44 :: (o.data.toList ++ [41])))))))) else []
theorem tol (s : W4w) : s.toList = s.data.toList := by rw [ByteArray.toList_eq]
theorem Whb {k r o : ByteArray} {I F : Int} (h : Z.vld k r o I F = true) : i64 I ∧ i64 F ∧ k.size ≤ 5 ∧ r.size ≤ 5 ∧ o.size ≤ 4 := by
 unfold Z.vld Z.hsz Z.hrd Z.hov at h
 simp only [tol, Bool.and_eq_true, Bool.or_eq_true, beq_iff_eq] at h
 have e : ∀ (s : W4w), s.size = s.data.toList.length := Lib.size_eq
 obtain ⟨⟨h1, h2⟩, h3⟩ := h
 have hk : (i64 I ∧ i64 F) ∧ k.size ≤ 5 := by
  unfold i64
  split at h1
  ·rename_i hh
   have h5 : k.size = 3 := by rw [e, hh]; rfl
   have := of_decide_eq_true h1
   exact ⟨by omega, by omega⟩
  ·split at h1
   ·rename_i hh
    have h5 : k.size = 5 := by rw [e, hh]; rfl
    have := of_decide_eq_true h1
    exact ⟨by omega, by omega⟩
   ·cases h1
 refine ⟨hk.1.1, hk.1.2, hk.2, ?_, ?_⟩
 ·rcases h2 with (h2 | h2) | h2
  ·have h5 : r.size = 5 := by rw [e, h2]; rfl
   omega
  ·have h5 : r.size = 4 := by rw [e, h2]; rfl
   omega
  ·have h5 : r.size = 4 := by rw [e, h2]; rfl
   omega
 ·rcases h3 with (h3 | h3) | ⟨h3, _⟩
  ·have h5 : o.size = 3 := by rw [e, h3]; rfl
   omega
  ·have h5 : o.size = 4 := by rw [e, h3]; rfl
   omega
  ·have h5 : o.size = 4 := by rw [e, h3]; rfl
   omega
theorem Wyp (s : W4w) (l : List UInt8) : s ++ bt l = bt (s.data.toList ++ l) := by
 rw [← Kxy, Wb4]
theorem Wjv (k r o : W4w) (I F : Int) (κ : KT) : Knx k I F r o κ = κ (bt (ftl k r o I F)) := by
 unfold Knx Wao ftl
 rw [Wg0]
 cases h : Z.vld k r o I F with
 | false => rfl
 | true =>
  obtain ⟨hI, hF, h1, h2, h3⟩ := Whb h
  have l1 := ilen hI
  have l2 := ilen hF
  have e : ∀ (s : W4w), s.size = s.data.toList.length := Lib.size_eq
  rw [e] at h1 h2 h3
  simp only [Bool.not_true, bx_f, cond_true]
  rw [Wg9 hI, Wg9 hF]
  rw [show (⟨#[40]⟩ : W4w) = bt [40] from rfl, show (⟨#[41]⟩ : W4w) = bt [41] from rfl, Wyp, Kd7, e k]
  rw [room (by simp only [List.length_append, List.length_cons, List.length_nil]; omega)]
  unfold strings_Join
  have hs := Wtm [bt (Lib.itoa I), bt (Lib.itoa F), r, o]
  simp only [List.map_cons, List.map_nil] at hs
  rw [hs]
  have hj : Lib.join ([bt (Lib.itoa I), bt (Lib.itoa F), r, o].map (·.data.toList)) (⟨#[44]⟩ : W4w).data.toList = Lib.itoa I ++ (44 :: (Lib.itoa F ++ (44 :: (r.data.toList ++ (44 :: o.data.toList))))) := by
   simp [Lib.join, List.intercalate, Kuw]
  simp only []
  rw [hj, decide_eq_true (by simp only [List.length_append, List.length_cons, List.length_nil]; omega)]
  simp only [cond_true]
  rw [show (⟨(Lib.itoa I ++ (44 :: (Lib.itoa F ++ (44 :: (r.data.toList ++ (44 :: o.data.toList)))))).toArray⟩ : W4w) = bt (Lib.itoa I ++ (44 :: (Lib.itoa F ++ (44 :: (r.data.toList ++ (44 :: o.data.toList)))))) from rfl]
  rw [Kd7, Kd7, room (by simp only [List.length_append, List.length_cons, List.length_nil]; omega), Kxy, Kd7, Kd7, room (by simp only [List.length_append, List.length_cons, List.length_nil]; omega), Kxy]
  simp [List.append_assoc]
theorem Wuk (k r o : W4w) (I F : Int) (κ : KT) : Kht k I F r o κ = κ (bt (ftl k r o I F)) := by
 unfold Kht Kt4 ftl
 rw [Wmf]
 cases h : Z.vld k r o I F with
 | false => rfl
 | true =>
  obtain ⟨hI, hF, h1, h2, h3⟩ := Whb h
  have l1 := ilen hI
  have l2 := ilen hF
  have e : ∀ (s : W4w), s.size = s.data.toList.length := Lib.size_eq
  rw [e] at h1 h2 h3
  simp only [Bool.not_true, bx_f, cond_true]
  rw [Wg9 hI, Wg9 hF]
  rw [show (⟨#[40]⟩ : W4w) = bt [40] from rfl, show (⟨#[41]⟩ : W4w) = bt [41] from rfl, show (⟨#[44]⟩ : W4w) = bt [44] from rfl, Wyp, e k, ← Wb4 r, ← Wb4 o]
  simp only [Kxy, Kd7, Kuw]
  iterate 9 rw [room (by simp only [List.length_append, List.length_cons, List.length_nil]; omega)]
  simp [List.append_assoc]
end Go.Proofs.YtgohccjmphapfaaGreatDoor
end

noncomputable section
namespace Go.Proofs.YtgohccjmphapfaaGreatDoor
open Go Go.Pv Go.RowKit
set_option maxRecDepth 100000
theorem Wmq (x : Int) : Whz [.val (.int .u8 x)] = bt [UInt8.ofNat x.toNat] := rfl
theorem w8 {a : Nat} (h : a < 10) : (IntKind.wrap .u8 (IntKind.wrap .i64 (48 + (a : Int)))).toNat = 48 + a := by
 rw [Kfo (by omega)]
 simp only [IntKind.wrap, IntKind.bits, IntKind.signed]
 simp
 omega
theorem dlen {a : Nat} (h : a < 18446744073709551616) : (Lib.decDigits a).length ≤ 20 := by rw [Lib.decDigits_length]; exact Lib.nDigits_le20 a h
theorem Wo0 (N : Nat) : ∀ (n m a : Nat), a < 10 ^ (m + 1) → a < 9223372036854775808 → m < n → ∀ k : KT, Keo N n (a : Int) k = k (bt (Lib.decDigits a))
 | 0, m, a, _, _, hn, _ => by omega
 | n + 1, m, a, ha, hb, hn, k => by
  show Khi (Keo N n) a k = _
  unfold Khi
  rw [decide_eq_false (by omega), bx_f]
  by_cases h10 : a < 10
  ·rw [decide_eq_true (by omega), bx_t, Wmq, w8 h10, Lib.decDigits_one h10]
  ·have hm : m ≠ 0 := fun e => h10 (by subst e; simpa using ha)
   obtain ⟨m', rfl⟩ : ∃ m', m = m' + 1 := ⟨m - 1, by omega⟩
   have e1 : Int.tdiv (a : Int) 10 = ((a / 10 : Nat) : Int) := by rw [Int.tdiv_eq_ediv_of_nonneg (by omega)]; rfl
   have e2 : Int.tmod (a : Int) 10 = ((a % 10 : Nat) : Int) := by rw [Int.tmod_eq_emod_of_nonneg (by omega)]; rfl
   have hlt : a / 10 < 10 ^ (m' + 1) := by rw [Nat.div_lt_iff_lt_mul (by omega)]; rw [Nat.pow_succ] at ha; exact ha
   rw [decide_eq_false (by omega), bx_f, e1, e2, Kfo (by omega), Wo0 N n m' (a / 10) hlt (by omega) (by omega)]
   rw [Wmq, w8 (by omega), Kd7, Kd7]
   have := dlen (a := a / 10) (by omega)
   rw [room (by simp only [List.length_cons, List.length_nil]; omega), Kxy]
   have e3 : Lib.decDigits a = Lib.decDigits (a / 10) ++ [UInt8.ofNat (48 + a % 10)] := by rw [Lib.decDigits, dif_neg h10]
   rw [e3]
theorem Wul {N : Nat} (hN : 21 ≤ N) {n : Int} (h0 : -9223372036854775807 ≤ n) (h1 : n ≤ 9223372036854775807) (k : KT) : Kff N n k = k (bt (Lib.itoa n)) := by
 unfold Kff
 by_cases hn : n < 0
 ·obtain ⟨u, rfl⟩ : ∃ u : Nat, n = -(u : Int) := ⟨n.natAbs, by omega⟩
  obtain ⟨M, hM⟩ : ∃ M, N = M + 1 := ⟨N - 1, by omega⟩
  have e : Keo N N (-(u : Int)) k = Khi (Keo N M) (-(u : Int)) k := by
   subst hM; rfl
  rw [e]
  unfold Khi
  rw [decide_eq_true (by omega), bx_t, show (0 : Int) - -(u : Int) = u by omega, iw ⟨by omega, by omega⟩]
  rw [Wo0 N M 18 u (by show u < 10000000000000000000; omega) (by omega) (by omega)]
  rw [show (⟨#[45]⟩ : W4w) = bt [45] from rfl, Kd7, Kd7]
  have := dlen (a := u) (by omega)
  rw [room (by simp only [List.length_cons, List.length_nil]; omega), Kxy, Lib.itoa_neg u (by omega)]; rfl
 ·obtain ⟨u, rfl⟩ : ∃ u : Nat, n = u := ⟨n.toNat, by omega⟩
  rw [Wo0 N N 18 u (by show u < 10000000000000000000; omega) (by omega) (by omega), Lib.itoa_nonneg]
def sv (l : List UInt8) : DV := .val (.string (bt l))
theorem Wjw (f0 : W28) (f1 : W2z) (f2 : W3f) (f3 : W2m) (hf : ∀ a b k, f0 a b k = k (bt (qtl (a, b))))
  (X : List (Int × Int)) (hl : X.length ≤ 1073741824) (κ : W31) :
  ∀ (r d : List (Int × Int)) (L : W4z), X = d ++ r → L.length ≤ 64 + d.length → LF (Kas f0 f1 f2 f3) (r.length + 1) (.h0 (X.map qpc) L.length d.length L) κ = κ (L.length + r.length) (L ++ r.map fun q => sv (qtl q))
 | [], d, L, he, hL => by
  rw [List.append_nil] at he
  subst he
  simp only [LF, Kas]
  rw [decide_eq_false (by simp), bx_f]
  simp
 | q :: r, d, L, he, hL => by
  have hlen : X.length = d.length + r.length + 1 := by simp [he]; omega
  have h1 : decide ((d.length : Int) < (((X.map qpc).length : Nat) : Int)) = true := by simp; omega
  have h2 : decide (0 ≤ (d.length : Int)) = true := by simp
  have h3 : (X.map qpc)[Int.toNat (d.length : Int)]? = some (qpc q) := by simp [he]
  have hw : IntKind.wrap .i64 ((d.length : Int) + 1) = ((d ++ [q]).length : Nat) := by rw [Kcp (by omega) (by omega)]; simp
  have hb : (true && true && Nat.ble (L.length * 1) (L.length) && Nat.ble (L.length + 1) maxLen && Nat.ble ((L.length + 1) * 16) 140737488355328) = true := by
   have := Kum
   rw [Kpa (by omega), Kpa (by omega), Kpa (by omega)]; rfl
  rw [show (q :: r).length + 1 = (r.length + 1) + 1 from rfl, LF]
  simp only [Kas, h1, h2, h3, bx_t, optE]
  rw [ld_q, hf, hb, bx_t, hw, Nat.mul_one, List.take_length]
  have ih := Wjw f0 f1 f2 f3 hf X hl κ r (d ++ [q]) (L ++ [sv (qtl q)]) (by simp [he]) (by simp; omega)
  rw [show (L ++ [sv (qtl q)]).length = L.length + 1 by simp] at ih
  refine Eq.trans ?_ (ih.trans ?_)
  ·rfl
  ·simp [Nat.add_assoc, Nat.add_comm 1]
def fldl (s : Sh) (name : W4w) (n m : Int) (fk : W4w) (fi ff : Int) (fr fo : W4w) (X : List (Int × Int)) : List (List UInt8) :=
 (bif decide (s.ints ≥ 1) then [Lib.itoa n] else []) ++ ((bif decide (s.ints ≥ 2) then [Lib.itoa m] else []) ++ ((bif s.fmt then [ftl fk fr fo fi ff] else []) ++ ((bif s.name then [34 :: (name.data.toList ++ [34])] else []) ++ X.map qtl)))
theorem Wyq (a : W4w) : ((⟨#[34]⟩ : W4w) ++ a) ++ (⟨#[34]⟩ : W4w) = bt (34 :: (a.data.toList ++ [34])) := by
 rw [show (⟨#[34]⟩ : W4w) = bt [34] from rfl, ← Wb4 a, Kxy, Kxy, Kuw]; rfl
theorem Whc {a : ByteArray} (h : a.size ≤ 1152921504606846976) (t : W4y) : bx (decide (((ByteArray.size (⟨#[34]⟩) + a.size : Nat) : Int) > IntKind.max .i64)) none (bx (decide (((ByteArray.size ((⟨#[34]⟩ : W4w) ++ a) + ByteArray.size (⟨#[34]⟩) : Nat) : Int) > IntKind.max .i64)) none t) = t := by
 have e : (⟨#[34]⟩ : W4w).size = 1 := rfl
 rw [ByteArray.size_append, e, room (by omega), room (by omega)]
theorem Wum {N : Nat} (hN : 21 ≤ N) (op name : W4w) (n m : Int) (X : List (Int × Int)) (fk : W4w) (fi ff : Int) (fr fo : W4w) (s : Sh) (hs : shp op.toList = some s) (hn : -9223372036854775807 ≤ n ∧ n ≤ 9223372036854775807) (hm : -9223372036854775807 ≤ m ∧ m ≤ 9223372036854775807) (hl : X.length ≤ 1073741824) (hnm : name.size ≤ 1152921504606846976) (κ : W31) :
  Kes N op name n m (X.map qpc) fk fi ff fr fo κ = κ (1 + (fldl s name n m fk fi ff fr fo X).length) (.val (.string op) :: (fldl s name n m fk fi ff fr fo X).map sv) := by
 unfold Kes Kr7 fldl
 rw [Wb1, hs]
 simp only [opK, Wul hN hn.1 hn.2, Wul hN hm.1 hm.2, Wuk]
 have W : ∀ (c : Nat) (L : W4z), L.length = c → c ≤ 64 → LF (Kas Khu Kht (Kff N) Kbu) (X.length + 1) (.h0 (X.map qpc) c 0 L) κ = κ (c + X.length) (L ++ X.map fun q => sv (qtl q)) := by
  intro c L hc h
  subst hc
  exact Wjw Khu Kht (Kff N) Kbu Wuj X hl κ X [] L rfl (by simpa using h)
 have φe : ∀ a b, Kav (.h0 (X.map qpc) a 0 b) = X.length + 1 := fun a b => by simp [Kav]
 simp only [φe, Whc hnm, Wyq]
 generalize hc1 : decide (s.ints ≥ 1) = c1
 generalize hc2 : decide (s.ints ≥ 2) = c2
 have e5 : ∀ (a b : Nat) (L M : W4z), a = b → L = M → κ a L = κ b M := fun a b L M h1 h2 => by rw [h1, h2]
 have e6 : X.map (fun q => sv (qtl q)) = (X.map qtl).map sv := by rw [List.map_map]; rfl
 cases c1 <;> cases c2 <;> cases s.fmt <;> cases s.name <;> simp only [bx_t, bx_f, cond_true, cond_false, List.nil_append, List.cons_append] <;>
  refine (W _ _ ?_ ?_).trans ?_ <;> first | rfl | (rw [e6]; refine e5 _ _ _ _ ?_ rfl; simp only [List.length_cons, List.length_map] <;> omega) | decide
end Go.Proofs.YtgohccjmphapfaaGreatDoor
end

noncomputable section
namespace Go.Proofs.YtgohccjmphapfaaGreatDoor
open Go Go.Pv Go.RowKit
set_option maxRecDepth 100000
def Wmr (l : List UInt8) (s : Sh) : Bool :=
 (decide (s.ints = 0) || ((decide (s.ints = 1) && ((l == [100, 101, 108, 97, 121]) || ((l == [117, 112]) || (l == [100, 111, 119, 110])))) || (decide (s.ints = 2) && (l == [118, 97, 114, 121])))) &&
 (decide (0 ≤ s.least ∧ s.least ≤ s.most ∧ s.most ≤ 256) && ((s.nums == decide (0 < s.most)) && ((s.nums == decide (0 < s.least)) && (l.all (fun b => decide (97 ≤ b.toNat ∧ b.toNat ≤ 122)) && (!l.isEmpty && decide (l.length ≤ 8))))))
theorem Wei {l : List UInt8} {s : Sh} (h : shp l = some s) : Wmr l s = true := by
 unfold shp at h
 repeat (refine Wgs (Q := Wmr) h rfl (fun h => ?_))
 cases h
theorem K9w {s : Sh} {l : List UInt8} {P nm nl V : Bool} {n m : Int} {X : List (Int × Int)} (hs : shp l = some s) (h : ask s l P nm nl V n m X = true) : (-4096 ≤ n ∧ n ≤ 4096) ∧ (-4096 ≤ m ∧ m ≤ 4096) ∧ X.length ≤ 256 ∧ (X.length : Int) ≤ s.most ∧ s.least ≤ (X.length : Int) ∧ X.all vq = true ∧ (s.name = true → P = true) ∧ (s.fmt = true → V = true) ∧ (s.name = false → nm = true) ∧ (s.fmt = false → nl = true) ∧ (s.ints < 1 → n = 0) ∧ (s.ints < 2 → m = 0) := by
 have hc := Wei hs
 unfold Wmr at hc
 simp only [Bool.and_eq_true, Bool.or_eq_true, decide_eq_true_eq, beq_iff_eq] at hc
 unfold ask at h
 simp only [Bool.and_eq_true, Bool.or_eq_true, decide_eq_true_eq, beq_iff_eq, Bool.not_eq_true', decide_eq_false_iff_not] at h
 obtain ⟨hi, ⟨hr0, hr1, hr2⟩, _⟩ := hc
 obtain ⟨h1, h2, h3, h4, h5, h6, h7, h8⟩ := h
 have hnm : (-4096 ≤ n ∧ n ≤ 4096) ∧ (-4096 ≤ m ∧ m ≤ 4096) := by
  rcases hi with hi | ⟨hi, hl⟩ | ⟨hi, hl⟩
  ·have : n = 0 := by rcases h2 with h2 | h2 <;> omega
   have : m = 0 := by rcases h3 with h3 | h3 <;> omega
   omega
  ·have hm0 : m = 0 := by rcases h3 with h3 | h3 <;> omega
   rcases hl with hl | hl | hl <;> subst hl <;> simp [rng2] at h8 <;> omega
  ·subst hl; simp [rng2] at h8; omega
 refine ⟨hnm.1, hnm.2, by omega, by omega, by omega, h7, fun e => ?_, fun e => ?_, fun e => ?_, fun e => ?_, fun e => ?_, fun e => ?_⟩
 ·rw [e] at h1; exact h1
 ·rw [e] at h4; exact h4
 ·rw [e] at h1; exact h1
 ·rw [e] at h4; exact h4
 ·rcases h2 with h2 | h2
  ·omega
  ·exact h2
 ·rcases h3 with h3 | h3
  ·omega
  ·exact h3
def Wb5 (op : List UInt8) (ws : List (List UInt8)) : List UInt8 := match ws with
 | [] => op
 | _ => 40 :: (op ++ (ws.flatMap (fun w => 32 :: w) ++ [41]))
def wdO (r : Option Sh) (name : W4w) (n m : Int) (fk : W4w) (fi ff : Int) (fr fo : W4w) (X : List (Int × Int)) : List (List UInt8) := match r with
 | some s => fldl s name n m fk fi ff fr fo X
 | none => []
mutual
def BT.txt : BT → List UInt8
 | .mk op name n m nums fk fi ff fr fo kids => Wb5 op.data.toList (wdO (shp op.toList) name n m fk fi ff fr fo nums ++ BT.txtL kids)
def BT.txtL : List BT → List (List UInt8)
 | [] => []
 | b :: bs => b.txt :: BT.txtL bs
end
theorem BT.txtL_eq : ∀ bs : List BT, BT.txtL bs = bs.map BT.txt
 | [] => rfl
 | b :: bs => by rw [BT.txtL, BT.txtL_eq bs, List.map_cons]
theorem Wms (f0 : W2s) (f1 : W2p) (a b : W4w) (c d : Int) (e : W4x) (f : W4w) (g h : Int) (i j : W4w) (Ks : List BT) (hl : Ks.length ≤ 1073741824) (hf : ∀ x ∈ Ks, ∀ k : KT, x.call f1 k = k (bt x.txt)) (κ : W31) :
  ∀ (rest done : List BT) (L : W4z), Ks = done ++ rest → L.length ≤ 1024 + done.length → LF (Khk f0 f1) (rest.length + 1) (.h0 L.length done.length a b c d e f g h i j (BT.cellsL Ks) L) κ = κ (L.length + rest.length) (L ++ rest.map fun x => sv x.txt)
 | [], done, L, he, hL => by
  simp only [LF, Khk, BT.cellsL_eq, List.length_map]
  rw [decide_eq_false (by simp [he]), bx_f]
  simp
 | x :: rest, done, L, he, hL => by
  have hlen : Ks.length = done.length + rest.length + 1 := by simp [he]; omega
  rw [show (x :: rest).length + 1 = (rest.length + 1) + 1 from rfl, LF]
  simp only [Khk]
  have h1 : decide ((done.length : Int) < (((BT.cellsL Ks).length : Nat) : Int)) = true := by simp [BT.cellsL_eq]; omega
  have h2 : decide (0 ≤ (done.length : Int)) = true := by simp
  have h3 : (BT.cellsL Ks)[Int.toNat (done.length : Int)]? = some x.cells := by simp [BT.cellsL_eq, he]
  have hw : IntKind.wrap .i64 ((done.length : Int) + 1) = ((done ++ [x]).length : Nat) := by rw [Kcp (by omega) (by omega)]; simp
  have hb : (true && true && Nat.ble (L.length * 1) (L.length) && Nat.ble (L.length + 1) maxLen && Nat.ble ((L.length + 1) * 16) 140737488355328) = true := by
   have := Kum
   rw [Kpa (by omega), Kpa (by omega), Kpa (by omega)]; rfl
  rw [h1, bx_t, h2, bx_t, h3]
  simp only [optE]
  rw [Kmb]
  have hc : ∀ K : KT, x.call (fun v2 v3 v4 v5 v6 v7 v8 v9 v10 v11 v12 => f1 v2 v3 v4 v5 v6 v7 v8 v9 v10 v11 v12 K) = x.call f1 K := fun K => by cases x; rfl
  rw [hc, hf x (by simp [he]), hb, bx_t, hw, Nat.mul_one, List.take_length]
  have ih := Wms f0 f1 a b c d e f g h i j Ks hl hf κ rest (done ++ [x]) (L ++ [sv x.txt]) (by simp [he]) (by simp; omega)
  rw [show (L ++ [sv x.txt]).length = L.length + 1 by simp] at ih
  refine Eq.trans ?_ (ih.trans ?_)
  ·rfl
  ·simp [Nat.add_assoc, Nat.add_comm 1]
theorem Wyr (W : List (List UInt8)) (i : Nat) (w : List UInt8) (h : W[i]? = some w) (k : KT) : ld_s (W.map sv) i k = k (bt w) := by
 have e : nth (W.map sv) i = sv w := by
  unfold nth
  simp [List.getD_eq_getElem?_getD, h]
 unfold ld_s
 rw [e]; rfl
theorem Wmt (f0 : W2s) (f1 : W2p) (W : List (List UInt8)) (hl : W.length ≤ 1099511627776) (κ : Nat → ByteArray → List DV → Option DV) :
  ∀ (rest done : List (List UInt8)) (acc : List UInt8), W = done ++ rest → acc.length + (rest.flatMap (fun w => 32 :: w)).length ≤ 1152921504606846976 → LF (Khl f0 f1) (rest.length + 1) (.h0 W.length (bt acc) done.length (W.map sv)) κ = κ W.length (bt (acc ++ rest.flatMap (fun w => 32 :: w))) (W.map sv)
 | [], done, acc, he, hA => by
  simp only [LF, Khl]
  rw [decide_eq_false (by simp [he]), bx_f]
  simp
 | x :: rest, done, acc, he, hA => by
  have hlen : W.length = done.length + rest.length + 1 := by simp [he]; omega
  rw [show (x :: rest).length + 1 = (rest.length + 1) + 1 from rfl, LF]
  simp only [Khl]
  have h1 : decide ((done.length : Int) < ((W.length : Nat) : Int)) = true := by simp; omega
  have h2 : decide (0 ≤ (done.length : Int)) = true := by simp
  have hw : IntKind.wrap .i64 ((done.length : Int) + 1) = ((done ++ [x]).length : Nat) := by rw [Kcp (by omega) (by omega)]; simp
  simp only [List.flatMap_cons, List.length_append, List.length_cons] at hA
  rw [h1, bx_t, h2, Bool.true_and, bx_t, show 0 + Int.toNat (done.length : Int) * 1 = done.length by simp, Wyr W done.length x (by simp [he])]
  rw [show (⟨#[32]⟩ : W4w) = bt [32] from rfl, Kd7, Kd7, room (by simp only [List.length_cons, List.length_nil]; omega), Kxy, Kd7, Kd7, room (by simp only [List.length_append, List.length_cons, List.length_nil]; omega), Kxy, hw]
  have ih := Wmt f0 f1 W hl κ rest (done ++ [x]) (acc ++ ([32] ++ x)) (by simp [he]) (by simp only [List.length_append, List.length_cons, List.length_nil]; omega)
  refine ih.trans ?_
  simp [List.append_assoc]
end Go.Proofs.YtgohccjmphapfaaGreatDoor
end

noncomputable section
namespace Go.Proofs.YtgohccjmphapfaaGreatDoor
open Go Go.Pv Go.RowKit
set_option maxRecDepth 100000
theorem Wqy {w : List UInt8} : ∀ {ws : List (List UInt8)}, w ∈ ws → w.length + 1 ≤ (ws.flatMap (fun w => 32 :: w)).length
 | v :: ws, h => by
  simp only [List.flatMap_cons, List.length_append, List.length_cons]
  rcases List.mem_cons.1 h with rfl | h
  ·omega
  ·have := Wqy h; omega
theorem Wmu (op : List UInt8) (ws : List (List UInt8)) : op.length + (ws.flatMap (fun w => 32 :: w)).length ≤ (Wb5 op ws).length := by
 unfold Wb5
 split
 ·simp
 ·simp only [List.length_cons, List.length_append, List.length_nil]; omega
theorem BT.txt_kid {op name : ByteArray} {n m : Int} {nums : List (Int × Int)} {fk : ByteArray} {fi ff : Int} {fr fo : ByteArray} {kids : List BT} {x : BT} (h : x ∈ kids) : x.txt.length ≤ (BT.mk op name n m nums fk fi ff fr fo kids).txt.length := by
 rw [BT.txt]
 have h1 := Wmu op.data.toList (wdO (shp op.toList) name n m fk fi ff fr fo nums ++ BT.txtL kids)
 have h2 : x.txt ∈ wdO (shp op.toList) name n m fk fi ff fr fo nums ++ BT.txtL kids := by
  rw [BT.txtL_eq]; exact List.mem_append_right _ (List.mem_map.2 ⟨x, h, rfl⟩)
 have h3 := Wqy h2
 omega
theorem Wky (s : Sh) (name : W4w) (n m : Int) (fk : W4w) (fi ff : Int) (fr fo : W4w) (X : List (Int × Int)) : (fldl s name n m fk fi ff fr fo X).length ≤ 4 + X.length := by
 unfold fldl
 generalize decide (s.ints ≥ 1) = c1
 generalize decide (s.ints ≥ 2) = c2
 cases c1 <;> cases c2 <;> cases s.fmt <;> cases s.name <;> simp only [cond_true, cond_false, List.length_append, List.length_cons, List.length_nil, List.length_map] <;> omega
theorem sv_op (op : W4w) : DV.val (.string op) = sv op.data.toList := by rw [sv, Wb4]
theorem Wqz (N : Nat) (hN : 21 ≤ N) : ∀ (n : Nat) (b : BT), b.ok → b.nok → b.vld = true → b.depth ≤ n → b.txt.length ≤ 1125899906842624 → ∀ k : KT, b.call (Kd3 N n) k = k (bt b.txt)
 | 0, b, _, _, _, hd, _, k => by cases b; simp [BT.depth] at hd
 | n + 1, .mk op name nn m nums fk fi ff fr fo kids, hb, hn, hv, hd, ht, k => by
  simp only [BT.depth] at hd
  have hok := hb.2.2.2.2.2.2.2
  have hnk := hn.2
  have hkt : ∀ x ∈ kids, x.txt.length ≤ 1125899906842624 := fun x hx => Nat.le_trans (BT.txt_kid hx) ht
  simp only [BT.vld, Bool.and_eq_true] at hv
  obtain ⟨hask, hvk⟩ := hv
  rw [BT.vldL_eq, List.all_eq_true] at hvk
  obtain ⟨s, hs, hkn⟩ := Wkt hask
  have hask' : ask s op.toList (K4h name) (emp name) (nul fk fi ff fr fo) (Z.vld fk fr fo fi ff) nn m nums = true := by
   rw [hs] at hask; simp only [askO, Bool.and_eq_true] at hask; exact hask.2
  obtain ⟨b1, b2, b3, _⟩ := K9w hs hask'
  have hkl : kids.length ≤ 2 := by
   rcases K7t hs with ⟨h, _⟩ | ⟨h, _⟩ | ⟨h, _⟩ <;> rw [h] at hkn <;> omega
  have hnl : name.size ≤ 1152921504606846976 := by have := hn.1; unfold reachBytes at this; omega
  show Kod (Kes N) (Kd3 N n) op name nn m (nums.map qpc) fk fi ff fr fo (BT.cellsL kids) k = _
  unfold Kod
  rw [Wum hN op name nn m nums fk fi ff fr fo s hs (by omega) (by omega) (by omega) hnl]
  have hfl := Wky s name nn m fk fi ff fr fo nums
  rw [BT.txt, hs, wdO] at ht ⊢
  generalize fldl s name nn m fk fi ff fr fo nums = FL at hfl ht ⊢
  have hj := Wmu op.data.toList (FL ++ BT.txtL kids)
  have φ3 : ∀ c L, Kit (.h0 c 0 op name nn m (nums.map qpc) fk fi ff fr fo (BT.cellsL kids) L) = kids.length + 1 := fun c L => by simp [Kit, BT.cellsL_eq]
  rw [φ3]
  have hL : (DV.val (.string op) :: FL.map sv) = (op.data.toList :: FL).map sv := by rw [sv_op]; rfl
  have hLn : 1 + FL.length = ((op.data.toList :: FL).map sv).length := by simp; omega
  rw [hL, hLn]
  have K := fun κ => Wms (Kes N) (Kd3 N n) op name nn m (nums.map qpc) fk fi ff fr fo kids (by omega) (fun x hx k => Wqz N hN n x (BT.okL_mem hok x hx) (BT.nokL_mem hnk x hx) (hvk x hx) (by have := BT.depthL_mem x hx; omega) (hkt x hx) k) κ kids [] ((op.data.toList :: FL).map sv) rfl (by simp; omega)
  refine (K _).trans ?_
  have hW : (op.data.toList :: FL).map sv ++ kids.map (fun x => sv x.txt) = (op.data.toList :: (FL ++ BT.txtL kids)).map sv := by
   rw [BT.txtL_eq]; simp
  have hWn : ((op.data.toList :: FL).map sv).length + kids.length = (op.data.toList :: (FL ++ BT.txtL kids)).length := by
   rw [BT.txtL_eq]; simp; omega
  rw [hW, hWn]
  have hRl : (FL ++ BT.txtL kids).length ≤ 1024 := by rw [BT.txtL_eq]; simp; omega
  generalize FL ++ BT.txtL kids = R at hj ht hRl ⊢
  rw [show (decide ((0 : Nat) ≤ 0) && decide ((0 : Int) < (((op.data.toList :: R).length : Nat) : Int))) = true by (rw [decide_eq_true (Nat.le_refl 0), decide_eq_true (by simp only [List.length_cons]; omega)]; rfl), bx_t, show 0 + Int.toNat 0 * 1 = 0 from rfl, Wyr (op.data.toList :: R) 0 op.data.toList rfl]
  have φ8 : ∀ t L, Kiu (.h0 (op.data.toList :: R).length t 1 L) = R.length + 1 := fun t L => by simp [Kiu]
  rw [φ8]
  have J := fun κ => Wmt (Kes N) (Kd3 N n) (op.data.toList :: R) (by simp; omega) κ R [op.data.toList] op.data.toList rfl (by omega)
  refine (J _).trans ?_
  cases R with
  | nil => simp [Wb5, bx_t]
  | cons w ws =>
   rw [show ((((op.data.toList :: w :: ws).length : Nat) : Int) == 1) = false by (rw [beq_eq_false_iff_ne]; simp only [List.length_cons]; omega), bx_f]
   rw [show (⟨#[40]⟩ : W4w) = bt [40] from rfl, show (⟨#[41]⟩ : W4w) = bt [41] from rfl, Kd7, Kd7, room (by simp only [List.length_append, List.length_cons, List.length_nil] at hj ht ⊢; omega), Kxy, Kd7, Kd7, room (by simp only [List.length_append, List.length_cons, List.length_nil] at hj ht ⊢; omega), Kxy]
   simp [Wb5, List.append_assoc]
end Go.Proofs.YtgohccjmphapfaaGreatDoor
end

noncomputable section
namespace Go.Proofs.YtgohccjmphapfaaGreatDoor
open Go Go.Pv Go.RowKit
set_option maxRecDepth 100000
theorem Wsg (a b : W4w) : Kjh (a ++ b) = Kjh a ++ Kjh b := by simp [Kjh]
theorem Wc7 (l : List UInt8) : (Kjh (bt l)).length = l.length := by rw [Kzv, Kd7]
theorem ws2 (s acc : List UInt8) (hs : s ≠ []) (h : acc.length + s.length ≤ 140737488355328) (κ0 κ1 : W4c) :
  Kah (bt s) acc.length (Kjh (bt acc)) κ0 κ1 = κ1 s.length (acc ++ s).length (Kjh (bt (acc ++ s))) := by
 have h0 : Nat.beq s.length 0 = false := by cases s with | nil => contradiction | cons _ _ => rfl
 unfold Kah Kj0 Kdu Kld
 simp only [Kd7, h0, bx_f]
 rw [Kpa (by rw [Wc7]; omega), Kpa h]
 simp only [Bool.and_self, bx_t]
 rw [List.take_of_length_le (by rw [Wc7]; omega), ← Kxy, Wsg, List.length_append]
theorem ws0 (s : List UInt8) (hs : s ≠ []) (h : s.length ≤ 140737488355328) (κ0 : KI) (κ1 : W4c) :
  Kaj (bt s) κ0 κ1 = κ1 s.length s.length (Kjh (bt s)) := by
 have h0 : Nat.beq s.length 0 = false := by cases s with | nil => contradiction | cons _ _ => rfl
 unfold Kaj Klz Kej Km6
 simp only [Kd7, h0, bx_f]
 rw [Kpa h, bx_t]
theorem Wzq (l : List UInt8) : Whz (Kjh (bt l)) = bt l := by
 have : ∀ (l : List UInt8) (a : List UInt8), ((l.map fun b => DV.val (.int .u8 b.toNat)).map asI).foldl (fun r n => r.push (UInt8.ofNat n.toNat)) (bt a) = bt (a ++ l) := by
  intro l
  induction l with
  | nil => intro a; simp
  | cons x l ih =>
   intro a
   simp only [List.map_cons, List.foldl_cons]
   have e : (bt a).push (UInt8.ofNat (asI (DV.val (.int .u8 (x.toNat : Int)))).toNat) = bt (a ++ [x]) := by
    apply ByteArray.ext; simp [bt, asI, ByteArray.push]
   rw [e, ih]; simp
 have h := this l []
 unfold Whz Kjh
 rw [Kuw]
 rw [List.nil_append] at h
 exact h
theorem Wun : ∀ (W : List (List UInt8)), Kcy 1 W.length (W.map sv) = W.map fun w => [sv w]
 | [] => rfl
 | w :: W => by simp [Kcy, Wun W]
theorem Wo1 (f1 : W2z) (f2 : W3f) (X : List (Int × Int)) (hl : X.length ≤ 1073741824) (κ : W4s) :
  ∀ (r d : List (Int × Int)) (L : W4z), X = d ++ r → L.length ≤ 64 + d.length → LF (Kau Kny f1 f2) (r.length + 1) (.h0 L.length (X.map qpc) (X.length : Nat) d.length L) κ = κ.1 (L.length + r.length) (L ++ r.map fun q => sv (qtl q))
 | [], d, L, he, hL => by
  rw [List.append_nil] at he
  subst he
  simp only [LF, Kau]
  rw [decide_eq_false (by simp), bx_f]
  simp
 | q :: r, d, L, he, hL => by
  have hlen : X.length = d.length + r.length + 1 := by simp [he]; omega
  have h1 : decide ((d.length : Int) < ((X.length : Nat) : Int)) = true := by simp; omega
  have h2 : decide (0 ≤ (d.length : Int)) = true := by simp
  have h3 : (X.map qpc)[Int.toNat (d.length : Int)]? = some (qpc q) := by simp [he]
  have hw : IntKind.wrap .i64 ((d.length : Int) + 1) = ((d ++ [q]).length : Nat) := by rw [Kcp (by omega) (by omega)]; simp
  have hb : (true && true && Nat.ble (L.length * 1) (L.length) && Nat.ble (L.length + 1) maxLen && Nat.ble ((L.length + 1) * 16) 140737488355328) = true := by
   have := Kum
   rw [Kpa (by omega), Kpa (by omega), Kpa (by omega)]; rfl
  rw [show (q :: r).length + 1 = (r.length + 1) + 1 from rfl, LF]
  simp only [Kau, h1, h2, h3, bx_t, optE]
  rw [ld_q, Weh, hb, bx_t, hw, Nat.mul_one, List.take_length]
  have ih := Wo1 f1 f2 X hl κ r (d ++ [q]) (L ++ [sv (qtl q)]) (by simp [he]) (by simp; omega)
  rw [show (L ++ [sv (qtl q)]).length = L.length + 1 by simp] at ih
  refine Eq.trans ?_ (ih.trans ?_)
  ·rfl
  ·simp [Nat.add_assoc, Nat.add_comm 1]
theorem Wzr (f1 : W2z) (f2 : W3f) (X : List (Int × Int)) (hl : X.length ≤ 1073741824) (κ : W4s) :
  LF (Kau Kny f1 f2) (X.length + 1) (.h1 (X.map qpc) (X.length : Nat) 0) κ = (match X with | [] => κ.2 | _ => κ.1 X.length (X.map fun q => sv (qtl q))) := by
 cases X with
 | nil =>
  simp only [LF, Kau]
  rw [decide_eq_false (by simp), bx_f]
 | cons q r =>
  have h1 : decide ((0 : Int) < (((q :: r).length : Nat) : Int)) = true := by simp
  have h3 : ((q :: r).map qpc)[Int.toNat (0 : Int)]? = some (qpc q) := by simp
  rw [show (q :: r).length + 1 = (r.length + 1) + 1 from rfl, LF]
  simp only [Kau]
  rw [h1, bx_t, show decide ((0 : Int) ≤ 0) = true from rfl, bx_t, h3]
  simp only [optE]
  rw [ld_q, Weh]
  have ih := Wo1 f1 f2 (q :: r) hl κ r [q] [sv (qtl q)] rfl (by simp)
  refine Eq.trans ?_ (ih.trans ?_)
  ·rw [Kcp (by omega) (by omega)]; rfl
  ·simp [Nat.add_comm 1]
theorem Whd (op name : W4w) (n m : Int) (X : List (Int × Int)) (fk : W4w) (fi ff : Int) (fr fo : W4w) (kids : W4x) (s : Sh) (hn : i64 n) (hm : i64 m) (hl : X.length ≤ 1073741824) (hnm : name.size ≤ 1152921504606846976) (k : W4e) :
  Kbf op name n m (X.map qpc) fk fi ff fr fo kids s.ins s.outs s.kids s.ints s.fmt s.name s.nums k = k ((fldl s name n m fk fi ff fr fo X).map fun w => [sv w]) := by
 unfold Kbf Kyy fldl
 simp only [Wg9 hn, Wg9 hm, Wjv]
 have W : ∀ (c : Nat) (L : List (List UInt8)), L.length = c → c ≤ 64 → LF (Kau Kny Knx strconv_Itoa) (X.length + 1) (.h0 c (X.map qpc) (X.length : Nat) 0 (L.map sv)) (fun z12_0 z12_1 => bx (Nat.ble (0 + z12_0 * 1) (z12_1.length)) (k (Kcy 1 z12_0 (List.drop 0 z12_1))) none, k []) = k ((L ++ X.map qtl).map fun w => [sv w]) := by
  intro c L hc h
  subst hc
  have := Wo1 Knx strconv_Itoa X hl (fun z12_0 z12_1 => bx (Nat.ble (0 + z12_0 * 1) (z12_1.length)) (k (Kcy 1 z12_0 (List.drop 0 z12_1))) none, k []) X [] (L.map sv) rfl (by simpa using h)
  rw [List.length_map] at this
  refine this.trans ?_
  have e : L.map sv ++ X.map (fun q => sv (qtl q)) = (L ++ X.map qtl).map sv := by simp
  have e2 : L.length + X.length = (L ++ X.map qtl).length := by simp
  simp only []
  rw [e, e2, Kpa (by simp), bx_t, List.drop_zero, Wun]
 have W0 : LF (Kau Kny Knx strconv_Itoa) (X.length + 1) (.h1 (X.map qpc) (X.length : Nat) 0) (fun z12_0 z12_1 => bx (Nat.ble (0 + z12_0 * 1) (z12_1.length)) (k (Kcy 1 z12_0 (List.drop 0 z12_1))) none, k []) = k ((X.map qtl).map fun w => [sv w]) := by
  rw [Wzr Knx strconv_Itoa X hl]
  cases X with
  | nil => rfl
  | cons q r =>
   have e : (q :: r).map (fun q => sv (qtl q)) = ((q :: r).map qtl).map sv := by simp
   have e2 : (q :: r).length = ((q :: r).map qtl).length := by simp
   simp only []
   rw [e, e2, Kpa (by simp), bx_t, List.drop_zero, Wun]
 have φe : ∀ a b, Ka2 (.h0 a (X.map qpc) (X.length : Nat) 0 b) = X.length + 1 := fun a b => by simp [Ka2]
 have φ0 : Ka2 (.h1 (X.map qpc) (X.length : Nat) 0) = X.length + 1 := by simp [Ka2]
 simp only [List.length_map, φe, φ0, Whc hnm, Wyq]
 by_cases hc1 : s.ints ≥ 1
 ·rw [decide_eq_true hc1]
  by_cases hc2 : s.ints ≥ 2
  ·rw [decide_eq_true hc2]
   cases s.fmt <;> cases s.name <;> simp only [bx_t, bx_f, cond_true, cond_false, List.nil_append, List.cons_append]
   ·exact W 2 [Lib.itoa n, Lib.itoa m] rfl (by decide)
   ·exact W 3 [Lib.itoa n, Lib.itoa m, 34 :: (name.data.toList ++ [34])] rfl (by decide)
   ·exact W 3 [Lib.itoa n, Lib.itoa m, ftl fk fr fo fi ff] rfl (by decide)
   ·exact W 4 [Lib.itoa n, Lib.itoa m, ftl fk fr fo fi ff, 34 :: (name.data.toList ++ [34])] rfl (by decide)
  ·rw [decide_eq_false hc2]
   cases s.fmt <;> cases s.name <;> simp only [bx_t, bx_f, cond_true, cond_false, List.nil_append, List.cons_append]
   ·exact W 1 [Lib.itoa n] rfl (by decide)
   ·exact W 2 [Lib.itoa n, 34 :: (name.data.toList ++ [34])] rfl (by decide)
   ·exact W 2 [Lib.itoa n, ftl fk fr fo fi ff] rfl (by decide)
   ·exact W 3 [Lib.itoa n, ftl fk fr fo fi ff, 34 :: (name.data.toList ++ [34])] rfl (by decide)
 ·have hc2 : ¬ s.ints ≥ 2 := by omega
  rw [decide_eq_false hc1, decide_eq_false hc2]
  cases s.fmt <;> cases s.name <;> simp only [bx_t, bx_f, cond_true, cond_false, List.nil_append, List.cons_append]
  ·exact W0
  ·exact W 1 [34 :: (name.data.toList ++ [34])] rfl (by decide)
  ·exact W 1 [ftl fk fr fo fi ff] rfl (by decide)
  ·exact W 2 [ftl fk fr fo fi ff, 34 :: (name.data.toList ++ [34])] rfl (by decide)
end Go.Proofs.YtgohccjmphapfaaGreatDoor
end
