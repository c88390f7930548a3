/-
  Reading digits, and cutting at a byte: what each call gives.
-/
import Derived.Test.YtpoalckncfkdgaaDoorPAdd
import Derived.Test.YtpoalckncfkdgaaDoorPq
import Derived.Test.YtpoalckncfkdgaaDoorShelf
import Derived.Lib.ConvBytes
import Derived.Lib.AtoiErrMem
namespace Go.Proofs.YtpoalckncfkdgaaDoor
open Go.RowKit

namespace Q
theorem num_lt : ∀ (n : Nat) (l : List UInt8), l.length = n → l.all isd = true → num l < 10 ^ n
  | 0, l, hl, _ => by have : l = [] := List.eq_nil_of_length_eq_zero hl; subst this; decide
  | n + 1, l, hl, h => by
    obtain ⟨p, c, rfl⟩ : ∃ p c, l = p ++ [c] := ⟨l.dropLast, l.getLast (by intro e; rw [e] at hl; simp at hl), (List.dropLast_concat_getLast _).symm⟩
    rw [List.all_append, Bool.and_eq_true] at h
    have hp := num_lt n p (by simpa using hl) h.1
    have hc : isd c = true := by simpa using h.2
    unfold isd at hc
    rw [decide_eq_true_eq] at hc
    rw [num_snoc, Nat.pow_succ]; omega
theorem take_snoc' (l : List UInt8) (k : Nat) (h : k < l.length) : l.take (k + 1) = l.take k ++ [l.getD k 0] := by
  rw [List.take_succ_eq_append_getElem h]; simp [List.getD, List.getElem?_eq_getElem h]
/-- One round: the digits up to k, and the next byte. -/
theorem step_yes {l : List UInt8} {k : Nat} (h : k < l.length) (ha : (l.take k).all isd = true) (hc : 48 ≤ (l.getD k 0).toNat ∧ (l.getD k 0).toNat ≤ 57) :
    num (l.take (k + 1)) = 10 * num (l.take k) + ((l.getD k 0).toNat - 48) ∧ (l.take (k + 1)).all isd = true := by
  rw [take_snoc' l k h, num_snoc]
  refine ⟨rfl, ?_⟩
  rw [List.all_append, ha, List.all_cons, List.all_nil, Bool.and_true, Bool.true_and]
  unfold isd; exact decide_eq_true hc
theorem step_no {l : List UInt8} {k : Nat} (h : k < l.length) (hc : ¬ (48 ≤ (l.getD k 0).toNat ∧ (l.getD k 0).toNat ≤ 57)) (m : Nat) : digs l m = (0, false) := by
  unfold digs
  rw [if_neg]
  rintro ⟨_, _, ha⟩
  rw [List.all_eq_true] at ha
  have := ha (l.getD k 0) (by simp [List.getD, List.getElem?_eq_getElem h])
  unfold isd at this
  rw [decide_eq_true_eq] at this
  exact hc this
end Q

set_option maxRecDepth 100000 in
set_option maxHeartbeats 1600000 in
theorem digits_any (s : ByteArray) (m : Int) (hm : 1 ≤ m ∧ m ≤ 10) (hs : s.size ≤ 9223372036854775807) (w : World) :
    Calls Tryd.prog 24 #[.string s, .int .i64 m] w fun e w' => e = .returned (.tuple #[.int .u64 ((Q.digs s.data.toList m.toNat).1 : Nat), .bool (Q.digs s.data.toList m.toNat).2]) ∧ Below w.heap.size w w' := by
  obtain ⟨hm1, hm2⟩ := hm
  have hLn : s.data.toList.length = s.size := (Lib.size_eq s).symm
  by_cases h1 : (s.size : Int) < 1
  · have e : Q.digs s.data.toList m.toNat = (0, false) := by unfold Q.digs; rw [if_neg]; omega
    rw [e]; clear e hLn
    go_enter Tryd.func24, Tryd.ntmps24
    go_wp2
    go_ret2
    exact ⟨rfl, Below.refl _ _⟩
  · by_cases h2 : m < (s.size : Int)
    · have e : Q.digs s.data.toList m.toNat = (0, false) := by unfold Q.digs; rw [if_neg]; omega
      rw [e]; clear e hLn
      go_enter Tryd.func24, Tryd.ntmps24
      go_wp2
      go_ret2
      exact ⟨rfl, Below.refl _ _⟩
    · have hcv := Lib.run_convert_string_bytes (P := Tryd.prog) w 9 55 5 s (u := .string) Tryd.underlying9 Tryd.underlying55 Tryd.underlying5
      have hbw := Lib.bytesWorld_below w 5 s
      have hB : ∀ j, j < s.size → (Lib.bytesWorld w 5 s).cell? ⟨w.heap.size, j, none⟩ = some (.int .u8 (s.data.toList.getD j 0).toNat) := fun j hj => Lib.bytesWorld_cell w 5 s j hj
      generalize Lib.bytesWorld w 5 s = W1 at hcv hB hbw
      generalize s.data.toList = bs at hLn hB ⊢
      have HB := Lib.hid hB
      have HW := Lib.hid hbw
      have HL := Lib.hid hLn
      obtain ⟨N, hN⟩ : ∃ N, s.size = N := ⟨_, rfl⟩
      rw [hN] at h1 h2 hs HB HL hcv
      have HN := Lib.hid hN
      have hsz : (s.size : Int) = N := by rw [hN]
      clear hB hbw hLn hN
      obtain ⟨rv, hrv⟩ : ∃ rv : Int, (((Q.digs bs m.toNat).1 : Nat) : Int) = rv := ⟨_, rfl⟩
      obtain ⟨rb, hrb⟩ : ∃ rb, (Q.digs bs m.toNat).2 = rb := ⟨_, rfl⟩
      rw [hrv, hrb]
      have HRV := Lib.hid hrv
      have HRB := Lib.hid hrb
      clear hrv hrb
      go_enter Tryd.func24, Tryd.ntmps24
      go_wp2
      go_loop [4, 20] (fun vn vi => ∃ (k : Nat) (a : Int), vn = .int .u64 a ∧ vi = .int .i64 k ∧ k ≤ N ∧ Hid (a = (Q.num (bs.take k) : Nat) ∧ (bs.take k).all Q.isd = true)) (fun _ vi => N - (intOf vi).toNat)
      case atStart => exact ⟨0, 0, rfl, rfl, by omega, by simp [Q.num], by simp⟩
      case round =>
        obtain ⟨k, a, rfl, rfl, hk, hh⟩ := hrel
        by_cases hkn : k < N
        · have hc := HB.out k hkn
          have hlt : k < bs.length := by rw [HL.out]; exact hkn
          have hst := Q.step_yes hlt hh.out.2
          have hno := Q.step_no hlt
          have hnb := Q.num_lt k (bs.take k) (by rw [List.length_take]; omega) hh.out.2
          have hk9 : (10 : Nat) ^ k ≤ 10 ^ 9 := Nat.pow_le_pow_right (by decide) (by omega)
          have ha0 : 0 ≤ a ∧ a < 1000000000 := by have := hh.out.1; omega
          obtain ⟨a0, a1⟩ := ha0
          clear hnb hk9
          have hac := hh.out.1
          generalize bs.getD k 0 = c at hc hst hno
          have hc256 : c.toNat < 256 := c.toNat_lt
          have hkn' : (k : Int) < (N : Int) := by omega
          by_cases hdig : 48 ≤ c.toNat ∧ c.toNat ≤ 57
          · have HN2 := Lib.hid (hst hdig)
            have HA : Hid (10 * a + ((c.toNat : Int) - 48) = (Q.num (bs.take (k + 1)) : Nat)) := by unfold Hid; rw [HN2.out.1]; omega
            have HA2 : Hid ((bs.take (k + 1)).all Q.isd = true) := HN2.out.2
            obtain ⟨hd0, hd1⟩ := hdig
            clear hst hno hac HN2 hh hlt
            go_wp2
            go_round
            case rel => exact ⟨k + 1, 10 * a + ((c.toNat : Int) - 48), by first | rfl | (congr 1; omega), by go_num, by omega, HA.out, HA2.out⟩
            case measure => simp [intOf]; omega
          · have hf := hno hdig m.toNat
            have e1 : rv = 0 := by rw [← HRV.out, hf]; rfl
            have e2 : rb = false := by rw [← HRB.out, hf]
            subst e1 e2
            clear hst hno hac hh hlt hf
            by_cases hlo : (c.toNat : Int) < 48
            · go_wp2
              go_ret2
              exact ⟨rfl, HW.out⟩
            · have hhi : (57 : Int) < (c.toNat : Int) := by omega
              go_wp2
              go_ret2
              exact ⟨rfl, HW.out⟩
        · have hkk : k = N := by omega
          subst hkk
          have hall : bs.take k = bs := List.take_of_length_le (by rw [HL.out]; omega)
          have hf : Q.digs bs m.toNat = (Q.num bs, true) := by
            unfold Q.digs; rw [if_pos]; have h3 := HL.out; exact ⟨by omega, by omega, by have := hh.out.2; rwa [hall] at this⟩
          have e1 : rv = a := by rw [← HRV.out, hf]; have := hh.out.1; rw [hall] at this; exact this.symm
          have e2 : rb = true := by rw [← HRB.out, hf]
          subst e1 e2
          clear hall hf hh
          go_wp2
          go_ret2
          exact ⟨rfl, HW.out⟩

namespace Q
theorem index_cut (c : UInt8) : ∀ l : List UInt8, (Lib.indexByte l c = -1 ∧ cut1 c l = (l, [], false)) ∨ ∃ i : Nat, i < l.length ∧ Lib.indexByte l c = i ∧ cut1 c l = (l.take i, l.drop (i + 1), true)
  | [] => Or.inl ⟨rfl, rfl⟩
  | d :: r => by
    by_cases h : d = c
    · right
      refine ⟨0, by simp, ?_, ?_⟩
      · unfold Lib.indexByte; rw [if_pos (by rw [beq_iff_eq]; exact h)]; rfl
      · rw [cut1, if_pos h]; rfl
    · have hb : ¬ (d == c) = true := by rw [beq_iff_eq]; exact h
      rcases index_cut c r with ⟨h1, h2⟩ | ⟨i, h1, h2, h3⟩
      · left
        constructor
        · unfold Lib.indexByte; rw [if_neg hb, h1]; rfl
        · rw [cut1, if_neg h, h2]
      · right
        refine ⟨i + 1, by simp; omega, ?_, ?_⟩
        · unfold Lib.indexByte; rw [if_neg hb, if_neg (by rw [h2, beq_iff_eq]; omega), h2]; simp
        · rw [cut1, if_neg h, h3]; simp
end Q

set_option maxRecDepth 100000 in
set_option maxHeartbeats 800000 in
theorem slcut_one (s : ByteArray) (c : UInt8) (hs : s.size ≤ 9223372036854775807) (w : World) :
    Calls Tryd.prog 33 #[.string s, .string ⟨#[c]⟩] w fun e w' => e = .returned (.tuple #[.string ⟨(Q.cut1 c s.data.toList).1.toArray⟩, .string ⟨(Q.cut1 c s.data.toList).2.1.toArray⟩, .bool (Q.cut1 c s.data.toList).2.2]) ∧ ∃ n, w' = w.drewN n := by
  have hLn : s.data.toList.length = s.size := (Lib.size_eq s).symm
  rcases Q.index_cut c s.data.toList with ⟨h1, h2⟩ | ⟨i, hi, h1, h2⟩
  · have e : (⟨(Q.cut1 c s.data.toList).1.toArray⟩ : ByteArray) = s := by rw [h2]
    rw [e, h2]; clear e h2 hLn
    have H1 := Lib.hid h1
    clear h1
    go_enter Tryd.func33, Tryd.ntmps33
    go_wp2_with fail
    refine (Tryd.stringslite_Index_one _ _ _).mono ?_
    rintro e w1 ⟨rfl, rfl⟩
    rw [H1.out]
    go_wp2
    go_ret3
    exact ⟨rfl, 0, rfl⟩
  · have e1 : (⟨(Q.cut1 c s.data.toList).1.toArray⟩ : ByteArray) = s.extract 0 i := by rw [h2, Lib.extract_eq]; simp
    have e2 : (⟨(Q.cut1 c s.data.toList).2.1.toArray⟩ : ByteArray) = s.extract (i + 1) s.size := by
      have ht : List.take (s.size - (i + 1)) (List.drop (i + 1) s.data.toList) = List.drop (i + 1) s.data.toList := List.take_of_length_le (by rw [List.length_drop, ← Lib.size_eq]; exact Nat.le_refl _)
      rw [h2, Lib.extract_eq, ht]
    have e3 : (Q.cut1 c s.data.toList).2.2 = true := by rw [h2]
    rw [e1, e2, e3]; clear e1 e2 e3 h2
    have H1 := Lib.hid h1
    clear h1
    have c1 : (0 : Int) ≤ (i : Int) := by omega
    have c2 : (i : Int) ≤ (s.size : Int) := by omega
    have c3 : (0 : Int) ≤ (i : Int) + 1 := by omega
    have c4 : (i : Int) + 1 ≤ (s.size : Int) := by omega
    clear hLn hi
    go_enter Tryd.func33, Tryd.ntmps33
    go_wp2_with fail
    refine (Tryd.stringslite_Index_one _ _ _).mono ?_
    rintro e w1 ⟨rfl, rfl⟩
    rw [H1.out]
    go_wp2
    go_region
    go_wp2
    go_ret3
    exact ⟨rfl, 1, rfl⟩

set_option maxRecDepth 100000 in
set_option maxHeartbeats 800000 in
theorem cut_one (s : ByteArray) (c : UInt8) (hs : s.size ≤ 9223372036854775807) (w : World) :
    Calls Tryd.prog 23 #[.string s, .string ⟨#[c]⟩] w fun e w' => e = .returned (.tuple #[.string ⟨(Q.cut1 c s.data.toList).1.toArray⟩, .string ⟨(Q.cut1 c s.data.toList).2.1.toArray⟩, .bool (Q.cut1 c s.data.toList).2.2]) ∧ Below w.heap.size w w' := by
  go_enter Tryd.func23, Tryd.ntmps23
  go_wp2_with fail
  refine (slcut_one _ _ hs _).mono ?_
  rintro e w1 ⟨rfl, n, rfl⟩
  go_wp2
  go_ret3
  exact ⟨rfl, drewN_below (Below.refl _ _) _⟩
end Go.Proofs.YtpoalckncfkdgaaDoor
