/-
  The specification's own digits, powers of ten and fractions: what each call gives.
-/
import Derived.Test.YtpoalckncfkdgaaDoorParse
namespace Go.Proofs.YtpoalckncfkdgaaDoor
open Go.RowKit
namespace Q
theorem span_stop {u : List UInt8} {j : Nat} (ha : (u.take j).all isd = true) (hstop : u.length ≤ j ∨ (j < u.length ∧ isd (u.getD j 0) = false)) : u.takeWhile isd = u.take j := by
  have hsplit : u = u.take j ++ u.drop j := (List.take_append_drop j u).symm
  have hd : (u.drop j).takeWhile isd = [] := by
    rcases hstop with h | ⟨h, hc⟩
    · rw [List.drop_eq_nil_of_le h]; rfl
    · rw [List.drop_eq_getElem_cons h, List.takeWhile_cons, if_neg]
      rw [List.getD, List.getElem?_eq_getElem h] at hc
      simpa using hc
  have h2 : ∀ a b : List UInt8, a.all isd = true → (a ++ b).takeWhile isd = a ++ b.takeWhile isd := by
    intro a
    induction a with
    | nil => intro b _; rfl
    | cons c a ih =>
      intro b h
      rw [List.all_cons, Bool.and_eq_true] at h
      rw [List.cons_append, List.takeWhile_cons, if_pos h.1, ih b h.2]; rfl
  have h3 := h2 (u.take j) (u.drop j) ha
  rw [← hsplit, hd, List.append_nil] at h3
  exact h3
theorem span_over {u : List UInt8} {j : Nat} (ha : (u.take j).all isd = true) (h : j < u.length) (hc : isd (u.getD j 0) = true) : j < (u.takeWhile isd).length := by
  have ha2 : (u.take (j + 1)).all isd = true := by
    rw [take_snoc' u j h, List.all_append, ha, List.all_cons, hc]; rfl
  have hsplit : u = u.take (j + 1) ++ u.drop (j + 1) := (List.take_append_drop (j + 1) u).symm
  have h2 : ∀ a b : List UInt8, a.all isd = true → a.length ≤ ((a ++ b).takeWhile isd).length := by
    intro a
    induction a with
    | nil => intro b _; simp
    | cons c a ih =>
      intro b h
      rw [List.all_cons, Bool.and_eq_true] at h
      rw [List.cons_append, List.takeWhile_cons, if_pos h.1]
      have := ih b h.2
      simp only [List.length_cons]; omega
  have h3 := h2 (u.take (j + 1)) (u.drop (j + 1)) ha2
  rw [← hsplit, List.length_take] at h3
  omega
theorem isd_byte (c : UInt8) : isd c = decide (48 ≤ (c.toNat : Int) ∧ (c.toNat : Int) ≤ 57) := by
  unfold isd; rw [Bool.eq_iff_iff, decide_eq_true_eq, decide_eq_true_eq]; omega
theorem drop_getD (l : List UInt8) (i j : Nat) : (l.drop i).getD j 0 = l.getD (i + j) 0 := by
  simp [List.getD]
end Q
theorem byte_at (s : ByteArray) (K : Nat) (h : K < s.size) : s.data.toList.getD K 0 = s[K]'h := by
  have h' : K < s.data.toList.length := by rw [← Lib.size_eq]; exact h
  simp [List.getD]
  have h2 : K < s.data.size := h
  rw [Array.getElem?_eq_getElem h2]; rfl

set_option maxRecDepth 100000 in
set_option maxHeartbeats 1600000 in
theorem rdigits_any (s : ByteArray) (i m : Int) (hi : 0 ≤ i ∧ i ≤ s.size) (hm : 1 ≤ m ∧ m ≤ 10) (hs : s.size ≤ 9223372036854775807) (w : World) :
    Calls Tryd.prog 15 #[.string s, .int .i64 i, .int .i64 m] w fun e w' => e = .returned (.tuple #[.int .i64 ((Q.span (s.data.toList.drop i.toNat) m.toNat).1 : Nat), .int .i64 (i + ((Q.span (s.data.toList.drop i.toNat) m.toNat).2.1 : Nat)), .bool (Q.span (s.data.toList.drop i.toNat) m.toNat).2.2]) ∧ w = w' := by
  obtain ⟨hm1, hm2⟩ := hm
  obtain ⟨hi1, hi2⟩ := hi
  obtain ⟨u, hu⟩ : ∃ u, s.data.toList.drop i.toNat = u := ⟨_, rfl⟩
  have hul : u.length + i.toNat = s.size := by rw [← hu, List.length_drop, ← Lib.size_eq]; omega
  obtain ⟨rv, hrv⟩ : ∃ r : Int, (((Q.span u m.toNat).1 : Nat) : Int) = r := ⟨_, rfl⟩
  obtain ⟨ra, hra⟩ : ∃ r : Int, i + (((Q.span u m.toNat).2.1 : Nat) : Int) = r := ⟨_, rfl⟩
  obtain ⟨ro, hro⟩ : ∃ r, (Q.span u m.toNat).2.2 = r := ⟨_, rfl⟩
  rw [hu, hrv, hra, hro]
  have HR := Lib.hid (And.intro hrv (And.intro hra hro))
  have HU := Lib.hid (And.intro hu hul)
  clear hrv hra hro hu hul
  go_enter Tryd.func15, Tryd.ntmps15
  go_wp2
  go_loop [9, 10] (fun vn vk => ∃ (K : Nat) (a : Int), vn = .int .i64 a ∧ vk = .int .i64 K ∧ i ≤ K ∧ K ≤ s.size ∧ K ≤ i + m ∧ Hid (a = (Q.num (u.take (K - i.toNat)) : Nat) ∧ (u.take (K - i.toNat)).all Q.isd = true)) (fun _ vk => s.size - (intOf vk).toNat)
  case atStart => exact ⟨i.toNat, 0, rfl, by congr 1; omega, by omega, by omega, by omega, by simp [Q.num], by simp⟩
  case round =>
    obtain ⟨K, a, rfl, rfl, hK1, hK2, hK3, hh⟩ := hrel
    by_cases hlt : K < s.size
    · have hc := byte_at s K hlt
      have hg : u.getD (K - i.toNat) 0 = s[K]'hlt := by rw [← HU.out.1, Q.drop_getD, show i.toNat + (K - i.toNat) = K by omega]; exact hc
      have hjl : K - i.toNat < u.length := by have := HU.out.2; omega
      have hc256 : (s[K]'hlt).toNat < 256 := (s[K]'hlt).toNat_lt
      have hlt' : (K : Int) < (s.size : Int) := by omega
      clear hc
      by_cases hdig : 48 ≤ ((s[K]'hlt).toNat : Int) ∧ ((s[K]'hlt).toNat : Int) ≤ 57
      · have hisd : Q.isd (u.getD (K - i.toNat) 0) = true := by rw [hg, Q.isd_byte]; exact decide_eq_true hdig
        by_cases hover : m ≤ (K : Int) - i
        · have hsp : Q.span u m.toNat = (0, m.toNat, false) := by
            have := Q.span_over hh.out.2 hjl hisd
            unfold Q.span; rw [if_pos]; omega
          have e1 : rv = 0 := by rw [← HR.out.1, hsp]; rfl
          have e2 : ra = (K : Int) := by rw [← HR.out.2.1, hsp]; dsimp only; omega
          have e3 : ro = false := by rw [← HR.out.2.2, hsp]
          subst e1 e2 e3
          obtain ⟨hd0, hd1⟩ := hdig
          clear hg hjl hisd hh hsp
          go_wp2
          go_ret3
          exact ⟨rfl, rfl⟩
        · have hcn : 48 ≤ (u.getD (K - i.toNat) 0).toNat ∧ (u.getD (K - i.toNat) 0).toNat ≤ 57 := by rw [hg]; omega
          have hst := Q.step_yes hjl hh.out.2 hcn
          rw [hg] at hst
          have hnb := Q.num_lt (K - i.toNat) (u.take (K - i.toNat)) (by rw [List.length_take]; omega) hh.out.2
          have hk9 : (10 : Nat) ^ (K - i.toNat) ≤ 10 ^ 9 := Nat.pow_le_pow_right (by decide) (by omega)
          have ha0 : 0 ≤ a ∧ a < 1000000000 := by have := hh.out.1; omega
          obtain ⟨a0, a1⟩ := ha0
          have hj1 : K + 1 - i.toNat = K - i.toNat + 1 := by omega
          have HA : Hid (10 * a + (((s[K]'hlt).toNat : Int) - 48) = (Q.num (u.take (K + 1 - i.toNat)) : Nat) ∧ (u.take (K + 1 - i.toNat)).all Q.isd = true) := by
            unfold Hid; rw [hj1]; refine ⟨?_, hst.2⟩; rw [hst.1]; have := hh.out.1; omega
          obtain ⟨hd0, hd1⟩ := hdig
          clear hg hjl hisd hst hnb hk9 hcn hj1 hh
          go_wp2
          go_round
          case rel => exact ⟨K + 1, 10 * a + (((s[K]'hlt).toNat : Int) - 48), by first | rfl | (congr 1; omega), by go_num, by omega, by omega, by omega, HA⟩
          case measure => simp [intOf]; omega
      · have hisd : Q.isd (u.getD (K - i.toNat) 0) = false := by rw [hg, Q.isd_byte]; exact decide_eq_false hdig
        have hst := Q.span_stop hh.out.2 (Or.inr ⟨hjl, hisd⟩)
        have hsp : Q.span u m.toNat = (Q.num (u.take (K - i.toNat)), K - i.toNat, decide (0 < K - i.toNat)) := by
          unfold Q.span; rw [hst, List.length_take, Nat.min_eq_left (by omega), if_neg (by omega)]
        have e1 : rv = a := by rw [← HR.out.1, hsp]; exact hh.out.1.symm
        have e2 : ra = (K : Int) := by rw [← HR.out.2.1, hsp]; dsimp only; omega
        have e3 : ro = decide (i < (K : Int)) := by rw [← HR.out.2.2, hsp]; dsimp only; rw [Bool.eq_iff_iff, decide_eq_true_eq, decide_eq_true_eq]; omega
        subst e1 e2 e3
        clear hg hjl hisd hh hst hsp
        by_cases hlo : ((s[K]'hlt).toNat : Int) < 48
        · have hlo' : ¬ 48 ≤ ((s[K]'hlt).toNat : Int) := by omega
          go_wp2
          go_ret3
          exact ⟨rfl, rfl⟩
        · have hlo' : 48 ≤ ((s[K]'hlt).toNat : Int) := by omega
          have hhi : ¬ ((s[K]'hlt).toNat : Int) ≤ 57 := by omega
          go_wp2
          go_ret3
          exact ⟨rfl, rfl⟩
    · have hjl : u.length ≤ K - i.toNat := by have := HU.out.2; omega
      have hst := Q.span_stop hh.out.2 (Or.inl hjl)
      have hsp : Q.span u m.toNat = (Q.num (u.take (K - i.toNat)), K - i.toNat, decide (0 < K - i.toNat)) := by
        have hul := HU.out.2
        unfold Q.span; rw [hst, List.length_take, Nat.min_eq_left (by omega), if_neg (by omega)]
      have e1 : rv = a := by rw [← HR.out.1, hsp]; exact hh.out.1.symm
      have e2 : ra = (K : Int) := by rw [← HR.out.2.1, hsp]; dsimp only; omega
      have e3 : ro = decide (i < (K : Int)) := by rw [← HR.out.2.2, hsp]; dsimp only; rw [Bool.eq_iff_iff, decide_eq_true_eq, decide_eq_true_eq]; omega
      subst e1 e2 e3
      have hlt' : ¬ (K : Int) < (s.size : Int) := by omega
      clear hjl hh hst hsp
      go_wp2
      go_ret3
      exact ⟨rfl, rfl⟩

set_option maxRecDepth 100000 in
set_option maxHeartbeats 400000 in
theorem rten_any (k : Int) (hk : 0 ≤ k ∧ k ≤ 9) (w : World) :
    Calls Tryd.prog 17 #[.int .i64 k] w fun e w' => e = .returned (.int .i64 ((10 ^ k.toNat : Nat) : Int)) ∧ w = w' := by
  obtain ⟨hk1, hk2⟩ := hk
  obtain ⟨r, hr⟩ : ∃ r : Int, Hid (((10 ^ k.toNat : Nat) : Int) = r) := ⟨_, rfl⟩
  rw [hr.out]
  go_enter Tryd.func17, Tryd.ntmps17
  go_wp2
  go_loop [3, 4] (fun vp vi => ∃ (j : Nat) (P : Int), vp = .int .i64 P ∧ vi = .int .i64 j ∧ (j : Int) ≤ k ∧ Hid (((10 ^ j : Nat) : Int) = P)) (fun _ vi => k.toNat - (intOf vi).toNat)
  case atStart => exact ⟨0, 1, rfl, rfl, by omega, rfl⟩
  case round =>
    obtain ⟨j, P, rfl, rfl, hj, hP⟩ := hrel
    have hPb : 1 ≤ P ∧ P ≤ 1000000000 := by
      have h1 : (10 : Nat) ^ j ≤ 10 ^ 9 := Nat.pow_le_pow_right (by decide) (by omega)
      have h2 : 0 < (10 : Nat) ^ j := Nat.pow_pos (by decide)
      have := hP.out; omega
    obtain ⟨hp1, hp2⟩ := hPb
    by_cases hlt : (j : Int) < k
    · have hP2 : Hid (((10 ^ (j + 1) : Nat) : Int) = P * 10) := by unfold Hid; rw [← hP.out, Nat.pow_succ]; simp
      go_wp2
      go_round
      case rel => exact ⟨j + 1, P * 10, rfl, by go_num, by omega, hP2⟩
      case measure => simp [intOf]; omega
    · have hjk : j = k.toNat := by omega
      have hPr : P = r := by rw [← hP.out, hjk]; exact hr.out
      subst hPr
      clear hjk
      go_wp2
      go_ret
      exact ⟨rfl, rfl⟩
end Go.Proofs.YtpoalckncfkdgaaDoor
