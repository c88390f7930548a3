/-
  The specification's own binary digits: what each call gives.
-/
import Derived.Test.YtpoalckncfkdgaaTests
namespace Go.Proofs.Ytpoalckncfkdgaa
open Go.RowKit

theorem ret_i {a b : Int} (h : a = b) : Ending.returned (.int .i64 a) = Ending.returned (.int .i64 b) := by rw [h]
theorem val_i {a b : Int} (h : a = b) : Value.int .i64 a = Value.int .i64 b := by rw [h]
set_option maxRecDepth 100000 in
set_option maxHeartbeats 800000 in
theorem digit_any (n : Int) (k : Nat) (hk : k ≤ 32) (hn : -1073741824 ≤ n ∧ n ≤ 1073741824) (w : World) :
    Calls Try.prog 73 #[.int .i64 n, .int .i64 (k : Int)] w fun e w' => e = .returned (.int .i64 (Q.dig n k)) ∧ w = w' := by
  have hp := Q.two_pow_bd k hk
  have hm : -1073741824 ≤ n / 2 ^ k ∧ n / 2 ^ k ≤ 1073741824 := Q.shr_bd hn k
  obtain ⟨P, hP⟩ : ∃ P, (2 : Int) ^ k = P := ⟨_, rfl⟩
  rw [hP] at hp hm
  obtain ⟨m, hM⟩ : ∃ m, n / P = m := ⟨_, rfl⟩
  rw [hM] at hm
  have e : Q.dig n k = m % 2 := by unfold Q.dig; rw [hP, hM]
  rw [e]; clear e
  have HM := Lib.hid hM
  have ew : Hid (wrap64 (2 ^ k) = P) := by unfold Hid; rw [hP]; unfold wrap64; omega
  clear hP hM
  obtain ⟨hn1, hn2⟩ := hn
  obtain ⟨hm1, hm2⟩ := hm
  obtain ⟨hp1, hp2⟩ := hp
  go_enter Try.func73, Try.ntmps73
  go_wp2_with fail
  rw [ew.out]
  refine (floordiv_any _ _ (by omega) (by omega) _).mono ?_
  rintro e w1 ⟨rfl, rfl⟩
  rw [HM.out]
  go_wp2_with fail
  refine (floordiv_any _ _ (by omega) (by omega) _).mono ?_
  rintro e w1 ⟨rfl, rfl⟩
  go_wp2
  go_ret
  exact ⟨ret_i (by omega), rfl⟩

set_option maxRecDepth 100000 in
set_option maxHeartbeats 3200000 in
theorem logic_and (s : ByteArray) (a b : Int) (e0 : (s.toList == [97, 110, 100]) = true) (ha : -1073741824 ≤ a ∧ a ≤ 1073741824) (hb : -1073741824 ≤ b ∧ b ≤ 1073741824) (w : World) :
    Calls Try.prog 70 #[.string s, .int .i64 a, .int .i64 b] w fun e w' => e = .returned (.int .i64 (Q.logic Q.land a b)) ∧ w = w' := by
  go_enter Try.func70, Try.ntmps70
  go_wp2
  go_loop [7, 8] (fun t i => ∃ k : Nat, k ≤ 33 ∧ i = .int .i64 k ∧ t = .int .i64 (Q.part Q.land a b k)) (fun _ i => 33 - (intOf i).toNat)
  case atStart => exact ⟨0, by omega, rfl, rfl⟩
  case round =>
    obtain ⟨k, hk, rfl, rfl⟩ := hrel
    by_cases hle : k ≤ 32
    · have hS0 : Q.part Q.land a b k = Q.lsum Q.land a b k := by unfold Q.part; rw [if_pos hle]
      have hSb := Q.lsum_bd Q.land Q.land_01 a b k
      have hp := Q.two_pow_bd k hle
      have hx := Q.dig_01 a k
      have hy := Q.dig_01 b k
      have hle' : (k : Int) ≤ 32 := by omega
      by_cases h32 : k = 32
      · have hn : Hid (Q.part Q.land a b (k + 1) = Q.lsum Q.land a b k - Q.land (Q.dig a k) (Q.dig b k) * 4294967296) := by
          subst h32; unfold Hid Q.part; rw [if_neg (by omega)]; rfl
        have hS32 : (2 : Int) ^ k = 4294967296 := by subst h32; decide
        rw [hS32] at hSb
        have k32 : ((k : Int) == 32) = true := by rw [beq_iff_eq]; omega
        rw [hS0]
        obtain ⟨s0, hs0⟩ : ∃ z, Q.lsum Q.land a b k = z := ⟨_, rfl⟩
        rw [hs0] at hSb hn ⊢
        obtain ⟨hSb1, hSb2⟩ := hSb
        clear hS0 hs0 hp hS32 h32
        rcases hx with hx | hx <;> rcases hy with hy | hy
        all_goals
          rw [hx, hy] at hn
          have HX := Lib.hid hx
          have HY := Lib.hid hy
          clear hx hy
          go_wp2_with fail
          refine (digit_any _ _ (by omega) ha _).mono ?_
          rintro e w1 ⟨rfl, rfl⟩
          rw [HX.out]
          go_wp2_with fail
          refine (digit_any _ _ (by omega) hb _).mono ?_
          rintro e w1 ⟨rfl, rfl⟩
          rw [HY.out]
          go_wp2
          go_round
          case rel => exact ⟨k + 1, by omega, by go_num, val_i (by rw [hn.out]; simp only [Q.land]; omega)⟩
          case measure => simp [intOf]; omega
      · have hn : Hid (Q.part Q.land a b (k + 1) = Q.lsum Q.land a b k + Q.land (Q.dig a k) (Q.dig b k) * 2 ^ k) := by
          unfold Hid Q.part; rw [if_pos (by omega)]; rfl
        have k32 : ((k : Int) == 32) = false := by rw [beq_eq_false_iff_ne]; omega
        obtain ⟨P, hP⟩ : ∃ P, (2 : Int) ^ k = P := ⟨_, rfl⟩
        rw [hP] at hSb hp hn
        have ew : wrap64 (2 ^ k) = P := by rw [hP]; unfold wrap64; omega
        rw [hS0]
        obtain ⟨s0, hs0⟩ : ∃ z, Q.lsum Q.land a b k = z := ⟨_, rfl⟩
        rw [hs0] at hSb hn ⊢
        obtain ⟨hSb1, hSb2⟩ := hSb
        obtain ⟨hp1, hp2⟩ := hp
        clear hS0 hs0 hP
        rcases hx with hx | hx <;> rcases hy with hy | hy
        all_goals
          rw [hx, hy] at hn
          have HX := Lib.hid hx
          have HY := Lib.hid hy
          clear hx hy
          go_wp2_with fail
          refine (digit_any _ _ (by omega) ha _).mono ?_
          rintro e w1 ⟨rfl, rfl⟩
          rw [HX.out]
          go_wp2_with fail
          refine (digit_any _ _ (by omega) hb _).mono ?_
          rintro e w1 ⟨rfl, rfl⟩
          rw [HY.out]
          go_wp2
          go_round
          case rel => exact ⟨k + 1, by omega, by go_num, val_i (by rw [hn.out]; simp only [Q.land]; omega)⟩
          case measure => simp [intOf]; omega
    · have hk33 : k = 33 := by omega
      have hgt : 32 < (k : Int) := by omega
      have hr : Q.part Q.land a b k = Q.logic Q.land a b := by unfold Q.part; rw [if_neg hle]
      rw [hr]
      clear hr hk33
      go_wp2
      go_ret
      exact ⟨rfl, rfl⟩

set_option maxRecDepth 100000 in
set_option maxHeartbeats 3200000 in
theorem logic_or (s : ByteArray) (a b : Int) (e0 : (s.toList == [97, 110, 100]) = false) (e1 : (s.toList == [111, 114]) = true) (ha : -1073741824 ≤ a ∧ a ≤ 1073741824) (hb : -1073741824 ≤ b ∧ b ≤ 1073741824) (w : World) :
    Calls Try.prog 70 #[.string s, .int .i64 a, .int .i64 b] w fun e w' => e = .returned (.int .i64 (Q.logic Q.lor a b)) ∧ w = w' := by
  go_enter Try.func70, Try.ntmps70
  go_wp2
  go_loop [7, 8] (fun t i => ∃ k : Nat, k ≤ 33 ∧ i = .int .i64 k ∧ t = .int .i64 (Q.part Q.lor a b k)) (fun _ i => 33 - (intOf i).toNat)
  case atStart => exact ⟨0, by omega, rfl, rfl⟩
  case round =>
    obtain ⟨k, hk, rfl, rfl⟩ := hrel
    by_cases hle : k ≤ 32
    · have hS0 : Q.part Q.lor a b k = Q.lsum Q.lor a b k := by unfold Q.part; rw [if_pos hle]
      have hSb := Q.lsum_bd Q.lor Q.lor_01 a b k
      have hp := Q.two_pow_bd k hle
      have hx := Q.dig_01 a k
      have hy := Q.dig_01 b k
      have hle' : (k : Int) ≤ 32 := by omega
      by_cases h32 : k = 32
      · have hn : Hid (Q.part Q.lor a b (k + 1) = Q.lsum Q.lor a b k - Q.lor (Q.dig a k) (Q.dig b k) * 4294967296) := by
          subst h32; unfold Hid Q.part; rw [if_neg (by omega)]; rfl
        have hS32 : (2 : Int) ^ k = 4294967296 := by subst h32; decide
        rw [hS32] at hSb
        have k32 : ((k : Int) == 32) = true := by rw [beq_iff_eq]; omega
        rw [hS0]
        obtain ⟨s0, hs0⟩ : ∃ z, Q.lsum Q.lor a b k = z := ⟨_, rfl⟩
        rw [hs0] at hSb hn ⊢
        obtain ⟨hSb1, hSb2⟩ := hSb
        clear hS0 hs0 hp hS32 h32
        rcases hx with hx | hx <;> rcases hy with hy | hy
        all_goals
          rw [hx, hy] at hn
          have HX := Lib.hid hx
          have HY := Lib.hid hy
          clear hx hy
          go_wp2_with fail
          refine (digit_any _ _ (by omega) ha _).mono ?_
          rintro e w1 ⟨rfl, rfl⟩
          rw [HX.out]
          go_wp2_with fail
          refine (digit_any _ _ (by omega) hb _).mono ?_
          rintro e w1 ⟨rfl, rfl⟩
          rw [HY.out]
          go_wp2
          go_round
          case rel => exact ⟨k + 1, by omega, by go_num, val_i (by rw [hn.out]; simp only [Q.lor]; omega)⟩
          case measure => simp [intOf]; omega
      · have hn : Hid (Q.part Q.lor a b (k + 1) = Q.lsum Q.lor a b k + Q.lor (Q.dig a k) (Q.dig b k) * 2 ^ k) := by
          unfold Hid Q.part; rw [if_pos (by omega)]; rfl
        have k32 : ((k : Int) == 32) = false := by rw [beq_eq_false_iff_ne]; omega
        obtain ⟨P, hP⟩ : ∃ P, (2 : Int) ^ k = P := ⟨_, rfl⟩
        rw [hP] at hSb hp hn
        have ew : wrap64 (2 ^ k) = P := by rw [hP]; unfold wrap64; omega
        rw [hS0]
        obtain ⟨s0, hs0⟩ : ∃ z, Q.lsum Q.lor a b k = z := ⟨_, rfl⟩
        rw [hs0] at hSb hn ⊢
        obtain ⟨hSb1, hSb2⟩ := hSb
        obtain ⟨hp1, hp2⟩ := hp
        clear hS0 hs0 hP
        rcases hx with hx | hx <;> rcases hy with hy | hy
        all_goals
          rw [hx, hy] at hn
          have HX := Lib.hid hx
          have HY := Lib.hid hy
          clear hx hy
          go_wp2_with fail
          refine (digit_any _ _ (by omega) ha _).mono ?_
          rintro e w1 ⟨rfl, rfl⟩
          rw [HX.out]
          go_wp2_with fail
          refine (digit_any _ _ (by omega) hb _).mono ?_
          rintro e w1 ⟨rfl, rfl⟩
          rw [HY.out]
          go_wp2
          go_round
          case rel => exact ⟨k + 1, by omega, by go_num, val_i (by rw [hn.out]; simp only [Q.lor]; omega)⟩
          case measure => simp [intOf]; omega
    · have hk33 : k = 33 := by omega
      have hgt : 32 < (k : Int) := by omega
      have hr : Q.part Q.lor a b k = Q.logic Q.lor a b := by unfold Q.part; rw [if_neg hle]
      rw [hr]
      clear hr hk33
      go_wp2
      go_ret
      exact ⟨rfl, rfl⟩

set_option maxRecDepth 100000 in
set_option maxHeartbeats 3200000 in
theorem logic_xor (s : ByteArray) (a b : Int) (e0 : (s.toList == [97, 110, 100]) = false) (e1 : (s.toList == [111, 114]) = false) (ha : -1073741824 ≤ a ∧ a ≤ 1073741824) (hb : -1073741824 ≤ b ∧ b ≤ 1073741824) (w : World) :
    Calls Try.prog 70 #[.string s, .int .i64 a, .int .i64 b] w fun e w' => e = .returned (.int .i64 (Q.logic Q.lxor a b)) ∧ w = w' := by
  go_enter Try.func70, Try.ntmps70
  go_wp2
  go_loop [7, 8] (fun t i => ∃ k : Nat, k ≤ 33 ∧ i = .int .i64 k ∧ t = .int .i64 (Q.part Q.lxor a b k)) (fun _ i => 33 - (intOf i).toNat)
  case atStart => exact ⟨0, by omega, rfl, rfl⟩
  case round =>
    obtain ⟨k, hk, rfl, rfl⟩ := hrel
    by_cases hle : k ≤ 32
    · have hS0 : Q.part Q.lxor a b k = Q.lsum Q.lxor a b k := by unfold Q.part; rw [if_pos hle]
      have hSb := Q.lsum_bd Q.lxor Q.lxor_01 a b k
      have hp := Q.two_pow_bd k hle
      have hx := Q.dig_01 a k
      have hy := Q.dig_01 b k
      have hle' : (k : Int) ≤ 32 := by omega
      by_cases h32 : k = 32
      · have hn : Hid (Q.part Q.lxor a b (k + 1) = Q.lsum Q.lxor a b k - Q.lxor (Q.dig a k) (Q.dig b k) * 4294967296) := by
          subst h32; unfold Hid Q.part; rw [if_neg (by omega)]; rfl
        have hS32 : (2 : Int) ^ k = 4294967296 := by subst h32; decide
        rw [hS32] at hSb
        have k32 : ((k : Int) == 32) = true := by rw [beq_iff_eq]; omega
        rw [hS0]
        obtain ⟨s0, hs0⟩ : ∃ z, Q.lsum Q.lxor a b k = z := ⟨_, rfl⟩
        rw [hs0] at hSb hn ⊢
        obtain ⟨hSb1, hSb2⟩ := hSb
        clear hS0 hs0 hp hS32 h32
        rcases hx with hx | hx <;> rcases hy with hy | hy
        all_goals
          rw [hx, hy] at hn
          have HX := Lib.hid hx
          have HY := Lib.hid hy
          clear hx hy
          go_wp2_with fail
          refine (digit_any _ _ (by omega) ha _).mono ?_
          rintro e w1 ⟨rfl, rfl⟩
          rw [HX.out]
          go_wp2_with fail
          refine (digit_any _ _ (by omega) hb _).mono ?_
          rintro e w1 ⟨rfl, rfl⟩
          rw [HY.out]
          go_wp2
          go_round
          case rel => exact ⟨k + 1, by omega, by go_num, val_i (by rw [hn.out]; simp only [Q.lxor]; omega)⟩
          case measure => simp [intOf]; omega
      · have hn : Hid (Q.part Q.lxor a b (k + 1) = Q.lsum Q.lxor a b k + Q.lxor (Q.dig a k) (Q.dig b k) * 2 ^ k) := by
          unfold Hid Q.part; rw [if_pos (by omega)]; rfl
        have k32 : ((k : Int) == 32) = false := by rw [beq_eq_false_iff_ne]; omega
        obtain ⟨P, hP⟩ : ∃ P, (2 : Int) ^ k = P := ⟨_, rfl⟩
        rw [hP] at hSb hp hn
        have ew : wrap64 (2 ^ k) = P := by rw [hP]; unfold wrap64; omega
        rw [hS0]
        obtain ⟨s0, hs0⟩ : ∃ z, Q.lsum Q.lxor a b k = z := ⟨_, rfl⟩
        rw [hs0] at hSb hn ⊢
        obtain ⟨hSb1, hSb2⟩ := hSb
        obtain ⟨hp1, hp2⟩ := hp
        clear hS0 hs0 hP
        rcases hx with hx | hx <;> rcases hy with hy | hy
        all_goals
          rw [hx, hy] at hn
          have HX := Lib.hid hx
          have HY := Lib.hid hy
          clear hx hy
          go_wp2_with fail
          refine (digit_any _ _ (by omega) ha _).mono ?_
          rintro e w1 ⟨rfl, rfl⟩
          rw [HX.out]
          go_wp2_with fail
          refine (digit_any _ _ (by omega) hb _).mono ?_
          rintro e w1 ⟨rfl, rfl⟩
          rw [HY.out]
          go_wp2
          go_round
          case rel => exact ⟨k + 1, by omega, by go_num, val_i (by rw [hn.out]; simp only [Q.lxor]; omega)⟩
          case measure => simp [intOf]; omega
    · have hk33 : k = 33 := by omega
      have hgt : 32 < (k : Int) := by omega
      have hr : Q.part Q.lxor a b k = Q.logic Q.lxor a b := by unfold Q.part; rw [if_neg hle]
      rw [hr]
      clear hr hk33
      go_wp2
      go_ret
      exact ⟨rfl, rfl⟩

end Go.Proofs.Ytpoalckncfkdgaa
