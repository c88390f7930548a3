import Derived.Test.YtiiddikiaafanaaGreatDoorZl
import Derived.Test.YtiiddikiaafanaaGreatDoorZd
import Derived.Test.YtiiddikiaafanaaGreatDoorShelf
import Derived.Laws.Bits64b
set_option linter.all false
/-
  bits.Div64: what a call gives.
-/
namespace Go.Proofs.YtiiddikiaafanaaGreatDoor
open Go.RowKit

set_option maxHeartbeats 400000 in
theorem div64_low (lo y : Int) (hl : 0 ≤ lo ∧ lo < 18446744073709551616) (hy : 0 < y ∧ y < 18446744073709551616) (w : World) :
    Calls Tryz.prog 153 #[.int .u64 0, .int .u64 lo, .int .u64 y] w fun e w' => e = .returned (.tuple #[.int .u64 (lo / y), .int .u64 (lo % y)]) ∧ Below w.heap.size w w' := by
  have d0 : (y == 0) = false := by rw [beq_eq_false_iff_ne]; omega
  have d00 : ¬ y = 0 := by omega
  have q1 := Int.ediv_nonneg hl.1 (show 0 ≤ y by omega)
  have q2 := Int.ediv_le_self y hl.1
  go_enter Tryz.func153, Tryz.ntmps153
  go_wp2
  go_quiet (fail)
  go_wp2
  go_ret2
  exact ⟨rfl, drewN_below (Below.refl _ _) _⟩
theorem or_up (hi lo : Int) (s : Nat) (hs : s ≤ 64) (h0 : 0 ≤ hi) (h1 : hi * 2 ^ s < 18446744073709551616) (l0 : 0 ≤ lo) (l1 : lo < 18446744073709551616) :
    bits .or .u64 (IntKind.u64.wrap (hi * 2 ^ s)) (lo / 2 ^ (64 - s)) = hi * 2 ^ s + lo / 2 ^ (64 - s) := by
  have hp : 0 ≤ hi * 2 ^ s := Int.mul_nonneg h0 (by have := Z.p2_pos s; omega)
  rw [IntWalk.u64_in _ (by omega)]
  obtain ⟨H, rfl⟩ := Int.eq_ofNat_of_zero_le h0
  obtain ⟨L, rfl⟩ := Int.eq_ofNat_of_zero_le l0
  have e1 : ((H : Int) * 2 ^ s) = ((H * 2 ^ s : Nat) : Int) := by simp
  have e2 : ((L : Int) / 2 ^ (64 - s)) = ((L / 2 ^ (64 - s) : Nat) : Int) := by simp
  have b2 : L / 2 ^ (64 - s) < 2 ^ s := by
    rw [Nat.div_lt_iff_lt_mul (Nat.two_pow_pos _), ← Nat.pow_add, show s + (64 - s) = 64 by omega]; omega
  rw [e1] at h1
  rw [e1, e2, bits_or_u64_nat _ _ (by omega) (by have := Nat.div_le_self L (2 ^ (64 - s)); omega)]
  rw [Nat.mul_comm H, ← Nat.two_pow_add_eq_or_of_lt b2]
  omega
theorem and_low (x : Int) (h : 0 ≤ x ∧ x < 18446744073709551616) : bits .and .u64 x 4294967295 = x % 4294967296 := by
  obtain ⟨X, rfl⟩ := Int.eq_ofNat_of_zero_le h.1
  have := bits_and_u64_nat X 4294967295 (by omega) (by omega)
  rw [show (4294967295 : Int) = ((4294967295 : Nat) : Int) by rfl, this]
  have e : X &&& 4294967295 = X % 4294967296 := Nat.and_two_pow_sub_one_eq_mod X 32
  rw [e]; simp
namespace Z
/-- All that the division's text names. -/
structure DA (Y a b u c1 c0 Q1 R1 Q0 : Int) : Prop where
  d1 : DS Y a b u c1
  d0 : DS Y a b R1 c0
  q1 : Q1 = (u * 4294967296 + c1) / Y
  r1 : R1 = (u * 4294967296 + c1) % Y
  q0 : Q0 = (R1 * 4294967296 + c0) / Y
end Z

set_option maxRecDepth 100000 in
set_option maxHeartbeats 4000000 in
theorem div64_high (hi lo y Y a b u c1 c0 Q1 R1 Q0 X R2 : Int) (s : Nat) (hs : s ≤ 63) (hh : 0 < hi ∧ hi < y) (hl : 0 ≤ lo ∧ lo < 18446744073709551616) (hy : 0 < y ∧ y < 18446744073709551616)
    (hs2 : Hid ((64 - (Lib.bitLen y.toNat : Int)) = (s : Int))) (D : Hid (Z.DA Y a b u c1 c0 Q1 R1 Q0))
    (e1 : y * 2 ^ s = Y) (e2 : Y / 4294967296 = a) (e3 : bits .and .u64 Y 4294967295 = b) (e4 : bits .or .u64 (IntKind.u64.wrap (hi * 2 ^ s)) (lo / 2 ^ (64 - s)) = u)
    (e5 : IntKind.u64.wrap (lo * 2 ^ s) = X) (e6 : X / 4294967296 = c1) (e7 : bits .and .u64 X 4294967295 = c0)
    (yb : 9223372036854775808 ≤ Y ∧ Y < 18446744073709551616) (ub : 0 ≤ u ∧ u < 18446744073709551616) (ab : 2147483648 ≤ a ∧ a < 4294967296) (hR2 : Hid (R2 = (R1 * 4294967296 + c0) % Y)) (w : World) :
    Calls Tryz.prog 153 #[.int .u64 hi, .int .u64 lo, .int .u64 y] w fun e w' => e = .returned (.tuple #[.int .u64 (Q1 * 4294967296 + Q0), .int .u64 (R2 / 2 ^ s)]) ∧ Below w.heap.size w w' := by
  have d0 : (y == 0) = false := by rw [beq_eq_false_iff_ne]; omega
  have d00 : ¬ y = 0 := by omega
  have d1 : (hi == 0) = false := by rw [beq_eq_false_iff_ne]; omega
  have QQ := Lib.hid D.out.q1
  obtain ⟨r0, HI⟩ : ∃ r0, Hid (Z.DI Y a b u c1 (u / a) r0) := ⟨_, Z.ds_init D.out.d1⟩
  have hr0 : IntKind.u64.wrap (u - IntKind.u64.wrap (u / a * a)) = r0 := by
    have h1 := HI.out.eq; have h2 := HI.out.r0; have h3 := HI.out.r1; have h4 := Int.mul_nonneg HI.out.q0 (show 0 ≤ a by omega)
    rw [IntWalk.u64_in (u / a * a) (by omega), IntWalk.u64_in _ (by omega)]; omega
  have Q2 := Lib.hid D.out.q0
  obtain ⟨r2, HJ⟩ : ∃ r2, Hid (Z.DI Y a b R1 c0 (R1 / a) r2) := ⟨_, Z.ds_init D.out.d0⟩
  have hr2 : IntKind.u64.wrap (R1 - IntKind.u64.wrap (R1 / a * a)) = r2 := by
    have h1 := HJ.out.eq; have h2 := HJ.out.r0; have h3 := HJ.out.r1; have h4 := Int.mul_nonneg HJ.out.q0 (show 0 ≤ a by omega)
    have h5 := D.out.d0.u2
    rw [IntWalk.u64_in (R1 / a * a) (by omega), IntWalk.u64_in _ (by omega)]; omega
  have eR : IntKind.u64.wrap (IntKind.u64.wrap (IntKind.u64.wrap (u * 4294967296) + c1) - IntKind.u64.wrap (Q1 * Y)) = R1 := by
    rw [D.out.r1, D.out.q1, ← Z.ds_rest D.out.d1]
    simp only [IntKind.wrap_u64]; omega
  have eS : IntKind.u64.wrap (IntKind.u64.wrap (IntKind.u64.wrap (R1 * 4294967296) + c0) - IntKind.u64.wrap (Q0 * Y)) = R2 := by
    rw [hR2.out, D.out.q0, ← Z.ds_rest D.out.d0]
    simp only [IntKind.wrap_u64]; omega
  have rb : 0 ≤ R1 ∧ R1 < 18446744073709551616 := ⟨D.out.d0.u1, by have := D.out.d0.u2; omega⟩
  have cb0 : 0 ≤ c0 ∧ c0 < 4294967296 := ⟨D.out.d0.c1, D.out.d0.c2⟩
  have qb1 : 0 ≤ Q1 ∧ Q1 < 4294967296 := by rw [D.out.q1]; exact Z.ds_Q D.out.d1
  have qb0 : 0 ≤ Q0 ∧ Q0 < 4294967296 := by rw [D.out.q0]; exact Z.ds_Q D.out.d0
  have cb : 0 ≤ c1 ∧ c1 < 4294967296 := ⟨D.out.d1.c1, D.out.d1.c2⟩
  have bb : 0 ≤ b ∧ b < 4294967296 := ⟨D.out.d1.b1, D.out.d1.b2⟩
  go_enter Tryz.func153, Tryz.ntmps153
  go_wp2_with (go_at_call 167; refine (Tryz.bits_LeadingZeros64 _ _ (by omega) (by omega)).mono ?_; rintro e w1 ⟨rfl, rfl⟩; rw [hs2.out])
  go_loop [15, 16] (fun x y => ∃ q r : Int, x = .int .u64 q ∧ y = .int .u64 r ∧ (0 ≤ q ∧ q ≤ 4294967297) ∧ (0 ≤ r ∧ r < 4294967296) ∧ Hid (Z.DI Y a b u c1 q r)) (fun x _ => (intOf x).toNat)
  case atStart => exact ⟨_, _, rfl, rfl, ⟨HI.out.q0, HI.out.hi⟩, ⟨HI.out.r0, HI.out.r1⟩, HI⟩
  case round =>
    obtain ⟨q, r, rfl, rfl, hq, hr, DIH⟩ := hrel
    clear HI
    by_cases hA : 4294967296 ≤ q
    · have t1 : decide (4294967296 ≤ q) = true := decide_eq_true hA
      have hgt := Z.ds_gt D.out.d1 DIH.out (Or.inl hA)
      have hQ0 := (Z.ds_Q D.out.d1).1
      by_cases hb : 4294967296 ≤ r + a
      · have hx : q - 1 = Q1 := (Z.ds_break D.out.d1 DIH.out (Or.inl hA) hb).trans QQ.out.symm
        have t3 : decide (4294967296 ≤ r + a) = true := decide_eq_true hb
        clear hgt hQ0
        go_wp2
        clear hq hr DIH QQ
        have QQ := Q2
        clear Q2
        (try clear hfit)
        (try clear eqb)
        (try clear t2)
        (try clear hC)
        (try clear t3)
        (try clear hb)
        clear t1 hA hx
        go_loop [16, 18] (fun y x => ∃ q r : Int, x = .int .u64 q ∧ y = .int .u64 r ∧ (0 ≤ q ∧ q ≤ 4294967297) ∧ (0 ≤ r ∧ r < 4294967296) ∧ Hid (Z.DI Y a b R1 c0 q r)) (fun _ x => (intOf x).toNat)
        case atStart => exact ⟨_, _, rfl, rfl, ⟨HJ.out.q0, HJ.out.hi⟩, ⟨HJ.out.r0, HJ.out.r1⟩, HJ⟩
        case round =>
          obtain ⟨q, r, rfl, rfl, hq, hr, DIH⟩ := hrel
          clear HJ
          by_cases hA : 4294967296 ≤ q
          · have t1 : decide (4294967296 ≤ q) = true := decide_eq_true hA
            have hgt := Z.ds_gt D.out.d0 DIH.out (Or.inl hA)
            have hQ0 := (Z.ds_Q D.out.d0).1
            by_cases hb : 4294967296 ≤ r + a
            · have hx : q - 1 = Q0 := (Z.ds_break D.out.d0 DIH.out (Or.inl hA) hb).trans QQ.out.symm
              have t3 : decide (4294967296 ≤ r + a) = true := decide_eq_true hb
              clear hgt hQ0
              go_wp2
              go_ret2
              exact ⟨rfl, by go_grown⟩
            · have t3 : decide (4294967296 ≤ r + a) = false := decide_eq_false hb
              have hn := Lib.hid (Z.ds_next D.out.d0 DIH.out (Or.inl hA) (by omega))
              have qp : 1 ≤ q := by omega
              clear hgt hQ0
              go_wp2
              exact ⟨⟨_, _, rfl, rfl, by omega, by omega, hn⟩, by simp only [intOf]; omega⟩
          · have t1 : decide (4294967296 ≤ q) = false := decide_eq_false hA
            have hfit := Z.ds_fit D.out.d0 DIH.out (by omega)
            have eqb : IntKind.u64.wrap (q * b) = q * b := IntWalk.u64_in _ (by omega)
            by_cases hC : 4294967296 * r + c0 < q * b
            · have t2 : decide (4294967296 * r + c0 < q * b) = true := decide_eq_true hC
              have hgt := Z.ds_gt D.out.d0 DIH.out (Or.inr hC)
              have hQ0 := (Z.ds_Q D.out.d0).1
              by_cases hb : 4294967296 ≤ r + a
              · have hx : q - 1 = Q0 := (Z.ds_break D.out.d0 DIH.out (Or.inr hC) hb).trans QQ.out.symm
                have t3 : decide (4294967296 ≤ r + a) = true := decide_eq_true hb
                clear hgt hQ0
                go_wp2
                go_ret2
                exact ⟨rfl, by go_grown⟩
              · have t3 : decide (4294967296 ≤ r + a) = false := decide_eq_false hb
                have hn := Lib.hid (Z.ds_next D.out.d0 DIH.out (Or.inr hC) (by omega))
                have qp : 1 ≤ q := by omega
                clear hgt hQ0
                go_wp2
                exact ⟨⟨_, _, rfl, rfl, by omega, by omega, hn⟩, by simp only [intOf]; omega⟩
            · have t2 : decide (4294967296 * r + c0 < q * b) = false := decide_eq_false hC
              have hx : q = Q0 := (Z.ds_stop D.out.d0 DIH.out (by omega)).trans QQ.out.symm
              rw [hx] at t1 t2 eqb hq hA hC hfit
              go_wp2
              go_ret2
              exact ⟨rfl, by go_grown⟩
      · have t3 : decide (4294967296 ≤ r + a) = false := decide_eq_false hb
        have hn := Lib.hid (Z.ds_next D.out.d1 DIH.out (Or.inl hA) (by omega))
        have qp : 1 ≤ q := by omega
        clear hgt hQ0
        go_wp2
        exact ⟨⟨_, _, rfl, rfl, by omega, by omega, hn⟩, by simp only [intOf]; omega⟩
    · have t1 : decide (4294967296 ≤ q) = false := decide_eq_false hA
      have hfit := Z.ds_fit D.out.d1 DIH.out (by omega)
      have eqb : IntKind.u64.wrap (q * b) = q * b := IntWalk.u64_in _ (by omega)
      by_cases hC : 4294967296 * r + c1 < q * b
      · have t2 : decide (4294967296 * r + c1 < q * b) = true := decide_eq_true hC
        have hgt := Z.ds_gt D.out.d1 DIH.out (Or.inr hC)
        have hQ0 := (Z.ds_Q D.out.d1).1
        by_cases hb : 4294967296 ≤ r + a
        · have hx : q - 1 = Q1 := (Z.ds_break D.out.d1 DIH.out (Or.inr hC) hb).trans QQ.out.symm
          have t3 : decide (4294967296 ≤ r + a) = true := decide_eq_true hb
          clear hgt hQ0
          go_wp2
          clear hq hr DIH QQ
          have QQ := Q2
          clear Q2
          (try clear hfit)
          (try clear eqb)
          (try clear t2)
          (try clear hC)
          (try clear t3)
          (try clear hb)
          clear t1 hA hx
          go_loop [16, 18] (fun y x => ∃ q r : Int, x = .int .u64 q ∧ y = .int .u64 r ∧ (0 ≤ q ∧ q ≤ 4294967297) ∧ (0 ≤ r ∧ r < 4294967296) ∧ Hid (Z.DI Y a b R1 c0 q r)) (fun _ x => (intOf x).toNat)
          case atStart => exact ⟨_, _, rfl, rfl, ⟨HJ.out.q0, HJ.out.hi⟩, ⟨HJ.out.r0, HJ.out.r1⟩, HJ⟩
          case round =>
            obtain ⟨q, r, rfl, rfl, hq, hr, DIH⟩ := hrel
            clear HJ
            by_cases hA : 4294967296 ≤ q
            · have t1 : decide (4294967296 ≤ q) = true := decide_eq_true hA
              have hgt := Z.ds_gt D.out.d0 DIH.out (Or.inl hA)
              have hQ0 := (Z.ds_Q D.out.d0).1
              by_cases hb : 4294967296 ≤ r + a
              · have hx : q - 1 = Q0 := (Z.ds_break D.out.d0 DIH.out (Or.inl hA) hb).trans QQ.out.symm
                have t3 : decide (4294967296 ≤ r + a) = true := decide_eq_true hb
                clear hgt hQ0
                go_wp2
                go_ret2
                exact ⟨rfl, by go_grown⟩
              · have t3 : decide (4294967296 ≤ r + a) = false := decide_eq_false hb
                have hn := Lib.hid (Z.ds_next D.out.d0 DIH.out (Or.inl hA) (by omega))
                have qp : 1 ≤ q := by omega
                clear hgt hQ0
                go_wp2
                exact ⟨⟨_, _, rfl, rfl, by omega, by omega, hn⟩, by simp only [intOf]; omega⟩
            · have t1 : decide (4294967296 ≤ q) = false := decide_eq_false hA
              have hfit := Z.ds_fit D.out.d0 DIH.out (by omega)
              have eqb : IntKind.u64.wrap (q * b) = q * b := IntWalk.u64_in _ (by omega)
              by_cases hC : 4294967296 * r + c0 < q * b
              · have t2 : decide (4294967296 * r + c0 < q * b) = true := decide_eq_true hC
                have hgt := Z.ds_gt D.out.d0 DIH.out (Or.inr hC)
                have hQ0 := (Z.ds_Q D.out.d0).1
                by_cases hb : 4294967296 ≤ r + a
                · have hx : q - 1 = Q0 := (Z.ds_break D.out.d0 DIH.out (Or.inr hC) hb).trans QQ.out.symm
                  have t3 : decide (4294967296 ≤ r + a) = true := decide_eq_true hb
                  clear hgt hQ0
                  go_wp2
                  go_ret2
                  exact ⟨rfl, by go_grown⟩
                · have t3 : decide (4294967296 ≤ r + a) = false := decide_eq_false hb
                  have hn := Lib.hid (Z.ds_next D.out.d0 DIH.out (Or.inr hC) (by omega))
                  have qp : 1 ≤ q := by omega
                  clear hgt hQ0
                  go_wp2
                  exact ⟨⟨_, _, rfl, rfl, by omega, by omega, hn⟩, by simp only [intOf]; omega⟩
              · have t2 : decide (4294967296 * r + c0 < q * b) = false := decide_eq_false hC
                have hx : q = Q0 := (Z.ds_stop D.out.d0 DIH.out (by omega)).trans QQ.out.symm
                rw [hx] at t1 t2 eqb hq hA hC hfit
                go_wp2
                go_ret2
                exact ⟨rfl, by go_grown⟩
        · have t3 : decide (4294967296 ≤ r + a) = false := decide_eq_false hb
          have hn := Lib.hid (Z.ds_next D.out.d1 DIH.out (Or.inr hC) (by omega))
          have qp : 1 ≤ q := by omega
          clear hgt hQ0
          go_wp2
          exact ⟨⟨_, _, rfl, rfl, by omega, by omega, hn⟩, by simp only [intOf]; omega⟩
      · have t2 : decide (4294967296 * r + c1 < q * b) = false := decide_eq_false hC
        have hx : q = Q1 := (Z.ds_stop D.out.d1 DIH.out (by omega)).trans QQ.out.symm
        rw [hx] at t1 t2 eqb hq hA hC hfit
        go_wp2
        clear hq hr DIH QQ
        have QQ := Q2
        clear Q2
        (try clear hfit)
        (try clear eqb)
        (try clear t2)
        (try clear hC)
        (try clear t3)
        (try clear hb)
        clear t1 hA hx
        go_loop [16, 18] (fun y x => ∃ q r : Int, x = .int .u64 q ∧ y = .int .u64 r ∧ (0 ≤ q ∧ q ≤ 4294967297) ∧ (0 ≤ r ∧ r < 4294967296) ∧ Hid (Z.DI Y a b R1 c0 q r)) (fun _ x => (intOf x).toNat)
        case atStart => exact ⟨_, _, rfl, rfl, ⟨HJ.out.q0, HJ.out.hi⟩, ⟨HJ.out.r0, HJ.out.r1⟩, HJ⟩
        case round =>
          obtain ⟨q, r, rfl, rfl, hq, hr, DIH⟩ := hrel
          clear HJ
          by_cases hA : 4294967296 ≤ q
          · have t1 : decide (4294967296 ≤ q) = true := decide_eq_true hA
            have hgt := Z.ds_gt D.out.d0 DIH.out (Or.inl hA)
            have hQ0 := (Z.ds_Q D.out.d0).1
            by_cases hb : 4294967296 ≤ r + a
            · have hx : q - 1 = Q0 := (Z.ds_break D.out.d0 DIH.out (Or.inl hA) hb).trans QQ.out.symm
              have t3 : decide (4294967296 ≤ r + a) = true := decide_eq_true hb
              clear hgt hQ0
              go_wp2
              go_ret2
              exact ⟨rfl, by go_grown⟩
            · have t3 : decide (4294967296 ≤ r + a) = false := decide_eq_false hb
              have hn := Lib.hid (Z.ds_next D.out.d0 DIH.out (Or.inl hA) (by omega))
              have qp : 1 ≤ q := by omega
              clear hgt hQ0
              go_wp2
              exact ⟨⟨_, _, rfl, rfl, by omega, by omega, hn⟩, by simp only [intOf]; omega⟩
          · have t1 : decide (4294967296 ≤ q) = false := decide_eq_false hA
            have hfit := Z.ds_fit D.out.d0 DIH.out (by omega)
            have eqb : IntKind.u64.wrap (q * b) = q * b := IntWalk.u64_in _ (by omega)
            by_cases hC : 4294967296 * r + c0 < q * b
            · have t2 : decide (4294967296 * r + c0 < q * b) = true := decide_eq_true hC
              have hgt := Z.ds_gt D.out.d0 DIH.out (Or.inr hC)
              have hQ0 := (Z.ds_Q D.out.d0).1
              by_cases hb : 4294967296 ≤ r + a
              · have hx : q - 1 = Q0 := (Z.ds_break D.out.d0 DIH.out (Or.inr hC) hb).trans QQ.out.symm
                have t3 : decide (4294967296 ≤ r + a) = true := decide_eq_true hb
                clear hgt hQ0
                go_wp2
                go_ret2
                exact ⟨rfl, by go_grown⟩
              · have t3 : decide (4294967296 ≤ r + a) = false := decide_eq_false hb
                have hn := Lib.hid (Z.ds_next D.out.d0 DIH.out (Or.inr hC) (by omega))
                have qp : 1 ≤ q := by omega
                clear hgt hQ0
                go_wp2
                exact ⟨⟨_, _, rfl, rfl, by omega, by omega, hn⟩, by simp only [intOf]; omega⟩
            · have t2 : decide (4294967296 * r + c0 < q * b) = false := decide_eq_false hC
              have hx : q = Q0 := (Z.ds_stop D.out.d0 DIH.out (by omega)).trans QQ.out.symm
              rw [hx] at t1 t2 eqb hq hA hC hfit
              go_wp2
              go_ret2
              exact ⟨rfl, by go_grown⟩

theorem p2s_cancel (N y : Int) (s : Nat) (hy : 0 < y) : N * 2 ^ s / (y * 2 ^ s) = N / y ∧ N * 2 ^ s % (y * 2 ^ s) / 2 ^ s = N % y := by
  have hp := Z.p2_pos s
  have h1 : N * 2 ^ s / (y * 2 ^ s) = N / y := by rw [Int.mul_comm N, Int.mul_comm y]; exact Int.mul_ediv_mul_of_pos _ _ (by omega)
  have h2 : N * 2 ^ s % (y * 2 ^ s) = N % y * 2 ^ s := by rw [Int.mul_comm N, Int.mul_comm y, Int.mul_emod_mul_of_pos _ _ (by omega), Int.mul_comm]
  exact ⟨h1, by rw [h2, Int.mul_ediv_cancel _ (by omega)]⟩
/-- Two digits over one that is greater than the first. -/
theorem div64_any (hi lo y : Int) (hh : 0 ≤ hi ∧ hi < y) (hl : 0 ≤ lo ∧ lo < 18446744073709551616) (hy : y < 18446744073709551616) (w : World) :
    Calls Tryz.prog 153 #[.int .u64 hi, .int .u64 lo, .int .u64 y] w fun e w' => e = .returned (.tuple #[.int .u64 ((hi * 18446744073709551616 + lo) / y), .int .u64 ((hi * 18446744073709551616 + lo) % y)]) ∧ Below w.heap.size w w' := by
  by_cases h0 : hi = 0
  · subst h0
    rw [Int.zero_mul, Int.zero_add]
    exact div64_low lo y hl (by omega) w
  · obtain ⟨s, hs, hs2, n1, n2⟩ := Z.ds_norm y.toNat (by omega) (by omega)
    rw [show (y.toNat : Int) = y by omega] at n1 n2
    have hp := Z.p2_pos s
    have up := Z.ds_up hi lo s (by omega) hl.1
    have hlo : lo / 2 ^ (64 - s) < 2 ^ s := by
      have hp6 := Z.p2_pos (64 - s)
      rw [Int.ediv_lt_iff_lt_mul (by omega), ← Z.p2_add, show s + (64 - s) = 64 by omega]; omega
    have hlo0 : 0 ≤ lo / 2 ^ (64 - s) := Int.ediv_nonneg hl.1 (by have := Z.p2_pos (64 - s); omega)
    have hhi : hi * 2 ^ s + 2 ^ s ≤ y * 2 ^ s := by
      have := Int.mul_le_mul_of_nonneg_right (show hi + 1 ≤ y by omega) (show (0 : Int) ≤ 2 ^ s by omega)
      rw [Int.add_mul, Int.one_mul] at this; omega
    have hhi0 : 0 ≤ hi * 2 ^ s := Int.mul_nonneg hh.1 (by omega)
    have hX : 0 ≤ lo * 2 ^ s % 18446744073709551616 ∧ lo * 2 ^ s % 18446744073709551616 < 18446744073709551616 := by omega
    obtain ⟨c1, rfl⟩ : ∃ c1, c1 = lo * 2 ^ s % 18446744073709551616 / 4294967296 := ⟨_, rfl⟩
    have D1 := Z.ds_of (y * 2 ^ s) (hi * 2 ^ s + lo / 2 ^ (64 - s)) (lo * 2 ^ s % 18446744073709551616 / 4294967296) n1 n2 (by omega) (by omega) (by omega) (by omega)
    have hYp : 0 < y * 2 ^ s := by omega
    have D0 := Z.ds_of (y * 2 ^ s) (((hi * 2 ^ s + lo / 2 ^ (64 - s)) * 4294967296 + lo * 2 ^ s % 18446744073709551616 / 4294967296) % (y * 2 ^ s)) (lo * 2 ^ s % 18446744073709551616 % 4294967296) n1 n2 (Int.emod_nonneg _ (by omega)) (Int.emod_lt_of_pos _ hYp) (by omega) (by omega)
    have two := Z.ds_two (y * 2 ^ s) (hi * 2 ^ s + lo / 2 ^ (64 - s)) (lo * 2 ^ s % 18446744073709551616 / 4294967296) (lo * 2 ^ s % 18446744073709551616 % 4294967296) hYp
    have eN : (hi * 2 ^ s + lo / 2 ^ (64 - s)) * 18446744073709551616 + lo * 2 ^ s % 18446744073709551616 / 4294967296 * 4294967296 + lo * 2 ^ s % 18446744073709551616 % 4294967296 = (hi * 18446744073709551616 + lo) * 2 ^ s := by omega
    rw [eN] at two
    have c := p2s_cancel (hi * 18446744073709551616 + lo) y s (by omega)
    have r := div64_high hi lo y (y * 2 ^ s) (y * 2 ^ s / 4294967296) (y * 2 ^ s % 4294967296) (hi * 2 ^ s + lo / 2 ^ (64 - s)) (lo * 2 ^ s % 18446744073709551616 / 4294967296) (lo * 2 ^ s % 18446744073709551616 % 4294967296) _ _ _
      (lo * 2 ^ s % 18446744073709551616) _ s hs (by omega) hl (by omega) hs2 ⟨D1, D0, rfl, rfl, rfl⟩ rfl rfl (and_low _ (by omega)) (or_up hi lo s (by omega) hh.1 (by omega) hl.1 hl.2) (by rw [IntKind.wrap_u64]) rfl (and_low _ hX) ⟨n1, n2⟩ (by omega) ⟨by omega, by omega⟩ rfl w
    rw [two.1, two.2, c.1, c.2] at r
    exact r
end Go.Proofs.YtiiddikiaafanaaGreatDoor
