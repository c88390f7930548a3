import Derived.Test.YtiiddikiaafanaaGreatDoorRows
import Derived.Test.YtiiddikiaafanaaGreatDoorQf
import Derived.WalkKit
import Derived.WalkSpells
import Derived.WalkLawsBesides
import Derived.BigQuiet
import Derived.Deep.QuietTactic
import Derived.Deep.RegionHeld3
import Derived.Lib.Hide
import Derived.Handy
set_option linter.all false
/-
  The leaves of numbers: size, divisor, Is, Make, lowest, and the specification's own: what each call gives.
-/
namespace Go.Proofs.YtiiddikiaafanaaGreatDoor
open Go.RowKit

theorem bcell {W w1 : World} (hb : Below W.heap.size W w1) : (∀ b o, b < W.heap.size → w1.cell? ⟨b, o, none⟩ = W.cell? ⟨b, o, none⟩) ∧ (∀ b o, b < W.heap.size → w1.frozen? ⟨b, o, none⟩ = W.frozen? ⟨b, o, none⟩) :=
  ⟨fun b o h => hb.cell (p := ⟨b, o, none⟩) h, fun b o h => hb.frozen (p := ⟨b, o, none⟩) h⟩
theorem bck {W w1 : World} (k : Nat) (hb : Below W.heap.size W w1) (hk : k ≤ W.heap.size) : (∀ b o, b < k → w1.cell? ⟨b, o, none⟩ = W.cell? ⟨b, o, none⟩) ∧ (∀ b o, b < k → w1.frozen? ⟨b, o, none⟩ = W.frozen? ⟨b, o, none⟩) ∧ k ≤ w1.heap.size :=
  ⟨fun _ _ h => hb.cell (p := ⟨_, _, none⟩) (Nat.lt_of_lt_of_le h hk), fun _ _ h => hb.frozen (p := ⟨_, _, none⟩) (Nat.lt_of_lt_of_le h hk), Nat.le_trans hk hb.size⟩
theorem drewN_below {B : Nat} {a w : World} (h : Below B a w) (n : Nat) : Below B a (w.drewN n) := h.trans ⟨rfl, rfl, rfl, Nat.le_refl _, fun _ _ => rfl⟩
theorem bl {B : Nat} {a w : World} (h : Below B a w := by repeat' (first | (with_reducible exact Below.refl _ _) | (with_reducible assumption) | (with_reducible refine drewN_below ?_ _) | (with_reducible refine Below.drew ?_) | (with_reducible refine Below.alloc ?_ ?_ _) | (with_reducible refine Below.setCell ?_ ?_ _) | (simp; done) | omega | (simp; omega))) : Below B a w := h
/-- What is below the whole of a world, from below some of it on. -/
theorem on_below {B : Nat} {a W w1 : World} (hb : Below W.heap.size W w1) (h : Below B a W) (hB : B ≤ W.heap.size) : Below B a w1 := h.trans (hb.mono hB)

theorem u64_negs (n : Int) (h0 : -9223372036854775808 ≤ n) (h : n < 0) : IntKind.u64.wrap (-IntKind.u64.wrap n) = (n.natAbs : Int) := by
  simp only [IntKind.wrap, IntKind.bits, IntKind.signed]
  simp
  omega

set_option maxHeartbeats 400000 in
theorem size_neg (n : Int) (h0 : -9223372036854775808 ≤ n) (h : n < 0) (w : World) :
    Calls Tryz.prog 75 #[.int .i64 n] w fun e w' => e = .returned (.int .u64 (n.natAbs : Int)) ∧ w = w' := by
  have HS := Lib.hid (u64_negs n h0 h)
  go_enter Tryz.func75, Tryz.ntmps75
  go_wp2
  go_ret
  exact ⟨by rw [← HS.out]; rfl, rfl⟩
set_option maxHeartbeats 400000 in
theorem size_pos (n : Int) (h0 : n ≤ 9223372036854775807) (h : 0 ≤ n) (w : World) :
    Calls Tryz.prog 75 #[.int .i64 n] w fun e w' => e = .returned (.int .u64 (n.natAbs : Int)) ∧ w = w' := by
  have HS := Lib.hid (show n = (n.natAbs : Int) by omega)
  go_enter Tryz.func75, Tryz.ntmps75
  go_wp2
  go_ret
  exact ⟨by rw [← HS.out]; rfl, rfl⟩
theorem size_any (n : Int) (h0 : -9223372036854775808 ≤ n ∧ n ≤ 9223372036854775807) (w : World) :
    Calls Tryz.prog 75 #[.int .i64 n] w fun e w' => e = .returned (.int .u64 (n.natAbs : Int)) ∧ w = w' := by
  by_cases h : n < 0
  · exact size_neg n h0.1 h w
  · exact size_pos n h0.2 (by omega) w

set_option maxHeartbeats 400000 in
theorem divisor_any (a b : Nat) (ha : a < 18446744073709551616) (hb : b < 18446744073709551616) (w : World) :
    Calls Tryz.prog 74 #[.int .u64 a, .int .u64 b] w fun e w' => e = .returned (.int .u64 (Nat.gcd a b : Nat)) ∧ Below w.heap.size w w' := by
  generalize hB : w.heap.size = B
  have HB := Lib.hid hB; clear hB
  go_enter Tryz.func74, Tryz.ntmps74
  go_wp2
  go_loopw [0, 1] (fun x y wr => ∃ c d : Nat, x = .int .u64 c ∧ y = .int .u64 d ∧ Hid (Nat.gcd c d = Nat.gcd a b ∧ d < 18446744073709551616 ∧ c < 18446744073709551616) ∧ Below B w wr) (fun _ y _ => (intOf y).toNat)
  case atStart => exact ⟨a, b, rfl, rfl, Lib.hid ⟨rfl, hb, ha⟩, Below.refl _ _⟩
  case round =>
    obtain ⟨c, d, rfl, rfl, H, hbel⟩ := hrel
    by_cases hd : d = 0
    · subst hd
      go_wp2
      go_ret
      exact ⟨by have := H.out.1; simp at this; rw [← this]; rfl, hbel⟩
    · have hd1 : (0:Int) < (d : Int) := by omega
      go_wp2
      go_quiet (fail)
      go_wp2
      have h := H.out
      refine ⟨⟨d, c % d, rfl, rfl, Lib.hid ⟨?_, ?_, h.2.1⟩, drewN_below hbel _⟩, ?_⟩
      · rw [← h.1, Nat.gcd_comm c d, Nat.gcd_rec d c, Nat.gcd_comm]
      · have := Nat.mod_lt c (Nat.pos_of_ne_zero hd); omega
      · simp only [intOf]
        have := Nat.mod_lt c (Nat.pos_of_ne_zero hd); omega

set_option maxHeartbeats 400000 in
theorem is_in (n d : Int) (h1 : -1073741824 ≤ n) (h2 : n ≤ 1073741824) (h3 : 1 ≤ d) (h4 : d ≤ 1073741824) (w : World) :
    Calls Tryz.prog 31 #[.agg #[.int .i64 n, .int .i64 d]] w fun e w' => e = .returned (.bool (Q.isq n d)) ∧ Below w.heap.size w w' := by
  have HQ : Hid (((n.natAbs.gcd d.natAbs : Nat) == (1 : Int)) = Q.isq n d) := by
    unfold Hid; rw [Bool.eq_iff_iff, Q.isq_iff]; simp; omega
  go_enter Tryz.func31, Tryz.ntmps31
  go_wp2
  go_region_held3 (fun w' => w'.cell? ⟨w.heap.size, 0, none⟩ = some (.int .i64 n) ∧ w'.cell? ⟨w.heap.size, 1, none⟩ = some (.int .i64 d)) (go_keep)
    (first | (go_at_call 75; refine (size_any _ (by omega) _).mono ?_; rintro e w1 ⟨rfl, rfl⟩) | (go_at_call 74; refine (divisor_any _ _ (by omega) (by omega) _).mono ?_; rintro e w1 ⟨rfl, hb1⟩; obtain ⟨hc1, hf1⟩ := bcell hb1))
  go_wp2
  go_ret
  exact ⟨by rw [← HQ.out]; rfl, on_below hb1 (by go_grown) (by simp)⟩
set_option maxHeartbeats 400000 in
theorem is_out (n d : Int) (h : Q.isq n d = false) (h1 : ¬ (-1073741824 ≤ n ∧ n ≤ 1073741824 ∧ 1 ≤ d ∧ d ≤ 1073741824)) (w : World) :
    Calls Tryz.prog 31 #[.agg #[.int .i64 n, .int .i64 d]] w fun e w' => e = .returned (.bool (Q.isq n d)) ∧ Below w.heap.size w w' := by
  rw [h]; clear h
  by_cases a1 : n < -1073741824
  all_goals by_cases a2 : 1073741824 < n
  all_goals by_cases a3 : d < 1
  all_goals by_cases a4 : 1073741824 < d
  all_goals first | (exfalso; omega) | skip
  all_goals
    clear h1
    go_enter Tryz.func31, Tryz.ntmps31
    go_wp2
    go_ret
    exact ⟨rfl, by go_grown⟩
theorem is_any (n d : Int) (w : World) :
    Calls Tryz.prog 31 #[.agg #[.int .i64 n, .int .i64 d]] w fun e w' => e = .returned (.bool (Q.isq n d)) ∧ Below w.heap.size w w' := by
  by_cases h : -1073741824 ≤ n ∧ n ≤ 1073741824 ∧ 1 ≤ d ∧ d ≤ 1073741824
  · exact is_in n d h.1 h.2.1 h.2.2.1 h.2.2.2 w
  · exact is_out n d (by cases hq : Q.isq n d with | false => rfl | true => have := (Q.isq_iff n d).1 hq; omega) h w
end Go.Proofs.YtiiddikiaafanaaGreatDoor

/-
  The specification's own leaves: None, Divisor, Is, least.
-/
namespace Go.Proofs.YtiiddikiaafanaaGreatDoor
open Go.RowKit

set_option maxHeartbeats 400000 in
theorem rnone_any (w : World) :
    Calls Tryz.prog 16 #[] w fun e w' => e = .returned (.agg #[.int .i64 0, .int .i64 0]) ∧ Below w.heap.size w w' := by
  go_enter Tryz.func16, Tryz.ntmps16
  go_wp2
  go_returns
  exact ⟨rfl, by go_grown⟩
set_option maxHeartbeats 400000 in
theorem rleast_no (n : Int) (h0 : -9223372036854775807 ≤ n ∧ n ≤ 9223372036854775807) (w : World) :
    Calls Tryz.prog 83 #[.int .i64 n] w fun e w' => e = .returned (.bool false) ∧ w = w' := by
  by_cases hn : n = 0
  · subst hn
    go_enter Tryz.func83, Tryz.ntmps83
    go_wp2
    go_ret
    exact ⟨rfl, rfl⟩
  · have h1 : (n == -n) = false := by rw [beq_eq_false_iff_ne]; omega
    go_enter Tryz.func83, Tryz.ntmps83
    go_wp2
    go_ret
    exact ⟨rfl, rfl⟩
def leastInt : Int := -9223372036854775808
theorem leastInt_wrap : wrap64 (-leastInt) = leastInt := by unfold wrap64 leastInt; omega
theorem leastInt_ne : (leastInt != 0) = true := by decide
set_option maxHeartbeats 400000 in
theorem rleast_yes (w : World) :
    Calls Tryz.prog 83 #[.int .i64 leastInt] w fun e w' => e = .returned (.bool true) ∧ w = w' := by
  have h1 := leastInt_wrap
  have h2 := leastInt_ne
  go_enter Tryz.func83, Tryz.ntmps83
  go_wp2
  go_ret
  exact ⟨rfl, rfl⟩
set_option maxHeartbeats 400000 in
theorem rdivisor_any (a b : Int) (ha : -9223372036854775807 ≤ a ∧ a ≤ 9223372036854775807) (hb : -9223372036854775807 ≤ b ∧ b ≤ 9223372036854775807) (w : World) :
    Calls Tryz.prog 55 #[.int .i64 a, .int .i64 b] w fun e w' => e = .returned (.int .i64 (Nat.gcd a.natAbs b.natAbs : Nat)) ∧ w = w' := by
  by_cases h1 : a < 0
  all_goals by_cases h2 : b < 0
  all_goals
    go_enter Tryz.func55, Tryz.ntmps55
    go_wp2
    go_loop [0, 1, 5] (fun x y _ => ∃ c d : Nat, x = .int .i64 c ∧ y = .int .i64 d ∧ Hid (Nat.gcd c d = Nat.gcd a.natAbs b.natAbs ∧ d < 9223372036854775808 ∧ c < 9223372036854775808)) (fun _ y _ => (intOf y).toNat)
    case atStart => exact ⟨a.natAbs, b.natAbs, by congr 1; omega, by congr 1; omega, Lib.hid ⟨rfl, by omega, by omega⟩⟩
    case round =>
      obtain ⟨c, d, rfl, rfl, H⟩ := hrel
      have hc9 : (c : Int) ≤ 9223372036854775807 := by have := H.out; omega
      have hd9 : (d : Int) ≤ 9223372036854775807 := by have := H.out; omega
      by_cases hd : d = 0
      · subst hd
        go_wp2
        go_ret
        exact ⟨by have := H.out.1; simp at this; rw [← this]; rfl, rfl⟩
      · have hd1 : (0:Int) < (d : Int) := by omega
        go_wp2
        have h := H.out
        refine ⟨⟨d, c % d, rfl, rfl, Lib.hid ⟨?_, ?_, h.2.1⟩⟩, ?_⟩
        · rw [← h.1, Nat.gcd_comm c d, Nat.gcd_rec d c, Nat.gcd_comm]
        · have := Nat.mod_lt c (Nat.pos_of_ne_zero hd); omega
        · simp only [intOf]
          have := Nat.mod_lt c (Nat.pos_of_ne_zero hd); omega
set_option maxHeartbeats 400000 in
theorem ris_any (n d : Int) (w : World) :
    Calls Tryz.prog 15 #[.agg #[.int .i64 n, .int .i64 d]] w fun e w' => e = .returned (.bool (Q.isq n d)) ∧ Below w.heap.size w w' := by
  by_cases h : -1073741824 ≤ n ∧ n ≤ 1073741824 ∧ 1 ≤ d ∧ d ≤ 1073741824
  · obtain ⟨h1, h2, h3, h4⟩ := h
    have HQ : Hid (((n.natAbs.gcd d.natAbs : Nat) == (1 : Int)) = Q.isq n d) := by
      unfold Hid; rw [Bool.eq_iff_iff, Q.isq_iff]; simp; omega
    go_enter Tryz.func15, Tryz.ntmps15
    go_wp2_with (go_at_call 55; refine (rdivisor_any _ _ (by omega) (by omega) _).mono ?_; rintro e w1 ⟨rfl, rfl⟩)
    go_ret
    exact ⟨by rw [← HQ.out]; rfl, by go_grown⟩
  · have hq : Q.isq n d = false := by cases hq : Q.isq n d with | false => rfl | true => have := (Q.isq_iff n d).1 hq; omega
    rw [hq]; clear hq
    by_cases a1 : n < -1073741824
    all_goals by_cases a2 : 1073741824 < n
    all_goals by_cases a3 : d < 1
    all_goals by_cases a4 : 1073741824 < d
    all_goals first | (exfalso; omega) | skip
    all_goals
      clear h
      go_enter Tryz.func15, Tryz.ntmps15
      go_wp2
      go_ret
      exact ⟨rfl, by go_grown⟩
end Go.Proofs.YtiiddikiaafanaaGreatDoor

/-
  Make and lowest, and the specification's Make: all give Q.mk.
-/
namespace Go.Proofs.YtiiddikiaafanaaGreatDoor
open Go.RowKit

set_option maxHeartbeats 400000 in
theorem lowest_zero (s : Bool) (n : Nat) (w : World) :
    Calls Tryz.prog 122 #[.bool s, .int .u64 n, .int .u64 0] w fun e w' => e = .returned (.agg #[.int .i64 0, .int .i64 0]) ∧ Below w.heap.size w w' := by
  go_enter Tryz.func122, Tryz.ntmps122
  go_wp2
  go_returns
  exact ⟨rfl, by go_grown⟩

set_option maxHeartbeats 400000 in
theorem lowest_out (s : Bool) (n d g : Nat) (hn : n < 18446744073709551616) (hd : d < 18446744073709551616) (h0 : 0 < d) (hg : Hid (n.gcd d = g)) (hgp : 0 < g)
    (h : 1073741824 < n / g ∨ 1073741824 < d / g) (w : World) :
    Calls Tryz.prog 122 #[.bool s, .int .u64 n, .int .u64 d] w fun e w' => e = .returned (.agg #[.int .i64 0, .int .i64 0]) ∧ Below w.heap.size w w' := by
  have q1 := Nat.div_le_self n g
  have q2 := Nat.div_le_self d g
  have e1 : ((n / g : Nat) : Int) = (n : Int) / (g : Int) := by simp
  have e2 : ((d / g : Nat) : Int) = (d : Int) / (g : Int) := by simp
  have p1 : 0 ≤ (n : Int) / (g : Int) := Int.ediv_nonneg (by omega) (by omega)
  have p2 : 0 ≤ (d : Int) / (g : Int) := Int.ediv_nonneg (by omega) (by omega)
  have u1 : IntKind.u64.wrap ((n : Int) / (g : Int)) = (n : Int) / (g : Int) := IntWalk.u64_in _ (by omega)
  have u2 : IntKind.u64.wrap ((d : Int) / (g : Int)) = (d : Int) / (g : Int) := IntWalk.u64_in _ (by omega)
  by_cases a1 : 1073741824 < (n : Int) / (g : Int)
  · have t1 : decide (1073741824 < (n : Int) / (g : Int)) = true := by simp [a1]
    clear e1 e2 q1 q2 h a1
    go_enter Tryz.func122, Tryz.ntmps122
    go_wp2_with (go_at_call 74; refine (divisor_any _ _ (by omega) (by omega) _).mono ?_; rintro e w1 ⟨rfl, hb1⟩; obtain ⟨hc1, hf1⟩ := bcell hb1; rw [hg.out])
    go_quiet (fail)
    go_wp2
    have hz1 := hb1.size
    simp at hz1
    exact bodyPost_ret (v := .agg #[.int .i64 0, .int .i64 0]) (by simp [results, Tryz.results122, go_sem, hc1]) rfl ⟨rfl, Below.setCell (Below.setCell (drewN_below (on_below hb1 (by go_grown) (by simp)) _) (by simp) _) (by simp) _⟩
  · have t1 : decide (1073741824 < (n : Int) / (g : Int)) = false := by simp; omega
    have t2 : decide (1073741824 < (d : Int) / (g : Int)) = true := by simp; omega
    clear e1 e2 q1 q2 h a1
    go_enter Tryz.func122, Tryz.ntmps122
    go_wp2_with (go_at_call 74; refine (divisor_any _ _ (by omega) (by omega) _).mono ?_; rintro e w1 ⟨rfl, hb1⟩; obtain ⟨hc1, hf1⟩ := bcell hb1; rw [hg.out])
    go_quiet (fail)
    go_wp2
    have hz1 := hb1.size
    simp at hz1
    exact bodyPost_ret (v := .agg #[.int .i64 0, .int .i64 0]) (by simp [results, Tryz.results122, go_sem, hc1]) rfl ⟨rfl, Below.setCell (Below.setCell (drewN_below (on_below hb1 (by go_grown) (by simp)) _) (by simp) _) (by simp) _⟩

set_option maxHeartbeats 400000 in
theorem lowest_in (s : Bool) (n d g : Nat) (hn : n < 18446744073709551616) (hd : d < 18446744073709551616) (h0 : 0 < d) (hg : Hid (n.gcd d = g)) (hgp : 0 < g)
    (h1 : n / g ≤ 1073741824) (h2 : d / g ≤ 1073741824) (w : World) :
    Calls Tryz.prog 122 #[.bool s, .int .u64 n, .int .u64 d] w fun e w' => e = .returned (.agg #[.int .i64 (if s then -((n / g : Nat) : Int) else ((n / g : Nat) : Int)), .int .i64 ((d / g : Nat) : Int)]) ∧ Below w.heap.size w w' := by
  have e1 : ((n / g : Nat) : Int) = (n : Int) / (g : Int) := by simp
  have e2 : ((d / g : Nat) : Int) = (d : Int) / (g : Int) := by simp
  have p1 : 0 ≤ (n : Int) / (g : Int) := Int.ediv_nonneg (by omega) (by omega)
  have p2 : 0 ≤ (d : Int) / (g : Int) := Int.ediv_nonneg (by omega) (by omega)
  have u1 : IntKind.u64.wrap ((n : Int) / (g : Int)) = (n : Int) / (g : Int) := IntWalk.u64_in _ (by omega)
  have u2 : IntKind.u64.wrap ((d : Int) / (g : Int)) = (d : Int) / (g : Int) := IntWalk.u64_in _ (by omega)
  have v1 : IntKind.i64.wrap ((n : Int) / (g : Int)) = (n : Int) / (g : Int) := IntWalk.i64_in _ (by omega)
  have v2 : IntKind.i64.wrap ((d : Int) / (g : Int)) = (d : Int) / (g : Int) := IntWalk.i64_in _ (by omega)
  have v3 : IntKind.i64.wrap (-((n : Int) / (g : Int))) = -((n : Int) / (g : Int)) := IntWalk.i64_in _ (by omega)
  have t1 : decide (1073741824 < (n : Int) / (g : Int)) = false := by simp; omega
  have t2 : decide (1073741824 < (d : Int) / (g : Int)) = false := by simp; omega
  rw [e1, e2]
  clear e1 e2 h1 h2
  cases s
  · go_enter Tryz.func122, Tryz.ntmps122
    go_wp2_with (go_at_call 74; refine (divisor_any _ _ (by omega) (by omega) _).mono ?_; rintro e w1 ⟨rfl, hb1⟩; obtain ⟨hc1, hf1⟩ := bcell hb1; rw [hg.out])
    go_quiet (fail)
    go_wp2
    have hz1 := hb1.size
    simp at hz1
    exact bodyPost_ret (v := .agg #[.int .i64 ((n : Int) / (g : Int)), .int .i64 ((d : Int) / (g : Int))]) (by simp [results, Tryz.results122, go_sem, hc1]) rfl ⟨rfl, Below.setCell (Below.setCell (drewN_below (on_below hb1 (by go_grown) (by simp)) _) (by simp) _) (by simp) _⟩
  · go_enter Tryz.func122, Tryz.ntmps122
    go_wp2_with (go_at_call 74; refine (divisor_any _ _ (by omega) (by omega) _).mono ?_; rintro e w1 ⟨rfl, hb1⟩; obtain ⟨hc1, hf1⟩ := bcell hb1; rw [hg.out])
    go_quiet (fail)
    go_wp2
    have hz1 := hb1.size
    simp at hz1
    exact bodyPost_ret (v := .agg #[.int .i64 (-((n : Int) / (g : Int))), .int .i64 ((d : Int) / (g : Int))]) (by simp [results, Tryz.results122, go_sem, hc1]) rfl ⟨rfl, Below.setCell (Below.setCell (drewN_below (on_below hb1 (by go_grown) (by simp)) _) (by simp) _) (by simp) _⟩

theorem lowest_any (s : Bool) (n d : Nat) (hn : n < 18446744073709551616) (hd : d < 18446744073709551616) (w : World) :
    Calls Tryz.prog 122 #[.bool s, .int .u64 n, .int .u64 d] w fun e w' => e = .returned (.agg #[.int .i64 (Q.low s n d).1, .int .i64 (Q.low s n d).2]) ∧ Below w.heap.size w w' := by
  by_cases h0 : d = 0
  · subst h0; rw [Q.low_zero]; exact lowest_zero s n w
  · have hgp : 0 < n.gcd d := Nat.gcd_pos_of_pos_right _ (by omega)
    by_cases h : n / n.gcd d > 1073741824 ∨ d / n.gcd d > 1073741824
    · have e : Q.low s n d = (0, 0) := by unfold Q.low; rw [if_neg h0, if_pos h]
      rw [e]; exact lowest_out s n d _ hn hd (by omega) (Lib.hid rfl) hgp h w
    · have e : Q.low s n d = (if s then -((n / n.gcd d : Nat) : Int) else ((n / n.gcd d : Nat) : Int), ((d / n.gcd d : Nat) : Int)) := by unfold Q.low; rw [if_neg h0, if_neg h]
      rw [e]; exact lowest_in s n d _ hn hd (by omega) (Lib.hid rfl) hgp (by omega) (by omega) w
end Go.Proofs.YtiiddikiaafanaaGreatDoor
