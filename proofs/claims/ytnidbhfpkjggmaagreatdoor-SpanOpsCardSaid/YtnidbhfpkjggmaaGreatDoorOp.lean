/-
  Binary digits of spans, on both sides; what is picked.
-/
import Derived.Test.YtnidbhfpkjggmaaGreatDoorOo
set_option linter.all false
namespace Go.Proofs.YtnidbhfpkjggmaaGreatDoor
open Go.Pv Go.RowKit

/-- The first number of the list that is not below a fraction. -/
def onL : List Int → Int → Int → Int
  | [], _, _ => 0
  | n :: ns, N, D => if n * D < N then onL ns N D else n
def onesL : List Int := [0, 1, 3, 7, 15, 31, 63, 127, 255, 511, 1023, 2047, 4095, 8191, 16383, 32767, 65535, 131071, 262143, 524287, 1048575, 2097151, 4194303, 8388607, 16777215, 33554431, 67108863, 134217727, 268435455, 536870911, 1073741823, 2147483647, 4294967295, 8589934591]
theorem on_step {n N D : Int} {ns : List Int} (G : Int → Option DV) {X : Option DV} (h : n * D < N → X = G (onL ns N D)) : (bif decide (n * D < N) then X else G n) = G (onL (n :: ns) N D) := by
  unfold onL
  by_cases hx : n * D < N
  · rw [decide_eq_true hx, if_pos hx]; exact h hx
  · rw [decide_eq_false hx, if_neg hx]; rfl
theorem on_bd : ∀ (l : List Int), (∀ n ∈ l, 0 ≤ n ∧ n ≤ 8589934591) → ∀ N D, 0 ≤ onL l N D ∧ onL l N D ≤ 8589934591
  | [], _, N, D => by unfold onL; omega
  | n :: ns, h, N, D => by
    unfold onL
    split
    · exact on_bd ns (fun m hm => h m (by simp [hm])) N D
    · exact h n (by simp)
theorem onesL_bd (N D : Int) : 0 ≤ onL onesL N D ∧ onL onesL N D ≤ 8589934591 := on_bd onesL (by unfold onesL; intro n hn; simp at hn; omega) N D
theorem ones_eq {N D : Int} (hN : 0 ≤ N ∧ N ≤ 1073741824) (hD : 1 ≤ D ∧ D ≤ 1073741824) (k : Int → Int → Option DV) : span_ones N D k = k (onL onesL N D) 1 := by
  have hc : ∀ n : Int, 0 ≤ n → n ≤ 1099511627776 → ∀ k', span_compare n 1 N D k' = k' (Q.cmpi (n * D) (N * 1)) := fun n h1 h2 k' => compare_eq (by omega) (by omega) (by omega) (by omega) k'
  have hd : ∀ x : Int, decide (Q.cmpi x (N * 1) < 0) = decide (x < N) := fun x => by rw [cmpi_lt, Int.mul_one]
  have h0 := hc 0 (by omega) (by omega)
  unfold span_ones B_span_ones onesL
  simp only [exactly_eq, hc 0 (by omega) (by omega), hc 1 (by omega) (by omega), hc 3 (by omega) (by omega), hc 7 (by omega) (by omega), hc 15 (by omega) (by omega), hc 31 (by omega) (by omega), hc 63 (by omega) (by omega), hc 127 (by omega) (by omega), hc 255 (by omega) (by omega), hc 511 (by omega) (by omega), hc 1023 (by omega) (by omega), hc 2047 (by omega) (by omega), hc 4095 (by omega) (by omega), hc 8191 (by omega) (by omega), hc 16383 (by omega) (by omega), hc 32767 (by omega) (by omega), hc 65535 (by omega) (by omega), hc 131071 (by omega) (by omega), hc 262143 (by omega) (by omega), hc 524287 (by omega) (by omega), hc 1048575 (by omega) (by omega), hc 2097151 (by omega) (by omega), hc 4194303 (by omega) (by omega), hc 8388607 (by omega) (by omega), hc 16777215 (by omega) (by omega), hc 33554431 (by omega) (by omega), hc 67108863 (by omega) (by omega), hc 134217727 (by omega) (by omega), hc 268435455 (by omega) (by omega), hc 536870911 (by omega) (by omega), hc 1073741823 (by omega) (by omega), hc 2147483647 (by omega) (by omega), hc 4294967295 (by omega) (by omega), hc 8589934591 (by omega) (by omega), hd]
  generalize hG : (fun n => k n 1) = G
  have hk : ∀ n, k n 1 = G n := fun n => by rw [← hG]
  simp only [hk]
  refine on_step G fun h => ?_
  refine on_step G fun h => ?_
  refine on_step G fun h => ?_
  refine on_step G fun h => ?_
  refine on_step G fun h => ?_
  refine on_step G fun h => ?_
  refine on_step G fun h => ?_
  refine on_step G fun h => ?_
  refine on_step G fun h => ?_
  refine on_step G fun h => ?_
  refine on_step G fun h => ?_
  refine on_step G fun h => ?_
  refine on_step G fun h => ?_
  refine on_step G fun h => ?_
  refine on_step G fun h => ?_
  refine on_step G fun h => ?_
  refine on_step G fun h => ?_
  refine on_step G fun h => ?_
  refine on_step G fun h => ?_
  refine on_step G fun h => ?_
  refine on_step G fun h => ?_
  refine on_step G fun h => ?_
  refine on_step G fun h => ?_
  refine on_step G fun h => ?_
  refine on_step G fun h => ?_
  refine on_step G fun h => ?_
  refine on_step G fun h => ?_
  refine on_step G fun h => ?_
  refine on_step G fun h => ?_
  refine on_step G fun h => ?_
  refine on_step G fun h => ?_
  refine on_step G fun h => ?_
  exfalso; omega
theorem fl_iff {N D n : Int} (hD : 1 ≤ D) : (-N / D < -n) ↔ n * D < N := by
  rw [Int.ediv_lt_iff_lt_mul (by omega), Int.neg_mul]; omega
theorem rones_eq {N D : Int} (hN : 0 ≤ N ∧ N ≤ 1073741824) (hD : 1 ≤ D ∧ D ≤ 1073741824) (G : Int → Option DV) (T : Option DV)
    (hT : T = serinetteref01_FloorDiv (IntKind.wrap .i64 (0 - N)) D (fun r0 => bif decide (r0 < IntKind.wrap .i64 (0 - 0)) then (serinetteref01_FloorDiv (IntKind.wrap .i64 (0 - N)) D (fun r1 => bif decide (r1 < IntKind.wrap .i64 (0 - 1)) then (serinetteref01_FloorDiv (IntKind.wrap .i64 (0 - N)) D (fun r2 => bif decide (r2 < IntKind.wrap .i64 (0 - 3)) then (serinetteref01_FloorDiv (IntKind.wrap .i64 (0 - N)) D (fun r3 => bif decide (r3 < IntKind.wrap .i64 (0 - 7)) then (serinetteref01_FloorDiv (IntKind.wrap .i64 (0 - N)) D (fun r4 => bif decide (r4 < IntKind.wrap .i64 (0 - 15)) then (serinetteref01_FloorDiv (IntKind.wrap .i64 (0 - N)) D (fun r5 => bif decide (r5 < IntKind.wrap .i64 (0 - 31)) then (serinetteref01_FloorDiv (IntKind.wrap .i64 (0 - N)) D (fun r6 => bif decide (r6 < IntKind.wrap .i64 (0 - 63)) then (serinetteref01_FloorDiv (IntKind.wrap .i64 (0 - N)) D (fun r7 => bif decide (r7 < IntKind.wrap .i64 (0 - 127)) then (serinetteref01_FloorDiv (IntKind.wrap .i64 (0 - N)) D (fun r8 => bif decide (r8 < IntKind.wrap .i64 (0 - 255)) then (serinetteref01_FloorDiv (IntKind.wrap .i64 (0 - N)) D (fun r9 => bif decide (r9 < IntKind.wrap .i64 (0 - 511)) then (serinetteref01_FloorDiv (IntKind.wrap .i64 (0 - N)) D (fun r10 => bif decide (r10 < IntKind.wrap .i64 (0 - 1023)) then (serinetteref01_FloorDiv (IntKind.wrap .i64 (0 - N)) D (fun r11 => bif decide (r11 < IntKind.wrap .i64 (0 - 2047)) then (serinetteref01_FloorDiv (IntKind.wrap .i64 (0 - N)) D (fun r12 => bif decide (r12 < IntKind.wrap .i64 (0 - 4095)) then (serinetteref01_FloorDiv (IntKind.wrap .i64 (0 - N)) D (fun r13 => bif decide (r13 < IntKind.wrap .i64 (0 - 8191)) then (serinetteref01_FloorDiv (IntKind.wrap .i64 (0 - N)) D (fun r14 => bif decide (r14 < IntKind.wrap .i64 (0 - 16383)) then (serinetteref01_FloorDiv (IntKind.wrap .i64 (0 - N)) D (fun r15 => bif decide (r15 < IntKind.wrap .i64 (0 - 32767)) then (serinetteref01_FloorDiv (IntKind.wrap .i64 (0 - N)) D (fun r16 => bif decide (r16 < IntKind.wrap .i64 (0 - 65535)) then (serinetteref01_FloorDiv (IntKind.wrap .i64 (0 - N)) D (fun r17 => bif decide (r17 < IntKind.wrap .i64 (0 - 131071)) then (serinetteref01_FloorDiv (IntKind.wrap .i64 (0 - N)) D (fun r18 => bif decide (r18 < IntKind.wrap .i64 (0 - 262143)) then (serinetteref01_FloorDiv (IntKind.wrap .i64 (0 - N)) D (fun r19 => bif decide (r19 < IntKind.wrap .i64 (0 - 524287)) then (serinetteref01_FloorDiv (IntKind.wrap .i64 (0 - N)) D (fun r20 => bif decide (r20 < IntKind.wrap .i64 (0 - 1048575)) then (serinetteref01_FloorDiv (IntKind.wrap .i64 (0 - N)) D (fun r21 => bif decide (r21 < IntKind.wrap .i64 (0 - 2097151)) then (serinetteref01_FloorDiv (IntKind.wrap .i64 (0 - N)) D (fun r22 => bif decide (r22 < IntKind.wrap .i64 (0 - 4194303)) then (serinetteref01_FloorDiv (IntKind.wrap .i64 (0 - N)) D (fun r23 => bif decide (r23 < IntKind.wrap .i64 (0 - 8388607)) then (serinetteref01_FloorDiv (IntKind.wrap .i64 (0 - N)) D (fun r24 => bif decide (r24 < IntKind.wrap .i64 (0 - 16777215)) then (serinetteref01_FloorDiv (IntKind.wrap .i64 (0 - N)) D (fun r25 => bif decide (r25 < IntKind.wrap .i64 (0 - 33554431)) then (serinetteref01_FloorDiv (IntKind.wrap .i64 (0 - N)) D (fun r26 => bif decide (r26 < IntKind.wrap .i64 (0 - 67108863)) then (serinetteref01_FloorDiv (IntKind.wrap .i64 (0 - N)) D (fun r27 => bif decide (r27 < IntKind.wrap .i64 (0 - 134217727)) then (serinetteref01_FloorDiv (IntKind.wrap .i64 (0 - N)) D (fun r28 => bif decide (r28 < IntKind.wrap .i64 (0 - 268435455)) then (serinetteref01_FloorDiv (IntKind.wrap .i64 (0 - N)) D (fun r29 => bif decide (r29 < IntKind.wrap .i64 (0 - 536870911)) then (serinetteref01_FloorDiv (IntKind.wrap .i64 (0 - N)) D (fun r30 => bif decide (r30 < IntKind.wrap .i64 (0 - 1073741823)) then (serinetteref01_FloorDiv (IntKind.wrap .i64 (0 - N)) D (fun r31 => bif decide (r31 < IntKind.wrap .i64 (0 - 2147483647)) then (serinetteref01_FloorDiv (IntKind.wrap .i64 (0 - N)) D (fun r32 => bif decide (r32 < IntKind.wrap .i64 (0 - 4294967295)) then (serinetteref01_FloorDiv (IntKind.wrap .i64 (0 - N)) D (fun r33 => bif decide (r33 < IntKind.wrap .i64 (0 - 8589934591)) then (none) else G 8589934591)) else G 4294967295)) else G 2147483647)) else G 1073741823)) else G 536870911)) else G 268435455)) else G 134217727)) else G 67108863)) else G 33554431)) else G 16777215)) else G 8388607)) else G 4194303)) else G 2097151)) else G 1048575)) else G 524287)) else G 262143)) else G 131071)) else G 65535)) else G 32767)) else G 16383)) else G 8191)) else G 4095)) else G 2047)) else G 1023)) else G 511)) else G 255)) else G 127)) else G 63)) else G 31)) else G 15)) else G 7)) else G 3)) else G 1)) else G 0)) : T = G (onL onesL N D) := by
  rw [hT]
  have hw : IntKind.wrap .i64 (0 - N) = -N := by rw [Int.zero_sub]; exact IntWalk.i64_in _ (by omega)
  have hf : ∀ k : Int → Option DV, serinetteref01_FloorDiv (-N) D k = k (-N / D) := fun k => by
    unfold serinetteref01_FloorDiv
    rw [decide_eq_true (by omega)]; rfl
  have hd : ∀ n : Int, 0 ≤ n → n ≤ 1099511627776 → decide (-N / D < IntKind.wrap .i64 (0 - n)) = decide (n * D < N) := fun n h1 h2 => by
    rw [Int.zero_sub, IntWalk.i64_in (-n) (by omega), decide_eq_decide]; exact fl_iff hD.1
  unfold onesL
  simp only [hw, hf, hd 0 (by omega) (by omega), hd 1 (by omega) (by omega), hd 3 (by omega) (by omega), hd 7 (by omega) (by omega), hd 15 (by omega) (by omega), hd 31 (by omega) (by omega), hd 63 (by omega) (by omega), hd 127 (by omega) (by omega), hd 255 (by omega) (by omega), hd 511 (by omega) (by omega), hd 1023 (by omega) (by omega), hd 2047 (by omega) (by omega), hd 4095 (by omega) (by omega), hd 8191 (by omega) (by omega), hd 16383 (by omega) (by omega), hd 32767 (by omega) (by omega), hd 65535 (by omega) (by omega), hd 131071 (by omega) (by omega), hd 262143 (by omega) (by omega), hd 524287 (by omega) (by omega), hd 1048575 (by omega) (by omega), hd 2097151 (by omega) (by omega), hd 4194303 (by omega) (by omega), hd 8388607 (by omega) (by omega), hd 16777215 (by omega) (by omega), hd 33554431 (by omega) (by omega), hd 67108863 (by omega) (by omega), hd 134217727 (by omega) (by omega), hd 268435455 (by omega) (by omega), hd 536870911 (by omega) (by omega), hd 1073741823 (by omega) (by omega), hd 2147483647 (by omega) (by omega), hd 4294967295 (by omega) (by omega), hd 8589934591 (by omega) (by omega)]
  refine on_step G fun h => ?_
  refine on_step G fun h => ?_
  refine on_step G fun h => ?_
  refine on_step G fun h => ?_
  refine on_step G fun h => ?_
  refine on_step G fun h => ?_
  refine on_step G fun h => ?_
  refine on_step G fun h => ?_
  refine on_step G fun h => ?_
  refine on_step G fun h => ?_
  refine on_step G fun h => ?_
  refine on_step G fun h => ?_
  refine on_step G fun h => ?_
  refine on_step G fun h => ?_
  refine on_step G fun h => ?_
  refine on_step G fun h => ?_
  refine on_step G fun h => ?_
  refine on_step G fun h => ?_
  refine on_step G fun h => ?_
  refine on_step G fun h => ?_
  refine on_step G fun h => ?_
  refine on_step G fun h => ?_
  refine on_step G fun h => ?_
  refine on_step G fun h => ?_
  refine on_step G fun h => ?_
  refine on_step G fun h => ?_
  refine on_step G fun h => ?_
  refine on_step G fun h => ?_
  refine on_step G fun h => ?_
  refine on_step G fun h => ?_
  refine on_step G fun h => ?_
  refine on_step G fun h => ?_
  exfalso; omega
namespace S
def count (s : Sp) : Bool := (s.den == 1) && (Q.isq s.ln s.ld && decide (0 ≤ s.ln) && Q.isq s.hn s.hd)
def digs (an : Bool) (s t : Sp) : Sp :=
  if (count s && count t) = true then
    (if an = true then close (lowE 0 1) (upE (Q.min (s.hn, s.hd) (t.hn, t.hd)).1 (Q.min (s.hn, s.hd) (t.hn, t.hd)).2) 1
     else close (lowE 0 1) (upE (onL onesL (Q.max (s.hn, s.hd) (t.hn, t.hd)).1 (Q.max (s.hn, s.hd) (t.hn, t.hd)).2) 1) 1)
  else all
end S
theorem digs_em (an : Bool) (s t : Sp) : (S.digs an s t).em = false := by
  unfold S.digs
  split
  · split <;> rfl
  · rfl
theorem count_eq {s : Sp} (h : S.Ok s) (k : Bool → Option DV) : span_isCount s.ln s.ld s.hn s.hd s.den s.no s.em k = k (S.count s) := by
  unfold span_isCount B_span_isCount span_isOpen B_span_isOpen S.count
  simp only [open_eq h.lo, open_eq h.hi]
  have hg : decide (s.ln ≥ 0) = decide (0 ≤ s.ln) := rfl
  rw [hg]
  cases (s.den == 1)
  · rfl
  · cases Q.isq s.ln s.ld
    · rfl
    · cases decide (0 ≤ s.ln)
      · rfl
      · cases Q.isq s.hn s.hd <;> rfl
/-- The ends of two counts. -/
theorem count_ends {s t : Sp} (hs : S.Ok s) (ht : S.Ok t) (h1 : S.count s = true) (h2 : S.count t = true) :
    (Q.isq s.hn s.hd = true ∧ Q.isq t.hn t.hd = true) ∧ (0 ≤ s.hn ∧ 0 ≤ t.hn) := by
  unfold S.count at h1 h2
  simp at h1 h2
  obtain ⟨_, ⟨a1, a2⟩, a3⟩ := h1
  obtain ⟨_, ⟨b1, b2⟩, b3⟩ := h2
  have e1 := isq_bd a1
  have e2 := isq_bd a3
  have e3 := isq_bd b1
  have e4 := isq_bd b3
  have l1 := hs.le a1 a3
  have l2 := ht.le b1 b3
  have nn : ∀ a b c d : Int, 0 ≤ a → 1 ≤ b → 1 ≤ d → a * d ≤ c * b → 0 ≤ c := by
    intro a b c d ha hb hd h
    have : 0 ≤ a * d := Int.mul_nonneg ha (by omega)
    apply Classical.byContradiction
    intro hc
    have : c * b < 0 := Int.mul_neg_of_neg_of_pos (by omega) (by omega)
    omega
  exact ⟨⟨a3, b3⟩, nn _ _ _ _ a2 (by omega) (by omega) l1, nn _ _ _ _ b2 (by omega) (by omega) l2⟩
theorem mm_ends {s t : Sp} (hs : S.Ok s) (ht : S.Ok t) (h1 : S.count s = true) (h2 : S.count t = true) :
    ((0 ≤ (Q.max (s.hn, s.hd) (t.hn, t.hd)).1 ∧ (Q.max (s.hn, s.hd) (t.hn, t.hd)).1 ≤ 1073741824) ∧ (1 ≤ (Q.max (s.hn, s.hd) (t.hn, t.hd)).2 ∧ (Q.max (s.hn, s.hd) (t.hn, t.hd)).2 ≤ 1073741824)) ∧
    ((0 ≤ (Q.min (s.hn, s.hd) (t.hn, t.hd)).1 ∧ (Q.min (s.hn, s.hd) (t.hn, t.hd)).1 ≤ 1073741824) ∧ (1 ≤ (Q.min (s.hn, s.hd) (t.hn, t.hd)).2 ∧ (Q.min (s.hn, s.hd) (t.hn, t.hd)).2 ≤ 1073741824)) := by
  obtain ⟨⟨q1, q2⟩, n1, n2⟩ := count_ends hs ht h1 h2
  have e1 := isq_bd q1
  have e2 := isq_bd q2
  constructor
  · rcases max_pick q1 q2 with ⟨e, _⟩ | ⟨e, _⟩ <;> rw [e] <;> simp only [] <;> omega
  · rcases min_pick q1 q2 with ⟨e, _⟩ | ⟨e, _⟩ <;> rw [e] <;> simp only [] <;> omega
theorem digits_prog (op : ByteArray) (an : Bool) (hop : (ByteArray.toList op == ByteArray.toList (⟨#[97, 110, 100]⟩)) = an) {s t : Sp} (hs : S.Ok s) (ht : S.Ok t) (k : Int → Int → Int → Int → Int → Bool → Bool → Option DV) :
    span_digits op s.ln s.ld s.hn s.hd s.den s.no s.em t.ln t.ld t.hn t.hd t.den t.no t.em k = (S.digs an s t).ap k := by
  unfold span_digits B_span_digits S.digs ratio_Min ratio_Max
  simp only [hop, count_eq hs, count_eq ht, all_eq, exactly_eq, zero_eq]
  cases h1 : S.count s
  · simp only [Bool.not_false, Bool.not_true, cF, Bool.false_and, Bool.false_eq_true, if_false]
  · cases h2 : S.count t
    · simp only [Bool.not_false, Bool.not_true, cT, Bool.and_false, Bool.false_eq_true, if_false]
    · simp only [Bool.not_false, Bool.not_true, cT, cF, Bool.and_self, if_true]
      obtain ⟨⟨m1, m2⟩, m3, m4⟩ := mm_ends hs ht h1 h2
      cases an
      · simp only [Bool.not_false, cT, ones_eq m1 m2, Bool.false_eq_true, if_false]
        have b := onesL_bd (Q.max (s.hn, s.hd) (t.hn, t.hd)).1 (Q.max (s.hn, s.hd) (t.hn, t.hd)).2
        exact closed_eq (by omega) (by omega) (by omega) (by omega) (by omega) (by omega) k
      · simp only [Bool.not_true, cF, if_true]
        exact closed_eq (by omega) (by omega) (by omega) (by omega) (by omega) (by omega) k
theorem digits_ref (op : ByteArray) (an : Bool) (hop : (ByteArray.toList op == ByteArray.toList (⟨#[97, 110, 100]⟩)) = an) {s t : Sp} (hs : S.Ok s) (ht : S.Ok t) (o : Bool) (k : Int → Int → Int → Int → Int → Bool → Bool → Option DV) :
    serinetteref03_digits op s.ln s.ld s.hn s.hd s.den s.no s.em t.ln t.ld t.hn t.hd t.den t.no t.em o k = (S.orn (S.digs an s t) o).ap k := by
  unfold serinetteref03_digits B_serinetteref03_digits serinetteref01_Min serinetteref01_Max serinetteref01_Is
  simp only [hop, whole0, less_eq, isq01, Bool.true_and, Int.zero_mul, Int.mul_one, le_or, unknown_eq]
  have hcs : S.count s = ((s.den == 1) && (Q.isq s.ln s.ld && decide (0 ≤ s.ln) && Q.isq s.hn s.hd)) := rfl
  have hct : S.count t = ((t.den == 1) && (Q.isq t.ln t.ld && decide (0 ≤ t.ln) && Q.isq t.hn t.hd)) := rfl
  cases hc : (S.count s && S.count t)
  · have hd : S.digs an s t = S.all := by unfold S.digs; rw [hc]; rfl
    rw [hd, orn_all]
    rw [hcs, hct] at hc
    cases d1 : (s.den == 1)
    · rw [cF]
    · rw [cT]
      cases d2 : (t.den == 1)
      · rw [cF]
      · rw [cT]
        cases l1 : (Q.isq s.ln s.ld && decide (0 ≤ s.ln))
        · rw [cF]
        · rw [cT]
          cases l2 : (Q.isq t.ln t.ld && decide (0 ≤ t.ln))
          · rw [cF]
          · rw [cT]
            cases u1 : Q.isq s.hn s.hd
            · rw [cF]
            · rw [cT]
              cases u2 : Q.isq t.hn t.hd
              · rw [Bool.not_false, cT]
              · rw [d1, d2, l1, l2, u1, u2] at hc; cases hc
  · simp only [Bool.and_eq_true] at hc
    obtain ⟨c1, c2⟩ := hc
    obtain ⟨⟨m1, m2⟩, m3, m4⟩ := mm_ends hs ht c1 c2
    have hd : S.digs an s t = (if an = true then S.close (S.lowE 0 1) (S.upE (Q.min (s.hn, s.hd) (t.hn, t.hd)).1 (Q.min (s.hn, s.hd) (t.hn, t.hd)).2) 1
     else S.close (S.lowE 0 1) (S.upE (onL onesL (Q.max (s.hn, s.hd) (t.hn, t.hd)).1 (Q.max (s.hn, s.hd) (t.hn, t.hd)).2) 1) 1) := by unfold S.digs; rw [c1, c2]; rfl
    rw [hd]
    rw [hcs] at c1
    rw [hct] at c2
    simp only [Bool.and_eq_true] at c1 c2
    obtain ⟨d1, l1, u1⟩ := c1
    obtain ⟨d2, l2, u2⟩ := c2
    have l1' : (Q.isq s.ln s.ld && decide (0 ≤ s.ln)) = true := by rw [l1.1, l1.2]; rfl
    have l2' : (Q.isq t.ln t.ld && decide (0 ≤ t.ln)) = true := by rw [l2.1, l2.2]; rfl
    rw [d1, cT, d2, cT, l1', cT, l2', cT, u1, cT, u2, Bool.not_true, cF]
    have e0 : ∀ k, serinetteref03_outward 0 1 false false k = k (S.lowE 0 1).1 (S.lowE 0 1).2 := fun k => by rw [routward_eq false (by omega) (by omega)]; rfl
    cases an
    · rw [Bool.not_false, cT, if_neg (by decide)]
      have b := onesL_bd (Q.max (s.hn, s.hd) (t.hn, t.hd)).1 (Q.max (s.hn, s.hd) (t.hn, t.hd)).2
      refine (rones_eq m1 m2 (fun n => serinetteref03_closed 0 1 false n 1 false 1 o k) _ rfl).trans ?_
      exact rclosed_out e0 (fun k => by rw [routward_eq true (by omega) (by omega)]; rfl) o (by omega) (by omega) k
    · rw [Bool.not_true, cF, if_pos rfl]
      exact rclosed_out e0 (fun k => by rw [routward_eq true (by omega) (by omega)]; rfl) o (by omega) (by omega) k
theorem two_and {s t : Sp} (hs : S.Ok s) (ht : S.Ok t) : TwoIs ⟨#[97, 110, 100]⟩ s t (S.digs true s t) :=
  ⟨fun k => by rw [tw_and, digits_prog _ true lc_and_and hs ht], fun k => by rw [rtw_and, rcommon_eq hs.d0 hs.d1 ht.d0 ht.d1, digits_ref _ true lc_and_and hs ht], digs_em _ _ _⟩
theorem two_or {s t : Sp} (hs : S.Ok s) (ht : S.Ok t) : TwoIs ⟨#[111, 114]⟩ s t (S.digs false s t) :=
  ⟨fun k => by rw [tw_or, digits_prog _ false lc_or_and hs ht], fun k => by rw [rtw_or, rcommon_eq hs.d0 hs.d1 ht.d0 ht.d1, digits_ref _ false lc_or_and hs ht], digs_em _ _ _⟩
theorem two_xor {s t : Sp} (hs : S.Ok s) (ht : S.Ok t) : TwoIs ⟨#[120, 111, 114]⟩ s t (S.digs false s t) :=
  ⟨fun k => by rw [tw_xor, digits_prog _ false lc_xor_and hs ht], fun k => by rw [rtw_xor, rcommon_eq hs.d0 hs.d1 ht.d0 ht.d1, digits_ref _ false lc_xor_and hs ht], digs_em _ _ _⟩
end Go.Proofs.YtnidbhfpkjggmaaGreatDoor
