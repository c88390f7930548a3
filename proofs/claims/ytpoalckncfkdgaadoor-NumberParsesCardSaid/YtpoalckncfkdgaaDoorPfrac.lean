/-
  Reading a text without a sign: what the call gives.
-/
import Derived.Test.YtpoalckncfkdgaaDoorPdig
import Derived.Laws.RangeString
import Derived.Laws.RangeAny
namespace Go.Proofs.YtpoalckncfkdgaaDoor
open Go.RowKit

theorem digits10 (s : ByteArray) (hs : s.size ≤ 9223372036854775807) (w : World) :
    Calls Tryd.prog 24 #[.string s, .int .i64 10] w fun e w' => e = .returned (.tuple #[.int .u64 ((Q.digs s.data.toList 10).1 : Nat), .bool (Q.digs s.data.toList 10).2]) ∧ Below w.heap.size w w' := digits_any s 10 (by omega) hs w
theorem digits9 (s : ByteArray) (hs : s.size ≤ 9223372036854775807) (w : World) :
    Calls Tryd.prog 24 #[.string s, .int .i64 9] w fun e w' => e = .returned (.tuple #[.int .u64 ((Q.digs s.data.toList 9).1 : Nat), .bool (Q.digs s.data.toList 9).2]) ∧ Below w.heap.size w w' := digits_any s 9 (by omega) hs w

/-- A text, what stands before the first c and behind it, as byte arrays. -/
theorem cut_parts (c : UInt8) (s : ByteArray) (hs : s.size ≤ 9223372036854775807) : ∃ A B : ByteArray, ∃ F : Bool,
    Hid ((⟨(Q.cut1 c s.data.toList).1.toArray⟩ : ByteArray) = A ∧ (⟨(Q.cut1 c s.data.toList).2.1.toArray⟩ : ByteArray) = B ∧ (Q.cut1 c s.data.toList).2.2 = F ∧ A.data.toList = (Q.cut1 c s.data.toList).1 ∧ B.data.toList = (Q.cut1 c s.data.toList).2.1) ∧
    A.size ≤ 9223372036854775807 ∧ B.size ≤ 9223372036854775807 := by
  refine ⟨_, _, _, Lib.hid ⟨rfl, rfl, rfl, rfl, rfl⟩, ?_, ?_⟩
  · rw [Lib.size_eq] at hs ⊢
    show (Q.cut1 c s.data.toList).1.length ≤ _
    rcases Q.index_cut c s.data.toList with ⟨_, h2⟩ | ⟨i, hi, _, h2⟩ <;> rw [h2]
    · exact hs
    · simp only [List.length_take]; omega
  · rw [Lib.size_eq] at hs ⊢
    show (Q.cut1 c s.data.toList).2.1.length ≤ _
    rcases Q.index_cut c s.data.toList with ⟨_, h2⟩ | ⟨i, hi, _, h2⟩ <;> rw [h2]
    · simp
    · simp only [List.length_drop]; omega

set_option maxRecDepth 100000 in
set_option maxHeartbeats 1600000 in
theorem fraction_slash (s : ByteArray) (hs : s.size ≤ 9223372036854775807) (hf : (Q.cut1 47 s.data.toList).2.2 = true) (w : World) :
    Calls Tryd.prog 11 #[.string s] w fun e w' => e = .returned (.tuple #[.int .u64 ((Q.fraction s.data.toList).1 : Nat), .int .u64 ((Q.fraction s.data.toList).2.1 : Nat), .bool (Q.fraction s.data.toList).2.2]) ∧ Below w.heap.size w w' := by
  obtain ⟨A, B, F, H, hA, hB⟩ := cut_parts 47 s hs
  obtain ⟨n, hn⟩ : ∃ n : Int, Hid (((Q.digs A.data.toList 10).1 : Nat) = n) := ⟨_, rfl⟩
  obtain ⟨oA, hoA⟩ : ∃ o, Hid ((Q.digs A.data.toList 10).2 = o) := ⟨_, rfl⟩
  obtain ⟨d, hd⟩ : ∃ d : Int, Hid (((Q.digs B.data.toList 10).1 : Nat) = d) := ⟨_, rfl⟩
  obtain ⟨oB, hoB⟩ : ∃ o, Hid ((Q.digs B.data.toList 10).2 = o) := ⟨_, rfl⟩
  have e : Q.fraction s.data.toList = Q.frac1 (Q.digs A.data.toList 10) (Q.digs B.data.toList 10) := by
    unfold Q.fraction; rw [if_pos hf, H.out.2.2.2.1, H.out.2.2.2.2]
  have e1 : ((Q.fraction s.data.toList).1 : Int) = n := by rw [e]; exact hn.out
  have e2 : ((Q.fraction s.data.toList).2.1 : Int) = d := by rw [e]; exact hd.out
  have e3 : (Q.fraction s.data.toList).2.2 = (oA && oB && d != 0) := by
    rw [e]; unfold Q.frac1; rw [hoA.out, hoB.out]
    have : ((Q.digs B.data.toList 10).1 != 0) = (d != 0) := by
      rw [← hd.out, Bool.eq_iff_iff, bne_iff_ne, bne_iff_ne]; omega
    rw [this]
  have hF : F = true := by rw [← H.out.2.2.1]; exact hf
  subst hF
  rw [e1, e2, e3]
  clear e e1 e2 e3 hf
  cases oA <;> cases oB <;> by_cases h0 : d = 0
  all_goals
    first
    | subst h0
    | (have hb0 : (d == 0) = false := by rw [beq_eq_false_iff_ne]; exact h0
       have hb1 : (d != 0) = true := by rw [bne_iff_ne]; exact h0)
    go_enter Tryd.func11, Tryd.ntmps11
    go_wp2_with fail
    refine (cut_one _ _ hs _).mono ?_
    rintro e w1 ⟨rfl, hb1⟩
    rw [H.out.1, H.out.2.1, H.out.2.2.1]
    go_wp2_with fail
    refine (digits10 _ hA _).mono ?_
    rintro e w2 ⟨rfl, hb2⟩
    rw [hn.out, hoA.out]
    go_wp2_with fail
    refine (digits10 _ hB _).mono ?_
    rintro e w3 ⟨rfl, hb3⟩
    rw [hd.out, hoB.out]
    go_wp2
    go_ret3
    exact ⟨by first | rfl | (simp [*]; done), hb1.trans ((hb2.trans (hb3.mono hb2.size)).mono hb1.size)⟩

theorem dec_ascii {D : ByteArray} (h : D.data.toList.all Q.isd = true) (k : Nat) (hk : k < D.size) : (D[k]'hk).toNat < 128 := by
  rw [List.all_eq_true] at h
  have := h (D[k]'hk) (by show D.data[k] ∈ D.data.toList; simp)
  unfold Q.isd at this
  rw [decide_eq_true_eq] at this
  omega

set_option maxRecDepth 100000 in
set_option maxHeartbeats 3200000 in
theorem fraction_dot (s : ByteArray) (hs : s.size ≤ 9223372036854775807) (hf : (Q.cut1 47 s.data.toList).2.2 = false) (w : World) :
    Calls Tryd.prog 11 #[.string s] w fun e w' => e = .returned (.tuple #[.int .u64 ((Q.fraction s.data.toList).1 : Nat), .int .u64 ((Q.fraction s.data.toList).2.1 : Nat), .bool (Q.fraction s.data.toList).2.2]) ∧ Below w.heap.size w w' := by
  obtain ⟨A0, B0, F0, H0, _, _⟩ := cut_parts 47 s hs
  obtain ⟨A, D, G, H, hA, hD⟩ := cut_parts 46 s hs
  obtain ⟨n, hn⟩ : ∃ n : Int, Hid (((Q.digs A.data.toList 10).1 : Nat) = n) := ⟨_, rfl⟩
  obtain ⟨oA, hoA⟩ : ∃ o, Hid ((Q.digs A.data.toList 10).2 = o) := ⟨_, rfl⟩
  obtain ⟨x, hx⟩ : ∃ x : Int, Hid (((Q.digs D.data.toList 9).1 : Nat) = x) := ⟨_, rfl⟩
  obtain ⟨oD, hoD⟩ : ∃ o, Hid ((Q.digs D.data.toList 9).2 = o) := ⟨_, rfl⟩
  have e : Q.fraction s.data.toList = Q.frac2 G D.data.toList (Q.digs A.data.toList 10) (Q.digs D.data.toList 9) := by
    unfold Q.fraction; rw [hf, if_neg (by decide), H.out.2.2.2.1, H.out.2.2.2.2, H.out.2.2.1]
  have hF : F0 = false := by rw [← H0.out.2.2.1]; exact hf
  subst hF
  have HE := Lib.hid e
  clear e hf
  by_cases hgo : (!G || !oA) = true
  · have e1 : ((Q.fraction s.data.toList).1 : Int) = n := by rw [HE.out]; unfold Q.frac2; rw [hoA.out, if_pos hgo]; exact hn.out
    have e2 : ((Q.fraction s.data.toList).2.1 : Int) = 1 := by rw [HE.out]; unfold Q.frac2; rw [hoA.out, if_pos hgo]; rfl
    have e3 : (Q.fraction s.data.toList).2.2 = oA := by rw [HE.out]; unfold Q.frac2; rw [hoA.out, if_pos hgo]
    rw [e1, e2, e3]
    clear e1 e2 e3
    cases G <;> cases oA <;> first | (exfalso; revert hgo; decide) | skip
    all_goals
      clear hgo
      go_enter Tryd.func11, Tryd.ntmps11
      go_wp2_with fail
      refine (cut_one _ _ hs _).mono ?_
      rintro e w1 ⟨rfl, hb1⟩
      rw [H0.out.1, H0.out.2.1, H0.out.2.2.1]
      go_wp2_with fail
      refine (cut_one _ _ hs _).mono ?_
      rintro e w2 ⟨rfl, hb2⟩
      rw [H.out.1, H.out.2.1, H.out.2.2.1]
      go_wp2_with fail
      refine (digits10 _ hA _).mono ?_
      rintro e w3 ⟨rfl, hb3⟩
      rw [hn.out, hoA.out]
      go_wp2
      go_ret3
      exact ⟨by first | rfl | (simp [*]; done), hb1.trans ((hb2.trans (hb3.mono hb2.size)).mono hb1.size)⟩
  · have hG : G = true := by cases G <;> simp_all
    have hO : oA = true := by cases oA <;> simp_all
    subst hG hO
    cases oD
    · have e1 : Q.fraction s.data.toList = (0, 0, false) := by rw [HE.out]; unfold Q.frac2; rw [hoA.out, if_neg (by decide), hoD.out]; rfl
      rw [e1]
      clear e1 hgo
      go_enter Tryd.func11, Tryd.ntmps11
      go_wp2_with fail
      refine (cut_one _ _ hs _).mono ?_
      rintro e w1 ⟨rfl, hb1⟩
      rw [H0.out.1, H0.out.2.1, H0.out.2.2.1]
      go_wp2_with fail
      refine (cut_one _ _ hs _).mono ?_
      rintro e w2 ⟨rfl, hb2⟩
      rw [H.out.1, H.out.2.1, H.out.2.2.1]
      go_wp2_with fail
      refine (digits10 _ hA _).mono ?_
      rintro e w3 ⟨rfl, hb3⟩
      rw [hn.out, hoA.out]
      go_wp2_with fail
      refine (digits9 _ hD _).mono ?_
      rintro e w4 ⟨rfl, hb4⟩
      rw [hx.out, hoD.out]
      go_wp2
      go_ret3
      exact ⟨rfl, hb1.trans ((hb2.trans ((hb3.trans (hb4.mono hb3.size)).mono hb2.size)).mono hb1.size)⟩
    · obtain ⟨a1, a2, a3, a4⟩ := Q.digs_ok hoA.out
      obtain ⟨d1, d2, d3, d4⟩ := Q.digs_ok hoD.out
      have nb := Q.num_lt _ _ rfl a3
      have xb := Q.num_lt _ _ rfl d3
      have nb2 : (10 : Nat) ^ A.data.toList.length ≤ 10 ^ 10 := Nat.pow_le_pow_right (by decide) a2
      have xb2 : (10 : Nat) ^ D.data.toList.length ≤ 10 ^ 9 := Nat.pow_le_pow_right (by decide) d2
      have hn1 : n = (Q.num A.data.toList : Nat) := by rw [← hn.out, a4]
      have hx1 : x = (Q.num D.data.toList : Nat) := by rw [← hx.out, d4]
      have hn2 : 0 ≤ n ∧ n < 10000000000 := by omega
      have hx2 : 0 ≤ x ∧ x < 1000000000 := by omega
      have e1 : Q.fraction s.data.toList = (Q.num A.data.toList * 10 ^ D.data.toList.length + Q.num D.data.toList, 10 ^ D.data.toList.length, true) := by
        rw [HE.out]; unfold Q.frac2; rw [hoA.out, if_neg (by decide), hoD.out, a4, d4]; rfl
      rw [e1]
      have hlen : D.data.toList.length = D.size := (Lib.size_eq D).symm
      rw [hlen] at d2 ⊢
      obtain ⟨N, hN⟩ : ∃ N, D.size = N := ⟨_, rfl⟩
      obtain ⟨r1, hr1⟩ : ∃ r : Int, Hid (((Q.num A.data.toList * 10 ^ N + Q.num D.data.toList : Nat) : Int) = r) := ⟨_, rfl⟩
      obtain ⟨r2, hr2⟩ : ∃ r : Int, Hid (((10 ^ N : Nat) : Int) = r) := ⟨_, rfl⟩
      rw [hN] at d2 ⊢
      rw [hr1.out, hr2.out]
      have hrn : Hid (n * r2 + x = r1) := by unfold Hid; rw [← hr1.out, ← hr2.out, hn1, hx1]; simp
      have hr2b : 1 ≤ r2 ∧ r2 ≤ 1000000000 := by
        have h1 : (10 : Nat) ^ N ≤ 10 ^ 9 := Nat.pow_le_pow_right (by decide) d2
        have h2 : 0 < (10 : Nat) ^ N := Nat.pow_pos (by decide)
        have := hr2.out; omega
      have hpb : 0 ≤ n * r2 ∧ n * r2 ≤ 10000000000 * 1000000000 := ⟨Int.mul_nonneg hn2.1 (by omega), Int.mul_le_mul (by omega) hr2b.2 (by omega) (by omega)⟩
      have HASC := Lib.hid (dec_ascii d3)
      have HNS := Lib.hid hN
      clear hgo HE e1 hlen a1 a2 a3 a4 d1 d3 d4 nb xb nb2 xb2 hn1 hx1 hr1 hN
      obtain ⟨hn3, hn4⟩ := hn2
      obtain ⟨hx3, hx4⟩ := hx2
      obtain ⟨hr3, hr4⟩ := hr2b
      obtain ⟨pr, hpr⟩ : ∃ pr, n * r2 = pr := ⟨_, rfl⟩
      rw [hpr] at hpb hrn
      have HPR := Lib.hid hpr
      obtain ⟨hp3, hp4⟩ := hpb
      clear hpr
      go_enter Tryd.func11, Tryd.ntmps11
      go_wp2_with fail
      refine (cut_one _ _ hs _).mono ?_
      rintro e w1 ⟨rfl, hb1⟩
      rw [H0.out.1, H0.out.2.1, H0.out.2.2.1]
      go_wp2_with fail
      refine (cut_one _ _ hs _).mono ?_
      rintro e w2 ⟨rfl, hb2⟩
      rw [H.out.1, H.out.2.1, H.out.2.2.1]
      go_wp2_with fail
      refine (digits10 _ hA _).mono ?_
      rintro e w3 ⟨rfl, hb3⟩
      rw [hn.out, hoA.out]
      go_wp2_with fail
      refine (digits9 _ hD _).mono ?_
      rintro e w4 ⟨rfl, hb4⟩
      rw [hx.out, hoD.out]
      have hB4 : Below w.heap.size w w4 := hb1.trans ((hb2.trans ((hb3.trans (hb4.mono hb3.size)).mono hb2.size)).mono hb1.size)
      clear hb1 hb2 hb3 hb4
      go_wp2
      go_loopw [3] (fun vd wr => ∃ (k : Nat) (P : Int), vd = .int .u64 P ∧ k ≤ N ∧ wr = w4.iter D k ∧ Hid (((10 ^ k : Nat) : Int) = P)) (fun _ wr => N - wr.iterPos w4.heap.size)
      case atStart => exact ⟨0, 1, rfl, by omega, rfl, rfl⟩
      case round =>
        obtain ⟨k, P, rfl, hk, rfl, hP⟩ := hrel
        by_cases hkn : k < N
        · have hkD : k < D.size := by rw [HNS.out]; exact hkn
          have hnx := fun ty => run_next_ascii (P := Tryd.prog) w4 D k ty hkD (HASC.out k hkD)
          have hPb : 1 ≤ P ∧ P ≤ 1000000000 := by
            have h1 : (10 : Nat) ^ k ≤ 10 ^ 9 := Nat.pow_le_pow_right (by decide) (by omega)
            have h2 : 0 < (10 : Nat) ^ k := Nat.pow_pos (by decide)
            have := hP.out; omega
          obtain ⟨hp1, hp2⟩ := hPb
          have hP2 : Hid (((10 ^ (k + 1) : Nat) : Int) = P * 10) := by unfold Hid; rw [← hP.out, Nat.pow_succ]; simp
          go_wp2
          go_roundw
          case rel => exact ⟨k + 1, P * 10, rfl, by omega, rfl, hP2⟩
          case measure => simp; omega
        · have hkN : k = N := by omega
          subst hkN
          have hPr : P = r2 := by rw [← hP.out]; exact hr2.out
          subst hPr
          have hnx := fun ty => run_next_end (P := Tryd.prog) w4 D k ty (by rw [HNS.out]; omega)
          have hnp := HPR.out
          have hp5 : pr ≤ 10000000000000000000 := by omega
          have hit : Below w.heap.size w (w4.iter D k) := hB4.alloc hB4.size (.stringIter D k)
          clear hp4
          go_wp2
          go_ret3
          obtain rfl : pr + x = r1 := hrn.out
          exact ⟨rfl, hit⟩

theorem fraction_any (s : ByteArray) (hs : s.size ≤ 9223372036854775807) (w : World) :
    Calls Tryd.prog 11 #[.string s] w fun e w' => e = .returned (.tuple #[.int .u64 ((Q.fraction s.data.toList).1 : Nat), .int .u64 ((Q.fraction s.data.toList).2.1 : Nat), .bool (Q.fraction s.data.toList).2.2]) ∧ Below w.heap.size w w' := by
  cases hf : (Q.cut1 47 s.data.toList).2.2
  · exact fraction_dot s hs hf w
  · exact fraction_slash s hs hf w
end Go.Proofs.YtpoalckncfkdgaaDoor
