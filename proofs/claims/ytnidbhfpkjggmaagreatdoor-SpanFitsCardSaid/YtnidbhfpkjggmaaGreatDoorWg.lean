import Derived.Test.YtnidbhfpkjggmaaGreatDoorWf
import Derived.Test.YtnidbhfpkjggmaaGreatDoorVh
import Derived.Test.YtnidbhfpkjggmaaGreatDoorVb
import Derived.StillTailTactics
import Derived.Deep.DeepCutAuto
set_option linter.all false
/-
  The specification's functions at any format and any numbers: what the calls give.
-/
namespace Go.Proofs.YtnidbhfpkjggmaaGreatDoor
open Go.RowKit
theorem hov_open {k r o : ByteArray} {I F : Int} (h : Z.vld k r o I F = true) : ((o.toList == [115, 97, 116]) = false → (o.toList == [119, 114, 97, 112]) = false → ovn o = 2) ∧ ((o.toList == [115, 97, 116]) = true → ovn o = 0) ∧ ((k.toList == [102, 105, 120]) = false → (o.toList == [115, 97, 116]) = false → ovn o = 2) := by
  have h3 : Z.hov k o = true := by unfold Z.vld at h; simp only [Bool.and_eq_true] at h; exact h.2
  have h0 : (o.toList == [110, 111, 110, 101]) = true → ovn o = 2 := fun hn => by unfold ovn; rw [hn]; rfl
  unfold Z.hov at h3
  refine ⟨fun hs hw => ?_, fun hs => ?_, fun hk hs => ?_⟩
  · rw [hs, hw] at h3; exact h0 (by simpa using h3)
  · unfold ovn; rw [lit_ne hs (b := [110, 111, 110, 101]) (by decide), lit_ne hs (b := [119, 114, 97, 112]) (by decide)]; rfl
  · rw [hs, hk] at h3; exact h0 (by simpa using h3)
theorem fitQ_num {k r o : ByteArray} {I F n d : Int} : Z.fitQ k r o I F n d = (0, 0) ∨ Q.isq (Z.fitQ k r o I F n d).1 (Z.fitQ k r o I F n d).2 = true := by
  have hmk : ∀ a b, Q.mk a b = (0, 0) ∨ Q.isq (Q.mk a b).1 (Q.mk a b).2 = true := Q.mk_isq
  have hbey : ∀ o fx i f ng, Z.bey o fx i f ng = (0, 0) ∨ Q.isq (Z.bey o fx i f ng).1 (Z.bey o fx i f ng).2 = true := fun o fx i f ng => by
    unfold Z.bey Z.lst Z.grt
    split
    · exact Or.inl rfl
    · split <;> split <;> exact hmk _ _
  unfold Z.fitQ
  split
  · unfold Z.fitV
    split
    · unfold Z.fixV
      split
      · exact hmk _ _
      · split
        · exact hmk _ _
        · exact hbey _ _ _ _ _
    · unfold Z.floatV
      split
      · exact hbey _ _ _ _ _
      · split
        · exact hbey _ _ _ _ _
        · unfold Z.pw; split <;> exact hmk _ _
  · exact Or.inl rfl
set_option maxRecDepth 100000 in
set_option maxHeartbeats 4000000 in
theorem rfit_any (k o : ByteArray) (m I F : Nat) (hm : m ≤ 2) (h : I + F ≤ 30) (n d : Int) (hn : -2305843009213693952 ≤ n ∧ n ≤ 2305843009213693952) (hd : 1 ≤ d ∧ d ≤ 1152921504606846976) (hv : Hid (Z.vld k (rnm m) o (I : Int) (F : Int) = true)) (w : World) :
    Calls Tryz.prog 134 #[.agg #[.string k, .int .i64 (I : Int), .int .i64 (F : Int), .string (rnm m), .string o], .agg #[.int .i64 n, .int .i64 d]] w fun e w' => e = .returned (.agg #[.int .i64 (Z.fitV k o m I F n d).1, .int .i64 (Z.fitV k o m I F n d).2]) ∧ Below w.heap.size w w' := by
  have hvp := vld_parts hv.out
  obtain ⟨p1, p2, p3, p4, p5, p6⟩ := hvp
  obtain ⟨ho1, ho2, ho3⟩ := hov_open hv.out
  cases hk : (k.toList == [102, 105, 120])
  · have e : Z.fitV k o m I F n d = Z.floatV (ovn o) m I F n d := by unfold Z.fitV; rw [hk]; rfl
    rw [e]; clear e
    obtain ⟨_, i1, i2, i3, _⟩ := p6 hk
    have HO := Lib.hid (ho3 hk)
    clear p6 ho1 ho2 ho3
    obtain ⟨a, b, hr⟩ : ∃ a b, Hid (Z.floatV (ovn o) m I F n d = (a, b)) := ⟨_, _, rfl⟩
    rw [hr.out]
    go_enter Tryz.func134, Tryz.ntmps134
    go_wp2_with fail
    refine (rfloat_any _ _ _ _ _ hm h _ _ hn hd hv (by omega) (by omega) (by omega) HO _).mono ?_
    rintro e w1 ⟨rfl, hb1⟩
    obtain ⟨hc1, hf1, hz1, hB1⟩ := after (a := w) (B := w.heap.size) (w.heap.size + 3) hb1 (by first | (with_reducible assumption) | (simp; done) | omega | (simp; omega)) bl (by omega)
    rw [hr.out]
    go_wp2
    exact bodyPost_ret (v := .agg #[.int .i64 a, .int .i64 b]) (by simp [results, Tryz.results134, go_sem, hc1]) rfl ⟨rfl, bl⟩
  · have e : Z.fitV k o m I F n d = Z.fixV (ovn o) m I F n d := by unfold Z.fitV; rw [hk]; rfl
    rw [e]; clear e
    have HO := Lib.hid ho1
    have HS := Lib.hid ho2
    clear p6 ho1 ho2 ho3
    obtain ⟨a, b, hr⟩ : ∃ a b, Hid (Z.fixV (ovn o) m I F n d = (a, b)) := ⟨_, _, rfl⟩
    rw [hr.out]
    go_enter Tryz.func134, Tryz.ntmps134
    go_wp2_with fail
    refine (rfix_any _ _ _ _ _ hm h _ _ hn hd hv HO HS _).mono ?_
    rintro e w1 ⟨rfl, hb1⟩
    obtain ⟨hc1, hf1, hz1, hB1⟩ := after (a := w) (B := w.heap.size) (w.heap.size + 3) hb1 (by first | (with_reducible assumption) | (simp; done) | omega | (simp; omega)) bl (by omega)
    rw [hr.out]
    go_wp2
    exact bodyPost_ret (v := .agg #[.int .i64 a, .int .i64 b]) (by simp [results, Tryz.results134, go_sem, hc1]) rfl ⟨rfl, bl⟩

set_option maxRecDepth 100000 in
set_option maxHeartbeats 2000000 in
theorem rFit_none (k r o : ByteArray) (I F : Int) (n d : Int) (hI : -9223372036854775808 ≤ I ∧ I ≤ 9223372036854775807) (hF : -9223372036854775808 ≤ F ∧ F ≤ 9223372036854775807) (hv : Hid (Z.vld k r o I F = false ∨ Q.isq n d = false)) (w : World) :
    Calls Tryz.prog 80 #[.agg #[.string k, .int .i64 I, .int .i64 F, .string r, .string o], .agg #[.int .i64 n, .int .i64 d]] w fun e w' => e = .returned (.agg #[.int .i64 0, .int .i64 0]) ∧ Below w.heap.size w w' := by
  cases hq : Z.vld k r o I F
  · go_enter Tryz.func80, Tryz.ntmps80
    go_wp2_with fail
    refine (rvalid_any _ _ _ _ _ hI hF _).mono ?_
    rintro e w1 ⟨rfl, hb1⟩
    obtain ⟨hc1, hf1, hz1, hB1⟩ := after (a := w) (B := w.heap.size) (w.heap.size + 3) hb1 (by first | (with_reducible assumption) | (simp; done) | omega | (simp; omega)) bl (by omega)
    rw [hq]
    go_wp2_with fail
    refine (rnone_any _).mono ?_
    rintro e w2 ⟨rfl, hb2⟩
    obtain ⟨hc2, hf2, hz2, hB2⟩ := after (a := w) (B := w.heap.size) (w.heap.size + 3) hb2 (by first | (with_reducible assumption) | (simp; done) | omega | (simp; omega)) bl (by omega)
    go_wp2
    exact bodyPost_ret (v := .agg #[.int .i64 0, .int .i64 0]) (by simp [results, Tryz.results80, go_sem, hc2, hc1]) rfl ⟨rfl, bl⟩
  · have hv' : Q.isq n d = false := by have := hv.out; rw [hq] at this; simpa using this
    go_enter Tryz.func80, Tryz.ntmps80
    go_wp2_with fail
    refine (rvalid_any _ _ _ _ _ hI hF _).mono ?_
    rintro e w1 ⟨rfl, hb1⟩
    obtain ⟨hc1, hf1, hz1, hB1⟩ := after (a := w) (B := w.heap.size) (w.heap.size + 3) hb1 (by first | (with_reducible assumption) | (simp; done) | omega | (simp; omega)) bl (by omega)
    rw [hq]
    go_wp2_with fail
    refine (ris_any _ _ _).mono ?_
    rintro e w2 ⟨rfl, hb2⟩
    obtain ⟨hc2, hf2, hz2, hB2⟩ := after (a := w) (B := w.heap.size) (w.heap.size + 3) hb2 (by first | (with_reducible assumption) | (simp; done) | omega | (simp; omega)) bl (by omega)
    rw [hv']
    go_wp2_with fail
    refine (rnone_any _).mono ?_
    rintro e w3 ⟨rfl, hb3⟩
    obtain ⟨hc3, hf3, hz3, hB3⟩ := after (a := w) (B := w.heap.size) (w.heap.size + 3) hb3 (by first | (with_reducible assumption) | (simp; done) | omega | (simp; omega)) bl (by omega)
    go_wp2
    exact bodyPost_ret (v := .agg #[.int .i64 0, .int .i64 0]) (by simp [results, Tryz.results80, go_sem, hc3, hc2, hc1]) rfl ⟨rfl, bl⟩

set_option maxRecDepth 100000 in
set_option maxHeartbeats 4000000 in
theorem rFit_some (k o : ByteArray) (m I F : Nat) (hm : m ≤ 2) (h : I + F ≤ 30) (n d : Int) (hq : Q.isq n d = true) (hv : Hid (Z.vld k (rnm m) o (I : Int) (F : Int) = true)) (w : World) :
    Calls Tryz.prog 80 #[.agg #[.string k, .int .i64 (I : Int), .int .i64 (F : Int), .string (rnm m), .string o], .agg #[.int .i64 n, .int .i64 d]] w fun e w' => e = .returned (.agg #[.int .i64 (Z.fitV k o m I F n d).1, .int .i64 (Z.fitV k o m I F n d).2]) ∧ Below w.heap.size w w' := by
  have hb := (Q.isq_iff n d).1 hq
  obtain ⟨b1, b2, b3, b4, _⟩ := hb
  obtain ⟨a, b, hr⟩ : ∃ a b, Hid (Z.fitV k o m I F n d = (a, b)) := ⟨_, _, rfl⟩
  rw [hr.out]
  go_enter Tryz.func80, Tryz.ntmps80
  go_wp2_with fail
  refine (rvalid_any _ _ _ _ _ (by omega) (by omega) _).mono ?_
  rintro e w1 ⟨rfl, hb1⟩
  obtain ⟨hc1, hf1, hz1, hB1⟩ := after (a := w) (B := w.heap.size) (w.heap.size + 3) hb1 (by first | (with_reducible assumption) | (simp; done) | omega | (simp; omega)) bl (by omega)
  rw [hv.out]
  go_wp2_with fail
  refine (ris_any _ _ _).mono ?_
  rintro e w2 ⟨rfl, hb2⟩
  obtain ⟨hc2, hf2, hz2, hB2⟩ := after (a := w) (B := w.heap.size) (w.heap.size + 3) hb2 (by first | (with_reducible assumption) | (simp; done) | omega | (simp; omega)) bl (by omega)
  rw [hq]
  go_wp2_with fail
  go_region_with (first | (go_at_call 135; refine (wide_any _ _ _).mono ?_; rintro e wd ⟨rfl, hbd⟩; obtain ⟨hcd, hfd, hzd, hBd⟩ := after (a := w) (B := w.heap.size) (w.heap.size + 3) hbd (by first | (with_reducible assumption) | (simp; done) | omega | (simp; omega)) bl (by omega)) | (go_at_call 134; refine (rfit_any _ _ _ _ _ hm h _ _ (by omega) (by omega) hv _).mono ?_; rintro e wf ⟨rfl, hbf⟩; obtain ⟨hcf, hff, hzf, hBf⟩ := after (a := w) (B := w.heap.size) (w.heap.size + 3) hbf (by first | (with_reducible assumption) | (simp; done) | omega | (simp; omega)) bl (by omega); rw [hr.out]))
  all_goals
    go_wp2
    exact bodyPost_ret (v := .agg #[.int .i64 a, .int .i64 b]) (by simp [results, Tryz.results80, go_sem, hcf, hcd, hc2, hc1]) rfl ⟨rfl, bl⟩

set_option maxRecDepth 100000 in
set_option maxHeartbeats 1000000 in
theorem rFit_any (k r o : ByteArray) (I F : Int) (n d : Int) (hI : -9223372036854775808 ≤ I ∧ I ≤ 9223372036854775807) (hF : -9223372036854775808 ≤ F ∧ F ≤ 9223372036854775807) (w : World) :
    Calls Tryz.prog 80 #[.agg #[.string k, .int .i64 I, .int .i64 F, .string r, .string o], .agg #[.int .i64 n, .int .i64 d]] w fun e w' => e = .returned (.agg #[.int .i64 (Z.fitQ k r o I F n d).1, .int .i64 (Z.fitQ k r o I F n d).2]) ∧ Below w.heap.size w w' := by
  by_cases hc : (Q.isq n d && Z.vld k r o I F) = true
  · rw [Bool.and_eq_true] at hc
    have e : Z.fitQ k r o I F n d = Z.fitV k o (Z.rdm r) I.toNat F.toNat n d := by unfold Z.fitQ; rw [if_pos (by rw [hc.1, hc.2]; rfl)]
    rw [e]
    obtain ⟨m, i, f, hm, hm2, hr, rfl, rfl, hs⟩ := vld_open hc.2
    rw [← hm]
    rw [hr] at hc ⊢
    exact rFit_some k o m i f hm2 hs n d hc.1 hc.2 w
  · have e : Z.fitQ k r o I F n d = (0, 0) := by unfold Z.fitQ; rw [if_neg hc]
    rw [e]
    exact rFit_none k r o I F n d hI hF (by unfold Hid; cases h1 : Q.isq n d <;> cases h2 : Z.vld k r o I F <;> simp [h1, h2] at hc ⊢) w

end Go.Proofs.YtnidbhfpkjggmaaGreatDoor
