/-
  Formats: the program's functions at any format and any number: what the calls give.
-/
import Derived.Test.YtmadhpbdianddaaDoorVf
namespace Go.Proofs.YtmadhpbdianddaaDoor
open Go.RowKit
theorem of_list {s : ByteArray} {l : List UInt8} (h : (s.toList == l) = true) : s = ⟨l.toArray⟩ := by
  rw [beq_iff_eq, ByteArray.toList_eq] at h
  cases s with | mk d => cases d with | mk l' => simp at h; rw [h]
namespace Z
def rdm (r : ByteArray) : Nat := if r.toList == [110, 101, 97, 114] then 1 else if r.toList == [122, 101, 114, 111] then 2 else 0
theorem rdm_le (r : ByteArray) : rdm r ≤ 2 := by unfold rdm; split <;> (try split) <;> omega
theorem rnm_rdm {r : ByteArray} (h : hrd r = true) : rnm (rdm r) = r := by
  unfold rdm
  cases h1 : (r.toList == [110, 101, 97, 114])
  · cases h2 : (r.toList == [122, 101, 114, 111])
    · unfold hrd at h; rw [h1, h2] at h
      rw [of_list (show (r.toList == [102, 108, 111, 111, 114]) = true by simpa using h)]; rfl
    · rw [of_list h2]; rfl
  · rw [of_list h1]; rfl
/-- What the functions give, at any format and any numbers. -/
def fitQ (k r o : ByteArray) (I F n d : Int) : Int × Int := if (Q.isq n d && vld k r o I F) = true then fitV k o (rdm r) I.toNat F.toNat n d else (0, 0)
def addQ (k r o : ByteArray) (I F : Int) (a b : Int × Int) : Int × Int := if (Q.both a b && vld k r o I F) = true then fitV k o (rdm r) I.toNat F.toNat (a.1 * b.2 + b.1 * a.2) (a.2 * b.2) else (0, 0)
def mulQ (k r o : ByteArray) (I F : Int) (a b : Int × Int) : Int × Int := if (Q.both a b && vld k r o I F) = true then fitV k o (rdm r) I.toNat F.toNat (a.1 * b.1) (a.2 * b.2) else (0, 0)
def lstQ (k r o : ByteArray) (I F : Int) : Int × Int := if vld k r o I F = true then lst (k.toList == [102, 105, 120]) I.toNat F.toNat else (0, 0)
def grtQ (k r o : ByteArray) (I F : Int) : Int × Int := if vld k r o I F = true then grt (k.toList == [102, 105, 120]) I.toNat F.toNat else (0, 0)
def stpQ (k r o : ByteArray) (I F : Int) : Int × Int := if vld k r o I F = true then Q.mk 1 (2 ^ F.toNat) else (0, 0)
def isfx (k r o : ByteArray) (I F : Int) : Bool := vld k r o I F && (k.toList == [102, 105, 120])
def isQ (k r o : ByteArray) (I F n d : Int) : Bool := Q.isq n d && ((fitQ k r o I F n d).1 == n && (fitQ k r o I F n d).2 == d)
def bndQ (k r o : ByteArray) (I F : Int) : (Int × Int) × Int := if isfx k r o I F = true then (if (r.toList == [110, 101, 97, 114]) = true then Q.div (stpQ k r o I F) (2, 1) else stpQ k r o I F, 0) else ((0, 0), 2)
def cod (I F : Nat) (n d : Int) : Int := if n * ((2 ^ F) / d) < 0 then n * ((2 ^ F) / d) + 2 * 2 ^ (I + F) else n * ((2 ^ F) / d)
def codQ (k r o : ByteArray) (I F n d : Int) : Int × Int := if isfx k r o I F = true then (if isQ k r o I F n d = true then (cod I.toNat F.toNat n d, 0) else (0, 5)) else (0, 2)
def valQ (k r o : ByteArray) (I F c : Int) : (Int × Int) × Int := if isfx k r o I F = true ∧ 0 ≤ c ∧ c < 2 * 2 ^ (I.toNat + F.toNat) then (Q.mk (if 2 ^ (I.toNat + F.toNat) ≤ c then c - 2 * 2 ^ (I.toNat + F.toNat) else c) (2 ^ F.toNat), 0) else ((0, 0), 2)
end Z
/-- A valid format's fields, by their names. -/
theorem vld_open {k r o : ByteArray} {I F : Int} (h : Z.vld k r o I F = true) : ∃ (m : Nat) (i f : Nat), m = Z.rdm r ∧ m ≤ 2 ∧ r = rnm m ∧ I = i ∧ F = f ∧ i + f ≤ 30 := by
  obtain ⟨p1, p2, p3, p4, p5, p6⟩ := vld_parts h
  obtain ⟨i, rfl⟩ := Int.eq_ofNat_of_zero_le p1
  obtain ⟨f, rfl⟩ := Int.eq_ofNat_of_zero_le p3
  have hr : Z.hrd r = true := by unfold Z.vld at h; simp only [Bool.and_eq_true] at h; exact h.1.2
  exact ⟨_, i, f, rfl, Z.rdm_le r, (Z.rnm_rdm hr).symm, rfl, rfl, by omega⟩
set_option maxRecDepth 100000 in
set_option maxHeartbeats 1000000 in
theorem Fit_any (k r o : ByteArray) (I F : Int) (n d : Int) (hI : -9223372036854775808 ≤ I ∧ I ≤ 9223372036854775807) (hF : -9223372036854775808 ≤ F ∧ F ≤ 9223372036854775807) (w : World) :
    Calls Tryd.prog 15 #[.agg #[.string k, .int .i64 I, .int .i64 F, .string r, .string o], .agg #[.int .i64 n, .int .i64 d]] w fun e w' => e = .returned (.agg #[.int .i64 (Z.fitQ k r o I F n d).1, .int .i64 (Z.fitQ k r o I F n d).2]) ∧ Below w.heap.size w w' := by
  by_cases hc : (Q.isq n d && Z.vld k r o I F) = true
  · rw [Bool.and_eq_true] at hc
    have e : Z.fitQ k r o I F n d = Z.fitV k o (Z.rdm r) I.toNat F.toNat n d := by unfold Z.fitQ; rw [if_pos (by rw [hc.1, hc.2]; rfl)]
    rw [e]
    obtain ⟨m, i, f, hm, hm2, hr, rfl, rfl, hs⟩ := vld_open hc.2
    rw [← hm]
    rw [hr] at hc ⊢
    exact Fit_some k o m i f hm2 hs n d hc.1 hc.2 w
  · have e : Z.fitQ k r o I F n d = (0, 0) := by unfold Z.fitQ; rw [if_neg hc]
    rw [e]
    exact Fit_none k r o I F n d hI hF (by unfold Hid; cases h1 : Q.isq n d <;> cases h2 : Z.vld k r o I F <;> simp [h1, h2] at hc ⊢) w

set_option maxRecDepth 100000 in
set_option maxHeartbeats 1000000 in
theorem Add_any (k r o : ByteArray) (I F : Int) (an ad bn bd : Int) (hI : -9223372036854775808 ≤ I ∧ I ≤ 9223372036854775807) (hF : -9223372036854775808 ≤ F ∧ F ≤ 9223372036854775807) (w : World) :
    Calls Tryd.prog 19 #[.agg #[.string k, .int .i64 I, .int .i64 F, .string r, .string o], .agg #[.int .i64 an, .int .i64 ad], .agg #[.int .i64 bn, .int .i64 bd]] w fun e w' => e = .returned (.agg #[.int .i64 (Z.addQ k r o I F (an, ad) (bn, bd)).1, .int .i64 (Z.addQ k r o I F (an, ad) (bn, bd)).2]) ∧ Below w.heap.size w w' := by
  by_cases hc : (Q.both (an, ad) (bn, bd) && Z.vld k r o I F) = true
  · rw [Bool.and_eq_true] at hc
    have e : Z.addQ k r o I F (an, ad) (bn, bd) = Z.fitV k o (Z.rdm r) I.toNat F.toNat (an * bd + bn * ad) (ad * bd) := by unfold Z.addQ; rw [if_pos (by rw [hc.1, hc.2]; rfl)]
    rw [e]
    obtain ⟨m, i, f, hm, hm2, hr, rfl, rfl, hs⟩ := vld_open hc.2
    rw [← hm]
    rw [hr] at hc ⊢
    exact Add_some k o m i f hm2 hs an ad bn bd hc.1 hc.2 w
  · have e : Z.addQ k r o I F (an, ad) (bn, bd) = (0, 0) := by unfold Z.addQ; rw [if_neg hc]
    rw [e]
    exact Add_none k r o I F an ad bn bd hI hF (by unfold Hid; cases h1 : Q.both (an, ad) (bn, bd) <;> cases h2 : Z.vld k r o I F <;> simp [h1, h2] at hc ⊢) w

set_option maxRecDepth 100000 in
set_option maxHeartbeats 1000000 in
theorem Mul_any (k r o : ByteArray) (I F : Int) (an ad bn bd : Int) (hI : -9223372036854775808 ≤ I ∧ I ≤ 9223372036854775807) (hF : -9223372036854775808 ≤ F ∧ F ≤ 9223372036854775807) (w : World) :
    Calls Tryd.prog 21 #[.agg #[.string k, .int .i64 I, .int .i64 F, .string r, .string o], .agg #[.int .i64 an, .int .i64 ad], .agg #[.int .i64 bn, .int .i64 bd]] w fun e w' => e = .returned (.agg #[.int .i64 (Z.mulQ k r o I F (an, ad) (bn, bd)).1, .int .i64 (Z.mulQ k r o I F (an, ad) (bn, bd)).2]) ∧ Below w.heap.size w w' := by
  by_cases hc : (Q.both (an, ad) (bn, bd) && Z.vld k r o I F) = true
  · rw [Bool.and_eq_true] at hc
    have e : Z.mulQ k r o I F (an, ad) (bn, bd) = Z.fitV k o (Z.rdm r) I.toNat F.toNat (an * bn) (ad * bd) := by unfold Z.mulQ; rw [if_pos (by rw [hc.1, hc.2]; rfl)]
    rw [e]
    obtain ⟨m, i, f, hm, hm2, hr, rfl, rfl, hs⟩ := vld_open hc.2
    rw [← hm]
    rw [hr] at hc ⊢
    exact Mul_some k o m i f hm2 hs an ad bn bd hc.1 hc.2 w
  · have e : Z.mulQ k r o I F (an, ad) (bn, bd) = (0, 0) := by unfold Z.mulQ; rw [if_neg hc]
    rw [e]
    exact Mul_none k r o I F an ad bn bd hI hF (by unfold Hid; cases h1 : Q.both (an, ad) (bn, bd) <;> cases h2 : Z.vld k r o I F <;> simp [h1, h2] at hc ⊢) w

set_option maxRecDepth 100000 in
set_option maxHeartbeats 1000000 in
theorem Least_any (k r o : ByteArray) (I F : Int) (hI : -9223372036854775808 ≤ I ∧ I ≤ 9223372036854775807) (hF : -9223372036854775808 ≤ F ∧ F ≤ 9223372036854775807) (w : World) :
    Calls Tryd.prog 9 #[.agg #[.string k, .int .i64 I, .int .i64 F, .string r, .string o]] w fun e w' => e = .returned (.agg #[.int .i64 (Z.lstQ k r o I F).1, .int .i64 (Z.lstQ k r o I F).2]) ∧ Below w.heap.size w w' := by
  by_cases hc : Z.vld k r o I F = true
  · have e : Z.lstQ k r o I F = Z.lst (k.toList == [102, 105, 120]) I.toNat F.toNat := by unfold Z.lstQ; rw [if_pos hc]
    rw [e]
    obtain ⟨m, i, f, hm, hm2, hr, rfl, rfl, hs⟩ := vld_open hc
    exact least_any k r o i f hs hc w
  · have e : Z.lstQ k r o I F = (0, 0) := by unfold Z.lstQ; rw [if_neg hc]
    rw [e]
    exact least_none k r o I F hI hF (by simpa [Hid] using hc) w

set_option maxRecDepth 100000 in
set_option maxHeartbeats 1000000 in
theorem Greatest_any (k r o : ByteArray) (I F : Int) (hI : -9223372036854775808 ≤ I ∧ I ≤ 9223372036854775807) (hF : -9223372036854775808 ≤ F ∧ F ≤ 9223372036854775807) (w : World) :
    Calls Tryd.prog 11 #[.agg #[.string k, .int .i64 I, .int .i64 F, .string r, .string o]] w fun e w' => e = .returned (.agg #[.int .i64 (Z.grtQ k r o I F).1, .int .i64 (Z.grtQ k r o I F).2]) ∧ Below w.heap.size w w' := by
  by_cases hc : Z.vld k r o I F = true
  · have e : Z.grtQ k r o I F = Z.grt (k.toList == [102, 105, 120]) I.toNat F.toNat := by unfold Z.grtQ; rw [if_pos hc]
    rw [e]
    obtain ⟨m, i, f, hm, hm2, hr, rfl, rfl, hs⟩ := vld_open hc
    exact greatest_any k r o i f hs hc w
  · have e : Z.grtQ k r o I F = (0, 0) := by unfold Z.grtQ; rw [if_neg hc]
    rw [e]
    exact greatest_none k r o I F hI hF (by simpa [Hid] using hc) w

set_option maxRecDepth 100000 in
set_option maxHeartbeats 1000000 in
theorem Step_any (k r o : ByteArray) (I F : Int) (hI : -9223372036854775808 ≤ I ∧ I ≤ 9223372036854775807) (hF : -9223372036854775808 ≤ F ∧ F ≤ 9223372036854775807) (w : World) :
    Calls Tryd.prog 13 #[.agg #[.string k, .int .i64 I, .int .i64 F, .string r, .string o]] w fun e w' => e = .returned (.agg #[.int .i64 (Z.stpQ k r o I F).1, .int .i64 (Z.stpQ k r o I F).2]) ∧ Below w.heap.size w w' := by
  by_cases hc : Z.vld k r o I F = true
  · have e : Z.stpQ k r o I F = Q.mk 1 (2 ^ F.toNat) := by unfold Z.stpQ; rw [if_pos hc]
    rw [e]
    obtain ⟨m, i, f, hm, hm2, hr, rfl, rfl, hs⟩ := vld_open hc
    exact step_any k r o i f hs hc w
  · have e : Z.stpQ k r o I F = (0, 0) := by unfold Z.stpQ; rw [if_neg hc]
    rw [e]
    exact step_none k r o I F hI hF (by simpa [Hid] using hc) w

set_option maxRecDepth 100000 in
set_option maxHeartbeats 4000000 in
theorem Is_any (k r o : ByteArray) (I F : Int) (n d : Int) (hI : -9223372036854775808 ≤ I ∧ I ≤ 9223372036854775807) (hF : -9223372036854775808 ≤ F ∧ F ≤ 9223372036854775807) (w : World) :
    Calls Tryd.prog 17 #[.agg #[.string k, .int .i64 I, .int .i64 F, .string r, .string o], .agg #[.int .i64 n, .int .i64 d]] w fun e w' => e = .returned (.bool (Z.isQ k r o I F n d)) ∧ Below w.heap.size w w' := by
  cases hq : Q.isq n d
  · have e : Z.isQ k r o I F n d = false := by unfold Z.isQ; rw [hq]; rfl
    rw [e]; clear e
    go_enter Tryd.func17, Tryd.ntmps17
    go_wp2_with fail
    have xG : w.heap.size < w.heap.size + 2 := by omega
    have xV : w.heap.size + 1 < w.heap.size + 2 := by omega
    refine wp_region_held_drew (S := (fun w' => w'.cell? ⟨w.heap.size, 0, none⟩ = some (.string k) ∧ w'.cell? ⟨w.heap.size, 1, none⟩ = some (.int .i64 I) ∧ w'.cell? ⟨w.heap.size, 2, none⟩ = some (.int .i64 F) ∧ w'.cell? ⟨w.heap.size, 3, none⟩ = some (.string r) ∧ w'.cell? ⟨w.heap.size, 4, none⟩ = some (.string o) ∧ w'.cell? ⟨w.heap.size + 1, 0, none⟩ = some (.int .i64 n) ∧ w'.cell? ⟨w.heap.size + 1, 1, none⟩ = some (.int .i64 d) ∧ w.heap.size + 2 ≤ w'.heap.size ∧ Below w.heap.size w w')) (by kernel_rfl) ?_ ?_
    · (refine ⟨?_, ?_, ?_, ?_, ?_, ?_, ?_, ?_, ?_⟩ <;> first | assumption | ((repeat' (first | (with_reducible exact Below.refl _ _) | (with_reducible assumption) | (with_reducible refine drewN_below ?_ _) | (with_reducible refine Below.drew ?_) | (with_reducible refine Below.alloc ?_ ?_ _) | (with_reducible refine Below.setCell ?_ ?_ _) | (simp; done) | omega | (simp; omega))); done) | (simp [*]; done) | (simp [go_sem, *]; done) | (simp; omega))
    intro hH0
    refine wpAnyH_take (i := 0) (v := ?_) rfl (by kernel_rfl) (by kernel_rfl) (by kernel_rfl) (fun _ _ _ h => h) (Or.inl ⟨by rfl, ?_⟩) (by assumption) ?_
    rotate_left
    focus (intro wq hSq; (try dsimp only at hSq); go_simp; first | done | (with_reducible rfl))
    (try simp only [Act.put, List.getElem_toArray, List.getElem_cons_zero, List.setIfInBounds_toArray, List.set_cons_zero, List.set_cons_succ])
    refine wpAnyH_ready (rs := [1]) (by kernel_rfl) (by simp) ?_
    refine AllReadyH.cons rfl (fun K hK => ?_) AllReadyH.nil
    rw [if_pos (by rfl)]
    go_simp
    refine (is_any _ _ _).mono ?_
    rintro e wr ⟨rfl, hbr⟩
    obtain ⟨hcr, hfr, hzr, hBr⟩ := after (a := w) (B := w.heap.size) (w.heap.size + 2) hbr (by first | (with_reducible assumption) | (simp; done) | omega | (simp; omega)) (by repeat' (first | (with_reducible exact Below.refl _ _) | (with_reducible assumption) | (with_reducible refine drewN_below ?_ _) | (with_reducible refine Below.drew ?_) | (with_reducible refine Below.alloc ?_ ?_ _) | (with_reducible refine Below.setCell ?_ ?_ _) | (simp; done) | omega | (simp; omega))) (by omega)
    have yG := Nat.lt_of_lt_of_le xG hzr
    have yV := Nat.lt_of_lt_of_le xV hzr
    rw [hq]
    dsimp only
    refine hK.out _ _ ?_ (fun hHeld => ?_)
    · (refine ⟨?_, ?_, ?_, ?_, ?_, ?_, ?_, ?_, ?_⟩ <;> first | assumption | ((repeat' (first | (with_reducible exact Below.refl _ _) | (with_reducible assumption) | (with_reducible refine drewN_below ?_ _) | (with_reducible refine Below.drew ?_) | (with_reducible refine Below.alloc ?_ ?_ _) | (with_reducible refine Below.setCell ?_ ?_ _) | (simp; done) | omega | (simp; omega))); done) | (simp [*]; done) | (simp [go_sem, *]; done) | (simp; omega))
    clear hK K
    (try simp only [Act.put, List.getElem_toArray, List.getElem_cons_succ, List.getElem_cons_zero, List.setIfInBounds_toArray, List.set_cons_zero, List.set_cons_succ])
    refine wpAnyH_take (i := 2) (v := ?_) rfl (by kernel_rfl) (by kernel_rfl) (by kernel_rfl) (fun _ _ _ h => h) (Or.inl ⟨by rfl, ?_⟩) (by assumption) ?_
    rotate_left
    focus (intro wq hSq; (try dsimp only at hSq); go_simp; first | done | (with_reducible rfl))
    (try simp only [Act.put, List.getElem_toArray, List.getElem_cons_succ, List.getElem_cons_zero, List.setIfInBounds_toArray, List.set_cons_zero, List.set_cons_succ])
    refine wpAnyH_take (i := 3) (v := undef) rfl (by kernel_rfl) (by kernel_rfl) (by kernel_rfl) (fun _ _ _ h => h) (Or.inr ⟨by rfl, rfl⟩) (by assumption) ?_
    (try simp only [Act.put, List.getElem_toArray, List.getElem_cons_succ, List.getElem_cons_zero, List.setIfInBounds_toArray, List.set_cons_zero, List.set_cons_succ])
    refine wpAnyH_take (i := 4) (v := undef) rfl (by kernel_rfl) (by kernel_rfl) (by kernel_rfl) (fun _ _ _ h => h) (Or.inr ⟨by rfl, rfl⟩) (by assumption) ?_
    (try simp only [Act.put, List.getElem_toArray, List.getElem_cons_succ, List.getElem_cons_zero, List.setIfInBounds_toArray, List.set_cons_zero, List.set_cons_succ])
    refine wpAnyH_take (i := 6) (v := undef) rfl (by kernel_rfl) (by kernel_rfl) (by kernel_rfl) (fun _ _ _ h => h) (Or.inr ⟨by rfl, rfl⟩) (by assumption) ?_
    (try simp only [Act.put, List.getElem_toArray, List.getElem_cons_succ, List.getElem_cons_zero, List.setIfInBounds_toArray, List.set_cons_zero, List.set_cons_succ])
    refine wpAnyH_take (i := 5) (v := undef) rfl (by kernel_rfl) (by kernel_rfl) (by kernel_rfl) (fun _ _ _ h => h) (Or.inr ⟨by rfl, rfl⟩) (by assumption) ?_
    (try simp only [Act.put, List.getElem_toArray, List.getElem_cons_succ, List.getElem_cons_zero, List.setIfInBounds_toArray, List.set_cons_zero, List.set_cons_succ])
    refine wpAnyH_take (i := 7) (v := undef) rfl (by kernel_rfl) (by kernel_rfl) (by kernel_rfl) (fun _ _ _ h => h) (Or.inr ⟨by rfl, rfl⟩) (by assumption) ?_
    (try simp only [Act.put, List.getElem_toArray, List.getElem_cons_succ, List.getElem_cons_zero, List.setIfInBounds_toArray, List.set_cons_zero, List.set_cons_succ])
    refine wpAnyH_take (i := 8) (v := ?_) rfl (by kernel_rfl) (by kernel_rfl) (by kernel_rfl) (fun _ _ _ h => h) (Or.inl ⟨by rfl, ?_⟩) (by assumption) ?_
    rotate_left
    focus (intro wq hSq; (try dsimp only at hSq); go_simp; first | done | (with_reducible rfl))
    (try simp only [Act.put, List.getElem_toArray, List.getElem_cons_succ, List.getElem_cons_zero, List.setIfInBounds_toArray, List.set_cons_zero, List.set_cons_succ])
    refine wpAnyH_take (i := 9) (v := ?_) rfl (by kernel_rfl) (by kernel_rfl) (by kernel_rfl) (fun _ _ _ h => h) (Or.inl ⟨by rfl, ?_⟩) (by assumption) ?_
    rotate_left
    focus (intro wq hSq; (try dsimp only at hSq); go_simp; first | done | (with_reducible rfl))
    (try simp only [Act.put, List.getElem_toArray, List.getElem_cons_succ, List.getElem_cons_zero, List.setIfInBounds_toArray, List.set_cons_zero, List.set_cons_succ])
    refine wpAnyH_done (by kernel_rfl) ?_ _
    obtain ⟨s0, s1, s2, s3, s4, s5, s6, s7, s8⟩ := (by assumption : wr.cell? ⟨w.heap.size, 0, none⟩ = some (.string k) ∧ wr.cell? ⟨w.heap.size, 1, none⟩ = some (.int .i64 I) ∧ wr.cell? ⟨w.heap.size, 2, none⟩ = some (.int .i64 F) ∧ wr.cell? ⟨w.heap.size, 3, none⟩ = some (.string r) ∧ wr.cell? ⟨w.heap.size, 4, none⟩ = some (.string o) ∧ wr.cell? ⟨w.heap.size + 1, 0, none⟩ = some (.int .i64 n) ∧ wr.cell? ⟨w.heap.size + 1, 1, none⟩ = some (.int .i64 d) ∧ w.heap.size + 2 ≤ wr.heap.size ∧ Below w.heap.size w wr)
    have cG0w1 := s0
    have cG1w1 := s1
    have cG2w1 := s2
    have cG3w1 := s3
    have cG4w1 := s4
    have cV0w1 := s5
    have cV1w1 := s6
    have bGw1 : w.heap.size < wr.heap.size := Nat.lt_of_lt_of_le xG s7
    have dGw1 : w.heap.size < wr.heap.size + 1 := Nat.lt_succ_of_lt bGw1
    have bVw1 : w.heap.size + 1 < wr.heap.size := Nat.lt_of_lt_of_le xV s7
    have dVw1 : w.heap.size + 1 < wr.heap.size + 1 := Nat.lt_succ_of_lt bVw1
    have hBw1 : Below w.heap.size w wr := s8
    have zw1 : w.heap.size ≤ wr.heap.size := hBw1.size
    clear s0 s1 s2 s3 s4 s5 s6 s7 s8 xG xV hcr hfr hzr hBr hbr
    repeat (clear hcr hfr hzr hBr hbr)
    skip
    obtain ⟨w1, ew1⟩ : ∃ x, x = wr := ⟨_, rfl⟩
    subst ew1
    go_wp2
    go_ret
    exact ⟨rfl, (by repeat' (first | (with_reducible exact Below.refl _ _) | (with_reducible assumption) | (with_reducible refine drewN_below ?_ _) | (with_reducible refine Below.drew ?_) | (with_reducible refine Below.alloc ?_ ?_ _) | (with_reducible refine Below.setCell ?_ ?_ _) | (simp; done) | omega | (simp; omega)))⟩
  · have hp : Z.fitQ k r o I F n d = ((Z.fitQ k r o I F n d).1, (Z.fitQ k r o I F n d).2) := rfl
    have e : Z.isQ k r o I F n d = ((Z.fitQ k r o I F n d).1 == n && (Z.fitQ k r o I F n d).2 == d) := by unfold Z.isQ; rw [hq]; rfl
    rw [e]; clear e
    generalize (Z.fitQ k r o I F n d).1 = a at hp ⊢
    generalize (Z.fitQ k r o I F n d).2 = b at hp ⊢
    by_cases h1 : a = n
    · rw [h1] at hp ⊢
      clear h1
      by_cases h2 : b = d
      · rw [h2] at hp ⊢
        clear h2
        rw [show (n == n && d == d) = true by simp]
        have hr : Hid (Z.fitQ k r o I F n d = (n, d)) := hp
        clear hp
        go_enter Tryd.func17, Tryd.ntmps17
        go_wp2_with fail
        have xG : w.heap.size < w.heap.size + 2 := by omega
        have xV : w.heap.size + 1 < w.heap.size + 2 := by omega
        refine wp_region_held_drew (S := (fun w' => w'.cell? ⟨w.heap.size, 0, none⟩ = some (.string k) ∧ w'.cell? ⟨w.heap.size, 1, none⟩ = some (.int .i64 I) ∧ w'.cell? ⟨w.heap.size, 2, none⟩ = some (.int .i64 F) ∧ w'.cell? ⟨w.heap.size, 3, none⟩ = some (.string r) ∧ w'.cell? ⟨w.heap.size, 4, none⟩ = some (.string o) ∧ w'.cell? ⟨w.heap.size + 1, 0, none⟩ = some (.int .i64 n) ∧ w'.cell? ⟨w.heap.size + 1, 1, none⟩ = some (.int .i64 d) ∧ w.heap.size + 2 ≤ w'.heap.size ∧ Below w.heap.size w w')) (by kernel_rfl) ?_ ?_
        · (refine ⟨?_, ?_, ?_, ?_, ?_, ?_, ?_, ?_, ?_⟩ <;> first | assumption | ((repeat' (first | (with_reducible exact Below.refl _ _) | (with_reducible assumption) | (with_reducible refine drewN_below ?_ _) | (with_reducible refine Below.drew ?_) | (with_reducible refine Below.alloc ?_ ?_ _) | (with_reducible refine Below.setCell ?_ ?_ _) | (simp; done) | omega | (simp; omega))); done) | (simp [*]; done) | (simp [go_sem, *]; done) | (simp; omega))
        intro hH0
        refine wpAnyH_take (i := 0) (v := ?_) rfl (by kernel_rfl) (by kernel_rfl) (by kernel_rfl) (fun _ _ _ h => h) (Or.inl ⟨by rfl, ?_⟩) (by assumption) ?_
        rotate_left
        focus (intro wq hSq; (try dsimp only at hSq); go_simp; first | done | (with_reducible rfl))
        (try simp only [Act.put, List.getElem_toArray, List.getElem_cons_zero, List.setIfInBounds_toArray, List.set_cons_zero, List.set_cons_succ])
        refine wpAnyH_ready (rs := [1]) (by kernel_rfl) (by simp) ?_
        refine AllReadyH.cons rfl (fun K hK => ?_) AllReadyH.nil
        rw [if_pos (by rfl)]
        go_simp
        refine (is_any _ _ _).mono ?_
        rintro e wr ⟨rfl, hbr⟩
        obtain ⟨hcr, hfr, hzr, hBr⟩ := after (a := w) (B := w.heap.size) (w.heap.size + 2) hbr (by first | (with_reducible assumption) | (simp; done) | omega | (simp; omega)) (by repeat' (first | (with_reducible exact Below.refl _ _) | (with_reducible assumption) | (with_reducible refine drewN_below ?_ _) | (with_reducible refine Below.drew ?_) | (with_reducible refine Below.alloc ?_ ?_ _) | (with_reducible refine Below.setCell ?_ ?_ _) | (simp; done) | omega | (simp; omega))) (by omega)
        have yG := Nat.lt_of_lt_of_le xG hzr
        have yV := Nat.lt_of_lt_of_le xV hzr
        rw [hq]
        dsimp only
        refine hK.out _ _ ?_ (fun hHeld => ?_)
        · (refine ⟨?_, ?_, ?_, ?_, ?_, ?_, ?_, ?_, ?_⟩ <;> first | assumption | ((repeat' (first | (with_reducible exact Below.refl _ _) | (with_reducible assumption) | (with_reducible refine drewN_below ?_ _) | (with_reducible refine Below.drew ?_) | (with_reducible refine Below.alloc ?_ ?_ _) | (with_reducible refine Below.setCell ?_ ?_ _) | (simp; done) | omega | (simp; omega))); done) | (simp [*]; done) | (simp [go_sem, *]; done) | (simp; omega))
        clear hK K
        (try simp only [Act.put, List.getElem_toArray, List.getElem_cons_succ, List.getElem_cons_zero, List.setIfInBounds_toArray, List.set_cons_zero, List.set_cons_succ])
        refine wpAnyH_take (i := 2) (v := ?_) rfl (by kernel_rfl) (by kernel_rfl) (by kernel_rfl) (fun _ _ _ h => h) (Or.inl ⟨by rfl, ?_⟩) (by assumption) ?_
        rotate_left
        focus (intro wq hSq; (try dsimp only at hSq); go_simp; first | done | (with_reducible rfl))
        (try simp only [Act.put, List.getElem_toArray, List.getElem_cons_succ, List.getElem_cons_zero, List.setIfInBounds_toArray, List.set_cons_zero, List.set_cons_succ])
        refine wpAnyH_take (i := 3) (v := ?_) rfl (by kernel_rfl) (by kernel_rfl) (by kernel_rfl) (fun _ _ _ h => h) (Or.inl ⟨by rfl, ?_⟩) (by assumption) ?_
        rotate_left
        focus (intro wq hSq; (try dsimp only at hSq); go_simp; first | done | (with_reducible rfl))
        (try simp only [Act.put, List.getElem_toArray, List.getElem_cons_succ, List.getElem_cons_zero, List.setIfInBounds_toArray, List.set_cons_zero, List.set_cons_succ])
        refine wpAnyH_take (i := 4) (v := ?_) rfl (by kernel_rfl) (by kernel_rfl) (by kernel_rfl) (fun _ _ _ h => h) (Or.inl ⟨by rfl, ?_⟩) (by assumption) ?_
        rotate_left
        focus (intro wq hSq; (try dsimp only at hSq); go_simp; first | done | (with_reducible rfl))
        (try simp only [Act.put, List.getElem_toArray, List.getElem_cons_succ, List.getElem_cons_zero, List.setIfInBounds_toArray, List.set_cons_zero, List.set_cons_succ])
        refine wpAnyH_take (i := 6) (v := ?_) rfl (by kernel_rfl) (by kernel_rfl) (by kernel_rfl) (fun _ _ _ h => h) (Or.inl ⟨by rfl, ?_⟩) (by assumption) ?_
        rotate_left
        focus (intro wq hSq; (try dsimp only at hSq); go_simp; first | done | (with_reducible rfl))
        (try simp only [Act.put, List.getElem_toArray, List.getElem_cons_succ, List.getElem_cons_zero, List.setIfInBounds_toArray, List.set_cons_zero, List.set_cons_succ])
        refine wpAnyH_ready (rs := [5]) (by kernel_rfl) (by simp) ?_
        refine AllReadyH.cons rfl (fun K hK => ?_) AllReadyH.nil
        rw [if_pos (by rfl)]
        go_simp
        refine (Fit_any _ _ _ _ _ _ _ hI hF _).mono ?_
        rintro e wr ⟨rfl, hbr⟩
        obtain ⟨hcr, hfr, hzr, hBr⟩ := after (a := w) (B := w.heap.size) (w.heap.size + 2) hbr (by first | (with_reducible assumption) | (simp; done) | omega | (simp; omega)) (by repeat' (first | (with_reducible exact Below.refl _ _) | (with_reducible assumption) | (with_reducible refine drewN_below ?_ _) | (with_reducible refine Below.drew ?_) | (with_reducible refine Below.alloc ?_ ?_ _) | (with_reducible refine Below.setCell ?_ ?_ _) | (simp; done) | omega | (simp; omega))) (by omega)
        have yG := Nat.lt_of_lt_of_le xG hzr
        have yV := Nat.lt_of_lt_of_le xV hzr
        rw [hr.out]
        dsimp only
        refine hK.out _ _ ?_ (fun hHeld => ?_)
        · (refine ⟨?_, ?_, ?_, ?_, ?_, ?_, ?_, ?_, ?_⟩ <;> first | assumption | ((repeat' (first | (with_reducible exact Below.refl _ _) | (with_reducible assumption) | (with_reducible refine drewN_below ?_ _) | (with_reducible refine Below.drew ?_) | (with_reducible refine Below.alloc ?_ ?_ _) | (with_reducible refine Below.setCell ?_ ?_ _) | (simp; done) | omega | (simp; omega))); done) | (simp [*]; done) | (simp [go_sem, *]; done) | (simp; omega))
        clear hK K
        (try simp only [Act.put, List.getElem_toArray, List.getElem_cons_succ, List.getElem_cons_zero, List.setIfInBounds_toArray, List.set_cons_zero, List.set_cons_succ])
        refine wpAnyH_take (i := 7) (v := ?_) rfl (by kernel_rfl) (by kernel_rfl) (by kernel_rfl) (fun _ _ _ h => h) (Or.inl ⟨by rfl, ?_⟩) (by assumption) ?_
        rotate_left
        focus (intro wq hSq; (try dsimp only at hSq); go_simp; first | done | (with_reducible rfl))
        (try simp only [Act.put, List.getElem_toArray, List.getElem_cons_succ, List.getElem_cons_zero, List.setIfInBounds_toArray, List.set_cons_zero, List.set_cons_succ])
        refine wpAnyH_take (i := 8) (v := ?_) rfl (by kernel_rfl) (by kernel_rfl) (by kernel_rfl) (fun _ _ _ h => h) (Or.inl ⟨by rfl, ?_⟩) (by assumption) ?_
        rotate_left
        focus (intro wq hSq; (try dsimp only at hSq); go_simp; first | done | (with_reducible rfl))
        (try simp only [Act.put, List.getElem_toArray, List.getElem_cons_succ, List.getElem_cons_zero, List.setIfInBounds_toArray, List.set_cons_zero, List.set_cons_succ])
        refine wpAnyH_take (i := 9) (v := ?_) rfl (by kernel_rfl) (by kernel_rfl) (by kernel_rfl) (fun _ _ _ h => h) (Or.inl ⟨by rfl, ?_⟩) (by assumption) ?_
        rotate_left
        focus (intro wq hSq; (try dsimp only at hSq); go_simp; first | done | (with_reducible rfl))
        (try simp only [Act.put, List.getElem_toArray, List.getElem_cons_succ, List.getElem_cons_zero, List.setIfInBounds_toArray, List.set_cons_zero, List.set_cons_succ])
        refine wpAnyH_done (by kernel_rfl) ?_ _
        obtain ⟨s0, s1, s2, s3, s4, s5, s6, s7, s8⟩ := (by assumption : wr.cell? ⟨w.heap.size, 0, none⟩ = some (.string k) ∧ wr.cell? ⟨w.heap.size, 1, none⟩ = some (.int .i64 I) ∧ wr.cell? ⟨w.heap.size, 2, none⟩ = some (.int .i64 F) ∧ wr.cell? ⟨w.heap.size, 3, none⟩ = some (.string r) ∧ wr.cell? ⟨w.heap.size, 4, none⟩ = some (.string o) ∧ wr.cell? ⟨w.heap.size + 1, 0, none⟩ = some (.int .i64 n) ∧ wr.cell? ⟨w.heap.size + 1, 1, none⟩ = some (.int .i64 d) ∧ w.heap.size + 2 ≤ wr.heap.size ∧ Below w.heap.size w wr)
        have cG0w1 := s0
        have cG1w1 := s1
        have cG2w1 := s2
        have cG3w1 := s3
        have cG4w1 := s4
        have cV0w1 := s5
        have cV1w1 := s6
        have bGw1 : w.heap.size < wr.heap.size := Nat.lt_of_lt_of_le xG s7
        have dGw1 : w.heap.size < wr.heap.size + 1 := Nat.lt_succ_of_lt bGw1
        have bVw1 : w.heap.size + 1 < wr.heap.size := Nat.lt_of_lt_of_le xV s7
        have dVw1 : w.heap.size + 1 < wr.heap.size + 1 := Nat.lt_succ_of_lt bVw1
        have hBw1 : Below w.heap.size w wr := s8
        have zw1 : w.heap.size ≤ wr.heap.size := hBw1.size
        clear s0 s1 s2 s3 s4 s5 s6 s7 s8 xG xV hcr hfr hzr hBr hbr
        repeat (clear hcr hfr hzr hBr hbr)
        skip
        obtain ⟨w1, ew1⟩ : ∃ x, x = wr := ⟨_, rfl⟩
        subst ew1
        go_wp2
        go_ret
        exact ⟨rfl, (by repeat' (first | (with_reducible exact Below.refl _ _) | (with_reducible assumption) | (with_reducible refine drewN_below ?_ _) | (with_reducible refine Below.drew ?_) | (with_reducible refine Below.alloc ?_ ?_ _) | (with_reducible refine Below.setCell ?_ ?_ _) | (simp; done) | omega | (simp; omega)))⟩
      · rw [show (n == n && b == d) = false by simp [h2]]
        have hr : Hid (Z.fitQ k r o I F n d = (n, b)) := hp
        clear hp
        go_enter Tryd.func17, Tryd.ntmps17
        go_wp2_with fail
        have xG : w.heap.size < w.heap.size + 2 := by omega
        have xV : w.heap.size + 1 < w.heap.size + 2 := by omega
        refine wp_region_held_drew (S := (fun w' => w'.cell? ⟨w.heap.size, 0, none⟩ = some (.string k) ∧ w'.cell? ⟨w.heap.size, 1, none⟩ = some (.int .i64 I) ∧ w'.cell? ⟨w.heap.size, 2, none⟩ = some (.int .i64 F) ∧ w'.cell? ⟨w.heap.size, 3, none⟩ = some (.string r) ∧ w'.cell? ⟨w.heap.size, 4, none⟩ = some (.string o) ∧ w'.cell? ⟨w.heap.size + 1, 0, none⟩ = some (.int .i64 n) ∧ w'.cell? ⟨w.heap.size + 1, 1, none⟩ = some (.int .i64 d) ∧ w.heap.size + 2 ≤ w'.heap.size ∧ Below w.heap.size w w')) (by kernel_rfl) ?_ ?_
        · (refine ⟨?_, ?_, ?_, ?_, ?_, ?_, ?_, ?_, ?_⟩ <;> first | assumption | ((repeat' (first | (with_reducible exact Below.refl _ _) | (with_reducible assumption) | (with_reducible refine drewN_below ?_ _) | (with_reducible refine Below.drew ?_) | (with_reducible refine Below.alloc ?_ ?_ _) | (with_reducible refine Below.setCell ?_ ?_ _) | (simp; done) | omega | (simp; omega))); done) | (simp [*]; done) | (simp [go_sem, *]; done) | (simp; omega))
        intro hH0
        refine wpAnyH_take (i := 0) (v := ?_) rfl (by kernel_rfl) (by kernel_rfl) (by kernel_rfl) (fun _ _ _ h => h) (Or.inl ⟨by rfl, ?_⟩) (by assumption) ?_
        rotate_left
        focus (intro wq hSq; (try dsimp only at hSq); go_simp; first | done | (with_reducible rfl))
        (try simp only [Act.put, List.getElem_toArray, List.getElem_cons_zero, List.setIfInBounds_toArray, List.set_cons_zero, List.set_cons_succ])
        refine wpAnyH_ready (rs := [1]) (by kernel_rfl) (by simp) ?_
        refine AllReadyH.cons rfl (fun K hK => ?_) AllReadyH.nil
        rw [if_pos (by rfl)]
        go_simp
        refine (is_any _ _ _).mono ?_
        rintro e wr ⟨rfl, hbr⟩
        obtain ⟨hcr, hfr, hzr, hBr⟩ := after (a := w) (B := w.heap.size) (w.heap.size + 2) hbr (by first | (with_reducible assumption) | (simp; done) | omega | (simp; omega)) (by repeat' (first | (with_reducible exact Below.refl _ _) | (with_reducible assumption) | (with_reducible refine drewN_below ?_ _) | (with_reducible refine Below.drew ?_) | (with_reducible refine Below.alloc ?_ ?_ _) | (with_reducible refine Below.setCell ?_ ?_ _) | (simp; done) | omega | (simp; omega))) (by omega)
        have yG := Nat.lt_of_lt_of_le xG hzr
        have yV := Nat.lt_of_lt_of_le xV hzr
        rw [hq]
        dsimp only
        refine hK.out _ _ ?_ (fun hHeld => ?_)
        · (refine ⟨?_, ?_, ?_, ?_, ?_, ?_, ?_, ?_, ?_⟩ <;> first | assumption | ((repeat' (first | (with_reducible exact Below.refl _ _) | (with_reducible assumption) | (with_reducible refine drewN_below ?_ _) | (with_reducible refine Below.drew ?_) | (with_reducible refine Below.alloc ?_ ?_ _) | (with_reducible refine Below.setCell ?_ ?_ _) | (simp; done) | omega | (simp; omega))); done) | (simp [*]; done) | (simp [go_sem, *]; done) | (simp; omega))
        clear hK K
        (try simp only [Act.put, List.getElem_toArray, List.getElem_cons_succ, List.getElem_cons_zero, List.setIfInBounds_toArray, List.set_cons_zero, List.set_cons_succ])
        refine wpAnyH_take (i := 2) (v := ?_) rfl (by kernel_rfl) (by kernel_rfl) (by kernel_rfl) (fun _ _ _ h => h) (Or.inl ⟨by rfl, ?_⟩) (by assumption) ?_
        rotate_left
        focus (intro wq hSq; (try dsimp only at hSq); go_simp; first | done | (with_reducible rfl))
        (try simp only [Act.put, List.getElem_toArray, List.getElem_cons_succ, List.getElem_cons_zero, List.setIfInBounds_toArray, List.set_cons_zero, List.set_cons_succ])
        refine wpAnyH_take (i := 3) (v := ?_) rfl (by kernel_rfl) (by kernel_rfl) (by kernel_rfl) (fun _ _ _ h => h) (Or.inl ⟨by rfl, ?_⟩) (by assumption) ?_
        rotate_left
        focus (intro wq hSq; (try dsimp only at hSq); go_simp; first | done | (with_reducible rfl))
        (try simp only [Act.put, List.getElem_toArray, List.getElem_cons_succ, List.getElem_cons_zero, List.setIfInBounds_toArray, List.set_cons_zero, List.set_cons_succ])
        refine wpAnyH_take (i := 4) (v := ?_) rfl (by kernel_rfl) (by kernel_rfl) (by kernel_rfl) (fun _ _ _ h => h) (Or.inl ⟨by rfl, ?_⟩) (by assumption) ?_
        rotate_left
        focus (intro wq hSq; (try dsimp only at hSq); go_simp; first | done | (with_reducible rfl))
        (try simp only [Act.put, List.getElem_toArray, List.getElem_cons_succ, List.getElem_cons_zero, List.setIfInBounds_toArray, List.set_cons_zero, List.set_cons_succ])
        refine wpAnyH_take (i := 6) (v := ?_) rfl (by kernel_rfl) (by kernel_rfl) (by kernel_rfl) (fun _ _ _ h => h) (Or.inl ⟨by rfl, ?_⟩) (by assumption) ?_
        rotate_left
        focus (intro wq hSq; (try dsimp only at hSq); go_simp; first | done | (with_reducible rfl))
        (try simp only [Act.put, List.getElem_toArray, List.getElem_cons_succ, List.getElem_cons_zero, List.setIfInBounds_toArray, List.set_cons_zero, List.set_cons_succ])
        refine wpAnyH_ready (rs := [5]) (by kernel_rfl) (by simp) ?_
        refine AllReadyH.cons rfl (fun K hK => ?_) AllReadyH.nil
        rw [if_pos (by rfl)]
        go_simp
        refine (Fit_any _ _ _ _ _ _ _ hI hF _).mono ?_
        rintro e wr ⟨rfl, hbr⟩
        obtain ⟨hcr, hfr, hzr, hBr⟩ := after (a := w) (B := w.heap.size) (w.heap.size + 2) hbr (by first | (with_reducible assumption) | (simp; done) | omega | (simp; omega)) (by repeat' (first | (with_reducible exact Below.refl _ _) | (with_reducible assumption) | (with_reducible refine drewN_below ?_ _) | (with_reducible refine Below.drew ?_) | (with_reducible refine Below.alloc ?_ ?_ _) | (with_reducible refine Below.setCell ?_ ?_ _) | (simp; done) | omega | (simp; omega))) (by omega)
        have yG := Nat.lt_of_lt_of_le xG hzr
        have yV := Nat.lt_of_lt_of_le xV hzr
        rw [hr.out]
        dsimp only
        refine hK.out _ _ ?_ (fun hHeld => ?_)
        · (refine ⟨?_, ?_, ?_, ?_, ?_, ?_, ?_, ?_, ?_⟩ <;> first | assumption | ((repeat' (first | (with_reducible exact Below.refl _ _) | (with_reducible assumption) | (with_reducible refine drewN_below ?_ _) | (with_reducible refine Below.drew ?_) | (with_reducible refine Below.alloc ?_ ?_ _) | (with_reducible refine Below.setCell ?_ ?_ _) | (simp; done) | omega | (simp; omega))); done) | (simp [*]; done) | (simp [go_sem, *]; done) | (simp; omega))
        clear hK K
        (try simp only [Act.put, List.getElem_toArray, List.getElem_cons_succ, List.getElem_cons_zero, List.setIfInBounds_toArray, List.set_cons_zero, List.set_cons_succ])
        refine wpAnyH_take (i := 7) (v := ?_) rfl (by kernel_rfl) (by kernel_rfl) (by kernel_rfl) (fun _ _ _ h => h) (Or.inl ⟨by rfl, ?_⟩) (by assumption) ?_
        rotate_left
        focus (intro wq hSq; (try dsimp only at hSq); go_simp; first | done | (with_reducible rfl))
        (try simp only [Act.put, List.getElem_toArray, List.getElem_cons_succ, List.getElem_cons_zero, List.setIfInBounds_toArray, List.set_cons_zero, List.set_cons_succ])
        refine wpAnyH_take (i := 8) (v := ?_) rfl (by kernel_rfl) (by kernel_rfl) (by kernel_rfl) (fun _ _ _ h => h) (Or.inl ⟨by rfl, ?_⟩) (by assumption) ?_
        rotate_left
        focus (intro wq hSq; (try dsimp only at hSq); go_simp; first | done | (with_reducible rfl))
        (try simp only [Act.put, List.getElem_toArray, List.getElem_cons_succ, List.getElem_cons_zero, List.setIfInBounds_toArray, List.set_cons_zero, List.set_cons_succ])
        refine wpAnyH_take (i := 9) (v := ?_) rfl (by kernel_rfl) (by kernel_rfl) (by kernel_rfl) (fun _ _ _ h => h) (Or.inl ⟨by rfl, ?_⟩) (by assumption) ?_
        rotate_left
        focus (intro wq hSq; (try dsimp only at hSq); go_simp; first | done | (with_reducible rfl))
        (try simp only [Act.put, List.getElem_toArray, List.getElem_cons_succ, List.getElem_cons_zero, List.setIfInBounds_toArray, List.set_cons_zero, List.set_cons_succ])
        refine wpAnyH_done (by kernel_rfl) ?_ _
        obtain ⟨s0, s1, s2, s3, s4, s5, s6, s7, s8⟩ := (by assumption : wr.cell? ⟨w.heap.size, 0, none⟩ = some (.string k) ∧ wr.cell? ⟨w.heap.size, 1, none⟩ = some (.int .i64 I) ∧ wr.cell? ⟨w.heap.size, 2, none⟩ = some (.int .i64 F) ∧ wr.cell? ⟨w.heap.size, 3, none⟩ = some (.string r) ∧ wr.cell? ⟨w.heap.size, 4, none⟩ = some (.string o) ∧ wr.cell? ⟨w.heap.size + 1, 0, none⟩ = some (.int .i64 n) ∧ wr.cell? ⟨w.heap.size + 1, 1, none⟩ = some (.int .i64 d) ∧ w.heap.size + 2 ≤ wr.heap.size ∧ Below w.heap.size w wr)
        have cG0w1 := s0
        have cG1w1 := s1
        have cG2w1 := s2
        have cG3w1 := s3
        have cG4w1 := s4
        have cV0w1 := s5
        have cV1w1 := s6
        have bGw1 : w.heap.size < wr.heap.size := Nat.lt_of_lt_of_le xG s7
        have dGw1 : w.heap.size < wr.heap.size + 1 := Nat.lt_succ_of_lt bGw1
        have bVw1 : w.heap.size + 1 < wr.heap.size := Nat.lt_of_lt_of_le xV s7
        have dVw1 : w.heap.size + 1 < wr.heap.size + 1 := Nat.lt_succ_of_lt bVw1
        have hBw1 : Below w.heap.size w wr := s8
        have zw1 : w.heap.size ≤ wr.heap.size := hBw1.size
        clear s0 s1 s2 s3 s4 s5 s6 s7 s8 xG xV hcr hfr hzr hBr hbr
        repeat (clear hcr hfr hzr hBr hbr)
        skip
        obtain ⟨w1, ew1⟩ : ∃ x, x = wr := ⟨_, rfl⟩
        subst ew1
        go_wp2
        go_ret
        exact ⟨rfl, (by repeat' (first | (with_reducible exact Below.refl _ _) | (with_reducible assumption) | (with_reducible refine drewN_below ?_ _) | (with_reducible refine Below.drew ?_) | (with_reducible refine Below.alloc ?_ ?_ _) | (with_reducible refine Below.setCell ?_ ?_ _) | (simp; done) | omega | (simp; omega)))⟩
    · rw [show (a == n && b == d) = false by simp [h1]]
      have hr : Hid (Z.fitQ k r o I F n d = (a, b)) := hp
      clear hp
      go_enter Tryd.func17, Tryd.ntmps17
      go_wp2_with fail
      have xG : w.heap.size < w.heap.size + 2 := by omega
      have xV : w.heap.size + 1 < w.heap.size + 2 := by omega
      refine wp_region_held_drew (S := (fun w' => w'.cell? ⟨w.heap.size, 0, none⟩ = some (.string k) ∧ w'.cell? ⟨w.heap.size, 1, none⟩ = some (.int .i64 I) ∧ w'.cell? ⟨w.heap.size, 2, none⟩ = some (.int .i64 F) ∧ w'.cell? ⟨w.heap.size, 3, none⟩ = some (.string r) ∧ w'.cell? ⟨w.heap.size, 4, none⟩ = some (.string o) ∧ w'.cell? ⟨w.heap.size + 1, 0, none⟩ = some (.int .i64 n) ∧ w'.cell? ⟨w.heap.size + 1, 1, none⟩ = some (.int .i64 d) ∧ w.heap.size + 2 ≤ w'.heap.size ∧ Below w.heap.size w w')) (by kernel_rfl) ?_ ?_
      · (refine ⟨?_, ?_, ?_, ?_, ?_, ?_, ?_, ?_, ?_⟩ <;> first | assumption | ((repeat' (first | (with_reducible exact Below.refl _ _) | (with_reducible assumption) | (with_reducible refine drewN_below ?_ _) | (with_reducible refine Below.drew ?_) | (with_reducible refine Below.alloc ?_ ?_ _) | (with_reducible refine Below.setCell ?_ ?_ _) | (simp; done) | omega | (simp; omega))); done) | (simp [*]; done) | (simp [go_sem, *]; done) | (simp; omega))
      intro hH0
      refine wpAnyH_take (i := 0) (v := ?_) rfl (by kernel_rfl) (by kernel_rfl) (by kernel_rfl) (fun _ _ _ h => h) (Or.inl ⟨by rfl, ?_⟩) (by assumption) ?_
      rotate_left
      focus (intro wq hSq; (try dsimp only at hSq); go_simp; first | done | (with_reducible rfl))
      (try simp only [Act.put, List.getElem_toArray, List.getElem_cons_zero, List.setIfInBounds_toArray, List.set_cons_zero, List.set_cons_succ])
      refine wpAnyH_ready (rs := [1]) (by kernel_rfl) (by simp) ?_
      refine AllReadyH.cons rfl (fun K hK => ?_) AllReadyH.nil
      rw [if_pos (by rfl)]
      go_simp
      refine (is_any _ _ _).mono ?_
      rintro e wr ⟨rfl, hbr⟩
      obtain ⟨hcr, hfr, hzr, hBr⟩ := after (a := w) (B := w.heap.size) (w.heap.size + 2) hbr (by first | (with_reducible assumption) | (simp; done) | omega | (simp; omega)) (by repeat' (first | (with_reducible exact Below.refl _ _) | (with_reducible assumption) | (with_reducible refine drewN_below ?_ _) | (with_reducible refine Below.drew ?_) | (with_reducible refine Below.alloc ?_ ?_ _) | (with_reducible refine Below.setCell ?_ ?_ _) | (simp; done) | omega | (simp; omega))) (by omega)
      have yG := Nat.lt_of_lt_of_le xG hzr
      have yV := Nat.lt_of_lt_of_le xV hzr
      rw [hq]
      dsimp only
      refine hK.out _ _ ?_ (fun hHeld => ?_)
      · (refine ⟨?_, ?_, ?_, ?_, ?_, ?_, ?_, ?_, ?_⟩ <;> first | assumption | ((repeat' (first | (with_reducible exact Below.refl _ _) | (with_reducible assumption) | (with_reducible refine drewN_below ?_ _) | (with_reducible refine Below.drew ?_) | (with_reducible refine Below.alloc ?_ ?_ _) | (with_reducible refine Below.setCell ?_ ?_ _) | (simp; done) | omega | (simp; omega))); done) | (simp [*]; done) | (simp [go_sem, *]; done) | (simp; omega))
      clear hK K
      (try simp only [Act.put, List.getElem_toArray, List.getElem_cons_succ, List.getElem_cons_zero, List.setIfInBounds_toArray, List.set_cons_zero, List.set_cons_succ])
      refine wpAnyH_take (i := 2) (v := ?_) rfl (by kernel_rfl) (by kernel_rfl) (by kernel_rfl) (fun _ _ _ h => h) (Or.inl ⟨by rfl, ?_⟩) (by assumption) ?_
      rotate_left
      focus (intro wq hSq; (try dsimp only at hSq); go_simp; first | done | (with_reducible rfl))
      (try simp only [Act.put, List.getElem_toArray, List.getElem_cons_succ, List.getElem_cons_zero, List.setIfInBounds_toArray, List.set_cons_zero, List.set_cons_succ])
      refine wpAnyH_take (i := 3) (v := ?_) rfl (by kernel_rfl) (by kernel_rfl) (by kernel_rfl) (fun _ _ _ h => h) (Or.inl ⟨by rfl, ?_⟩) (by assumption) ?_
      rotate_left
      focus (intro wq hSq; (try dsimp only at hSq); go_simp; first | done | (with_reducible rfl))
      (try simp only [Act.put, List.getElem_toArray, List.getElem_cons_succ, List.getElem_cons_zero, List.setIfInBounds_toArray, List.set_cons_zero, List.set_cons_succ])
      refine wpAnyH_take (i := 4) (v := ?_) rfl (by kernel_rfl) (by kernel_rfl) (by kernel_rfl) (fun _ _ _ h => h) (Or.inl ⟨by rfl, ?_⟩) (by assumption) ?_
      rotate_left
      focus (intro wq hSq; (try dsimp only at hSq); go_simp; first | done | (with_reducible rfl))
      (try simp only [Act.put, List.getElem_toArray, List.getElem_cons_succ, List.getElem_cons_zero, List.setIfInBounds_toArray, List.set_cons_zero, List.set_cons_succ])
      refine wpAnyH_take (i := 6) (v := ?_) rfl (by kernel_rfl) (by kernel_rfl) (by kernel_rfl) (fun _ _ _ h => h) (Or.inl ⟨by rfl, ?_⟩) (by assumption) ?_
      rotate_left
      focus (intro wq hSq; (try dsimp only at hSq); go_simp; first | done | (with_reducible rfl))
      (try simp only [Act.put, List.getElem_toArray, List.getElem_cons_succ, List.getElem_cons_zero, List.setIfInBounds_toArray, List.set_cons_zero, List.set_cons_succ])
      refine wpAnyH_ready (rs := [5]) (by kernel_rfl) (by simp) ?_
      refine AllReadyH.cons rfl (fun K hK => ?_) AllReadyH.nil
      rw [if_pos (by rfl)]
      go_simp
      refine (Fit_any _ _ _ _ _ _ _ hI hF _).mono ?_
      rintro e wr ⟨rfl, hbr⟩
      obtain ⟨hcr, hfr, hzr, hBr⟩ := after (a := w) (B := w.heap.size) (w.heap.size + 2) hbr (by first | (with_reducible assumption) | (simp; done) | omega | (simp; omega)) (by repeat' (first | (with_reducible exact Below.refl _ _) | (with_reducible assumption) | (with_reducible refine drewN_below ?_ _) | (with_reducible refine Below.drew ?_) | (with_reducible refine Below.alloc ?_ ?_ _) | (with_reducible refine Below.setCell ?_ ?_ _) | (simp; done) | omega | (simp; omega))) (by omega)
      have yG := Nat.lt_of_lt_of_le xG hzr
      have yV := Nat.lt_of_lt_of_le xV hzr
      rw [hr.out]
      dsimp only
      refine hK.out _ _ ?_ (fun hHeld => ?_)
      · (refine ⟨?_, ?_, ?_, ?_, ?_, ?_, ?_, ?_, ?_⟩ <;> first | assumption | ((repeat' (first | (with_reducible exact Below.refl _ _) | (with_reducible assumption) | (with_reducible refine drewN_below ?_ _) | (with_reducible refine Below.drew ?_) | (with_reducible refine Below.alloc ?_ ?_ _) | (with_reducible refine Below.setCell ?_ ?_ _) | (simp; done) | omega | (simp; omega))); done) | (simp [*]; done) | (simp [go_sem, *]; done) | (simp; omega))
      clear hK K
      (try simp only [Act.put, List.getElem_toArray, List.getElem_cons_succ, List.getElem_cons_zero, List.setIfInBounds_toArray, List.set_cons_zero, List.set_cons_succ])
      refine wpAnyH_take (i := 7) (v := ?_) rfl (by kernel_rfl) (by kernel_rfl) (by kernel_rfl) (fun _ _ _ h => h) (Or.inl ⟨by rfl, ?_⟩) (by assumption) ?_
      rotate_left
      focus (intro wq hSq; (try dsimp only at hSq); go_simp; first | done | (with_reducible rfl))
      (try simp only [Act.put, List.getElem_toArray, List.getElem_cons_succ, List.getElem_cons_zero, List.setIfInBounds_toArray, List.set_cons_zero, List.set_cons_succ])
      refine wpAnyH_take (i := 8) (v := ?_) rfl (by kernel_rfl) (by kernel_rfl) (by kernel_rfl) (fun _ _ _ h => h) (Or.inl ⟨by rfl, ?_⟩) (by assumption) ?_
      rotate_left
      focus (intro wq hSq; (try dsimp only at hSq); go_simp; first | done | (with_reducible rfl))
      (try simp only [Act.put, List.getElem_toArray, List.getElem_cons_succ, List.getElem_cons_zero, List.setIfInBounds_toArray, List.set_cons_zero, List.set_cons_succ])
      refine wpAnyH_take (i := 9) (v := ?_) rfl (by kernel_rfl) (by kernel_rfl) (by kernel_rfl) (fun _ _ _ h => h) (Or.inl ⟨by rfl, ?_⟩) (by assumption) ?_
      rotate_left
      focus (intro wq hSq; (try dsimp only at hSq); go_simp; first | done | (with_reducible rfl))
      (try simp only [Act.put, List.getElem_toArray, List.getElem_cons_succ, List.getElem_cons_zero, List.setIfInBounds_toArray, List.set_cons_zero, List.set_cons_succ])
      refine wpAnyH_done (by kernel_rfl) ?_ _
      obtain ⟨s0, s1, s2, s3, s4, s5, s6, s7, s8⟩ := (by assumption : wr.cell? ⟨w.heap.size, 0, none⟩ = some (.string k) ∧ wr.cell? ⟨w.heap.size, 1, none⟩ = some (.int .i64 I) ∧ wr.cell? ⟨w.heap.size, 2, none⟩ = some (.int .i64 F) ∧ wr.cell? ⟨w.heap.size, 3, none⟩ = some (.string r) ∧ wr.cell? ⟨w.heap.size, 4, none⟩ = some (.string o) ∧ wr.cell? ⟨w.heap.size + 1, 0, none⟩ = some (.int .i64 n) ∧ wr.cell? ⟨w.heap.size + 1, 1, none⟩ = some (.int .i64 d) ∧ w.heap.size + 2 ≤ wr.heap.size ∧ Below w.heap.size w wr)
      have cG0w1 := s0
      have cG1w1 := s1
      have cG2w1 := s2
      have cG3w1 := s3
      have cG4w1 := s4
      have cV0w1 := s5
      have cV1w1 := s6
      have bGw1 : w.heap.size < wr.heap.size := Nat.lt_of_lt_of_le xG s7
      have dGw1 : w.heap.size < wr.heap.size + 1 := Nat.lt_succ_of_lt bGw1
      have bVw1 : w.heap.size + 1 < wr.heap.size := Nat.lt_of_lt_of_le xV s7
      have dVw1 : w.heap.size + 1 < wr.heap.size + 1 := Nat.lt_succ_of_lt bVw1
      have hBw1 : Below w.heap.size w wr := s8
      have zw1 : w.heap.size ≤ wr.heap.size := hBw1.size
      clear s0 s1 s2 s3 s4 s5 s6 s7 s8 xG xV hcr hfr hzr hBr hbr
      repeat (clear hcr hfr hzr hBr hbr)
      skip
      obtain ⟨w1, ew1⟩ : ∃ x, x = wr := ⟨_, rfl⟩
      subst ew1
      go_wp2
      go_ret
      exact ⟨rfl, (by repeat' (first | (with_reducible exact Below.refl _ _) | (with_reducible assumption) | (with_reducible refine drewN_below ?_ _) | (with_reducible refine Below.drew ?_) | (with_reducible refine Below.alloc ?_ ?_ _) | (with_reducible refine Below.setCell ?_ ?_ _) | (simp; done) | omega | (simp; omega)))⟩

end Go.Proofs.YtmadhpbdianddaaDoor
