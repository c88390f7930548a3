/-
  Formats: the text of one: what a call gives.
-/
import Derived.Test.YtpdklolfkigefaaDoorVi
import Derived.Test.YtpdklolfkigefaaDoorShelft
import Derived.StillTailTactics
import Derived.Laws.Concat
set_option linter.all false
namespace Go.Proofs.YtpdklolfkigefaaDoor
open Go.RowKit
def Z.joinB (r o : ByteArray) (I F : Nat) : ByteArray := ⟨(Lib.join [Lib.decDigits I, Lib.decDigits F, r.data.toList, o.data.toList] [44]).toArray⟩
def Z.textB (k r o : ByteArray) (I F : Nat) : ByteArray := k ++ ⟨#[40]⟩ ++ Z.joinB r o I F ++ ⟨#[41]⟩
theorem dec_len {n : Nat} (h : n < 100) : (Lib.decDigits n).length ≤ 2 := by
  rw [Lib.decDigits]
  split
  · simp
  · rw [Lib.decDigits, dif_pos (by omega)]; simp
theorem text_len {k r o : ByteArray} {I F : Nat} (hv : Z.vld k r o (I : Int) (F : Int) = true) : Hid ((Lib.join (([⟨(Lib.decDigits I).toArray⟩, ⟨(Lib.decDigits F).toArray⟩, r, o] : List ByteArray).map (·.data.toList)) (ByteArray.mk #[44]).data.toList).length ≤ 140737488355328) ∧ k.size ≤ 5 ∧ (Z.joinB r o I F).size ≤ 140737488355328 ∧ Hid ((⟨(Lib.join (([⟨(Lib.decDigits I).toArray⟩, ⟨(Lib.decDigits F).toArray⟩, r, o] : List ByteArray).map (·.data.toList)) (ByteArray.mk #[44]).data.toList).toArray⟩ : ByteArray) = Z.joinB r o I F) := by
  suffices hs : Hid ((Lib.join (([⟨(Lib.decDigits I).toArray⟩, ⟨(Lib.decDigits F).toArray⟩, r, o] : List ByteArray).map (·.data.toList)) (ByteArray.mk #[44]).data.toList).length ≤ 140737488355328) by
    refine ⟨hs, ?_, ?_, rfl⟩
    · rw [Lib.size_eq, ← ByteArray.toList_eq]
      unfold Z.vld Z.hsz at hv
      simp only [Bool.and_eq_true] at hv
      have h1 := hv.1.1
      split at h1
      · rename_i hk; rw [beq_iff_eq] at hk; rw [hk]; decide
      · split at h1
        · rename_i hk; rw [beq_iff_eq] at hk; rw [hk]; decide
        · cases h1
    · rw [Lib.size_eq]; unfold Z.joinB; simpa using hs.out
  have hv' := hv
  unfold Z.vld Z.hsz Z.hrd Z.hov at hv'
  simp only [Bool.and_eq_true, Bool.or_eq_true] at hv'
  obtain ⟨⟨h1, h2⟩, h3⟩ := hv'
  have hI : I < 100 ∧ F < 100 := by
    split at h1
    · have := of_decide_eq_true h1; omega
    · split at h1
      · have := of_decide_eq_true h1; omega
      · cases h1
  have hr : r.data.toList.length ≤ 5 := by
    rw [← ByteArray.toList_eq]
    rcases h2 with (h2 | h2) | h2 <;> (rw [beq_iff_eq] at h2; rw [h2]; decide)
  have ho : o.data.toList.length ≤ 5 := by
    rw [← ByteArray.toList_eq]
    rcases h3 with (h3 | h3) | h3
    · rw [beq_iff_eq] at h3; rw [h3]; decide
    · rw [beq_iff_eq] at h3; rw [h3]; decide
    · have := h3.1; rw [beq_iff_eq] at this; rw [this]; decide
  have d1 := dec_len hI.1
  have d2 := dec_len hI.2
  unfold Hid
  simp only [List.map_cons, List.map_nil, Lib.join_cons, Lib.joinTail, List.flatten_cons, List.flatten_nil, List.length_append, List.length_nil, List.length_cons]
  omega
set_option maxRecDepth 100000 in
set_option maxHeartbeats 2000000 in
theorem text_any (k r o : ByteArray) (I F : Nat) (h : I + F ≤ 30) (hv : Hid (Z.vld k r o (I : Int) (F : Int) = true)) (w : World) :
    Calls Tryd.prog 6 #[.agg #[.string k, .int .i64 (I : Int), .int .i64 (F : Int), .string r, .string o]] w fun e w' => e = .returned (.string (Z.textB k r o I F)) ∧ Below w.heap.size w w' := by
  have hI : -9223372036854775808 ≤ (I : Int) ∧ (I : Int) ≤ 9223372036854775807 := by omega
  have hF : -9223372036854775808 ≤ (F : Int) ∧ (F : Int) ≤ 9223372036854775807 := by omega
  obtain ⟨hlen, hks, hJs, hjn⟩ := text_len hv.out
  obtain ⟨J, hJ⟩ : ∃ J, Hid (Z.joinB r o I F = J) := ⟨_, rfl⟩
  have eT : Z.textB k r o I F = k ++ ⟨#[40]⟩ ++ J ++ ⟨#[41]⟩ := by unfold Z.textB; rw [hJ.out]
  rw [eT]
  rw [hJ.out] at hJs hjn
  have s40 : (ByteArray.mk #[40]).size = 1 := rfl
  have s41 : (ByteArray.mk #[41]).size = 1 := rfl
  have hadd1 : ∀ w, (Op.stringOp .add k ⟨#[40]⟩).run Tryd.prog w = .ok (.string (k ++ ⟨#[40]⟩)) w := fun w => run_string_add_sum w _ _ (by omega)
  have hadd2 : ∀ w, (Op.stringOp .add (k ++ ⟨#[40]⟩) J).run Tryd.prog w = .ok (.string (k ++ ⟨#[40]⟩ ++ J)) w := fun w => run_string_add_sum w _ _ (by rw [ByteArray.size_append]; omega)
  have hadd3 : ∀ w, (Op.stringOp .add (k ++ ⟨#[40]⟩ ++ J) ⟨#[41]⟩).run Tryd.prog w = .ok (.string (k ++ ⟨#[40]⟩ ++ J ++ ⟨#[41]⟩)) w := fun w => run_string_add_sum w _ _ (by rw [ByteArray.size_append, ByteArray.size_append]; omega)
  have HJS := Lib.hid hJs
  clear hJs s40 s41 eT
  go_enter Tryd.func6, Tryd.ntmps6
  go_wp2_with fail
  refine (valid_any _ _ _ _ _ hI hF _).mono ?_
  rintro e w1 ⟨rfl, hb1⟩
  obtain ⟨hc1, hf1, hz1, hB1⟩ := after (a := w) (B := w.heap.size) (w.heap.size + 1) hb1 (by first | (with_reducible assumption) | (simp; done) | omega | (simp; omega)) (by repeat' (first | (with_reducible exact Below.refl _ _) | (with_reducible assumption) | (with_reducible refine drewN_below ?_ _) | (with_reducible refine Below.drew ?_) | (with_reducible refine Below.alloc ?_ ?_ _) | (with_reducible refine Below.setCell ?_ ?_ _) | (simp; done) | omega | (simp; omega))) (by omega)
  rw [hv.out]
  go_wp2_with fail
  refine wp_region_still_tail 10 (by kernel_rfl) (by kernel_rfl) ?_
  simp only [List.take_succ_cons, List.take_zero, List.drop_succ_cons, List.drop_zero]
  still_step
  still_step
  still_call (Tryd.strconv_Itoa_small _ (by omega) _)
  still_step
  still_step
  still_call (Tryd.strconv_Itoa_small _ (by omega) _)
  still_step
  still_step
  still_step
  still_step
  refine wpStill_nil ?_
  change wpList _ _ _ _ _ w1.drew
  go_wp2
  have hbb : Below w.heap.size w (w1.alloc (Obj.cells #[Value.string ⟨(Lib.decDigits I).toArray⟩, Value.string ⟨(Lib.decDigits F).toArray⟩, Value.string r, Value.string o] 9)).drew.drew := by
    refine Below.drew (Below.drew ?_)
    refine Below.alloc hB1 (by omega) _
  have hlt : w.heap.size < w1.heap.size := by omega
  have hck : (w1.alloc (Obj.cells #[Value.string ⟨(Lib.decDigits I).toArray⟩, Value.string ⟨(Lib.decDigits F).toArray⟩, Value.string r, Value.string o] 9)).drew.drew.cell? ⟨w.heap.size, 0, none⟩ = some (.string k) := by simp [go_sem, hlt, hc1]
  go_region_held3 (fun w' => w'.cell? ⟨w.heap.size, 0, none⟩ = some (.string k) ∧ w.heap.size + 1 ≤ w'.heap.size ∧ Below w.heap.size w w') (first | exact ⟨by first | assumption | (simp [go_sem, *]; done), by first | assumption | omega | (simp; omega), by first | exact hbb | assumption | repeat' (first | (with_reducible exact Below.refl _ _) | (with_reducible assumption) | (with_reducible refine drewN_below ?_ _) | (with_reducible refine Below.drew ?_) | (with_reducible refine Below.alloc ?_ ?_ _) | (with_reducible refine Below.setCell ?_ ?_ _) | (simp; done) | omega | (simp; omega))⟩)
    (first | (go_at_call 17; refine (Tryd.strings_Join w1.heap.size 0 4 [⟨(Lib.decDigits I).toArray⟩, ⟨(Lib.decDigits F).toArray⟩, r, o] ⟨#[44]⟩ _ (by intro j x hj; rcases j with _ | _ | _ | _ | j <;> simp at hj <;> (try subst hj) <;> simp [go_sem]) (by simp) (by simp) (by simp) hlen.out).mono ?_; rintro e wj ⟨rfl, hbj⟩; obtain ⟨hcj, hfj, hzj, hBj⟩ := after (a := w) (B := w.heap.size) (w.heap.size + 1) hbj (by first | (with_reducible assumption) | (simp; done) | omega | (simp; omega)) (by repeat' (first | (with_reducible exact Below.refl _ _) | (with_reducible assumption) | (with_reducible refine drewN_below ?_ _) | (with_reducible refine Below.drew ?_) | (with_reducible refine Below.alloc ?_ ?_ _) | (with_reducible refine Below.setCell ?_ ?_ _) | (simp; done) | omega | (simp; omega))) (by omega); rw [hjn.out]))
  go_wp2
  go_ret
  exact ⟨rfl, (by repeat' (first | (with_reducible exact Below.refl _ _) | (with_reducible assumption) | (with_reducible refine drewN_below ?_ _) | (with_reducible refine Below.drew ?_) | (with_reducible refine Below.alloc ?_ ?_ _) | (with_reducible refine Below.setCell ?_ ?_ _) | (simp; done) | omega | (simp; omega)))⟩

set_option maxRecDepth 100000 in
set_option maxHeartbeats 1000000 in
theorem text_none (k r o : ByteArray) (I F : Int) (hI : -9223372036854775808 ≤ I ∧ I ≤ 9223372036854775807) (hF : -9223372036854775808 ≤ F ∧ F ≤ 9223372036854775807) (hv : Hid (Z.vld k r o I F = false)) (w : World) :
    Calls Tryd.prog 6 #[.agg #[.string k, .int .i64 I, .int .i64 F, .string r, .string o]] w fun e w' => e = .returned (.string ⟨#[]⟩) ∧ Below w.heap.size w w' := by
  go_enter Tryd.func6, Tryd.ntmps6
  go_wp2_with fail
  refine (valid_any _ _ _ _ _ hI hF _).mono ?_
  rintro e w1 ⟨rfl, hb1⟩
  obtain ⟨hc1, hf1, hz1, hB1⟩ := after (a := w) (B := w.heap.size) (w.heap.size + 1) hb1 (by first | (with_reducible assumption) | (simp; done) | omega | (simp; omega)) (by repeat' (first | (with_reducible exact Below.refl _ _) | (with_reducible assumption) | (with_reducible refine drewN_below ?_ _) | (with_reducible refine Below.drew ?_) | (with_reducible refine Below.alloc ?_ ?_ _) | (with_reducible refine Below.setCell ?_ ?_ _) | (simp; done) | omega | (simp; omega))) (by omega)
  rw [hv.out]
  go_wp2
  go_ret
  exact ⟨rfl, (by repeat' (first | (with_reducible exact Below.refl _ _) | (with_reducible assumption) | (with_reducible refine drewN_below ?_ _) | (with_reducible refine Below.drew ?_) | (with_reducible refine Below.alloc ?_ ?_ _) | (with_reducible refine Below.setCell ?_ ?_ _) | (simp; done) | omega | (simp; omega)))⟩

/-- The text of any format. -/
def Z.txtQ (k r o : ByteArray) (I F : Int) : ByteArray := if Z.vld k r o I F = true then Z.textB k r o I.toNat F.toNat else ⟨#[]⟩
theorem Text_any (k r o : ByteArray) (I F : Int) (hI : -9223372036854775808 ≤ I ∧ I ≤ 9223372036854775807) (hF : -9223372036854775808 ≤ F ∧ F ≤ 9223372036854775807) (w : World) :
    Calls Tryd.prog 6 #[.agg #[.string k, .int .i64 I, .int .i64 F, .string r, .string o]] w fun e w' => e = .returned (.string (Z.txtQ k r o I F)) ∧ Below w.heap.size w w' := by
  by_cases hv : Z.vld k r o I F = true
  · have e : Z.txtQ k r o I F = Z.textB k r o I.toNat F.toNat := by unfold Z.txtQ; rw [if_pos hv]
    rw [e]
    obtain ⟨m, i, f, hm, hm2, hr, rfl, rfl, hs⟩ := vld_open hv
    exact text_any k r o i f hs hv w
  · have e : Z.txtQ k r o I F = ⟨#[]⟩ := by unfold Z.txtQ; rw [if_neg hv]
    rw [e]
    exact text_none k r o I F hI hF (by simpa [Hid] using hv) w
theorem aw_vld : Z.vld ⟨#[102, 105, 120]⟩ ⟨#[110, 101, 97, 114]⟩ ⟨#[115, 97, 116]⟩ 1 2 = true := by
  unfold Z.vld Z.hsz Z.hrd Z.hov
  simp only [ByteArray.toList_eq]
  decide
theorem aw_fit : Z.fitQ ⟨#[102, 105, 120]⟩ ⟨#[110, 101, 97, 114]⟩ ⟨#[115, 97, 116]⟩ 1 2 3 8 = (1, 2) := by
  unfold Z.fitQ
  rw [aw_vld]
  unfold Z.fitV Z.rdm ovn
  simp only [ByteArray.toList_eq]
  decide
theorem aw_text : Z.txtQ ⟨#[102, 105, 120]⟩ ⟨#[110, 101, 97, 114]⟩ ⟨#[115, 97, 116]⟩ 1 2 = ⟨#[102, 105, 120, 40, 49, 44, 50, 44, 110, 101, 97, 114, 44, 115, 97, 116, 41]⟩ := by
  unfold Z.txtQ
  rw [aw_vld, if_pos rfl]
  unfold Z.textB Z.joinB
  rw [show Lib.decDigits (1 : Int).toNat = [49] by rw [Lib.decDigits]; rfl, show Lib.decDigits (2 : Int).toNat = [50] by rw [Lib.decDigits]; rfl]
  decide
set_option maxRecDepth 100000 in
set_option maxHeartbeats 1000000 in
theorem awake_any  (w : World) :
    Calls Tryd.prog 9 #[] w fun e w' => e = .returned (.bool true) ∧ Below w.heap.size w w' := by
  have HV := Lib.hid aw_vld
  have HF := Lib.hid aw_fit
  have HT := Lib.hid aw_text
  go_enter Tryd.func9, Tryd.ntmps9
  go_wp2_with fail
  refine (valid_any _ _ _ _ _ (by omega) (by omega) _).mono ?_
  rintro e w1 ⟨rfl, hb1⟩
  obtain ⟨hc1, hf1, hz1, hB1⟩ := after (a := w) (B := w.heap.size) (w.heap.size + 1) hb1 (by first | (with_reducible assumption) | (simp; done) | omega | (simp; omega)) (by repeat' (first | (with_reducible exact Below.refl _ _) | (with_reducible assumption) | (with_reducible refine drewN_below ?_ _) | (with_reducible refine Below.drew ?_) | (with_reducible refine Below.alloc ?_ ?_ _) | (with_reducible refine Below.setCell ?_ ?_ _) | (simp; done) | omega | (simp; omega))) (by omega)
  rw [HV.out]
  go_wp2_with fail
  refine (Fit_any _ _ _ _ _ _ _ (by omega) (by omega) _).mono ?_
  rintro e w2 ⟨rfl, hb2⟩
  obtain ⟨hc2, hf2, hz2, hB2⟩ := after (a := w) (B := w.heap.size) (w.heap.size + 1) hb2 (by first | (with_reducible assumption) | (simp; done) | omega | (simp; omega)) (by repeat' (first | (with_reducible exact Below.refl _ _) | (with_reducible assumption) | (with_reducible refine drewN_below ?_ _) | (with_reducible refine Below.drew ?_) | (with_reducible refine Below.alloc ?_ ?_ _) | (with_reducible refine Below.setCell ?_ ?_ _) | (simp; done) | omega | (simp; omega))) (by omega)
  rw [HF.out]
  go_wp2_with fail
  refine (Text_any _ _ _ _ _ (by omega) (by omega) _).mono ?_
  rintro e w3 ⟨rfl, hb3⟩
  obtain ⟨hc3, hf3, hz3, hB3⟩ := after (a := w) (B := w.heap.size) (w.heap.size + 1) hb3 (by first | (with_reducible assumption) | (simp; done) | omega | (simp; omega)) (by repeat' (first | (with_reducible exact Below.refl _ _) | (with_reducible assumption) | (with_reducible refine drewN_below ?_ _) | (with_reducible refine Below.drew ?_) | (with_reducible refine Below.alloc ?_ ?_ _) | (with_reducible refine Below.setCell ?_ ?_ _) | (simp; done) | omega | (simp; omega))) (by omega)
  rw [HT.out]
  go_wp2
  go_ret
  exact ⟨rfl, (by repeat' (first | (with_reducible exact Below.refl _ _) | (with_reducible assumption) | (with_reducible refine drewN_below ?_ _) | (with_reducible refine Below.drew ?_) | (with_reducible refine Below.alloc ?_ ?_ _) | (with_reducible refine Below.setCell ?_ ?_ _) | (simp; done) | omega | (simp; omega)))⟩

end Go.Proofs.YtpdklolfkigefaaDoor
