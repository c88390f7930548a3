/-
  Formats: whether one is valid, by the specification.
-/
import Derived.Test.YtpdklolfkigefaaDoorVa
set_option linter.all false
namespace Go.Proofs.YtpdklolfkigefaaDoor
open Go.RowKit
set_option maxRecDepth 100000 in
set_option maxHeartbeats 16000000 in
theorem rvalid_any (k r o : ByteArray) (I F : Int) (hI : -9223372036854775808 ≤ I ∧ I ≤ 9223372036854775807) (hF : -9223372036854775808 ≤ F ∧ F ≤ 9223372036854775807) (w : World) :
    Calls Tryd.prog 8 #[.agg #[.string k, .int .i64 I, .int .i64 F, .string r, .string o]] w fun e w' => e = .returned (.bool (Z.vld k r o I F)) ∧ Below w.heap.size w w' := by
  cases rfloor : (r.toList == [102, 108, 111, 111, 114])
  rotate_left
  · cases kfix : (k.toList == [102, 105, 120])
    rotate_left
    · cases osat : (o.toList == [115, 97, 116])
      rotate_left
      · by_cases c0 : 0 ≤ I
        rotate_left
        · have e : Z.vld k r o I F = false := by unfold Z.vld Z.hsz Z.hrd Z.hov; simp [rfloor, kfix, osat]; omega
          rw [e]; clear e
          go_enter Tryd.func8, Tryd.ntmps8
          go_wp2
          go_ret
          exact ⟨rfl, by go_grown⟩
        by_cases c1 : I ≤ 30
        rotate_left
        · have e : Z.vld k r o I F = false := by unfold Z.vld Z.hsz Z.hrd Z.hov; simp [rfloor, kfix, osat]; omega
          rw [e]; clear e
          go_enter Tryd.func8, Tryd.ntmps8
          go_wp2
          go_ret
          exact ⟨rfl, by go_grown⟩
        by_cases c2 : 0 ≤ F
        rotate_left
        · have e : Z.vld k r o I F = false := by unfold Z.vld Z.hsz Z.hrd Z.hov; simp [rfloor, kfix, osat]; omega
          rw [e]; clear e
          go_enter Tryd.func8, Tryd.ntmps8
          go_wp2
          go_ret
          exact ⟨rfl, by go_grown⟩
        by_cases c3 : F ≤ 30
        rotate_left
        · have e : Z.vld k r o I F = false := by unfold Z.vld Z.hsz Z.hrd Z.hov; simp [rfloor, kfix, osat]; omega
          rw [e]; clear e
          go_enter Tryd.func8, Tryd.ntmps8
          go_wp2
          go_ret
          exact ⟨rfl, by go_grown⟩
        by_cases c4 : I + F ≤ 30
        rotate_left
        · have e : Z.vld k r o I F = false := by unfold Z.vld Z.hsz Z.hrd Z.hov; simp [rfloor, kfix, osat]; omega
          rw [e]; clear e
          go_enter Tryd.func8, Tryd.ntmps8
          go_wp2
          go_ret
          exact ⟨rfl, by go_grown⟩
        have e : Z.vld k r o I F = true := by unfold Z.vld Z.hsz Z.hrd Z.hov; simp [rfloor, kfix, osat]; omega
        rw [e]; clear e
        go_enter Tryd.func8, Tryd.ntmps8
        go_wp2
        go_ret
        exact ⟨rfl, by go_grown⟩
      cases owrap : (o.toList == [119, 114, 97, 112])
      rotate_left
      · by_cases c0 : 0 ≤ I
        rotate_left
        · have e : Z.vld k r o I F = false := by unfold Z.vld Z.hsz Z.hrd Z.hov; simp [rfloor, kfix, osat, owrap]; omega
          rw [e]; clear e
          go_enter Tryd.func8, Tryd.ntmps8
          go_wp2
          go_ret
          exact ⟨rfl, by go_grown⟩
        by_cases c1 : I ≤ 30
        rotate_left
        · have e : Z.vld k r o I F = false := by unfold Z.vld Z.hsz Z.hrd Z.hov; simp [rfloor, kfix, osat, owrap]; omega
          rw [e]; clear e
          go_enter Tryd.func8, Tryd.ntmps8
          go_wp2
          go_ret
          exact ⟨rfl, by go_grown⟩
        by_cases c2 : 0 ≤ F
        rotate_left
        · have e : Z.vld k r o I F = false := by unfold Z.vld Z.hsz Z.hrd Z.hov; simp [rfloor, kfix, osat, owrap]; omega
          rw [e]; clear e
          go_enter Tryd.func8, Tryd.ntmps8
          go_wp2
          go_ret
          exact ⟨rfl, by go_grown⟩
        by_cases c3 : F ≤ 30
        rotate_left
        · have e : Z.vld k r o I F = false := by unfold Z.vld Z.hsz Z.hrd Z.hov; simp [rfloor, kfix, osat, owrap]; omega
          rw [e]; clear e
          go_enter Tryd.func8, Tryd.ntmps8
          go_wp2
          go_ret
          exact ⟨rfl, by go_grown⟩
        by_cases c4 : I + F ≤ 30
        rotate_left
        · have e : Z.vld k r o I F = false := by unfold Z.vld Z.hsz Z.hrd Z.hov; simp [rfloor, kfix, osat, owrap]; omega
          rw [e]; clear e
          go_enter Tryd.func8, Tryd.ntmps8
          go_wp2
          go_ret
          exact ⟨rfl, by go_grown⟩
        have e : Z.vld k r o I F = true := by unfold Z.vld Z.hsz Z.hrd Z.hov; simp [rfloor, kfix, osat, owrap]; omega
        rw [e]; clear e
        go_enter Tryd.func8, Tryd.ntmps8
        go_wp2
        go_ret
        exact ⟨rfl, by go_grown⟩
      cases onone : (o.toList == [110, 111, 110, 101])
      rotate_left
      · by_cases c0 : 0 ≤ I
        rotate_left
        · have e : Z.vld k r o I F = false := by unfold Z.vld Z.hsz Z.hrd Z.hov; simp [rfloor, kfix, osat, owrap, onone]; omega
          rw [e]; clear e
          go_enter Tryd.func8, Tryd.ntmps8
          go_wp2
          go_ret
          exact ⟨rfl, by go_grown⟩
        by_cases c1 : I ≤ 30
        rotate_left
        · have e : Z.vld k r o I F = false := by unfold Z.vld Z.hsz Z.hrd Z.hov; simp [rfloor, kfix, osat, owrap, onone]; omega
          rw [e]; clear e
          go_enter Tryd.func8, Tryd.ntmps8
          go_wp2
          go_ret
          exact ⟨rfl, by go_grown⟩
        by_cases c2 : 0 ≤ F
        rotate_left
        · have e : Z.vld k r o I F = false := by unfold Z.vld Z.hsz Z.hrd Z.hov; simp [rfloor, kfix, osat, owrap, onone]; omega
          rw [e]; clear e
          go_enter Tryd.func8, Tryd.ntmps8
          go_wp2
          go_ret
          exact ⟨rfl, by go_grown⟩
        by_cases c3 : F ≤ 30
        rotate_left
        · have e : Z.vld k r o I F = false := by unfold Z.vld Z.hsz Z.hrd Z.hov; simp [rfloor, kfix, osat, owrap, onone]; omega
          rw [e]; clear e
          go_enter Tryd.func8, Tryd.ntmps8
          go_wp2
          go_ret
          exact ⟨rfl, by go_grown⟩
        by_cases c4 : I + F ≤ 30
        rotate_left
        · have e : Z.vld k r o I F = false := by unfold Z.vld Z.hsz Z.hrd Z.hov; simp [rfloor, kfix, osat, owrap, onone]; omega
          rw [e]; clear e
          go_enter Tryd.func8, Tryd.ntmps8
          go_wp2
          go_ret
          exact ⟨rfl, by go_grown⟩
        have e : Z.vld k r o I F = true := by unfold Z.vld Z.hsz Z.hrd Z.hov; simp [rfloor, kfix, osat, owrap, onone]; omega
        rw [e]; clear e
        go_enter Tryd.func8, Tryd.ntmps8
        go_wp2
        go_ret
        exact ⟨rfl, by go_grown⟩
      have e : Z.vld k r o I F = false := by unfold Z.vld Z.hsz Z.hrd Z.hov; simp [rfloor, kfix, osat, owrap, onone]
      rw [e]; clear e
      go_enter Tryd.func8, Tryd.ntmps8
      go_wp2
      go_ret
      exact ⟨rfl, by go_grown⟩
    cases kfloat : (k.toList == [102, 108, 111, 97, 116])
    rotate_left
    · cases osat : (o.toList == [115, 97, 116])
      rotate_left
      · by_cases c0 : 1 ≤ I
        rotate_left
        · have e : Z.vld k r o I F = false := by unfold Z.vld Z.hsz Z.hrd Z.hov; simp [rfloor, kfix, kfloat, osat]; omega
          rw [e]; clear e
          go_enter Tryd.func8, Tryd.ntmps8
          go_wp2
          go_ret
          exact ⟨rfl, by go_grown⟩
        by_cases c1 : I ≤ 24
        rotate_left
        · have e : Z.vld k r o I F = false := by unfold Z.vld Z.hsz Z.hrd Z.hov; simp [rfloor, kfix, kfloat, osat]; omega
          rw [e]; clear e
          go_enter Tryd.func8, Tryd.ntmps8
          go_wp2
          go_ret
          exact ⟨rfl, by go_grown⟩
        by_cases c2 : 0 ≤ F
        rotate_left
        · have e : Z.vld k r o I F = false := by unfold Z.vld Z.hsz Z.hrd Z.hov; simp [rfloor, kfix, kfloat, osat]; omega
          rw [e]; clear e
          go_enter Tryd.func8, Tryd.ntmps8
          go_wp2
          go_ret
          exact ⟨rfl, by go_grown⟩
        by_cases c3 : F ≤ 20
        rotate_left
        · have e : Z.vld k r o I F = false := by unfold Z.vld Z.hsz Z.hrd Z.hov; simp [rfloor, kfix, kfloat, osat]; omega
          rw [e]; clear e
          go_enter Tryd.func8, Tryd.ntmps8
          go_wp2
          go_ret
          exact ⟨rfl, by go_grown⟩
        by_cases c4 : I + F ≤ 30
        rotate_left
        · have e : Z.vld k r o I F = false := by unfold Z.vld Z.hsz Z.hrd Z.hov; simp [rfloor, kfix, kfloat, osat]; omega
          rw [e]; clear e
          go_enter Tryd.func8, Tryd.ntmps8
          go_wp2
          go_ret
          exact ⟨rfl, by go_grown⟩
        have e : Z.vld k r o I F = true := by unfold Z.vld Z.hsz Z.hrd Z.hov; simp [rfloor, kfix, kfloat, osat]; omega
        rw [e]; clear e
        go_enter Tryd.func8, Tryd.ntmps8
        go_wp2
        go_ret
        exact ⟨rfl, by go_grown⟩
      cases onone : (o.toList == [110, 111, 110, 101])
      rotate_left
      · by_cases c0 : 1 ≤ I
        rotate_left
        · have e : Z.vld k r o I F = false := by unfold Z.vld Z.hsz Z.hrd Z.hov; simp [rfloor, kfix, kfloat, osat, onone]; omega
          rw [e]; clear e
          go_enter Tryd.func8, Tryd.ntmps8
          go_wp2
          go_ret
          exact ⟨rfl, by go_grown⟩
        by_cases c1 : I ≤ 24
        rotate_left
        · have e : Z.vld k r o I F = false := by unfold Z.vld Z.hsz Z.hrd Z.hov; simp [rfloor, kfix, kfloat, osat, onone]; omega
          rw [e]; clear e
          go_enter Tryd.func8, Tryd.ntmps8
          go_wp2
          go_ret
          exact ⟨rfl, by go_grown⟩
        by_cases c2 : 0 ≤ F
        rotate_left
        · have e : Z.vld k r o I F = false := by unfold Z.vld Z.hsz Z.hrd Z.hov; simp [rfloor, kfix, kfloat, osat, onone]; omega
          rw [e]; clear e
          go_enter Tryd.func8, Tryd.ntmps8
          go_wp2
          go_ret
          exact ⟨rfl, by go_grown⟩
        by_cases c3 : F ≤ 20
        rotate_left
        · have e : Z.vld k r o I F = false := by unfold Z.vld Z.hsz Z.hrd Z.hov; simp [rfloor, kfix, kfloat, osat, onone]; omega
          rw [e]; clear e
          go_enter Tryd.func8, Tryd.ntmps8
          go_wp2
          go_ret
          exact ⟨rfl, by go_grown⟩
        by_cases c4 : I + F ≤ 30
        rotate_left
        · have e : Z.vld k r o I F = false := by unfold Z.vld Z.hsz Z.hrd Z.hov; simp [rfloor, kfix, kfloat, osat, onone]; omega
          rw [e]; clear e
          go_enter Tryd.func8, Tryd.ntmps8
          go_wp2
          go_ret
          exact ⟨rfl, by go_grown⟩
        have e : Z.vld k r o I F = true := by unfold Z.vld Z.hsz Z.hrd Z.hov; simp [rfloor, kfix, kfloat, osat, onone]; omega
        rw [e]; clear e
        go_enter Tryd.func8, Tryd.ntmps8
        go_wp2
        go_ret
        exact ⟨rfl, by go_grown⟩
      have e : Z.vld k r o I F = false := by unfold Z.vld Z.hsz Z.hrd Z.hov; simp [rfloor, kfix, kfloat, osat, onone]
      rw [e]; clear e
      go_enter Tryd.func8, Tryd.ntmps8
      go_wp2
      go_ret
      exact ⟨rfl, by go_grown⟩
    cases osat : (o.toList == [115, 97, 116])
    rotate_left
    · have e : Z.vld k r o I F = false := by unfold Z.vld Z.hsz Z.hrd Z.hov; simp [rfloor, kfix, kfloat]
      rw [e]; clear e
      go_enter Tryd.func8, Tryd.ntmps8
      go_wp2
      go_ret
      exact ⟨rfl, by go_grown⟩
    cases onone : (o.toList == [110, 111, 110, 101])
    rotate_left
    · have e : Z.vld k r o I F = false := by unfold Z.vld Z.hsz Z.hrd Z.hov; simp [rfloor, kfix, kfloat]
      rw [e]; clear e
      go_enter Tryd.func8, Tryd.ntmps8
      go_wp2
      go_ret
      exact ⟨rfl, by go_grown⟩
    have e : Z.vld k r o I F = false := by unfold Z.vld Z.hsz Z.hrd Z.hov; simp [rfloor, kfix, kfloat]
    rw [e]; clear e
    go_enter Tryd.func8, Tryd.ntmps8
    go_wp2
    go_ret
    exact ⟨rfl, by go_grown⟩
  cases rnear : (r.toList == [110, 101, 97, 114])
  rotate_left
  · cases kfix : (k.toList == [102, 105, 120])
    rotate_left
    · cases osat : (o.toList == [115, 97, 116])
      rotate_left
      · by_cases c0 : 0 ≤ I
        rotate_left
        · have e : Z.vld k r o I F = false := by unfold Z.vld Z.hsz Z.hrd Z.hov; simp [rfloor, rnear, kfix, osat]; omega
          rw [e]; clear e
          go_enter Tryd.func8, Tryd.ntmps8
          go_wp2
          go_ret
          exact ⟨rfl, by go_grown⟩
        by_cases c1 : I ≤ 30
        rotate_left
        · have e : Z.vld k r o I F = false := by unfold Z.vld Z.hsz Z.hrd Z.hov; simp [rfloor, rnear, kfix, osat]; omega
          rw [e]; clear e
          go_enter Tryd.func8, Tryd.ntmps8
          go_wp2
          go_ret
          exact ⟨rfl, by go_grown⟩
        by_cases c2 : 0 ≤ F
        rotate_left
        · have e : Z.vld k r o I F = false := by unfold Z.vld Z.hsz Z.hrd Z.hov; simp [rfloor, rnear, kfix, osat]; omega
          rw [e]; clear e
          go_enter Tryd.func8, Tryd.ntmps8
          go_wp2
          go_ret
          exact ⟨rfl, by go_grown⟩
        by_cases c3 : F ≤ 30
        rotate_left
        · have e : Z.vld k r o I F = false := by unfold Z.vld Z.hsz Z.hrd Z.hov; simp [rfloor, rnear, kfix, osat]; omega
          rw [e]; clear e
          go_enter Tryd.func8, Tryd.ntmps8
          go_wp2
          go_ret
          exact ⟨rfl, by go_grown⟩
        by_cases c4 : I + F ≤ 30
        rotate_left
        · have e : Z.vld k r o I F = false := by unfold Z.vld Z.hsz Z.hrd Z.hov; simp [rfloor, rnear, kfix, osat]; omega
          rw [e]; clear e
          go_enter Tryd.func8, Tryd.ntmps8
          go_wp2
          go_ret
          exact ⟨rfl, by go_grown⟩
        have e : Z.vld k r o I F = true := by unfold Z.vld Z.hsz Z.hrd Z.hov; simp [rfloor, rnear, kfix, osat]; omega
        rw [e]; clear e
        go_enter Tryd.func8, Tryd.ntmps8
        go_wp2
        go_ret
        exact ⟨rfl, by go_grown⟩
      cases owrap : (o.toList == [119, 114, 97, 112])
      rotate_left
      · by_cases c0 : 0 ≤ I
        rotate_left
        · have e : Z.vld k r o I F = false := by unfold Z.vld Z.hsz Z.hrd Z.hov; simp [rfloor, rnear, kfix, osat, owrap]; omega
          rw [e]; clear e
          go_enter Tryd.func8, Tryd.ntmps8
          go_wp2
          go_ret
          exact ⟨rfl, by go_grown⟩
        by_cases c1 : I ≤ 30
        rotate_left
        · have e : Z.vld k r o I F = false := by unfold Z.vld Z.hsz Z.hrd Z.hov; simp [rfloor, rnear, kfix, osat, owrap]; omega
          rw [e]; clear e
          go_enter Tryd.func8, Tryd.ntmps8
          go_wp2
          go_ret
          exact ⟨rfl, by go_grown⟩
        by_cases c2 : 0 ≤ F
        rotate_left
        · have e : Z.vld k r o I F = false := by unfold Z.vld Z.hsz Z.hrd Z.hov; simp [rfloor, rnear, kfix, osat, owrap]; omega
          rw [e]; clear e
          go_enter Tryd.func8, Tryd.ntmps8
          go_wp2
          go_ret
          exact ⟨rfl, by go_grown⟩
        by_cases c3 : F ≤ 30
        rotate_left
        · have e : Z.vld k r o I F = false := by unfold Z.vld Z.hsz Z.hrd Z.hov; simp [rfloor, rnear, kfix, osat, owrap]; omega
          rw [e]; clear e
          go_enter Tryd.func8, Tryd.ntmps8
          go_wp2
          go_ret
          exact ⟨rfl, by go_grown⟩
        by_cases c4 : I + F ≤ 30
        rotate_left
        · have e : Z.vld k r o I F = false := by unfold Z.vld Z.hsz Z.hrd Z.hov; simp [rfloor, rnear, kfix, osat, owrap]; omega
          rw [e]; clear e
          go_enter Tryd.func8, Tryd.ntmps8
          go_wp2
          go_ret
          exact ⟨rfl, by go_grown⟩
        have e : Z.vld k r o I F = true := by unfold Z.vld Z.hsz Z.hrd Z.hov; simp [rfloor, rnear, kfix, osat, owrap]; omega
        rw [e]; clear e
        go_enter Tryd.func8, Tryd.ntmps8
        go_wp2
        go_ret
        exact ⟨rfl, by go_grown⟩
      cases onone : (o.toList == [110, 111, 110, 101])
      rotate_left
      · by_cases c0 : 0 ≤ I
        rotate_left
        · have e : Z.vld k r o I F = false := by unfold Z.vld Z.hsz Z.hrd Z.hov; simp [rfloor, rnear, kfix, osat, owrap, onone]; omega
          rw [e]; clear e
          go_enter Tryd.func8, Tryd.ntmps8
          go_wp2
          go_ret
          exact ⟨rfl, by go_grown⟩
        by_cases c1 : I ≤ 30
        rotate_left
        · have e : Z.vld k r o I F = false := by unfold Z.vld Z.hsz Z.hrd Z.hov; simp [rfloor, rnear, kfix, osat, owrap, onone]; omega
          rw [e]; clear e
          go_enter Tryd.func8, Tryd.ntmps8
          go_wp2
          go_ret
          exact ⟨rfl, by go_grown⟩
        by_cases c2 : 0 ≤ F
        rotate_left
        · have e : Z.vld k r o I F = false := by unfold Z.vld Z.hsz Z.hrd Z.hov; simp [rfloor, rnear, kfix, osat, owrap, onone]; omega
          rw [e]; clear e
          go_enter Tryd.func8, Tryd.ntmps8
          go_wp2
          go_ret
          exact ⟨rfl, by go_grown⟩
        by_cases c3 : F ≤ 30
        rotate_left
        · have e : Z.vld k r o I F = false := by unfold Z.vld Z.hsz Z.hrd Z.hov; simp [rfloor, rnear, kfix, osat, owrap, onone]; omega
          rw [e]; clear e
          go_enter Tryd.func8, Tryd.ntmps8
          go_wp2
          go_ret
          exact ⟨rfl, by go_grown⟩
        by_cases c4 : I + F ≤ 30
        rotate_left
        · have e : Z.vld k r o I F = false := by unfold Z.vld Z.hsz Z.hrd Z.hov; simp [rfloor, rnear, kfix, osat, owrap, onone]; omega
          rw [e]; clear e
          go_enter Tryd.func8, Tryd.ntmps8
          go_wp2
          go_ret
          exact ⟨rfl, by go_grown⟩
        have e : Z.vld k r o I F = true := by unfold Z.vld Z.hsz Z.hrd Z.hov; simp [rfloor, rnear, kfix, osat, owrap, onone]; omega
        rw [e]; clear e
        go_enter Tryd.func8, Tryd.ntmps8
        go_wp2
        go_ret
        exact ⟨rfl, by go_grown⟩
      have e : Z.vld k r o I F = false := by unfold Z.vld Z.hsz Z.hrd Z.hov; simp [rfloor, rnear, kfix, osat, owrap, onone]
      rw [e]; clear e
      go_enter Tryd.func8, Tryd.ntmps8
      go_wp2
      go_ret
      exact ⟨rfl, by go_grown⟩
    cases kfloat : (k.toList == [102, 108, 111, 97, 116])
    rotate_left
    · cases osat : (o.toList == [115, 97, 116])
      rotate_left
      · by_cases c0 : 1 ≤ I
        rotate_left
        · have e : Z.vld k r o I F = false := by unfold Z.vld Z.hsz Z.hrd Z.hov; simp [rfloor, rnear, kfix, kfloat, osat]; omega
          rw [e]; clear e
          go_enter Tryd.func8, Tryd.ntmps8
          go_wp2
          go_ret
          exact ⟨rfl, by go_grown⟩
        by_cases c1 : I ≤ 24
        rotate_left
        · have e : Z.vld k r o I F = false := by unfold Z.vld Z.hsz Z.hrd Z.hov; simp [rfloor, rnear, kfix, kfloat, osat]; omega
          rw [e]; clear e
          go_enter Tryd.func8, Tryd.ntmps8
          go_wp2
          go_ret
          exact ⟨rfl, by go_grown⟩
        by_cases c2 : 0 ≤ F
        rotate_left
        · have e : Z.vld k r o I F = false := by unfold Z.vld Z.hsz Z.hrd Z.hov; simp [rfloor, rnear, kfix, kfloat, osat]; omega
          rw [e]; clear e
          go_enter Tryd.func8, Tryd.ntmps8
          go_wp2
          go_ret
          exact ⟨rfl, by go_grown⟩
        by_cases c3 : F ≤ 20
        rotate_left
        · have e : Z.vld k r o I F = false := by unfold Z.vld Z.hsz Z.hrd Z.hov; simp [rfloor, rnear, kfix, kfloat, osat]; omega
          rw [e]; clear e
          go_enter Tryd.func8, Tryd.ntmps8
          go_wp2
          go_ret
          exact ⟨rfl, by go_grown⟩
        by_cases c4 : I + F ≤ 30
        rotate_left
        · have e : Z.vld k r o I F = false := by unfold Z.vld Z.hsz Z.hrd Z.hov; simp [rfloor, rnear, kfix, kfloat, osat]; omega
          rw [e]; clear e
          go_enter Tryd.func8, Tryd.ntmps8
          go_wp2
          go_ret
          exact ⟨rfl, by go_grown⟩
        have e : Z.vld k r o I F = true := by unfold Z.vld Z.hsz Z.hrd Z.hov; simp [rfloor, rnear, kfix, kfloat, osat]; omega
        rw [e]; clear e
        go_enter Tryd.func8, Tryd.ntmps8
        go_wp2
        go_ret
        exact ⟨rfl, by go_grown⟩
      cases onone : (o.toList == [110, 111, 110, 101])
      rotate_left
      · by_cases c0 : 1 ≤ I
        rotate_left
        · have e : Z.vld k r o I F = false := by unfold Z.vld Z.hsz Z.hrd Z.hov; simp [rfloor, rnear, kfix, kfloat, osat, onone]; omega
          rw [e]; clear e
          go_enter Tryd.func8, Tryd.ntmps8
          go_wp2
          go_ret
          exact ⟨rfl, by go_grown⟩
        by_cases c1 : I ≤ 24
        rotate_left
        · have e : Z.vld k r o I F = false := by unfold Z.vld Z.hsz Z.hrd Z.hov; simp [rfloor, rnear, kfix, kfloat, osat, onone]; omega
          rw [e]; clear e
          go_enter Tryd.func8, Tryd.ntmps8
          go_wp2
          go_ret
          exact ⟨rfl, by go_grown⟩
        by_cases c2 : 0 ≤ F
        rotate_left
        · have e : Z.vld k r o I F = false := by unfold Z.vld Z.hsz Z.hrd Z.hov; simp [rfloor, rnear, kfix, kfloat, osat, onone]; omega
          rw [e]; clear e
          go_enter Tryd.func8, Tryd.ntmps8
          go_wp2
          go_ret
          exact ⟨rfl, by go_grown⟩
        by_cases c3 : F ≤ 20
        rotate_left
        · have e : Z.vld k r o I F = false := by unfold Z.vld Z.hsz Z.hrd Z.hov; simp [rfloor, rnear, kfix, kfloat, osat, onone]; omega
          rw [e]; clear e
          go_enter Tryd.func8, Tryd.ntmps8
          go_wp2
          go_ret
          exact ⟨rfl, by go_grown⟩
        by_cases c4 : I + F ≤ 30
        rotate_left
        · have e : Z.vld k r o I F = false := by unfold Z.vld Z.hsz Z.hrd Z.hov; simp [rfloor, rnear, kfix, kfloat, osat, onone]; omega
          rw [e]; clear e
          go_enter Tryd.func8, Tryd.ntmps8
          go_wp2
          go_ret
          exact ⟨rfl, by go_grown⟩
        have e : Z.vld k r o I F = true := by unfold Z.vld Z.hsz Z.hrd Z.hov; simp [rfloor, rnear, kfix, kfloat, osat, onone]; omega
        rw [e]; clear e
        go_enter Tryd.func8, Tryd.ntmps8
        go_wp2
        go_ret
        exact ⟨rfl, by go_grown⟩
      have e : Z.vld k r o I F = false := by unfold Z.vld Z.hsz Z.hrd Z.hov; simp [rfloor, rnear, kfix, kfloat, osat, onone]
      rw [e]; clear e
      go_enter Tryd.func8, Tryd.ntmps8
      go_wp2
      go_ret
      exact ⟨rfl, by go_grown⟩
    cases osat : (o.toList == [115, 97, 116])
    rotate_left
    · have e : Z.vld k r o I F = false := by unfold Z.vld Z.hsz Z.hrd Z.hov; simp [rfloor, rnear, kfix, kfloat]
      rw [e]; clear e
      go_enter Tryd.func8, Tryd.ntmps8
      go_wp2
      go_ret
      exact ⟨rfl, by go_grown⟩
    cases onone : (o.toList == [110, 111, 110, 101])
    rotate_left
    · have e : Z.vld k r o I F = false := by unfold Z.vld Z.hsz Z.hrd Z.hov; simp [rfloor, rnear, kfix, kfloat]
      rw [e]; clear e
      go_enter Tryd.func8, Tryd.ntmps8
      go_wp2
      go_ret
      exact ⟨rfl, by go_grown⟩
    have e : Z.vld k r o I F = false := by unfold Z.vld Z.hsz Z.hrd Z.hov; simp [rfloor, rnear, kfix, kfloat]
    rw [e]; clear e
    go_enter Tryd.func8, Tryd.ntmps8
    go_wp2
    go_ret
    exact ⟨rfl, by go_grown⟩
  cases rzero : (r.toList == [122, 101, 114, 111])
  rotate_left
  · cases kfix : (k.toList == [102, 105, 120])
    rotate_left
    · cases osat : (o.toList == [115, 97, 116])
      rotate_left
      · by_cases c0 : 0 ≤ I
        rotate_left
        · have e : Z.vld k r o I F = false := by unfold Z.vld Z.hsz Z.hrd Z.hov; simp [rfloor, rnear, rzero, kfix, osat]; omega
          rw [e]; clear e
          go_enter Tryd.func8, Tryd.ntmps8
          go_wp2
          go_ret
          exact ⟨rfl, by go_grown⟩
        by_cases c1 : I ≤ 30
        rotate_left
        · have e : Z.vld k r o I F = false := by unfold Z.vld Z.hsz Z.hrd Z.hov; simp [rfloor, rnear, rzero, kfix, osat]; omega
          rw [e]; clear e
          go_enter Tryd.func8, Tryd.ntmps8
          go_wp2
          go_ret
          exact ⟨rfl, by go_grown⟩
        by_cases c2 : 0 ≤ F
        rotate_left
        · have e : Z.vld k r o I F = false := by unfold Z.vld Z.hsz Z.hrd Z.hov; simp [rfloor, rnear, rzero, kfix, osat]; omega
          rw [e]; clear e
          go_enter Tryd.func8, Tryd.ntmps8
          go_wp2
          go_ret
          exact ⟨rfl, by go_grown⟩
        by_cases c3 : F ≤ 30
        rotate_left
        · have e : Z.vld k r o I F = false := by unfold Z.vld Z.hsz Z.hrd Z.hov; simp [rfloor, rnear, rzero, kfix, osat]; omega
          rw [e]; clear e
          go_enter Tryd.func8, Tryd.ntmps8
          go_wp2
          go_ret
          exact ⟨rfl, by go_grown⟩
        by_cases c4 : I + F ≤ 30
        rotate_left
        · have e : Z.vld k r o I F = false := by unfold Z.vld Z.hsz Z.hrd Z.hov; simp [rfloor, rnear, rzero, kfix, osat]; omega
          rw [e]; clear e
          go_enter Tryd.func8, Tryd.ntmps8
          go_wp2
          go_ret
          exact ⟨rfl, by go_grown⟩
        have e : Z.vld k r o I F = true := by unfold Z.vld Z.hsz Z.hrd Z.hov; simp [rfloor, rnear, rzero, kfix, osat]; omega
        rw [e]; clear e
        go_enter Tryd.func8, Tryd.ntmps8
        go_wp2
        go_ret
        exact ⟨rfl, by go_grown⟩
      cases owrap : (o.toList == [119, 114, 97, 112])
      rotate_left
      · by_cases c0 : 0 ≤ I
        rotate_left
        · have e : Z.vld k r o I F = false := by unfold Z.vld Z.hsz Z.hrd Z.hov; simp [rfloor, rnear, rzero, kfix, osat, owrap]; omega
          rw [e]; clear e
          go_enter Tryd.func8, Tryd.ntmps8
          go_wp2
          go_ret
          exact ⟨rfl, by go_grown⟩
        by_cases c1 : I ≤ 30
        rotate_left
        · have e : Z.vld k r o I F = false := by unfold Z.vld Z.hsz Z.hrd Z.hov; simp [rfloor, rnear, rzero, kfix, osat, owrap]; omega
          rw [e]; clear e
          go_enter Tryd.func8, Tryd.ntmps8
          go_wp2
          go_ret
          exact ⟨rfl, by go_grown⟩
        by_cases c2 : 0 ≤ F
        rotate_left
        · have e : Z.vld k r o I F = false := by unfold Z.vld Z.hsz Z.hrd Z.hov; simp [rfloor, rnear, rzero, kfix, osat, owrap]; omega
          rw [e]; clear e
          go_enter Tryd.func8, Tryd.ntmps8
          go_wp2
          go_ret
          exact ⟨rfl, by go_grown⟩
        by_cases c3 : F ≤ 30
        rotate_left
        · have e : Z.vld k r o I F = false := by unfold Z.vld Z.hsz Z.hrd Z.hov; simp [rfloor, rnear, rzero, kfix, osat, owrap]; omega
          rw [e]; clear e
          go_enter Tryd.func8, Tryd.ntmps8
          go_wp2
          go_ret
          exact ⟨rfl, by go_grown⟩
        by_cases c4 : I + F ≤ 30
        rotate_left
        · have e : Z.vld k r o I F = false := by unfold Z.vld Z.hsz Z.hrd Z.hov; simp [rfloor, rnear, rzero, kfix, osat, owrap]; omega
          rw [e]; clear e
          go_enter Tryd.func8, Tryd.ntmps8
          go_wp2
          go_ret
          exact ⟨rfl, by go_grown⟩
        have e : Z.vld k r o I F = true := by unfold Z.vld Z.hsz Z.hrd Z.hov; simp [rfloor, rnear, rzero, kfix, osat, owrap]; omega
        rw [e]; clear e
        go_enter Tryd.func8, Tryd.ntmps8
        go_wp2
        go_ret
        exact ⟨rfl, by go_grown⟩
      cases onone : (o.toList == [110, 111, 110, 101])
      rotate_left
      · by_cases c0 : 0 ≤ I
        rotate_left
        · have e : Z.vld k r o I F = false := by unfold Z.vld Z.hsz Z.hrd Z.hov; simp [rfloor, rnear, rzero, kfix, osat, owrap, onone]; omega
          rw [e]; clear e
          go_enter Tryd.func8, Tryd.ntmps8
          go_wp2
          go_ret
          exact ⟨rfl, by go_grown⟩
        by_cases c1 : I ≤ 30
        rotate_left
        · have e : Z.vld k r o I F = false := by unfold Z.vld Z.hsz Z.hrd Z.hov; simp [rfloor, rnear, rzero, kfix, osat, owrap, onone]; omega
          rw [e]; clear e
          go_enter Tryd.func8, Tryd.ntmps8
          go_wp2
          go_ret
          exact ⟨rfl, by go_grown⟩
        by_cases c2 : 0 ≤ F
        rotate_left
        · have e : Z.vld k r o I F = false := by unfold Z.vld Z.hsz Z.hrd Z.hov; simp [rfloor, rnear, rzero, kfix, osat, owrap, onone]; omega
          rw [e]; clear e
          go_enter Tryd.func8, Tryd.ntmps8
          go_wp2
          go_ret
          exact ⟨rfl, by go_grown⟩
        by_cases c3 : F ≤ 30
        rotate_left
        · have e : Z.vld k r o I F = false := by unfold Z.vld Z.hsz Z.hrd Z.hov; simp [rfloor, rnear, rzero, kfix, osat, owrap, onone]; omega
          rw [e]; clear e
          go_enter Tryd.func8, Tryd.ntmps8
          go_wp2
          go_ret
          exact ⟨rfl, by go_grown⟩
        by_cases c4 : I + F ≤ 30
        rotate_left
        · have e : Z.vld k r o I F = false := by unfold Z.vld Z.hsz Z.hrd Z.hov; simp [rfloor, rnear, rzero, kfix, osat, owrap, onone]; omega
          rw [e]; clear e
          go_enter Tryd.func8, Tryd.ntmps8
          go_wp2
          go_ret
          exact ⟨rfl, by go_grown⟩
        have e : Z.vld k r o I F = true := by unfold Z.vld Z.hsz Z.hrd Z.hov; simp [rfloor, rnear, rzero, kfix, osat, owrap, onone]; omega
        rw [e]; clear e
        go_enter Tryd.func8, Tryd.ntmps8
        go_wp2
        go_ret
        exact ⟨rfl, by go_grown⟩
      have e : Z.vld k r o I F = false := by unfold Z.vld Z.hsz Z.hrd Z.hov; simp [rfloor, rnear, rzero, kfix, osat, owrap, onone]
      rw [e]; clear e
      go_enter Tryd.func8, Tryd.ntmps8
      go_wp2
      go_ret
      exact ⟨rfl, by go_grown⟩
    cases kfloat : (k.toList == [102, 108, 111, 97, 116])
    rotate_left
    · cases osat : (o.toList == [115, 97, 116])
      rotate_left
      · by_cases c0 : 1 ≤ I
        rotate_left
        · have e : Z.vld k r o I F = false := by unfold Z.vld Z.hsz Z.hrd Z.hov; simp [rfloor, rnear, rzero, kfix, kfloat, osat]; omega
          rw [e]; clear e
          go_enter Tryd.func8, Tryd.ntmps8
          go_wp2
          go_ret
          exact ⟨rfl, by go_grown⟩
        by_cases c1 : I ≤ 24
        rotate_left
        · have e : Z.vld k r o I F = false := by unfold Z.vld Z.hsz Z.hrd Z.hov; simp [rfloor, rnear, rzero, kfix, kfloat, osat]; omega
          rw [e]; clear e
          go_enter Tryd.func8, Tryd.ntmps8
          go_wp2
          go_ret
          exact ⟨rfl, by go_grown⟩
        by_cases c2 : 0 ≤ F
        rotate_left
        · have e : Z.vld k r o I F = false := by unfold Z.vld Z.hsz Z.hrd Z.hov; simp [rfloor, rnear, rzero, kfix, kfloat, osat]; omega
          rw [e]; clear e
          go_enter Tryd.func8, Tryd.ntmps8
          go_wp2
          go_ret
          exact ⟨rfl, by go_grown⟩
        by_cases c3 : F ≤ 20
        rotate_left
        · have e : Z.vld k r o I F = false := by unfold Z.vld Z.hsz Z.hrd Z.hov; simp [rfloor, rnear, rzero, kfix, kfloat, osat]; omega
          rw [e]; clear e
          go_enter Tryd.func8, Tryd.ntmps8
          go_wp2
          go_ret
          exact ⟨rfl, by go_grown⟩
        by_cases c4 : I + F ≤ 30
        rotate_left
        · have e : Z.vld k r o I F = false := by unfold Z.vld Z.hsz Z.hrd Z.hov; simp [rfloor, rnear, rzero, kfix, kfloat, osat]; omega
          rw [e]; clear e
          go_enter Tryd.func8, Tryd.ntmps8
          go_wp2
          go_ret
          exact ⟨rfl, by go_grown⟩
        have e : Z.vld k r o I F = true := by unfold Z.vld Z.hsz Z.hrd Z.hov; simp [rfloor, rnear, rzero, kfix, kfloat, osat]; omega
        rw [e]; clear e
        go_enter Tryd.func8, Tryd.ntmps8
        go_wp2
        go_ret
        exact ⟨rfl, by go_grown⟩
      cases onone : (o.toList == [110, 111, 110, 101])
      rotate_left
      · by_cases c0 : 1 ≤ I
        rotate_left
        · have e : Z.vld k r o I F = false := by unfold Z.vld Z.hsz Z.hrd Z.hov; simp [rfloor, rnear, rzero, kfix, kfloat, osat, onone]; omega
          rw [e]; clear e
          go_enter Tryd.func8, Tryd.ntmps8
          go_wp2
          go_ret
          exact ⟨rfl, by go_grown⟩
        by_cases c1 : I ≤ 24
        rotate_left
        · have e : Z.vld k r o I F = false := by unfold Z.vld Z.hsz Z.hrd Z.hov; simp [rfloor, rnear, rzero, kfix, kfloat, osat, onone]; omega
          rw [e]; clear e
          go_enter Tryd.func8, Tryd.ntmps8
          go_wp2
          go_ret
          exact ⟨rfl, by go_grown⟩
        by_cases c2 : 0 ≤ F
        rotate_left
        · have e : Z.vld k r o I F = false := by unfold Z.vld Z.hsz Z.hrd Z.hov; simp [rfloor, rnear, rzero, kfix, kfloat, osat, onone]; omega
          rw [e]; clear e
          go_enter Tryd.func8, Tryd.ntmps8
          go_wp2
          go_ret
          exact ⟨rfl, by go_grown⟩
        by_cases c3 : F ≤ 20
        rotate_left
        · have e : Z.vld k r o I F = false := by unfold Z.vld Z.hsz Z.hrd Z.hov; simp [rfloor, rnear, rzero, kfix, kfloat, osat, onone]; omega
          rw [e]; clear e
          go_enter Tryd.func8, Tryd.ntmps8
          go_wp2
          go_ret
          exact ⟨rfl, by go_grown⟩
        by_cases c4 : I + F ≤ 30
        rotate_left
        · have e : Z.vld k r o I F = false := by unfold Z.vld Z.hsz Z.hrd Z.hov; simp [rfloor, rnear, rzero, kfix, kfloat, osat, onone]; omega
          rw [e]; clear e
          go_enter Tryd.func8, Tryd.ntmps8
          go_wp2
          go_ret
          exact ⟨rfl, by go_grown⟩
        have e : Z.vld k r o I F = true := by unfold Z.vld Z.hsz Z.hrd Z.hov; simp [rfloor, rnear, rzero, kfix, kfloat, osat, onone]; omega
        rw [e]; clear e
        go_enter Tryd.func8, Tryd.ntmps8
        go_wp2
        go_ret
        exact ⟨rfl, by go_grown⟩
      have e : Z.vld k r o I F = false := by unfold Z.vld Z.hsz Z.hrd Z.hov; simp [rfloor, rnear, rzero, kfix, kfloat, osat, onone]
      rw [e]; clear e
      go_enter Tryd.func8, Tryd.ntmps8
      go_wp2
      go_ret
      exact ⟨rfl, by go_grown⟩
    cases osat : (o.toList == [115, 97, 116])
    rotate_left
    · have e : Z.vld k r o I F = false := by unfold Z.vld Z.hsz Z.hrd Z.hov; simp [rfloor, rnear, rzero, kfix, kfloat]
      rw [e]; clear e
      go_enter Tryd.func8, Tryd.ntmps8
      go_wp2
      go_ret
      exact ⟨rfl, by go_grown⟩
    cases onone : (o.toList == [110, 111, 110, 101])
    rotate_left
    · have e : Z.vld k r o I F = false := by unfold Z.vld Z.hsz Z.hrd Z.hov; simp [rfloor, rnear, rzero, kfix, kfloat]
      rw [e]; clear e
      go_enter Tryd.func8, Tryd.ntmps8
      go_wp2
      go_ret
      exact ⟨rfl, by go_grown⟩
    have e : Z.vld k r o I F = false := by unfold Z.vld Z.hsz Z.hrd Z.hov; simp [rfloor, rnear, rzero, kfix, kfloat]
    rw [e]; clear e
    go_enter Tryd.func8, Tryd.ntmps8
    go_wp2
    go_ret
    exact ⟨rfl, by go_grown⟩
  have e : Z.vld k r o I F = false := by unfold Z.vld Z.hsz Z.hrd Z.hov; simp [rfloor, rnear, rzero]
  rw [e]; clear e
  go_enter Tryd.func8, Tryd.ntmps8
  go_wp2
  go_ret
  exact ⟨rfl, by go_grown⟩

end Go.Proofs.YtpdklolfkigefaaDoor
