/-
  block.at, as it walks: where the block at a place stands.
-/
import Derived.Test.YtdfhakhapblhgaaBt
import Derived.WalkKit
import Derived.WalkSpells
import Derived.WalkLawsBesides
import Derived.BigQuiet
import Derived.Deep.QuietTactic
import Derived.Deep.RegionHeld3
import Derived.Lib.Hide
import Derived.Handy
set_option linter.all false
namespace Go.Proofs.Ytdfhakhapblhgaa
open Go Go.Pv Go.RowKit

/-- Where the block at a place stands, from one block on; nothing: there is no such place. -/
inductive Loc (w : World) : Nat → Nat → List Int → Option (Nat × Nat) → Prop
  | done (b o : Nat) : Loc w b o [] (some (b, o))
  | step {b o b' off n c i : Nat} {L : List Int} {r : Option (Nat × Nat)} : w.cell? ⟨b, o + 10, none⟩ = some (.slice (some ⟨b', off, none⟩) n c) → i < n → Loc w b' (off + i * 11) L r → Loc w b o ((i : Int) :: L) r
  | out {b o n c : Nat} {a : Option Addr} {k : Int} {L : List Int} : w.cell? ⟨b, o + 10, none⟩ = some (.slice a n c) → (k < 0 ∨ (n : Int) ≤ k) → Loc w b o (k :: L) none
def ptrOf (r : Option (Nat × Nat)) : Value := .pointer (r.map fun p => ⟨p.1, p.2, none⟩)

set_option maxRecDepth 100000 in
set_option maxHeartbeats 1600000 in
theorem at_nil (w : World) (b o : Nat) (a : Option Addr) (c : Nat) :
    Calls Try.prog 29 #[.pointer (some ⟨b, o, none⟩), .slice a 0 c] w fun e w' => e = .returned (ptrOf (some (b, o))) ∧ w' = w := by
  go_enter Try.func29, Try.ntmps29
  go_wp2
  go_rounds 1
  go_ret
  exact ⟨rfl, rfl⟩

set_option maxRecDepth 100000 in
set_option maxHeartbeats 1600000 in
theorem at_some (w : World) (b o pb po pc : Nat) (L : List Int) (r : Option (Nat × Nat)) (hL : L.length ≤ 9223372036854775807) (h : Loc w b o L r)
    (hp : ∀ i, i < L.length → w.cell? ⟨pb, po + i, none⟩ = some (.int .i64 (L.getD i 0))) :
    Calls Try.prog 29 #[.pointer (some ⟨b, o, none⟩), .slice (some ⟨pb, po, none⟩) L.length pc] w fun e w' => e = .returned (ptrOf r) ∧ w' = w := by
  have HP := Lib.hid hp
  have H0 := Lib.hid h
  clear hp h
  obtain ⟨M, hM⟩ : ∃ M, L.length = M := ⟨_, rfl⟩
  rw [hM] at hL HP ⊢
  have HM := Lib.hid hM
  clear hM
  go_enter Try.func29, Try.ntmps29
  go_wp2
  go_loop [9, 0] (fun vi vp => ∃ (k b' o' : Nat), vi = .int .i64 k ∧ vp = .pointer (some ⟨b', o', none⟩) ∧ k ≤ M ∧ Hid (Loc w b' o' (L.drop k) r)) (fun vi _ => M - (intOf vi).toNat)
  case atStart => exact ⟨0, b, o, rfl, rfl, Nat.zero_le _, H0⟩
  case round =>
    obtain ⟨k, b', o', rfl, rfl, hk, hh⟩ := hrel
    by_cases hkn : k < M
    · have hc := HP.out k hkn
      have hd : L.drop k = L.getD k 0 :: L.drop (k + 1) := by
        have hlt : k < L.length := by rw [HM.out]; exact hkn
        rw [List.drop_eq_getElem_cons hlt]; simp [List.getD, List.getElem?_eq_getElem hlt]
      have hx := hh.out
      rw [hd] at hx
      generalize L.getD k 0 = x at hc hx
      have HX := Lib.hid hx
      clear hx hd hh
      have hkM : (k : Int) < (M : Int) := by omega
      cases HX.out with
      | step hcell hi hrest =>
        rename_i b1 off n c i
        have HR := Lib.hid hrest
        clear hrest HX
        have hin : (i : Int) < (n : Int) := by omega
        go_wp2
        go_round
        case rel => exact ⟨k + 1, b1, off + i * 11, by go_num, by first | rfl | simp, by omega, HR⟩
        case measure => simp [intOf]; omega
      | out hcell hor =>
        clear HX
        rcases hor with hneg | hge
        · go_wp2
          go_ret
          exact ⟨rfl, rfl⟩
        · have hneg : ¬ x < 0 := by omega
          go_wp2
          go_ret
          exact ⟨rfl, rfl⟩
    · have hkk : k = M := by omega
      subst hkk
      have hr := hh.out
      rw [List.drop_of_length_le (by rw [HM.out]; exact Nat.le_refl _)] at hr
      obtain rfl : r = some (b', o') := by cases hr; rfl
      clear hh
      go_wp2
      go_ret
      exact ⟨rfl, rfl⟩
end Go.Proofs.Ytdfhakhapblhgaa
