/-
  SpanNests: Meet's and Widen's readings; a chain of Widen.
-/
import Derived.Test.YtpdklolfkigefaaGreatDoorNa
set_option linter.all false
namespace Go.Proofs.YtpdklolfkigefaaGreatDoor
open Go.Pv Go.RowKit

theorem S.meet_bif (s t : Sp) : S.meet s t = bif s.em || t.em then ⟨0, 0, 0, 0, 0, s.no && t.no, true⟩
    else bif S.ooo (S.give Q.max (s.ln, s.ld) (t.ln, t.ld)).1 (S.give Q.max (s.ln, s.ld) (t.ln, t.ld)).2 (S.give Q.min (s.hn, s.hd) (t.hn, t.hd)).1 (S.give Q.min (s.hn, s.hd) (t.hn, t.hd)).2 then ⟨0, 0, 0, 0, 0, s.no && t.no, true⟩
    else ⟨(S.give Q.max (s.ln, s.ld) (t.ln, t.ld)).1, (S.give Q.max (s.ln, s.ld) (t.ln, t.ld)).2, (S.give Q.min (s.hn, s.hd) (t.hn, t.hd)).1, (S.give Q.min (s.hn, s.hd) (t.hn, t.hd)).2, ((s.den.natAbs.gcd t.den.natAbs : Nat) : Int), s.no && t.no, false⟩ := by
  rw [Bool.cond_eq_ite, Bool.cond_eq_ite]; rfl
namespace S
/-- The same fields, as the program compares. -/
def same (s t : Sp) : Bool := ((s.ln == t.ln) && ((s.ld == t.ld) && true)) && (((s.hn == t.hn) && ((s.hd == t.hd) && true)) && ((s.den == t.den) && ((s.no == t.no) && ((s.em == t.em) && true))))
theorem same_self (s : Sp) : same s s = true := by unfold same; simp
/-- A round of the chain. -/
def round (s : Sp) (m : Nat) (x : Sp) : Sp × Nat := (widen (known s) (known x), bif s.em then m else bif same (widen (known s) (known x)) s then m else m + 1)
/-- What the chain keeps. -/
structure Few (s : Sp) (m : Nat) : Prop where
  v : valid s = true
  z : s.em = true → m = 0
  f : s.em = false → m ≤ opens s
theorem few_start : Few ⟨0, 0, 0, 0, 0, false, true⟩ 0 := ⟨rfl, fun _ => rfl, fun h => nomatch h⟩
theorem few_round {s : Sp} {m : Nat} (h : Few s m) (x : Sp) : Few (round s m x).1 (round s m x).2 := by
  unfold round
  rw [of_valid h.v]
  have hv := widen_valid h.v (known_valid x)
  cases he : s.em
  · have h1 := widen_step h.v (known_valid x) he
    have h2 := widen_em (t := known x) he
    refine ⟨hv, fun h3 => (nomatch (h2.symm.trans h3)), fun _ => ?_⟩
    have h0 := h.f he
    simp only [cond_false]
    rcases h1 with h1 | h1
    · rw [h1, same_self]; exact h0
    · cases same (widen s (known x)) s
      · simp only [cond_false]; omega
      · simp only [cond_true]; omega
  · refine ⟨hv, fun _ => ?_, fun _ => ?_⟩
    · simp only [cond_true]; exact h.z he
    · simp only [cond_true]; rw [h.z he]; omega
theorem few_le {s : Sp} {m : Nat} (h : Few s m) : m ≤ 4 := by
  cases he : s.em
  · have := h.f he; have := opens_le s; omega
  · rw [h.z he]; omega
def chain (s : Sp) (m : Nat) : List Sp → Sp × Nat
  | [] => (s, m)
  | x :: l => chain (round s m x).1 (round s m x).2 l
theorem chain_few {s : Sp} {m : Nat} (h : Few s m) : ∀ l : List Sp, (chain s m l).2 ≤ 4 := by
  intro l
  induction l generalizing s m with
  | nil => exact few_le h
  | cons x l ih => exact ih (few_round h x)
end S
end Go.Proofs.YtpdklolfkigefaaGreatDoor
