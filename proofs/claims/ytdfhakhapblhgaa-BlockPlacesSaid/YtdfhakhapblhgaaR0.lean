/-
  What stays in memory through all calls: nothing is asked.
-/
import Derived.Test.YtdfhakhapblhgaaProg
import Derived.Test.YtdfhakhapblhgaaPwC
import Derived.Tactics
import Derived.WalkKit
import Derived.OwnWalk
import Derived.Lib.Walk
import Derived.Lib.SliceRun
import Derived.Deep.LoopGhost
set_option linter.all false
namespace Go.Proofs.Ytdfhakhapblhgaa
open Go.Pv Go.RowKit
def Inv : World → Prop := fun _ => True
theorem stab : Stab Inv := fun _ _ _ _ => trivial
theorem mixed : Try.prog.follows .mixedOrders = true := by kernel_rfl
abbrev KI := Int → Option DV
abbrev KB := Bool → Option DV
abbrev KT := ByteArray → Option DV
abbrev KQ := Int → Int → Option DV
abbrev KQQ := Int → Int → Int → Int → Option DV
abbrev KS := Int → Int → Int → Int → Int → Bool → Bool → Option DV
abbrev KSE := Int → Int → Int → Int → Int → Bool → Bool → Int → Option DV
open Go Go.Lib

theorem clone_i_B : (Try.prog.info? 27).map (fun i => (i.zero, i.size, i.bytes)) = some (some (.agg #[.string ByteArray.empty, .string ByteArray.empty, .int .i64 0, .int .i64 0, .slice none 0 0, .string ByteArray.empty, .int .i64 0, .int .i64 0, .string ByteArray.empty, .string ByteArray.empty, .slice none 0 0]), 11, 160) := by kernel_rfl
theorem clone_is_B : CloneIs Try.prog 43 27 11 160 := by
  have q : ∀ (w : World) (a : Option Addr) (n c n' c' : Nat), (binOp .eql 25 (.slice a n c) (.slice none n' c')).run Try.prog w = .ok (.bool a.isNone) w := fun w a n c n' c' => Lib.run_eql_slice_nil w _ _ a n c n' c' Try.underlying25
  refine ⟨fun n c w => ?_, fun a n c news w hl hcells hone hn hby => ?_⟩
  · go_enter Try.func43, Try.ntmps43
    go_wp2
    go_ret
    exact ⟨rfl, rfl⟩
  · obtain ⟨i0, hi, hz0, hz1, hz2⟩ := info_parts clone_i_B
    have A : Aside (∀ j u, news[j]? = some u → w.cell? (a.add j) = some u) := hcells
    clear hcells
    go_enter Try.func43, Try.ntmps43
    go_wp2_with (at_builtin; refine wpList_append_own _ rfl _ _ 25 rfl w.heap.size 27 i0 _ 11 160 Try.underlying25 hi hz0 hz1 hz2 rfl (by decide) _ _ _ rfl (World.ownsRow_made w #[] 0 (Nat.le_refl _) (Nat.zero_le _) rfl) a n c news rfl hl ?qc2 hone ?qc4 ?qc5 ?qc6 ?_)
    case qc2 => intro j u hj; exact Lib.cell?_alloc_some _ (A.out j u hj)
    case qc4 => omega
    case qc5 => omega
    case qc6 => simp
    intro v' w1 hown hgrow hnil
    go_wp2
    go_ret
    refine ⟨v', rfl, by simpa using hown, hnil, ?_⟩
    exact ((Below.refl _ w).alloc (Nat.le_refl _) _).grown hgrow (by simp) (by intro k hk; simp [Value.ownBlock] at hk; omega)
theorem clone_B {I : World → Prop} : MeetsH Try.prog I 43 (cloneR 27 11 160) := meetsH_clone (by kernel_rfl) (by decide) clone_is_B

theorem clone_i_Q : (Try.prog.info? 38).map (fun i => (i.zero, i.size, i.bytes)) = some (some (.agg #[.int .i64 0, .int .i64 0]), 2, 16) := by kernel_rfl
theorem clone_is_Q : CloneIs Try.prog 42 38 2 16 := by
  have q : ∀ (w : World) (a : Option Addr) (n c n' c' : Nat), (binOp .eql 22 (.slice a n c) (.slice none n' c')).run Try.prog w = .ok (.bool a.isNone) w := fun w a n c n' c' => Lib.run_eql_slice_nil w _ _ a n c n' c' Try.underlying22
  refine ⟨fun n c w => ?_, fun a n c news w hl hcells hone hn hby => ?_⟩
  · go_enter Try.func42, Try.ntmps42
    go_wp2
    go_ret
    exact ⟨rfl, rfl⟩
  · obtain ⟨i0, hi, hz0, hz1, hz2⟩ := info_parts clone_i_Q
    have A : Aside (∀ j u, news[j]? = some u → w.cell? (a.add j) = some u) := hcells
    clear hcells
    go_enter Try.func42, Try.ntmps42
    go_wp2_with (at_builtin; refine wpList_append_own _ rfl _ _ 22 rfl w.heap.size 38 i0 _ 2 16 Try.underlying22 hi hz0 hz1 hz2 rfl (by decide) _ _ _ rfl (World.ownsRow_made w #[] 0 (Nat.le_refl _) (Nat.zero_le _) rfl) a n c news rfl hl ?qc2 hone ?qc4 ?qc5 ?qc6 ?_)
    case qc2 => intro j u hj; exact Lib.cell?_alloc_some _ (A.out j u hj)
    case qc4 => omega
    case qc5 => omega
    case qc6 => simp
    intro v' w1 hown hgrow hnil
    go_wp2
    go_ret
    refine ⟨v', rfl, by simpa using hown, hnil, ?_⟩
    exact ((Below.refl _ w).alloc (Nat.le_refl _) _).grown hgrow (by simp) (by intro k hk; simp [Value.ownBlock] at hk; omega)
theorem clone_Q {I : World → Prop} : MeetsH Try.prog I 42 (cloneR 38 2 16) := meetsH_clone (by kernel_rfl) (by decide) clone_is_Q
end Go.Proofs.Ytdfhakhapblhgaa
