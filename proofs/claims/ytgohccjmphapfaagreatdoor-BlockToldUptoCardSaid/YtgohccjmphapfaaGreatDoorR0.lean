import Derived.Test.YtgohccjmphapfaaGreatDoorProg
import Derived.Test.YtgohccjmphapfaaGreatDoorPwC
import Derived.Tactics
import Derived.WalkKit
import Derived.OwnWalk
import Derived.Lib.Walk
import Derived.Lib.SliceRun
import Derived.Deep.LoopGhost
import Derived.Lib.SmallJoins
import Derived.Lib.ItoaLen
set_option linter.all false
noncomputable section
namespace Go.Proofs.YtgohccjmphapfaaGreatDoor
open Go.Pv Go.RowKit
def Inv (w : World) : Prop := Lib.TabIs Tryz.prog w "internal/strconv.uint64pow10" .u64 Lib.pow10Tab ∧ ∃ m, w.cell? ⟨0, 0, none⟩ = some (.int .i64 m)
theorem gTab : Tryz.prog.globalNamed "internal/strconv.uint64pow10" = some 3 := by kernel_rfl
theorem Wti {w w' : World} {a : Addr} {v : Value} (hb : Below w.heap.size w w') (h : w.cell? a = some v) : w'.cell? a = some v := by
 rw [World.cell?_of_block (hb.block a.block (World.block_lt_of_cell? w _ h))]; exact h
theorem stab : Stab Inv := fun w w' h hb => ⟨Go.Joins.tab_stays gTab h.1 hb (Nat.le_refl _), by obtain ⟨m, hm⟩ := h.2; exact ⟨m, Wti hb hm⟩⟩
theorem Kbg : Tryz.prog.follows .mixedOrders = true := by kernel_rfl
abbrev KI := Int → Option DV
abbrev KB := Bool → Option DV
abbrev KT := ByteArray → Option DV
abbrev KQ := Int → Int → Option DV
open Go Go.Lib
abbrev W4w := ByteArray
abbrev W4x := List (List DV)
abbrev W4y := Option DV
abbrev W4z := List DV
abbrev W16 := ByteArray → ByteArray → Int → Int → List (List DV) → ByteArray → Int → Int → ByteArray → ByteArray → List (List DV) → (Option DV) → (Nat → List DV → Option DV) → Option DV
abbrev W17 := ByteArray → ByteArray → Int → Int → List (List DV) → ByteArray → Int → Int → ByteArray → ByteArray → List (List DV) → KI → Option DV
abbrev W18 := ByteArray → ByteArray → Int → Int → List (List DV) → ByteArray → Int → Int → ByteArray → ByteArray → List (List DV) → (Int → Int → Int → Option DV) → Option DV
abbrev W19 := ByteArray → ByteArray → Int → Int → List (List DV) → ByteArray → Int → Int → ByteArray → ByteArray → List (List DV) → KB → Option DV
abbrev W2a := ByteArray → ByteArray → Int → Int → List (List DV) → ByteArray → Int → Int → ByteArray → ByteArray → List (List DV) → Nat → List DV → (Nat → List DV → Option DV) → (Nat → List DV → Option DV) → Option DV
abbrev W2b := ByteArray → ByteArray → Int → Int → List (List DV) → ByteArray → Int → Int → ByteArray → ByteArray → List (List DV) → (List (List DV) → Int → Option DV) → Option DV
abbrev W2c := ByteArray → ByteArray → Int → Int → List (List DV) → ByteArray → Int → Int → ByteArray → ByteArray → List (List DV) → Int → Int → Int → Int → Bool → Bool → Bool → (List (List DV) → Option DV) → Option DV
abbrev W2d := ByteArray → ByteArray → Int → Int → List (List DV) → ByteArray → Int → Int → ByteArray → ByteArray → List (List DV) → (List (List DV) → Option DV) → Option DV
abbrev W2e := ByteArray → ByteArray → ByteArray → Int → Int → List (List DV) → ByteArray → Int → Int → ByteArray → ByteArray → List (List DV) → (List (List DV) → Option DV) → Option DV
abbrev W2f := ByteArray → ByteArray → Int → Int → List (List DV) → ByteArray → Int → Int → ByteArray → ByteArray → List (List DV) → ByteArray → ByteArray → Int → Int → List (List DV) → ByteArray → Int → Int → ByteArray → ByteArray → List (List DV) → KB → Option DV
abbrev W2g := ByteArray → KI → (Int → Nat → List DV → Option DV) → Option DV
abbrev W2h := ByteArray → (Int → Int → Int → Int → Bool → Bool → Bool → Bool → Option DV) → Option DV
abbrev W2i := ByteArray → ByteArray → Int → Int → List (List DV) → ByteArray → Int → Int → ByteArray → ByteArray → List (List DV) → (ByteArray → Int → Option DV) → Option DV
abbrev W2j := Int → Int → Int → Int → Bool → Bool → Bool → ByteArray → Bool → ByteArray → ByteArray → Int → Int → ByteArray → Int → Int → ByteArray → ByteArray → (ByteArray → Bool → ByteArray → ByteArray → Int → Int → ByteArray → Int → Int → ByteArray → ByteArray → Option DV) → (ByteArray → Bool → ByteArray → ByteArray → Int → Int → Nat → ByteArray → Int → Int → ByteArray → ByteArray → List DV → Option DV) → Option DV
abbrev W2k := ByteArray → Nat → List DV → (Int → Nat → List DV → Option DV) → (Int → Nat → List DV → Option DV) → Option DV
abbrev W2l := Int → Int → Int → Int → Bool → Bool → Bool → KB → Option DV
abbrev W2m := ByteArray → (Int → Int → Int → Bool → Bool → Bool → Bool → Int → Int → Bool → Option DV) → Option DV
abbrev W2n := ByteArray → Int → Int → ByteArray → ByteArray → KB → Option DV
abbrev W2o := ByteArray → Bool → (ByteArray → ByteArray → Int → Int → List (List DV) → ByteArray → Int → Int → ByteArray → ByteArray → List (List DV) → ByteArray → Bool → Option DV) → Option DV
abbrev W2p := ByteArray → ByteArray → Int → Int → List (List DV) → ByteArray → Int → Int → ByteArray → ByteArray → List (List DV) → KT → Option DV
abbrev W2q := Int → Int → KB → Option DV
abbrev W2r := ByteArray → (ByteArray → ByteArray → Int → Int → List (List DV) → ByteArray → Int → Int → ByteArray → ByteArray → List (List DV) → Int → Option DV) → Option DV
abbrev W2s := ByteArray → ByteArray → Int → Int → List (List DV) → ByteArray → Int → Int → ByteArray → ByteArray → (Nat → List DV → Option DV) → Option DV
abbrev W2t := ByteArray → Bool → (ByteArray → ByteArray → Bool → Option DV) → Option DV
abbrev W2u := Int → Int → Int → Bool → Bool → Bool → Bool → Int → Int → ByteArray → ByteArray → Int → Int → List (List DV) → ByteArray → Int → Int → ByteArray → ByteArray → KB → Option DV
abbrev W2v := DV → Option DV
abbrev W2w := ByteArray → ByteArray → Int → Int → List (List DV) → ByteArray → Int → Int → ByteArray → ByteArray → List (List DV) → List (List DV) → List (List DV) → (Int → Int → Int → Option DV) → Option DV
abbrev W2x := ByteArray → ByteArray → Bool → (Bool → ByteArray → Bool → Option DV) → Option DV
abbrev W2y := List (List DV) → List (List DV) → KB → Option DV
abbrev W2z := ByteArray → Int → Int → ByteArray → ByteArray → KT → Option DV
abbrev W20 := ByteArray → ByteArray → (ByteArray → Bool → Option DV) → Option DV
abbrev W21 := Bool → ByteArray → Bool → (ByteArray → Bool → Option DV) → Option DV
abbrev W22 := List (List DV) → KB → Option DV
abbrev W23 := Int → Int → KI → Option DV
abbrev W24 := Int → Int → Int → Option DV
abbrev W25 := ByteArray → Bool → (ByteArray → Int → Int → ByteArray → ByteArray → ByteArray → Bool → Option DV) → Option DV
abbrev W26 := Int → Int → Int → Int → KI → Option DV
abbrev W27 := ByteArray → ByteArray → (ByteArray → ByteArray → Bool → Option DV) → Option DV
abbrev W28 := Int → Int → KT → Option DV
abbrev W29 := VV → OH → Option DV
abbrev W3a := ByteArray → Bool → (ByteArray → Bool → Option DV) → Option DV
abbrev W3b := ByteArray → ByteArray → KB → Option DV
abbrev W3c := ByteArray → Bool → (Int → Int → ByteArray → Bool → Option DV) → Option DV
abbrev W3d := ByteArray → List (List DV) → (Int → Int → Bool → Option DV) → Option DV
abbrev W3e := ByteArray → Bool → (Int → ByteArray → Bool → Option DV) → Option DV
abbrev W3f := Int → KT → Option DV
abbrev W3g := ByteArray → Bool → ByteArray → ByteArray → Int → Int → Nat → ByteArray → Int → Int → ByteArray → ByteArray → List DV → Option DV
abbrev W3h := ByteArray → KB → Option DV
abbrev W3i := Nat → List DV → (Nat → List DV → Option DV) → Option DV
abbrev W3j := Int → ByteArray → Bool → (ByteArray → ByteArray → Bool → Option DV) → Option DV
abbrev W3k := ByteArray → Bool → ByteArray → ByteArray → Int → Int → ByteArray → Int → Int → ByteArray → ByteArray → Option DV
abbrev W3l := ByteArray → ByteArray → Bool → Option DV
abbrev W3m := List (List DV) → KI → Option DV
abbrev W3n := Option DV × (Nat → List DV → Option DV)
abbrev W3o := ByteArray → ByteArray → KT → Option DV
abbrev W3p := ByteArray → ByteArray → KI → Option DV
abbrev W3q := (Option DV) → Option DV
abbrev W3r := ByteArray → (ByteArray → Int → Int → ByteArray → ByteArray → Int → Option DV) → Option DV
abbrev W3s := Int → KB → Option DV
abbrev W3t := Int → Int → KQ → Option DV
abbrev W3u := ByteArray → Int → Int → Int → Int → (Int → Int → Bool → Option DV) → Option DV
abbrev W3v := Int → Int → Int → Bool → Bool → Bool → Bool → Int → Int → Bool → Option DV
abbrev W3w := Int → Int → Bool → Option DV
abbrev W3x := List (List DV) → Int → Option DV
abbrev W3y := ByteArray → Bool → Option DV
abbrev W3z := ByteArray → ByteArray → Int → Int → List (List DV) → ByteArray → Int → Int → ByteArray → ByteArray → List (List DV) → Int → Option DV
abbrev W30 := ByteArray → ByteArray → Int → Int → List (List DV) → ByteArray → Int → Int → ByteArray → ByteArray → List (List DV) → Option DV
abbrev W31 := Nat → List DV → Option DV
abbrev W32 := Int → Int → Int → Int → KB → Option DV
abbrev W33 := Int → Int → Int → Int → KQ → Option DV
abbrev W34 := (ByteArray → Int → Int → List (List DV) → Bool → Option DV) × (ByteArray → Int → Int → List (List DV) → Option DV)
abbrev W35 := Int → Int → Int → Int → Int → Int → KB → Option DV
abbrev W36 := ByteArray → Int → (Int → Bool → Option DV) → Option DV
abbrev W37 := ByteArray → (Int → Int → Bool → Option DV) → Option DV
abbrev W38 := ByteArray → (Int → Int → Int → Option DV) → Option DV
abbrev W39 := Bool → Int → Int → KQ → Option DV
abbrev W4a := ByteArray → ByteArray → Int → (List (List DV) → Option DV) → Option DV
abbrev W4b := Int → Int → Int → Int → Bool → Bool → Bool → Bool → Option DV
abbrev W4c := Int → Nat → List DV → Option DV
abbrev W4d := Bool → ByteArray → Bool → Option DV
abbrev W4e := List (List DV) → Option DV
abbrev W4f := ByteArray → Int → Int → KQ → Option DV
abbrev W4g := ByteArray → Int → Int → ByteArray → ByteArray → ByteArray → Bool → Option DV
abbrev W4h := KB → Option DV
abbrev W4i := Bool → Option DV
abbrev W4j := ByteArray → Option DV
abbrev W4k := ByteArray → Int → Int → ByteArray → ByteArray → Int → Option DV
abbrev W4l := ByteArray → KI → KI → Option DV
abbrev W4m := Int → KI → Option DV
abbrev W4n := (Nat → List DV → Option DV) × Option DV
abbrev W4o := ByteArray → Int → Option DV
abbrev W4p := ByteArray → ByteArray → (Int → Option DV) → Option DV
abbrev W4q := List (List DV) → ByteArray → KT → Option DV
abbrev W4r := Int → Int → ByteArray → Bool → Option DV
abbrev W4s := (Nat → List DV → Option DV) × (Option DV)
abbrev W4t := Int → ByteArray → Bool → Option DV
abbrev W4u := Nat → List DV → KT → Option DV
abbrev W4v := Int → Option DV
theorem Wwg : (Tryz.prog.info? 27).map (fun i => (i.zero, i.size, i.bytes)) = some (some (.agg #[.string ByteArray.empty, .string ByteArray.empty, .int .i64 0, .int .i64 0, .slice none 0 0, .string ByteArray.empty, .int .i64 0, .int .i64 0, .string ByteArray.empty, .string ByteArray.empty, .slice none 0 0]), 11, 160) := by kernel_rfl
theorem Wtj : Wp4 Tryz.prog 92 27 11 160 := by
 have q : ∀ (w : World) (a : Option Addr) (n c n' c' : Nat), (binOp .eql 25 (.slice a n c) (.slice none n' c')).run Tryz.prog w = .ok (.bool a.isNone) w := fun w a n c n' c' => Lib.run_eql_slice_nil w _ _ a n c n' c' Tryz.underlying25
 refine ⟨fun n c w => ?_, fun a n c news w hl hcells hone hn hby => ?_⟩
 ·go_enter Tryz.func92, Tryz.ntmps92
  go_wp2
  go_ret
  exact ⟨rfl, rfl⟩
 ·obtain ⟨i0, hi, hz0, hz1, hz2⟩ := info_parts Wwg
  have A : Aside (∀ j u, news[j]? = some u → w.cell? (a.add j) = some u) := hcells
  clear hcells
  go_enter Tryz.func92, Tryz.ntmps92
  go_wp2_with (at_builtin; refine wpList_append_own _ rfl _ _ 25 rfl w.heap.size 27 i0 _ 11 160 Tryz.underlying25 hi hz0 hz1 hz2 rfl (by decide) _ _ _ rfl (World.ownsRow_made w #[] 0 (Nat.le_refl _) (Nat.zero_le _) rfl) a n c news rfl hl ?qc2 hone ?qc4 ?qc5 ?qc6 ?_)
  case qc2 => intro j u hj; exact Lib.cell?_alloc_some _ (A.out j u hj)
  case qc4 => omega
  case qc5 => omega
  case qc6 => simp
  intro v' w1 hown hgrow hnil
  go_wp2
  go_ret
  refine ⟨v', rfl, by simpa using hown, hnil, ?_⟩
  exact ((Below.refl _ w).alloc (Nat.le_refl _) _).grown hgrow (by simp) (by intro k hk; simp [Value.ownBlock] at hk; omega)
theorem W0u {I : World → Prop} : Kk0 Tryz.prog I 92 (Wfw 27 11 160) := Wfx (by kernel_rfl) (by decide) Wtj
theorem Wwh : (Tryz.prog.info? 38).map (fun i => (i.zero, i.size, i.bytes)) = some (some (.agg #[.int .i64 0, .int .i64 0]), 2, 16) := by kernel_rfl
theorem Wtk : Wp4 Tryz.prog 91 38 2 16 := by
 have q : ∀ (w : World) (a : Option Addr) (n c n' c' : Nat), (binOp .eql 22 (.slice a n c) (.slice none n' c')).run Tryz.prog w = .ok (.bool a.isNone) w := fun w a n c n' c' => Lib.run_eql_slice_nil w _ _ a n c n' c' Tryz.underlying22
 refine ⟨fun n c w => ?_, fun a n c news w hl hcells hone hn hby => ?_⟩
 ·go_enter Tryz.func91, Tryz.ntmps91
  go_wp2
  go_ret
  exact ⟨rfl, rfl⟩
 ·obtain ⟨i0, hi, hz0, hz1, hz2⟩ := info_parts Wwh
  have A : Aside (∀ j u, news[j]? = some u → w.cell? (a.add j) = some u) := hcells
  clear hcells
  go_enter Tryz.func91, Tryz.ntmps91
  go_wp2_with (at_builtin; refine wpList_append_own _ rfl _ _ 22 rfl w.heap.size 38 i0 _ 2 16 Tryz.underlying22 hi hz0 hz1 hz2 rfl (by decide) _ _ _ rfl (World.ownsRow_made w #[] 0 (Nat.le_refl _) (Nat.zero_le _) rfl) a n c news rfl hl ?qc2 hone ?qc4 ?qc5 ?qc6 ?_)
  case qc2 => intro j u hj; exact Lib.cell?_alloc_some _ (A.out j u hj)
  case qc4 => omega
  case qc5 => omega
  case qc6 => simp
  intro v' w1 hown hgrow hnil
  go_wp2
  go_ret
  refine ⟨v', rfl, by simpa using hown, hnil, ?_⟩
  exact ((Below.refl _ w).alloc (Nat.le_refl _) _).grown hgrow (by simp) (by intro k hk; simp [Value.ownBlock] at hk; omega)
theorem W0v {I : World → Prop} : Kk0 Tryz.prog I 91 (Wfw 38 2 16) := Wfx (by kernel_rfl) (by decide) Wtk
end Go.Proofs.YtgohccjmphapfaaGreatDoor
end
