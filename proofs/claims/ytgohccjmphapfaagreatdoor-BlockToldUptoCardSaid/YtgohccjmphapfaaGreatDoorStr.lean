import Derived.Test.YtgohccjmphapfaaGreatDoorR0
import Derived.Lib.UnsafeStr
import Derived.Lib.Builder
import Derived.Shelf.RegionOpenPlain
set_option linter.all false
noncomputable section
namespace Go.Proofs.YtgohccjmphapfaaGreatDoor
open Go Go.RowKit Go.Pv Go.Lib
set_option maxRecDepth 100000
set_option maxHeartbeats 2000000
theorem Woi (w : World) (g n j : Nat) (h : j ≠ g) : (w.freeze ⟨g, 0, none⟩ n).heap[j]? = w.heap[j]? := by
 unfold World.freeze
 split
 ·rfl
 ·simp only [Array.getElem?_modify]
  rw [if_neg (fun e => h e.symm)]
theorem Wwj (w : World) (g n : Nat) {cu : Array Value} {T : TypeId} {f : Nat × Nat} (h : w.heap[g]? = some (.cells cu T f)) : ∃ f', (w.freeze ⟨g, 0, none⟩ n).heap[g]? = some (.cells cu T f') := by
 unfold World.freeze
 split
 ·exact ⟨f, h⟩
 ·simp only [Array.getElem?_modify, if_true, h, Option.map_some]
  exact ⟨_, rfl⟩
theorem Wqd (w : World) (g n : Nat) : (w.freeze ⟨g, 0, none⟩ n).heap.size = w.heap.size := by
 unfold World.freeze
 split <;> simp
theorem Wi6 (w : World) (g n : Nat) : (w.freeze ⟨g, 0, none⟩ n).os = w.os ∧ (w.freeze ⟨g, 0, none⟩ n).tape = w.tape ∧ (w.freeze ⟨g, 0, none⟩ n).output = w.output := by
 unfold World.freeze
 split <;> exact ⟨rfl, rfl, rfl⟩
def Wlz (g : Option Nat) (w w' : World) : Prop := w'.heap.size = w.heap.size ∧ (∀ j, some j ≠ g → w'.heap[j]? = w.heap[j]?) ∧ (∀ j cu T f, some j = g → w.heap[j]? = some (.cells cu T f) → ∃ f', w'.heap[j]? = some (.cells cu T f')) ∧ w'.os = w.os ∧ w'.tape = w.tape ∧ w'.output = w.output
theorem Wyk (k g n cap : Nat) (T : TypeId) (cur cu : Array Value) (l : List UInt8) (w : World) (hk : w.heap[k]? = some (.cells cur T (0, 0))) (h1 : cur[1]? = some (.slice (some ⟨g, 0, none⟩) n cap)) (hg : w.heap[g]? = some (.cells cu 5 (0, 0)))
  (hl : l.length = n) (h0 : l ≠ []) (hn : n ≤ cap) (hm : n ≤ 140737488355328) (hc : ∀ (j : Nat) (x : UInt8), l[j]? = some x → cu[j]? = some (Value.int .u8 x.toNat)) :
  Calls Tryz.prog 34 #[.pointer (some ⟨k, 0, none⟩)] w fun e w' => e = .returned (.string ⟨l.toArray⟩) ∧ Wlz (some g) w w' := by
 subst hl
 have hl0 : l.length ≠ 0 := by simpa using h0
 have c1 : w.drew.cell? ⟨k, 1, none⟩ = some (.slice (some ⟨g, 0, none⟩) l.length cap) := by
  have : w.drew.heap[k]? = some (.cells cur T (0, 0)) := hk
  simp [World.cell?, this, h1]
 have hcu : l.length ≤ cu.size := by
  have := hc (l.length - 1) (l[l.length - 1]'(by omega)) (List.getElem?_eq_getElem (by omega))
  have := (Array.getElem?_eq_some_iff.1 this).1
  omega
 have hSD : (Builtin.unsafeSliceData_ #[61] 94 #[.slice (some ⟨g, 0, none⟩) l.length cap]).run Tryz.prog w.drew = .ok (.pointer (some ⟨g, 0, none⟩)) w.drew :=
  Lib.run_unsafeSliceData_row _ _ _ _ _ _ (by omega)
 have hUS : (Builtin.unsafeString_ #[94, 3] 9 #[.pointer (some ⟨g, 0, none⟩), .int .i64 l.length]).run Tryz.prog w.drew = .ok (.string ⟨l.toArray⟩) (w.drew.freeze ⟨g, 0, none⟩ l.length) := by
  refine Lib.run_unsafeString_row w.drew 94 3 9 5 Tryz.underlying94 (by kernel_rfl) g cu.size (by have hg' : w.drew.heap[g]? = some (.cells cu 5 (0, 0)) := hg; simp [World.shape?, hg']) l h0 hcu (by omega) ?_
  intro j x hx
  have hg' : w.drew.heap[g]? = some (.cells cu 5 (0, 0)) := hg
  rw [Kql, Nat.zero_add]
  simp [World.cell?, hg', hc j x hx]
 have fin : Wlz (some g) w (w.drew.freeze ⟨g, 0, none⟩ l.length) := by
  refine ⟨Wqd _ _ _, fun j hj => Woi w.drew g _ j (fun e => hj (by rw [e])), ?_, (Wi6 _ _ _).1, (Wi6 _ _ _).2.1, (Wi6 _ _ _).2.2⟩
  intro j cu' T' f' e h
  cases e
  exact Wwj w.drew g _ h
 have Kbg := Kbg
 have t0 := Tryz.underlying63; have a0 := Tryz.isAgg63; have z0 := Tryz.sizeOf63; have v0 := Tryz.zeroValue63; have u0 := run_underlying Tryz.underlying63
 have t1 := Tryz.underlying60; have a1 := Tryz.isAgg60; have z1 := Tryz.sizeOf60; have v1 := Tryz.zeroValue60; have u1 := run_underlying Tryz.underlying60
 have t2 := Tryz.underlying61; have a2 := Tryz.isAgg61; have z2 := Tryz.sizeOf61; have v2 := Tryz.zeroValue61; have u2 := run_underlying Tryz.underlying61
 have t3 := Tryz.underlying94; have a3 := Tryz.isAgg94; have z3 := Tryz.sizeOf94; have v3 := Tryz.zeroValue94; have u3 := run_underlying Tryz.underlying94
 have t4 := Tryz.underlying3; have a4 := Tryz.isAgg3; have z4 := Tryz.sizeOf3; have v4 := Tryz.zeroValue3; have u4 := run_underlying Tryz.underlying3
 have t5 := Tryz.underlying9; have a5 := Tryz.isAgg9; have z5 := Tryz.sizeOf9; have v5 := Tryz.zeroValue9; have u5 := run_underlying Tryz.underlying9
 have t6 := Tryz.underlying5; have a6 := Tryz.isAgg5; have z6 := Tryz.sizeOf5; have v6 := Tryz.zeroValue5; have u6 := run_underlying Tryz.underlying5
 go_enter Tryz.func34, Tryz.ntmps34
 go_wp2
 go_region_o
 all_goals (go_wp2; go_ret; exact ⟨rfl, fin⟩)
theorem W0x (k : Nat) (T : TypeId) (cur : Array Value) (w : World) (hk : w.heap[k]? = some (.cells cur T (0, 0))) (h1 : cur[1]? = some (.slice none 0 0)) :
  Calls Tryz.prog 34 #[.pointer (some ⟨k, 0, none⟩)] w fun e w' => e = .returned (.string ⟨#[]⟩) ∧ Wlz none w w' := by
 have c1 : w.drew.cell? ⟨k, 1, none⟩ = some (.slice none 0 0) := by
  have : w.drew.heap[k]? = some (.cells cur T (0, 0)) := hk
  simp [World.cell?, this, h1]
 have hUS : (Builtin.unsafeString_ #[94, 3] 9 #[.pointer none, .int .i64 0]).run Tryz.prog w.drew = .ok (.string .empty) w.drew := Lib.run_unsafeString_none _ _ _ _ _
 have hSD : (Builtin.unsafeSliceData_ #[61] 94 #[.slice none 0 0]).run Tryz.prog w.drew = .ok (.pointer none) w.drew := rfl
 have Kbg := Kbg
 have t0 := Tryz.underlying63; have a0 := Tryz.isAgg63; have z0 := Tryz.sizeOf63; have v0 := Tryz.zeroValue63; have u0 := run_underlying Tryz.underlying63
 have t1 := Tryz.underlying60; have a1 := Tryz.isAgg60; have z1 := Tryz.sizeOf60; have v1 := Tryz.zeroValue60; have u1 := run_underlying Tryz.underlying60
 have t2 := Tryz.underlying61; have a2 := Tryz.isAgg61; have z2 := Tryz.sizeOf61; have v2 := Tryz.zeroValue61; have u2 := run_underlying Tryz.underlying61
 have t3 := Tryz.underlying94; have a3 := Tryz.isAgg94; have z3 := Tryz.sizeOf94; have v3 := Tryz.zeroValue94; have u3 := run_underlying Tryz.underlying94
 have t4 := Tryz.underlying3; have a4 := Tryz.isAgg3; have z4 := Tryz.sizeOf3; have v4 := Tryz.zeroValue3; have u4 := run_underlying Tryz.underlying3
 have t5 := Tryz.underlying9; have a5 := Tryz.isAgg9; have z5 := Tryz.sizeOf9; have v5 := Tryz.zeroValue9; have u5 := run_underlying Tryz.underlying9
 have t6 := Tryz.underlying5; have a6 := Tryz.isAgg5; have z6 := Tryz.sizeOf5; have v6 := Tryz.zeroValue5; have u6 := run_underlying Tryz.underlying5
 go_enter Tryz.func34, Tryz.ntmps34
 go_wp2
 go_region_o
 all_goals (go_wp2; go_ret; exact ⟨rfl, rfl, fun _ _ => rfl, fun _ _ _ f _ h => ⟨f, h⟩, rfl, rfl, rfl⟩)
def Woj (d : DV) : Bool := isI .u8 d && decide (0 ≤ asI d) && decide (asI d < 256)
def Kr6 (κ0 : W4j) : W4y := κ0 ⟨#[]⟩
def Ke6 (a0 : Nat) (a1 : W4z) (κ0 : W4j) : W4y :=
 bx (Nat.ble 1 a0 && Nat.ble a0 a1.length && Nat.ble a0 140737488355328 && (a1.take a0).all Woj) (κ0 (Whz (a1.take a0))) none
def Kky (f0 : (ByteArray → Option DV) → Option DV) (f1 : Nat → List DV → (ByteArray → Option DV) → Option DV) (xs : List VV) (H : OH) (k : W29) : W4y :=
 match xs, H with
 | [.tp 63 2 0], [some (.mix [.ptr 0 0, .dv (.val (.slice none 0 0))])] => f0 (fun y0 => k (.dv (.val (.string y0))) [some .gone])
 | [.tp 63 2 0], [some (.mix [.ptr 0 0, .osl 5 1 1 0 a0]), some (.cells a1)] => f1 a0 a1 (fun y0 => k (.dv (.val (.string y0))) [some .gone, some .gone])
 | _, _ => none
theorem Wqe : ∀ (ns : W4z), ns.all Woj = true → Whz ns = ⟨(ns.map fun d => UInt8.ofNat (asI d).toNat).toArray⟩ := by
 intro ns _
 have key : ∀ (ns : W4z) (acc : W4w), (ns.map asI).foldl (fun r n => r.push (UInt8.ofNat n.toNat)) acc = ⟨acc.data ++ (ns.map fun d => UInt8.ofNat (asI d).toNat).toArray⟩ := by
  intro ns
  induction ns with
  | nil => intro acc; simp
  | cons d ds ih =>
   intro acc
   simp only [List.map_cons, List.foldl_cons]
   rw [ih]
   congr 1
   apply Array.ext'
   simp [ByteArray.push]
 unfold Whz
 rw [key]
 congr 1
 apply Array.ext'
 simp
theorem Wwk {D : Nat → Option Nat} {U N : Nat → Prop} {w0 w w' : World} {H : OH} (hW : WRel D U N w0 H w) {g : Option Nat} (hall : ∀ b, b < H.length → ∃ B, H[b]? = some (some B)) (hgN : ∀ j, some j = g → ¬ N j ∧ ¬ U j) (hs : Wlz g w w') :
  Kei N D U w D U w' ∧ WRel D U N w0 (List.replicate H.length (some .gone)) w' := by
 obtain ⟨s1, s2, s3, s4, s5, s6⟩ := hs
 have other : ∀ j, (∀ q, some q = g → q ≠ j) → w'.heap[j]? = w.heap[j]? := fun j hj => s2 j (fun e => hj j e rfl)
 refine ⟨⟨fun _ _ h => h, fun _ h => h, fun k hk => other k (fun q hq e => (hgN q hq).2 (e ▸ hk)), by omega, fun _ h => .inl h, ?_⟩, ?_⟩
 ·intro b k cur T f hb hc
  by_cases hk : some k = g
  ·obtain ⟨f', h'⟩ := s3 k cur T f hk hc
   exact ⟨cur, ⟨f', h'⟩, rfl⟩
  ·exact ⟨cur, ⟨f, by rw [s2 k hk]; exact hc⟩, rfl⟩
 ·have hkeep : Ktd N w w' := ⟨s4, s5, s6, by omega, fun k hk => other k (fun q hq e => (hgN q hq).1 (e ▸ hk))⟩
  have hgone : ∀ (b : Nat) (B : Blk), (List.replicate H.length (some Blk.gone))[b]? = some (some B) → b < H.length ∧ B = .gone := by
   intro b B h
   rw [List.getElem?_replicate] at h
   split at h
   ·simp at h; exact ⟨by assumption, h.symm⟩
   ·cases h
  refine ⟨hW.below.trans hkeep, fun k hk => by rw [s1]; exact hW.old k hk, ?_, ?_, ?_, ?_, ?_, ?_⟩
  ·intro b k hb
   obtain ⟨g1, g2, B, g3⟩ := hW.own b k hb
   exact ⟨g1, by omega, .gone, by rw [List.getElem?_replicate, if_pos (List.getElem?_eq_some_iff.1 g3).1]⟩
  ·intro b k vs _ h; have := (hgone b _ h).2; cases this
  ·intro b k vs _ h; have := (hgone b _ h).2; cases this
  ·intro b k vs _ h; have := (hgone b _ h).2; cases this
  ·intro b B h
   obtain ⟨h1, rfl⟩ := hgone b B h
   obtain ⟨B', hB'⟩ := hall b h1
   exact hW.all b B' hB'
  ·intro b b' k B B' h1 h2 l1 _ _ _
   have := (hgone b B h1).2
   subst this
   cases l1
theorem K7h : Kk0 Tryz.prog Inv 34 (Kky Kr6 Ke6) := by
 intro xs H k r h
 unfold Kky at h
 split at h <;> try (cases h; done)
 ·refine ⟨by kernel_rfl, _, _, h, fun k' => rfl, fun D U N w0 w args hI hW hN hlen hargs => ?_⟩
  obtain ⟨kk, cur, hk, ⟨f, hh⟩, hs, hv⟩ : CRep U w D (.tp 63 2 0) _ := hargs 0 _ (args[0]'(by rw [hlen]; simp)) rfl (Array.getElem?_eq_getElem _)
  obtain ⟨n1, cs, T, g1, g2, g3⟩ := hW.holdm 0 kk _ hk rfl
  have hc1 : 1 < cs.size := Nat.lt_of_lt_of_le (Nat.lt_succ_self 1) (by simpa using g2)
  have hr := g3 1 _ cs[1] rfl (Array.getElem?_eq_getElem hc1)
  have hval : cs[1] = .slice none 0 0 := Ksd hr
  have hargs' : args = #[.pointer (some ⟨kk, 0, none⟩)] := by
   apply Array.ext'
   have : args.toList.length = 1 := by simpa using hlen
   match hl : args.toList, this with
   | [v], _ =>
    have h0 : args[0]'(by rw [hlen]; simp) = v := by
     have : args.toList[0]? = some v := by rw [hl]; rfl
     simpa [Array.getElem?_eq_getElem (show 0 < args.size by rw [hlen]; simp)] using this
    rw [← h0, hv]
  rw [hargs']
  refine (W0x kk T cs w g1 (by rw [Array.getElem?_eq_getElem hc1, hval])).mono ?_
  rintro e w' ⟨rfl, hs'⟩
  obtain ⟨o1, o2⟩ := Wwk hW (by intro b hb; match b, hb with | 0, _ => exact ⟨_, rfl⟩) (fun j hj => by cases hj) hs'
  exact ⟨_, D, U, rfl, o1, o2, DRep.val _⟩
 ·rename_i a0 a1
  unfold Ke6 at h
  cases hq : Nat.ble 1 a0 && Nat.ble a0 a1.length && Nat.ble a0 140737488355328 && (a1.take a0).all Woj with
  | false => rw [hq] at h; cases h
  | true =>
  have hq0 := hq
  rw [hq, bx_t] at h
  refine ⟨by kernel_rfl, _, _, h, fun k' => by simp only [Kky, Ke6]; rw [hq0, bx_t], fun D U N w0 w args hI hW hN hlen hargs => ?_⟩
  simp only [Bool.and_eq_true] at hq
  obtain ⟨⟨⟨q1, q2⟩, q3⟩, q4⟩ := hq
  have q1' := Nat.le_of_ble_eq_true q1
  have q2' := Nat.le_of_ble_eq_true q2
  have q3' := Nat.le_of_ble_eq_true q3
  obtain ⟨kk, cur, hk, ⟨f, hh⟩, hs, hv⟩ : CRep U w D (.tp 63 2 0) _ := hargs 0 _ (args[0]'(by rw [hlen]; simp)) rfl (Array.getElem?_eq_getElem _)
  obtain ⟨n1, cs, T, g1, g2, g3⟩ := hW.holdm 0 kk _ hk rfl
  have hc1 : 1 < cs.size := Nat.lt_of_lt_of_le (Nat.lt_succ_self 1) (by simpa using g2)
  obtain ⟨g, c, cu0, hg, hnc, ⟨f1, hgh⟩, hsz, hval⟩ : CRep U w D (.osl 5 1 1 0 a0) cs[1] := g3 1 _ cs[1] rfl (Array.getElem?_eq_getElem hc1)
  obtain ⟨n2, cu, T2, e1, e2, e3⟩ := hW.hold 1 g a1 hg rfl
  rw [hgh] at e1
  simp only [Option.some.injEq, Obj.cells.injEq] at e1
  obtain ⟨rfl, rfl, rfl⟩ := e1
  have hargs' : args = #[.pointer (some ⟨kk, 0, none⟩)] := by
   apply Array.ext'
   have : args.toList.length = 1 := by simpa using hlen
   match hl : args.toList, this with
   | [v], _ =>
    have h0 : args[0]'(by rw [hlen]; simp) = v := by
     have : args.toList[0]? = some v := by rw [hl]; rfl
     simpa [Array.getElem?_eq_getElem (show 0 < args.size by rw [hlen]; simp)] using this
    rw [← h0, hv]
  rw [hargs', Wqe _ q4]
  have hlen2 : ((a1.take a0).map fun d => UInt8.ofNat (asI d).toNat).length = a0 := by simp; omega
  refine (Wyk kk g a0 c T cs cu0 ((a1.take a0).map fun d => UInt8.ofNat (asI d).toNat) w g1 (by rw [Array.getElem?_eq_getElem hc1, hval]) hgh hlen2 (by intro e; rw [e] at hlen2; simp at hlen2; omega) hnc q3' ?_).mono ?_
  ·intro j x hx
   simp only [List.getElem?_map, Option.map_eq_some_iff] at hx
   obtain ⟨d, hd, rfl⟩ := hx
   have hd' := hd
   rw [List.getElem?_take] at hd
   split at hd <;> try (cases hd; done)
   have hb := List.all_eq_true.1 q4 d (List.mem_of_getElem? hd')
   simp only [Woj, Bool.and_eq_true, decide_eq_true_eq] at hb
   obtain ⟨⟨b1, b2⟩, b3⟩ := hb
   have hlt : j < cu0.size := by have := (List.getElem?_eq_some_iff.1 hd).1; omega
   have hrep := e3 j d cu0[j] hd (Array.getElem?_eq_getElem hlt)
   rw [Wq9 b1] at hrep
   have := Ksd hrep
   rw [Array.getElem?_eq_getElem hlt, this]
   congr 2
   have : (UInt8.ofNat (asI d).toNat).toNat = (asI d).toNat := by
    rw [UInt8.toNat_ofNat']
    omega
   rw [this]
   omega
  ·rintro e w' ⟨rfl, hs'⟩
   obtain ⟨o1, o2⟩ := Wwk hW (by intro b hb; match b, hb with | 0, _ => exact ⟨_, rfl⟩ | 1, _ => exact ⟨_, rfl⟩) (fun j hj => by cases hj; exact ⟨(hW.own 1 g hg).1, n2⟩) hs'
   exact ⟨_, D, U, rfl, o1, o2, DRep.val _⟩
end Go.Proofs.YtgohccjmphapfaaGreatDoor
end
