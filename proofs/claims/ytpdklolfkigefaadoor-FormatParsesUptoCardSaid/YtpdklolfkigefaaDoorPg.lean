/-
  What the library, and formats, give: as readings.
-/
import Derived.Test.YtpdklolfkigefaaDoorVt
import Derived.Test.YtpdklolfkigefaaDoorVb
import Derived.Test.YtpdklolfkigefaaDoorPv
import Derived.Test.YtpdklolfkigefaaDoorPl
import Derived.Test.YtpdklolfkigefaaDoorShelfp
import Derived.Lib.ConvBytes
import Derived.Lib.AtoiErrMem
import Derived.Lib.Split
import Derived.Lib.Hide
set_option linter.all false
namespace Go.Pv
open Go Go.RowKit
/-- A contract of flat arguments, whatever comes back. -/
theorem meets_by {P : Program} {I : World → Prop} {g : FuncId} {G : List DV → (DV → Option DV) → Option DV} (hg : okCall P g = true)
    (h : ∀ ds, (∀ k, G ds k = none) ∨ ∃ (vs : List Value) (d : DV), ds = vs.map DV.val ∧ (∀ k, G ds k = k d) ∧ ∀ (U : Nat → Prop) (w : World), I w → (∀ k, U k → k < w.heap.size) → Calls P g vs.toArray w fun e w' => ∃ v, e = .returned v ∧ Below w.heap.size w w' ∧ DRep (U2 U w w') w' d v) : Meets P I g G := by
  intro ds k r hG
  rcases h ds with h | ⟨vs, d, rfl, hk, hc⟩
  · rw [h] at hG; cases hG
  refine ⟨hg, d, by rw [hk] at hG; exact hG, hk, fun U w args hI hU hlen hargs => ?_⟩
  have e : args = vs.toArray := by
    apply Array.ext'
    apply List.ext_getElem?
    intro i
    by_cases hi : i < args.size
    · have hv : i < vs.length := by rw [hlen] at hi; simpa using hi
      have := hargs i (.val vs[i]) args[i] (by simp [hv]) (Array.getElem?_eq_getElem hi)
      have h2 : args[i] = vs[i] := val_eq this
      simp [hi, hv, h2]
    · rw [List.getElem?_eq_none (by simpa using hi), List.getElem?_eq_none (by rw [hlen] at hi; simpa using hi)]
  rw [e]
  exact hc U w hI hU
theorem tup_err {U : Nat → Prop} {w : World} (v : Value) (t : TypeId) (u : Value) : DRep U w (.tup [.val v, .err]) (.tuple #[v, .iface t u]) :=
  .tup rfl fun i x y h1 h2 => by
    match i with
    | 0 => simp at h1 h2; subst h1; subst h2; exact .val _
    | 1 => simp at h1 h2; subst h1; subst h2; exact .err
    | i + 2 => simp at h1
/-- A slice of strings that a call has made. -/
theorem strs_rep {U : Nat → Prop} {w : World} (l : List ByteArray) (N : Nat) {T : TypeId} {w' : World} (hw : w' = w.alloc (.cells (Lib.cellsOf l N) T)) (hl : l.length ≤ N) : DRep (U2 U w w') w' (.lst 1 (l.map fun s => [.val (.string s)])) (.slice (some ⟨w.heap.size, 0, none⟩) l.length N) := by
  subst hw
  have hb : (w.alloc (.cells (Lib.cellsOf l N) T)).heap[w.heap.size]? = some (.cells (Lib.cellsOf l N) T) := heap_alloc_new _ _
  have := DRep.lst (U := U2 U w (w.alloc (.cells (Lib.cellsOf l N) T))) (w := w.alloc (.cells (Lib.cellsOf l N) T)) (sz := 1) (b := w.heap.size) (off := 0) (c := N) (es := l.map fun s => [.val (.string s)]) (g := fun i _ => .string (l.getD i ByteArray.empty))
    (.inr ⟨Nat.le_refl _, lt_of_heap hb⟩) (lt_of_heap hb) (by simpa using hl) (fun e he => by obtain ⟨q, _, rfl⟩ := List.mem_map.1 he; rfl)
    (fun i j e x he hx => by
      simp only [List.getElem?_map, Option.map_eq_some_iff] at he
      obtain ⟨q, hq, rfl⟩ := he
      match j with
      | 0 =>
        have hlt := (List.getElem?_eq_some_iff.1 hq).1
        have : (Lib.cellsOf l N)[i]? = some (.string (l.getD i ByteArray.empty)) := by
          simp only [Lib.cellsOf, List.getElem?_toArray]
          rw [List.getElem?_append_left (by simpa using hlt), List.getElem?_map, hq]
          simp [List.getD_eq_getElem?_getD, hq]
        show (w.alloc (.cells (Lib.cellsOf l N) T)).cell? ⟨w.heap.size, 0 + i * 1 + 0, none⟩ = _
        rw [show 0 + i * 1 + 0 = i by omega]
        unfold World.cell?
        simp only [hb]
        exact this
      | j + 1 => simp at hx)
    (fun i j e x he hx => by
      simp only [List.getElem?_map, Option.map_eq_some_iff] at he
      obtain ⟨q, hq, rfl⟩ := he
      match j with
      | 0 => simp at hx; subst hx; simp [List.getD_eq_getElem?_getD, hq]; exact .val _
      | j + 1 => simp at hx)
  rw [List.length_map] at this
  exact this
theorem splitB_len (sep : ByteArray) (sv : Nat) : ∀ (n : Nat) (s : ByteArray), (Lib.splitB sep sv n s).length ≤ n + 1
  | 0, s => by simp [Lib.splitB]
  | n + 1, s => by
    unfold Lib.splitB
    split
    · simp
    · have := splitB_len sep sv n (s.extract ((Lib.indexB s sep).toNat + sep.size) s.size)
      simp only [List.length_cons]; omega
end Go.Pv
namespace Go.Proofs.YtpdklolfkigefaaDoor
open Go.Pv Go.RowKit
/-- The cells that a world must hold: the greatest length of what IndexByte looks at, the sentinels of Atoi. -/
def Inv (w : World) : Prop := (∃ m, w.cell? ⟨0, 0, none⟩ = some (.int .i64 m)) ∧ (∃ ev, w.cell? ⟨1, 0, none⟩ = some ev ∧ (ev = .nilIface ∨ ∃ te pe, ev = .iface te pe)) ∧ (∃ ev, w.cell? ⟨2, 0, none⟩ = some ev ∧ (ev = .nilIface ∨ ∃ te pe, ev = .iface te pe))
theorem cell_below {w w' : World} {a : Addr} {v : Value} (hb : Below w.heap.size w w') (h : w.cell? a = some v) : w'.cell? a = some v := by
  rw [World.cell?_of_block (hb.block a.block (World.block_lt_of_cell? w _ h))]; exact h
theorem stab : ∀ w w', Inv w → Below w.heap.size w w' → Inv w' := by
  rintro w w' ⟨⟨m, h1⟩, ⟨e1, h2, h3⟩, e2, h4, h5⟩ hb
  exact ⟨⟨m, cell_below hb h1⟩, ⟨e1, cell_below hb h2, h3⟩, e2, cell_below hb h4, h5⟩
abbrev KI := Int → Option DV
abbrev KB := Bool → Option DV
abbrev KT := ByteArray → Option DV
abbrev KQ := Int → Int → Option DV
abbrev KQQ := Int → Int → Int → Int → Option DV
theorem mixed : Tryd.prog.follows .mixedOrders = true := by kernel_rfl
set_option maxRecDepth 100000 in
set_option maxHeartbeats 800000 in
theorem slcut_one (s : ByteArray) (c : UInt8) (hs : s.size ≤ 9223372036854775807) (w : World) :
    Calls Tryd.prog 19 #[.string s, .string ⟨#[c]⟩] w fun e w' => e = .returned (.tuple #[.string ⟨(Q.cut1 c s.data.toList).1.toArray⟩, .string ⟨(Q.cut1 c s.data.toList).2.1.toArray⟩, .bool (Q.cut1 c s.data.toList).2.2]) ∧ ∃ n, w' = w.drewN n := by
  have hLn : s.data.toList.length = s.size := (Lib.size_eq s).symm
  rcases Q.index_cut c s.data.toList with ⟨h1, h2⟩ | ⟨i, hi, h1, h2⟩
  · have e : (⟨(Q.cut1 c s.data.toList).1.toArray⟩ : ByteArray) = s := by rw [h2]
    rw [e, h2]; clear e h2 hLn
    have H1 := Lib.hid h1
    clear h1
    go_enter Tryd.func19, Tryd.ntmps19
    go_wp2_with fail
    refine (Tryd.stringslite_Index_one _ _ _).mono ?_
    rintro e w1 ⟨rfl, rfl⟩
    rw [H1.out]
    go_wp2
    go_ret3
    exact ⟨rfl, 0, rfl⟩
  · have e1 : (⟨(Q.cut1 c s.data.toList).1.toArray⟩ : ByteArray) = s.extract 0 i := by rw [h2, Lib.extract_eq]; simp
    have e2 : (⟨(Q.cut1 c s.data.toList).2.1.toArray⟩ : ByteArray) = s.extract (i + 1) s.size := by
      have ht : List.take (s.size - (i + 1)) (List.drop (i + 1) s.data.toList) = List.drop (i + 1) s.data.toList := List.take_of_length_le (by rw [List.length_drop, ← Lib.size_eq]; exact Nat.le_refl _)
      rw [h2, Lib.extract_eq, ht]
    have e3 : (Q.cut1 c s.data.toList).2.2 = true := by rw [h2]
    rw [e1, e2, e3]; clear e1 e2 e3 h2
    have H1 := Lib.hid h1
    clear h1
    have c1 : (0 : Int) ≤ (i : Int) := by omega
    have c2 : (i : Int) ≤ (s.size : Int) := by omega
    have c3 : (0 : Int) ≤ (i : Int) + 1 := by omega
    have c4 : (i : Int) + 1 ≤ (s.size : Int) := by omega
    clear hLn hi
    go_enter Tryd.func19, Tryd.ntmps19
    go_wp2_with fail
    refine (Tryd.stringslite_Index_one _ _ _).mono ?_
    rintro e w1 ⟨rfl, rfl⟩
    rw [H1.out]
    go_wp2
    go_region
    go_wp2
    go_ret3
    exact ⟨rfl, 1, rfl⟩

set_option maxRecDepth 100000 in
set_option maxHeartbeats 800000 in
theorem cut_one (s : ByteArray) (c : UInt8) (hs : s.size ≤ 9223372036854775807) (w : World) :
    Calls Tryd.prog 10 #[.string s, .string ⟨#[c]⟩] w fun e w' => e = .returned (.tuple #[.string ⟨(Q.cut1 c s.data.toList).1.toArray⟩, .string ⟨(Q.cut1 c s.data.toList).2.1.toArray⟩, .bool (Q.cut1 c s.data.toList).2.2]) ∧ Below w.heap.size w w' := by
  go_enter Tryd.func10, Tryd.ntmps10
  go_wp2_with fail
  refine (slcut_one _ _ hs _).mono ?_
  rintro e w1 ⟨rfl, n, rfl⟩
  go_wp2
  go_ret3
  exact ⟨rfl, drewN_below (Below.refl _ _) _⟩

theorem itoa_any (n : Int) (h0 : 0 ≤ n) (h1 : n < 100) (w : World) : Calls Tryd.prog 16 #[.int .i64 n] w fun e w' => e = .returned (.string ⟨(Lib.decDigits n.toNat).toArray⟩) ∧ Below w.heap.size w w' := by
  obtain ⟨m, rfl⟩ : ∃ m : Nat, n = m := ⟨n.toNat, by omega⟩
  exact (Tryd.strconv_Itoa_small m (by omega) w).mono fun e w' ⟨he, hw⟩ => ⟨he, hw ▸ Below.refl _ _⟩
def strings_Cut (a b : ByteArray) (k : ByteArray → ByteArray → Bool → Option DV) : Option DV :=
  bif decide (b = ⟨#[40]⟩ ∧ a.size ≤ 9223372036854775807) then k ⟨(Q.cut1 40 a.data.toList).1.toArray⟩ ⟨(Q.cut1 40 a.data.toList).2.1.toArray⟩ (Q.cut1 40 a.data.toList).2.2 else none
noncomputable def KK_strings_Cut (f0 : ByteArray → ByteArray → (ByteArray → ByteArray → Bool → Option DV) → Option DV) (ds : List DV) (k : DV → Option DV) : Option DV :=
  match ds with
  | [.val (.string a0), .val (.string a1)] => f0 a0 a1 (fun r0_0 r1_0 r2_0 => k (.val (.tuple ⟨[.string r0_0, .string r1_0, .bool r2_0]⟩)))
  | _ => none
theorem m_strings_Cut : Meets Tryd.prog Inv 10 (KK_strings_Cut strings_Cut) :=
  meets_flat (by kernel_rfl) (by
    intro ds; unfold KK_strings_Cut; split
    · rename_i a b
      unfold strings_Cut
      by_cases hp : b = ⟨#[40]⟩ ∧ a.size ≤ 9223372036854775807
      · simp only [decide_eq_true hp, cond_true]
        obtain ⟨rfl, h1⟩ := hp
        exact .inr ⟨[.string a, .string ⟨#[40]⟩], _, rfl, fun _ => rfl, fun w _ => cut_one a 40 h1 w⟩
      · left; intro _; simp only [decide_eq_false hp, cond_false]
    · exact .inl (fun _ => rfl))
def strings_TrimSuffix (a b : ByteArray) (k : ByteArray → Option DV) : Option DV :=
  bif decide (a.size ≤ 9223372036854775807) then k ⟨(Lib.trimSuffix a.data.toList b.data.toList).toArray⟩ else none
noncomputable def KK_strings_TrimSuffix (f0 : ByteArray → ByteArray → (ByteArray → Option DV) → Option DV) (ds : List DV) (k : DV → Option DV) : Option DV :=
  match ds with
  | [.val (.string a0), .val (.string a1)] => f0 a0 a1 (fun r0_0 => k (.val (.string r0_0)))
  | _ => none
theorem m_strings_TrimSuffix : Meets Tryd.prog Inv 12 (KK_strings_TrimSuffix strings_TrimSuffix) :=
  meets_flat (by kernel_rfl) (by
    intro ds; unfold KK_strings_TrimSuffix; split
    · rename_i a b
      unfold strings_TrimSuffix
      by_cases hp : a.size ≤ 9223372036854775807
      · simp only [decide_eq_true hp, cond_true]
        exact .inr ⟨[.string a, .string b], _, rfl, fun _ => rfl, fun w _ => (Tryd.strings_TrimSuffix a b w hp).mono fun e w' ⟨he, hw⟩ => ⟨he, hw ▸ Below.refl _ _⟩⟩
      · left; intro _; simp only [decide_eq_false hp, cond_false]
    · exact .inl (fun _ => rfl))
def strings_SplitN (a b : ByteArray) (n : Int) (k : List (List DV) → Option DV) : Option DV :=
  bif decide (b = ⟨#[44]⟩ ∧ n = 5 ∧ a.size < 4294967281) then k ((Lib.splitB ⟨#[44]⟩ 0 (min 5 (a.size + 1) - 1) a).map fun s => [.val (.string s)]) else none
noncomputable def KK_strings_SplitN (f0 : ByteArray → ByteArray → Int → (List (List DV) → Option DV) → Option DV) (ds : List DV) (k : DV → Option DV) : Option DV :=
  match ds with
  | [.val (.string a0), .val (.string a1), .val (.int .i64 a2)] => f0 a0 a1 a2 (fun r0_0 => k (.lst 1 r0_0))
  | _ => none
theorem m_strings_SplitN : Meets Tryd.prog Inv 11 (KK_strings_SplitN strings_SplitN) :=
  meets_by (by kernel_rfl) (by
    intro ds; unfold KK_strings_SplitN; split
    · rename_i a b n
      unfold strings_SplitN
      by_cases hp : b = ⟨#[44]⟩ ∧ n = 5 ∧ a.size < 4294967281
      · simp only [decide_eq_true hp, cond_true]
        obtain ⟨rfl, rfl, h1⟩ := hp
        refine .inr ⟨[.string a, .string ⟨#[44]⟩, .int .i64 5], _, rfl, fun _ => rfl, fun U w hI hU => ?_⟩
        obtain ⟨m, hm⟩ := hI.1
        refine (Tryd.strings_SplitN a ⟨#[44]⟩ 5 m w h1 hm (by decide) (by decide) (by decide)).mono fun e w' ⟨he, hw⟩ => ⟨_, he, hw ▸ (Below.refl _ _).alloc (Nat.le_refl _) _, ?_⟩
        subst hw
        exact strs_rep _ _ rfl (by have := splitB_len ⟨#[44]⟩ 0 (min 5 (a.size + 1) - 1) a; omega)
      · left; intro _; simp only [decide_eq_false hp, cond_false]
    · exact .inl (fun _ => rfl))
def strconv_Atoi (a : ByteArray) (k e : Int → Option DV) : Option DV :=
  bif decide (a.size ≤ 281474976710656) then (match okV (Lib.atoiAll a.data.toList) with | some v => k v | none => e (bif isR (Lib.atoiAll a.data.toList) then Lib.atoiSat a.data.toList else 0)) else none
noncomputable def KK_strconv_Atoi (f0 : ByteArray → (Int → Option DV) → (Int → Option DV) → Option DV) (ds : List DV) (k : DV → Option DV) : Option DV :=
  match ds with
  | [.val (.string a0)] => f0 a0 (fun r0_0 => k (.val (.tuple ⟨[.int .i64 r0_0, .nilIface]⟩))) (fun r0_0 => k (.tup [.val (.int .i64 r0_0), .err]))

  | _ => none
theorem m_strconv_Atoi : Meets Tryd.prog Inv 13 (KK_strconv_Atoi strconv_Atoi) :=
  meets_by (by kernel_rfl) (by
    intro ds; unfold KK_strconv_Atoi; split
    · rename_i a
      unfold strconv_Atoi
      by_cases hp : a.size ≤ 281474976710656
      · simp only [decide_eq_true hp, cond_true]
        rcases h : Lib.atoiAll a.data.toList with v | _ | _
        · refine .inr ⟨[.string a], _, rfl, fun _ => rfl, fun U w hI hU => ?_⟩
          refine (Tryd.strconv_Atoi_ok a (by omega) v h w).mono fun e w' ⟨he, hw⟩ => ⟨_, he, ?_, .val _⟩
          rcases hw with rfl | ⟨t, rfl⟩
          · exact Below.refl _ _
          · exact Lib.bytesWorld_below _ _ _
        · refine .inr ⟨[.string a], _, rfl, fun _ => rfl, fun U w hI hU => ?_⟩
          obtain ⟨ev, h1, h2⟩ := hI.2.1
          refine (Any.strconv_Atoi_syntax Tryd.laysC172 a hp h ev w h1 h2).mono fun e w' ⟨N, he, _, _, hb⟩ => ⟨_, he, hb, ?_⟩
          exact tup_err _ _ _
        · refine .inr ⟨[.string a], _, rfl, fun _ => rfl, fun U w hI hU => ?_⟩
          obtain ⟨ev, h1, h2⟩ := hI.2.2
          refine (Any.strconv_Atoi_range Tryd.laysC172 a hp h ev w h1 h2).mono fun e w' ⟨N, he, _, _, hb⟩ => ⟨_, he, hb, ?_⟩
          exact tup_err _ _ _
      · left; intro _; simp only [decide_eq_false hp, cond_false]
    · exact .inl (fun _ => rfl))
def strconv_Itoa (n : Int) (k : ByteArray → Option DV) : Option DV :=
  bif decide (0 ≤ n ∧ n < 100) then k ⟨(Lib.decDigits n.toNat).toArray⟩ else none
noncomputable def KK_strconv_Itoa (f0 : Int → (ByteArray → Option DV) → Option DV) (ds : List DV) (k : DV → Option DV) : Option DV :=
  match ds with
  | [.val (.int .i64 a0)] => f0 a0 (fun r0_0 => k (.val (.string r0_0)))
  | _ => none
theorem m_strconv_Itoa : Meets Tryd.prog Inv 16 (KK_strconv_Itoa strconv_Itoa) :=
  meets_flat (by kernel_rfl) (by
    intro ds; unfold KK_strconv_Itoa; split
    · rename_i n
      unfold strconv_Itoa
      by_cases hp : 0 ≤ n ∧ n < 100
      · simp only [decide_eq_true hp, cond_true]
        exact .inr ⟨[.int .i64 n], _, rfl, fun _ => rfl, fun w _ => itoa_any n hp.1 hp.2 w⟩
      · left; intro _; simp only [decide_eq_false hp, cond_false]
    · exact .inl (fun _ => rfl))
def quant_Valid (k0 : ByteArray) (I : Int) (F : Int) (r : ByteArray) (o : ByteArray) (k : Bool → Option DV) : Option DV :=
  bif decide ((-9223372036854775808 ≤ I ∧ I ≤ 9223372036854775807) ∧ (-9223372036854775808 ≤ F ∧ F ≤ 9223372036854775807)) then k ((Z.vld k0 r o I F)) else none
noncomputable def KK_quant_Valid (f0 : ByteArray → Int → Int → ByteArray → ByteArray → (Bool → Option DV) → Option DV) (ds : List DV) (k : DV → Option DV) : Option DV :=
  match ds with
  | [.val (.agg ⟨[.string a0_0, .int .i64 a0_1, .int .i64 a0_2, .string a0_3, .string a0_4]⟩)] => f0 a0_0 a0_1 a0_2 a0_3 a0_4 (fun r0_0 => k (.val (.bool r0_0)))
  | _ => none
theorem m_quant_Valid : Meets Tryd.prog Inv 14 (KK_quant_Valid quant_Valid) :=
  meets_flat (by kernel_rfl) (by
    intro ds; unfold KK_quant_Valid; split
    · rename_i k0 I F r o
      unfold quant_Valid
      by_cases hp : (-9223372036854775808 ≤ I ∧ I ≤ 9223372036854775807) ∧ (-9223372036854775808 ≤ F ∧ F ≤ 9223372036854775807)
      · simp only [decide_eq_true hp, cond_true]
        exact .inr ⟨[.agg #[.string k0, .int .i64 I, .int .i64 F, .string r, .string o]], _, rfl, fun _ => rfl, fun w hI => (valid_any k0 r o I F (hp.1) (hp.2) w)⟩
      · left; intro _; simp only [decide_eq_false hp, cond_false]
    · exact .inl (fun _ => rfl))
def quant_Text (k0 : ByteArray) (I : Int) (F : Int) (r : ByteArray) (o : ByteArray) (k : ByteArray → Option DV) : Option DV :=
  bif decide ((-9223372036854775808 ≤ I ∧ I ≤ 9223372036854775807) ∧ (-9223372036854775808 ≤ F ∧ F ≤ 9223372036854775807)) then k ((Z.txtQ k0 r o I F)) else none
noncomputable def KK_quant_Text (f0 : ByteArray → Int → Int → ByteArray → ByteArray → (ByteArray → Option DV) → Option DV) (ds : List DV) (k : DV → Option DV) : Option DV :=
  match ds with
  | [.val (.agg ⟨[.string a0_0, .int .i64 a0_1, .int .i64 a0_2, .string a0_3, .string a0_4]⟩)] => f0 a0_0 a0_1 a0_2 a0_3 a0_4 (fun r0_0 => k (.val (.string r0_0)))
  | _ => none
theorem m_quant_Text : Meets Tryd.prog Inv 6 (KK_quant_Text quant_Text) :=
  meets_flat (by kernel_rfl) (by
    intro ds; unfold KK_quant_Text; split
    · rename_i k0 I F r o
      unfold quant_Text
      by_cases hp : (-9223372036854775808 ≤ I ∧ I ≤ 9223372036854775807) ∧ (-9223372036854775808 ≤ F ∧ F ≤ 9223372036854775807)
      · simp only [decide_eq_true hp, cond_true]
        exact .inr ⟨[.agg #[.string k0, .int .i64 I, .int .i64 F, .string r, .string o]], _, rfl, fun _ => rfl, fun w hI => (Text_any k0 r o I F (hp.1) (hp.2) w)⟩
      · left; intro _; simp only [decide_eq_false hp, cond_false]
    · exact .inl (fun _ => rfl))
def serinetteref02_Valid (k0 : ByteArray) (I : Int) (F : Int) (r : ByteArray) (o : ByteArray) (k : Bool → Option DV) : Option DV :=
  bif decide ((-9223372036854775808 ≤ I ∧ I ≤ 9223372036854775807) ∧ (-9223372036854775808 ≤ F ∧ F ≤ 9223372036854775807)) then k ((Z.vld k0 r o I F)) else none
noncomputable def KK_serinetteref02_Valid (f0 : ByteArray → Int → Int → ByteArray → ByteArray → (Bool → Option DV) → Option DV) (ds : List DV) (k : DV → Option DV) : Option DV :=
  match ds with
  | [.val (.agg ⟨[.string a0_0, .int .i64 a0_1, .int .i64 a0_2, .string a0_3, .string a0_4]⟩)] => f0 a0_0 a0_1 a0_2 a0_3 a0_4 (fun r0_0 => k (.val (.bool r0_0)))
  | _ => none
theorem m_serinetteref02_Valid : Meets Tryd.prog Inv 8 (KK_serinetteref02_Valid serinetteref02_Valid) :=
  meets_flat (by kernel_rfl) (by
    intro ds; unfold KK_serinetteref02_Valid; split
    · rename_i k0 I F r o
      unfold serinetteref02_Valid
      by_cases hp : (-9223372036854775808 ≤ I ∧ I ≤ 9223372036854775807) ∧ (-9223372036854775808 ≤ F ∧ F ≤ 9223372036854775807)
      · simp only [decide_eq_true hp, cond_true]
        exact .inr ⟨[.agg #[.string k0, .int .i64 I, .int .i64 F, .string r, .string o]], _, rfl, fun _ => rfl, fun w hI => (rvalid_any k0 r o I F (hp.1) (hp.2) w)⟩
      · left; intro _; simp only [decide_eq_false hp, cond_false]
    · exact .inl (fun _ => rfl))
def serinettelaw02_awake  (k : Bool → Option DV) : Option DV :=
  k (true)
noncomputable def KK_serinettelaw02_awake (f0 : (Bool → Option DV) → Option DV) (ds : List DV) (k : DV → Option DV) : Option DV :=
  match ds with
  | [] => f0  (fun r0_0 => k (.val (.bool r0_0)))
  | _ => none
theorem m_serinettelaw02_awake : Meets Tryd.prog Inv 9 (KK_serinettelaw02_awake serinettelaw02_awake) :=
  meets_flat (by kernel_rfl) (by
    intro ds; unfold KK_serinettelaw02_awake; split
    · unfold serinettelaw02_awake
      exact .inr ⟨[], _, rfl, fun _ => rfl, fun w hI => (awake_any w)⟩
    · exact .inl (fun _ => rfl))
end Go.Proofs.YtpdklolfkigefaaDoor
