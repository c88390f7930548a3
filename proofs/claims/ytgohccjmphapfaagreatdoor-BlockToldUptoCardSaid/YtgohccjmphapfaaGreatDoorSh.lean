import Derived.Test.YtgohccjmphapfaaGreatDoorRh
import Derived.Test.YtgohccjmphapfaaGreatDoorStr
import Derived.Test.YtgohccjmphapfaaGreatDoorShelfb
import Derived.Shelf.Strings.SlTrimAscii
import Derived.Lib.ConvBytes
import Derived.Lib.Split
set_option linter.all false
noncomputable section
namespace Go.Pv
open Go Go.RowKit
theorem Wyi {P : Program} {I : World → Prop} {g : FuncId} {G : List DV → (DV → Option DV) → Option DV} (hg : K0j P g = true)
  (h : ∀ ds, (∀ k, G ds k = none) ∨ ∃ (vs : List Value) (d : DV), ds = vs.map DV.val ∧ (∀ k, G ds k = k d) ∧ ∀ (U : Nat → Prop) (w : World), I w → (∀ k, U k → k < w.heap.size) → Calls P g vs.toArray w fun e w' => ∃ v, e = .returned v ∧ Below w.heap.size w w' ∧ DRep (U2 U w w') w' d v) : Kce P I g G := by
 intro ds k r hG
 rcases h ds with h | ⟨vs, d, rfl, hk, hc⟩
 ·rw [h] at hG; cases hG
 refine ⟨hg, d, by rw [hk] at hG; exact hG, hk, fun U w args hI hU hlen hargs => ?_⟩
 have e : args = vs.toArray := by
  apply Array.ext'
  apply List.ext_getElem?
  intro i
  by_cases hi : i < args.size
  ·have hv : i < vs.length := by rw [hlen] at hi; simpa using hi
   have := hargs i (.val vs[i]) args[i] (by simp [hv]) (Array.getElem?_eq_getElem hi)
   have h2 : args[i] = vs[i] := Ksd this
   simp [hi, hv, h2]
  ·rw [List.getElem?_eq_none (by simpa using hi), List.getElem?_eq_none (by rw [hlen] at hi; simpa using hi)]
 rw [e]
 exact hc U w hI hU
theorem Wyj {U : Nat → Prop} {w : World} (l : List ByteArray) (N : Nat) {T : TypeId} {w' : World} (hw : w' = w.alloc (.cells (Lib.cellsOf l N) T)) (hl : l.length ≤ N) : DRep (U2 U w w') w' (.lst 1 (l.map fun s => [.val (.string s)])) (.slice (some ⟨w.heap.size, 0, none⟩) l.length N) := by
 subst hw
 have hb : (w.alloc (.cells (Lib.cellsOf l N) T)).heap[w.heap.size]? = some (.cells (Lib.cellsOf l N) T) := Kol _ _
 have := DRep.lst (U := U2 U w (w.alloc (.cells (Lib.cellsOf l N) T))) (w := w.alloc (.cells (Lib.cellsOf l N) T)) (sz := 1) (b := w.heap.size) (off := 0) (c := N) (es := l.map fun s => [.val (.string s)]) (g := fun i _ => .string (l.getD i ByteArray.empty))
  (.inr ⟨Nat.le_refl _, Kxf hb⟩) (Kxf hb) (by simpa using hl) (fun e he => by obtain ⟨q, _, rfl⟩ := List.mem_map.1 he; rfl)
  (fun i j e x he hx => by
   simp only [List.getElem?_map, Option.map_eq_some_iff] at he
   obtain ⟨q, hq, rfl⟩ := he
   match j with
   | 0 =>
    have hlt := (List.getElem?_eq_some_iff.1 hq).1
    have : (Lib.cellsOf l N)[i]? = some (.string (l.getD i ByteArray.empty)) := by
     simp only [Lib.cellsOf, List.getElem?_toArray]
     rw [List.getElem?_append_left (by simpa using hlt), List.getElem?_map, hq]
     simp [List.getD_eq_getElem?_getD, hq]
    show (w.alloc (.cells (Lib.cellsOf l N) T)).cell? ⟨w.heap.size, 0 + i * 1 + 0, none⟩ = _
    rw [show 0 + i * 1 + 0 = i by omega]
    unfold World.cell?
    simp only [hb]
    exact this
   | j + 1 => simp at hx)
  (fun i j e x he hx => by
   simp only [List.getElem?_map, Option.map_eq_some_iff] at he
   obtain ⟨q, hq, rfl⟩ := he
   match j with
   | 0 => simp at hx; subst hx; simp [List.getD_eq_getElem?_getD, hq]; exact .val _
   | j + 1 => simp at hx)
 rw [List.length_map] at this
 exact this
theorem Wkp (sep : ByteArray) (sv : Nat) : ∀ (n : Nat) (s : ByteArray), (Lib.splitB sep sv n s).length ≤ n + 1
 | 0, s => by simp [Lib.splitB]
 | n + 1, s => by
  unfold Lib.splitB
  split
  ·simp
  ·have := Wkp sep sv n (s.extract ((Lib.indexB s sep).toNat + sep.size) s.size)
   simp only [List.length_cons]; omega
def atV : Lib.NumEnd Int → Option Int | .ok v => some v | _ => none
def Wi3 : List (List DV) → Option (List ByteArray)
 | [] => some []
 | [.val (.string s)] :: r => (Wi3 r).map (s :: ·)
 | _ => none
theorem Wi4 : ∀ {es : List (List DV)} {l : List ByteArray}, Wi3 es = some l → es = l.map fun s => [.val (.string s)]
 | [], l, h => by cases h; rfl
 | e :: r, l, h => by
  unfold Wi3 at h
  split at h
  ·rename_i h'; cases h'
  ·rename_i s r' h'
   cases h'
   cases hr : Wi3 r with
   | none => rw [hr] at h; cases h
   | some m => rw [hr] at h; cases h; rw [Wi4 hr]; rfl
  ·cases h
theorem Wtm (l : List ByteArray) : Wi3 (l.map fun s => [DV.val (.string s)]) = some l := by
 induction l with
 | nil => rfl
 | cons a l ih => simp only [List.map_cons, Wi3, ih, Option.map_some]
def asc (b : ByteArray) : Bool := decide (b.size < 4294967281) && b.data.toList.all (fun b => decide (b.toNat < 128))
theorem Wly {b : ByteArray} (h : asc b = true) : b.size < 4294967281 := of_decide_eq_true ((Bool.and_eq_true _ _).mp h).1
theorem Wqc {b : ByteArray} (h : asc b = true) : ∀ (j : Nat) x, b.data.toList[j]? = some x → x.toNat < 128 := fun j x hx =>
 of_decide_eq_true (List.all_eq_true.mp ((Bool.and_eq_true _ _).mp h).2 x (List.mem_of_getElem? hx))
end Go.Pv
namespace Go.Proofs.YtgohccjmphapfaaGreatDoor
open Go Go.Pv Go.RowKit
theorem Wi5 (w : World) (j : Nat) (os : Array Obj) : Below w.heap.size w («Sort».grow (w.drewN j) os) := by
 refine (Go.Joins.below_draws w.heap.size w j).trans ⟨rfl, rfl, rfl, ?_, ?_⟩
 ·show _ ≤ ((w.drewN j).heap ++ os).size
  rw [Array.size_append]; omega
 ·intro i hi
  show ((w.drewN j).heap ++ os)[i]? = _
  exact Array.getElem?_append_left hi
def strconv_Itoa (n : Int) (k : W4j) : W4y := bif decide (-9223372036854775808 ≤ n ∧ n ≤ 9223372036854775807) then k ⟨(Lib.itoa n).toArray⟩ else none
def Klc (f0 : Int → (ByteArray → Option DV) → Option DV) (ds : W4z) (k : W2v) : W4y :=
 match ds with
 | [.val (.int .i64 a0)] => f0 a0 (fun r0_0 => k (.val (.string r0_0)))
 | _ => none
theorem Kwg : Kce Tryz.prog Inv 76 (Klc strconv_Itoa) :=
 K21 (by kernel_rfl) (by
  intro ds; unfold Klc; split
  ·rename_i n
   unfold strconv_Itoa
   rcases hp : (decide (-9223372036854775808 ≤ n ∧ n ≤ 9223372036854775807)) with _ | _
   ·left; intro _; rfl
   ·exact .inr ⟨[.int .i64 n], _, rfl, fun _ => rfl, fun w hI => have hp := of_decide_eq_true hp; (Tryz.strconv_Itoa n hp.1 hp.2 w hI.1).mono fun e w' ⟨he, hw⟩ => ⟨he, by obtain ⟨j, os, rfl⟩ := hw; exact Wi5 w j os⟩⟩
  ·exact .inl (fun _ => rfl))
def Ki7 (n m : Int) (k : W4j) : W4y := bif decide ((-9223372036854775808 ≤ n ∧ n ≤ 9223372036854775807) ∧ m = 10) then k ⟨(Lib.itoa n).toArray⟩ else none
def Ko6 (f0 : Int → Int → (ByteArray → Option DV) → Option DV) (ds : W4z) (k : W2v) : W4y :=
 match ds with
 | [.val (.int .i64 a0), .val (.int .i64 a1)] => f0 a0 a1 (fun r0_0 => k (.val (.string r0_0)))
 | _ => none
theorem K33 : Kce Tryz.prog Inv 106 (Ko6 Ki7) :=
 K21 (by kernel_rfl) (by
  intro ds; unfold Ko6; split
  ·rename_i n m
   unfold Ki7
   rcases hp : (decide ((-9223372036854775808 ≤ n ∧ n ≤ 9223372036854775807) ∧ m = 10)) with _ | _
   ·left; intro _; rfl
   ·exact .inr ⟨[.int .i64 n, .int .i64 m], _, rfl, fun _ => rfl, fun w hI => have hp := of_decide_eq_true hp; by obtain ⟨⟨h0, h1⟩, rfl⟩ := hp; exact (Tryz.strconv_FormatInt_10 n h0 h1 w hI.1).mono fun e w' ⟨he, hw⟩ => ⟨he, by obtain ⟨j, os, rfl⟩ := hw; exact Wi5 w j os⟩⟩
  ·exact .inl (fun _ => rfl))
def Kro (a b : W4w) (k : W4j) : W4y := bif asc b then k ⟨(Lib.trimLeftS a.data.toList b.data.toList).toArray⟩ else none
def Kxa (f0 : ByteArray → ByteArray → (ByteArray → Option DV) → Option DV) (ds : W4z) (k : W2v) : W4y :=
 match ds with
 | [.val (.string a0), .val (.string a1)] => f0 a0 a1 (fun r0_0 => k (.val (.string r0_0)))
 | _ => none
theorem Wec : Kce Tryz.prog Inv 57 (Kxa Kro) :=
 K21 (by kernel_rfl) (by
  intro ds; unfold Kxa; split
  ·rename_i a b
   unfold Kro
   rcases hp : (asc b) with _ | _
   ·left; intro _; rfl
   ·exact .inr ⟨[.string a, .string b], _, rfl, fun _ => rfl, fun w hI => Any.strings_TrimLeft_laid Tryz.lays161 (by kernel_rfl) a b w (Wly hp) (Wqc hp)⟩
  ·exact .inl (fun _ => rfl))
def strings_IndexAny (a b : W4w) (k : W4v) : W4y := bif asc a && asc b then k (Lib.indexAny a.data.toList b.data.toList) else none
def Kxb (f0 : W4p) (ds : W4z) (k : W2v) : W4y :=
 match ds with
 | [.val (.string a0), .val (.string a1)] => f0 a0 a1 (fun r0_0 => k (.val (.int .i64 r0_0)))
 | _ => none
theorem Wed : Kce Tryz.prog Inv 80 (Kxb strings_IndexAny) :=
 K21 (by kernel_rfl) (by
  intro ds; unfold Kxb; split
  ·rename_i a b
   unfold strings_IndexAny
   rcases hp : (asc a && asc b) with _ | _
   ·left; intro _; rfl
   ·exact .inr ⟨[.string a, .string b], _, rfl, fun _ => rfl, fun w hI => have h := (Bool.and_eq_true _ _).mp hp; Tryz.strings_IndexAny_laid a b w (Wly h.1) (Wly h.2) (Wqc h.1) (Wqc h.2)⟩
  ·exact .inl (fun _ => rfl))
def stringslite_Index (a b : W4w) (k : W4v) : W4y := match b.data.toList with | [c] => k (Lib.indexByte a.data.toList c) | _ => none
def Ko7 (f0 : W4p) (ds : W4z) (k : W2v) : W4y :=
 match ds with
 | [.val (.string a0), .val (.string a1)] => f0 a0 a1 (fun r0_0 => k (.val (.int .i64 r0_0)))
 | _ => none
theorem K34 : Kce Tryz.prog Inv 144 (Ko7 stringslite_Index) :=
 K21 (by kernel_rfl) (by
  intro ds; unfold Ko7; split
  ·rename_i a b
   unfold stringslite_Index
   split
   ·rename_i c hc
    have e : b = ⟨#[c]⟩ := by rw [show b = ⟨b.data.toList.toArray⟩ by simp, hc]
    subst e
    exact .inr ⟨[.string a, .string ⟨#[c]⟩], _, rfl, fun _ => rfl, fun w _ => (Tryz.stringslite_Index_one a c w).mono fun e w' ⟨he, hw⟩ => ⟨he, hw ▸ Below.refl _ _⟩⟩
   ·exact .inl (fun _ => rfl)
  ·exact .inl (fun _ => rfl))
def Koc (a : W4w) (k e : W4v) : W4y :=
 bif decide (a.size ≤ 281474976710656) then (match atV (Lib.atoiAll a.data.toList) with | some v => k v | none => none) else none
def Kyv (f0 : ByteArray → (Int → Option DV) → (Int → Option DV) → Option DV) (ds : W4z) (k : W2v) : W4y :=
 match ds with
 | [.val (.string a0)] => f0 a0 (fun r0_0 => k (.val (.tuple ⟨[.int .i64 r0_0, .nilIface]⟩))) (fun r0_0 => k (.tup [.val (.int .i64 r0_0), .err]))
 | _ => none
theorem Wby : Kce Tryz.prog Inv 114 (Kyv Koc) :=
 K21 (by kernel_rfl) (by
  intro ds; unfold Kyv; split
  ·rename_i a
   unfold Koc
   by_cases hp : a.size ≤ 281474976710656
   ·simp only [decide_eq_true hp, cond_true]
    rcases h : Lib.atoiAll a.data.toList with v | _ | _
    ·refine .inr ⟨[.string a], _, rfl, fun _ => rfl, fun w hI => ?_⟩
     refine (Tryz.strconv_Atoi_ok a (by omega) v h w).mono fun e w' ⟨he, hw⟩ => ⟨he, ?_⟩
     rcases hw with rfl | ⟨t, rfl⟩
     ·exact Below.refl _ _
     ·exact Lib.bytesWorld_below _ _ _
    ·exact .inl (fun _ => rfl)
    ·exact .inl (fun _ => rfl)
   ·left; intro _; simp only [decide_eq_false hp, cond_false]
  ·exact .inl (fun _ => rfl))
def strings_SplitN (a b : W4w) (n : Int) (k : W4e) : W4y :=
 bif decide (b = ⟨#[44]⟩ ∧ n = 5 ∧ a.size < 4294967281) then k ((Lib.splitB ⟨#[44]⟩ 0 (min 5 (a.size + 1) - 1) a).map fun s => [.val (.string s)]) else none
def Kz9 (f0 : W4a) (ds : W4z) (k : W2v) : W4y :=
 match ds with
 | [.val (.string a0), .val (.string a1), .val (.int .i64 a2)] => f0 a0 a1 a2 (fun r0_0 => k (.lst 1 r0_0))
 | _ => none
theorem Wgj : Kce Tryz.prog Inv 142 (Kz9 strings_SplitN) :=
 Wyi (by kernel_rfl) (by
  intro ds; unfold Kz9; split
  ·rename_i a b n
   unfold strings_SplitN
   by_cases hp : b = ⟨#[44]⟩ ∧ n = 5 ∧ a.size < 4294967281
   ·simp only [decide_eq_true hp, cond_true]
    obtain ⟨rfl, rfl, h1⟩ := hp
    refine .inr ⟨[.string a, .string ⟨#[44]⟩, .int .i64 5], _, rfl, fun _ => rfl, fun U w hI hU => ?_⟩
    obtain ⟨m, hm⟩ := hI.2
    refine (Tryz.strings_SplitN a ⟨#[44]⟩ 5 m w h1 hm (by decide) (by decide) (by decide)).mono fun e w' ⟨he, hw⟩ => ⟨_, he, hw ▸ (Below.refl _ _).alloc (Nat.le_refl _) _, ?_⟩
    subst hw
    exact Wyj _ _ rfl (by have := Wkp ⟨#[44]⟩ 0 (min 5 (a.size + 1) - 1) a; omega)
   ·left; intro _; simp only [decide_eq_false hp, cond_false]
  ·exact .inl (fun _ => rfl))
def strings_Join (es : W4x) (b : W4w) (k : W4j) : W4y :=
 match Wi3 es with
 | some l => bif decide (l.length ≤ 140737488355328 ∧ (Lib.join (l.map (·.data.toList)) b.data.toList).length ≤ 140737488355328) then k ⟨(Lib.join (l.map (·.data.toList)) b.data.toList).toArray⟩ else none
 | none => none
def Kyw (f0 : List (List DV) → ByteArray → (ByteArray → Option DV) → Option DV) (ds : W4z) (k : W2v) : W4y :=
 match ds with
 | [.lst 1 a0, .val (.string a1)] => f0 a0 a1 (fun r0_0 => k (.val (.string r0_0)))
 | _ => none
theorem Wjl : Kce Tryz.prog Inv 109 (Kyw strings_Join) := by
 intro ds k r hG
 unfold Kyw at hG
 split at hG
 case h_2 => cases hG
 rename_i es b
 unfold strings_Join at hG
 split at hG
 case h_2 => cases hG
 rename_i l hl
 by_cases hp : l.length ≤ 140737488355328 ∧ (Lib.join (l.map (·.data.toList)) b.data.toList).length ≤ 140737488355328
 case neg => rw [decide_eq_false hp] at hG; cases hG
 rw [decide_eq_true hp] at hG
 refine ⟨by kernel_rfl, _, hG, fun k' => by unfold Kyw strings_Join; simp only [hl, decide_eq_true hp, cond_true], fun U w args hI hU hlen hargs => ?_⟩
 have e := Wi4 hl
 subst e
 have h2 : args.size = 2 := hlen
 have g0 := hargs 0 _ args[0] rfl (Array.getElem?_eq_getElem (by omega))
 have g1 := Ksd (hargs 1 _ args[1] rfl (Array.getElem?_eq_getElem (by omega)))
 obtain ⟨a, ha⟩ : ∃ a, args = #[a, .string b] := ⟨args[0], by
  apply Array.ext
  ·simp [h2]
  ·intro i h1 _
   match i with
   | 0 => rfl
   | 1 => exact g1
   | i + 2 => omega⟩
 subst ha
 have g0 : DRep U w (.lst 1 (l.map fun s => [.val (.string s)])) a := g0
 generalize he : (l.map fun s => [DV.val (.string s)]) = es at g0
 cases g0 with
 | nil =>
  have : l = [] := by simpa using he
  subst this
  refine (Tryz.strings_Join_none _ _ _ w).mono fun e w' ⟨he, hw⟩ => ⟨_, he, hw ▸ Below.refl _ _, .val _⟩
 | lst hb hlt hcap hsz hc hr =>
  subst he
  rw [List.length_map] at hcap ⊢
  refine (Tryz.strings_Join _ _ _ l b w ?_ hlt hp.1 hcap hp.2).mono fun e w' ⟨he, hw⟩ => ⟨_, he, hw, .val _⟩
  intro j x hx
  have q1 : (l.map fun s => [DV.val (.string s)])[j]? = some [.val (.string x)] := by simp [hx]
  have := hc j 0 _ _ q1 rfl
  rw [Ksd (hr j 0 _ _ q1 rfl)] at this
  rw [Nat.mul_one, Nat.add_zero] at this
  exact this
end Go.Proofs.YtgohccjmphapfaaGreatDoor
end
