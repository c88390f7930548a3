/-
  FormatParses: what its readings say.
-/
import Derived.Test.YtpdklolfkigefaaDoorPh
set_option linter.all false
namespace Go.Proofs.YtpdklolfkigefaaDoor
open Go.Pv Go.RowKit

theorem decT {p : Prop} [Decidable p] (h : p) (a b : Option DV) : (bif decide p then a else b) = a := by simp [h]
theorem decF {p : Prop} [Decidable p] (h : ¬ p) (a b : Option DV) : (bif decide p then a else b) = b := by simp [h]
theorem ba_ext {a b : ByteArray} (h : a.data.toList = b.data.toList) : a = b := ByteArray.ext (Array.toList_inj.1 h)
theorem ba_beq (a b : ByteArray) : (ByteArray.toList a == ByteArray.toList b) = decide (a = b) := by
  rw [ByteArray.toList_eq, ByteArray.toList_eq]
  by_cases h : a = b
  · subst h; simp
  · rw [decide_eq_false h, beq_eq_false_iff_ne]
    exact fun e => h (ba_ext e)
theorem ba_app (a b : ByteArray) : (a ++ b).data.toList = a.data.toList ++ b.data.toList := by rw [ByteArray.data_append, Array.toList_append]
theorem ba_size (a : ByteArray) : a.size = a.data.toList.length := Lib.size_eq a

/-- What a valid format's fields are. -/
theorem vld_fields {k r o : ByteArray} {I F : Int} (h : Z.vld k r o I F = true) : (∃ i f : Nat, I = i ∧ F = f ∧ i + f ≤ 30) ∧ (k = ⟨#[102, 105, 120]⟩ ∨ k = ⟨#[102, 108, 111, 97, 116]⟩) ∧ (r = ⟨#[102, 108, 111, 111, 114]⟩ ∨ r = ⟨#[110, 101, 97, 114]⟩ ∨ r = ⟨#[122, 101, 114, 111]⟩) ∧ (o = ⟨#[115, 97, 116]⟩ ∨ o = ⟨#[119, 114, 97, 112]⟩ ∨ o = ⟨#[110, 111, 110, 101]⟩) := by
  obtain ⟨m, i, f, _, _, _, h1, h2, h3⟩ := vld_open h
  refine ⟨⟨i, f, h1, h2, h3⟩, ?_⟩
  have bt : ∀ {x : ByteArray} {l : List UInt8}, (x.toList == l) = true → x = ⟨l.toArray⟩ := fun {x l} e => by
    rw [beq_iff_eq, ByteArray.toList_eq] at e
    exact ba_ext (by simpa using e)
  unfold Z.vld Z.hsz Z.hrd Z.hov at h
  simp only [Bool.and_eq_true, Bool.or_eq_true] at h
  obtain ⟨⟨g1, g2⟩, g3⟩ := h
  refine ⟨?_, ?_, ?_⟩
  · split at g1
    · rename_i e; exact .inl (bt e)
    · split at g1
      · rename_i e; exact .inr (bt e)
      · cases g1
  · rcases g2 with (e | e) | e
    · exact .inl (bt e)
    · exact .inr (.inl (bt e))
    · exact .inr (.inr (bt e))
  · rcases g3 with (e | e) | e
    · exact .inl (bt e)
    · exact .inr (.inr (bt e))
    · exact .inr (.inl (bt e.1))
/-- A text's bytes. -/
def tl (k r o : ByteArray) (i f : Nat) : List UInt8 := k.data.toList ++ 40 :: ((Lib.decDigits i ++ 44 :: (Lib.decDigits f ++ 44 :: (r.data.toList ++ 44 :: o.data.toList))) ++ [41])
theorem textB_l (k r o : ByteArray) (i f : Nat) : (Z.textB k r o i f).data.toList = tl k r o i f := by
  unfold Z.textB Z.joinB tl
  rw [ba_app, ba_app, ba_app, join4]
  simp
theorem txt_l {k r o : ByteArray} {i f : Nat} (h : Z.vld k r o i f = true) : (Z.txtQ k r o i f).data.toList = tl k r o i f := by
  unfold Z.txtQ
  rw [if_pos h]
  simpa using textB_l k r o i f
/-- What the program's Parse reads. -/
def qres (s : ByteArray) : Option (ByteArray × Int × Int × ByteArray × ByteArray) :=
  match splitL 44 (min 5 ((Lib.trimSuffix (Q.cut1 40 s.data.toList).2.1 [41]).length + 1) - 1) (Lib.trimSuffix (Q.cut1 40 s.data.toList).2.1 [41]) with
  | [a, b, d, e] => match okV (Lib.atoiAll a), okV (Lib.atoiAll b) with
    | some I, some F => if Z.vld ⟨(Q.cut1 40 s.data.toList).1.toArray⟩ ⟨d.toArray⟩ ⟨e.toArray⟩ I F = true ∧ Z.txtQ ⟨(Q.cut1 40 s.data.toList).1.toArray⟩ ⟨d.toArray⟩ ⟨e.toArray⟩ I F = s then some (⟨(Q.cut1 40 s.data.toList).1.toArray⟩, I, F, ⟨d.toArray⟩, ⟨e.toArray⟩) else none
    | _, _ => none
  | _ => none
def givePF (x : Option (ByteArray × Int × Int × ByteArray × ByteArray)) (K : ByteArray → Int → Int → ByteArray → ByteArray → Int → Option DV) : Option DV :=
  match x with | some (k, I, F, r, o) => K k I F r o 0 | none => K ⟨#[]⟩ 0 0 ⟨#[]⟩ ⟨#[]⟩ 3
theorem qres_sound {s : ByteArray} {k r o : ByteArray} {I F : Int} (h : qres s = some (k, I, F, r, o)) : Z.vld k r o I F = true ∧ Z.txtQ k r o I F = s := by
  unfold qres at h
  split at h <;> try (cases h; done)
  split at h <;> try (cases h; done)
  split at h <;> try (cases h; done)
  rename_i hh
  simp only [Option.some.injEq, Prod.mk.injEq] at h
  obtain ⟨rfl, rfl, rfl, rfl, rfl⟩ := h
  exact hh
theorem no_byte {k : ByteArray} {l : List UInt8} (h : k = ⟨l.toArray⟩) (c : UInt8) (hc : c ∉ l) : c ∉ k.data.toList := by
  rw [h]; simpa using hc
theorem qres_full {k r o : ByteArray} {I F : Int} (h : Z.vld k r o I F = true) : qres (Z.txtQ k r o I F) = some (k, I, F, r, o) := by
  obtain ⟨⟨i, f, rfl, rfl, hs⟩, hk, hr, ho⟩ := vld_fields h
  have k40 : (40 : UInt8) ∉ k.data.toList := by rcases hk with rfl | rfl <;> decide
  have r44 : (44 : UInt8) ∉ r.data.toList := by rcases hr with rfl | rfl | rfl <;> decide
  have o44 : (44 : UInt8) ∉ o.data.toList := by rcases ho with rfl | rfl | rfl <;> decide
  obtain ⟨a1, a2, _, _⟩ := dig_ok i (by omega)
  obtain ⟨b1, b2, _, _⟩ := dig_ok f (by omega)
  have ht := txt_l h
  unfold qres
  rw [ht]
  unfold tl
  rw [cut1_hit _ k40]
  simp only []
  rw [trim_hit]
  have hl : min 5 ((Lib.decDigits i ++ 44 :: (Lib.decDigits f ++ 44 :: (r.data.toList ++ 44 :: o.data.toList))).length + 1) - 1 = 4 := by
    have : 1 ≤ r.data.toList.length := by rcases hr with rfl | rfl | rfl <;> decide
    simp only [List.length_append, List.length_cons]
    omega
  rw [hl, split4 a2 b2 r44 o44]
  simp only [a1, b1, okV]
  have hk' : (⟨k.data.toList.toArray⟩ : ByteArray) = k := ba_ext (by simp)
  have hr' : (⟨r.data.toList.toArray⟩ : ByteArray) = r := ba_ext (by simp)
  have ho' : (⟨o.data.toList.toArray⟩ : ByteArray) = o := ba_ext (by simp)
  rw [hk', hr', ho', h]
  simp
theorem qres_empty : qres ⟨#[]⟩ = none := rfl
/-- Texts of valid formats are of one format. -/
theorem txt_inj {k r o k' r' o' : ByteArray} {I F I' F' : Int} (h : Z.vld k r o I F = true) (h' : Z.vld k' r' o' I' F' = true) (e : Z.txtQ k r o I F = Z.txtQ k' r' o' I' F') : (k, I, F, r, o) = (k', I', F', r', o') := by
  have h1 := qres_full h
  rw [e, qres_full h'] at h1
  exact (Option.some.inj h1).symm
theorem cond_bif_f (a b : Option DV) : (bif false then a else b) = b := rfl
theorem cond_bif_t (a b : Option DV) : (bif true then a else b) = a := rfl
theorem ld_s_one (x : ByteArray) (k : ByteArray → Option DV) : ld_s [.val (.string x)] 0 k = k x := rfl
theorem atoi_eq {l : List UInt8} (h : l.length ≤ 281474976710656) (k e : Int → Option DV) : strconv_Atoi ⟨l.toArray⟩ k e = match okV (Lib.atoiAll l) with | some v => k v | none => e (bif isR (Lib.atoiAll l) then Lib.atoiSat l else 0) := by
  unfold strconv_Atoi
  rw [decT (by rw [ba_size]; simpa using h)]
  cases okV (Lib.atoiAll l) <;> rfl
theorem cut_eq {s : ByteArray} (h : s.size ≤ 9223372036854775807) (K : ByteArray → ByteArray → Bool → Option DV) : strings_Cut s ⟨#[40]⟩ K = K ⟨(Q.cut1 40 s.data.toList).1.toArray⟩ ⟨(Q.cut1 40 s.data.toList).2.1.toArray⟩ (Q.cut1 40 s.data.toList).2.2 := by
  unfold strings_Cut; rw [decT ⟨rfl, h⟩]
theorem trim_eq {l : List UInt8} (h : l.length ≤ 9223372036854775807) (K : ByteArray → Option DV) : strings_TrimSuffix ⟨l.toArray⟩ ⟨#[41]⟩ K = K ⟨(Lib.trimSuffix l [41]).toArray⟩ := by
  unfold strings_TrimSuffix; rw [decT (by rw [ba_size]; simpa using h)]
theorem splitN_eq {l : List UInt8} (h : l.length < 4294967281) (K : List (List DV) → Option DV) : strings_SplitN ⟨l.toArray⟩ ⟨#[44]⟩ 5 K = K (((splitL 44 (min 5 (l.length + 1) - 1) l).map fun l => (⟨l.toArray⟩ : ByteArray)).map fun s => [.val (.string s)]) := by
  unfold strings_SplitN; rw [decT ⟨rfl, rfl, by rw [ba_size]; simpa using h⟩, splitB_L, ba_size]
theorem qparse_eq (s : ByteArray) (hs : s.size < 4294967281) (K : ByteArray → Int → Int → ByteArray → ByteArray → Int → Option DV) : quant_Parse s K = givePF (qres s) K := by
  have hsl : s.data.toList.length < 4294967281 := by rw [← ba_size]; exact hs
  have hc := cut1_len 40 s.data.toList
  have htl := trim_len (Q.cut1 40 s.data.toList).2.1 [41]
  unfold quant_Parse B_quant_Parse
  rw [cut_eq (by omega), trim_eq (by omega), splitN_eq (by omega)]
  unfold qres
  generalize Lib.trimSuffix (Q.cut1 40 s.data.toList).2.1 [41] = t at *
  have hsp := splitL_len 44 (min 5 (t.length + 1) - 1) t
  generalize splitL 44 (min 5 (t.length + 1) - 1) t = l at *
  have bad : ∀ l : List (List UInt8), l.length ≠ 4 → ((((((l.map fun l => (⟨l.toArray⟩ : ByteArray)).map fun s => [DV.val (.string s)]).length : Nat) : Int) != 4) = true) := by
    intro l h
    simp only [List.length_map, bne_iff_ne, ne_eq]
    omega
  match l, hsp with
  | [], _ => rw [bad [] (by decide)]; rfl
  | [a], _ => rw [bad [a] (by simp)]; rfl
  | [a, b], _ => rw [bad [a, b] (by simp)]; rfl
  | [a, b, d], _ => rw [bad [a, b, d] (by simp)]; rfl
  | a :: b :: d :: e :: g :: l, _ => rw [bad _ (by simp)]; rfl
  | [a, b, d, e], hsp =>
    have la : a.length ≤ 281474976710656 := by have := hsp a (by simp); omega
    have lb : b.length ≤ 281474976710656 := by have := hsp b (by simp); omega
    have L : (([a, b, d, e].map fun l => (⟨l.toArray⟩ : ByteArray)).map fun s => [DV.val (.string s)]) = [[DV.val (.string ⟨a.toArray⟩)], [DV.val (.string ⟨b.toArray⟩)], [DV.val (.string ⟨d.toArray⟩)], [DV.val (.string ⟨e.toArray⟩)]] := rfl
    have n4 : ((((([[DV.val (.string ⟨a.toArray⟩)], [DV.val (.string ⟨b.toArray⟩)], [DV.val (.string ⟨d.toArray⟩)], [DV.val (.string ⟨e.toArray⟩)]] : List (List DV)).length : Nat) : Int) != 4) = false) := by simp
    have g0 : ∀ k, (optE (([[DV.val (.string ⟨a.toArray⟩)], [DV.val (.string ⟨b.toArray⟩)], [DV.val (.string ⟨d.toArray⟩)], [DV.val (.string ⟨e.toArray⟩)]] : List (List DV))[Int.toNat 0]?) fun x => ld_s x 0 k) = k ⟨a.toArray⟩ := fun k => rfl
    have g1 : ∀ k, (optE (([[DV.val (.string ⟨a.toArray⟩)], [DV.val (.string ⟨b.toArray⟩)], [DV.val (.string ⟨d.toArray⟩)], [DV.val (.string ⟨e.toArray⟩)]] : List (List DV))[Int.toNat 1]?) fun x => ld_s x 0 k) = k ⟨b.toArray⟩ := fun k => rfl
    have g2 : ∀ k, (optE (([[DV.val (.string ⟨a.toArray⟩)], [DV.val (.string ⟨b.toArray⟩)], [DV.val (.string ⟨d.toArray⟩)], [DV.val (.string ⟨e.toArray⟩)]] : List (List DV))[Int.toNat 2]?) fun x => ld_s x 0 k) = k ⟨d.toArray⟩ := fun k => rfl
    have g3 : ∀ k, (optE (([[DV.val (.string ⟨a.toArray⟩)], [DV.val (.string ⟨b.toArray⟩)], [DV.val (.string ⟨d.toArray⟩)], [DV.val (.string ⟨e.toArray⟩)]] : List (List DV))[Int.toNat 3]?) fun x => ld_s x 0 k) = k ⟨e.toArray⟩ := fun k => rfl
    rw [L]
    simp only [n4, cond_bif_f, g0, g1, g2, g3, atoi_eq la, atoi_eq lb]
    cases ha : okV (Lib.atoiAll a) with
    | none => cases okV (Lib.atoiAll b) <;> rfl
    | some I =>
      cases hb' : okV (Lib.atoiAll b) with
      | none => rfl
      | some F =>
        have bI := Lib.atoiAll_bounds (okV_some ha)
        have bF := Lib.atoiAll_bounds (okV_some hb')
        simp only []
        unfold quant_Valid quant_Text
        rw [decT ⟨bI, bF⟩]
        generalize (⟨(Q.cut1 40 s.data.toList).1.toArray⟩ : ByteArray) = kk
        cases hv : Z.vld kk ⟨d.toArray⟩ ⟨e.toArray⟩ I F
        · simp only [Bool.not_false, Bool.not_true, cond_bif_f, Bool.false_eq_true, false_and, if_false, givePF]
        · simp only [ba_beq, Bool.not_true, Bool.not_false, cond_bif_t]
          rw [decT ⟨bI, bF⟩]
          by_cases hx : Z.txtQ kk ⟨d.toArray⟩ ⟨e.toArray⟩ I F = s
          · rw [decide_eq_true hx, if_pos ⟨trivial, hx⟩]; rfl
          · rw [decide_eq_false hx, if_neg (fun h => hx h.2)]; rfl
end Go.Proofs.YtpdklolfkigefaaDoor
