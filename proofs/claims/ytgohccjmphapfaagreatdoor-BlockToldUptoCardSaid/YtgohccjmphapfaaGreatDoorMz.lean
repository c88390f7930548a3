import Derived.Test.YtgohccjmphapfaaGreatDoorMv
import Derived.Test.YtgohccjmphapfaaGreatDoorGe
set_option linter.all false
noncomputable section
namespace Go.Proofs.YtgohccjmphapfaaGreatDoor
open Go Go.Pv Go.RowKit
set_option maxRecDepth 100000
theorem Wj5 : ∀ X : List (Int × Int), Wbc X X = true
 | [] => rfl
 | q :: X => by simp [Wbc, Wma, Wj5 X]
mutual
theorem Wm4 : ∀ b : BT, b.same b = true
 | .mk op name n m X fk fi ff fr fo kids => by
  simp [BT.same, Wj5, Wj6 kids]
theorem Wj6 : ∀ bs : List BT, BT.sameL bs bs = true
 | [] => rfl
 | b :: bs => by simp [BT.sameL, Wm4 b, Wj6 bs]
end
theorem Wsi {N : Nat} (b : BT) (hb : b.ok) (hv : b.vld = true) (hd : 4 * b.depth ≤ N) (k : W3z) :
  Kul N (bt b.txt) k = bx (decide ((b.txt.length : Int) > 8000)) (k ⟨#[]⟩ ⟨#[]⟩ 0 0 [] ⟨#[]⟩ 0 0 ⟨#[]⟩ ⟨#[]⟩ [] 4) (b.call fun op name n m X fk fi ff fr fo ks => k op name n m X fk fi ff fr fo ks 0) := by
 unfold Kul K80
 rw [Kd7]
 by_cases hl : (b.txt.length : Int) > 8000
 ·rw [decide_eq_true hl, bx_t, bx_t]
 rw [decide_eq_false hl, bx_f, bx_f]
 have hr := Wj4 N N b hv (by omega) b.txt [] (by rw [← List.append_nil b.txt]; simpa using Wu6 hv []) (.inl rfl) (by rw [List.append_nil]; exact ⟨W1i b hv, by omega⟩)
 have hvp := Kxx N N b hb hd
 rw [show Ktc N = Kfn N N from rfl, hr]
 obtain ⟨op, name, n, m, X, fk, fi, ff, fr, fo, kids⟩ := b
 simp only [BT.call] at hvp ⊢
 rw [Wkz, Wzt]
 simp only [Bool.not_false, bx_t]
 rw [show (ByteArray.toList (bt []) == ByteArray.toList (⟨#[]⟩ : W4w)) = true from by rw [show (⟨#[]⟩ : W4w) = bt [] from rfl]; simp]
 simp only [Bool.not_not, bx_t]
 rw [show Kjp N = Kps N N from rfl, hvp, hv]
 rfl
end Go.Proofs.YtgohccjmphapfaaGreatDoor
end

noncomputable section
namespace Go.Proofs.YtgohccjmphapfaaGreatDoor
open Go Go.Pv Go.RowKit
set_option maxRecDepth 100000
theorem Wo8 : ∀ (r acc : List BT), ∀ x ∈ nub acc r, x ∈ acc ∨ x ∈ r
 | [], acc, x, h => .inl h
 | y :: r, acc, x, h => by
  rw [nub] at h
  cases hc : acc.any (fun z => Krz z.nam y.nam) with
  | true =>
   rw [hc] at h
   rcases Wo8 r acc x h with h | h
   ·exact .inl h
   ·exact .inr (List.mem_cons_of_mem _ h)
  | false =>
   rw [hc] at h
   rcases Wo8 r (acc ++ [y]) x h with h | h
   ·rcases List.mem_append.1 h with h | h
    ·exact .inl h
    ·simp at h; exact .inr (by simp [h])
   ·exact .inr (List.mem_cons_of_mem _ h)
theorem Wxe (b : BT) : ∀ x ∈ b.knb.1, four x := by
 intro x hx
 unfold BT.knb at hx
 cases hc : (b.prt.2.2 != 0) with
 | true => rw [hc] at hx; cases hx
 | false =>
  rw [hc] at hx
  have hx' : x ∈ nub [] (b.pre.filter isK) := hx
  rcases Wo8 _ _ x hx' with h | h
  ·cases h
  ·obtain ⟨h3, h4⟩ := List.mem_filter.1 h
   exact Woy (BT.pre_vld b (Woz hc) x h3) h4
theorem W1l {x : BT} (h : four x) : ∃ a0 a1 a2 a3 a4 a5 a6 a7 a8 a9, ∀ k, K78 (knc x) 0 k = k a0 a1 a2 a3 a4 a5 a6 a7 a8 a9 := by
 obtain ⟨a, b, c, d, e⟩ := h
 refine ⟨x.nam, a.1, a.2, b.1, b.2, c.1, c.2, d.1, d.2, false, fun k => ?_⟩
 unfold knc
 rw [e]; rfl
section
variable (f0 : W4h) (f1 : W2f) (f2 : W2r) (f3 f4 : W2i) (f5 f6 f7 f8 : W2b) (f9 f10 f11 f12 : W17) (f13 f14 : W18) (f15 : W19)
 (x4 x5 : W4w) (x6 x7 : Int) (x8 : W4x) (x9 : W4w) (x10 x11 : Int) (x12 x13 : W4w) (x14 : W4x)
theorem Wm5 (K : List BT) (hK : ∀ x ∈ K, four x) (hl : K.length < 9223372036854775807) (κ) : ∀ (r d : List BT), K = d ++ r →
  LF (Kep f0 f1 f2 f3 f4 f5 f6 f7 f8 f9 f10 f11 f12 f13 f14 f15) (r.length + 1) (.h0 (K.map knc) (K.map knc) (K.length : Nat) d.length x4 x5 x6 x7 x8 x9 x10 x11 x12 x13 x14) κ = κ.2 x4 x5 x6 x7 x8 x9 x10 x11 x12 x13 x14
 | [], d, he => by
  rw [List.append_nil] at he
  subst he
  rw [show ([] : List BT).length + 1 = 0 + 1 from rfl, LF]
  simp only [Kep]
  rw [decide_eq_false (by omega), bx_f]
 | x :: r, d, he => by
  have hlen : K.length = d.length + r.length + 1 := by simp [he]; omega
  have h1 : decide ((d.length : Int) < ((K.length : Nat) : Int)) = true := by simp; omega
  have h2 : decide (0 ≤ (d.length : Int)) = true := by simp
  have h3 : (K.map knc)[Int.toNat (d.length : Int)]? = some (knc x) := by simp [he]
  have hw : IntKind.wrap .i64 ((d.length : Int) + 1) = ((d ++ [x]).length : Nat) := by rw [Kcp (by omega) (by omega)]; simp
  obtain ⟨a0, a1, a2, a3, a4, a5, a6, a7, a8, a9, hk⟩ := W1l (hK x (by simp [he]))
  rw [show (x :: r).length + 1 = (r.length + 1) + 1 from rfl, LF]
  simp only [Kep, h1, h2, h3, bx_t, optE]
  rw [hk, hk, hw]
  simp only [beq_self_eq_true, Bool.and_self, Bool.not_true, bx_f]
  exact Wm5 K hK hl κ r (d ++ [x]) (by simp [he])
theorem Wm6 (K : List BT) (hl : K.length < 9223372036854775807) (κ) : ∀ (r d : List BT), K = d ++ r →
  LF (Keq f0 f1 f2 f3 f4 f5 f6 f7 f8 f9 f10 f11 f12 f13 f14 f15) (r.length + 1) (.h0 (K.map namc) (K.map namc) (K.length : Nat) d.length x4 x5 x6 x7 x8 x9 x10 x11 x12 x13 x14) κ = κ.2 x4 x5 x6 x7 x8 x9 x10 x11 x12 x13 x14
 | [], d, he => by
  rw [List.append_nil] at he
  subst he
  rw [show ([] : List BT).length + 1 = 0 + 1 from rfl, LF]
  simp only [Keq]
  rw [decide_eq_false (by omega), bx_f]
 | x :: r, d, he => by
  have hlen : K.length = d.length + r.length + 1 := by simp [he]; omega
  have h1 : decide ((d.length : Int) < ((K.length : Nat) : Int)) = true := by simp; omega
  have h2 : decide (0 ≤ (d.length : Int)) = true := by simp
  have h3 : (K.map namc)[Int.toNat (d.length : Int)]? = some (namc x) := by simp [he]
  have hw : IntKind.wrap .i64 ((d.length : Int) + 1) = ((d ++ [x]).length : Nat) := by rw [Kcp (by omega) (by omega)]; simp
  have hk : ∀ k : KT, ld_s (namc x) 0 k = k x.nam := fun k => rfl
  rw [show (x :: r).length + 1 = (r.length + 1) + 1 from rfl, LF]
  simp only [Keq, h1, h2, h3, bx_t, optE]
  rw [hk, hk, hw]
  simp only [beq_self_eq_true, Bool.not_true, bx_f]
  exact Wm6 K hl κ r (d ++ [x]) (by simp [he])
end
end Go.Proofs.YtgohccjmphapfaaGreatDoor
end

noncomputable section
namespace Go.Proofs.YtgohccjmphapfaaGreatDoor
open Go Go.Pv Go.RowKit
set_option maxRecDepth 100000
theorem Kxz (a : Int) : (a != a) = false := by simp
theorem Wu7 (n N : Nat) (hN : N = n + 64) (b : BT) (hok : b.ok) (hnk : b.nok) (hd : 4 * b.depth ≤ N) (hp : b.pre.length ≤ 1048576) (k : KB) : b.call (Kxv N) k = k true := by
 have hf : Kh7 b.pre.length := by unfold Kh7; omega
 have haw : ∀ k, Kh6 k = k true := fun _ => rfl
 have hfew := Ww2 N b hok (by omega)
 have hpp := Weg N b hok hd hf
 have hpr := Wg6 N b hok hnk (by omega) hf
 have hsp := K9u N N b hok (by omega)
 have hsr := Wc1 N N b hok (by omega)
 have hdp := K7s N N b hok (by omega)
 have hdr := Krx N N b hok (by omega)
 have hkp := Wsf N b hok hd hf
 have hkr := Wui N b hok hnk (by omega) hf
 have hhp := Wse N b hok hd hf
 have hhr := Wue N b hok hnk (by omega) hf
 have htl : b.vld = true → b.txt.length ≤ 140737488355328 := fun hv => by have := Wuu b hv; omega
 have htp := Wur (N := N) b hok hnk hd htl
 have htr := Ww4 (N := N) (by omega) b hok hnk (by omega) htl
 have hpa := fun hv => Wsi (N := N) b hok hv hd
 have hsm := fun k : KB => Wqf N N b b hok hok (by omega) k
 have h4 := Wxe b
 have hkl : b.knb.1.length < 9223372036854775807 := by
  unfold BT.knb
  cases hc : (b.prt.2.2 != 0) with
  | true => show (0 : Nat) < _; omega
  | false =>
   show (nub [] (b.pre.filter isK)).length < _
   have h1 := Wox (b.pre.filter isK) []
   have h2 := List.length_filter_le isK b.pre
   simp at h1
   omega
 have hsl : b.shw.1.length < 9223372036854775807 := by
  unfold BT.shw
  cases hc : (b.prt.2.2 != 0) with
  | true => show (0 : Nat) < _; omega
  | false =>
   show (b.pre.filter isS).length < _
   have h2 := List.length_filter_le isS b.pre
   omega
 generalize b.knb = KN at *
 generalize b.shw = SN at *
 generalize b.prt = PR at *
 generalize b.size = SZ at *
 generalize b.dep = DP at *
 generalize b.sht = SH at *
 generalize b.vld = VL at *
 generalize b.txt = TX at *
 rw [Wm4 b] at hsm
 clear hok hnk hd hp hf
 obtain ⟨op, name, nn, m, X, fk, fi, ff, fr, fo, kids⟩ := b
 simp only [BT.call, BT.call2] at hfew hpp hpr hsp hsr hdp hdr hkp hkr hhp hhr htp htr hpa hsm ⊢
 show Kj8 Kh6 (Ke1 N N) (Kul N) (Kxt N) (Khv N) (Kw7 N) (Kh9 N) (Kw6 N) (Kh8 N) (Kfb N N) (Kn2 N N) (Kf2 N N) (Kqh N N) (Khr N) (Kcb N) (Kjj N) op name nn m (X.map qpc) fk fi ff fr fo (BT.cellsL kids) k = _
 generalize X.map qpc = XC at *
 generalize BT.cellsL kids = KC at *
 unfold Kj8
 rw [hfew]
 cases (!decide (SZ > 700) && SH) with
 | false => rw [Bool.not_false, bx_t, haw]
 | true =>
 rw [Bool.not_true, bx_f, hpr, app3]
 rw [hpp, app3]
 simp only [Kxz, Bool.not_false, bx_t]
 rw [hsp, hsr, Kxz, Bool.not_false, bx_t, hdp, hdr, Kxz, bx_f]
 rw [hkr, hkp, Kxz, Bool.not_false, bx_t, Kxz, bx_f]
 have φ1 : Kft (.h0 (KN.1.map knc) (KN.1.map knc) (((KN.1.map knc).length : Nat) : Int) 0 op name nn m XC fk fi ff fr fo KC) = KN.1.length + 1 := by simp [Kft]
 rw [φ1, List.length_map]
 refine (Wm5 _ _ _ _ _ _ _ _ _ _ _ _ _ _ _ _ _ _ _ _ _ _ _ _ _ _ _ KN.1 h4 hkl _ KN.1 [] rfl).trans ?_
 simp only []
 rw [hhr, hhp, Kxz, Bool.not_false, bx_t, Kxz, bx_f]
 have φ2 : Kfu (.h0 (SN.1.map namc) (SN.1.map namc) (((SN.1.map namc).length : Nat) : Int) 0 op name nn m XC fk fi ff fr fo KC) = SN.1.length + 1 := by simp [Kfu]
 rw [φ2, List.length_map]
 refine (Wm6 _ _ _ _ _ _ _ _ _ _ _ _ _ _ _ _ _ _ _ _ _ _ _ _ _ _ _ SN.1 hsl _ SN.1 [] rfl).trans ?_
 simp only []
 rw [htr]
 cases VL with
 | false =>
  rw [bx_f, htp, bx_f]
  rw [Kxz, Bool.not_false, bx_t, beq_self_eq_true, Bool.not_true, bx_f]
  rw [show ((2 : Int) != 0) = true from rfl, bx_t, haw]
 | true =>
  rw [bx_t, htp, bx_t]
  rw [Kxz, Bool.not_false, bx_t, beq_self_eq_true, Bool.not_true, bx_f]
  rw [bx_f, hpa rfl, Kd7]
  cases decide ((TX.length : Int) > 8000) with
  | true =>
   rw [bx_t, bx_t]
   rw [show (!((4 : Int) == 4)) = false from rfl, bx_f, haw]
  | false =>
   rw [bx_f, bx_f]
   rw [show ((0 : Int) == 0) = true from rfl, bx_t, hsm, bx_t, haw]
end Go.Proofs.YtgohccjmphapfaaGreatDoor
end

noncomputable section
namespace Go.Proofs.YtgohccjmphapfaaGreatDoor
open Go Go.Pv Go.RowKit
theorem Wz0 {U : Nat → Prop} {w : World} {cs : List DV} {vs : List Value} (h : CR U w cs vs) : DRep U w (.agg cs) (.agg vs.toArray) := .agg (by simpa using h.1) (fun i x v e1 e2 => h.2 i x v e1 (by simpa using e2))
theorem Wxf (b : BT) (hb : b.ok) (hn : b.nok) (hp : b.pre.length ≤ 1048576) (vs : List Value) (w : World) (hI : Inv w) (h0 : CR (fun k => k < w.heap.size) w b.cells vs) :
  Calls Tryz.prog 3 #[.agg vs.toArray] w fun e w' => e = .returned (.bool true) ∧ Below w.heap.size w w' := by
 have hr := Wu7 (4 * b.depth) _ rfl b hb hn (by omega) hp
 have h := K4p (4 * b.depth + 64) [.agg b.cells] some (.val (.bool true)) (by
  obtain ⟨op, nm, nn, m, nums, fk, fi, ff, fr, fo, kids⟩ := b
  exact hr fun r => some (.val (.bool r)))
 obtain ⟨_, d, hd, _, hcall⟩ := h
 cases hd
 refine (hcall (fun k => k < w.heap.size) w _ hI (fun _ h => h) rfl ?_).mono fun e w' ⟨v, he, hb, hr⟩ => ⟨by rw [he, Ksd hr], hb⟩
 intro i d v' e1 e2
 match i with
 | 0 => simp at e1 e2; subst e1; subst e2; exact Wz0 h0
 | i + 1 => simp at e1
end Go.Proofs.YtgohccjmphapfaaGreatDoor
end
