import Derived.Test.YtgohccjmphapfaaGreatDoorJl
set_option linter.all false
noncomputable section
namespace Go.Proofs.YtgohccjmphapfaaGreatDoor
open Go Go.Pv Go.RowKit
mutual
theorem BT.pre_vld : ∀ b : BT, b.vld = true → ∀ x ∈ b.pre, x.vld = true
 | .mk op name n m nums fk fi ff fr fo kids, h, x, hx => by
  rw [BT.pre] at hx
  rcases List.mem_cons.1 hx with rfl | hx
  ·exact h
  ·rw [BT.vld, Bool.and_eq_true] at h
   exact BT.preL_vld kids h.2 x hx
theorem BT.preL_vld : ∀ bs : List BT, BT.vldL bs = true → ∀ x ∈ BT.preL bs, x.vld = true
 | [], _, x, hx => by rw [BT.preL] at hx; cases hx
 | b :: bs, h, x, hx => by
  rw [BT.vldL, Bool.and_eq_true] at h
  rw [BT.preL] at hx
  rcases List.mem_append.1 hx with hx | hx
  ·exact BT.pre_vld b h.1 x hx
  ·exact BT.preL_vld bs h.2 x hx
end
mutual
theorem BT.pre_ok : ∀ b : BT, b.ok → ∀ x ∈ b.pre, x.ok
 | .mk op name n m nums fk fi ff fr fo kids, h, x, hx => by
  rw [BT.pre] at hx
  rcases List.mem_cons.1 hx with rfl | hx
  ·exact h
  ·exact BT.preL_ok kids h.2.2.2.2.2.2.2 x hx
theorem BT.preL_ok : ∀ bs : List BT, BT.okL bs → ∀ x ∈ BT.preL bs, x.ok
 | [], _, x, hx => by rw [BT.preL] at hx; cases hx
 | b :: bs, h, x, hx => by
  rw [BT.preL] at hx
  rcases List.mem_append.1 hx with hx | hx
  ·exact BT.pre_ok b h.1 x hx
  ·exact BT.preL_ok bs h.2 x hx
end
theorem BT.num_small {b : BT} (h : b.ok) : b.num.length < 9223372036854775807 := by
 obtain ⟨op, name, n, m, nums, fk, fi, ff, fr, fo, kids⟩ := b
 have h1 : nums.length * 16 ≤ reachBytes := h.2.2.2.2.1
 have hr : reachBytes < 9223372036854775807 := by decide
 show nums.length < _
 omega
theorem K2z {n : Nat} (h : Kh7 n) : n < 9223372036854775807 := by unfold Kh7 at h; omega
def BT.alone (b : BT) : Bool := @decide (b.pre.Pairwise Rb) (Classical.propDecidable _)
theorem BT.alone_t {b : BT} (h : b.pre.Pairwise Rb) : b.alone = true := @decide_eq_true _ (Classical.propDecidable _) h
theorem BT.alone_f {b : BT} (h : ¬ b.pre.Pairwise Rb) : b.alone = false := @decide_eq_false _ (Classical.propDecidable _) h
theorem W07 (b : BT) : b.hav (ByteArray.toList ⟨#[107, 110, 111, 98]⟩) = b.pre.filter isK := by rw [BT.hav_pre, show ByteArray.toList ⟨#[107, 110, 111, 98]⟩ = [107, 110, 111, 98] from tl _]; rfl
theorem W08 (b : BT) : b.hav (ByteArray.toList ⟨#[115, 104, 111, 119]⟩) = b.pre.filter isS := by rw [BT.hav_pre, show ByteArray.toList ⟨#[115, 104, 111, 119]⟩ = [115, 104, 111, 119] from tl _]; rfl
theorem Wsd (N : Nat) (b : BT) (hok : b.ok) (hv : b.vld = true) (hd : b.depth ≤ N) (hf : Kh7 b.pre.length) (k : KB) : b.call (Kkg N) k = k b.alone := by
 have hW : ∀ x ∈ b.pre, W x := fun x hx => W_of (BT.pre_vld b hv x hx)
 have hiff := Wt7 hW
 have hK := K22 N ⟨#[107, 110, 111, 98]⟩ N b hok hd hf
 have hS := K22 N ⟨#[115, 104, 111, 119]⟩ N b hok hd hf
 rw [W07] at hK
 rw [W08] at hS
 have hnum : ∀ x ∈ b.pre, x.num.length < 9223372036854775807 := fun x hx => BT.num_small (BT.pre_ok b hok x hx)
 have hfs := K2z hf
 have hkl : (b.pre.filter isK).length < 9223372036854775807 := Nat.lt_of_le_of_lt (List.length_filter_le _ _) hfs
 have hsl : (b.pre.filter isS).length < 9223372036854775807 := Nat.lt_of_le_of_lt (List.length_filter_le _ _) hfs
 obtain ⟨op, name, n, m, nums, fk, fi, ff, fr, fo, kids⟩ := b
 have hK' : ∀ k : List (List DV) → Option DV, Keb N ⟨#[107, 110, 111, 98]⟩ op name n m (nums.map qpc) fk fi ff fr fo (BT.cellsL kids) k = k (((BT.mk op name n m nums fk fi ff fr fo kids).pre.filter isK).map BT.cells) := hK
 have hS' : ∀ k : List (List DV) → Option DV, Keb N ⟨#[115, 104, 111, 119]⟩ op name n m (nums.map qpc) fk fi ff fr fo (BT.cellsL kids) k = k (((BT.mk op name n m nums fk fi ff fr fo kids).pre.filter isS).map BT.cells) := hS
 show Kqz Kbc (Keb N) op name n m (nums.map qpc) fk fi ff fr fo (BT.cellsL kids) k = _
 unfold Kqz
 rw [hK']
 generalize hKs : (BT.mk op name n m nums fk fi ff fr fo kids).pre.filter isK = Ks at *
 generalize hSs : (BT.mk op name n m nums fk fi ff fr fo kids).pre.filter isS = Ss at *
 have hkn : ∀ x ∈ Ks, x.num.length < 9223372036854775807 := fun x hx => hnum x (by rw [← hKs] at hx; exact (List.mem_filter.1 hx).1)
 have hφ : Kjr (Kc8.h0 (Ks.map BT.cells) ((List.length (Ks.map BT.cells) : Nat) : Int) 0 op name n m (nums.map qpc) fk fi ff fr fo (BT.cellsL kids) ([] : List (ByteArray × DV))) = Ks.length + 1 := by simp [Kjr]
 have hinv : Inv1 [] [] := fun s => .inl ⟨rfl, fun y hy => by cases hy⟩
 have hinv2 : Inv2 [] [] := fun s => .inl ⟨rfl, fun y hy => by cases hy⟩
 rw [hφ, List.length_map]
 rcases Wov (Keb N) op name n m (nums.map qpc) fk fi ff fr fo (BT.cellsL kids) Ks hkl hkn (((fun z17_0 z17_1 z17_2 z17_3 z17_4 z17_5 z17_6 z17_7 z17_8 z17_9 z17_10 z17_11 z17_12 => k z17_0), (fun z18_0 z18_1 z18_2 z18_3 z18_4 z18_5 z18_6 z18_7 z18_8 z18_9 z18_10 z18_11 => Keb N (⟨#[115, 104, 111, 119]⟩) z18_0 z18_1 z18_2 z18_3 z18_4 z18_5 z18_6 z18_7 z18_8 z18_9 z18_10 (fun r19 => LF (Kdz Kbc (Keb N)) (Khh (Kb5.h0 r19 (r19.length : Int) 0 z18_11 ([] : List (ByteArray × DV)))) (Kb5.h0 r19 (r19.length : Int) 0 z18_11 ([] : List (ByteArray × DV))) ((fun z36_0 => k z36_0), (k true)))))) Ks [] [] rfl List.Pairwise.nil hinv with ⟨hp, T, hT, hr⟩ | ⟨hp, T, hr⟩
 ·refine Eq.trans hr ?_
  simp only [hS']
  have hφ2 : Khh (Kb5.h0 (Ss.map BT.cells) ((List.length (Ss.map BT.cells) : Nat) : Int) 0 T ([] : List (ByteArray × DV))) = Ss.length + 1 := by simp [Khh]
  rw [hφ2, List.length_map]
  rcases Wt5 Kbc (Keb N) Ks Ss hsl T hT ((fun z36_0 => k z36_0), (k true)) Ss [] [] rfl List.Pairwise.nil (fun x hx => by cases hx) hinv2 with ⟨hp2, hr2⟩ | ⟨hp2, hr2⟩
  ·refine Eq.trans hr2 ?_
   rw [BT.alone_t (hiff.2 ⟨hp, hp2⟩)]
  ·refine Eq.trans hr2 ?_
   rw [BT.alone_f (fun h => hp2 (hiff.1 h).2)]
 ·refine Eq.trans hr ?_
  rw [BT.alone_f (fun h => hp (hiff.1 h).1)]
theorem Wt8 (N : Nat) (b : BT) (hok : b.ok) (hd : b.depth ≤ N) (hf : Kh7 b.pre.length) (k : KB) : b.call (Kjt N) k = k (!b.alone) := by
 have hK := Wc6 N N b hok hd hf
 have hnum : ∀ x ∈ b.pre, x.num.length < 9223372036854775807 := fun x hx => BT.num_small (BT.pre_ok b hok x hx)
 have hfs := K2z hf
 obtain ⟨op, name, n, m, nums, fk, fi, ff, fr, fo, kids⟩ := b
 have hK' : ∀ k : List (List DV) → Option DV, Kbv N op name n m (nums.map qpc) fk fi ff fr fo (BT.cellsL kids) k = k ((BT.mk op name n m nums fk fi ff fr fo kids).pre.map BT.cells) := hK
 show Knh Kaz (Kbv N) op name n m (nums.map qpc) fk fi ff fr fo (BT.cellsL kids) k = _
 unfold Knh
 rw [hK']
 have hφ : Kh4 (Kcr.h0 ((BT.mk op name n m nums fk fi ff fr fo kids).pre.map BT.cells) 0) = (BT.mk op name n m nums fk fi ff fr fo kids).pre.length + 1 := by simp [Kh4]
 rw [hφ]
 rcases Wqp (Kbv N) (BT.mk op name n m nums fk fi ff fr fo kids).pre hfs hnum ((fun z29_0 => k z29_0), (k false)) (BT.mk op name n m nums fk fi ff fr fo kids).pre [] rfl List.Pairwise.nil with ⟨hp, hr⟩ | ⟨hp, hr⟩
 ·refine Eq.trans hr ?_
  rw [BT.alone_t hp]; rfl
 ·refine Eq.trans hr ?_
  rw [BT.alone_f hp]; rfl
def BT.prt (b : BT) : T3 := bif !b.vld then (0, 0, 2) else bif decide (b.size > 600) || decide (b.dep > 60) then (0, 0, 4) else bif b.cnt.2.2 != 0 then (0, 0, b.cnt.2.2) else bif b.alone then (b.cnt.1, b.cnt.2.1, 0) else (0, 0, 8)
theorem Weg (N : Nat) (b : BT) (hok : b.ok) (hd : 4 * b.depth ≤ N) (hf : Kh7 b.pre.length) (k : W24) : b.call (Khr N) k = app3 b.prt k := by
 have h1 := Kxx N N b hok hd
 have h2 := K9u N N b hok (by omega)
 have h3 := K7s N N b hok (by omega)
 have h4 : b.vld = true → ∀ k, b.call (Khq N N) k = app3 b.cnt k := fun hv => Wql N N b hv (by omega)
 have h5 : b.vld = true → ∀ k, b.call (Kkg N) k = k b.alone := fun hv => Wsd N b hok hv (by omega) hf
 unfold BT.prt
 obtain ⟨op, name, n, m, nums, fk, fi, ff, fr, fo, kids⟩ := b
 generalize (BT.mk op name n m nums fk fi ff fr fo kids).vld = v at *
 generalize (BT.mk op name n m nums fk fi ff fr fo kids).size = sz at *
 generalize (BT.mk op name n m nums fk fi ff fr fo kids).dep = dp at *
 generalize (BT.mk op name n m nums fk fi ff fr fo kids).cnt = ct at *
 generalize (BT.mk op name n m nums fk fi ff fr fo kids).alone = al at *
 have h1' : ∀ k : KB, Kjp N op name n m (nums.map qpc) fk fi ff fr fo (BT.cellsL kids) k = k v := h1
 have h2' : ∀ k : KI, Kun N op name n m (nums.map qpc) fk fi ff fr fo (BT.cellsL kids) k = k sz := h2
 have h3' : ∀ k : KI, Kqq N op name n m (nums.map qpc) fk fi ff fr fo (BT.cellsL kids) k = k dp := h3
 have h4' : v = true → ∀ k : Int → Int → Int → Option DV, Kyn N op name n m (nums.map qpc) fk fi ff fr fo (BT.cellsL kids) k = app3 ct k := h4
 have h5' : v = true → ∀ k : KB, Kkg N op name n m (nums.map qpc) fk fi ff fr fo (BT.cellsL kids) k = k al := h5
 show K2n (Kkg N) (Kyn N) (Kqq N) (Kun N) (Kjp N) op name n m (nums.map qpc) fk fi ff fr fo (BT.cellsL kids) k = _
 unfold K2n
 rw [h1']
 cases v with
 | false => rfl
 | true =>
  rw [Bool.not_true, bx_f, h2']
  cases decide (sz > 600) with
  | true => rfl
  | false =>
   rw [Bool.not_false, bx_t, h3']
   cases decide (dp > 60) with
   | true => rfl
   | false =>
    rw [bx_f, h4' rfl, app3]
    cases hc : (ct.2.2 != 0) with
    | true => simp [hc, bx_t, app3]
    | false =>
     rw [bx_f, h5' rfl]
     cases al <;> simp [hc, bx_t, bx_f, app3]
theorem Wg6 (N : Nat) (b : BT) (hok : b.ok) (hnk : b.nok) (hd : b.depth ≤ N) (hf : Kh7 b.pre.length) (k : W24) : b.call (Kcb N) k = app3 b.prt k := by
 have h1 := K5c N N b hok hnk hd
 have h2 := Wc1 N N b hok hd
 have h3 := Krx N N b hok hd
 have h4 : b.vld = true → ∀ k, b.call (Kds N N) k = app3 b.cnt k := fun hv => Wt4 N N b hv hd
 have h5 := Wt8 N b hok hd hf
 unfold BT.prt
 obtain ⟨op, name, n, m, nums, fk, fi, ff, fr, fo, kids⟩ := b
 generalize (BT.mk op name n m nums fk fi ff fr fo kids).vld = v at *
 generalize (BT.mk op name n m nums fk fi ff fr fo kids).size = sz at *
 generalize (BT.mk op name n m nums fk fi ff fr fo kids).dep = dp at *
 generalize (BT.mk op name n m nums fk fi ff fr fo kids).cnt = ct at *
 generalize (BT.mk op name n m nums fk fi ff fr fo kids).alone = al at *
 have h1' : ∀ k : KB, Kgx N op name n m (nums.map qpc) fk fi ff fr fo (BT.cellsL kids) k = k v := h1
 have h2' : ∀ k : KI, Kdv N op name n m (nums.map qpc) fk fi ff fr fo (BT.cellsL kids) k = k sz := h2
 have h3' : ∀ k : KI, Kfh N op name n m (nums.map qpc) fk fi ff fr fo (BT.cellsL kids) k = k dp := h3
 have h4' : v = true → ∀ k : Int → Int → Int → Option DV, Kl2 N op name n m (nums.map qpc) fk fi ff fr fo (BT.cellsL kids) k = app3 ct k := h4
 have h5' : ∀ k : KB, Kjt N op name n m (nums.map qpc) fk fi ff fr fo (BT.cellsL kids) k = k (!al) := h5
 show Kni (Kjt N) (Kl2 N) (Kfh N) (Kdv N) (Kgx N) op name n m (nums.map qpc) fk fi ff fr fo (BT.cellsL kids) k = _
 unfold Kni
 rw [h1']
 cases v with
 | false => rfl
 | true =>
  rw [Bool.not_true, bx_f, h2']
  cases decide (sz > 600) with
  | true => rfl
  | false =>
   rw [Bool.not_false, bx_t, h3']
   cases decide (dp > 60) with
   | true => rfl
   | false =>
    rw [bx_f, h4' rfl, app3]
    cases hc : (ct.2.2 != 0) with
    | true => simp [hc, bx_t, app3]
    | false =>
     rw [bx_f, h5']
     cases al <;> simp [hc, bx_t, bx_f, app3]
end Go.Proofs.YtgohccjmphapfaaGreatDoor
end

noncomputable section
namespace Go.Proofs.YtgohccjmphapfaaGreatDoor
open Go Go.Pv Go.RowKit Go.ChangeShapes Go.WideShapes Go.ChangeAt Go.Joins
theorem BT.okLn_of : ∀ gs : List { b : BT // b.ok ∧ b.nok }, BT.okL (gs.map (·.1))
 | [] => trivial
 | g :: gs => ⟨g.2.1, BT.okLn_of gs⟩
theorem BT.nokL_of : ∀ gs : List { b : BT // b.ok ∧ b.nok }, BT.nokL (gs.map (·.1))
 | [] => trivial
 | g :: gs => ⟨g.2.2, BT.nokL_of gs⟩
theorem Wt9 {H : Type} {P : Program} {t : TypeId} {s : ByteArray} (h : Wbb (H := H) P t (.lit (.string s.data.toList))) : s.size ≤ reachBytes := by
 have := h s.data.toList.length (by simp [DataW.weights])
 simpa using this
end Go.Proofs.YtgohccjmphapfaaGreatDoor
end
