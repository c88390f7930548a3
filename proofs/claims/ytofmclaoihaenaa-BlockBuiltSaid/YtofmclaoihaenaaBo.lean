/-
  The law's own text: built diagrams are what the specification builds.
-/
import Derived.Test.YtofmclaoihaenaaBn
set_option linter.all false
namespace Go.Proofs.Ytofmclaoihaenaa
open Go Go.Pv Go.RowKit
theorem alike_self : ∀ l : List (Int × Int), alike l l = true
  | [] => rfl
  | q :: l => by simp [alike, alikeQ, alike_self l]
mutual
theorem BT.same_self : ∀ b : BT, b.same b = true
  | .mk op nm n m nums fk fi ff fr fo kids => by simp [BT.same, alike_self, BT.sameL_self kids]
theorem BT.sameL_self : ∀ l : List BT, BT.sameL l l = true
  | [] => rfl
  | b :: l => by simp [BT.sameL, BT.same_self b, BT.sameL_self l]
end
theorem i64_0 : i64 0 := by unfold i64; omega
theorem joinT_ok {op : ByteArray} {a b : BT} (ha : a.ok) (hb : b.ok) : (joinT op a b).ok := ⟨i64_0, i64_0, i64_0, i64_0, by decide, by simp, (by show 2 * 160 ≤ reachBytes; decide), ha, hb, trivial⟩
theorem joinT_depth (op : ByteArray) (a b : BT) : (joinT op a b).depth ≤ max a.depth b.depth + 1 := by simp only [joinT, BT.depth, BT.depthL]; omega
theorem foldl_ok (op : ByteArray) (M : Nat) : ∀ (r : List BT) (a : BT), a.ok → (∀ x ∈ r, x.ok ∧ x.depth ≤ M) → (r.foldl (joinT op) a).ok ∧ (r.foldl (joinT op) a).depth ≤ max a.depth M + r.length
  | [], a, ha, _ => ⟨ha, by simp; omega⟩
  | x :: r, a, ha, h => by
    have hx := h x (by simp)
    have ih := foldl_ok op M r (joinT op a x) (joinT_ok ha hx.1) (fun y hy => h y (List.mem_cons_of_mem _ hy))
    have := joinT_depth op a x
    refine ⟨ih.1, Nat.le_trans ih.2 ?_⟩
    simp only [List.length_cons]; omega
theorem noneT_ok : noneT.ok := ⟨i64_0, i64_0, i64_0, i64_0, by decide, by simp, by decide, trivial⟩
theorem foldB_ok (op : ByteArray) (M : Nat) (h1 : 1 ≤ M) : ∀ X : List BT, (∀ x ∈ X, x.ok ∧ x.depth ≤ M) → (foldB op X).ok ∧ (foldB op X).depth ≤ M + X.length
  | [], _ => ⟨noneT_ok, by simp [foldB, BT.depth, BT.depthL]; omega⟩
  | x :: xs, h => by
    have hx := h x (by simp)
    have := foldl_ok op M xs x hx.1 (fun y hy => h y (List.mem_cons_of_mem _ hy))
    exact ⟨this.1, Nat.le_trans this.2 (by simp only [List.length_cons]; omega)⟩
theorem wire_ok : wire.ok := ⟨i64_0, i64_0, i64_0, i64_0, by decide, by simp, by decide, trivial⟩
theorem wires_ok (a : Int) : (wiresT a).ok ∧ (wiresT a).depth ≤ 65 := by
  unfold wiresT
  split
  · have := foldB_ok ⟨#[112, 97, 114]⟩ 1 (Nat.le_refl _) (List.replicate a.toNat wire) (fun x hx => by
      have := List.eq_of_mem_replicate hx
      subst this
      exact ⟨wire_ok, by decide⟩)
    exact ⟨this.1, Nat.le_trans this.2 (by simp; omega)⟩
  · exact ⟨noneT_ok, by decide⟩
/-- Built on both sides, and held against one another. -/
theorem pair_same (f2 : F11 (F11 (KB → Option DV))) (A : BT) (hs : ∀ K : KB, BT.call2 f2 A A K = K true) (g1 g2 : F11 (Option DV) → Option DV) (h1 : ∀ K, g1 K = A.call K) (h2 : ∀ K, g2 K = A.call K) (K : KB) :
    g1 (fun r0 r1 r2 r3 r4 r5 r6 r7 r8 r9 r10 => g2 (fun s0 s1 s2 s3 s4 s5 s6 s7 s8 s9 s10 => f2 r0 r1 r2 r3 r4 r5 r6 r7 r8 r9 r10 s0 s1 s2 s3 s4 s5 s6 s7 s8 s9 s10 K)) = K true := by
  rw [h1]
  simp only [h2]
  exact (call_call f2 A A K).trans (hs K)
theorem join_pair (f2 : F11 (F11 (KB → Option DV))) (A : BT) (hs : ∀ K : KB, BT.call2 f2 A A K = K true) (f5 f4 : F11 (F11 (F11 (Option DV) → Option DV))) (x y : BT) (h5 : ∀ K, BT.call2 f5 x y K = A.call K) (h4 : ∀ K, BT.call2 f4 x y K = A.call K) (K : KB) :
    x.call (fun a0 a1 a2 a3 a4 a5 a6 a7 a8 a9 a10 => y.call (fun b0 b1 b2 b3 b4 b5 b6 b7 b8 b9 b10 => f5 a0 a1 a2 a3 a4 a5 a6 a7 a8 a9 a10 b0 b1 b2 b3 b4 b5 b6 b7 b8 b9 b10 (fun r0 r1 r2 r3 r4 r5 r6 r7 r8 r9 r10 => x.call (fun c0 c1 c2 c3 c4 c5 c6 c7 c8 c9 c10 => y.call (fun d0 d1 d2 d3 d4 d5 d6 d7 d8 d9 d10 => f4 c0 c1 c2 c3 c4 c5 c6 c7 c8 c9 c10 d0 d1 d2 d3 d4 d5 d6 d7 d8 d9 d10 (fun s0 s1 s2 s3 s4 s5 s6 s7 s8 s9 s10 => f2 r0 r1 r2 r3 r4 r5 r6 r7 r8 r9 r10 s0 s1 s2 s3 s4 s5 s6 s7 s8 s9 s10 K)))))) = K true := by
  cases x; cases y
  exact pair_same f2 A hs _ _ h5 h4 K
noncomputable abbrev FL4 (N : Nat) := F_serinettelaw05_BlockBuilt_l4 (serinettelaw05_awake N) (serinettelaw05_few N) (serinetteref05_Same N) (block_Same N) serinetteref05_Join (block_Join N) serinetteref05_Wires (block_Wires N) serinetteref05_Chain (block_Chain N) serinetteref05_Row (block_Row N) serinetteref05_Leaf block_Leaf serinetteref05_Num block_Num
noncomputable abbrev FL15 (N : Nat) := F_serinettelaw05_BlockBuilt_l15 (serinettelaw05_awake N) (serinettelaw05_few N) (serinetteref05_Same N) (block_Same N) serinetteref05_Join (block_Join N) serinetteref05_Wires (block_Wires N) serinetteref05_Chain (block_Chain N) serinetteref05_Row (block_Row N) serinetteref05_Leaf block_Leaf serinetteref05_Num block_Num
noncomputable abbrev FL12 (N : Nat) := F_serinettelaw05_BlockBuilt_l12 (serinettelaw05_awake N) (serinettelaw05_few N) (serinetteref05_Same N) (block_Same N) serinetteref05_Join (block_Join N) serinetteref05_Wires (block_Wires N) serinetteref05_Chain (block_Chain N) serinetteref05_Row (block_Row N) serinetteref05_Leaf block_Leaf serinetteref05_Num block_Num
theorem l4_loop (n N : Nat) (hN : N = n + 64) (X : List BT) (hl : X.length < 9223372036854775807) (hX : ∀ x ∈ X, x.ok ∧ x.depth ≤ N) (x0 : ByteArray) (x1 : Int) (x2 : List (List DV)) (x6 x7 : Int) (κ : _) :
    ∀ (r d : List BT), X = d ++ r → LF (FL4 N) (r.length + 1) (.h0 x0 x1 x2 (BT.cellsL X) (X.length : Nat) d.length x6 x7) κ = bx (r.all BT.few) (κ.2 x0 x1 x2 x6 x7) (κ.1 x0 x1 x2 true x6 x7)
  | [], d, hd => by
    simp only [LF, FL4, F_serinettelaw05_BlockBuilt_l4, B_serinettelaw05_BlockBuilt_l4_h0]
    have : decide ((d.length : Int) < (X.length : Int)) = false := by simp [hd]
    rw [this, bx_f]; rfl
  | q :: r, d, hd => by
    have hlx : X.length = d.length + r.length + 1 := by simp [hd]; omega
    have ih := l4_loop n N hN X hl hX x0 x1 x2 x6 x7 κ r (d ++ [q]) (by simp [hd])
    rw [show (q :: r).length + 1 = (r.length + 1) + 1 from rfl, LF]
    simp only [FL4, F_serinettelaw05_BlockBuilt_l4, B_serinettelaw05_BlockBuilt_l4_h0]
    have h1 : decide ((d.length : Int) < (X.length : Int)) = true := by simp; omega
    have h2 : decide (0 ≤ (d.length : Int)) = true := by simp
    have h3 : (BT.cellsL X)[Int.toNat (d.length : Int)]? = some q.cells := by simp [BT.cellsL_eq, hd]
    simp only [h1, h2, h3, bx_t, optE, ld_tree]
    rw [← callc, few_tree N q (hX q (by simp [hd])).1 (hX q (by simp [hd])).2]
    rw [wrap_next (by omega) (by omega), show (d.length : Int) + 1 = ((d ++ [q]).length : Nat) by simp]
    have ha : ∀ k : KB, serinettelaw05_awake N k = k true := fun k => by subst hN; exact awake_tree n k
    rw [ha]
    cases hq : q.few with
    | false => simp [hq, bx_t, bx_f]
    | true => simp only [hq, Bool.not_true, bx_f, List.all_cons, Bool.true_and]; exact ih
end Go.Proofs.Ytofmclaoihaenaa
