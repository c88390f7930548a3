/-
  BlockBuilt comes out true, whatever the trees.
-/
import Derived.Test.YtofmclaoihaenaaBq
set_option linter.all false
namespace Go.Proofs.Ytofmclaoihaenaa
open Go Go.Pv Go.RowKit
def numT (a b : Int) : BT := .mk ⟨#[110, 117, 109]⟩ ⟨#[]⟩ 0 0 [(a, b)] ⟨#[]⟩ 0 0 ⟨#[]⟩ ⟨#[]⟩ []
def leafT (op : ByteArray) : BT := .mk op ⟨#[]⟩ 0 0 [] ⟨#[]⟩ 0 0 ⟨#[]⟩ ⟨#[]⟩ []
theorem numT_ok {a b : Int} (ha : i64 a) (hb : i64 b) : (numT a b).ok := ⟨i64_0, i64_0, i64_0, i64_0, (by show 1 * 16 ≤ reachBytes; decide), (by intro q hq; simp at hq; subst hq; exact ⟨ha, hb⟩), by decide, trivial⟩
theorem leafT_ok (op : ByteArray) : (leafT op).ok := ⟨i64_0, i64_0, i64_0, i64_0, by decide, by simp, by decide, trivial⟩
theorem built_true (n N M : Nat) (hN : N = n + 64) (X : List BT) (hl : X.length < 4611686018427387904) (hX : ∀ x ∈ X, x.ok ∧ x.depth ≤ M) (h1M : 1 ≤ M) (hM : 2 * (M + X.length) + 200 ≤ N) (op : ByteArray) (a b nn : Int) (ha : i64 a) (hb : i64 b) (k : KB) :
    serinettelaw05_BlockBuilt N op a b nn (BT.cellsL X) k = k true := by
  have hw : ∀ k : KB, serinettelaw05_awake N k = k true := fun k => by subst hN; exact awake_tree n k
  have hself : ∀ (A : BT), A.ok → A.depth ≤ N → ∀ K : KB, BT.call2 (serinetteref05_Same N) A A K = K true := fun A h1 h2 K => by rw [same_r N A A h1 h1 h2, BT.same_self]
  have hXN : ∀ x ∈ X, x.ok ∧ x.depth ≤ N := fun x hx => ⟨(hX x hx).1, by have := (hX x hx).2; omega⟩
  have hrow := foldB_ok ⟨#[112, 97, 114]⟩ M h1M X hX
  have hchain := foldB_ok ⟨#[115, 101, 113]⟩ M h1M X hX
  have hwires := wires_ok nn
  have hkl : (BT.cellsL X).length = X.length := by simp [BT.cellsL_eq]
  unfold serinettelaw05_BlockBuilt B_serinettelaw05_BlockBuilt
  cases decide (((ByteArray.size op : Nat) : Int) > 100) with
  | true => simp only [Bool.not_true, bx_f]; exact hw _
  | false =>
  simp only [Bool.not_false, bx_t]
  cases decide ((((BT.cellsL X).length : Nat) : Int) > 20) with
  | true => simp only [bx_t]; exact hw _
  | false =>
  simp only [bx_f]
  have hf4 : φ_serinettelaw05_BlockBuilt_l4 (.h0 op nn (BT.cellsL X) (BT.cellsL X) (X.length : Nat) 0 a b) = X.length + 1 := by simp [φ_serinettelaw05_BlockBuilt_l4]
  have hf12 : φ_serinettelaw05_BlockBuilt_l12 (.h0 op (BT.cellsL X) (X.length : Nat) 0) = X.length + 1 := by simp [φ_serinettelaw05_BlockBuilt_l12]
  rw [hkl, hf4]
  refine Eq.trans (l4_loop n N hN X (by omega) hXN op nn (BT.cellsL X) a b _ X [] rfl) ?_
  cases X.all BT.few with
  | false => rfl
  | true =>
  simp only [bx_t]
  refine Eq.trans (pair_same (serinetteref05_Same N) (numT a b) (hself _ (numT_ok ha hb) (by show 0 + 1 ≤ N; omega)) (block_Num a b) (serinetteref05_Num a b) (fun _ => rfl) (fun _ => rfl) _) ?_
  simp only [Bool.not_not, bx_t]
  refine Eq.trans (pair_same (serinetteref05_Same N) (leafT op) (hself _ (leafT_ok op) (by show 0 + 1 ≤ N; omega)) (block_Leaf op) (serinetteref05_Leaf op) (fun _ => rfl) (fun _ => rfl) _) ?_
  simp only [Bool.not_not, bx_t]
  refine Eq.trans (pair_same (serinetteref05_Same N) (foldB ⟨#[112, 97, 114]⟩ X) (hself _ hrow.1 (by omega)) (block_Row N (BT.cellsL X)) (serinetteref05_Row (BT.cellsL X)) (fun K => joined_prog N ⟨#[112, 97, 114]⟩ X (by omega) hXN K) (fun K => all_ref ⟨#[112, 97, 114]⟩ X (by omega) K) _) ?_
  simp only [Bool.not_not, bx_t]
  refine Eq.trans (pair_same (serinetteref05_Same N) (foldB ⟨#[115, 101, 113]⟩ X) (hself _ hchain.1 (by omega)) (block_Chain N (BT.cellsL X)) (serinetteref05_Chain (BT.cellsL X)) (fun K => joined_prog N ⟨#[115, 101, 113]⟩ X (by omega) hXN K) (fun K => all_ref ⟨#[115, 101, 113]⟩ X (by omega) K) _) ?_
  simp only [Bool.not_not, bx_t]
  refine Eq.trans (pair_same (serinetteref05_Same N) (wiresT nn) (hself _ hwires.1 (by omega)) (block_Wires N nn) (serinetteref05_Wires nn) (fun K => wires_prog N (by omega) nn K) (fun K => wires_ref nn K) _) ?_
  simp only [Bool.not_true, bx_f]
  rw [hkl, hf12]
  refine Eq.trans (l12_loop N X (by omega) (fun x hx => ⟨(hX x hx).1, by have := (hX x hx).2; omega⟩) op _ X [] rfl) ?_
  exact hw _
end Go.Proofs.Ytofmclaoihaenaa
