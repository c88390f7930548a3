import Derived.Test.YtgohccjmphapfaaGreatDoorR0
import Derived.Test.YtgohccjmphapfaaGreatDoorPwC
set_option linter.all false
noncomputable section
namespace Go.Proofs.YtgohccjmphapfaaGreatDoor
open Go Go.Pv Go.RowKit
set_option maxRecDepth 100000
def Kh6 (k : W4i) : W4y := k true
def Khz (f0 : (Bool → Option DV) → Option DV) (ds : W4z) (k : W2v) : W4y :=
 match ds with
 | [] => f0 (fun r0_0 => k (.val (.bool r0_0)))
 | _ => none
theorem Krw : Kce Tryz.prog Inv 5 (Khz Kh6) := by
 have h := Woa (B := [(92, Wfw 27 11 160), (91, Wfw 38 2 16)]) (c := Kaf Tryz.f5) Kbg stab (Kbp W0u (Kbp W0v (Kae _ _))) 24 Tryz.func5 (by kernel_rfl) (by kernel_rfl) (v := .bool true) (by intro k; kernel_rfl)
 exact h
end Go.Proofs.YtgohccjmphapfaaGreatDoor
end

noncomputable section
namespace Go.Proofs.YtgohccjmphapfaaGreatDoor
open Go.Pv Go.RowKit
set_option maxRecDepth 100000
def K78 (e : W4z) (o : Nat) (k : ByteArray → Int → Int → Int → Int → Int → Int → Int → Int → Bool → Option DV) : W4y :=
  bx (isS (nth e o)) (bx (isI .i64 (nth e (o + 1))) (bx (isI .i64 (nth e (o + 1 + 1))) (bx (isI .i64 (nth e (o + 1 + 1 + 1))) (bx (isI .i64 (nth e (o + 1 + 1 + 1 + 1))) (bx (isI .i64 (nth e (o + 1 + 1 + 1 + 1 + 1))) (bx (isI .i64 (nth e (o + 1 + 1 + 1 + 1 + 1 + 1))) (bx (isI .i64 (nth e (o + 1 + 1 + 1 + 1 + 1 + 1 + 1))) (bx (isI .i64 (nth e (o + 1 + 1 + 1 + 1 + 1 + 1 + 1 + 1))) (bx (isB (nth e (o + 1 + 1 + 1 + 1 + 1 + 1 + 1 + 1 + 1))) (k (asS (nth e o)) (asI (nth e (o + 1))) (asI (nth e (o + 1 + 1))) (asI (nth e (o + 1 + 1 + 1))) (asI (nth e (o + 1 + 1 + 1 + 1))) (asI (nth e (o + 1 + 1 + 1 + 1 + 1))) (asI (nth e (o + 1 + 1 + 1 + 1 + 1 + 1))) (asI (nth e (o + 1 + 1 + 1 + 1 + 1 + 1 + 1))) (asI (nth e (o + 1 + 1 + 1 + 1 + 1 + 1 + 1 + 1))) (asB (nth e (o + 1 + 1 + 1 + 1 + 1 + 1 + 1 + 1 + 1)))) none) none) none) none) none) none) none) none) none) none
def ld_s (e : W4z) (o : Nat) (k : KT) : W4y :=
  bx (isS (nth e o)) (k (asS (nth e o))) none
def Kal (e : W4z) (o : Nat) (k : W30) : W4y :=
  bx (isS (nth e o)) (bx (isS (nth e (o + 1))) (bx (isI .i64 (nth e (o + 1 + 1))) (bx (isI .i64 (nth e (o + 1 + 1 + 1))) (bx (isL 2 (nth e (o + 1 + 1 + 1 + 1))) (bx (isS (nth e (o + 1 + 1 + 1 + 1 + 1))) (bx (isI .i64 (nth e (o + 1 + 1 + 1 + 1 + 1 + 1))) (bx (isI .i64 (nth e (o + 1 + 1 + 1 + 1 + 1 + 1 + 1))) (bx (isS (nth e (o + 1 + 1 + 1 + 1 + 1 + 1 + 1 + 1))) (bx (isS (nth e (o + 1 + 1 + 1 + 1 + 1 + 1 + 1 + 1 + 1))) (bx (isL 11 (nth e (o + 1 + 1 + 1 + 1 + 1 + 1 + 1 + 1 + 1 + 1))) (k (asS (nth e o)) (asS (nth e (o + 1))) (asI (nth e (o + 1 + 1))) (asI (nth e (o + 1 + 1 + 1))) (asL (nth e (o + 1 + 1 + 1 + 1))) (asS (nth e (o + 1 + 1 + 1 + 1 + 1))) (asI (nth e (o + 1 + 1 + 1 + 1 + 1 + 1))) (asI (nth e (o + 1 + 1 + 1 + 1 + 1 + 1 + 1))) (asS (nth e (o + 1 + 1 + 1 + 1 + 1 + 1 + 1 + 1))) (asS (nth e (o + 1 + 1 + 1 + 1 + 1 + 1 + 1 + 1 + 1))) (asL (nth e (o + 1 + 1 + 1 + 1 + 1 + 1 + 1 + 1 + 1 + 1)))) none) none) none) none) none) none) none) none) none) none) none
def W0w (e : W4z) (o : Nat) (k : KI) : W4y :=
  bx (isI .u8 (nth e o)) (k (asI (nth e o))) none
def Ki3 (e : W4z) (o : Nat) (k : KQ) : W4y :=
  bx (isI .i64 (nth e o)) (bx (isI .i64 (nth e (o + 1))) (k (asI (nth e o)) (asI (nth e (o + 1)))) none) none
def ld_b (e : W4z) (o : Nat) (k : KB) : W4y :=
  bx (isB (nth e o)) (k (asB (nth e o))) none
def Wwi (e : W4z) (o : Nat) (k : W4e) : W4y :=
  bx (isL 2 (nth e o)) (k (asL (nth e o))) none
def ld_i (e : W4z) (o : Nat) (k : KI) : W4y :=
  bx (isI .i64 (nth e o)) (k (asI (nth e o))) none
def BP0 : BP := .mix [.d .s, .d .s, .d (.i .i64), .d (.i .i64), .d (.l 2), .d .s, .d (.i .i64), .d (.i .i64), .d .s, .d .s, .d (.l 11)]
inductive Kdn where
  | h0 (a b : Int) (c d : W4w) (e f : Int) (g : W4x) (h : W4w) (i j : Int) (l m : W4w) (n : W4x)
def Kkj : Kdn → Nat
  | .h0 c a d e f g h i j l m n b => Int.toNat ((b.length : Int) - a) + 1
def Kti : SP := ⟨[(1, .ptr 0 0), (3, .d (.i .i64)), (4, .d (.i .i64))], 21, [BP0]⟩
def Ktj : Args → Option Kdn
  | [.i a, .i b, .s c, .s d, .i e, .i f, .l g, .s h, .i j, .i m, .s n, .s o, .l p] => some (.h0 a b c d e f g h j m n o p)
  | _ => none
def Klf : Kdn → St
  | .h0 a b c d e f g h j m n o p => fS Kti [.i a, .i b, .s c, .s d, .i e, .i f, .l g, .s h, .i j, .i m, .s n, .s o, .l p]
def Kv0 (k : KC) : KI := (fun a => k (.exit 0) (fS ⟨[(3, .d (.i .i64))], 21, []⟩ [.i a]))
def Khd (f0 : W17) : Kdn → (Kdn → Option DV) → (KI) → Option DV
  | .h0 c a d e f g h i j l m n b, κn, κ => bx (decide (a < (b.length : Int))) (bx (decide (0 ≤ a)) (optE (b[a.toNat]?) (fun o => Kal o 0 (fun v2 v3 v4 v5 v6 v7 v8 v9 v10 v11 v12 => f0 v2 v3 v4 v5 v6 v7 v8 v9 v10 v11 v12 (fun p => κn (Kdn.h0 (IntKind.wrap .i64 (c + p)) (IntKind.wrap .i64 (a + 1)) d e f g h i j l m n b))))) none) (κ c)
def Kux (s : St) : Option Kdn := hdO Kti Ktj s
def Kpc (f0 : W17) : St → KC → Option DV := decR Kux (Khd f0) Kkj Kv0
theorem K6p : ∀ s x, Kux s = some x → SLe s (Klf x) := fun _ _ => (Kec (S := Klf) fun a x h => by unfold Ktj at h; split at h <;> cases h; rfl)
def K0l (f0 : W17) (a b : W4w) (c d : Int) (e : W4x) (f : W4w) (g h : Int) (i j : W4w) (l : W4x) (k : KI) : W4y :=
  LF (Khd f0) (Kkj (Kdn.h0 1 0 a b c d e f g h i j l)) (Kdn.h0 1 0 a b c d e f g h i j l) ((fun m => k m))
def Kb1 (f0 : W17) (ds : W4z) (k : W2v) : W4y :=
  match ds with
  | [.agg [.val (.string a), .val (.string b), .val (.int .i64 c), .val (.int .i64 d), .lst 2 e, .val (.string f), .val (.int .i64 g), .val (.int .i64 h), .val (.string i), .val (.string j), .lst 11 l]] => f0 a b c d e f g h i j l (fun m => k (.val (.int .i64 m)))
  | _ => none
def Kf2 (N : Nat) : Nat → W17
  | 0 => (fun _ _ _ _ _ _ _ _ _ _ _ _ => none)
  | n + 1 => (K0l (Kf2 N n))
def Kdv (N : Nat) : W17 := Kf2 N N
theorem K6q (f0 : W17) (x : Kdn) (κn : St → Option DV) (κ : KC) : pev Tryz.prog (tab [(9, (Kb1 f0))] []) (ltab [(3, Kpc f0)]) [(0, [0]), (0, []), (3, [1, 3, 4]), (100003, [3])] 64 (Kb9 (Kaf Tryz.f9) 0) (Klf x) (Ki2 0 [1, 3, 4] [3] κn κ) = Khd f0 x (fun x => κn (Klf x)) (Kv0 κ) := by cases x <;> kernel_rfl
theorem K6r (f0 : W17) (HK : Kfv Tryz.prog Inv (tab [(9, (Kb1 f0))] [])) : Kjx 0 Tryz.prog Inv (Kb9 (Kaf Tryz.f9) 0) (Kpc f0) :=
  Kca (lv := [(0, [0]), (0, []), (3, [1, 3, 4]), (100003, [3])]) Kbg HK (Ka5 (bs := []) (by kernel_rfl) Kat) (K6q f0) K6p Kkj
theorem K98 (f0 : W17) : Rd (Kb1 (K0l f0)) (pevL Tryz.prog (tab [(9, (Kb1 f0))] []) (ltab [(3, Kpc f0)]) [(0, [0]), (0, []), (3, [1, 3, 4]), (100003, [3])] 64 Tryz.f9 (Kaf Tryz.f9)) := by
  intro ds; unfold Kb1; split
  · exact .inr fun k => by kernel_rfl
  · exact .inl fun _ => rfl
theorem Kxj (N : Nat) : ∀ n, Kce Tryz.prog Inv 9 (Kb1 (Kf2 N n))
  | 0 => Khc (by intro ds k; unfold Kb1; split <;> rfl)
  | n + 1 => by
    have ih := Kxj N n
    exact Kam (lv := [(0, [0]), (0, []), (3, [1, 3, 4]), (100003, [3])]) Kbg stab (Kbs stab (Kaa (ih) (Kak _ _)) (Kae _ _)) Tryz.func9 (by kernel_rfl) (by kernel_rfl) (Ka5 (bs := [Kb9 (Kaf Tryz.f9) 0]) (by kernel_rfl) (Kbk (by kernel_rfl) (K6r (Kf2 N n) (Kbs stab (Kaa (ih) (Kak _ _)) (Kae _ _))) Kat)) (K98 (Kf2 N n))
theorem Kk1 (N : Nat) : Kce Tryz.prog Inv 9 (Kb1 (Kdv N)) := (Kxj N N)
inductive Kc9 where
  | h0 (a : W4x) (b c : Int)
def Kj1 : Kc9 → Nat
  | .h0 c a b => Int.toNat (a - b) + 1
def Ksf : SP := ⟨[(22, .d (.l 11)), (23, .d (.i .i64)), (24, .d (.i .i64))], 32, []⟩
def Ksg : Args → Option Kc9
  | [.l a, .i b, .i c] => some (.h0 a b c)
  | _ => none
def Kkk : Kc9 → St
  | .h0 a b c => fS Ksf [.l a, .i b, .i c]
def Kuy (k : KC) : KB × (Option DV) := (fun a => k .ret (fS ⟨[(2, .d .b)], 32, []⟩ [.b a]), k (.exit 0) (fS ⟨[(2, .dead)], 32, []⟩ []))
def Kgn (f0 : W19) : Kc9 → (Kc9 → Option DV) → (KB × (Option DV)) → Option DV
  | .h0 b c a, κn, κ => bx (decide (a < c)) (bx (decide (0 ≤ a)) (optE (b[a.toNat]?) (fun d => Kal d 0 (fun v2 v3 v4 v5 v6 v7 v8 v9 v10 v11 v12 => f0 v2 v3 v4 v5 v6 v7 v8 v9 v10 v11 v12 (fun e => bx (!e) (κ.1 false) (κn (Kc9.h0 b c (IntKind.wrap .i64 (a + 1)))))))) none) κ.2
def Ktk (s : St) : Option Kc9 := hdO Ksf Ksg s
def Kon (f0 : W19) : St → KC → Option DV := decR Ktk (Kgn f0) Kj1 Kuy
theorem K5g : ∀ s x, Ktk s = some x → SLe s (Kkk x) := fun _ _ => (Kec (S := Kkk) fun a x h => by unfold Ksg at h; split at h <;> cases h; rfl)
def Kne (f0 : W19) (b c : W4w) (f g : Int) (d : W4x) (h : W4w) (i j : Int) (l m : W4w) (a : W4x) (k : KB) : W4y :=
  bx (!(decide ((c.size : Int) > 100))) (bx (!(decide ((b.size : Int) > 100))) (bx (decide ((d.length : Int) > 300)) (k false) (LF (Kgn f0) (Kj1 (Kc9.h0 a (a.length : Int) 0)) (Kc9.h0 a (a.length : Int) 0) ((fun e => k e), (k true)))) (k false)) (k false)
def Ked (f0 : W19) (ds : W4z) (k : W2v) : W4y :=
  match ds with
  | [.agg [.val (.string a), .val (.string b), .val (.int .i64 c), .val (.int .i64 d), .lst 2 e, .val (.string f), .val (.int .i64 g), .val (.int .i64 h), .val (.string i), .val (.string j), .lst 11 l]] => f0 a b c d e f g h i j l (fun m => k (.val (.bool m)))
  | _ => none
def Kfa (N : Nat) : Nat → W19
  | 0 => (fun _ _ _ _ _ _ _ _ _ _ _ _ => none)
  | n + 1 => (Kne (Kfa N n))
def Kl1 (N : Nat) : W19 := Kfa N N
theorem K5h (f0 : W19) (x : Kc9) (κn : St → Option DV) (κ : KC) : pev Tryz.prog (tab [(20, (Ked f0))] []) (ltab [(4, Kon f0)]) [(0, [0]), (0, []), (4, [22, 23, 24]), (100004, [2])] 64 (Kb9 (Kaf Tryz.f20) 0) (Kkk x) (Ki2 0 [22, 23, 24] [2] κn κ) = Kgn f0 x (fun x => κn (Kkk x)) (Kuy κ) := by cases x <;> kernel_rfl
theorem K5i (f0 : W19) (HK : Kfv Tryz.prog Inv (tab [(20, (Ked f0))] [])) : Kjx 0 Tryz.prog Inv (Kb9 (Kaf Tryz.f20) 0) (Kon f0) :=
  Kca (lv := [(0, [0]), (0, []), (4, [22, 23, 24]), (100004, [2])]) Kbg HK (Ka5 (bs := []) (by kernel_rfl) Kat) (K5h f0) K5g Kj1
theorem K85 (f0 : W19) : Rd (Ked (Kne f0)) (pevL Tryz.prog (tab [(20, (Ked f0))] []) (ltab [(4, Kon f0)]) [(0, [0]), (0, []), (4, [22, 23, 24]), (100004, [2])] 64 Tryz.f20 (Kaf Tryz.f20)) := by
  intro ds; unfold Ked; split
  · exact .inr fun k => by kernel_rfl
  · exact .inl fun _ => rfl
theorem Kv1 (N : Nat) : ∀ n, Kce Tryz.prog Inv 20 (Ked (Kfa N n))
  | 0 => Khc (by intro ds k; unfold Ked; split <;> rfl)
  | n + 1 => by
    have ih := Kv1 N n
    exact Kam (lv := [(0, [0]), (0, []), (4, [22, 23, 24]), (100004, [2])]) Kbg stab (Kbs stab (Kaa (ih) (Kak _ _)) (Kae _ _)) Tryz.func20 (by kernel_rfl) (by kernel_rfl) (Ka5 (bs := [Kb9 (Kaf Tryz.f20) 0]) (by kernel_rfl) (Kbk (by kernel_rfl) (K5i (Kfa N n) (Kbs stab (Kaa (ih) (Kak _ _)) (Kae _ _))) Kat)) (K85 (Kfa N n))
theorem K86 (N : Nat) : Kce Tryz.prog Inv 20 (Ked (Kl1 N)) := (Kv1 N N)
def Ko1 (f0 : W19) (f1 : W17) (a b : W4w) (c d : Int) (e : W4x) (f : W4w) (g h : Int) (i j : W4w) (l : W4x) (k : KB) : W4y :=
  f1 a b c d e f g h i j l (fun m => bx (decide (m > 700)) (k false) (f0 a b c d e f g h i j l (fun n => k n)))
def Kf3 (f0 : W19) (ds : W4z) (k : W2v) : W4y :=
  match ds with
  | [.agg [.val (.string a), .val (.string b), .val (.int .i64 c), .val (.int .i64 d), .lst 2 e, .val (.string f), .val (.int .i64 g), .val (.int .i64 h), .val (.string i), .val (.string j), .lst 11 l]] => f0 a b c d e f g h i j l (fun m => k (.val (.bool m)))
  | _ => none
def Kjj (N : Nat) : W19 := Ko1 (Kl1 N) (Kdv N)
theorem Wbe (f0 : W19) (f1 : W17) : Rd (Kf3 (Ko1 f0 f1)) (pevL Tryz.prog (tab [(9, (Kb1 f1)), (20, (Ked f0))] []) noL [] 64 Tryz.f4 (Kaf Tryz.f4)) := by
  intro ds; unfold Kf3; split
  · exact .inr fun k => by kernel_rfl
  · exact .inl fun _ => rfl
theorem Kvp (N : Nat) : Kce Tryz.prog Inv 4 (Kf3 (Kjj N)) :=
  Kam (lv := []) Kbg stab (Kbs stab (Kaa (Kk1 N) (Kaa (K86 N) (Kak _ _))) (Kae _ _)) Tryz.func4 (by kernel_rfl) (by kernel_rfl) (Kdc.none _ _ _) (Wbe (Kl1 N) (Kdv N))
inductive Kda where
  | h0 (a b : Int) (c d : W4w) (e f : Int) (g : W4x) (h : W4w) (i j : Int) (l m : W4w) (n : W4x)
def Kj2 : Kda → Nat
  | .h0 c a d e f g h i j l m n b => Int.toNat ((b.length : Int) - a) + 1
def Ksh : SP := ⟨[(1, .ptr 0 0), (3, .d (.i .i64)), (4, .d (.i .i64))], 22, [BP0]⟩
def Ksi : Args → Option Kda
  | [.i a, .i b, .s c, .s d, .i e, .i f, .l g, .s h, .i j, .i m, .s n, .s o, .l p] => some (.h0 a b c d e f g h j m n o p)
  | _ => none
def Kkl : Kda → St
  | .h0 a b c d e f g h j m n o p => fS Ksh [.i a, .i b, .s c, .s d, .i e, .i f, .l g, .s h, .i j, .i m, .s n, .s o, .l p]
def Kuz (k : KC) : KI := (fun a => k (.exit 0) (fS ⟨[(3, .d (.i .i64))], 22, []⟩ [.i a]))
def Kgo (f0 : W17) : Kda → (Kda → Option DV) → (KI) → Option DV
  | .h0 b a e f g h i j l m n o c, κn, κ => bx (decide (a < (c.length : Int))) (bx (decide (0 ≤ a)) (optE (c[a.toNat]?) (fun p => Kal p 0 (fun v2 v3 v4 v5 v6 v7 v8 v9 v10 v11 v12 => f0 v2 v3 v4 v5 v6 v7 v8 v9 v10 v11 v12 (fun d => κn (Kda.h0 (if d > b then d else b) (IntKind.wrap .i64 (a + 1)) e f g h i j l m n o c))))) none) (κ b)
def Ktl (s : St) : Option Kda := hdO Ksh Ksi s
def Koo (f0 : W17) : St → KC → Option DV := decR Ktl (Kgo f0) Kj2 Kuz
theorem K5j : ∀ s x, Ktl s = some x → SLe s (Kkl x) := fun _ _ => (Kec (S := Kkl) fun a x h => by unfold Ksi at h; split at h <;> cases h; rfl)
def Kze (f0 : W17) (a b : W4w) (c d : Int) (e : W4x) (f : W4w) (g h : Int) (i j : W4w) (l : W4x) (k : KI) : W4y :=
  LF (Kgo f0) (Kj2 (Kda.h0 0 0 a b c d e f g h i j l)) (Kda.h0 0 0 a b c d e f g h i j l) ((fun m => k (IntKind.wrap .i64 (m + 1))))
def Kb3 (f0 : W17) (ds : W4z) (k : W2v) : W4y :=
  match ds with
  | [.agg [.val (.string a), .val (.string b), .val (.int .i64 c), .val (.int .i64 d), .lst 2 e, .val (.string f), .val (.int .i64 g), .val (.int .i64 h), .val (.string i), .val (.string j), .lst 11 l]] => f0 a b c d e f g h i j l (fun m => k (.val (.int .i64 m)))
  | _ => none
def Kfb (N : Nat) : Nat → W17
  | 0 => (fun _ _ _ _ _ _ _ _ _ _ _ _ => none)
  | n + 1 => (Kze (Kfb N n))
def Kfh (N : Nat) : W17 := Kfb N N
theorem K5k (f0 : W17) (x : Kda) (κn : St → Option DV) (κ : KC) : pev Tryz.prog (tab [(11, (Kb3 f0))] []) (ltab [(3, Koo f0)]) [(0, [0]), (0, []), (3, [1, 3, 4]), (100003, [3])] 64 (Kb9 (Kaf Tryz.f11) 0) (Kkl x) (Ki2 0 [1, 3, 4] [3] κn κ) = Kgo f0 x (fun x => κn (Kkl x)) (Kuz κ) := by cases x <;> kernel_rfl
theorem K5l (f0 : W17) (HK : Kfv Tryz.prog Inv (tab [(11, (Kb3 f0))] [])) : Kjx 0 Tryz.prog Inv (Kb9 (Kaf Tryz.f11) 0) (Koo f0) :=
  Kca (lv := [(0, [0]), (0, []), (3, [1, 3, 4]), (100003, [3])]) Kbg HK (Ka5 (bs := []) (by kernel_rfl) Kat) (K5k f0) K5j Kj2
theorem K87 (f0 : W17) : Rd (Kb3 (Kze f0)) (pevL Tryz.prog (tab [(11, (Kb3 f0))] []) (ltab [(3, Koo f0)]) [(0, [0]), (0, []), (3, [1, 3, 4]), (100003, [3])] 64 Tryz.f11 (Kaf Tryz.f11)) := by
  intro ds; unfold Kb3; split
  · exact .inr fun k => by kernel_rfl
  · exact .inl fun _ => rfl
theorem Kv2 (N : Nat) : ∀ n, Kce Tryz.prog Inv 11 (Kb3 (Kfb N n))
  | 0 => Khc (by intro ds k; unfold Kb3; split <;> rfl)
  | n + 1 => by
    have ih := Kv2 N n
    exact Kam (lv := [(0, [0]), (0, []), (3, [1, 3, 4]), (100003, [3])]) Kbg stab (Kbs stab (Kaa (ih) (Kak _ _)) (Kae _ _)) Tryz.func11 (by kernel_rfl) (by kernel_rfl) (Ka5 (bs := [Kb9 (Kaf Tryz.f11) 0]) (by kernel_rfl) (Kbk (by kernel_rfl) (K5l (Kfb N n) (Kbs stab (Kaa (ih) (Kak _ _)) (Kae _ _))) Kat)) (K87 (Kfb N n))
theorem Knf (N : Nat) : Kce Tryz.prog Inv 11 (Kb3 (Kfh N)) := (Kv2 N N)
def Kw1  (a : W4w) (k : W3v) : W4y :=
  bx ((a.toList == ByteArray.toList (⟨#[119, 105, 114, 101]⟩))) (k 1 1 0 false false false false 0 0 true) (bx ((a.toList == ByteArray.toList (⟨#[110, 101, 103]⟩))) (k 1 1 0 false false false false 0 0 true) (bx ((a.toList == ByteArray.toList (⟨#[97, 98, 115]⟩))) (k 1 1 0 false false false false 0 0 true) (bx ((a.toList == ByteArray.toList (⟨#[102, 108, 111, 111, 114]⟩))) (k 1 1 0 false false false false 0 0 true) (bx ((a.toList == ByteArray.toList (⟨#[114, 111, 117, 110, 100]⟩))) (k 1 1 0 false false false false 0 0 true) (bx ((a.toList == ByteArray.toList (⟨#[102, 114, 97, 99]⟩))) (k 1 1 0 false false false false 0 0 true) (bx ((a.toList == ByteArray.toList (⟨#[110, 111, 116]⟩))) (k 1 1 0 false false false false 0 0 true) (bx ((a.toList == ByteArray.toList (⟨#[99, 117, 116]⟩))) (k 1 0 0 false false false false 0 0 true) (bx ((a.toList == ByteArray.toList (⟨#[110, 117, 109]⟩))) (k 0 1 0 false false false false 1 1 true) (bx ((a.toList == ByteArray.toList (⟨#[97, 100, 100]⟩))) (k 2 1 0 false false false false 0 0 true) (bx ((a.toList == ByteArray.toList (⟨#[115, 117, 98]⟩))) (k 2 1 0 false false false false 0 0 true) (bx ((a.toList == ByteArray.toList (⟨#[109, 117, 108]⟩))) (k 2 1 0 false false false false 0 0 true) (bx ((a.toList == ByteArray.toList (⟨#[100, 105, 118]⟩))) (k 2 1 0 false false false false 0 0 true) (bx ((a.toList == ByteArray.toList (⟨#[109, 111, 100]⟩))) (k 2 1 0 false false false false 0 0 true) (bx ((a.toList == ByteArray.toList (⟨#[109, 105, 110]⟩))) (k 2 1 0 false false false false 0 0 true) (bx ((a.toList == ByteArray.toList (⟨#[109, 97, 120]⟩))) (k 2 1 0 false false false false 0 0 true) (bx ((a.toList == ByteArray.toList (⟨#[108, 116]⟩))) (k 2 1 0 false false false false 0 0 true) (bx ((a.toList == ByteArray.toList (⟨#[108, 101]⟩))) (k 2 1 0 false false false false 0 0 true) (bx ((a.toList == ByteArray.toList (⟨#[101, 113]⟩))) (k 2 1 0 false false false false 0 0 true) (bx ((a.toList == ByteArray.toList (⟨#[110, 101]⟩))) (k 2 1 0 false false false false 0 0 true) (bx ((a.toList == ByteArray.toList (⟨#[97, 110, 100]⟩))) (k 2 1 0 false false false false 0 0 true) (bx ((a.toList == ByteArray.toList (⟨#[111, 114]⟩))) (k 2 1 0 false false false false 0 0 true) (bx ((a.toList == ByteArray.toList (⟨#[120, 111, 114]⟩))) (k 2 1 0 false false false false 0 0 true) (bx ((a.toList == ByteArray.toList (⟨#[115, 104, 108]⟩))) (k 2 1 0 false false false false 0 0 true) (bx ((a.toList == ByteArray.toList (⟨#[115, 104, 114]⟩))) (k 2 1 0 false false false false 0 0 true) (bx ((a.toList == ByteArray.toList (⟨#[112, 105, 99, 107]⟩))) (k 3 1 0 false false false false 0 0 true) (bx ((a.toList == ByteArray.toList (⟨#[102, 105, 116]⟩))) (k 1 1 0 false false false true 0 0 true) (bx ((a.toList == ByteArray.toList (⟨#[100, 101, 108, 97, 121]⟩))) (k 1 1 0 true false false false 0 0 true) (bx ((a.toList == ByteArray.toList (⟨#[118, 97, 114, 121]⟩))) (k 2 1 0 true true false false 0 0 true) (bx ((a.toList == ByteArray.toList (⟨#[116, 97, 98, 108, 101]⟩))) (k 1 1 0 false false false false 1 256 true) (bx ((a.toList == ByteArray.toList (⟨#[115, 116, 111, 114, 101]⟩))) (k 3 1 0 false false false false 1 256 true) (bx ((a.toList == ByteArray.toList (⟨#[119, 97, 118, 101]⟩))) (k 0 1 0 false false false false 1 256 true) (bx ((a.toList == ByteArray.toList (⟨#[107, 110, 111, 98]⟩))) (k 0 1 0 false false true false 4 4 true) (bx ((a.toList == ByteArray.toList (⟨#[115, 104, 111, 119]⟩))) (k 1 1 0 false false true false 0 0 true) (bx ((a.toList == ByteArray.toList (⟨#[112, 97, 114]⟩))) (k 0 0 2 false false false false 0 0 true) (bx ((a.toList == ByteArray.toList (⟨#[115, 101, 113]⟩))) (k 0 0 2 false false false false 0 0 true) (bx ((a.toList == ByteArray.toList (⟨#[115, 112, 108, 105, 116]⟩))) (k 0 0 2 false false false false 0 0 true) (bx ((a.toList == ByteArray.toList (⟨#[109, 101, 114, 103, 101]⟩))) (k 0 0 2 false false false false 0 0 true) (bx ((a.toList == ByteArray.toList (⟨#[114, 101, 99]⟩))) (k 0 0 2 false false false false 0 0 true) (bx ((a.toList == ByteArray.toList (⟨#[117, 112]⟩))) (k 0 0 1 true false false false 0 0 true) (bx ((a.toList == ByteArray.toList (⟨#[100, 111, 119, 110]⟩))) (k 0 0 1 true false false false 0 0 true) (bx ((a.toList == ByteArray.toList (⟨#[103, 97, 116, 101]⟩))) (k 0 0 1 false false false false 0 0 true) (bx ((a.toList == ByteArray.toList (⟨#[114, 101, 115, 101, 116]⟩))) (k 0 0 1 false false false false 0 0 true) (k 0 0 0 false false false false 0 0 false)))))))))))))))))))))))))))))))))))))))))))
def Kdi (f0 : W2m) (ds : W4z) (k : W2v) : W4y :=
  match ds with
  | [.val (.string a)] => f0 a (fun b c d e f g h i j l => k (.val (.tuple ⟨[.agg ⟨[.int .i64 b, .int .i64 c, .int .i64 d, .bool e, .bool f, .bool g, .bool h, .int .i64 i, .int .i64 j]⟩, .bool l]⟩)))
  | _ => none
def Kbu : W2m := Kw1
theorem Wcc  : Rd (Kdi (Kw1 )) (pevL Tryz.prog (tab [] []) noL [] 64 Tryz.f39 (Kaf Tryz.f39)) := by
  intro ds; unfold Kdi; split
  · exact .inr fun k => by kernel_rfl
  · exact .inl fun _ => rfl
theorem Kiy : Kce Tryz.prog Inv 39 (Kdi Kbu) :=
  Kam (lv := []) Kbg stab (Kbs stab (Kak _ _) (Kae _ _)) Tryz.func39 (by kernel_rfl) (by kernel_rfl) (Kdc.none _ _ _) (Wcc )
inductive Kad where
  | h0 (a : W4w) (b : Int)
def Kkm : Kad → Nat
  | .h0 a b => Int.toNat ((a.size : Int) - b) + 1
def Ktm : SP := ⟨[(0, .d .s), (3, .d (.i .i64))], 57, []⟩
def Ktn : Args → Option Kad
  | [.s a, .i b] => some (.h0 a b)
  | _ => none
def Klg : Kad → St
  | .h0 a b => fS Ktm [.s a, .i b]
def Kv3 (k : KC) : (ByteArray → Bool → Option DV) × KT := (fun a c => k .ret (fS ⟨[(0, .d .s), (2, .d .b)], 57, []⟩ [.s a, .b c]), fun a => k (.exit 0) (fS ⟨[(0, .d .s), (2, .dead)], 57, []⟩ [.s a]))
def Khe  : Kad → (Kad → Option DV) → ((ByteArray → Bool → Option DV) × KT) → Option DV
  | .h0 a b, κn, κ => bx (decide (b < (a.size : Int))) (bx (decide (0 ≤ b)) (match a[b.toNat]? with | some b1 => bx (decide (((UInt8.toNat b1 : Nat) : Int) ≥ 97)) (bx (!(decide (((UInt8.toNat b1 : Nat) : Int) ≤ 122))) (bx (decide (((UInt8.toNat b1 : Nat) : Int) ≥ 65)) (bx (!(decide (((UInt8.toNat b1 : Nat) : Int) ≤ 90))) (bx (decide (((UInt8.toNat b1 : Nat) : Int) ≥ 48)) (bx (!(decide (((UInt8.toNat b1 : Nat) : Int) ≤ 57))) (bx (!(((UInt8.toNat b1 : Nat) : Int) == 95)) (bx (!(((UInt8.toNat b1 : Nat) : Int) == 45)) (bx (!(((UInt8.toNat b1 : Nat) : Int) == 47)) (κ.1 a false) (κn (Kad.h0 a (IntKind.wrap .i64 (b + 1))))) (κn (Kad.h0 a (IntKind.wrap .i64 (b + 1))))) (κn (Kad.h0 a (IntKind.wrap .i64 (b + 1))))) (κn (Kad.h0 a (IntKind.wrap .i64 (b + 1))))) (bx (!(((UInt8.toNat b1 : Nat) : Int) == 95)) (bx (!(((UInt8.toNat b1 : Nat) : Int) == 45)) (bx (!(((UInt8.toNat b1 : Nat) : Int) == 47)) (κ.1 a false) (κn (Kad.h0 a (IntKind.wrap .i64 (b + 1))))) (κn (Kad.h0 a (IntKind.wrap .i64 (b + 1))))) (κn (Kad.h0 a (IntKind.wrap .i64 (b + 1)))))) (κn (Kad.h0 a (IntKind.wrap .i64 (b + 1))))) (bx (decide (((UInt8.toNat b1 : Nat) : Int) ≥ 48)) (bx (!(decide (((UInt8.toNat b1 : Nat) : Int) ≤ 57))) (bx (!(((UInt8.toNat b1 : Nat) : Int) == 95)) (bx (!(((UInt8.toNat b1 : Nat) : Int) == 45)) (bx (!(((UInt8.toNat b1 : Nat) : Int) == 47)) (κ.1 a false) (κn (Kad.h0 a (IntKind.wrap .i64 (b + 1))))) (κn (Kad.h0 a (IntKind.wrap .i64 (b + 1))))) (κn (Kad.h0 a (IntKind.wrap .i64 (b + 1))))) (κn (Kad.h0 a (IntKind.wrap .i64 (b + 1))))) (bx (!(((UInt8.toNat b1 : Nat) : Int) == 95)) (bx (!(((UInt8.toNat b1 : Nat) : Int) == 45)) (bx (!(((UInt8.toNat b1 : Nat) : Int) == 47)) (κ.1 a false) (κn (Kad.h0 a (IntKind.wrap .i64 (b + 1))))) (κn (Kad.h0 a (IntKind.wrap .i64 (b + 1))))) (κn (Kad.h0 a (IntKind.wrap .i64 (b + 1))))))) (κn (Kad.h0 a (IntKind.wrap .i64 (b + 1))))) (bx (decide (((UInt8.toNat b1 : Nat) : Int) ≥ 65)) (bx (!(decide (((UInt8.toNat b1 : Nat) : Int) ≤ 90))) (bx (decide (((UInt8.toNat b1 : Nat) : Int) ≥ 48)) (bx (!(decide (((UInt8.toNat b1 : Nat) : Int) ≤ 57))) (bx (!(((UInt8.toNat b1 : Nat) : Int) == 95)) (bx (!(((UInt8.toNat b1 : Nat) : Int) == 45)) (bx (!(((UInt8.toNat b1 : Nat) : Int) == 47)) (κ.1 a false) (κn (Kad.h0 a (IntKind.wrap .i64 (b + 1))))) (κn (Kad.h0 a (IntKind.wrap .i64 (b + 1))))) (κn (Kad.h0 a (IntKind.wrap .i64 (b + 1))))) (κn (Kad.h0 a (IntKind.wrap .i64 (b + 1))))) (bx (!(((UInt8.toNat b1 : Nat) : Int) == 95)) (bx (!(((UInt8.toNat b1 : Nat) : Int) == 45)) (bx (!(((UInt8.toNat b1 : Nat) : Int) == 47)) (κ.1 a false) (κn (Kad.h0 a (IntKind.wrap .i64 (b + 1))))) (κn (Kad.h0 a (IntKind.wrap .i64 (b + 1))))) (κn (Kad.h0 a (IntKind.wrap .i64 (b + 1)))))) (κn (Kad.h0 a (IntKind.wrap .i64 (b + 1))))) (bx (decide (((UInt8.toNat b1 : Nat) : Int) ≥ 48)) (bx (!(decide (((UInt8.toNat b1 : Nat) : Int) ≤ 57))) (bx (!(((UInt8.toNat b1 : Nat) : Int) == 95)) (bx (!(((UInt8.toNat b1 : Nat) : Int) == 45)) (bx (!(((UInt8.toNat b1 : Nat) : Int) == 47)) (κ.1 a false) (κn (Kad.h0 a (IntKind.wrap .i64 (b + 1))))) (κn (Kad.h0 a (IntKind.wrap .i64 (b + 1))))) (κn (Kad.h0 a (IntKind.wrap .i64 (b + 1))))) (κn (Kad.h0 a (IntKind.wrap .i64 (b + 1))))) (bx (!(((UInt8.toNat b1 : Nat) : Int) == 95)) (bx (!(((UInt8.toNat b1 : Nat) : Int) == 45)) (bx (!(((UInt8.toNat b1 : Nat) : Int) == 47)) (κ.1 a false) (κn (Kad.h0 a (IntKind.wrap .i64 (b + 1))))) (κn (Kad.h0 a (IntKind.wrap .i64 (b + 1))))) (κn (Kad.h0 a (IntKind.wrap .i64 (b + 1))))))) | none => none) none) (κ.2 a)
def Ku0 (s : St) : Option Kad := hdO Ktm Ktn s
def Kpd  : St → KC → Option DV := decR Ku0 (Khe ) Kkm Kv3
theorem K6s : ∀ s x, Ku0 s = some x → SLe s (Klg x) := fun _ _ => (Kec (S := Klg) fun a x h => by unfold Ktn at h; split at h <;> cases h; rfl)
def Kto  (a : W4w) (k : KB) : W4y :=
  LF (Khe ) (Kkm (Kad.h0 a 0)) (Kad.h0 a 0) ((fun d c => k c), (fun b => bx (decide ((b.size : Int) ≥ 1)) (k (decide ((b.size : Int) ≤ 40))) (k false)))
def Kig (f0 : W3h) (ds : W4z) (k : W2v) : W4y :=
  match ds with
  | [.val (.string a)] => f0 a (fun b => k (.val (.bool b)))
  | _ => none
def Kkd : W3h := Kto
theorem K6t  (x : Kad) (κn : St → Option DV) (κ : KC) : pev Tryz.prog (tab [] []) (ltab [(2, Kpd )]) [(0, [0]), (0, []), (2, [0, 3]), (100002, [0, 2])] 64 (Kb9 (Kaf Tryz.f60) 0) (Klg x) (Ki2 0 [0, 3] [0, 2] κn κ) = Khe  x (fun x => κn (Klg x)) (Kv3 κ) := by cases x <;> kernel_rfl
theorem K6u  (HK : Kfv Tryz.prog Inv (tab [] [])) : Kjx 0 Tryz.prog Inv (Kb9 (Kaf Tryz.f60) 0) (Kpd ) :=
  Kca (lv := [(0, [0]), (0, []), (2, [0, 3]), (100002, [0, 2])]) Kbg HK (Ka5 (bs := []) (by kernel_rfl) Kat) (K6t ) K6s Kkm
theorem K99  : Rd (Kig (Kto )) (pevL Tryz.prog (tab [] []) (ltab [(2, Kpd )]) [(0, [0]), (0, []), (2, [0, 3]), (100002, [0, 2])] 64 Tryz.f60 (Kaf Tryz.f60)) := by
  intro ds; unfold Kig; split
  · exact .inr fun k => by kernel_rfl
  · exact .inl fun _ => rfl
theorem K0m : Kce Tryz.prog Inv 60 (Kig Kkd) :=
  Kam (lv := [(0, [0]), (0, []), (2, [0, 3]), (100002, [0, 2])]) Kbg stab (Kbs stab (Kak _ _) (Kae _ _)) Tryz.func60 (by kernel_rfl) (by kernel_rfl) (Ka5 (bs := [Kb9 (Kaf Tryz.f60) 0]) (by kernel_rfl) (Kbk (by kernel_rfl) (K6u  (Kbs stab (Kak _ _) (Kae _ _))) Kat)) (K99 )
def Kmd  (d : W4w) (a b : Int) (e c : W4w) (k : KB) : W4y :=
  bx ((d.toList == ByteArray.toList (⟨#[102, 105, 120]⟩))) (bx (!(c.toList == ByteArray.toList (⟨#[115, 97, 116]⟩))) (bx (!(c.toList == ByteArray.toList (⟨#[119, 114, 97, 112]⟩))) (bx ((c.toList == ByteArray.toList (⟨#[110, 111, 110, 101]⟩))) (bx (decide (a ≥ 0)) (bx (decide (a ≤ 30)) (bx (decide (b ≥ 0)) (bx (decide (b ≤ 30)) (k (decide (IntKind.wrap .i64 (a + b) ≤ 30))) (k false)) (k false)) (k false)) (k false)) (k false)) (bx (decide (a ≥ 0)) (bx (decide (a ≤ 30)) (bx (decide (b ≥ 0)) (bx (decide (b ≤ 30)) (k (decide (IntKind.wrap .i64 (a + b) ≤ 30))) (k false)) (k false)) (k false)) (k false))) (bx (decide (a ≥ 0)) (bx (decide (a ≤ 30)) (bx (decide (b ≥ 0)) (bx (decide (b ≤ 30)) (k (decide (IntKind.wrap .i64 (a + b) ≤ 30))) (k false)) (k false)) (k false)) (k false))) (bx (!(c.toList == ByteArray.toList (⟨#[115, 97, 116]⟩))) (bx ((d.toList == ByteArray.toList (⟨#[102, 108, 111, 97, 116]⟩))) (bx ((c.toList == ByteArray.toList (⟨#[110, 111, 110, 101]⟩))) (bx (decide (a ≥ 1)) (bx (decide (a ≤ 24)) (bx (decide (b ≥ 0)) (bx (decide (b ≤ 20)) (k (decide (IntKind.wrap .i64 (a + b) ≤ 30))) (k false)) (k false)) (k false)) (k false)) (k false)) (k false)) (bx ((d.toList == ByteArray.toList (⟨#[102, 108, 111, 97, 116]⟩))) (bx (decide (a ≥ 1)) (bx (decide (a ≤ 24)) (bx (decide (b ≥ 0)) (bx (decide (b ≤ 20)) (k (decide (IntKind.wrap .i64 (a + b) ≤ 30))) (k false)) (k false)) (k false)) (k false)) (k false)))
def Kr0  (b : W4w) (c d : Int) (a e : W4w) (k : KB) : W4y :=
  bx (!(a.toList == ByteArray.toList (⟨#[102, 108, 111, 111, 114]⟩))) (bx (!(a.toList == ByteArray.toList (⟨#[110, 101, 97, 114]⟩))) (bx (!(a.toList == ByteArray.toList (⟨#[122, 101, 114, 111]⟩))) (k false) (Kmd  b c d a e k)) (Kmd  b c d a e k)) (Kmd  b c d a e k)
def Kgc (f0 : W2n) (ds : W4z) (k : W2v) : W4y :=
  match ds with
  | [.val (.agg ⟨[.string a, .int .i64 b, .int .i64 c, .string d, .string e]⟩)] => f0 a b c d e (fun f => k (.val (.bool f)))
  | _ => none
def Kgv : W2n := Kr0
theorem K88  : Rd (Kgc (Kr0 )) (pevL Tryz.prog (tab [] []) noL [] 64 Tryz.f61 (Kaf Tryz.f61)) := by
  intro ds; unfold Kgc; split
  · exact .inr fun k => by kernel_rfl
  · exact .inl fun _ => rfl
theorem Kr1 : Kce Tryz.prog Inv 61 (Kgc Kgv) :=
  Kam (lv := []) Kbg stab (Kbs stab (Kak _ _) (Kae _ _)) Tryz.func61 (by kernel_rfl) (by kernel_rfl) (Kdc.none _ _ _) (K88 )
inductive Kao where
  | h0 (a b : Int)
def Kg1 : Kao → Nat
  | .h0 a b => 200
def Kqc : SP := ⟨[(0, .d (.i .i64)), (1, .d (.i .i64))], 22, []⟩
def Kqd : Args → Option Kao
  | [.i a, .i b] => some (.h0 a b)
  | _ => none
def Kjk : Kao → St
  | .h0 a b => fS Kqc [.i a, .i b]
def Ksj (k : KC) : KI := (fun a => k (.exit 0) (fS ⟨[(0, .d (.i .i64))], 22, []⟩ [.i a]))
def Kbq  (c : Kao → Nat) : Kao → (Kao → Option DV) → (KI) → Option DV
  | .h0 b a, κn, κ => bx (a != 0) (bx (a == 0) none (κn (Kao.h0 a (Int.tmod b a)))) (κ b)
def Krb (s : St) : Option Kao := hdO Kqc Kqd s
def Km3  (a : Kao → Nat) : St → KC → Option DV := decR Krb (Kbq  a) a Ksj
theorem K29 : ∀ s x, Krb s = some x → SLe s (Kjk x) := fun _ _ => (Kec (S := Kjk) fun a x h => by unfold Kqd at h; split at h <;> cases h; rfl)
def Kpe  (c : Kao → Nat) (b a : Int) (k : KI) : W4y :=
  bx (decide (b < 0)) (bx (decide (a < 0)) (LF (Kbq  c) (c (Kao.h0 (IntKind.wrap .i64 (0 - b)) (IntKind.wrap .i64 (0 - a)))) (Kao.h0 (IntKind.wrap .i64 (0 - b)) (IntKind.wrap .i64 (0 - a))) ((fun d => k d))) (LF (Kbq  c) (c (Kao.h0 (IntKind.wrap .i64 (0 - b)) a)) (Kao.h0 (IntKind.wrap .i64 (0 - b)) a) ((fun e => k e)))) (bx (decide (a < 0)) (LF (Kbq  c) (c (Kao.h0 b (IntKind.wrap .i64 (0 - a)))) (Kao.h0 b (IntKind.wrap .i64 (0 - a))) ((fun f => k f))) (LF (Kbq  c) (c (Kao.h0 b a)) (Kao.h0 b a) ((fun g => k g))))
def Kkn (f0 : W23) (ds : W4z) (k : W2v) : W4y :=
  match ds with
  | [.val (.int .i64 a), .val (.int .i64 b)] => f0 a b (fun c => k (.val (.int .i64 c)))
  | _ => none
def Kj9 : W23 := Kpe  Kg1
theorem K3a  (a : Kao → Nat) (x : Kao) (κn : St → Option DV) (κ : KC) : pev Tryz.prog (tab [] []) (ltab [(5, Km3  a)]) [(0, [0]), (0, []), (5, [0, 1]), (100005, [0])] 64 (Kb9 (Kaf Tryz.f90) 0) (Kjk x) (Ki2 0 [0, 1] [0] κn κ) = Kbq  a x (fun x => κn (Kjk x)) (Ksj κ) := by cases x <;> kernel_rfl
theorem K3b  (a : Kao → Nat) (HK : Kfv Tryz.prog Inv (tab [] [])) : Kjx 0 Tryz.prog Inv (Kb9 (Kaf Tryz.f90) 0) (Km3  a) :=
  Kca (lv := [(0, [0]), (0, []), (5, [0, 1]), (100005, [0])]) Kbg HK (Ka5 (bs := []) (by kernel_rfl) Kat) (K3a  a) K29 a
theorem K6v  (a : Kao → Nat) : Rd (Kkn (Kpe  a)) (pevL Tryz.prog (tab [] []) (ltab [(5, Km3  a)]) [(0, [0]), (0, []), (5, [0, 1]), (100005, [0])] 64 Tryz.f90 (Kaf Tryz.f90)) := by
  intro ds; unfold Kkn; split
  · exact .inr fun k => by kernel_rfl
  · exact .inl fun _ => rfl
theorem K6w : Kce Tryz.prog Inv 90 (Kkn Kj9) :=
  Kam (lv := [(0, [0]), (0, []), (5, [0, 1]), (100005, [0])]) Kbg stab (Kbs stab (Kak _ _) (Kae _ _)) Tryz.func90 (by kernel_rfl) (by kernel_rfl) (Ka5 (bs := [Kb9 (Kaf Tryz.f90) 0]) (by kernel_rfl) (Kbk (by kernel_rfl) (K3b  Kg1 (Kbs stab (Kak _ _) (Kae _ _))) Kat)) (K6v  Kg1)
def Kw2 (f0 : W23) (a b : Int) (k : KB) : W4y :=
  bx (decide (b ≥ 1)) (bx (decide (b ≤ 1073741824)) (bx (decide (a ≥ (-1073741824))) (bx (decide (a ≤ 1073741824)) (f0 a b (fun c => k (c == 1))) (k false)) (k false)) (k false)) (k false)
def Kc0 (f0 : W2q) (ds : W4z) (k : W2v) : W4y :=
  match ds with
  | [.val (.agg ⟨[.int .i64 a, .int .i64 b]⟩)] => f0 a b (fun c => k (.val (.bool c)))
  | _ => none
def Kcm : W2q := Kw2 Kj9
theorem Wcd (f0 : W23) : Rd (Kc0 (Kw2 f0)) (pevL Tryz.prog (tab [(90, (Kkn f0))] []) noL [] 64 Tryz.f58 (Kaf Tryz.f58)) := by
  intro ds; unfold Kc0; split
  · exact .inr fun k => by kernel_rfl
  · exact .inl fun _ => rfl
theorem Khm : Kce Tryz.prog Inv 58 (Kc0 Kcm) :=
  Kam (lv := []) Kbg stab (Kbs stab (Kaa K6w (Kak _ _)) (Kae _ _)) Tryz.func58 (by kernel_rfl) (by kernel_rfl) (Kdc.none _ _ _) (Wcd Kj9)
def Kr2 (f0 : W2q) (a b : Int) (k : KB) : W4y :=
  f0 a b (fun c => bx (!c) (bx (a == 0) (k (b == 0)) (k false)) (k true))
def Kh1 (f0 : W2q) (ds : W4z) (k : W2v) : W4y :=
  match ds with
  | [.val (.agg ⟨[.int .i64 a, .int .i64 b]⟩)] => f0 a b (fun c => k (.val (.bool c)))
  | _ => none
def Kgw : W2q := Kr2 Kcm
theorem K89 (f0 : W2q) : Rd (Kh1 (Kr2 f0)) (pevL Tryz.prog (tab [(58, (Kc0 f0))] []) noL [] 64 Tryz.f62 (Kaf Tryz.f62)) := by
  intro ds; unfold Kh1; split
  · exact .inr fun k => by kernel_rfl
  · exact .inl fun _ => rfl
theorem Kzf : Kce Tryz.prog Inv 62 (Kh1 Kgw) :=
  Kam (lv := []) Kbg stab (Kbs stab (Kaa Khm (Kak _ _)) (Kae _ _)) Tryz.func62 (by kernel_rfl) (by kernel_rfl) (Kdc.none _ _ _) (K89 Kcm)
def Kvq (f0 : W2q) (a b c d : Int) (k : KI) : W4y :=
  f0 a b (fun e => bx (!e) (f0 c d (fun f => bx (!f) (k 0) (f0 a b (fun g => bx (!g) (k (-1)) (f0 c d (fun h => bx (!h) (k 1) (bx (decide (IntKind.wrap .i64 (a * d) < IntKind.wrap .i64 (c * b))) (k (-1)) (bx (decide (IntKind.wrap .i64 (a * d) > IntKind.wrap .i64 (c * b))) (k 1) (k 0))))))))) (f0 a b (fun i => bx (!i) (k (-1)) (f0 c d (fun j => bx (!j) (k 1) (bx (decide (IntKind.wrap .i64 (a * d) < IntKind.wrap .i64 (c * b))) (k (-1)) (bx (decide (IntKind.wrap .i64 (a * d) > IntKind.wrap .i64 (c * b))) (k 1) (k 0))))))))
def Kf4 (f0 : W26) (ds : W4z) (k : W2v) : W4y :=
  match ds with
  | [.val (.agg ⟨[.int .i64 a, .int .i64 b]⟩), .val (.agg ⟨[.int .i64 c, .int .i64 d]⟩)] => f0 a b c d (fun e => k (.val (.int .i64 e)))
  | _ => none
def Kjl : W26 := Kvq Kcm
theorem Wbf (f0 : W2q) : Rd (Kf4 (Kvq f0)) (pevL Tryz.prog (tab [(58, (Kc0 f0))] []) noL [] 64 Tryz.f93 (Kaf Tryz.f93)) := by
  intro ds; unfold Kf4; split
  · exact .inr fun k => by kernel_rfl
  · exact .inl fun _ => rfl
theorem Kvr : Kce Tryz.prog Inv 93 (Kf4 Kjl) :=
  Kam (lv := []) Kbg stab (Kbs stab (Kaa Khm (Kak _ _)) (Kae _ _)) Tryz.func93 (by kernel_rfl) (by kernel_rfl) (Kdc.none _ _ _) (Wbf Kcm)
end Go.Proofs.YtgohccjmphapfaaGreatDoor
end
