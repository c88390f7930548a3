import Derived.Test.YtgohccjmphapfaaGreatDoorRb
set_option linter.all false
noncomputable section
namespace Go.Proofs.YtgohccjmphapfaaGreatDoor
open Go.Pv Go.RowKit
set_option maxRecDepth 100000
inductive Kbl where
  | h0 (a : Int) (b c : W4w) (d e : Int) (f : W4x) (g : W4w) (h i : Int) (j l : W4w) (m : W4x)
  | h1 (a b : Nat) (c : Int) (d e : W4w) (f g : Int) (h : W4x) (i : W4w) (j l : Int) (m n : W4w) (o : W4x) (p q : W4z)
def Kgb : Kbl → Nat
  | .h0 a d b e f g h i j l m c => Int.toNat ((c.length : Int) - a) + 1
  | .h1 a d b e f g h i j l m c o n p q => Int.toNat ((n.length : Int) - b) + 1
def Kso : SP := ⟨[(1, .ptr 0 0), (7, .d .z), (8, .d .z), (9, .d (.i .i64))], 64, [BP0]⟩
def Ksp : Args → Option Kbl
  | [.i a, .s b, .s c, .i d, .i e, .l f, .s g, .i h, .i j, .s m, .s n, .l o] => some (.h0 a b c d e f g h j m n o)
  | _ => none
def Ksq : SP := ⟨[(1, .ptr 0 0), (7, .osl 3 1 1 0), (8, .osl 3 1 2 0), (9, .d (.i .i64))], 64, [BP0, .raw, .raw]⟩
def Ksr : Args → Option Kbl
  | [.n a, .n b, .i d, .s e, .s f, .i g, .i h, .l j, .s m, .i o, .i p, .s q, .s r, .l t, .c u, .c v] => some (.h1 a b d e f g h j m o p q r t u v)
  | _ => none
def Kiq : Kbl → St
  | .h0 a b d e f g h j m o p q => fS Kso [.i a, .s b, .s d, .i e, .i f, .l g, .s h, .i j, .i m, .s o, .s p, .l q]
  | .h1 a b d e f g h j m o p q r t u v => fS Ksq [.n a, .n b, .i d, .s e, .s f, .i g, .i h, .l j, .s m, .i o, .i p, .s q, .s r, .l t, .c u, .c v]
def Ku4 (k : KC) : (Int → Int → Int → ByteArray → ByteArray → Int → Int → List (List DV) → ByteArray → Int → Int → ByteArray → ByteArray → List (List DV) → Option DV) × (ByteArray → ByteArray → Int → Int → List (List DV) → ByteArray → Int → Int → ByteArray → ByteArray → List (List DV) → Option DV) × (Int → Int → Int → Nat → Nat → ByteArray → ByteArray → Int → Int → List (List DV) → ByteArray → Int → Int → ByteArray → ByteArray → List (List DV) → List DV → List DV → Option DV) × (Nat → Nat → ByteArray → ByteArray → Int → Int → List (List DV) → ByteArray → Int → Int → ByteArray → ByteArray → List (List DV) → List DV → List DV → Option DV) := (fun a b e f g h j m o p q r t u => k .ret (fS ⟨[(1, .ptr 0 0), (2, .d (.i .i64)), (3, .d (.i .i64)), (4, .d (.i .i64)), (7, .d .z), (8, .d .z)], 64, [BP0]⟩ [.i a, .i b, .i e, .s f, .s g, .i h, .i j, .l m, .s o, .i p, .i q, .s r, .s t, .l u]), fun a b e f g h j m o p q => k (.exit 0) (fS ⟨[(1, .ptr 0 0), (2, .dead), (3, .dead), (4, .dead), (7, .d .z), (8, .d .z)], 64, [BP0]⟩ [.s a, .s b, .i e, .i f, .l g, .s h, .i j, .i m, .s o, .s p, .l q]), fun a b e f g h j m o p q r t u v w x y => k .ret (fS ⟨[(1, .ptr 0 0), (2, .d (.i .i64)), (3, .d (.i .i64)), (4, .d (.i .i64)), (7, .osl 3 1 1 0), (8, .osl 3 1 2 0)], 64, [BP0, .raw, .raw]⟩ [.i a, .i b, .i e, .n f, .n g, .s h, .s j, .i m, .i o, .l p, .s q, .i r, .i t, .s u, .s v, .l w, .c x, .c y]), fun a b e f g h j m o p q r t u v => k (.exit 0) (fS ⟨[(1, .ptr 0 0), (2, .dead), (3, .dead), (4, .dead), (7, .osl 3 1 1 0), (8, .osl 3 1 2 0)], 64, [BP0, .raw, .raw]⟩ [.n a, .n b, .s e, .s f, .i g, .i h, .l j, .s m, .i o, .i p, .s q, .s r, .l t, .c u, .c v]))
def Kdy (f0 : W18) (f1 : W2w) (f2 : W2m) : Kbl → (Kbl → Option DV) → ((Int → Int → Int → ByteArray → ByteArray → Int → Int → List (List DV) → ByteArray → Int → Int → ByteArray → ByteArray → List (List DV) → Option DV) × (ByteArray → ByteArray → Int → Int → List (List DV) → ByteArray → Int → Int → ByteArray → ByteArray → List (List DV) → Option DV) × (Int → Int → Int → Nat → Nat → ByteArray → ByteArray → Int → Int → List (List DV) → ByteArray → Int → Int → ByteArray → ByteArray → List (List DV) → List DV → List DV → Option DV) × (Nat → Nat → ByteArray → ByteArray → Int → Int → List (List DV) → ByteArray → Int → Int → ByteArray → ByteArray → List (List DV) → List DV → List DV → Option DV)) → Option DV
  | .h0 a b d e f g h i j l m c, κn, κ => bx (decide (a < (c.length : Int))) (bx (decide (0 ≤ a)) (optE (c[a.toNat]?) (fun t => Kal t 0 (fun v12 v13 v14 v15 v16 v17 v18 v19 v20 v21 v22 => f0 v12 v13 v14 v15 v16 v17 v18 v19 v20 v21 v22 (fun u v r => bx (r != 0) (κ.1 0 0 r b d e f g h i j l m c) (κn (Kbl.h1 1 1 (IntKind.wrap .i64 (a + 1)) b d e f g h i j l m c ([.val (.int .i64 u)]) ([.val (.int .i64 v)]))))))) none) (κ.2.1 b d e f g h i j l m c)
  | .h1 a b d e f g h i j l m c q n o p, κn, κ => bx (decide (d < (n.length : Int))) (bx (decide (0 ≤ d)) (optE (n[d.toNat]?) (fun w => Kal w 0 (fun v27 v28 v29 v30 v31 v32 v33 v34 v35 v36 v37 => f0 v27 v28 v29 v30 v31 v32 v33 v34 v35 v36 v37 (fun x y s => bx (s != 0) (κ.2.2.1 0 0 s a b e f g h i j l m c q n o p) (bx ((true && true && Nat.ble (a * 1) (o.length) && Nat.ble (a + 1) maxLen && Nat.ble ((a + 1) * 8) 140737488355328)) (bx ((true && true && Nat.ble (b * 1) (p.length) && Nat.ble (b + 1) maxLen && Nat.ble ((b + 1) * 8) 140737488355328)) (κn (Kbl.h1 (a + 1) (b + 1) (IntKind.wrap .i64 (d + 1)) e f g h i j l m c q n (List.take (a * 1) o ++ [.val (.int .i64 x)]) (List.take (b * 1) p ++ [.val (.int .i64 y)]))) none) none))))) none) (κ.2.2.2 a b e f g h i j l m c q n o p)
def Ktr (s : St) : Option Kbl := orO (hdO Kso Ksp s) (hdO Ksq Ksr s)
def Koq (f0 : W18) (f1 : W2w) (f2 : W2m) : St → KC → Option DV := decR Ktr (Kdy f0 f1 f2) Kgb Ku4
theorem K5p : ∀ s x, Ktr s = some x → SLe s (Kiq x) := fun _ _ => (Kx6 (Kec (S := Kiq) fun a x h => by unfold Ksp at h; split at h <;> cases h; rfl) (Kec (S := Kiq) fun a x h => by unfold Ksr at h; split at h <;> cases h; rfl))
def Kfc (f0 : W18) (f1 : W2w) (f2 : W2m) (a c : W4w) (d e : Int) (f : W4x) (g : W4w) (h i : Int) (j l : W4w) (b : W4x) (k : W24) : W4y :=
  f2 a (fun bd be q bf bg bh bi bj bl r => bx (!(!r)) (bx ((b.length : Int) != q) (k 0 0 2) (LF (Kdy f0 f1 f2) (Kgb (Kbl.h0 0 a c d e f g h i j l b)) (Kbl.h0 0 a c d e f g h i j l b) ((fun s t u bm bn bo bp bq br bs bt bu bv bw => k s t u), (fun v w x y z aa ab ac ad ae af => f1 v w x y z aa ab ac ad ae af [] [] (fun ag ah ai => k ag ah ai)), (fun aj al am bz ca cb cc cd ce cf cg ch ci cj cl cm cn co => k aj al am), (fun m n an ao ap aq ar au av aw ax ay az o p => bx (Nat.ble (0 + m * 1) (o.length)) (bx (Nat.ble (0 + n * 1) (p.length)) (f1 an ao ap aq ar au av aw ax ay az (Kcy 1 m (List.drop 0 o)) (Kcy 1 n (List.drop 0 p)) (fun ba bb bc => k ba bb bc)) none) none)))) (k 0 0 2))
def Kef (f0 : W18) (ds : W4z) (k : W2v) : W4y :=
  match ds with
  | [.agg [.val (.string a), .val (.string b), .val (.int .i64 c), .val (.int .i64 d), .lst 2 e, .val (.string f), .val (.int .i64 g), .val (.int .i64 h), .val (.string i), .val (.string j), .lst 11 l]] => f0 a b c d e f g h i j l (fun m n o => k (.val (.tuple ⟨[.int .i64 m, .int .i64 n, .int .i64 o]⟩)))
  | _ => none
def Kds (N : Nat) : Nat → W18
  | 0 => (fun _ _ _ _ _ _ _ _ _ _ _ _ => none)
  | n + 1 => (Kfc (Kds N n) Kay Kbu)
def Kl2 (N : Nat) : W18 := Kds N N
theorem K5q (f0 : W18) (f1 : W2w) (f2 : W2m) (x : Kbl) (κn : St → Option DV) (κ : KC) : pev Tryz.prog (tab [(24, (Kef f0)), (39, (Kdi f2)), (41, (Kii f1))] []) (ltab [(6, Koq f0 f1 f2)]) [(0, [0]), (0, []), (6, [1, 7, 8, 9]), (100006, [1, 2, 3, 4, 7, 8])] 64 (Kb9 (Kaf Tryz.f24) 0) (Kiq x) (Ki2 0 [1, 7, 8, 9] [1, 2, 3, 4, 7, 8] κn κ) = Kdy f0 f1 f2 x (fun x => κn (Kiq x)) (Ku4 κ) := by cases x <;> kernel_rfl
theorem K5r (f0 : W18) (f1 : W2w) (f2 : W2m) (HK : Kfv Tryz.prog Inv (tab [(24, (Kef f0)), (39, (Kdi f2)), (41, (Kii f1))] [])) : Kjx 0 Tryz.prog Inv (Kb9 (Kaf Tryz.f24) 0) (Koq f0 f1 f2) :=
  Kca (lv := [(0, [0]), (0, []), (6, [1, 7, 8, 9]), (100006, [1, 2, 3, 4, 7, 8])]) Kbg HK (Ka5 (bs := []) (by kernel_rfl) Kat) (K5q f0 f1 f2) K5p Kgb
theorem K9b (f0 : W18) (f1 : W2w) (f2 : W2m) : Rd (Kef (Kfc f0 f1 f2)) (pevL Tryz.prog (tab [(24, (Kef f0)), (39, (Kdi f2)), (41, (Kii f1))] []) (ltab [(6, Koq f0 f1 f2)]) [(0, [0]), (0, []), (6, [1, 7, 8, 9]), (100006, [1, 2, 3, 4, 7, 8])] 64 Tryz.f24 (Kaf Tryz.f24)) := by
  intro ds; unfold Kef; split
  · exact .inr fun k => by kernel_rfl
  · exact .inl fun _ => rfl
theorem Kv6 (N : Nat) : ∀ n, Kce Tryz.prog Inv 24 (Kef (Kds N n))
  | 0 => Khc (by intro ds k; unfold Kef; split <;> rfl)
  | n + 1 => by
    have ih := Kv6 N n
    exact Kam (lv := [(0, [0]), (0, []), (6, [1, 7, 8, 9]), (100006, [1, 2, 3, 4, 7, 8])]) Kbg stab (Kbs stab (Kaa (ih) (Kaa Kiy (Kaa K0n (Kak _ _)))) (Kae _ _)) Tryz.func24 (by kernel_rfl) (by kernel_rfl) (Ka5 (bs := [Kb9 (Kaf Tryz.f24) 0]) (by kernel_rfl) (Kbk (by kernel_rfl) (K5r (Kds N n) Kay Kbu (Kbs stab (Kaa (ih) (Kaa Kiy (Kaa K0n (Kak _ _)))) (Kae _ _))) Kat)) (K9b (Kds N n) Kay Kbu)
theorem K9c (N : Nat) : Kce Tryz.prog Inv 24 (Kef (Kl2 N)) := (Kv6 N N)
inductive Kc2 where
  | h0 (a : Nat) (b : Int) (c d : W4w) (e f : Int) (g : W4x) (h : W4w) (i j : Int) (l m : W4w) (n : W4x) (o : W4z)
def Kkp : Kc2 → Nat
  | .h0 c a d e f g h i j l m n b o => Int.toNat ((b.length : Int) - a) + 1
def Kts : SP := ⟨[(1, .ptr 0 0), (3, .osl 27 11 1 0), (4, .d (.i .i64))], 23, [BP0, .raw]⟩
def Ktt : Args → Option Kc2
  | [.n a, .i b, .s d, .s e, .i f, .i g, .l h, .s j, .i m, .i o, .s p, .s q, .l r, .c t] => some (.h0 a b d e f g h j m o p q r t)
  | _ => none
def Kli : Kc2 → St
  | .h0 a b d e f g h j m o p q r t => fS Kts [.n a, .i b, .s d, .s e, .i f, .i g, .l h, .s j, .i m, .i o, .s p, .s q, .l r, .c t]
def Kv7 (k : KC) : (Nat → List DV → Option DV) := (fun a b => k (.exit 0) (fS ⟨[(3, .osl 27 11 0 0)], 23, [.raw]⟩ [.n a, .c b]))
def Khg (f0 : W2d) : Kc2 → (Kc2 → Option DV) → ((Nat → List DV → Option DV)) → Option DV
  | .h0 a c f g h i j l m n o p d e, κn, κ => bx (decide (c < (d.length : Int))) (bx (decide (0 ≤ c)) (optE (d[c.toNat]?) (fun q => Kal q 0 (fun v2 v3 v4 v5 v6 v7 v8 v9 v10 v11 v12 => f0 v2 v3 v4 v5 v6 v7 v8 v9 v10 v11 v12 (fun b => bx (Nat.beq (b.length) 0) (κn (Kc2.h0 a (IntKind.wrap .i64 (c + 1)) f g h i j l m n o p d e)) (bx (List.all (List.flatten b) Kh0) (bx ((true && true && Nat.ble (a * 11) (e.length) && Nat.ble (a + b.length) maxLen && Nat.ble ((a + b.length) * 160) 140737488355328)) (κn (Kc2.h0 (a + b.length) (IntKind.wrap .i64 (c + 1)) f g h i j l m n o p d (List.take (a * 11) e ++ (List.flatten b)))) none) none))))) none) (κ a e)
def Ku5 (s : St) : Option Kc2 := hdO Kts Ktt s
def Kpo (f0 : W2d) : St → KC → Option DV := decR Ku5 (Khg f0) Kkp Kv7
theorem K6y : ∀ s x, Ku5 s = some x → SLe s (Kli x) := fun _ _ => (Kec (S := Kli) fun a x h => by unfold Ktt at h; split at h <;> cases h; rfl)
def K0o (f0 : W2d) (a b : W4w) (c d : Int) (e : W4x) (f : W4w) (g h : Int) (i j : W4w) (l : W4x) (k : W4e) : W4y :=
  LF (Khg f0) (Kkp (Kc2.h0 1 0 a b c d e f g h i j l ([.val (.string a), .val (.string b), .val (.int .i64 c), .val (.int .i64 d), .lst 2 e, .val (.string f), .val (.int .i64 g), .val (.int .i64 h), .val (.string i), .val (.string j), .lst 11 l]))) (Kc2.h0 1 0 a b c d e f g h i j l ([.val (.string a), .val (.string b), .val (.int .i64 c), .val (.int .i64 d), .lst 2 e, .val (.string f), .val (.int .i64 g), .val (.int .i64 h), .val (.string i), .val (.string j), .lst 11 l])) ((fun m n => bx (Nat.ble (0 + m * 11) (n.length)) (k (Kcy 11 m (List.drop 0 n))) none))
def Ka9 (f0 : W2d) (ds : W4z) (k : W2v) : W4y :=
  match ds with
  | [.agg [.val (.string a), .val (.string b), .val (.int .i64 c), .val (.int .i64 d), .lst 2 e, .val (.string f), .val (.int .i64 g), .val (.int .i64 h), .val (.string i), .val (.string j), .lst 11 l]] => f0 a b c d e f g h i j l (fun m => k (.lst 11 m))
  | _ => none
def Khn (N : Nat) : Nat → W2d
  | 0 => (fun _ _ _ _ _ _ _ _ _ _ _ _ => none)
  | n + 1 => (K0o (Khn N n))
def Kbv (N : Nat) : W2d := Khn N N
theorem K6z (f0 : W2d) (x : Kc2) (κn : St → Option DV) (κ : KC) : pev Tryz.prog (tab [(31, (Ka9 f0))] []) (ltab [(3, Kpo f0)]) [(0, [0]), (0, []), (3, [1, 3, 4]), (100003, [3])] 64 (Kb9 (Kaf Tryz.f31) 0) (Kli x) (Ki2 0 [1, 3, 4] [3] κn κ) = Khg f0 x (fun x => κn (Kli x)) (Kv7 κ) := by cases x <;> kernel_rfl
theorem K60 (f0 : W2d) (HK : Kfv Tryz.prog Inv (tab [(31, (Ka9 f0))] [])) : Kjx 0 Tryz.prog Inv (Kb9 (Kaf Tryz.f31) 0) (Kpo f0) :=
  Kca (lv := [(0, [0]), (0, []), (3, [1, 3, 4]), (100003, [3])]) Kbg HK (Ka5 (bs := []) (by kernel_rfl) Kat) (K6z f0) K6y Kkp
theorem Wab (f0 : W2d) : Rd (Ka9 (K0o f0)) (pevL Tryz.prog (tab [(31, (Ka9 f0))] []) (ltab [(3, Kpo f0)]) [(0, [0]), (0, []), (3, [1, 3, 4]), (100003, [3])] 64 Tryz.f31 (Kaf Tryz.f31)) := by
  intro ds; unfold Ka9; split
  · exact .inr fun k => by kernel_rfl
  · exact .inl fun _ => rfl
theorem Kxm (N : Nat) : ∀ n, Kce Tryz.prog Inv 31 (Ka9 (Khn N n))
  | 0 => Khc (by intro ds k; unfold Ka9; split <;> rfl)
  | n + 1 => by
    have ih := Kxm N n
    exact Kam (lv := [(0, [0]), (0, []), (3, [1, 3, 4]), (100003, [3])]) Kbg stab (Kbs stab (Kaa (ih) (Kak _ _)) (Kae _ _)) Tryz.func31 (by kernel_rfl) (by kernel_rfl) (Ka5 (bs := [Kb9 (Kaf Tryz.f31) 0]) (by kernel_rfl) (Kbk (by kernel_rfl) (K60 (Khn N n) (Kbs stab (Kaa (ih) (Kak _ _)) (Kae _ _))) Kat)) (Wab (Khn N n))
theorem Kf7 (N : Nat) : Kce Tryz.prog Inv 31 (Ka9 (Kbv N)) := (Kxm N N)
inductive Kcq where
  | h0 (a b : W4x) (c : Int)
def Kj5 : Kcq → Nat
  | .h0 a c b => Int.toNat ((a.length : Int) - b) + 1
def Kss : SP := ⟨[(0, .d (.l 2)), (1, .d (.l 2)), (5, .d (.i .i64))], 40, []⟩
def Kst : Args → Option Kcq
  | [.l a, .l b, .i c] => some (.h0 a b c)
  | _ => none
def Kkq : Kcq → St
  | .h0 a b c => fS Kss [.l a, .l b, .i c]
def Ku6 (k : KC) : KB × (Option DV) := (fun a => k .ret (fS ⟨[(4, .d .b)], 40, []⟩ [.b a]), k (.exit 0) (fS ⟨[(4, .dead)], 40, []⟩ []))
def Kgr (f0 : W2q) : Kcq → (Kcq → Option DV) → (KB × (Option DV)) → Option DV
  | .h0 b c a, κn, κ => bx (decide (a < (b.length : Int))) (bx (decide (0 ≤ a)) (optE (b[a.toNat]?) (fun d => Ki3 d 0 (fun v2 v3 => bx (decide (0 ≤ a)) (optE (c[a.toNat]?) (fun e => Ki3 e 0 (fun v5 v6 => bx (!(((v2 == v5) && ((v3 == v6) && true)))) (bx (decide (0 ≤ a)) (optE (b[a.toNat]?) (fun f => Ki3 f 0 (fun v8 v9 => f0 v8 v9 (fun g => bx (!g) (bx (decide (0 ≤ a)) (optE (c[a.toNat]?) (fun h => Ki3 h 0 (fun v12 v13 => f0 v12 v13 (fun i => bx (i) (κ.1 false) (κn (Kcq.h0 b c (IntKind.wrap .i64 (a + 1)))))))) none) (κ.1 false))))) none) (κn (Kcq.h0 b c (IntKind.wrap .i64 (a + 1))))))) none))) none) κ.2
def Ktu (s : St) : Option Kcq := hdO Kss Kst s
def Kor (f0 : W2q) : St → KC → Option DV := decR Ktu (Kgr f0) Kj5 Ku6
theorem K5s : ∀ s x, Ktu s = some x → SLe s (Kkq x) := fun _ _ => (Kec (S := Kkq) fun a x h => by unfold Kst at h; split at h <;> cases h; rfl)
def Kr3 (f0 : W2q) (a b : W4x) (k : KB) : W4y :=
  bx ((a.length : Int) != (b.length : Int)) (k false) (LF (Kgr f0) (Kj5 (Kcq.h0 a b 0)) (Kcq.h0 a b 0) ((fun c => k c), (k true)))
def Kdd (f0 : W2y) (ds : W4z) (k : W2v) : W4y :=
  match ds with
  | [.lst 2 a, .lst 2 b] => f0 a b (fun c => k (.val (.bool c)))
  | _ => none
def Kaz : W2y := Kr3 Kcm
theorem K5t (f0 : W2q) (x : Kcq) (κn : St → Option DV) (κ : KC) : pev Tryz.prog (tab [(58, (Kc0 f0))] []) (ltab [(4, Kor f0)]) [(0, [0]), (0, []), (4, [0, 1, 5]), (100004, [4])] 64 (Kb9 (Kaf Tryz.f37) 0) (Kkq x) (Ki2 0 [0, 1, 5] [4] κn κ) = Kgr f0 x (fun x => κn (Kkq x)) (Ku6 κ) := by cases x <;> kernel_rfl
theorem K5u (f0 : W2q) (HK : Kfv Tryz.prog Inv (tab [(58, (Kc0 f0))] [])) : Kjx 0 Tryz.prog Inv (Kb9 (Kaf Tryz.f37) 0) (Kor f0) :=
  Kca (lv := [(0, [0]), (0, []), (4, [0, 1, 5]), (100004, [4])]) Kbg HK (Ka5 (bs := []) (by kernel_rfl) Kat) (K5t f0) K5s Kj5
theorem K9d (f0 : W2q) : Rd (Kdd (Kr3 f0)) (pevL Tryz.prog (tab [(58, (Kc0 f0))] []) (ltab [(4, Kor f0)]) [(0, [0]), (0, []), (4, [0, 1, 5]), (100004, [4])] 64 Tryz.f37 (Kaf Tryz.f37)) := by
  intro ds; unfold Kdd; split
  · exact .inr fun k => by kernel_rfl
  · exact .inl fun _ => rfl
theorem Kka : Kce Tryz.prog Inv 37 (Kdd Kaz) :=
  Kam (lv := [(0, [0]), (0, []), (4, [0, 1, 5]), (100004, [4])]) Kbg stab (Kbs stab (Kaa Khm (Kak _ _)) (Kae _ _)) Tryz.func37 (by kernel_rfl) (by kernel_rfl) (Ka5 (bs := [Kb9 (Kaf Tryz.f37) 0]) (by kernel_rfl) (Kbk (by kernel_rfl) (K5u Kcm (Kbs stab (Kaa Khm (Kak _ _)) (Kae _ _))) Kat)) (K9d Kcm)
inductive Kbz where
  | h0 (a : W4x) (b c : Int)
def Kh3 : Kbz → Nat
  | .h0 c a b => Int.toNat (a - b) + 1
inductive Kcr where
  | h0 (a : W4x) (b : Int)
def Kh4 : Kcr → Nat
  | .h0 a b => Int.toNat ((a.length : Int) - b) + 1
def Ksu : SP := ⟨[(3, .d (.l 11)), (4, .d (.i .i64)), (5, .d (.i .i64))], 55, []⟩
def Ksv : Args → Option Kbz
  | [.l a, .i b, .i c] => some (.h0 a b c)
  | _ => none
def Kkr : Kbz → St
  | .h0 a b c => fS Ksu [.l a, .i b, .i c]
def Ku7 (k : KC) : (Bool → List (List DV) → Int → Option DV) × (List (List DV) → Int → Option DV) := (fun a c e => k .ret (fS ⟨[(2, .d .b), (3, .d (.l 11)), (4, .d (.i .i64))], 55, []⟩ [.b a, .l c, .i e]), fun a c => k (.exit 2) (fS ⟨[(2, .dead), (3, .d (.l 11)), (4, .d (.i .i64))], 55, []⟩ [.l a, .i c]))
def Kcs (f0 : W2y) (f1 : W2d) : Kbz → (Kbz → Option DV) → ((Bool → List (List DV) → Int → Option DV) × (List (List DV) → Int → Option DV)) → Option DV
  | .h0 b a c, κn, κ => bx (decide (c < a)) (bx (decide (0 ≤ a)) (optE (b[a.toNat]?) (fun d => Kal d 0 (fun v3 v4 v5 v6 v7 v8 v9 v10 v11 v12 v13 => bx (decide (0 ≤ c)) (optE (b[c.toNat]?) (fun e => Kal e 0 (fun v15 v16 v17 v18 v19 v20 v21 v22 v23 v24 v25 => bx (!(v4.toList == ByteArray.toList (⟨#[]⟩))) (bx (!(v4.toList == v16.toList)) (κn (Kbz.h0 b a (IntKind.wrap .i64 (c + 1)))) (bx (!(!(v3.toList == ByteArray.toList (⟨#[107, 110, 111, 98]⟩)))) (bx (!(!(v15.toList == ByteArray.toList (⟨#[107, 110, 111, 98]⟩)))) (f0 v7 v19 (fun f => bx (!f) (κ.1 true b a) (κn (Kbz.h0 b a (IntKind.wrap .i64 (c + 1)))))) (κ.1 true b a)) (κ.1 true b a))) (κn (Kbz.h0 b a (IntKind.wrap .i64 (c + 1))))))) none))) none) (κ.2 b a)
def Ktv (s : St) : Option Kbz := hdO Ksu Ksv s
def Kks (f0 : W2y) (f1 : W2d) : St → KC → Option DV := decR Ktv (Kcs f0 f1) Kh3 Ku7
theorem K5v : ∀ s x, Ktv s = some x → SLe s (Kkr x) := fun _ _ => (Kec (S := Kkr) fun a x h => by unfold Ksv at h; split at h <;> cases h; rfl)
def Ksw : SP := ⟨[(3, .d (.l 11)), (4, .d (.i .i64))], 55, []⟩
def Ksx : Args → Option Kcr
  | [.l a, .i b] => some (.h0 a b)
  | _ => none
def Kkt : Kcr → St
  | .h0 a b => fS Ksw [.l a, .i b]
def Ku8 (k : KC) : KB × (Option DV) := (fun a => k .ret (fS ⟨[(2, .d .b)], 55, []⟩ [.b a]), k (.exit 0) (fS ⟨[(2, .dead)], 55, []⟩ []))
def Kct (f0 : W2y) (f1 : W2d) : Kcr → (Kcr → Option DV) → (KB × (Option DV)) → Option DV
  | .h0 a b, κn, κ => bx (decide (b < (a.length : Int))) (LF (Kcs f0 f1) (Kh3 (Kbz.h0 a b 0)) (Kbz.h0 a b 0) ((fun c f g => κ.1 c), (fun d e => κn (Kcr.h0 d (IntKind.wrap .i64 (e + 1)))))) κ.2
def Ktw (s : St) : Option Kcr := hdO Ksw Ksx s
def Kku (f0 : W2y) (f1 : W2d) : St → KC → Option DV := decR Ktw (Kct f0 f1) Kh4 Ku8
theorem K5w : ∀ s x, Ktw s = some x → SLe s (Kkt x) := fun _ _ => (Kec (S := Kkt) fun a x h => by unfold Ksx at h; split at h <;> cases h; rfl)
def Knh (f0 : W2y) (f1 : W2d) (b c : W4w) (d e : Int) (f : W4x) (g : W4w) (h i : Int) (j l : W4w) (m : W4x) (k : KB) : W4y :=
  f1 b c d e f g h i j l m (fun a => LF (Kct f0 f1) (Kh4 (Kcr.h0 a 0)) (Kcr.h0 a 0) ((fun n => k n), (k false)))
def Kmf (f0 : W19) (ds : W4z) (k : W2v) : W4y :=
  match ds with
  | [.agg [.val (.string a), .val (.string b), .val (.int .i64 c), .val (.int .i64 d), .lst 2 e, .val (.string f), .val (.int .i64 g), .val (.int .i64 h), .val (.string i), .val (.string j), .lst 11 l]] => f0 a b c d e f g h i j l (fun m => k (.val (.bool m)))
  | _ => none
def Kjt (N : Nat) : W19 := Knh Kaz (Kbv N)
theorem K5x (f0 : W2y) (f1 : W2d) (x : Kbz) (κn : St → Option DV) (κ : KC) : pev Tryz.prog (tab [(31, (Ka9 f1)), (37, (Kdd f0))] []) (ltab [(6, Kks f0 f1), (3, Kku f0 f1)]) [(0, [0]), (0, []), (6, [3, 4, 5]), (100006, [2, 3, 4]), (3, [3, 4]), (100003, [2])] 64 (Kb9 (Kaf Tryz.f25) 1) (Kkr x) (Ki2 0 [3, 4, 5] [2, 3, 4] κn κ) = Kcs f0 f1 x (fun x => κn (Kkr x)) (Ku7 κ) := by cases x <;> kernel_rfl
theorem Kv8 (f0 : W2y) (f1 : W2d) (HK : Kfv Tryz.prog Inv (tab [(31, (Ka9 f1)), (37, (Kdd f0))] [])) : Kjx 0 Tryz.prog Inv (Kb9 (Kaf Tryz.f25) 1) (Kks f0 f1) :=
  Kca (lv := [(0, [0]), (0, []), (6, [3, 4, 5]), (100006, [2, 3, 4]), (3, [3, 4]), (100003, [2])]) Kbg HK (Ka5 (bs := []) (by kernel_rfl) Kat) (K5x f0 f1) K5v Kh3
theorem K5y (f0 : W2y) (f1 : W2d) (x : Kcr) (κn : St → Option DV) (κ : KC) : pev Tryz.prog (tab [(31, (Ka9 f1)), (37, (Kdd f0))] []) (ltab [(6, Kks f0 f1), (3, Kku f0 f1)]) [(0, [0]), (0, []), (6, [3, 4, 5]), (100006, [2, 3, 4]), (3, [3, 4]), (100003, [2])] 64 (Kb9 (Kaf Tryz.f25) 0) (Kkt x) (Ki2 0 [3, 4] [2] κn κ) = Kct f0 f1 x (fun x => κn (Kkt x)) (Ku8 κ) := by cases x <;> kernel_rfl
theorem K5z (f0 : W2y) (f1 : W2d) (HK : Kfv Tryz.prog Inv (tab [(31, (Ka9 f1)), (37, (Kdd f0))] [])) : Kjx 0 Tryz.prog Inv (Kb9 (Kaf Tryz.f25) 0) (Kku f0 f1) :=
  Kca (lv := [(0, [0]), (0, []), (6, [3, 4, 5]), (100006, [2, 3, 4]), (3, [3, 4]), (100003, [2])]) Kbg HK (Ka5 (bs := [Kb9 (Kaf Tryz.f25) 1]) (by kernel_rfl) (Kbk (by kernel_rfl) (Kv8 f0 f1 HK) Kat)) (K5y f0 f1) K5w Kh4
theorem K9e (f0 : W2y) (f1 : W2d) : Rd (Kmf (Knh f0 f1)) (pevL Tryz.prog (tab [(31, (Ka9 f1)), (37, (Kdd f0))] []) (ltab [(6, Kks f0 f1), (3, Kku f0 f1)]) [(0, [0]), (0, []), (6, [3, 4, 5]), (100006, [2, 3, 4]), (3, [3, 4]), (100003, [2])] 64 Tryz.f25 (Kaf Tryz.f25)) := by
  intro ds; unfold Kmf; split
  · exact .inr fun k => by kernel_rfl
  · exact .inl fun _ => rfl
theorem K9f (N : Nat) : Kce Tryz.prog Inv 25 (Kmf (Kjt N)) :=
  Kam (lv := [(0, [0]), (0, []), (6, [3, 4, 5]), (100006, [2, 3, 4]), (3, [3, 4]), (100003, [2])]) Kbg stab (Kbs stab (Kaa (Kf7 N) (Kaa Kka (Kak _ _))) (Kae _ _)) Tryz.func25 (by kernel_rfl) (by kernel_rfl) (Ka5 (bs := [Kb9 (Kaf Tryz.f25) 0, Kb9 (Kaf Tryz.f25) 1]) (by kernel_rfl) (Kbk (by kernel_rfl) (K5z Kaz (Kbv N) (Kbs stab (Kaa (Kf7 N) (Kaa Kka (Kak _ _))) (Kae _ _))) (Kbk (by kernel_rfl) (Kv8 Kaz (Kbv N) (Kbs stab (Kaa (Kf7 N) (Kaa Kka (Kak _ _))) (Kae _ _))) Kat))) (K9e Kaz (Kbv N))
def Kni (f0 : W19) (f1 : W18) (f2 f3 : W17) (f4 : W19) (a b : W4w) (c d : Int) (e : W4x) (f : W4w) (g h : Int) (i j : W4w) (l : W4x) (k : W24) : W4y :=
  f4 a b c d e f g h i j l (fun n => bx (!n) (k 0 0 2) (f3 a b c d e f g h i j l (fun o => bx (!(decide (o > 600))) (f2 a b c d e f g h i j l (fun p => bx (decide (p > 60)) (k 0 0 4) (f1 a b c d e f g h i j l (fun q r m => bx (m != 0) (k 0 0 m) (f0 a b c d e f g h i j l (fun s => bx (s) (k 0 0 8) (k q r 0))))))) (k 0 0 4))))
def Kcu (f0 : W18) (ds : W4z) (k : W2v) : W4y :=
  match ds with
  | [.agg [.val (.string a), .val (.string b), .val (.int .i64 c), .val (.int .i64 d), .lst 2 e, .val (.string f), .val (.int .i64 g), .val (.int .i64 h), .val (.string i), .val (.string j), .lst 11 l]] => f0 a b c d e f g h i j l (fun m n o => k (.val (.tuple ⟨[.int .i64 m, .int .i64 n, .int .i64 o]⟩)))
  | _ => none
def Kcb (N : Nat) : W18 := Kni (Kjt N) (Kl2 N) (Kfh N) (Kdv N) (Kgx N)
theorem K9g (f0 : W19) (f1 : W18) (f2 f3 : W17) (f4 : W19) : Rd (Kcu (Kni f0 f1 f2 f3 f4)) (pevL Tryz.prog (tab [(9, (Kb1 f3)), (11, (Kb3 f2)), (23, (Kdx f4)), (24, (Kef f1)), (25, (Kmf f0))] []) noL [] 64 Tryz.f6 (Kaf Tryz.f6)) := by
  intro ds; unfold Kcu; split
  · exact .inr fun k => by kernel_rfl
  · exact .inl fun _ => rfl
theorem Kij (N : Nat) : Kce Tryz.prog Inv 6 (Kcu (Kcb N)) :=
  Kam (lv := []) Kbg stab (Kbs stab (Kaa (Kk1 N) (Kaa (Knf N) (Kaa (Kzg N) (Kaa (K9c N) (Kaa (K9f N) (Kak _ _)))))) (Kae _ _)) Tryz.func6 (by kernel_rfl) (by kernel_rfl) (Kdc.none _ _ _) (K9g (Kjt N) (Kl2 N) (Kfh N) (Kdv N) (Kgx N))
inductive Kir where
  | h0 (a : Int) (b : W4x) (c d : Int)
def Kwr : Kir → Nat
  | .h0 c d a b => Int.toNat (a - b) + 1
def K4w : SP := ⟨[(3, .d (.i .i64)), (7, .d (.l 11)), (8, .d (.i .i64)), (9, .d (.i .i64))], 19, []⟩
def K4x : Args → Option Kir
  | [.i a, .l b, .i c, .i d] => some (.h0 a b c d)
  | _ => none
def Kx8 : Kir → St
  | .h0 a b c d => fS K4w [.i a, .l b, .i c, .i d]
def K82 (k : KC) : KI := (fun a => k (.exit 0) (fS ⟨[(3, .d (.i .i64))], 19, []⟩ [.i a]))
def Kpp (f0 : W17) : Kir → (Kir → Option DV) → (KI) → Option DV
  | .h0 b c d a, κn, κ => bx (decide (a < d)) (bx (decide (0 ≤ a)) (optE (c[a.toNat]?) (fun e => Kal e 0 (fun v2 v3 v4 v5 v6 v7 v8 v9 v10 v11 v12 => f0 v2 v3 v4 v5 v6 v7 v8 v9 v10 v11 v12 (fun f => κn (Kir.h0 (IntKind.wrap .i64 (b + f)) c d (IntKind.wrap .i64 (a + 1))))))) none) (κ b)
def K61 (s : St) : Option Kir := hdO K4w K4x s
def K3f (f0 : W17) : St → KC → Option DV := decR K61 (Kpp f0) Kwr K82
theorem Win : ∀ s x, K61 s = some x → SLe s (Kx8 x) := fun _ _ => (Kec (S := Kx8) fun a x h => by unfold K4x at h; split at h <;> cases h; rfl)
def Wfy (f0 : W17) (c d : W4w) (e f : Int) (g : W4x) (h : W4w) (i j : Int) (l m : W4w) (a : W4x) (k : KI) : W4y :=
  LF (Kpp f0) (Kwr (Kir.h0 1 a (a.length : Int) 0)) (Kir.h0 1 a (a.length : Int) 0) ((fun b => k b))
def Kg4 (f0 : W17) (ds : W4z) (k : W2v) : W4y :=
  match ds with
  | [.agg [.val (.string a), .val (.string b), .val (.int .i64 c), .val (.int .i64 d), .lst 2 e, .val (.string f), .val (.int .i64 g), .val (.int .i64 h), .val (.string i), .val (.string j), .lst 11 l]] => f0 a b c d e f g h i j l (fun m => k (.val (.int .i64 m)))
  | _ => none
def Kqh (N : Nat) : Nat → W17
  | 0 => (fun _ _ _ _ _ _ _ _ _ _ _ _ => none)
  | n + 1 => (Wfy (Kqh N n))
def Kun (N : Nat) : W17 := Kqh N N
theorem Wio (f0 : W17) (x : Kir) (κn : St → Option DV) (κ : KC) : pev Tryz.prog (tab [(8, (Kg4 f0))] []) (ltab [(3, K3f f0)]) [(0, [0]), (0, []), (3, [3, 7, 8, 9]), (100003, [3])] 64 (Kb9 (Kaf Tryz.f8) 0) (Kx8 x) (Ki2 0 [3, 7, 8, 9] [3] κn κ) = Kpp f0 x (fun x => κn (Kx8 x)) (K82 κ) := by cases x <;> kernel_rfl
theorem Wip (f0 : W17) (HK : Kfv Tryz.prog Inv (tab [(8, (Kg4 f0))] [])) : Kjx 0 Tryz.prog Inv (Kb9 (Kaf Tryz.f8) 0) (K3f f0) :=
  Kca (lv := [(0, [0]), (0, []), (3, [3, 7, 8, 9]), (100003, [3])]) Kbg HK (Ka5 (bs := []) (by kernel_rfl) Kat) (Wio f0) Win Kwr
theorem Wob (f0 : W17) : Rd (Kg4 (Wfy f0)) (pevL Tryz.prog (tab [(8, (Kg4 f0))] []) (ltab [(3, K3f f0)]) [(0, [0]), (0, []), (3, [3, 7, 8, 9]), (100003, [3])] 64 Tryz.f8 (Kaf Tryz.f8)) := by
  intro ds; unfold Kg4; split
  · exact .inr fun k => by kernel_rfl
  · exact .inl fun _ => rfl
theorem Wac (N : Nat) : ∀ n, Kce Tryz.prog Inv 8 (Kg4 (Kqh N n))
  | 0 => Khc (by intro ds k; unfold Kg4; split <;> rfl)
  | n + 1 => by
    have ih := Wac N n
    exact Kam (lv := [(0, [0]), (0, []), (3, [3, 7, 8, 9]), (100003, [3])]) Kbg stab (Kbs stab (Kaa (ih) (Kak _ _)) (Kae _ _)) Tryz.func8 (by kernel_rfl) (by kernel_rfl) (Ka5 (bs := [Kb9 (Kaf Tryz.f8) 0]) (by kernel_rfl) (Kbk (by kernel_rfl) (Wip (Kqh N n) (Kbs stab (Kaa (ih) (Kak _ _)) (Kae _ _))) Kat)) (Wob (Kqh N n))
theorem K4y (N : Nat) : Kce Tryz.prog Inv 8 (Kg4 (Kun N)) := (Wac N N)
end Go.Proofs.YtgohccjmphapfaaGreatDoor
end
