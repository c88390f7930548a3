import Derived.Test.YtgohccjmphapfaaGreatDoorRe
set_option linter.all false
noncomputable section
namespace Go.Proofs.YtgohccjmphapfaaGreatDoor
open Go.Pv Go.RowKit
set_option maxRecDepth 100000
inductive Kde where
  | h0 (a : W4x) (b c : Int) (d e : W4w) (f g : Int) (h : W4x) (i : W4w) (j l : Int) (m n : W4w) (o : W4x) (p q : Int)
  | h1 (a : Nat) (b : W4x) (c d : Int) (e f : W4w) (g h : Int) (i : W4x) (j : W4w) (l m : Int) (n o : W4w) (p : W4x) (q r : Int) (s : W4z)
def Kkf : Kde → Nat
  | .h0 d b a c e f g h i j l m n o p q => Int.toNat (b - a) + 1
  | .h1 d b a c e f g h i j l m n o p q r s => Int.toNat (a - c) + 1
def K0u : SP := ⟨[(1, .ptr 0 0), (2, .ptr 1 0), (4, .d .z), (12, .d (.l 11)), (13, .d (.i .i64)), (14, .d (.i .i64))], 52, [BP0, .cs [.i .i64, .i .i64]]⟩
def K0v : Args → Option Kde
  | [.l a, .i b, .i c, .s d, .s e, .i f, .i g, .l h, .s j, .i m, .i n, .s o, .s p, .l q, .i r, .i t] => some (.h0 a b c d e f g h j m n o p q r t)
  | _ => none
def K0w : SP := ⟨[(1, .ptr 0 0), (2, .ptr 1 0), (4, .osl 52 2 2 0), (12, .d (.l 11)), (13, .d (.i .i64)), (14, .d (.i .i64))], 52, [BP0, .cs [.i .i64, .i .i64], .raw]⟩
def K0x : Args → Option Kde
  | [.n a, .l b, .i d, .i e, .s f, .s g, .i h, .i j, .l m, .s o, .i p, .i q, .s r, .s t, .l u, .i v, .i w, .c x] => some (.h1 a b d e f g h j m o p q r t u v w x)
  | _ => none
def Kn5 : Kde → St
  | .h0 a b d e f g h j m o p q r t u v => fS K0u [.l a, .i b, .i d, .s e, .s f, .i g, .i h, .l j, .s m, .i o, .i p, .s q, .s r, .l t, .i u, .i v]
  | .h1 a b d e f g h j m o p q r t u v w x => fS K0w [.n a, .l b, .i d, .i e, .s f, .s g, .i h, .i j, .l m, .s o, .i p, .i q, .s r, .s t, .l u, .i v, .i w, .c x]
def K3r (k : KC) : (Int → ByteArray → ByteArray → Int → Int → List (List DV) → ByteArray → Int → Int → ByteArray → ByteArray → List (List DV) → Int → Int → Option DV) × (ByteArray → ByteArray → Int → Int → List (List DV) → ByteArray → Int → Int → ByteArray → ByteArray → List (List DV) → Int → Int → Option DV) × (Int → Nat → ByteArray → ByteArray → Int → Int → List (List DV) → ByteArray → Int → Int → ByteArray → ByteArray → List (List DV) → Int → Int → List DV → Option DV) × (Nat → ByteArray → ByteArray → Int → Int → List (List DV) → ByteArray → Int → Int → ByteArray → ByteArray → List (List DV) → Int → Int → List DV → Option DV) := (fun a b e f g h j m o p q r t u => k .ret (fS ⟨[(1, .ptr 0 0), (2, .ptr 1 0), (3, .d (.i .i64)), (4, .d .z)], 52, [BP0, .cs [.i .i64, .i .i64]]⟩ [.i a, .s b, .s e, .i f, .i g, .l h, .s j, .i m, .i o, .s p, .s q, .l r, .i t, .i u]), fun a b e f g h j m o p q r t => k (.exit 0) (fS ⟨[(1, .ptr 0 0), (2, .ptr 1 0), (3, .dead), (4, .d .z)], 52, [BP0, .cs [.i .i64, .i .i64]]⟩ [.s a, .s b, .i e, .i f, .l g, .s h, .i j, .i m, .s o, .s p, .l q, .i r, .i t]), fun a b e f g h j m o p q r t u v w => k .ret (fS ⟨[(1, .ptr 0 0), (2, .ptr 1 0), (3, .d (.i .i64)), (4, .osl 52 2 2 0)], 52, [BP0, .cs [.i .i64, .i .i64], .raw]⟩ [.i a, .n b, .s e, .s f, .i g, .i h, .l j, .s m, .i o, .i p, .s q, .s r, .l t, .i u, .i v, .c w]), fun a b e f g h j m o p q r t u v => k (.exit 0) (fS ⟨[(1, .ptr 0 0), (2, .ptr 1 0), (3, .dead), (4, .osl 52 2 2 0)], 52, [BP0, .cs [.i .i64, .i .i64], .raw]⟩ [.n a, .s b, .s e, .i f, .i g, .l h, .s j, .i m, .i o, .s p, .s q, .l r, .i t, .i u, .c v]))
def Kg6 (f0 : W18) (f1 : W3d) : Kde → (Kde → Option DV) → ((Int → ByteArray → ByteArray → Int → Int → List (List DV) → ByteArray → Int → Int → ByteArray → ByteArray → List (List DV) → Int → Int → Option DV) × (ByteArray → ByteArray → Int → Int → List (List DV) → ByteArray → Int → Int → ByteArray → ByteArray → List (List DV) → Int → Int → Option DV) × (Int → Nat → ByteArray → ByteArray → Int → Int → List (List DV) → ByteArray → Int → Int → ByteArray → ByteArray → List (List DV) → Int → Int → List DV → Option DV) × (Nat → ByteArray → ByteArray → Int → Int → List (List DV) → ByteArray → Int → Int → ByteArray → ByteArray → List (List DV) → Int → Int → List DV → Option DV)) → Option DV
  | .h0 a p c b d e f g h i j l m n o q, κn, κ => bx (decide (c < p)) (bx (decide (0 ≤ c)) (optE (a[c.toNat]?) (fun v => Kal v 0 (fun v2 v3 v4 v5 v6 v7 v8 v9 v10 v11 v12 => f0 v2 v3 v4 v5 v6 v7 v8 v9 v10 v11 v12 (fun w x s => bx (s != 0) (κ.1 s b d e f g h i j l m n 0 0) (κn (Kde.h1 1 a p (IntKind.wrap .i64 (c + 1)) b d e f g h i j l m n o q ([.val (.int .i64 w), .val (.int .i64 x)]))))))) none) (κ.2.1 b d e f g h i j l m n o q)
  | .h1 a p c b d e f g h i j l m n o q t r, κn, κ => bx (decide (b < c)) (bx (decide (0 ≤ b)) (optE (p[b.toNat]?) (fun y => Kal y 0 (fun v17 v18 v19 v20 v21 v22 v23 v24 v25 v26 v27 => f0 v17 v18 v19 v20 v21 v22 v23 v24 v25 v26 v27 (fun z aa u => bx (u != 0) (κ.2.2.1 u a d e f g h i j l m n o 0 0 r) (bx ((true && true && Nat.ble (a * 2) (r.length) && Nat.ble (a + 1) maxLen && Nat.ble ((a + 1) * 16) 140737488355328)) (κn (Kde.h1 (a + 1) p c (IntKind.wrap .i64 (b + 1)) d e f g h i j l m n o q t (List.take (a * 2) r ++ [.val (.int .i64 z), .val (.int .i64 aa)]))) none))))) none) (κ.2.2.2 a d e f g h i j l m n o q t r)
def K1w (s : St) : Option Kde := orO (hdO K0u K0v s) (hdO K0w K0x s)
def Kym (f0 : W18) (f1 : W3d) : St → KC → Option DV := decR K1w (Kg6 f0 f1) Kkf K3r
theorem Wd9 : ∀ s x, K1w s = some x → SLe s (Kn5 x) := fun _ _ => (Kx6 (Kec (S := Kn5) fun a x h => by unfold K0v at h; split at h <;> cases h; rfl) (Kec (S := Kn5) fun a x h => by unfold K0x at h; split at h <;> cases h; rfl))
def Kk9 (f0 : W18) (f1 : W3d) (b c : W4w) (d e : Int) (f : W4x) (g : W4w) (h i : Int) (j l : W4w) (a : W4x) (k : W24) : W4y :=
  LF (Kg6 f0 f1) (Kkf (Kde.h0 a (a.length : Int) 0 b c d e f g h i j l a 0 0)) (Kde.h0 a (a.length : Int) 0 b c d e f g h i j l a 0 0) ((fun s ac ad ae af ag ah ai aj al am an t u => k t u s), (fun v ao ap aq ar au av aw ax ay az ba bb => f1 v [] (fun m n w => bx (!w) (k 0 0 50) (bx (!(decide (m > 64))) (bx (decide (n > 64)) (k 0 0 4) (k m n 0)) (k 0 0 4)))), (fun x bc bd be bf bg bh bi bj bl bm bn bo y z bp => k y z x), (fun o aa bq br bs bt bu bv bw bz ca cb cc cd p => bx (Nat.ble (0 + o * 2) (p.length)) (f1 aa (Kcy 2 o (List.drop 0 p)) (fun q r ab => bx (!ab) (k 0 0 50) (bx (!(decide (q > 64))) (bx (decide (r > 64)) (k 0 0 4) (k q r 0)) (k 0 0 4)))) none))
def Kiw (f0 : W18) (ds : W4z) (k : W2v) : W4y :=
  match ds with
  | [.agg [.val (.string a), .val (.string b), .val (.int .i64 c), .val (.int .i64 d), .lst 2 e, .val (.string f), .val (.int .i64 g), .val (.int .i64 h), .val (.string i), .val (.string j), .lst 11 l]] => f0 a b c d e f g h i j l (fun m n o => k (.val (.tuple ⟨[.agg ⟨[.int .i64 m, .int .i64 n]⟩, .int .i64 o]⟩)))
  | _ => none
def Khq (N : Nat) : Nat → W18
  | 0 => (fun _ _ _ _ _ _ _ _ _ _ _ _ => none)
  | n + 1 => (Kk9 (Khq N n) Khp)
def Kyn (N : Nat) : W18 := Khq N N
theorem Wea (f0 : W18) (f1 : W3d) (x : Kde) (κn : St → Option DV) (κ : KC) : pev Tryz.prog (tab [(27, (Kiw f0)), (46, (Kll f1))] []) (ltab [(3, Kym f0 f1)]) [(0, [0]), (0, []), (3, [1, 2, 4, 12, 13, 14]), (100003, [1, 2, 3, 4])] 64 (Kb9 (Kaf Tryz.f27) 0) (Kn5 x) (Ki2 0 [1, 2, 4, 12, 13, 14] [1, 2, 3, 4] κn κ) = Kg6 f0 f1 x (fun x => κn (Kn5 x)) (K3r κ) := by cases x <;> kernel_rfl
theorem Web (f0 : W18) (f1 : W3d) (HK : Kfv Tryz.prog Inv (tab [(27, (Kiw f0)), (46, (Kll f1))] [])) : Kjx 0 Tryz.prog Inv (Kb9 (Kaf Tryz.f27) 0) (Kym f0 f1) :=
  Kca (lv := [(0, [0]), (0, []), (3, [1, 2, 4, 12, 13, 14]), (100003, [1, 2, 3, 4])]) Kbg HK (Ka5 (bs := []) (by kernel_rfl) Kat) (Wea f0 f1) Wd9 Kkf
theorem Wi1 (f0 : W18) (f1 : W3d) : Rd (Kiw (Kk9 f0 f1)) (pevL Tryz.prog (tab [(27, (Kiw f0)), (46, (Kll f1))] []) (ltab [(3, Kym f0 f1)]) [(0, [0]), (0, []), (3, [1, 2, 4, 12, 13, 14]), (100003, [1, 2, 3, 4])] 64 Tryz.f27 (Kaf Tryz.f27)) := by
  intro ds; unfold Kiw; split
  · exact .inr fun k => by kernel_rfl
  · exact .inl fun _ => rfl
theorem K45 (N : Nat) : ∀ n, Kce Tryz.prog Inv 27 (Kiw (Khq N n))
  | 0 => Khc (by intro ds k; unfold Kiw; split <;> rfl)
  | n + 1 => by
    have ih := K45 N n
    exact Kam (lv := [(0, [0]), (0, []), (3, [1, 2, 4, 12, 13, 14]), (100003, [1, 2, 3, 4])]) Kbg stab (Kbs stab (Kaa (ih) (Kaa K67 (Kak _ _))) (Kae _ _)) Tryz.func27 (by kernel_rfl) (by kernel_rfl) (Ka5 (bs := [Kb9 (Kaf Tryz.f27) 0]) (by kernel_rfl) (Kbk (by kernel_rfl) (Web (Khq N n) Khp (Kbs stab (Kaa (ih) (Kaa K67 (Kak _ _))) (Kae _ _))) Kat)) (Wi1 (Khq N n) Khp)
theorem Wi2 (N : Nat) : Kce Tryz.prog Inv 27 (Kiw (Kyn N)) := (K45 N N)
inductive Kdj where
  | h0 (a : W4w) (b : Nat) (c : W4x) (d e : Int) (f : W4z)
  | h1 (a : W4w) (b : W4x) (c d : Int)
def Ks4 : Kdj → Nat
  | .h0 c d b a e f => Int.toNat (a - e) + 1
  | .h1 c d b a => Int.toNat (b - a) + 1
def K1x : SP := ⟨[(0, .d .s), (5, .osl 27 11 0 0), (17, .d (.l 11)), (18, .d (.i .i64)), (19, .d (.i .i64))], 30, [.raw]⟩
def K1y : Args → Option Kdj
  | [.s a, .n b, .l d, .i e, .i f, .c g] => some (.h0 a b d e f g)
  | _ => none
def K1z : SP := ⟨[(0, .d .s), (5, .d .z), (17, .d (.l 11)), (18, .d (.i .i64)), (19, .d (.i .i64))], 30, []⟩
def K10 : Args → Option Kdj
  | [.s a, .l b, .i c, .i d] => some (.h1 a b c d)
  | _ => none
def Kpt : Kdj → St
  | .h0 a b d e f g => fS K1x [.s a, .n b, .l d, .i e, .i f, .c g]
  | .h1 a b d e => fS K1z [.s a, .l b, .i d, .i e]
def K46 (k : KC) : (Nat → List DV → Option DV) × (Option DV) := (fun a b => k (.exit 0) (fS ⟨[(5, .osl 27 11 0 0)], 30, [.raw]⟩ [.n a, .c b]), k (.exit 0) (fS ⟨[(5, .d .z)], 30, []⟩ []))
def Kgt (f0 : W2e) : Kdj → (Kdj → Option DV) → ((Nat → List DV → Option DV) × (Option DV)) → Option DV
  | .h0 c a d b g h, κn, κ => bx (decide (g < b)) (bx (decide (0 ≤ g)) (optE (d[g.toNat]?) (fun i => Kal i 0 (fun v2 v3 v4 v5 v6 v7 v8 v9 v10 v11 v12 => f0 c v2 v3 v4 v5 v6 v7 v8 v9 v10 v11 v12 (fun e => bx (Nat.beq (e.length) 0) (κn (Kdj.h0 c a d b (IntKind.wrap .i64 (g + 1)) h)) (bx (List.all (List.flatten e) Kh0) (bx ((true && true && Nat.ble (a * 11) (h.length) && Nat.ble (a + e.length) maxLen && Nat.ble ((a + e.length) * 160) 140737488355328)) (κn (Kdj.h0 c (a + e.length) d b (IntKind.wrap .i64 (g + 1)) (List.take (a * 11) h ++ (List.flatten e)))) none) none))))) none) (κ.1 a h)
  | .h1 c a d b, κn, κ => bx (decide (b < d)) (bx (decide (0 ≤ b)) (optE (a[b.toNat]?) (fun j => Kal j 0 (fun v15 v16 v17 v18 v19 v20 v21 v22 v23 v24 v25 => f0 c v15 v16 v17 v18 v19 v20 v21 v22 v23 v24 v25 (fun f => bx (Nat.beq (f.length) 0) (κn (Kdj.h1 c a d (IntKind.wrap .i64 (b + 1)))) (bx (List.all (List.flatten f) Kh0) (bx ((Nat.ble (f.length) maxLen && Nat.ble (f.length * 160) 140737488355328)) (κn (Kdj.h0 c (f.length) a d (IntKind.wrap .i64 (b + 1)) (List.flatten f))) none) none))))) none) κ.2
def K3s (s : St) : Option Kdj := orO (hdO K1x K1y s) (hdO K1z K10 s)
def Kz7 (f0 : W2e) : St → KC → Option DV := decR K3s (Kgt f0) Ks4 K46
theorem Wfa : ∀ s x, K3s s = some x → SLe s (Kpt x) := fun _ _ => (Kx6 (Kec (S := Kpt) fun a x h => by unfold K1y at h; split at h <;> cases h; rfl) (Kec (S := Kpt) fun a x h => by unfold K10 at h; split at h <;> cases h; rfl))
def K0f (f0 : W2e) (b c d : W4w) (e f : Int) (g : W4x) (h : W4w) (i j : Int) (l m : W4w) (a : W4x) (k : W4e) : W4y :=
  bx ((c.toList == b.toList)) (LF (Kgt f0) (Ks4 (Kdj.h0 b 1 a (a.length : Int) 0 ([.val (.string c), .val (.string d), .val (.int .i64 e), .val (.int .i64 f), .lst 2 g, .val (.string h), .val (.int .i64 i), .val (.int .i64 j), .val (.string l), .val (.string m), .lst 11 a]))) (Kdj.h0 b 1 a (a.length : Int) 0 ([.val (.string c), .val (.string d), .val (.int .i64 e), .val (.int .i64 f), .lst 2 g, .val (.string h), .val (.int .i64 i), .val (.int .i64 j), .val (.string l), .val (.string m), .lst 11 a])) ((fun n o => bx (Nat.ble (0 + n * 11) (o.length)) (k (Kcy 11 n (List.drop 0 o))) none), (k []))) (LF (Kgt f0) (Ks4 (Kdj.h1 b a (a.length : Int) 0)) (Kdj.h1 b a (a.length : Int) 0) ((fun p q => bx (Nat.ble (0 + p * 11) (q.length)) (k (Kcy 11 p (List.drop 0 q))) none), (k [])))
def Kdf (f0 : W2e) (ds : W4z) (k : W2v) : W4y :=
  match ds with
  | [.val (.string a), .agg [.val (.string b), .val (.string c), .val (.int .i64 d), .val (.int .i64 e), .lst 2 f, .val (.string g), .val (.int .i64 h), .val (.int .i64 i), .val (.string j), .val (.string l), .lst 11 m]] => f0 a b c d e f g h i j l m (fun n => k (.lst 11 n))
  | _ => none
def Kji (N : Nat) : Nat → W2e
  | 0 => (fun _ _ _ _ _ _ _ _ _ _ _ _ _ => none)
  | n + 1 => (K0f (Kji N n))
def Keb (N : Nat) : W2e := Kji N N
theorem Wfb (f0 : W2e) (x : Kdj) (κn : St → Option DV) (κ : KC) : pev Tryz.prog (tab [(30, (Kdf f0))] []) (ltab [(5, Kz7 f0)]) [(0, [0]), (0, []), (5, [0, 5, 17, 18, 19]), (100005, [5])] 64 (Kb9 (Kaf Tryz.f30) 0) (Kpt x) (Ki2 0 [0, 5, 17, 18, 19] [5] κn κ) = Kgt f0 x (fun x => κn (Kpt x)) (K46 κ) := by cases x <;> kernel_rfl
theorem Wfc (f0 : W2e) (HK : Kfv Tryz.prog Inv (tab [(30, (Kdf f0))] [])) : Kjx 0 Tryz.prog Inv (Kb9 (Kaf Tryz.f30) 0) (Kz7 f0) :=
  Kca (lv := [(0, [0]), (0, []), (5, [0, 5, 17, 18, 19]), (100005, [5])]) Kbg HK (Ka5 (bs := []) (by kernel_rfl) Kat) (Wfb f0) Wfa Ks4
theorem Wji (f0 : W2e) : Rd (Kdf (K0f f0)) (pevL Tryz.prog (tab [(30, (Kdf f0))] []) (ltab [(5, Kz7 f0)]) [(0, [0]), (0, []), (5, [0, 5, 17, 18, 19]), (100005, [5])] 64 Tryz.f30 (Kaf Tryz.f30)) := by
  intro ds; unfold Kdf; split
  · exact .inr fun k => by kernel_rfl
  · exact .inl fun _ => rfl
theorem K68 (N : Nat) : ∀ n, Kce Tryz.prog Inv 30 (Kdf (Kji N n))
  | 0 => Khc (by intro ds k; unfold Kdf; split <;> rfl)
  | n + 1 => by
    have ih := K68 N n
    exact Kam (lv := [(0, [0]), (0, []), (5, [0, 5, 17, 18, 19]), (100005, [5])]) Kbg stab (Kbs stab (Kaa (ih) (Kak _ _)) (Kae _ _)) Tryz.func30 (by kernel_rfl) (by kernel_rfl) (Ka5 (bs := [Kb9 (Kaf Tryz.f30) 0]) (by kernel_rfl) (Kbk (by kernel_rfl) (Wfc (Kji N n) (Kbs stab (Kaa (ih) (Kak _ _)) (Kae _ _))) Kat)) (Wji (Kji N n))
theorem Kot (N : Nat) : Kce Tryz.prog Inv 30 (Kdf (Keb N)) := (K68 N N)
inductive Kbi where
  | h0 (a b : W4x) (c d : Int)
def Keu : Kbi → Nat
  | .h0 c d a b => Int.toNat (a - b) + 1
def Kmp : SP := ⟨[(0, .d (.l 2)), (1, .d (.l 2)), (12, .d (.i .i64)), (13, .d (.i .i64))], 26, []⟩
def Kmq : Args → Option Kbi
  | [.l a, .l b, .i c, .i d] => some (.h0 a b c d)
  | _ => none
def Kg7 : Kbi → St
  | .h0 a b c d => fS Kmp [.l a, .l b, .i c, .i d]
def Knq (k : KC) : KB × (Option DV) := (fun a => k .ret (fS ⟨[(4, .d .b)], 26, []⟩ [.b a]), k (.exit 0) (fS ⟨[(4, .dead)], 26, []⟩ []))
def Kd5  : Kbi → (Kbi → Option DV) → (KB × (Option DV)) → Option DV
  | .h0 b c d a, κn, κ => bx (decide (a < d)) (bx (decide (0 ≤ a)) (optE (b[a.toNat]?) (fun e => Ki3 e 0 (fun v2 v3 => bx (decide (0 ≤ a)) (optE (c[a.toNat]?) (fun f => Ki3 f 0 (fun v5 v6 => bx (!(((v2 == v5) && ((v3 == v6) && true)))) (κ.1 false) (κn (Kbi.h0 b c d (IntKind.wrap .i64 (a + 1))))))) none))) none) κ.2
def Km4 (s : St) : Option Kbi := hdO Kmp Kmq s
def Kjq  : St → KC → Option DV := decR Km4 (Kd5 ) Keu Knq
theorem Kyo : ∀ s x, Km4 s = some x → SLe s (Kg7 x) := fun _ _ => (Kec (S := Kg7) fun a x h => by unfold Kmq at h; split at h <;> cases h; rfl)
def Kla  (a b : W4x) (k : KB) : W4y :=
  bx ((a.length : Int) != (b.length : Int)) (k false) (LF (Kd5 ) (Keu (Kbi.h0 a b (a.length : Int) 0)) (Kbi.h0 a b (a.length : Int) 0) ((fun c => k c), (k true)))
def Kc3 (f0 : W2y) (ds : W4z) (k : W2v) : W4y :=
  match ds with
  | [.lst 2 a, .lst 2 b] => f0 a b (fun c => k (.val (.bool c)))
  | _ => none
def Kbc : W2y := Kla
theorem Kyp  (x : Kbi) (κn : St → Option DV) (κ : KC) : pev Tryz.prog (tab [] []) (ltab [(4, Kjq )]) [(0, [0]), (0, []), (4, [0, 1, 12, 13]), (100004, [4])] 64 (Kb9 (Kaf Tryz.f47) 0) (Kg7 x) (Ki2 0 [0, 1, 12, 13] [4] κn κ) = Kd5  x (fun x => κn (Kg7 x)) (Knq κ) := by cases x <;> kernel_rfl
theorem Kyq  (HK : Kfv Tryz.prog Inv (tab [] [])) : Kjx 0 Tryz.prog Inv (Kb9 (Kaf Tryz.f47) 0) (Kjq ) :=
  Kca (lv := [(0, [0]), (0, []), (4, [0, 1, 12, 13]), (100004, [4])]) Kbg HK (Ka5 (bs := []) (by kernel_rfl) Kat) (Kyp ) Kyo Keu
theorem K0y  : Rd (Kc3 (Kla )) (pevL Tryz.prog (tab [] []) (ltab [(4, Kjq )]) [(0, [0]), (0, []), (4, [0, 1, 12, 13]), (100004, [4])] 64 Tryz.f47 (Kaf Tryz.f47)) := by
  intro ds; unfold Kc3; split
  · exact .inr fun k => by kernel_rfl
  · exact .inl fun _ => rfl
theorem Klb : Kce Tryz.prog Inv 47 (Kc3 Kbc) :=
  Kam (lv := [(0, [0]), (0, []), (4, [0, 1, 12, 13]), (100004, [4])]) Kbg stab (Kbs stab (Kak _ _) (Kae _ _)) Tryz.func47 (by kernel_rfl) (by kernel_rfl) (Ka5 (bs := [Kb9 (Kaf Tryz.f47) 0]) (by kernel_rfl) (Kbk (by kernel_rfl) (Kyq  (Kbs stab (Kak _ _) (Kae _ _))) Kat)) (K0y )
inductive Kc8 where
  | h0 (a : W4x) (b c : Int) (d e : W4w) (f g : Int) (h : W4x) (i : W4w) (j l : Int) (m n : W4w) (o : W4x) (p : List (ByteArray × DV))
def Kjr : Kc8 → Nat
  | .h0 c a b d e f g h i j l m n o p => Int.toNat (a - b) + 1
inductive Kb5 where
  | h0 (a : W4x) (b c : Int) (d : List (ByteArray × DV)) (e : List (ByteArray × DV))
def Khh : Kb5 → Nat
  | .h0 c a b d e => Int.toNat (a - b) + 1
def Kwc : SP := ⟨[(1, .ptr 0 0), (3, .mp 1), (15, .d (.l 11)), (16, .d (.i .i64)), (17, .d (.i .i64))], 68, [BP0, .dict]⟩
def Kwd : Args → Option Kc8
  | [.l a, .i b, .i c, .s e, .s f, .i g, .i h, .l j, .s m, .i n, .i o, .s p, .s q, .l r, .d t] => some (.h0 a b c e f g h j m n o p q r t)
  | _ => none
def Knk : Kc8 → St
  | .h0 a b c e f g h j m n o p q r t => fS Kwc [.l a, .i b, .i c, .s e, .s f, .i g, .i h, .l j, .s m, .i n, .i o, .s p, .s q, .l r, .d t]
def Kyr (k : KC) : (Bool → ByteArray → ByteArray → Int → Int → List (List DV) → ByteArray → Int → Int → ByteArray → ByteArray → List (List DV) → List (ByteArray × DV) → Option DV) × (ByteArray → ByteArray → Int → Int → List (List DV) → ByteArray → Int → Int → ByteArray → ByteArray → List (List DV) → List (ByteArray × DV) → Option DV) := (fun a c e f g h j m n o p q r => k .ret (fS ⟨[(1, .ptr 0 0), (2, .d .b), (3, .mp 1)], 68, [BP0, .dict]⟩ [.b a, .s c, .s e, .i f, .i g, .l h, .s j, .i m, .i n, .s o, .s p, .l q, .d r]), fun a c e f g h j m n o p q => k (.exit 0) (fS ⟨[(1, .ptr 0 0), (2, .dead), (3, .mp 1)], 68, [BP0, .dict]⟩ [.s a, .s c, .i e, .i f, .l g, .s h, .i j, .i m, .s n, .s o, .l p, .d q]))
def Ken (f0 : W2y) (f1 : W2e) : Kc8 → (Kc8 → Option DV) → ((Bool → ByteArray → ByteArray → Int → Int → List (List DV) → ByteArray → Int → Int → ByteArray → ByteArray → List (List DV) → List (ByteArray × DV) → Option DV) × (ByteArray → ByteArray → Int → Int → List (List DV) → ByteArray → Int → Int → ByteArray → ByteArray → List (List DV) → List (ByteArray × DV) → Option DV)) → Option DV
  | .h0 o p a c d e f g h i j l m n b, κn, κ => bx (decide (a < p)) (bx (decide (0 ≤ a)) (optE (o[a.toNat]?) (fun q => Kal q 0 (fun v3 v4 v5 v6 v7 v8 v9 v10 v11 v12 v13 => optV (dget b v4) (fun r => Wwi ([r]) 0 (fun v15 => f0 v15 v7 (fun s => bx (!s) (κ.1 false c d e f g h i j l m n b) (κn (Kc8.h0 o p (IntKind.wrap .i64 (a + 1)) c d e f g h i j l m n (dset b v4 (.lst 2 v7))))))) (κn (Kc8.h0 o p (IntKind.wrap .i64 (a + 1)) c d e f g h i j l m n (dset b v4 (.lst 2 v7))))))) none) (κ.2 c d e f g h i j l m n b)
def Kxn (s : St) : Option Kc8 := hdO Kwc Kwd s
def Knl (f0 : W2y) (f1 : W2e) : St → KC → Option DV := decR Kxn (Ken f0 f1) Kjr Kyr
theorem K9h : ∀ s x, Kxn s = some x → SLe s (Knk x) := fun _ _ => (Kec (S := Knk) fun a x h => by unfold Kwd at h; split at h <;> cases h; rfl)
def Ku9 : SP := ⟨[(3, .mp 0), (8, .mp 1), (44, .d (.l 11)), (45, .d (.i .i64)), (46, .d (.i .i64))], 68, [.dict, .dict]⟩
def Kva : Args → Option Kb5
  | [.l a, .i b, .i c, .d e, .d f] => some (.h0 a b c e f)
  | _ => none
def Kmk : Kb5 → St
  | .h0 a b c e f => fS Ku9 [.l a, .i b, .i c, .d e, .d f]
def Kxo (k : KC) : KB × (Option DV) := (fun a => k .ret (fS ⟨[(2, .d .b)], 68, []⟩ [.b a]), k (.exit 2) (fS ⟨[(2, .dead)], 68, []⟩ []))
def Kdz (f0 : W2y) (f1 : W2e) : Kb5 → (Kb5 → Option DV) → (KB × (Option DV)) → Option DV
  | .h0 b c a d e, κn, κ => bx (decide (a < c)) (bx (decide (0 ≤ a)) (optE (b[a.toNat]?) (fun f => Kal f 0 (fun v21 v22 v23 v24 v25 v26 v27 v28 v29 v30 v31 => optV (dget d v22) (fun g => Wwi ([g]) 0 (fun v33 => κ.1 false)) (optV (dget e v22) (fun h => ld_b ([h]) 0 (fun v35 => bx (v35) (κ.1 false) (κn (Kb5.h0 b c (IntKind.wrap .i64 (a + 1)) d (dset e v22 (.val (.bool true))))))) (κn (Kb5.h0 b c (IntKind.wrap .i64 (a + 1)) d (dset e v22 (.val (.bool true))))))))) none) κ.2
def Kwe (s : St) : Option Kb5 := hdO Ku9 Kva s
def Kml (f0 : W2y) (f1 : W2e) : St → KC → Option DV := decR Kwe (Kdz f0 f1) Khh Kxo
theorem K8j : ∀ s x, Kwe s = some x → SLe s (Kmk x) := fun _ _ => (Kec (S := Kmk) fun a x h => by unfold Kva at h; split at h <;> cases h; rfl)
def Kqz (f0 : W2y) (f1 : W2e) (c d : W4w) (e f : Int) (g : W4x) (h : W4w) (i j : Int) (l m : W4w) (n : W4x) (k : KB) : W4y :=
  f1 (⟨#[107, 110, 111, 98]⟩) c d e f g h i j l m n (fun a => LF (Ken f0 f1) (Kjr (Kc8.h0 a (a.length : Int) 0 c d e f g h i j l m n ([] : List (ByteArray × DV)))) (Kc8.h0 a (a.length : Int) 0 c d e f g h i j l m n ([] : List (ByteArray × DV))) ((fun p ac ad ae af ag ah ai aj al am an ao => k p), (fun q r s t u v w x y z aa o => f1 (⟨#[115, 104, 111, 119]⟩) q r s t u v w x y z aa (fun b => LF (Kdz f0 f1) (Khh (Kb5.h0 b (b.length : Int) 0 o ([] : List (ByteArray × DV)))) (Kb5.h0 b (b.length : Int) 0 o ([] : List (ByteArray × DV))) ((fun ab => k ab), (k true))))))
def Ko3 (f0 : W19) (ds : W4z) (k : W2v) : W4y :=
  match ds with
  | [.agg [.val (.string a), .val (.string b), .val (.int .i64 c), .val (.int .i64 d), .lst 2 e, .val (.string f), .val (.int .i64 g), .val (.int .i64 h), .val (.string i), .val (.string j), .lst 11 l]] => f0 a b c d e f g h i j l (fun m => k (.val (.bool m)))
  | _ => none
def Kkg (N : Nat) : W19 := Kqz Kbc (Keb N)
theorem K9i (f0 : W2y) (f1 : W2e) (x : Kc8) (κn : St → Option DV) (κ : KC) : pev Tryz.prog (tab [(30, (Kdf f1)), (47, (Kc3 f0))] []) (ltab [(3, Knl f0 f1), (12, Kml f0 f1)]) [(0, [0]), (0, []), (3, [1, 3, 15, 16, 17]), (100003, [1, 2, 3]), (12, [3, 8, 44, 45, 46]), (100012, [2])] 64 (Kb9 (Kaf Tryz.f28) 0) (Knk x) (Ki2 0 [1, 3, 15, 16, 17] [1, 2, 3] κn κ) = Ken f0 f1 x (fun x => κn (Knk x)) (Kyr κ) := by cases x <;> kernel_rfl
theorem K9j (f0 : W2y) (f1 : W2e) (HK : Kfv Tryz.prog Inv (tab [(30, (Kdf f1)), (47, (Kc3 f0))] [])) : Kjx 0 Tryz.prog Inv (Kb9 (Kaf Tryz.f28) 0) (Knl f0 f1) :=
  Kca (lv := [(0, [0]), (0, []), (3, [1, 3, 15, 16, 17]), (100003, [1, 2, 3]), (12, [3, 8, 44, 45, 46]), (100012, [2])]) Kbg HK (Ka5 (bs := []) (by kernel_rfl) Kat) (K9i f0 f1) K9h Kjr
theorem K8k (f0 : W2y) (f1 : W2e) (x : Kb5) (κn : St → Option DV) (κ : KC) : pev Tryz.prog (tab [(30, (Kdf f1)), (47, (Kc3 f0))] []) (ltab [(3, Knl f0 f1), (12, Kml f0 f1)]) [(0, [0]), (0, []), (3, [1, 3, 15, 16, 17]), (100003, [1, 2, 3]), (12, [3, 8, 44, 45, 46]), (100012, [2])] 64 (Kb9 (Kaf Tryz.f28) 1) (Kmk x) (Ki2 0 [3, 8, 44, 45, 46] [2] κn κ) = Kdz f0 f1 x (fun x => κn (Kmk x)) (Kxo κ) := by cases x <;> kernel_rfl
theorem K8l (f0 : W2y) (f1 : W2e) (HK : Kfv Tryz.prog Inv (tab [(30, (Kdf f1)), (47, (Kc3 f0))] [])) : Kjx 0 Tryz.prog Inv (Kb9 (Kaf Tryz.f28) 1) (Kml f0 f1) :=
  Kca (lv := [(0, [0]), (0, []), (3, [1, 3, 15, 16, 17]), (100003, [1, 2, 3]), (12, [3, 8, 44, 45, 46]), (100012, [2])]) Kbg HK (Ka5 (bs := []) (by kernel_rfl) Kat) (K8k f0 f1) K8j Khh
theorem Wcl (f0 : W2y) (f1 : W2e) : Rd (Ko3 (Kqz f0 f1)) (pevL Tryz.prog (tab [(30, (Kdf f1)), (47, (Kc3 f0))] []) (ltab [(3, Knl f0 f1), (12, Kml f0 f1)]) [(0, [0]), (0, []), (3, [1, 3, 15, 16, 17]), (100003, [1, 2, 3]), (12, [3, 8, 44, 45, 46]), (100012, [2])] 64 Tryz.f28 (Kaf Tryz.f28)) := by
  intro ds; unfold Ko3; split
  · exact .inr fun k => by kernel_rfl
  · exact .inl fun _ => rfl
theorem Wcm (N : Nat) : Kce Tryz.prog Inv 28 (Ko3 (Kkg N)) :=
  Kam (lv := [(0, [0]), (0, []), (3, [1, 3, 15, 16, 17]), (100003, [1, 2, 3]), (12, [3, 8, 44, 45, 46]), (100012, [2])]) Kbg stab (Kbs stab (Kaa (Kot N) (Kaa Klb (Kak _ _))) (Kae _ _)) Tryz.func28 (by kernel_rfl) (by kernel_rfl) (Ka5 (bs := [Kb9 (Kaf Tryz.f28) 0, Kb9 (Kaf Tryz.f28) 1]) (by kernel_rfl) (Kbk (by kernel_rfl) (K9j Kbc (Keb N) (Kbs stab (Kaa (Kot N) (Kaa Klb (Kak _ _))) (Kae _ _))) (Kbk (by kernel_rfl) (K8l Kbc (Keb N) (Kbs stab (Kaa (Kot N) (Kaa Klb (Kak _ _))) (Kae _ _))) Kat))) (Wcl Kbc (Keb N))
def K2n (f0 : W19) (f1 : W18) (f2 f3 : W17) (f4 : W19) (a b : W4w) (c d : Int) (e : W4x) (f : W4w) (g h : Int) (i j : W4w) (l : W4x) (k : W24) : W4y :=
  f4 a b c d e f g h i j l (fun n => bx (!n) (k 0 0 2) (f3 a b c d e f g h i j l (fun o => bx (!(decide (o > 600))) (f2 a b c d e f g h i j l (fun p => bx (decide (p > 60)) (k 0 0 4) (f1 a b c d e f g h i j l (fun q r m => bx (m != 0) (k 0 0 m) (f0 a b c d e f g h i j l (fun s => bx (!s) (k 0 0 8) (k q r 0))))))) (k 0 0 4))))
def Kf1 (f0 : W18) (ds : W4z) (k : W2v) : W4y :=
  match ds with
  | [.agg [.val (.string a), .val (.string b), .val (.int .i64 c), .val (.int .i64 d), .lst 2 e, .val (.string f), .val (.int .i64 g), .val (.int .i64 h), .val (.string i), .val (.string j), .lst 11 l]] => f0 a b c d e f g h i j l (fun m n o => k (.val (.tuple ⟨[.int .i64 m, .int .i64 n, .int .i64 o]⟩)))
  | _ => none
def Khr (N : Nat) : W18 := K2n (Kkg N) (Kyn N) (Kqq N) (Kun N) (Kjp N)
theorem Wlv (f0 : W19) (f1 : W18) (f2 f3 : W17) (f4 : W19) : Rd (Kf1 (K2n f0 f1 f2 f3 f4)) (pevL Tryz.prog (tab [(8, (Kg4 f3)), (10, (Kfw f2)), (26, (Kiv f4)), (27, (Kiw f1)), (28, (Ko3 f0))] []) noL [] 64 Tryz.f7 (Kaf Tryz.f7)) := by
  intro ds; unfold Kf1; split
  · exact .inr fun k => by kernel_rfl
  · exact .inl fun _ => rfl
theorem Kq0 (N : Nat) : Kce Tryz.prog Inv 7 (Kf1 (Khr N)) :=
  Kam (lv := []) Kbg stab (Kbs stab (Kaa (K4y N) (Kaa (K2k N) (Kaa (K3q N) (Kaa (Wi2 N) (Kaa (Wcm N) (Kak _ _)))))) (Kae _ _)) Tryz.func7 (by kernel_rfl) (by kernel_rfl) (Kdc.none _ _ _) (Wlv (Kkg N) (Kyn N) (Kqq N) (Kun N) (Kjp N))
end Go.Proofs.YtgohccjmphapfaaGreatDoor
end
