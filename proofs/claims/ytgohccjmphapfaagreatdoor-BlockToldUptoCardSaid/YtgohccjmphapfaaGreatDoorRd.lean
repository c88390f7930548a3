import Derived.Test.YtgohccjmphapfaaGreatDoorRc
set_option linter.all false
noncomputable section
namespace Go.Proofs.YtgohccjmphapfaaGreatDoor
open Go.Pv Go.RowKit
set_option maxRecDepth 100000
inductive Khx where
  | h0 (a : Int) (b : W4x) (c d : Int)
def Kuo : Khx → Nat
  | .h0 c d a b => Int.toNat (a - b) + 1
def K3g : SP := ⟨[(3, .d (.i .i64)), (7, .d (.l 11)), (8, .d (.i .i64)), (9, .d (.i .i64))], 20, []⟩
def K3h : Args → Option Khx
  | [.i a, .l b, .i c, .i d] => some (.h0 a b c d)
  | _ => none
def Kws : Khx → St
  | .h0 a b c d => fS K3g [.i a, .l b, .i c, .i d]
def K62 (k : KC) : KI := (fun a => k (.exit 0) (fS ⟨[(3, .d (.i .i64))], 20, []⟩ [.i a]))
def Knw (f0 : W17) : Khx → (Khx → Option DV) → (KI) → Option DV
  | .h0 b c d a, κn, κ => bx (decide (a < d)) (bx (decide (0 ≤ a)) (optE (c[a.toNat]?) (fun f => Kal f 0 (fun v2 v3 v4 v5 v6 v7 v8 v9 v10 v11 v12 => f0 v2 v3 v4 v5 v6 v7 v8 v9 v10 v11 v12 (fun e => κn (Khx.h0 (if e > b then e else b) c d (IntKind.wrap .i64 (a + 1))))))) none) (κ b)
def K4z (s : St) : Option Khx := hdO K3g K3h s
def K1n (f0 : W17) : St → KC → Option DV := decR K4z (Knw f0) Kuo K62
theorem Wf6 : ∀ s x, K4z s = some x → SLe s (Kws x) := fun _ _ => (Kec (S := Kws) fun a x h => by unfold K3h at h; split at h <;> cases h; rfl)
def Wdw (f0 : W17) (c d : W4w) (e f : Int) (g : W4x) (h : W4w) (i j : Int) (l m : W4w) (a : W4x) (k : KI) : W4y :=
  LF (Knw f0) (Kuo (Khx.h0 0 a (a.length : Int) 0)) (Khx.h0 0 a (a.length : Int) 0) ((fun b => k (IntKind.wrap .i64 (1 + b))))
def Kfw (f0 : W17) (ds : W4z) (k : W2v) : W4y :=
  match ds with
  | [.agg [.val (.string a), .val (.string b), .val (.int .i64 c), .val (.int .i64 d), .lst 2 e, .val (.string f), .val (.int .i64 g), .val (.int .i64 h), .val (.string i), .val (.string j), .lst 11 l]] => f0 a b c d e f g h i j l (fun m => k (.val (.int .i64 m)))
  | _ => none
def Kn2 (N : Nat) : Nat → W17
  | 0 => (fun _ _ _ _ _ _ _ _ _ _ _ _ => none)
  | n + 1 => (Wdw (Kn2 N n))
def Kqq (N : Nat) : W17 := Kn2 N N
theorem Wf7 (f0 : W17) (x : Khx) (κn : St → Option DV) (κ : KC) : pev Tryz.prog (tab [(10, (Kfw f0))] []) (ltab [(3, K1n f0)]) [(0, [0]), (0, []), (3, [3, 7, 8, 9]), (100003, [3])] 64 (Kb9 (Kaf Tryz.f10) 0) (Kws x) (Ki2 0 [3, 7, 8, 9] [3] κn κ) = Knw f0 x (fun x => κn (Kws x)) (K62 κ) := by cases x <;> kernel_rfl
theorem Wf8 (f0 : W17) (HK : Kfv Tryz.prog Inv (tab [(10, (Kfw f0))] [])) : Kjx 0 Tryz.prog Inv (Kb9 (Kaf Tryz.f10) 0) (K1n f0) :=
  Kca (lv := [(0, [0]), (0, []), (3, [3, 7, 8, 9]), (100003, [3])]) Kbg HK (Ka5 (bs := []) (by kernel_rfl) Kat) (Wf7 f0) Wf6 Kuo
theorem Wls (f0 : W17) : Rd (Kfw (Wdw f0)) (pevL Tryz.prog (tab [(10, (Kfw f0))] []) (ltab [(3, K1n f0)]) [(0, [0]), (0, []), (3, [3, 7, 8, 9]), (100003, [3])] 64 Tryz.f10 (Kaf Tryz.f10)) := by
  intro ds; unfold Kfw; split
  · exact .inr fun k => by kernel_rfl
  · exact .inl fun _ => rfl
theorem K83 (N : Nat) : ∀ n, Kce Tryz.prog Inv 10 (Kfw (Kn2 N n))
  | 0 => Khc (by intro ds k; unfold Kfw; split <;> rfl)
  | n + 1 => by
    have ih := K83 N n
    exact Kam (lv := [(0, [0]), (0, []), (3, [3, 7, 8, 9]), (100003, [3])]) Kbg stab (Kbs stab (Kaa (ih) (Kak _ _)) (Kae _ _)) Tryz.func10 (by kernel_rfl) (by kernel_rfl) (Ka5 (bs := [Kb9 (Kaf Tryz.f10) 0]) (by kernel_rfl) (Kbk (by kernel_rfl) (Wf8 (Kn2 N n) (Kbs stab (Kaa (ih) (Kak _ _)) (Kae _ _))) Kat)) (Wls (Kn2 N n))
theorem K2k (N : Nat) : Kce Tryz.prog Inv 10 (Kfw (Kqq N)) := (K83 N N)
def K3i  (a : W4w) (k : W4b) : W4y :=
  bx ((a.toList == ByteArray.toList (⟨#[99, 117, 116]⟩))) (k 1 0 0 0 false false false true) (bx ((a.toList == ByteArray.toList (⟨#[119, 105, 114, 101]⟩))) (k 1 1 0 0 false false false true) (bx ((a.toList == ByteArray.toList (⟨#[110, 101, 103]⟩))) (k 1 1 0 0 false false false true) (bx ((a.toList == ByteArray.toList (⟨#[97, 98, 115]⟩))) (k 1 1 0 0 false false false true) (bx ((a.toList == ByteArray.toList (⟨#[102, 108, 111, 111, 114]⟩))) (k 1 1 0 0 false false false true) (bx ((a.toList == ByteArray.toList (⟨#[114, 111, 117, 110, 100]⟩))) (k 1 1 0 0 false false false true) (bx ((a.toList == ByteArray.toList (⟨#[102, 114, 97, 99]⟩))) (k 1 1 0 0 false false false true) (bx ((a.toList == ByteArray.toList (⟨#[110, 111, 116]⟩))) (k 1 1 0 0 false false false true) (bx ((a.toList == ByteArray.toList (⟨#[97, 100, 100]⟩))) (k 2 1 0 0 false false false true) (bx ((a.toList == ByteArray.toList (⟨#[115, 117, 98]⟩))) (k 2 1 0 0 false false false true) (bx ((a.toList == ByteArray.toList (⟨#[109, 117, 108]⟩))) (k 2 1 0 0 false false false true) (bx ((a.toList == ByteArray.toList (⟨#[100, 105, 118]⟩))) (k 2 1 0 0 false false false true) (bx ((a.toList == ByteArray.toList (⟨#[109, 111, 100]⟩))) (k 2 1 0 0 false false false true) (bx ((a.toList == ByteArray.toList (⟨#[109, 105, 110]⟩))) (k 2 1 0 0 false false false true) (bx ((a.toList == ByteArray.toList (⟨#[109, 97, 120]⟩))) (k 2 1 0 0 false false false true) (bx ((a.toList == ByteArray.toList (⟨#[108, 116]⟩))) (k 2 1 0 0 false false false true) (bx ((a.toList == ByteArray.toList (⟨#[108, 101]⟩))) (k 2 1 0 0 false false false true) (bx ((a.toList == ByteArray.toList (⟨#[101, 113]⟩))) (k 2 1 0 0 false false false true) (bx ((a.toList == ByteArray.toList (⟨#[110, 101]⟩))) (k 2 1 0 0 false false false true) (bx ((a.toList == ByteArray.toList (⟨#[97, 110, 100]⟩))) (k 2 1 0 0 false false false true) (bx ((a.toList == ByteArray.toList (⟨#[111, 114]⟩))) (k 2 1 0 0 false false false true) (bx ((a.toList == ByteArray.toList (⟨#[120, 111, 114]⟩))) (k 2 1 0 0 false false false true) (bx ((a.toList == ByteArray.toList (⟨#[115, 104, 108]⟩))) (k 2 1 0 0 false false false true) (bx ((a.toList == ByteArray.toList (⟨#[115, 104, 114]⟩))) (k 2 1 0 0 false false false true) (bx ((a.toList == ByteArray.toList (⟨#[112, 105, 99, 107]⟩))) (k 3 1 0 0 false false false true) (bx ((a.toList == ByteArray.toList (⟨#[102, 105, 116]⟩))) (k 1 1 0 0 true false false true) (bx ((a.toList == ByteArray.toList (⟨#[100, 101, 108, 97, 121]⟩))) (k 1 1 0 1 false false false true) (bx ((a.toList == ByteArray.toList (⟨#[118, 97, 114, 121]⟩))) (k 2 1 0 2 false false false true) (bx ((a.toList == ByteArray.toList (⟨#[110, 117, 109]⟩))) (k 0 1 0 0 false false true true) (bx ((a.toList == ByteArray.toList (⟨#[119, 97, 118, 101]⟩))) (k 0 1 0 0 false false true true) (bx ((a.toList == ByteArray.toList (⟨#[116, 97, 98, 108, 101]⟩))) (k 1 1 0 0 false false true true) (bx ((a.toList == ByteArray.toList (⟨#[115, 116, 111, 114, 101]⟩))) (k 3 1 0 0 false false true true) (bx ((a.toList == ByteArray.toList (⟨#[107, 110, 111, 98]⟩))) (k 0 1 0 0 false true true true) (bx ((a.toList == ByteArray.toList (⟨#[115, 104, 111, 119]⟩))) (k 1 1 0 0 false true false true) (bx ((a.toList == ByteArray.toList (⟨#[112, 97, 114]⟩))) (k 0 0 2 0 false false false true) (bx ((a.toList == ByteArray.toList (⟨#[115, 101, 113]⟩))) (k 0 0 2 0 false false false true) (bx ((a.toList == ByteArray.toList (⟨#[115, 112, 108, 105, 116]⟩))) (k 0 0 2 0 false false false true) (bx ((a.toList == ByteArray.toList (⟨#[109, 101, 114, 103, 101]⟩))) (k 0 0 2 0 false false false true) (bx ((a.toList == ByteArray.toList (⟨#[114, 101, 99]⟩))) (k 0 0 2 0 false false false true) (bx ((a.toList == ByteArray.toList (⟨#[117, 112]⟩))) (k 0 0 1 1 false false false true) (bx ((a.toList == ByteArray.toList (⟨#[100, 111, 119, 110]⟩))) (k 0 0 1 1 false false false true) (bx ((a.toList == ByteArray.toList (⟨#[103, 97, 116, 101]⟩))) (k 0 0 1 0 false false false true) (bx ((a.toList == ByteArray.toList (⟨#[114, 101, 115, 101, 116]⟩))) (k 0 0 1 0 false false false true) (k 0 0 0 0 false false false false)))))))))))))))))))))))))))))))))))))))))))
def Kbx (f0 : W2h) (ds : W4z) (k : W2v) : W4y :=
  match ds with
  | [.val (.string a)] => f0 a (fun b c d e f g h i => k (.val (.tuple ⟨[.agg ⟨[.int .i64 b, .int .i64 c, .int .i64 d, .int .i64 e, .bool f, .bool g, .bool h]⟩, .bool i]⟩)))
  | _ => none
def Kbh : W2h := K3i
theorem Wiq  : Rd (Kbx (K3i )) (pevL Tryz.prog (tab [] []) noL [] 64 Tryz.f49 (Kaf Tryz.f49)) := by
  intro ds; unfold Kbx; split
  · exact .inr fun k => by kernel_rfl
  · exact .inl fun _ => rfl
theorem Kho : Kce Tryz.prog Inv 49 (Kbx Kbh) :=
  Kam (lv := []) Kbg stab (Kbs stab (Kak _ _) (Kae _ _)) Tryz.func49 (by kernel_rfl) (by kernel_rfl) (Kdc.none _ _ _) (Wiq )
def Kvu (f0 : W2h) (n c : W4w) (o m : Int) (a : W4x) (e : W4w) (f g : Int) (h i : W4w) (p : W4x) (k : KB) : W4y :=
  f0 n (fun s t q l j d b r => bx (r) (bx ((p.length : Int) == q) (bx (!(decide (l ≥ 1))) (bx (o == 0) (bx (!(decide (l ≥ 2))) (bx (m == 0) (bx (!j) (bx (((e.toList == ByteArray.toList (⟨#[]⟩)) && ((f == 0) && ((g == 0) && ((h.toList == ByteArray.toList (⟨#[]⟩)) && ((i.toList == ByteArray.toList (⟨#[]⟩)) && true)))))) (bx (!d) (bx ((c.toList == ByteArray.toList (⟨#[]⟩))) (bx (!b) (k ((a.length : Int) == 0)) (k true)) (k false)) (bx (!b) (k ((a.length : Int) == 0)) (k true))) (k false)) (bx (!d) (bx ((c.toList == ByteArray.toList (⟨#[]⟩))) (bx (!b) (k ((a.length : Int) == 0)) (k true)) (k false)) (bx (!b) (k ((a.length : Int) == 0)) (k true)))) (k false)) (bx (!j) (bx (((e.toList == ByteArray.toList (⟨#[]⟩)) && ((f == 0) && ((g == 0) && ((h.toList == ByteArray.toList (⟨#[]⟩)) && ((i.toList == ByteArray.toList (⟨#[]⟩)) && true)))))) (bx (!d) (bx ((c.toList == ByteArray.toList (⟨#[]⟩))) (bx (!b) (k ((a.length : Int) == 0)) (k true)) (k false)) (bx (!b) (k ((a.length : Int) == 0)) (k true))) (k false)) (bx (!d) (bx ((c.toList == ByteArray.toList (⟨#[]⟩))) (bx (!b) (k ((a.length : Int) == 0)) (k true)) (k false)) (bx (!b) (k ((a.length : Int) == 0)) (k true))))) (k false)) (bx (!(decide (l ≥ 2))) (bx (m == 0) (bx (!j) (bx (((e.toList == ByteArray.toList (⟨#[]⟩)) && ((f == 0) && ((g == 0) && ((h.toList == ByteArray.toList (⟨#[]⟩)) && ((i.toList == ByteArray.toList (⟨#[]⟩)) && true)))))) (bx (!d) (bx ((c.toList == ByteArray.toList (⟨#[]⟩))) (bx (!b) (k ((a.length : Int) == 0)) (k true)) (k false)) (bx (!b) (k ((a.length : Int) == 0)) (k true))) (k false)) (bx (!d) (bx ((c.toList == ByteArray.toList (⟨#[]⟩))) (bx (!b) (k ((a.length : Int) == 0)) (k true)) (k false)) (bx (!b) (k ((a.length : Int) == 0)) (k true)))) (k false)) (bx (!j) (bx (((e.toList == ByteArray.toList (⟨#[]⟩)) && ((f == 0) && ((g == 0) && ((h.toList == ByteArray.toList (⟨#[]⟩)) && ((i.toList == ByteArray.toList (⟨#[]⟩)) && true)))))) (bx (!d) (bx ((c.toList == ByteArray.toList (⟨#[]⟩))) (bx (!b) (k ((a.length : Int) == 0)) (k true)) (k false)) (bx (!b) (k ((a.length : Int) == 0)) (k true))) (k false)) (bx (!d) (bx ((c.toList == ByteArray.toList (⟨#[]⟩))) (bx (!b) (k ((a.length : Int) == 0)) (k true)) (k false)) (bx (!b) (k ((a.length : Int) == 0)) (k true)))))) (k false)) (k false))
def Kn3 (f0 : W19) (ds : W4z) (k : W2v) : W4y :=
  match ds with
  | [.agg [.val (.string a), .val (.string b), .val (.int .i64 c), .val (.int .i64 d), .lst 2 e, .val (.string f), .val (.int .i64 g), .val (.int .i64 h), .val (.string i), .val (.string j), .lst 11 l]] => f0 a b c d e f g h i j l (fun m => k (.val (.bool m)))
  | _ => none
def Klj : W19 := Kvu Kbh
theorem Wbh (f0 : W2h) : Rd (Kn3 (Kvu f0)) (pevL Tryz.prog (tab [(49, (Kbx f0))] []) noL [] 64 Tryz.f42 (Kaf Tryz.f42)) := by
  intro ds; unfold Kn3; split
  · exact .inr fun k => by kernel_rfl
  · exact .inl fun _ => rfl
theorem Wbi : Kce Tryz.prog Inv 42 (Kn3 Klj) :=
  Kam (lv := []) Kbg stab (Kbs stab (Kaa Kho (Kak _ _)) (Kae _ _)) Tryz.func42 (by kernel_rfl) (by kernel_rfl) (Kdc.none _ _ _) (Wbh Kbh)
inductive Kci where
  | h0 (a b : Int)
def Kqr : Kci → Nat
  | .h0 a b => 200
def K0p : SP := ⟨[(0, .d (.i .u64)), (1, .d (.i .u64))], 12, []⟩
def K0q : Args → Option Kci
  | [.i a, .i b] => some (.h0 a b)
  | _ => none
def Ksy : Kci → St
  | .h0 a b => fS K0p [.i a, .i b]
def K3j (k : KC) : KI := (fun a => k (.exit 0) (fS ⟨[(0, .d (.i .u64))], 12, []⟩ [.i a]))
def Kfx  (c : Kci → Nat) : Kci → (Kci → Option DV) → (KI) → Option DV
  | .h0 b a, κn, κ => bx (a != 0) (bx (a == 0) none (κn (Kci.h0 a (Int.tmod b a)))) (κ b)
def K1t (s : St) : Option Kci := hdO K0p K0q s
def Kx9  (a : Kci → Nat) : St → KC → Option DV := decR K1t (Kfx  a) a K3j
theorem Wdx : ∀ s x, K1t s = some x → SLe s (Ksy x) := fun _ _ => (Kec (S := Ksy) fun a x h => by unfold K0q at h; split at h <;> cases h; rfl)
def K3k  (a : Kci → Nat) (b c : Int) (k : KI) : W4y :=
  LF (Kfx  a) (a (Kci.h0 b c)) (Kci.h0 b c) ((fun d => k d))
def Krg (f0 : W23) (ds : W4z) (k : W2v) : W4y :=
  match ds with
  | [.val (.int .u64 a), .val (.int .u64 b)] => f0 a b (fun c => k (.val (.int .u64 c)))
  | _ => none
def Kqs : W23 := K3k  Kqr
theorem Wdy  (a : Kci → Nat) (x : Kci) (κn : St → Option DV) (κ : KC) : pev Tryz.prog (tab [] []) (ltab [(1, Kx9  a)]) [(0, [0]), (0, []), (1, [0, 1]), (100001, [0])] 64 (Kb9 (Kaf Tryz.f122) 0) (Ksy x) (Ki2 0 [0, 1] [0] κn κ) = Kfx  a x (fun x => κn (Ksy x)) (K3j κ) := by cases x <;> kernel_rfl
theorem Wdz  (a : Kci → Nat) (HK : Kfv Tryz.prog Inv (tab [] [])) : Kjx 0 Tryz.prog Inv (Kb9 (Kaf Tryz.f122) 0) (Kx9  a) :=
  Kca (lv := [(0, [0]), (0, []), (1, [0, 1]), (100001, [0])]) Kbg HK (Ka5 (bs := []) (by kernel_rfl) Kat) (Wdy  a) Wdx a
theorem Wir  (a : Kci → Nat) : Rd (Krg (K3k  a)) (pevL Tryz.prog (tab [] []) (ltab [(1, Kx9  a)]) [(0, [0]), (0, []), (1, [0, 1]), (100001, [0])] 64 Tryz.f122 (Kaf Tryz.f122)) := by
  intro ds; unfold Krg; split
  · exact .inr fun k => by kernel_rfl
  · exact .inl fun _ => rfl
theorem Wad : Kce Tryz.prog Inv 122 (Krg Kqs) :=
  Kam (lv := [(0, [0]), (0, []), (1, [0, 1]), (100001, [0])]) Kbg stab (Kbs stab (Kak _ _) (Kae _ _)) Tryz.func122 (by kernel_rfl) (by kernel_rfl) (Ka5 (bs := [Kb9 (Kaf Tryz.f122) 0]) (by kernel_rfl) (Kbk (by kernel_rfl) (Wdz  Kqr (Kbs stab (Kak _ _) (Kae _ _))) Kat)) (Wir  Kqr)
def Wae  (a : Int) (k : KI) : W4y :=
  bx (decide (a < 0)) (k (IntKind.wrap .u64 (0 - (IntKind.wrap .u64 (a))))) (k (IntKind.wrap .u64 (a)))
def Kya (f0 : W4m) (ds : W4z) (k : W2v) : W4y :=
  match ds with
  | [.val (.int .i64 a)] => f0 a (fun b => k (.val (.int .u64 b)))
  | _ => none
def Kzx : W4m := Wae
theorem Woc  : Rd (Kya (Wae )) (pevL Tryz.prog (tab [] []) noL [] 64 Tryz.f123 (Kaf Tryz.f123)) := by
  intro ds; unfold Kya; split
  · exact .inr fun k => by kernel_rfl
  · exact .inl fun _ => rfl
theorem Wfz : Kce Tryz.prog Inv 123 (Kya Kzx) :=
  Kam (lv := []) Kbg stab (Kbs stab (Kak _ _) (Kae _ _)) Tryz.func123 (by kernel_rfl) (by kernel_rfl) (Kdc.none _ _ _) (Woc )
def Weu (f0 : W23) (f1 : W4m) (a b : Int) (k : KB) : W4y :=
  bx (!(decide (a < (-1073741824)))) (bx (!(decide (a > 1073741824))) (bx (!(decide (b < 1))) (bx (decide (b > 1073741824)) (k false) (f1 a (fun c => f1 b (fun d => f0 c d (fun e => k (e == 1)))))) (k false)) (k false)) (k false)
def Kos (f0 : W2q) (ds : W4z) (k : W2v) : W4y :=
  match ds with
  | [.val (.agg ⟨[.int .i64 a, .int .i64 b]⟩)] => f0 a b (fun c => k (.val (.bool c)))
  | _ => none
def Knj : W2q := Weu Kqs Kzx
theorem Wtl (f0 : W23) (f1 : W4m) : Rd (Kos (Weu f0 f1)) (pevL Tryz.prog (tab [(122, (Krg f0)), (123, (Kya f1))] []) noL [] 64 Tryz.f95 (Kaf Tryz.f95)) := by
  intro ds; unfold Kos; split
  · exact .inr fun k => by kernel_rfl
  · exact .inl fun _ => rfl
theorem Kzy : Kce Tryz.prog Inv 95 (Kos Knj) :=
  Kam (lv := []) Kbg stab (Kbs stab (Kaa Wad (Kaa Wfz (Kak _ _))) (Kae _ _)) Tryz.func95 (by kernel_rfl) (by kernel_rfl) (Kdc.none _ _ _) (Wtl Kqs Kzx)
def K8d (f0 : W2q) (a b : Int) (k : KB) : W4y :=
  bx (!((a == 0) && ((b == 0) && true))) (f0 a b (fun c => k c)) (k true)
def Kv9 (f0 : W2q) (ds : W4z) (k : W2v) : W4y :=
  match ds with
  | [.val (.agg ⟨[.int .i64 a, .int .i64 b]⟩)] => f0 a b (fun c => k (.val (.bool c)))
  | _ => none
def Kqt : W2q := K8d Knj
theorem Wlt (f0 : W2q) : Rd (Kv9 (K8d f0)) (pevL Tryz.prog (tab [(95, (Kos f0))] []) noL [] 64 Tryz.f64 (Kaf Tryz.f64)) := by
  intro ds; unfold Kv9; split
  · exact .inr fun k => by kernel_rfl
  · exact .inl fun _ => rfl
theorem Wd0 : Kce Tryz.prog Inv 64 (Kv9 Kqt) :=
  Kam (lv := []) Kbg stab (Kbs stab (Kaa Kzy (Kak _ _)) (Kae _ _)) Tryz.func64 (by kernel_rfl) (by kernel_rfl) (Kdc.none _ _ _) (Wlt Knj)
def K1o  (c : W4w) (a b : Int) (d e : W4w) (k : KB) : W4y :=
  bx ((c.toList == ByteArray.toList (⟨#[102, 105, 120]⟩))) (bx (decide (0 ≤ a)) (bx (decide (a ≤ 30)) (bx (decide (0 ≤ b)) (bx (decide (b ≤ 30)) (k (decide (IntKind.wrap .i64 (a + b) ≤ 30))) (k false)) (k false)) (k false)) (k false)) (bx ((c.toList == ByteArray.toList (⟨#[102, 108, 111, 97, 116]⟩))) (bx (decide (1 ≤ a)) (bx (decide (a ≤ 24)) (bx (decide (0 ≤ b)) (bx (decide (b ≤ 20)) (k (decide (IntKind.wrap .i64 (a + b) ≤ 30))) (k false)) (k false)) (k false)) (k false)) (k false))
def Kup (f0 : W2n) (ds : W4z) (k : W2v) : W4y :=
  match ds with
  | [.val (.agg ⟨[.string a, .int .i64 b, .int .i64 c, .string d, .string e]⟩)] => f0 a b c d e (fun f => k (.val (.bool f)))
  | _ => none
def Kwa : W2n := K1o
theorem Wf9  : Rd (Kup (K1o )) (pevL Tryz.prog (tab [] []) noL [] 64 Tryz.f96 (Kaf Tryz.f96)) := by
  intro ds; unfold Kup; split
  · exact .inr fun k => by kernel_rfl
  · exact .inl fun _ => rfl
theorem Wga : Kce Tryz.prog Inv 96 (Kup Kwa) :=
  Kam (lv := []) Kbg stab (Kbs stab (Kak _ _) (Kae _ _)) Tryz.func96 (by kernel_rfl) (by kernel_rfl) (Kdc.none _ _ _) (Wf9 )
def K1p  (b : W4w) (c d : Int) (a e : W4w) (k : KB) : W4y :=
  bx (!(a.toList == ByteArray.toList (⟨#[102, 108, 111, 111, 114]⟩))) (bx (!(a.toList == ByteArray.toList (⟨#[110, 101, 97, 114]⟩))) (k (a.toList == ByteArray.toList (⟨#[122, 101, 114, 111]⟩))) (k true)) (k true)
def Kuq (f0 : W2n) (ds : W4z) (k : W2v) : W4y :=
  match ds with
  | [.val (.agg ⟨[.string a, .int .i64 b, .int .i64 c, .string d, .string e]⟩)] => f0 a b c d e (fun f => k (.val (.bool f)))
  | _ => none
def Kwb : W2n := K1p
theorem Wgb  : Rd (Kuq (K1p )) (pevL Tryz.prog (tab [] []) noL [] 64 Tryz.f97 (Kaf Tryz.f97)) := by
  intro ds; unfold Kuq; split
  · exact .inr fun k => by kernel_rfl
  · exact .inl fun _ => rfl
theorem Wgc : Kce Tryz.prog Inv 97 (Kuq Kwb) :=
  Kam (lv := []) Kbg stab (Kbs stab (Kak _ _) (Kae _ _)) Tryz.func97 (by kernel_rfl) (by kernel_rfl) (Kdc.none _ _ _) (Wgb )
def K3l  (b : W4w) (c d : Int) (e a : W4w) (k : KB) : W4y :=
  bx (!(a.toList == ByteArray.toList (⟨#[115, 97, 116]⟩))) (bx (!(a.toList == ByteArray.toList (⟨#[110, 111, 110, 101]⟩))) (bx ((a.toList == ByteArray.toList (⟨#[119, 114, 97, 112]⟩))) (k (b.toList == ByteArray.toList (⟨#[102, 105, 120]⟩))) (k false)) (k true)) (k true)
def Kwt (f0 : W2n) (ds : W4z) (k : W2v) : W4y :=
  match ds with
  | [.val (.agg ⟨[.string a, .int .i64 b, .int .i64 c, .string d, .string e]⟩)] => f0 a b c d e (fun f => k (.val (.bool f)))
  | _ => none
def Kyb : W2n := K3l
theorem Wis  : Rd (Kwt (K3l )) (pevL Tryz.prog (tab [] []) noL [] 64 Tryz.f98 (Kaf Tryz.f98)) := by
  intro ds; unfold Kwt; split
  · exact .inr fun k => by kernel_rfl
  · exact .inl fun _ => rfl
theorem Wit : Kce Tryz.prog Inv 98 (Kwt Kyb) :=
  Kam (lv := []) Kbg stab (Kbs stab (Kak _ _) (Kae _ _)) Tryz.func98 (by kernel_rfl) (by kernel_rfl) (Kdc.none _ _ _) (Wis )
def K8e (f0 f1 f2 : W2n) (a : W4w) (b c : Int) (d e : W4w) (k : KB) : W4y :=
  f2 a b c d e (fun f => bx (f) (f1 a b c d e (fun g => bx (g) (f0 a b c d e (fun h => k h)) (k false))) (k false))
def Krv (f0 : W2n) (ds : W4z) (k : W2v) : W4y :=
  match ds with
  | [.val (.agg ⟨[.string a, .int .i64 b, .int .i64 c, .string d, .string e]⟩)] => f0 a b c d e (fun f => k (.val (.bool f)))
  | _ => none
def Kqu : W2n := K8e Kyb Kwb Kwa
theorem Wlu (f0 f1 f2 : W2n) : Rd (Krv (K8e f0 f1 f2)) (pevL Tryz.prog (tab [(96, (Kup f2)), (97, (Kuq f1)), (98, (Kwt f0))] []) noL [] 64 Tryz.f65 (Kaf Tryz.f65)) := by
  intro ds; unfold Krv; split
  · exact .inr fun k => by kernel_rfl
  · exact .inl fun _ => rfl
theorem K8f : Kce Tryz.prog Inv 65 (Krv Kqu) :=
  Kam (lv := []) Kbg stab (Kbs stab (Kaa Wga (Kaa Wgc (Kaa Wit (Kak _ _)))) (Kae _ _)) Tryz.func65 (by kernel_rfl) (by kernel_rfl) (Kdc.none _ _ _) (Wlu Kyb Kwb Kwa)
def Kzz (f0 : W2q) (a b : Int) (k : KB) : W4y :=
  f0 a b (fun c => k (!c))
def Kg5 (f0 : W2q) (ds : W4z) (k : W2v) : W4y :=
  match ds with
  | [.val (.agg ⟨[.int .i64 a, .int .i64 b]⟩)] => f0 a b (fun c => k (.val (.bool c)))
  | _ => none
def Kgj : W2q := Kzz Kqt
theorem Wev (f0 : W2q) : Rd (Kg5 (Kzz f0)) (pevL Tryz.prog (tab [(64, (Kv9 f0))] []) noL [] 64 Tryz.f100 (Kaf Tryz.f100)) := by
  intro ds; unfold Kg5; split
  · exact .inr fun k => by kernel_rfl
  · exact .inl fun _ => rfl
theorem Kz0 : Kce Tryz.prog Inv 100 (Kg5 Kgj) :=
  Kam (lv := []) Kbg stab (Kbs stab (Kaa Wd0 (Kak _ _)) (Kae _ _)) Tryz.func100 (by kernel_rfl) (by kernel_rfl) (Kdc.none _ _ _) (Wev Kqt)
def Kw3 (f0 : W2q) (a b : Int) (k : KB) : W4y :=
  f0 a b (fun c => k (!c))
def Kfi (f0 : W2q) (ds : W4z) (k : W2v) : W4y :=
  match ds with
  | [.val (.agg ⟨[.int .i64 a, .int .i64 b]⟩)] => f0 a b (fun c => k (.val (.bool c)))
  | _ => none
def Kex : W2q := Kw3 Knj
theorem Wce (f0 : W2q) : Rd (Kfi (Kw3 f0)) (pevL Tryz.prog (tab [(95, (Kos f0))] []) noL [] 64 Tryz.f102 (Kaf Tryz.f102)) := by
  intro ds; unfold Kfi; split
  · exact .inr fun k => by kernel_rfl
  · exact .inl fun _ => rfl
theorem Kw4 : Kce Tryz.prog Inv 102 (Kfi Kex) :=
  Kam (lv := []) Kbg stab (Kbs stab (Kaa Kzy (Kak _ _)) (Kae _ _)) Tryz.func102 (by kernel_rfl) (by kernel_rfl) (Kdc.none _ _ _) (Wce Knj)
inductive Kaq where
  | h0 (a : W4x) (b c : Int)
def Kc1 : Kaq → Nat
  | .h0 c a b => Int.toNat (a - b) + 1
def Kgg : SP := ⟨[(0, .d (.l 2)), (1, .d (.f 100)), (7, .d (.i .i64)), (8, .d (.i .i64))], 19, []⟩
def Kgh : Args → Option Kaq
  | [.l a, .i b, .i c] => some (.h0 a b c)
  | _ => none
def Kc4 : Kaq → St
  | .h0 a b c => fS Kgg [.l a, .i b, .i c]
def Kgy (k : KC) : KI × (Option DV) := (fun a => k .ret (fS ⟨[(4, .d (.i .i64))], 19, []⟩ [.i a]), k (.exit 0) (fS ⟨[(4, .dead)], 19, []⟩ []))
def Kbb (f0 : W2q) : Kaq → (Kaq → Option DV) → (KI × (Option DV)) → Option DV
  | .h0 b c a, κn, κ => bx (decide (a < c)) (bx (decide (0 ≤ a)) (optE (b[a.toNat]?) (fun d => Ki3 d 0 (fun v2 v3 => f0 v2 v3 (fun e => bx (e) (κ.1 a) (κn (Kaq.h0 b c (IntKind.wrap .i64 (a + 1)))))))) none) κ.2
def Kgk (s : St) : Option Kaq := hdO Kgg Kgh s
def Kc5 (f0 : W2q) : St → KC → Option DV := decR Kgk (Kbb f0) Kc1 Kgy
theorem Kmg : ∀ s x, Kgk s = some x → SLe s (Kc4 x) := fun _ _ => (Kec (S := Kc4) fun a x h => by unfold Kgh at h; split at h <;> cases h; rfl)
def Ker (f0 : W2q) (a : W4x) (k : KI) : W4y :=
  LF (Kbb f0) (Kc1 (Kaq.h0 a (a.length : Int) 0)) (Kaq.h0 a (a.length : Int) 0) ((fun b => k b), (k (-1)))
inductive Kap where
  | h0 (a : W4x) (b c : Int)
def Kco : Kap → Nat
  | .h0 c a b => Int.toNat (a - b) + 1
def Kfy : SP := ⟨[(0, .d (.l 2)), (1, .d (.f 102)), (7, .d (.i .i64)), (8, .d (.i .i64))], 19, []⟩
def Kfz : Args → Option Kap
  | [.l a, .i b, .i c] => some (.h0 a b c)
  | _ => none
def Kcv : Kap → St
  | .h0 a b c => fS Kfy [.l a, .i b, .i c]
def Kgi (k : KC) : KI × (Option DV) := (fun a => k .ret (fS ⟨[(4, .d (.i .i64))], 19, []⟩ [.i a]), k (.exit 0) (fS ⟨[(4, .dead)], 19, []⟩ []))
def Kba (f0 : W2q) : Kap → (Kap → Option DV) → (KI × (Option DV)) → Option DV
  | .h0 b c a, κn, κ => bx (decide (a < c)) (bx (decide (0 ≤ a)) (optE (b[a.toNat]?) (fun d => Ki3 d 0 (fun v2 v3 => f0 v2 v3 (fun e => bx (e) (κ.1 a) (κn (Kap.h0 b c (IntKind.wrap .i64 (a + 1)))))))) none) κ.2
def Kf8 (s : St) : Option Kap := hdO Kfy Kfz s
def Kcw (f0 : W2q) : St → KC → Option DV := decR Kf8 (Kba f0) Kco Kgi
theorem Klu : ∀ s x, Kf8 s = some x → SLe s (Kcv x) := fun _ _ => (Kec (S := Kcv) fun a x h => by unfold Kfz at h; split at h <;> cases h; rfl)
def Kek (f0 : W2q) (a : W4x) (k : KI) : W4y :=
  LF (Kba f0) (Kco (Kap.h0 a (a.length : Int) 0)) (Kap.h0 a (a.length : Int) 0) ((fun b => k b), (k (-1)))
def Kk2 (f1 : W3m) (ds : W4z) (k : W2v) : W4y :=
  match ds with
  | [.lst 2 a, .val (.func (.func 102) ⟨[]⟩ ⟨[]⟩)] => f1 a (fun b => k (.val (.int .i64 b)))
  | _ => none
def Kgd (f0 f1 : W3m) (ds : W4z) (k : W2v) : W4y :=
  match ds with
  | [.lst 2 a, .val (.func (.func 100) ⟨[]⟩ ⟨[]⟩)] => f0 a (fun b => k (.val (.int .i64 b)))
  | _ => Kk2 f1 ds k
def Kcj : W3m := Ker Kgj
def Kcd : W3m := Kek Kex
theorem Kmh (f0 : W2q) (x : Kaq) (κn : St → Option DV) (κ : KC) : pev Tryz.prog (tab [(100, (Kg5 f0)), (102, (Kfi Kex))] []) (ltab [(2, Kc5 f0)]) [(0, [0]), (0, []), (2, [0, 1, 7, 8]), (100002, [4])] 64 (Kb9 (Kaf Tryz.f124) 0) (Kc4 x) (Ki2 0 [0, 1, 7, 8] [4] κn κ) = Kbb f0 x (fun x => κn (Kc4 x)) (Kgy κ) := by cases x <;> kernel_rfl
theorem Kmi (f0 : W2q) (HK : Kfv Tryz.prog Inv (tab [(100, (Kg5 f0)), (102, (Kfi Kex))] [])) : Kjx 0 Tryz.prog Inv (Kb9 (Kaf Tryz.f124) 0) (Kc5 f0) :=
  Kca (lv := [(0, [0]), (0, []), (2, [0, 1, 7, 8]), (100002, [4])]) Kbg HK (Ka5 (bs := []) (by kernel_rfl) Kat) (Kmh f0) Kmg Kc1
theorem Knp (f0 : W2q) (a : W4x) (k : W2v) : Ker f0 a (fun b => k (.val (.int .i64 b))) = pevL Tryz.prog (tab [(100, (Kg5 f0)), (102, (Kfi Kex))] []) (ltab [(2, Kc5 f0)]) [(0, [0]), (0, []), (2, [0, 1, 7, 8]), (100002, [4])] 64 Tryz.f124 (Kaf Tryz.f124) [.lst 2 a, .val (.func (.func 100) ⟨[]⟩ ⟨[]⟩)] k := by kernel_rfl
theorem Klv (f0 : W2q) (x : Kap) (κn : St → Option DV) (κ : KC) : pev Tryz.prog (tab [(100, (Kg5 Kgj)), (102, (Kfi f0))] []) (ltab [(2, Kcw f0)]) [(0, [0]), (0, []), (2, [0, 1, 7, 8]), (100002, [4])] 64 (Kb9 (Kaf Tryz.f124) 0) (Kcv x) (Ki2 0 [0, 1, 7, 8] [4] κn κ) = Kba f0 x (fun x => κn (Kcv x)) (Kgi κ) := by cases x <;> kernel_rfl
theorem Klw (f0 : W2q) (HK : Kfv Tryz.prog Inv (tab [(100, (Kg5 Kgj)), (102, (Kfi f0))] [])) : Kjx 0 Tryz.prog Inv (Kb9 (Kaf Tryz.f124) 0) (Kcw f0) :=
  Kca (lv := [(0, [0]), (0, []), (2, [0, 1, 7, 8]), (100002, [4])]) Kbg HK (Ka5 (bs := []) (by kernel_rfl) Kat) (Klv f0) Klu Kco
theorem Kmx (f0 : W2q) (a : W4x) (k : W2v) : Kek f0 a (fun b => k (.val (.int .i64 b))) = pevL Tryz.prog (tab [(100, (Kg5 Kgj)), (102, (Kfi f0))] []) (ltab [(2, Kcw f0)]) [(0, [0]), (0, []), (2, [0, 1, 7, 8]), (100002, [4])] 64 Tryz.f124 (Kaf Tryz.f124) [.lst 2 a, .val (.func (.func 102) ⟨[]⟩ ⟨[]⟩)] k := by kernel_rfl
theorem Kxw : Kce Tryz.prog Inv 124 (Kgd Kcj Kcd) :=
  K2g Kbg stab (Kbs stab (Kaa Kz0 (Kaa Kw4 (Kak _ _))) (Kae _ _)) Tryz.func124 (by kernel_rfl) (by kernel_rfl) (by
    intro ds; unfold Kgd; split
    · exact .inr ⟨(ltab [(2, Kc5 Kgj)]), [(0, [0]), (0, []), (2, [0, 1, 7, 8]), (100002, [4])], 64, Ka5 (bs := [Kb9 (Kaf Tryz.f124) 0]) (by kernel_rfl) (Kbk (by kernel_rfl) (Kmi Kgj (Kbs stab (Kaa Kz0 (Kaa Kw4 (Kak _ _))) (Kae _ _))) Kat), fun k => Knp Kgj _ k⟩
    unfold Kk2; split
    · exact .inr ⟨(ltab [(2, Kcw Kex)]), [(0, [0]), (0, []), (2, [0, 1, 7, 8]), (100002, [4])], 64, Ka5 (bs := [Kb9 (Kaf Tryz.f124) 0]) (by kernel_rfl) (Kbk (by kernel_rfl) (Klw Kex (Kbs stab (Kaa Kz0 (Kaa Kw4 (Kak _ _))) (Kae _ _))) Kat), fun k => Kmx Kex _ k⟩
    · exact .inl (fun _ => rfl))
def Keg (f0 : W3m) (a : W4x) (k : KB) : W4y :=
  f0 a (fun b => k (decide (b ≥ 0)))
def Kd8 (f0 : W3m) (a : W4x) (k : KB) : W4y :=
  f0 a (fun b => k (decide (b ≥ 0)))
def Kjy (f1 : W22) (ds : W4z) (k : W2v) : W4y :=
  match ds with
  | [.lst 2 a, .val (.func (.func 102) ⟨[]⟩ ⟨[]⟩)] => f1 a (fun b => k (.val (.bool b)))
  | _ => none
def Ke9 (f0 f1 : W22) (ds : W4z) (k : W2v) : W4y :=
  match ds with
  | [.lst 2 a, .val (.func (.func 100) ⟨[]⟩ ⟨[]⟩)] => f0 a (fun b => k (.val (.bool b)))
  | _ => Kjy f1 ds k
def Kbr : W22 := Keg Kcj
def Kbn : W22 := Kd8 Kcd
theorem Kmj (f0 : W3m) (a : W4x) (k : W2v) : Keg f0 a (fun b => k (.val (.bool b))) = pevL Tryz.prog (tab [(124, (Kgd f0 Kcd))] []) noL [] 64 Tryz.f99 (Kaf Tryz.f99) [.lst 2 a, .val (.func (.func 100) ⟨[]⟩ ⟨[]⟩)] k := by kernel_rfl
theorem Klx (f0 : W3m) (a : W4x) (k : W2v) : Kd8 f0 a (fun b => k (.val (.bool b))) = pevL Tryz.prog (tab [(124, (Kgd Kcj f0))] []) noL [] 64 Tryz.f99 (Kaf Tryz.f99) [.lst 2 a, .val (.func (.func 102) ⟨[]⟩ ⟨[]⟩)] k := by kernel_rfl
theorem Kl3 : Kce Tryz.prog Inv 99 (Ke9 Kbr Kbn) :=
  K2g Kbg stab (Kbs stab (Kaa Kxw (Kak _ _)) (Kae _ _)) Tryz.func99 (by kernel_rfl) (by kernel_rfl) (by
    intro ds; unfold Ke9; split
    · exact .inr ⟨noL, [], 64, Kdc.none _ _ _, fun k => Kmj Kcj _ k⟩
    unfold Kjy; split
    · exact .inr ⟨noL, [], 64, Kdc.none _ _ _, fun k => Klx Kcd _ k⟩
    · exact .inl (fun _ => rfl))
def K3m (f0 : W22) (a : W4x) (k : KB) : W4y :=
  bx (decide (1 ≤ (a.length : Int))) (bx (decide ((a.length : Int) ≤ 256)) (f0 a (fun b => k (!b))) (k false)) (k false)
def Kwu (f0 : W22) (ds : W4z) (k : W2v) : W4y :=
  match ds with
  | [.lst 2 a] => f0 a (fun b => k (.val (.bool b)))
  | _ => none
def Kyc : W22 := K3m Kbr
theorem Wiu (f0 : W22) : Rd (Kwu (K3m f0)) (pevL Tryz.prog (tab [(99, (Ke9 f0 Kbn))] []) noL [] 64 Tryz.f66 (Kaf Tryz.f66)) := by
  intro ds; unfold Kwu; split
  · exact .inr fun k => by kernel_rfl
  · exact .inl fun _ => rfl
theorem Wiv : Kce Tryz.prog Inv 66 (Kwu Kyc) :=
  Kam (lv := []) Kbg stab (Kbs stab (Kaa Kl3 (Kak _ _)) (Kae _ _)) Tryz.func66 (by kernel_rfl) (by kernel_rfl) (Kdc.none _ _ _) (Wiu Kbr)
def Kyd  (a : Int) (k : KB) : W4y :=
  bx (decide (97 ≤ a)) (bx (decide (a ≤ 122)) (k true) (bx (decide (65 ≤ a)) (bx (decide (a ≤ 90)) (k true) (bx (decide (48 ≤ a)) (bx (decide (a ≤ 57)) (k true) (bx (!(a == 95)) (bx (!(a == 45)) (k (a == 47)) (k true)) (k true))) (bx (!(a == 95)) (bx (!(a == 45)) (k (a == 47)) (k true)) (k true)))) (bx (decide (48 ≤ a)) (bx (decide (a ≤ 57)) (k true) (bx (!(a == 95)) (bx (!(a == 45)) (k (a == 47)) (k true)) (k true))) (bx (!(a == 95)) (bx (!(a == 45)) (k (a == 47)) (k true)) (k true))))) (bx (decide (65 ≤ a)) (bx (decide (a ≤ 90)) (k true) (bx (decide (48 ≤ a)) (bx (decide (a ≤ 57)) (k true) (bx (!(a == 95)) (bx (!(a == 45)) (k (a == 47)) (k true)) (k true))) (bx (!(a == 95)) (bx (!(a == 45)) (k (a == 47)) (k true)) (k true)))) (bx (decide (48 ≤ a)) (bx (decide (a ≤ 57)) (k true) (bx (!(a == 95)) (bx (!(a == 45)) (k (a == 47)) (k true)) (k true))) (bx (!(a == 95)) (bx (!(a == 45)) (k (a == 47)) (k true)) (k true))))
def Kke (f0 : W3s) (ds : W4z) (k : W2v) : W4y :=
  match ds with
  | [.val (.int .u8 a)] => f0 a (fun b => k (.val (.bool b)))
  | _ => none
def Kly : W3s := Kyd
theorem Wd1  : Rd (Kke (Kyd )) (pevL Tryz.prog (tab [] []) noL [] 64 Tryz.f101 (Kaf Tryz.f101)) := by
  intro ds; unfold Kke; split
  · exact .inr fun k => by kernel_rfl
  · exact .inl fun _ => rfl
theorem K40 : Kce Tryz.prog Inv 101 (Kke Kly) :=
  Kam (lv := []) Kbg stab (Kbs stab (Kak _ _) (Kae _ _)) Tryz.func101 (by kernel_rfl) (by kernel_rfl) (Kdc.none _ _ _) (Wd1 )
end Go.Proofs.YtgohccjmphapfaaGreatDoor
end
