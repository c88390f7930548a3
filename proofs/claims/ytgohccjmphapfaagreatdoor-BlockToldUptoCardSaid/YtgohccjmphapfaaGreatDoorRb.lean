import Derived.Test.YtgohccjmphapfaaGreatDoorRa
set_option linter.all false
noncomputable section
namespace Go.Proofs.YtgohccjmphapfaaGreatDoor
open Go.Pv Go.RowKit
set_option maxRecDepth 100000
inductive Kbe where
  | h0 (a b c d : Int)
def Klh : Kbe → Nat
  | .h0 a b c d => 200
def Ku1 : SP := ⟨[(0, .d (.i .i64)), (1, .d (.i .i64)), (5, .d (.i .i64)), (6, .d (.i .i64))], 26, []⟩
def Ku2 : Args → Option Kbe
  | [.i a, .i b, .i c, .i d] => some (.h0 a b c d)
  | _ => none
def Kme : Kbe → St
  | .h0 a b c d => fS Ku1 [.i a, .i b, .i c, .i d]
def Kxk (k : KC) : (Int → Int → Int → Option DV) := (fun a b c => k (.exit 0) (fS ⟨[(0, .d (.i .i64)), (1, .d (.i .i64)), (5, .d (.i .i64))], 26, []⟩ [.i a, .i b, .i c]))
def Kee  (e : Kbe → Nat) : Kbe → (Kbe → Option DV) → ((Int → Int → Int → Option DV)) → Option DV
  | .h0 b c d a, κn, κ => bx (a != 0) (bx (a == 0) none (κn (Kbe.h0 b c a (Int.tmod d a)))) (κ b c d)
def Kv4 (s : St) : Option Kbe := hdO Ku1 Ku2 s
def Kqo  (a : Kbe → Nat) : St → KC → Option DV := decR Kv4 (Kee  a) a Kxk
theorem K79 : ∀ s x, Kv4 s = some x → SLe s (Kme x) := fun _ _ => (Kec (S := Kme) fun a x h => by unfold Ku2 at h; split at h <;> cases h; rfl)
def Kvs  (e : Kbe → Nat) (a b : Int) (k : KI) : W4y :=
  LF (Kee  e) (e (Kbe.h0 a b a b)) (Kbe.h0 a b a b) ((fun f d c => bx (c == 0) none (bx (d == 0) none (bx (decide (IntKind.wrap .i64 (Int.tdiv f c) > IntKind.wrap .i64 (Int.tdiv 1073741824 d))) (k 0) (bx (c == 0) none (k (IntKind.wrap .i64 ((IntKind.wrap .i64 (Int.tdiv f c)) * d))))))))
def Kf5 (f0 : W23) (ds : W4z) (k : W2v) : W4y :=
  match ds with
  | [.val (.int .i64 a), .val (.int .i64 b)] => f0 a b (fun c => k (.val (.int .i64 c)))
  | _ => none
def Kg2 : W23 := Kvs  Klh
theorem K8a  (a : Kbe → Nat) (x : Kbe) (κn : St → Option DV) (κ : KC) : pev Tryz.prog (tab [] []) (ltab [(2, Kqo  a)]) [(0, [0]), (0, []), (2, [0, 1, 5, 6]), (100002, [0, 1, 5])] 64 (Kb9 (Kaf Tryz.f94) 0) (Kme x) (Ki2 0 [0, 1, 5, 6] [0, 1, 5] κn κ) = Kee  a x (fun x => κn (Kme x)) (Kxk κ) := by cases x <;> kernel_rfl
theorem K8b  (a : Kbe → Nat) (HK : Kfv Tryz.prog Inv (tab [] [])) : Kjx 0 Tryz.prog Inv (Kb9 (Kaf Tryz.f94) 0) (Kqo  a) :=
  Kca (lv := [(0, [0]), (0, []), (2, [0, 1, 5, 6]), (100002, [0, 1, 5])]) Kbg HK (Ka5 (bs := []) (by kernel_rfl) Kat) (K8a  a) K79 a
theorem Wbg  (a : Kbe → Nat) : Rd (Kf5 (Kvs  a)) (pevL Tryz.prog (tab [] []) (ltab [(2, Kqo  a)]) [(0, [0]), (0, []), (2, [0, 1, 5, 6]), (100002, [0, 1, 5])] 64 Tryz.f94 (Kaf Tryz.f94)) := by
  intro ds; unfold Kf5; split
  · exact .inr fun k => by kernel_rfl
  · exact .inl fun _ => rfl
theorem Kvt : Kce Tryz.prog Inv 94 (Kf5 Kg2) :=
  Kam (lv := [(0, [0]), (0, []), (2, [0, 1, 5, 6]), (100002, [0, 1, 5])]) Kbg stab (Kbs stab (Kak _ _) (Kae _ _)) Tryz.func94 (by kernel_rfl) (by kernel_rfl) (Ka5 (bs := [Kb9 (Kaf Tryz.f94) 0]) (by kernel_rfl) (Kbk (by kernel_rfl) (K8b  Klh (Kbs stab (Kak _ _) (Kae _ _))) Kat)) (Wbg  Klh)
inductive Kcc where
  | h0 (a : W4x) (b : Int)
def Kg3 : Kcc → Nat
  | .h0 a b => Int.toNat ((a.length : Int) - b) + 1
inductive Kb4 where
  | h0 (a : Int) (b : Nat) (c d : Int) (e : W4z)
def Klt : Kb4 → Nat
  | .h0 c d a b e => Int.toNat (a - b) + 1
def Kqe : SP := ⟨[(0, .d (.l 2)), (3, .d (.i .i64))], 92, []⟩
def Kqf : Args → Option Kcc
  | [.l a, .i b] => some (.h0 a b)
  | _ => none
def Kjm : Kcc → St
  | .h0 a b => fS Kqe [.l a, .i b]
def Ksk (k : KC) : (List (List DV) → Bool → Option DV) × (List (List DV) → Option DV) := (fun a c => k .ret (fS ⟨[(0, .d (.l 2)), (2, .d .b)], 92, []⟩ [.l a, .b c]), fun a => k (.exit 0) (fS ⟨[(0, .d (.l 2)), (2, .dead)], 92, []⟩ [.l a]))
def Kfp (f0 : W2q) (f1 : W23) (f2 : W26) : Kcc → (Kcc → Option DV) → ((List (List DV) → Bool → Option DV) × (List (List DV) → Option DV)) → Option DV
  | .h0 a b, κn, κ => bx (decide (b < (a.length : Int))) (bx (decide (0 ≤ b)) (optE (a[b.toNat]?) (fun c => Ki3 c 0 (fun v2 v3 => f0 v2 v3 (fun d => bx (!d) (κ.1 a false) (κn (Kcc.h0 a (IntKind.wrap .i64 (b + 1)))))))) none) (κ.2 a)
def Krc (s : St) : Option Kcc := hdO Kqe Kqf s
def Kjn (f0 : W2q) (f1 : W23) (f2 : W26) : St → KC → Option DV := decR Krc (Kfp f0 f1 f2) Kg3 Ksk
theorem K3c : ∀ s x, Krc s = some x → SLe s (Kjm x) := fun _ _ => (Kec (S := Kjm) fun a x h => by unfold Kqf at h; split at h <;> cases h; rfl)
def Kpf : SP := ⟨[(4, .d (.i .i64)), (72, .osl 38 2 0 0), (73, .d (.i .i64)), (74, .d (.i .i64))], 92, [.raw]⟩
def Kpg : Args → Option Kb4
  | [.i a, .n b, .i d, .i e, .c f] => some (.h0 a b d e f)
  | _ => none
def Kjc : Kb4 → St
  | .h0 a b d e f => fS Kpf [.i a, .n b, .i d, .i e, .c f]
def Krd (k : KC) : KB × (Option DV) := (fun a => k .ret (fS ⟨[(2, .d .b)], 92, []⟩ [.b a]), k (.exit 2) (fS ⟨[(2, .dead)], 92, []⟩ []))
def Ke8 (f0 : W2q) (f1 : W23) (f2 : W26) : Kb4 → (Kb4 → Option DV) → (KB × (Option DV)) → Option DV
  | .h0 b c d a e, κn, κ => bx (decide (a < d)) (bx ((decide (0 ≤ a) && decide (a < ((c : Nat) : Int)))) (Ki3 e (0 + a.toNat * 2) (fun v36 v37 => bx (decide (v36 < 0)) (bx (decide (IntKind.wrap .i64 (b * (IntKind.wrap .i64 (0 - v36))) > IntKind.wrap .i64 (1073741824 * v37))) (κ.1 false) (κn (Kb4.h0 b c d (IntKind.wrap .i64 (a + 1)) e))) (bx (decide (IntKind.wrap .i64 (b * v36) > IntKind.wrap .i64 (1073741824 * v37))) (κ.1 false) (κn (Kb4.h0 b c d (IntKind.wrap .i64 (a + 1)) e))))) none) κ.2
def Kqg (s : St) : Option Kb4 := hdO Kpf Kpg s
def Kjd (f0 : W2q) (f1 : W23) (f2 : W26) : St → KC → Option DV := decR Kqg (Ke8 f0 f1 f2) Klt Krd
theorem K2h : ∀ s x, Kqg s = some x → SLe s (Kjc x) := fun _ _ => (Kec (S := Kjc) fun a x h => by unfold Kpg at h; split at h <;> cases h; rfl)
def Kph (f0 : W2q) (f1 : W23) (f2 : W26) (c : W4x) (k : KB) : W4y :=
  LF (Kfp f0 f1 f2) (Kg3 (Kcc.h0 c 0)) (Kcc.h0 c 0) ((fun s d => k d), (fun a => bx (!((a.length : Int) != 4)) (optE (a[Int.toNat 1]?) (fun e => Ki3 e 0 (fun v8 v9 => optE (a[Int.toNat 0]?) (fun f => Ki3 f 0 (fun v11 v12 => f2 v8 v9 v11 v12 (fun g => bx (!(decide (g > 0))) (optE (a[Int.toNat 0]?) (fun h => Ki3 h 0 (fun v15 v16 => optE (a[Int.toNat 2]?) (fun i => Ki3 i 0 (fun v18 v19 => f2 v15 v16 v18 v19 (fun j => bx (!(decide (j > 0))) (optE (a[Int.toNat 3]?) (fun l => ld_i (List.drop 0 l) 0 (fun v22 => bx (decide (v22 < 0)) (k false) (optE (a[Int.toNat 3]?) (fun m => ld_i (List.drop 0 m) 0 (fun v24 => bx (v24 == 0) (k true) (optE (a[Int.toNat 1]?) (fun n => ld_i (List.drop 1 n) 0 (fun v26 => optE (a[Int.toNat 3]?) (fun o => ld_i (List.drop 1 o) 0 (fun v28 => f1 v26 v28 (fun b => bx (b == 0) (k false) (optE (a[Int.toNat 1]?) (fun p => Ki3 p 0 (fun v31 v32 => optE (a[Int.toNat 2]?) (fun q => Ki3 q 0 (fun v34 v35 => LF (Ke8 f0 f1 f2) (Klt (Kb4.h0 b 2 2 0 ([.val (.int .i64 v31), .val (.int .i64 v32), .val (.int .i64 v34), .val (.int .i64 v35)]))) (Kb4.h0 b 2 2 0 ([.val (.int .i64 v31), .val (.int .i64 v32), .val (.int .i64 v34), .val (.int .i64 v35)])) ((fun r => k r), (k true))))))))))))))))))) (k false))))))) (k false))))))) (k false)))
def Kgp (f0 : W22) (ds : W4z) (k : W2v) : W4y :=
  match ds with
  | [.lst 2 a] => f0 a (fun b => k (.val (.bool b)))
  | _ => none
def Kih : W22 := Kph Kcm Kg2 Kjl
theorem K3d (f0 : W2q) (f1 : W23) (f2 : W26) (x : Kcc) (κn : St → Option DV) (κ : KC) : pev Tryz.prog (tab [(58, (Kc0 f0)), (93, (Kf4 f2)), (94, (Kf5 f1))] []) (ltab [(2, Kjn f0 f1 f2), (14, Kjd f0 f1 f2)]) [(0, [0]), (0, []), (2, [0, 3]), (100002, [0, 2]), (14, [4, 72, 73, 74]), (100014, [2])] 64 (Kb9 (Kaf Tryz.f63) 0) (Kjm x) (Ki2 0 [0, 3] [0, 2] κn κ) = Kfp f0 f1 f2 x (fun x => κn (Kjm x)) (Ksk κ) := by cases x <;> kernel_rfl
theorem K3e (f0 : W2q) (f1 : W23) (f2 : W26) (HK : Kfv Tryz.prog Inv (tab [(58, (Kc0 f0)), (93, (Kf4 f2)), (94, (Kf5 f1))] [])) : Kjx 0 Tryz.prog Inv (Kb9 (Kaf Tryz.f63) 0) (Kjn f0 f1 f2) :=
  Kca (lv := [(0, [0]), (0, []), (2, [0, 3]), (100002, [0, 2]), (14, [4, 72, 73, 74]), (100014, [2])]) Kbg HK (Ka5 (bs := []) (by kernel_rfl) Kat) (K3d f0 f1 f2) K3c Kg3
theorem K2i (f0 : W2q) (f1 : W23) (f2 : W26) (x : Kb4) (κn : St → Option DV) (κ : KC) : pev Tryz.prog (tab [(58, (Kc0 f0)), (93, (Kf4 f2)), (94, (Kf5 f1))] []) (ltab [(2, Kjn f0 f1 f2), (14, Kjd f0 f1 f2)]) [(0, [0]), (0, []), (2, [0, 3]), (100002, [0, 2]), (14, [4, 72, 73, 74]), (100014, [2])] 64 (Kb9 (Kaf Tryz.f63) 1) (Kjc x) (Ki2 0 [4, 72, 73, 74] [2] κn κ) = Ke8 f0 f1 f2 x (fun x => κn (Kjc x)) (Krd κ) := by cases x <;> kernel_rfl
theorem K2j (f0 : W2q) (f1 : W23) (f2 : W26) (HK : Kfv Tryz.prog Inv (tab [(58, (Kc0 f0)), (93, (Kf4 f2)), (94, (Kf5 f1))] [])) : Kjx 0 Tryz.prog Inv (Kb9 (Kaf Tryz.f63) 1) (Kjd f0 f1 f2) :=
  Kca (lv := [(0, [0]), (0, []), (2, [0, 3]), (100002, [0, 2]), (14, [4, 72, 73, 74]), (100014, [2])]) Kbg HK (Ka5 (bs := []) (by kernel_rfl) Kat) (K2i f0 f1 f2) K2h Klt
theorem K6x (f0 : W2q) (f1 : W23) (f2 : W26) : Rd (Kgp (Kph f0 f1 f2)) (pevL Tryz.prog (tab [(58, (Kc0 f0)), (93, (Kf4 f2)), (94, (Kf5 f1))] []) (ltab [(2, Kjn f0 f1 f2), (14, Kjd f0 f1 f2)]) [(0, [0]), (0, []), (2, [0, 3]), (100002, [0, 2]), (14, [4, 72, 73, 74]), (100014, [2])] 64 Tryz.f63 (Kaf Tryz.f63)) := by
  intro ds; unfold Kgp; split
  · exact .inr fun k => by kernel_rfl
  · exact .inl fun _ => rfl
theorem Kxl : Kce Tryz.prog Inv 63 (Kgp Kih) :=
  Kam (lv := [(0, [0]), (0, []), (2, [0, 3]), (100002, [0, 2]), (14, [4, 72, 73, 74]), (100014, [2])]) Kbg stab (Kbs stab (Kaa Khm (Kaa Kvr (Kaa Kvt (Kak _ _)))) (Kae _ _)) Tryz.func63 (by kernel_rfl) (by kernel_rfl) (Ka5 (bs := [Kb9 (Kaf Tryz.f63) 0, Kb9 (Kaf Tryz.f63) 1]) (by kernel_rfl) (Kbk (by kernel_rfl) (K3e Kcm Kg2 Kjl (Kbs stab (Kaa Khm (Kaa Kvr (Kaa Kvt (Kak _ _)))) (Kae _ _))) (Kbk (by kernel_rfl) (K2j Kcm Kg2 Kjl (Kbs stab (Kaa Khm (Kaa Kvr (Kaa Kvt (Kak _ _)))) (Kae _ _))) Kat))) (K6x Kcm Kg2 Kjl)
inductive Kb6 where
  | h0 (a : W4w) (b c : Int) (d : W4x) (e : Int)
def Kfq : Kb6 → Nat
  | .h0 c d e a b => Int.toNat ((a.length : Int) - b) + 1
def Kre : SP := ⟨[(1, .d .s), (3, .d (.i .i64)), (4, .d (.i .i64)), (5, .d (.l 2)), (15, .d (.i .i64))], 128, []⟩
def Krf : Args → Option Kb6
  | [.s a, .i b, .i c, .l d, .i e] => some (.h0 a b c d e)
  | _ => none
def Kj3 : Kb6 → St
  | .h0 a b c d e => fS Kre [.s a, .i b, .i c, .l d, .i e]
def Ktp (k : KC) : (ByteArray → Int → Int → List (List DV) → Bool → Option DV) × (ByteArray → Int → Int → List (List DV) → Option DV) := (fun a c e f g => k .ret (fS ⟨[(1, .d .s), (3, .d (.i .i64)), (4, .d (.i .i64)), (5, .d (.l 2)), (14, .d .b)], 128, []⟩ [.s a, .i c, .i e, .l f, .b g]), fun a c e f => k (.exit 0) (fS ⟨[(1, .d .s), (3, .d (.i .i64)), (4, .d (.i .i64)), (5, .d (.l 2)), (14, .dead)], 128, []⟩ [.s a, .i c, .i e, .l f]))
def Kev (f0 : W2q) (f1 : W22) (f2 : W2n) (f3 : W3h) : Kb6 → (Kb6 → Option DV) → ((ByteArray → Int → Int → List (List DV) → Bool → Option DV) × (ByteArray → Int → Int → List (List DV) → Option DV)) → Option DV
  | .h0 c d e a b, κn, κ => bx (decide (b < (a.length : Int))) (bx (decide (0 ≤ b)) (optE (a[b.toNat]?) (fun f => Ki3 f 0 (fun v4 v5 => f0 v4 v5 (fun g => bx (!g) (κ.1 c d e a false) (κn (Kb6.h0 c d e a (IntKind.wrap .i64 (b + 1)))))))) none) (κ.2 c d e a)
def Ksl (s : St) : Option Kb6 := hdO Kre Krf s
def Knu (f0 : W2q) (f1 : W22) (f2 : W2n) (f3 : W3h) : St → KC → Option DV := decR Ksl (Kev f0 f1 f2 f3) Kfq Ktp
theorem K4i : ∀ s x, Ksl s = some x → SLe s (Kj3 x) := fun _ _ => (Kec (S := Kj3) fun a x h => by unfold Krf at h; split at h <;> cases h; rfl)
def Kpi (f0 : W2q) (f1 : W22) (f2 : W2n) (f3 : W3h) (n o p : Int) (q r s t : Bool) (h i : Int) (d u : W4w) (e f : Int) (c : W4x) (v : W4w) (w x : Int) (y z : W4w) (k : KB) : W4y :=
  bx (!(decide ((c.length : Int) < h))) (bx (decide ((c.length : Int) > i)) (k false) (LF (Kev f0 f1 f2 f3) (Kfq (Kb6.h0 d e f c 0)) (Kb6.h0 d e f c 0) ((fun aa ab ac ad j => k j), (fun b a g l => bx ((b.toList == ByteArray.toList (⟨#[100, 101, 108, 97, 121]⟩))) (bx (decide (a ≥ 0)) (k (decide (a ≤ 4096))) (k false)) (bx ((b.toList == ByteArray.toList (⟨#[118, 97, 114, 121]⟩))) (bx (decide (a ≥ 0)) (bx (decide (a ≤ g)) (k (decide (g ≤ 4096))) (k false)) (k false)) (bx ((b.toList == ByteArray.toList (⟨#[107, 110, 111, 98]⟩))) (f1 l (fun m => k m)) (bx ((b.toList == ByteArray.toList (⟨#[117, 112]⟩))) (bx (decide (a ≥ 1)) (k (decide (a ≤ 8))) (k false)) (bx ((b.toList == ByteArray.toList (⟨#[100, 111, 119, 110]⟩))) (bx (decide (a ≥ 1)) (k (decide (a ≤ 8))) (k false)) (k true))))))))) (k false)
def Kpj (f0 : W2q) (f1 : W22) (f2 : W2n) (f3 : W3h) (g h i : Int) (j l m a : Bool) (n o : Int) (p q : W4w) (r s : Int) (t : W4x) (b : W4w) (c d : Int) (e f : W4w) (k : KB) : W4y :=
  bx (a) (f2 b c d e f (fun u => bx (!u) (k false) (Kpi f0 f1 f2 f3 g h i j l m a n o p q r s t b c d e f k))) (Kpi f0 f1 f2 f3 g h i j l m a n o p q r s t b c d e f k)
def Kpk (f0 : W2q) (f1 : W22) (f2 : W2n) (f3 : W3h) (g h i : Int) (j l m a : Bool) (n o : Int) (p q : W4w) (r s : Int) (t : W4x) (b : W4w) (c d : Int) (e f : W4w) (k : KB) : W4y :=
  bx (!a) (bx (!(!(((b.toList == ByteArray.toList (⟨#[]⟩)) && ((c == 0) && ((d == 0) && ((e.toList == ByteArray.toList (⟨#[]⟩)) && ((f.toList == ByteArray.toList (⟨#[]⟩)) && true)))))))) (Kpj f0 f1 f2 f3 g h i j l m a n o p q r s t b c d e f k) (k false)) (Kpj f0 f1 f2 f3 g h i j l m a n o p q r s t b c d e f k)
def Kpl (f0 : W2q) (f1 : W22) (f2 : W2n) (f3 : W3h) (c d e : Int) (f a g h : Bool) (i j : Int) (l m : W4w) (n b : Int) (o : W4x) (p : W4w) (q r : Int) (s t : W4w) (k : KB) : W4y :=
  bx (!a) (bx (!(b != 0)) (Kpk f0 f1 f2 f3 c d e f a g h i j l m n b o p q r s t k) (k false)) (Kpk f0 f1 f2 f3 c d e f a g h i j l m n b o p q r s t k)
def Kpm (f0 : W2q) (f1 : W22) (f2 : W2n) (f3 : W3h) (c d e : Int) (a f g h : Bool) (i j : Int) (l m : W4w) (b n : Int) (o : W4x) (p : W4w) (q r : Int) (s t : W4w) (k : KB) : W4y :=
  bx (!a) (bx (!(b != 0)) (Kpl f0 f1 f2 f3 c d e a f g h i j l m b n o p q r s t k) (k false)) (Kpl f0 f1 f2 f3 c d e a f g h i j l m b n o p q r s t k)
def Kpn (f0 : W2q) (f1 : W22) (f2 : W2n) (f3 : W3h) (c d e : Int) (f g a h : Bool) (i j : Int) (l b : W4w) (m n : Int) (o : W4x) (p : W4w) (q r : Int) (s t : W4w) (k : KB) : W4y :=
  bx (a) (f3 b (fun u => bx (!(!u)) (Kpm f0 f1 f2 f3 c d e f g a h i j l b m n o p q r s t k) (k false))) (Kpm f0 f1 f2 f3 c d e f g a h i j l b m n o p q r s t k)
def Kqp (f0 : W2q) (f1 : W22) (f2 : W2n) (f3 : W3h) (c d e : Int) (f g a h : Bool) (i j : Int) (l b : W4w) (m n : Int) (o : W4x) (p : W4w) (q r : Int) (s t : W4w) (k : KB) : W4y :=
  bx (!a) (bx (!(!(b.toList == ByteArray.toList (⟨#[]⟩)))) (Kpn f0 f1 f2 f3 c d e f g a h i j l b m n o p q r s t k) (k false)) (Kpn f0 f1 f2 f3 c d e f g a h i j l b m n o p q r s t k)
def Khf (f0 : W2u) (ds : W4z) (k : W2v) : W4y :=
  match ds with
  | [.val (.agg ⟨[.int .i64 a, .int .i64 b, .int .i64 c, .bool d, .bool e, .bool f, .bool g, .int .i64 h, .int .i64 i]⟩), .val (.string j), .val (.string l), .val (.int .i64 m), .val (.int .i64 n), .lst 2 o, .val (.agg ⟨[.string p, .int .i64 q, .int .i64 r, .string s, .string t]⟩)] => f0 a b c d e f g h i j l m n o p q r s t (fun u => k (.val (.bool u)))
  | _ => none
def Kf6 : W2u := Kqp Kgw Kih Kgv Kkd
theorem K4j (f0 : W2q) (f1 : W22) (f2 : W2n) (f3 : W3h) (x : Kb6) (κn : St → Option DV) (κ : KC) : pev Tryz.prog (tab [(60, (Kig f3)), (61, (Kgc f2)), (62, (Kh1 f0)), (63, (Kgp f1))] []) (ltab [(6, Knu f0 f1 f2 f3)]) [(0, [0]), (0, []), (6, [1, 3, 4, 5, 15]), (100006, [1, 3, 4, 5, 14])] 64 (Kb9 (Kaf Tryz.f40) 0) (Kj3 x) (Ki2 0 [1, 3, 4, 5, 15] [1, 3, 4, 5, 14] κn κ) = Kev f0 f1 f2 f3 x (fun x => κn (Kj3 x)) (Ktp κ) := by cases x <;> kernel_rfl
theorem K4k (f0 : W2q) (f1 : W22) (f2 : W2n) (f3 : W3h) (HK : Kfv Tryz.prog Inv (tab [(60, (Kig f3)), (61, (Kgc f2)), (62, (Kh1 f0)), (63, (Kgp f1))] [])) : Kjx 0 Tryz.prog Inv (Kb9 (Kaf Tryz.f40) 0) (Knu f0 f1 f2 f3) :=
  Kca (lv := [(0, [0]), (0, []), (6, [1, 3, 4, 5, 15]), (100006, [1, 3, 4, 5, 14])]) Kbg HK (Ka5 (bs := []) (by kernel_rfl) Kat) (K4j f0 f1 f2 f3) K4i Kfq
theorem K8c (f0 : W2q) (f1 : W22) (f2 : W2n) (f3 : W3h) : Rd (Khf (Kqp f0 f1 f2 f3)) (pevL Tryz.prog (tab [(60, (Kig f3)), (61, (Kgc f2)), (62, (Kh1 f0)), (63, (Kgp f1))] []) (ltab [(6, Knu f0 f1 f2 f3)]) [(0, [0]), (0, []), (6, [1, 3, 4, 5, 15]), (100006, [1, 3, 4, 5, 14])] 64 Tryz.f40 (Kaf Tryz.f40)) := by
  intro ds; unfold Khf; split
  · exact .inr fun k => by kernel_rfl
  · exact .inl fun _ => rfl
theorem Kx7 : Kce Tryz.prog Inv 40 (Khf Kf6) :=
  Kam (lv := [(0, [0]), (0, []), (6, [1, 3, 4, 5, 15]), (100006, [1, 3, 4, 5, 14])]) Kbg stab (Kbs stab (Kaa K0m (Kaa Kr1 (Kaa Kzf (Kaa Kxl (Kak _ _))))) (Kae _ _)) Tryz.func40 (by kernel_rfl) (by kernel_rfl) (Ka5 (bs := [Kb9 (Kaf Tryz.f40) 0]) (by kernel_rfl) (Kbk (by kernel_rfl) (K4k Kgw Kih Kgv Kkd (Kbs stab (Kaa K0m (Kaa Kr1 (Kaa Kzf (Kaa Kxl (Kak _ _))))) (Kae _ _))) Kat)) (K8c Kgw Kih Kgv Kkd)
inductive Kdb where
  | h0 (a : Int) (b c : W4w) (d e : Int) (f : W4x) (g : W4w) (h i : Int) (j l : W4w) (m : W4x)
def Kj4 : Kdb → Nat
  | .h0 a c d e f g h i j l m b => Int.toNat ((b.length : Int) - a) + 1
def Ksm : SP := ⟨[(1, .ptr 0 0), (5, .d (.i .i64))], 53, [BP0]⟩
def Ksn : Args → Option Kdb
  | [.i a, .s b, .s c, .i d, .i e, .l f, .s g, .i h, .i j, .s m, .s n, .l o] => some (.h0 a b c d e f g h j m n o)
  | _ => none
def Kko : Kdb → St
  | .h0 a b c d e f g h j m n o => fS Ksm [.i a, .s b, .s c, .i d, .i e, .l f, .s g, .i h, .i j, .s m, .s n, .l o]
def Ku3 (k : KC) : KB × (Option DV) := (fun a => k .ret (fS ⟨[(2, .d .b)], 53, []⟩ [.b a]), k (.exit 0) (fS ⟨[(2, .dead)], 53, []⟩ []))
def Kgq (f0 : W19) (f1 : W2u) (f2 : W2m) : Kdb → (Kdb → Option DV) → (KB × (Option DV)) → Option DV
  | .h0 a c d e f g h i j l m b, κn, κ => bx (decide (a < (b.length : Int))) (bx (decide (0 ≤ a)) (optE (b[a.toNat]?) (fun n => Kal n 0 (fun v13 v14 v15 v16 v17 v18 v19 v20 v21 v22 v23 => f0 v13 v14 v15 v16 v17 v18 v19 v20 v21 v22 v23 (fun o => bx (!o) (κ.1 false) (κn (Kdb.h0 (IntKind.wrap .i64 (a + 1)) c d e f g h i j l m b)))))) none) κ.2
def Ktq (s : St) : Option Kdb := hdO Ksm Ksn s
def Kop (f0 : W19) (f1 : W2u) (f2 : W2m) : St → KC → Option DV := decR Ktq (Kgq f0 f1 f2) Kj4 Ku3
theorem K5m : ∀ s x, Ktq s = some x → SLe s (Kko x) := fun _ _ => (Kec (S := Kko) fun a x h => by unfold Ksn at h; split at h <;> cases h; rfl)
def Kng (f0 : W19) (f1 : W2u) (f2 : W2m) (a b : W4w) (c d : Int) (e : W4x) (f : W4w) (g h : Int) (i j : W4w) (l : W4x) (k : KB) : W4y :=
  f2 a (fun n o m p q r s t u v => bx (!(!v)) (bx (!((l.length : Int) != m)) (f1 n o m p q r s t u a b c d e f g h i j (fun w => bx (!w) (k false) (LF (Kgq f0 f1 f2) (Kj4 (Kdb.h0 0 a b c d e f g h i j l)) (Kdb.h0 0 a b c d e f g h i j l) ((fun x => k x), (k true))))) (k false)) (k false))
def Kdx (f0 : W19) (ds : W4z) (k : W2v) : W4y :=
  match ds with
  | [.agg [.val (.string a), .val (.string b), .val (.int .i64 c), .val (.int .i64 d), .lst 2 e, .val (.string f), .val (.int .i64 g), .val (.int .i64 h), .val (.string i), .val (.string j), .lst 11 l]] => f0 a b c d e f g h i j l (fun m => k (.val (.bool m)))
  | _ => none
def Kem (N : Nat) : Nat → W19
  | 0 => (fun _ _ _ _ _ _ _ _ _ _ _ _ => none)
  | n + 1 => (Kng (Kem N n) Kf6 Kbu)
def Kgx (N : Nat) : W19 := Kem N N
theorem K5n (f0 : W19) (f1 : W2u) (f2 : W2m) (x : Kdb) (κn : St → Option DV) (κ : KC) : pev Tryz.prog (tab [(23, (Kdx f0)), (39, (Kdi f2)), (40, (Khf f1))] []) (ltab [(5, Kop f0 f1 f2)]) [(0, [0]), (0, []), (5, [1, 5]), (100005, [2])] 64 (Kb9 (Kaf Tryz.f23) 0) (Kko x) (Ki2 0 [1, 5] [2] κn κ) = Kgq f0 f1 f2 x (fun x => κn (Kko x)) (Ku3 κ) := by cases x <;> kernel_rfl
theorem K5o (f0 : W19) (f1 : W2u) (f2 : W2m) (HK : Kfv Tryz.prog Inv (tab [(23, (Kdx f0)), (39, (Kdi f2)), (40, (Khf f1))] [])) : Kjx 0 Tryz.prog Inv (Kb9 (Kaf Tryz.f23) 0) (Kop f0 f1 f2) :=
  Kca (lv := [(0, [0]), (0, []), (5, [1, 5]), (100005, [2])]) Kbg HK (Ka5 (bs := []) (by kernel_rfl) Kat) (K5n f0 f1 f2) K5m Kj4
theorem K9a (f0 : W19) (f1 : W2u) (f2 : W2m) : Rd (Kdx (Kng f0 f1 f2)) (pevL Tryz.prog (tab [(23, (Kdx f0)), (39, (Kdi f2)), (40, (Khf f1))] []) (ltab [(5, Kop f0 f1 f2)]) [(0, [0]), (0, []), (5, [1, 5]), (100005, [2])] 64 Tryz.f23 (Kaf Tryz.f23)) := by
  intro ds; unfold Kdx; split
  · exact .inr fun k => by kernel_rfl
  · exact .inl fun _ => rfl
theorem Kv5 (N : Nat) : ∀ n, Kce Tryz.prog Inv 23 (Kdx (Kem N n))
  | 0 => Khc (by intro ds k; unfold Kdx; split <;> rfl)
  | n + 1 => by
    have ih := Kv5 N n
    exact Kam (lv := [(0, [0]), (0, []), (5, [1, 5]), (100005, [2])]) Kbg stab (Kbs stab (Kaa (ih) (Kaa Kiy (Kaa Kx7 (Kak _ _)))) (Kae _ _)) Tryz.func23 (by kernel_rfl) (by kernel_rfl) (Ka5 (bs := [Kb9 (Kaf Tryz.f23) 0]) (by kernel_rfl) (Kbk (by kernel_rfl) (K5o (Kem N n) Kf6 Kbu (Kbs stab (Kaa (ih) (Kaa Kiy (Kaa Kx7 (Kak _ _)))) (Kae _ _))) Kat)) (K9a (Kem N n) Kf6 Kbu)
theorem Kzg (N : Nat) : Kce Tryz.prog Inv 23 (Kdx (Kgx N)) := (Kv5 N N)
def Kdk (f0 : W2m) (c aq : W4w) (ar au : Int) (av : W4x) (aw : W4w) (ax ay : Int) (az ba : W4w) (bb b a : W4x) (k : W24) : W4y :=
  f0 c (fun d e bc bd be bf bg bh bi bj => bx ((c.toList == ByteArray.toList (⟨#[112, 97, 114]⟩))) (optE (b[Int.toNat 0]?) (fun f => ld_i f 0 (fun v12 => optE (b[Int.toNat 1]?) (fun g => ld_i g 0 (fun v14 => optE (a[Int.toNat 0]?) (fun h => ld_i h 0 (fun v16 => optE (a[Int.toNat 1]?) (fun i => ld_i i 0 (fun v18 => bx (!(decide (IntKind.wrap .i64 (v12 + v14) > 64))) (bx (decide (IntKind.wrap .i64 (v16 + v18) > 64)) (k 0 0 4) (k (IntKind.wrap .i64 (v12 + v14)) (IntKind.wrap .i64 (v16 + v18)) 0)) (k 0 0 4)))))))))) (bx ((c.toList == ByteArray.toList (⟨#[115, 101, 113]⟩))) (optE (b[Int.toNat 0]?) (fun j => ld_i j 0 (fun v20 => optE (a[Int.toNat 1]?) (fun l => ld_i l 0 (fun v22 => optE (a[Int.toNat 0]?) (fun m => ld_i m 0 (fun v24 => optE (b[Int.toNat 1]?) (fun n => ld_i n 0 (fun v26 => bx (!(v24 == v26)) (k 0 0 50) (bx (!(decide (v20 > 64))) (bx (decide (v22 > 64)) (k 0 0 4) (k v20 v22 0)) (k 0 0 4))))))))))) (bx ((c.toList == ByteArray.toList (⟨#[115, 112, 108, 105, 116]⟩))) (optE (b[Int.toNat 0]?) (fun o => ld_i o 0 (fun v28 => optE (a[Int.toNat 1]?) (fun p => ld_i p 0 (fun v30 => optE (a[Int.toNat 0]?) (fun q => ld_i q 0 (fun v32 => bx (decide (v32 > 0)) (optE (b[Int.toNat 1]?) (fun r => ld_i r 0 (fun v34 => bx (decide (v34 > 0)) (optE (b[Int.toNat 1]?) (fun s => ld_i s 0 (fun v36 => optE (a[Int.toNat 0]?) (fun t => ld_i t 0 (fun v38 => bx (v38 == 0) none (bx (!((Int.tmod v36 v38) == 0)) (k 0 0 50) (bx (!(decide (v28 > 64))) (bx (decide (v30 > 64)) (k 0 0 4) (k v28 v30 0)) (k 0 0 4)))))))) (k 0 0 50)))) (k 0 0 50)))))))) (bx ((c.toList == ByteArray.toList (⟨#[109, 101, 114, 103, 101]⟩))) (optE (b[Int.toNat 0]?) (fun u => ld_i u 0 (fun v40 => optE (a[Int.toNat 1]?) (fun v => ld_i v 0 (fun v42 => optE (b[Int.toNat 1]?) (fun w => ld_i w 0 (fun v44 => bx (decide (v44 > 0)) (optE (a[Int.toNat 0]?) (fun x => ld_i x 0 (fun v46 => bx (decide (v46 > 0)) (optE (a[Int.toNat 0]?) (fun y => ld_i y 0 (fun v48 => optE (b[Int.toNat 1]?) (fun z => ld_i z 0 (fun v50 => bx (v50 == 0) none (bx (!((Int.tmod v48 v50) == 0)) (k 0 0 50) (bx (!(decide (v40 > 64))) (bx (decide (v42 > 64)) (k 0 0 4) (k v40 v42 0)) (k 0 0 4)))))))) (k 0 0 50)))) (k 0 0 50)))))))) (bx ((c.toList == ByteArray.toList (⟨#[114, 101, 99]⟩))) (optE (b[Int.toNat 0]?) (fun aa => ld_i aa 0 (fun v52 => optE (a[Int.toNat 1]?) (fun ab => ld_i ab 0 (fun v54 => optE (a[Int.toNat 0]?) (fun ac => ld_i ac 0 (fun v56 => optE (b[Int.toNat 1]?) (fun ad => ld_i ad 0 (fun v58 => optE (a[Int.toNat 0]?) (fun ae => ld_i ae 0 (fun v60 => bx (decide (v58 ≤ v60)) (optE (a[Int.toNat 1]?) (fun af => ld_i af 0 (fun v62 => optE (b[Int.toNat 0]?) (fun ag => ld_i ag 0 (fun v64 => bx (!(decide (v62 ≤ v64))) (k 0 0 50) (bx (!(decide (IntKind.wrap .i64 (v52 - v54) > 64))) (bx (decide (v56 > 64)) (k 0 0 4) (k (IntKind.wrap .i64 (v52 - v54)) v56 0)) (k 0 0 4))))))) (k 0 0 50)))))))))))) (bx ((c.toList == ByteArray.toList (⟨#[117, 112]⟩))) (optE (b[Int.toNat 0]?) (fun ah => ld_i ah 0 (fun v66 => optE (a[Int.toNat 0]?) (fun ai => ld_i ai 0 (fun v68 => bx (!(decide (v66 > 64))) (bx (decide (v68 > 64)) (k 0 0 4) (k v66 v68 0)) (k 0 0 4)))))) (bx ((c.toList == ByteArray.toList (⟨#[100, 111, 119, 110]⟩))) (optE (b[Int.toNat 0]?) (fun aj => ld_i aj 0 (fun v70 => optE (a[Int.toNat 0]?) (fun al => ld_i al 0 (fun v72 => bx (!(decide (v70 > 64))) (bx (decide (v72 > 64)) (k 0 0 4) (k v70 v72 0)) (k 0 0 4)))))) (bx ((c.toList == ByteArray.toList (⟨#[103, 97, 116, 101]⟩))) (optE (b[Int.toNat 0]?) (fun am => ld_i am 0 (fun v74 => optE (a[Int.toNat 0]?) (fun an => ld_i an 0 (fun v76 => bx (!(decide (IntKind.wrap .i64 (v74 + 1) > 64))) (bx (decide (v76 > 64)) (k 0 0 4) (k (IntKind.wrap .i64 (v74 + 1)) v76 0)) (k 0 0 4)))))) (bx ((c.toList == ByteArray.toList (⟨#[114, 101, 115, 101, 116]⟩))) (optE (b[Int.toNat 0]?) (fun ao => ld_i ao 0 (fun v78 => optE (a[Int.toNat 0]?) (fun ap => ld_i ap 0 (fun v80 => bx (!(decide (IntKind.wrap .i64 (v78 + 1) > 64))) (bx (decide (v80 > 64)) (k 0 0 4) (k (IntKind.wrap .i64 (v78 + 1)) v80 0)) (k 0 0 4)))))) (bx (!(decide (d > 64))) (bx (decide (e > 64)) (k 0 0 4) (k d e 0)) (k 0 0 4)))))))))))
def Kii (f0 : W2w) (ds : W4z) (k : W2v) : W4y :=
  match ds with
  | [.agg [.val (.string a), .val (.string b), .val (.int .i64 c), .val (.int .i64 d), .lst 2 e, .val (.string f), .val (.int .i64 g), .val (.int .i64 h), .val (.string i), .val (.string j), .lst 11 l], .lst 1 m, .lst 1 n] => f0 a b c d e f g h i j l m n (fun o p q => k (.val (.tuple ⟨[.int .i64 o, .int .i64 p, .int .i64 q]⟩)))
  | _ => none
def Kay : W2w := Kdk Kbu
theorem Waa (f0 : W2m) : Rd (Kii (Kdk f0)) (pevL Tryz.prog (tab [(39, (Kdi f0))] []) noL [] 64 Tryz.f41 (Kaf Tryz.f41)) := by
  intro ds; unfold Kii; split
  · exact .inr fun k => by kernel_rfl
  · exact .inl fun _ => rfl
theorem K0n : Kce Tryz.prog Inv 41 (Kii Kay) :=
  Kam (lv := []) Kbg stab (Kbs stab (Kaa Kiy (Kak _ _)) (Kae _ _)) Tryz.func41 (by kernel_rfl) (by kernel_rfl) (Kdc.none _ _ _) (Waa Kbu)
end Go.Proofs.YtgohccjmphapfaaGreatDoor
end
