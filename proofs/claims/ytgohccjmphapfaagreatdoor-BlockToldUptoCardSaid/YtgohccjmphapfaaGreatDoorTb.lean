import Derived.Test.YtgohccjmphapfaaGreatDoorSh
set_option linter.all false
noncomputable section
namespace Go.Proofs.YtgohccjmphapfaaGreatDoor
open Go.Pv Go.RowKit
set_option maxRecDepth 100000
def Kt4 (f0 : W3f) (f1 : W2n) (a : W4w) (f g : Int) (d e : W4w) (k : KT) : W4y :=
  f1 a f g d e (fun h => bx (!h) (k (⟨#[]⟩)) (bx (decide (((a.size + ByteArray.size (⟨#[40]⟩) : Nat) : Int) > IntKind.max .i64)) none (f0 f (fun b => bx (decide (((ByteArray.size (a ++ (⟨#[40]⟩)) + b.size : Nat) : Int) > IntKind.max .i64)) none (bx (decide (((ByteArray.size ((a ++ (⟨#[40]⟩)) ++ b) + ByteArray.size (⟨#[44]⟩) : Nat) : Int) > IntKind.max .i64)) none (f0 g (fun c => bx (decide (((ByteArray.size (((a ++ (⟨#[40]⟩)) ++ b) ++ (⟨#[44]⟩)) + c.size : Nat) : Int) > IntKind.max .i64)) none (bx (decide (((ByteArray.size ((((a ++ (⟨#[40]⟩)) ++ b) ++ (⟨#[44]⟩)) ++ c) + ByteArray.size (⟨#[44]⟩) : Nat) : Int) > IntKind.max .i64)) none (bx (decide (((ByteArray.size (((((a ++ (⟨#[40]⟩)) ++ b) ++ (⟨#[44]⟩)) ++ c) ++ (⟨#[44]⟩)) + d.size : Nat) : Int) > IntKind.max .i64)) none (bx (decide (((ByteArray.size ((((((a ++ (⟨#[40]⟩)) ++ b) ++ (⟨#[44]⟩)) ++ c) ++ (⟨#[44]⟩)) ++ d) + ByteArray.size (⟨#[44]⟩) : Nat) : Int) > IntKind.max .i64)) none (bx (decide (((ByteArray.size (((((((a ++ (⟨#[40]⟩)) ++ b) ++ (⟨#[44]⟩)) ++ c) ++ (⟨#[44]⟩)) ++ d) ++ (⟨#[44]⟩)) + e.size : Nat) : Int) > IntKind.max .i64)) none (bx (decide (((ByteArray.size ((((((((a ++ (⟨#[40]⟩)) ++ b) ++ (⟨#[44]⟩)) ++ c) ++ (⟨#[44]⟩)) ++ d) ++ (⟨#[44]⟩)) ++ e) + ByteArray.size (⟨#[41]⟩) : Nat) : Int) > IntKind.max .i64)) none (k (((((((((a ++ (⟨#[40]⟩)) ++ b) ++ (⟨#[44]⟩)) ++ c) ++ (⟨#[44]⟩)) ++ d) ++ (⟨#[44]⟩)) ++ e) ++ (⟨#[41]⟩)))))))))))))))
def Kik (f0 : W2z) (ds : W4z) (k : W2v) : W4y :=
  match ds with
  | [.val (.agg ⟨[.string a, .int .i64 b, .int .i64 c, .string d, .string e]⟩)] => f0 a b c d e (fun f => k (.val (.string f)))
  | _ => none
def Kht : W2z := Kt4 strconv_Itoa Kgv
theorem Waj (f0 : W3f) (f1 : W2n) : Rd (Kik (Kt4 f0 f1)) (pevL Tryz.prog (tab [(61, (Kgc f1)), (76, (Klc f0))] []) noL [] 64 Tryz.f73 (Kaf Tryz.f73)) := by
  intro ds; unfold Kik; split
  · exact .inr fun k => by kernel_rfl
  · exact .inl fun _ => rfl
theorem K00 : Kce Tryz.prog Inv 73 (Kik Kht) :=
  Kam (lv := []) Kbg stab (Kbs stab (Kaa Kr1 (Kaa Kwg (Kak _ _))) (Kae _ _)) Tryz.func73 (by kernel_rfl) (by kernel_rfl) (Kdc.none _ _ _) (Waj strconv_Itoa Kgv)
def Kt5 (f0 : W28) (f1 : W2q) (c b : Int) (k : KT) : W4y :=
  f1 c b (fun e => bx (!e) (k (⟨#[110, 111, 110, 101]⟩)) (f0 c 10 (fun a => bx (b != 1) (bx (decide (((a.size + ByteArray.size (⟨#[47]⟩) : Nat) : Int) > IntKind.max .i64)) none (f0 b 10 (fun d => bx (decide (((ByteArray.size (a ++ (⟨#[47]⟩)) + d.size : Nat) : Int) > IntKind.max .i64)) none (k ((a ++ (⟨#[47]⟩)) ++ d))))) (k a))))
def Kil (f0 : W28) (ds : W4z) (k : W2v) : W4y :=
  match ds with
  | [.val (.agg ⟨[.int .i64 a, .int .i64 b]⟩)] => f0 a b (fun c => k (.val (.string c)))
  | _ => none
def Khu : W28 := Kt5 Ki7 Kcm
theorem Wak (f0 : W28) (f1 : W2q) : Rd (Kil (Kt5 f0 f1)) (pevL Tryz.prog (tab [(58, (Kc0 f1)), (106, (Ko6 f0))] []) noL [] 64 Tryz.f74 (Kaf Tryz.f74)) := by
  intro ds; unfold Kil; split
  · exact .inr fun k => by kernel_rfl
  · exact .inl fun _ => rfl
theorem K01 : Kce Tryz.prog Inv 74 (Kil Khu) :=
  Kam (lv := []) Kbg stab (Kbs stab (Kaa Khm (Kaa K33 (Kak _ _))) (Kae _ _)) Tryz.func74 (by kernel_rfl) (by kernel_rfl) (Kdc.none _ _ _) (Wak Ki7 Kcm)
inductive Kab where
  | h0 (a : W4x) (b : Nat) (c : Int) (d : W4z)
def Kav : Kab → Nat
  | .h0 a c b d => Int.toNat ((a.length : Int) - b) + 1
def Krp : SP := ⟨[(4, .d (.l 2)), (15, .osl 9 1 0 0), (16, .d (.i .i64))], 68, [.raw]⟩
def Krq : Args → Option Kab
  | [.l a, .n b, .i d, .c e] => some (.h0 a b d e)
  | _ => none
def Kj7 : Kab → St
  | .h0 a b d e => fS Krp [.l a, .n b, .i d, .c e]
def Kt6 (k : KC) : (Nat → List DV → Option DV) := (fun a b => k (.exit 0) (fS ⟨[(15, .osl 9 1 0 0)], 68, [.raw]⟩ [.n a, .c b]))
def Kas (f0 : W28) (f1 : W2z) (f2 : W3f) (f3 : W2m) : Kab → (Kab → Option DV) → ((Nat → List DV → Option DV)) → Option DV
  | .h0 c a b d, κn, κ => bx (decide (b < (c.length : Int))) (bx (decide (0 ≤ b)) (optE (c[b.toNat]?) (fun e => Ki3 e 0 (fun v15 v16 => f0 v15 v16 (fun f => bx ((true && true && Nat.ble (a * 1) (d.length) && Nat.ble (a + 1) maxLen && Nat.ble ((a + 1) * 16) 140737488355328)) (κn (Kab.h0 c (a + 1) (IntKind.wrap .i64 (b + 1)) (List.take (a * 1) d ++ [.val (.string f)]))) none)))) none) (κ a d)
def Kta (s : St) : Option Kab := hdO Krp Krq s
def Knv (f0 : W28) (f1 : W2z) (f2 : W3f) (f3 : W2m) : St → KC → Option DV := decR Kta (Kas f0 f1 f2 f3) Kav Kt6
theorem K4l : ∀ s x, Kta s = some x → SLe s (Kj7 x) := fun _ _ => (Kec (S := Kj7) fun a x h => by unfold Krq at h; split at h <;> cases h; rfl)
def Kr7 (f0 : W28) (f1 : W2z) (f2 : W3f) (f3 : W2m) (a b : W4w) (u s : Int) (c : W4x) (h : W4w) (i j : Int) (l m : W4w) (κ0 : W31) : W4y :=
  f3 a (fun bf bg bh v t e n bi bj bl => bx (v) (f2 u (fun d => bx (t) (f2 s (fun f => bx (n) (f1 h i j l m (fun o => bx (e) (bx (decide (((ByteArray.size (⟨#[34]⟩) + b.size : Nat) : Int) > IntKind.max .i64)) none (bx (decide (((ByteArray.size ((⟨#[34]⟩) ++ b) + ByteArray.size (⟨#[34]⟩) : Nat) : Int) > IntKind.max .i64)) none (LF (Kas f0 f1 f2 f3) (Kav (Kab.h0 c 5 0 ([.val (.string a), .val (.string d), .val (.string f), .val (.string o), .val (.string (((⟨#[34]⟩) ++ b) ++ (⟨#[34]⟩)))]))) (Kab.h0 c 5 0 ([.val (.string a), .val (.string d), .val (.string f), .val (.string o), .val (.string (((⟨#[34]⟩) ++ b) ++ (⟨#[34]⟩)))])) ((fun w x => κ0 w x))))) (LF (Kas f0 f1 f2 f3) (Kav (Kab.h0 c 4 0 ([.val (.string a), .val (.string d), .val (.string f), .val (.string o)]))) (Kab.h0 c 4 0 ([.val (.string a), .val (.string d), .val (.string f), .val (.string o)])) ((fun y z => κ0 y z))))) (bx (e) (bx (decide (((ByteArray.size (⟨#[34]⟩) + b.size : Nat) : Int) > IntKind.max .i64)) none (bx (decide (((ByteArray.size ((⟨#[34]⟩) ++ b) + ByteArray.size (⟨#[34]⟩) : Nat) : Int) > IntKind.max .i64)) none (LF (Kas f0 f1 f2 f3) (Kav (Kab.h0 c 4 0 ([.val (.string a), .val (.string d), .val (.string f), .val (.string (((⟨#[34]⟩) ++ b) ++ (⟨#[34]⟩)))]))) (Kab.h0 c 4 0 ([.val (.string a), .val (.string d), .val (.string f), .val (.string (((⟨#[34]⟩) ++ b) ++ (⟨#[34]⟩)))])) ((fun aa ab => κ0 aa ab))))) (LF (Kas f0 f1 f2 f3) (Kav (Kab.h0 c 3 0 ([.val (.string a), .val (.string d), .val (.string f)]))) (Kab.h0 c 3 0 ([.val (.string a), .val (.string d), .val (.string f)])) ((fun ac ad => κ0 ac ad)))))) (bx (n) (f1 h i j l m (fun p => bx (e) (bx (decide (((ByteArray.size (⟨#[34]⟩) + b.size : Nat) : Int) > IntKind.max .i64)) none (bx (decide (((ByteArray.size ((⟨#[34]⟩) ++ b) + ByteArray.size (⟨#[34]⟩) : Nat) : Int) > IntKind.max .i64)) none (LF (Kas f0 f1 f2 f3) (Kav (Kab.h0 c 4 0 ([.val (.string a), .val (.string d), .val (.string p), .val (.string (((⟨#[34]⟩) ++ b) ++ (⟨#[34]⟩)))]))) (Kab.h0 c 4 0 ([.val (.string a), .val (.string d), .val (.string p), .val (.string (((⟨#[34]⟩) ++ b) ++ (⟨#[34]⟩)))])) ((fun ae af => κ0 ae af))))) (LF (Kas f0 f1 f2 f3) (Kav (Kab.h0 c 3 0 ([.val (.string a), .val (.string d), .val (.string p)]))) (Kab.h0 c 3 0 ([.val (.string a), .val (.string d), .val (.string p)])) ((fun ag ah => κ0 ag ah))))) (bx (e) (bx (decide (((ByteArray.size (⟨#[34]⟩) + b.size : Nat) : Int) > IntKind.max .i64)) none (bx (decide (((ByteArray.size ((⟨#[34]⟩) ++ b) + ByteArray.size (⟨#[34]⟩) : Nat) : Int) > IntKind.max .i64)) none (LF (Kas f0 f1 f2 f3) (Kav (Kab.h0 c 3 0 ([.val (.string a), .val (.string d), .val (.string (((⟨#[34]⟩) ++ b) ++ (⟨#[34]⟩)))]))) (Kab.h0 c 3 0 ([.val (.string a), .val (.string d), .val (.string (((⟨#[34]⟩) ++ b) ++ (⟨#[34]⟩)))])) ((fun ai aj => κ0 ai aj))))) (LF (Kas f0 f1 f2 f3) (Kav (Kab.h0 c 2 0 ([.val (.string a), .val (.string d)]))) (Kab.h0 c 2 0 ([.val (.string a), .val (.string d)])) ((fun al am => κ0 al am))))))) (bx (t) (f2 s (fun g => bx (n) (f1 h i j l m (fun q => bx (e) (bx (decide (((ByteArray.size (⟨#[34]⟩) + b.size : Nat) : Int) > IntKind.max .i64)) none (bx (decide (((ByteArray.size ((⟨#[34]⟩) ++ b) + ByteArray.size (⟨#[34]⟩) : Nat) : Int) > IntKind.max .i64)) none (LF (Kas f0 f1 f2 f3) (Kav (Kab.h0 c 4 0 ([.val (.string a), .val (.string g), .val (.string q), .val (.string (((⟨#[34]⟩) ++ b) ++ (⟨#[34]⟩)))]))) (Kab.h0 c 4 0 ([.val (.string a), .val (.string g), .val (.string q), .val (.string (((⟨#[34]⟩) ++ b) ++ (⟨#[34]⟩)))])) ((fun an ao => κ0 an ao))))) (LF (Kas f0 f1 f2 f3) (Kav (Kab.h0 c 3 0 ([.val (.string a), .val (.string g), .val (.string q)]))) (Kab.h0 c 3 0 ([.val (.string a), .val (.string g), .val (.string q)])) ((fun ap aq => κ0 ap aq))))) (bx (e) (bx (decide (((ByteArray.size (⟨#[34]⟩) + b.size : Nat) : Int) > IntKind.max .i64)) none (bx (decide (((ByteArray.size ((⟨#[34]⟩) ++ b) + ByteArray.size (⟨#[34]⟩) : Nat) : Int) > IntKind.max .i64)) none (LF (Kas f0 f1 f2 f3) (Kav (Kab.h0 c 3 0 ([.val (.string a), .val (.string g), .val (.string (((⟨#[34]⟩) ++ b) ++ (⟨#[34]⟩)))]))) (Kab.h0 c 3 0 ([.val (.string a), .val (.string g), .val (.string (((⟨#[34]⟩) ++ b) ++ (⟨#[34]⟩)))])) ((fun ar au => κ0 ar au))))) (LF (Kas f0 f1 f2 f3) (Kav (Kab.h0 c 2 0 ([.val (.string a), .val (.string g)]))) (Kab.h0 c 2 0 ([.val (.string a), .val (.string g)])) ((fun av aw => κ0 av aw)))))) (bx (n) (f1 h i j l m (fun r => bx (e) (bx (decide (((ByteArray.size (⟨#[34]⟩) + b.size : Nat) : Int) > IntKind.max .i64)) none (bx (decide (((ByteArray.size ((⟨#[34]⟩) ++ b) + ByteArray.size (⟨#[34]⟩) : Nat) : Int) > IntKind.max .i64)) none (LF (Kas f0 f1 f2 f3) (Kav (Kab.h0 c 3 0 ([.val (.string a), .val (.string r), .val (.string (((⟨#[34]⟩) ++ b) ++ (⟨#[34]⟩)))]))) (Kab.h0 c 3 0 ([.val (.string a), .val (.string r), .val (.string (((⟨#[34]⟩) ++ b) ++ (⟨#[34]⟩)))])) ((fun ax ay => κ0 ax ay))))) (LF (Kas f0 f1 f2 f3) (Kav (Kab.h0 c 2 0 ([.val (.string a), .val (.string r)]))) (Kab.h0 c 2 0 ([.val (.string a), .val (.string r)])) ((fun az ba => κ0 az ba))))) (bx (e) (bx (decide (((ByteArray.size (⟨#[34]⟩) + b.size : Nat) : Int) > IntKind.max .i64)) none (bx (decide (((ByteArray.size ((⟨#[34]⟩) ++ b) + ByteArray.size (⟨#[34]⟩) : Nat) : Int) > IntKind.max .i64)) none (LF (Kas f0 f1 f2 f3) (Kav (Kab.h0 c 2 0 ([.val (.string a), .val (.string (((⟨#[34]⟩) ++ b) ++ (⟨#[34]⟩)))]))) (Kab.h0 c 2 0 ([.val (.string a), .val (.string (((⟨#[34]⟩) ++ b) ++ (⟨#[34]⟩)))])) ((fun bb bc => κ0 bb bc))))) (LF (Kas f0 f1 f2 f3) (Kav (Kab.h0 c 1 0 ([.val (.string a)]))) (Kab.h0 c 1 0 ([.val (.string a)])) ((fun bd be => κ0 bd be)))))))
def Ke2 (f0 : W2s) (xs : List VV) (H : OH) (k : W29) : W4y :=
  match xs, H with
  | [.dv (.val (.string a)), .dv (.val (.string b)), .dv (.val (.int .i64 c)), .dv (.val (.int .i64 d)), .dv (.lst 2 e), .dv (.val (.agg ⟨[.string f, .int .i64 g, .int .i64 h, .string i, .string j]⟩))], [] => f0 a b c d e f g h i j (fun l m => k (.osl 9 1 0 0 l) [some (.cells m)])
  | _, _ => none
def Kes (N : Nat) : W2s := Kr7 Khu Kht (Kff N) Kbu
theorem K4m (f0 : W28) (f1 : W2z) (f2 : W3f) (f3 : W2m) (x : Kab) (κn : St → Option DV) (κ : KC) : pev Tryz.prog (tab [(39, (Kdi f3)), (72, (Kd0 f2)), (73, (Kik f1)), (74, (Kil f0))] []) (ltab [(12, Knv f0 f1 f2 f3)]) [(0, [0, 0]), (0, []), (12, [4, 15, 16]), (100012, [15])] 64 (Kb9 (Kaf Tryz.f48) 0) (Kj7 x) (Ki2 0 [4, 15, 16] [15] κn κ) = Kas f0 f1 f2 f3 x (fun x => κn (Kj7 x)) (Kt6 κ) := by cases x <;> kernel_rfl
theorem K4n (f0 : W28) (f1 : W2z) (f2 : W3f) (f3 : W2m) (HK : Kfv Tryz.prog Inv (tab [(39, (Kdi f3)), (72, (Kd0 f2)), (73, (Kik f1)), (74, (Kil f0))] [])) : Kjx 0 Tryz.prog Inv (Kb9 (Kaf Tryz.f48) 0) (Knv f0 f1 f2 f3) :=
  Kca (lv := [(0, [0, 0]), (0, []), (12, [4, 15, 16]), (100012, [15])]) Kbg HK (Ka5 (bs := []) (by kernel_rfl) Kat) (K4m f0 f1 f2 f3) K4l Kav
theorem K9m (f0 : W28) (f1 : W2z) (f2 : W3f) (f3 : W2m) : RdH 0 (Ke2 (Kr7 f0 f1 f2 f3)) (pevH Tryz.prog (tab [(39, (Kdi f3)), (72, (Kd0 f2)), (73, (Kik f1)), (74, (Kil f0))] []) (ltab [(12, Knv f0 f1 f2 f3)]) [(0, [0, 0]), (0, []), (12, [4, 15, 16]), (100012, [15])] 64 Tryz.f48 (Kaf Tryz.f48)) := by
  intro xs H; unfold Ke2; split
  · exact .inr ⟨rfl, fun k => by kernel_rfl⟩
  · exact .inl fun _ => rfl
theorem Kr8 (N : Nat) : Kk0 Tryz.prog Inv 48 (Ke2 (Kes N)) :=
  Kmw (lv := [(0, [0, 0]), (0, []), (12, [4, 15, 16]), (100012, [15])]) Kbg (Kbs stab (Kaa Kiy (Kaa (Kxp N) (Kaa K00 (Kaa K01 (Kak _ _))))) (Kae _ _)) Tryz.func48 (by kernel_rfl) (by kernel_rfl) (Ka5 (bs := [Kb9 (Kaf Tryz.f48) 0]) (by kernel_rfl) (Kbk (by kernel_rfl) (K4n Khu Kht (Kff N) Kbu (Kbs stab (Kaa Kiy (Kaa (Kxp N) (Kaa K00 (Kaa K01 (Kak _ _))))) (Kae _ _))) Kat)) (K9m Khu Kht (Kff N) Kbu)
inductive Kdp where
  | h0 (a : Nat) (b : Int) (c d : W4w) (e f : Int) (g : W4x) (h : W4w) (i j : Int) (l m : W4w) (n : W4x) (o : W4z)
def Kit : Kdp → Nat
  | .h0 c a d e f g h i j l m n b o => Int.toNat ((b.length : Int) - a) + 1
inductive Kdq where
  | h0 (a : Nat) (b : W4w) (c : Int) (d : W4z)
def Kiu : Kdq → Nat
  | .h0 a c b d => Int.toNat (((a : Nat) : Int) - b) + 1
def Kt7 : SP := ⟨[(1, .ptr 0 0), (3, .osl 9 1 1 0), (4, .d (.i .i64))], 59, [BP0, .raw]⟩
def Kt8 : Args → Option Kdp
  | [.n a, .i b, .s d, .s e, .i f, .i g, .l h, .s j, .i m, .i o, .s p, .s q, .l r, .c t] => some (.h0 a b d e f g h j m o p q r t)
  | _ => none
def Klp : Kdp → St
  | .h0 a b d e f g h j m o p q r t => fS Kt7 [.n a, .i b, .s d, .s e, .i f, .i g, .l h, .s j, .i m, .i o, .s p, .s q, .l r, .c t]
def Kwh (k : KC) : (Nat → List DV → Option DV) := (fun a b => k (.exit 0) (fS ⟨[(3, .osl 9 1 0 0)], 59, [.raw]⟩ [.n a, .c b]))
def Khk (f0 : W2s) (f1 : W2p) : Kdp → (Kdp → Option DV) → ((Nat → List DV → Option DV)) → Option DV
  | .h0 a b e f g h i j l m n o c d, κn, κ => bx (decide (b < (c.length : Int))) (bx (decide (0 ≤ b)) (optE (c[b.toNat]?) (fun p => Kal p 0 (fun v3 v4 v5 v6 v7 v8 v9 v10 v11 v12 v13 => f1 v3 v4 v5 v6 v7 v8 v9 v10 v11 v12 v13 (fun q => bx ((true && true && Nat.ble (a * 1) (d.length) && Nat.ble (a + 1) maxLen && Nat.ble ((a + 1) * 16) 140737488355328)) (κn (Kdp.h0 (a + 1) (IntKind.wrap .i64 (b + 1)) e f g h i j l m n o c (List.take (a * 1) d ++ [.val (.string q)]))) none)))) none) (κ a d)
def Kvd (s : St) : Option Kdp := hdO Kt7 Kt8 s
def Klq (f0 : W2s) (f1 : W2p) : St → KC → Option DV := decR Kvd (Khk f0 f1) Kit Kwh
theorem K7i : ∀ s x, Kvd s = some x → SLe s (Klp x) := fun _ _ => (Kec (S := Klp) fun a x h => by unfold Kt8 at h; split at h <;> cases h; rfl)
def Kt9 : SP := ⟨[(3, .osl 9 1 0 0), (5, .d .s), (6, .d (.i .i64))], 59, [.raw]⟩
def Kua : Args → Option Kdq
  | [.n a, .s b, .i d, .c e] => some (.h0 a b d e)
  | _ => none
def Klr : Kdq → St
  | .h0 a b d e => fS Kt9 [.n a, .s b, .i d, .c e]
def Kwi (k : KC) : (Nat → ByteArray → List DV → Option DV) := (fun a b e => k (.exit 2) (fS ⟨[(3, .osl 9 1 0 0), (5, .d .s)], 59, [.raw]⟩ [.n a, .s b, .c e]))
def Khl (f0 : W2s) (f1 : W2p) : Kdq → (Kdq → Option DV) → ((Nat → ByteArray → List DV → Option DV)) → Option DV
  | .h0 b c a d, κn, κ => bx (decide (a < ((b : Nat) : Int))) (bx ((decide (0 ≤ a) && decide (a < ((b : Nat) : Int)))) (ld_s d (0 + a.toNat * 1) (fun v17 => bx (decide (((ByteArray.size (⟨#[32]⟩) + v17.size : Nat) : Int) > IntKind.max .i64)) none (bx (decide (((c.size + ByteArray.size ((⟨#[32]⟩) ++ v17) : Nat) : Int) > IntKind.max .i64)) none (κn (Kdq.h0 b (c ++ ((⟨#[32]⟩) ++ v17)) (IntKind.wrap .i64 (a + 1)) d))))) none) (κ b c d)
def Kve (s : St) : Option Kdq := hdO Kt9 Kua s
def Kls (f0 : W2s) (f1 : W2p) : St → KC → Option DV := decR Kve (Khl f0 f1) Kiu Kwi
theorem K7j : ∀ s x, Kve s = some x → SLe s (Klr x) := fun _ _ => (Kec (S := Klr) fun a x h => by unfold Kua at h; split at h <;> cases h; rfl)
def Kod (f0 : W2s) (f1 : W2p) (b c : W4w) (d e : Int) (f : W4x) (g : W4w) (h i : Int) (j l : W4w) (o : W4x) (k : KT) : W4y :=
  f0 b c d e f g h i j l (fun y1_0 y1_1 => LF (Khk f0 f1) (Kit (Kdp.h0 y1_0 0 b c d e f g h i j l o y1_1)) (Kdp.h0 y1_0 0 b c d e f g h i j l o y1_1) ((fun m n => bx ((decide (0 ≤ 0) && decide (0 < ((m : Nat) : Int)))) (ld_s n (0 + Int.toNat 0 * 1) (fun v16 => LF (Khl f0 f1) (Kiu (Kdq.h0 m v16 1 n)) (Kdq.h0 m v16 1 n) ((fun p a q => bx (((p : Nat) : Int) == 1) (k a) (bx (decide (((ByteArray.size (⟨#[40]⟩) + a.size : Nat) : Int) > IntKind.max .i64)) none (bx (decide (((ByteArray.size ((⟨#[40]⟩) ++ a) + ByteArray.size (⟨#[41]⟩) : Nat) : Int) > IntKind.max .i64)) none (k (((⟨#[40]⟩) ++ a) ++ (⟨#[41]⟩))))))))) none)))
def Kdt (f0 : W2p) (ds : W4z) (k : W2v) : W4y :=
  match ds with
  | [.agg [.val (.string a), .val (.string b), .val (.int .i64 c), .val (.int .i64 d), .lst 2 e, .val (.string f), .val (.int .i64 g), .val (.int .i64 h), .val (.string i), .val (.string j), .lst 11 l]] => f0 a b c d e f g h i j l (fun m => k (.val (.string m)))
  | _ => none
def Kd3 (N : Nat) : Nat → W2p
  | 0 => (fun _ _ _ _ _ _ _ _ _ _ _ _ => none)
  | n + 1 => (Kod (Kes N) (Kd3 N n))
def Kq5 (N : Nat) : W2p := Kd3 N N
theorem K7k (f0 : W2s) (f1 : W2p) (x : Kdp) (κn : St → Option DV) (κ : KC) : pev Tryz.prog (tab [(32, (Kdt f1))] [(48, (Ke2 f0))]) (ltab [(3, Klq f0 f1), (8, Kls f0 f1)]) [(0, [0]), (0, []), (3, [1, 3, 4]), (100003, [3]), (8, [3, 5, 6]), (100008, [3, 5])] 64 (Kb9 (Kaf Tryz.f32) 0) (Klp x) (Ki2 0 [1, 3, 4] [3] κn κ) = Khk f0 f1 x (fun x => κn (Klp x)) (Kwh κ) := by cases x <;> kernel_rfl
theorem K7l (f0 : W2s) (f1 : W2p) (HK : Kfv Tryz.prog Inv (tab [(32, (Kdt f1))] [(48, (Ke2 f0))])) : Kjx 0 Tryz.prog Inv (Kb9 (Kaf Tryz.f32) 0) (Klq f0 f1) :=
  Kca (lv := [(0, [0]), (0, []), (3, [1, 3, 4]), (100003, [3]), (8, [3, 5, 6]), (100008, [3, 5])]) Kbg HK (Ka5 (bs := []) (by kernel_rfl) Kat) (K7k f0 f1) K7i Kit
theorem K7m (f0 : W2s) (f1 : W2p) (x : Kdq) (κn : St → Option DV) (κ : KC) : pev Tryz.prog (tab [(32, (Kdt f1))] [(48, (Ke2 f0))]) (ltab [(3, Klq f0 f1), (8, Kls f0 f1)]) [(0, [0]), (0, []), (3, [1, 3, 4]), (100003, [3]), (8, [3, 5, 6]), (100008, [3, 5])] 64 (Kb9 (Kaf Tryz.f32) 1) (Klr x) (Ki2 0 [3, 5, 6] [3, 5] κn κ) = Khl f0 f1 x (fun x => κn (Klr x)) (Kwi κ) := by cases x <;> kernel_rfl
theorem K7n (f0 : W2s) (f1 : W2p) (HK : Kfv Tryz.prog Inv (tab [(32, (Kdt f1))] [(48, (Ke2 f0))])) : Kjx 0 Tryz.prog Inv (Kb9 (Kaf Tryz.f32) 1) (Kls f0 f1) :=
  Kca (lv := [(0, [0]), (0, []), (3, [1, 3, 4]), (100003, [3]), (8, [3, 5, 6]), (100008, [3, 5])]) Kbg HK (Ka5 (bs := []) (by kernel_rfl) Kat) (K7m f0 f1) K7j Kiu
theorem Wal (f0 : W2s) (f1 : W2p) : Rd (Kdt (Kod f0 f1)) (pevL Tryz.prog (tab [(32, (Kdt f1))] [(48, (Ke2 f0))]) (ltab [(3, Klq f0 f1), (8, Kls f0 f1)]) [(0, [0]), (0, []), (3, [1, 3, 4]), (100003, [3]), (8, [3, 5, 6]), (100008, [3, 5])] 64 Tryz.f32 (Kaf Tryz.f32)) := by
  intro ds; unfold Kdt; split
  · exact .inr fun k => by kernel_rfl
  · exact .inl fun _ => rfl
theorem Kxr (N : Nat) : ∀ n, Kce Tryz.prog Inv 32 (Kdt (Kd3 N n))
  | 0 => Khc (by intro ds k; unfold Kdt; split <;> rfl)
  | n + 1 => by
    have ih := Kxr N n
    exact Kam (lv := [(0, [0]), (0, []), (3, [1, 3, 4]), (100003, [3]), (8, [3, 5, 6]), (100008, [3, 5])]) Kbg stab (Kbs stab (Kaa (ih) (Kak _ _)) (Kbp (Kr8 N) (Kae _ _))) Tryz.func32 (by kernel_rfl) (by kernel_rfl) (Ka5 (bs := [Kb9 (Kaf Tryz.f32) 0, Kb9 (Kaf Tryz.f32) 1]) (by kernel_rfl) (Kbk (by kernel_rfl) (K7l (Kes N) (Kd3 N n) (Kbs stab (Kaa (ih) (Kak _ _)) (Kbp (Kr8 N) (Kae _ _)))) (Kbk (by kernel_rfl) (K7n (Kes N) (Kd3 N n) (Kbs stab (Kaa (ih) (Kak _ _)) (Kbp (Kr8 N) (Kae _ _)))) Kat))) (Wal (Kes N) (Kd3 N n))
theorem Wam (N : Nat) : Kce Tryz.prog Inv 32 (Kdt (Kq5 N)) := (Kxr N N)
def Kub (f0 : W2p) (f1 : W19) (a b : W4w) (c d : Int) (e : W4x) (f : W4w) (g h : Int) (i j : W4w) (l : W4x) (k : W4o) : W4y :=
  f1 a b c d e f g h i j l (fun m => bx (!m) (k (⟨#[]⟩) 2) (f0 a b c d e f g h i j l (fun n => k n 0)))
def Kfg (f0 : W2i) (ds : W4z) (k : W2v) : W4y :=
  match ds with
  | [.agg [.val (.string a), .val (.string b), .val (.int .i64 c), .val (.int .i64 d), .lst 2 e, .val (.string f), .val (.int .i64 g), .val (.int .i64 h), .val (.string i), .val (.string j), .lst 11 l]] => f0 a b c d e f g h i j l (fun m n => k (.val (.tuple ⟨[.string m, .int .i64 n]⟩)))
  | _ => none
def Khv (N : Nat) : W2i := Kub (Kq5 N) (Kgx N)
theorem Wan (f0 : W2p) (f1 : W19) : Rd (Kfg (Kub f0 f1)) (pevL Tryz.prog (tab [(23, (Kdx f1)), (32, (Kdt f0))] []) noL [] 64 Tryz.f16 (Kaf Tryz.f16)) := by
  intro ds; unfold Kfg; split
  · exact .inr fun k => by kernel_rfl
  · exact .inl fun _ => rfl
theorem Kuc (N : Nat) : Kce Tryz.prog Inv 16 (Kfg (Khv N)) :=
  Kam (lv := []) Kbg stab (Kbs stab (Kaa (Kzg N) (Kaa (Wam N) (Kak _ _))) (Kae _ _)) Tryz.func16 (by kernel_rfl) (by kernel_rfl) (Kdc.none _ _ _) (Wan (Kq5 N) (Kgx N))
def Km6   (κ0 : W4y) : W4y :=
  κ0
def Kqk   (κ0 : W4y) : W4y :=
  κ0
def Kld  (a : Nat) (b : W4z) (κ0 : W31) : W4y :=
  κ0 a b
def Kow (f2 : W3i) (xs : List VV) (H : OH) (k : W29) : W4y :=
  match xs, H with
  | [.tp 63 2 0], [some (.mix [.ptr 0 0, .osl 5 1 1 0 a]), some (.cells b)] => f2 a b (fun c d => k (.dv (.val (.tuple ⟨[]⟩))) [some (.mix [.ptr 0 0, .osl 5 1 1 0 c]), some (.cells d)])
  | _, _ => none
def Kox (f1 : W3q) (f2 : W3i) (xs : List VV) (H : OH) (k : W29) : W4y :=
  match xs, H with
  | [.tp 63 2 0], [some (.mix [.ptr 0 0, .dv (.val (.slice none 0 0))])] => f1 (k (.dv (.val (.tuple ⟨[]⟩))) [some (.mix [.ptr 0 0, .dv (.val (.slice none 0 0))])])
  | _, _ => Kow f2 xs H k
def Kha (f0 f1 : W3q) (f2 : W3i) (xs : List VV) (H : OH) (k : W29) : W4y :=
  match xs, H with
  | [.tp 63 2 0], [some (.mix [.dv (.val (.pointer none)), .dv (.val (.slice none 0 0))])] => f0 (k (.dv (.val (.tuple ⟨[]⟩))) [some (.mix [.ptr 0 0, .dv (.val (.slice none 0 0))])])
  | _, _ => Kox f1 f2 xs H k
def Kej : W3q := Km6
def Keh : W3q := Kqk
def Kdu : Nat → List DV → (Nat → List DV → Option DV) → Option DV := Kld
theorem K35   (k : W29) : Km6   (k (.dv (.val (.tuple ⟨[]⟩))) [some (.mix [.ptr 0 0, .dv (.val (.slice none 0 0))])]) = pevH Tryz.prog (tab [] []) noL [(0, [0, 1]), (0, [])] 64 Tryz.f75 (Kaf Tryz.f75) [.tp 63 2 0] [some (.mix [.dv (.val (.pointer none)), .dv (.val (.slice none 0 0))])] k := by kernel_rfl
theorem K02   (k : W29) : Kqk   (k (.dv (.val (.tuple ⟨[]⟩))) [some (.mix [.ptr 0 0, .dv (.val (.slice none 0 0))])]) = pevH Tryz.prog (tab [] []) noL [(0, [0, 1]), (0, [])] 64 Tryz.f75 (Kaf Tryz.f75) [.tp 63 2 0] [some (.mix [.ptr 0 0, .dv (.val (.slice none 0 0))])] k := by kernel_rfl
theorem K03  (a : Nat) (b : W4z) (k : W29) : Kld  a b (fun c d => k (.dv (.val (.tuple ⟨[]⟩))) [some (.mix [.ptr 0 0, .osl 5 1 1 0 c]), some (.cells d)]) = pevH Tryz.prog (tab [] []) noL [(0, [0, 2]), (0, [])] 64 Tryz.f75 (Kaf Tryz.f75) [.tp 63 2 0] [some (.mix [.ptr 0 0, .osl 5 1 1 0 a]), some (.cells b)] k := by kernel_rfl
theorem K36 : Kk0 Tryz.prog Inv 75 (Kha Kej Keh Kdu) :=
  Kx5 Kbg (Kbs stab (Kak _ _) (Kae _ _)) Tryz.func75 (by kernel_rfl) (by kernel_rfl) (by
    intro xs H; unfold Kha; split
    · exact .inr ⟨noL, [(0, [0, 1]), (0, [])], 64, Kdc.none _ _ _, rfl, fun k => K35   k⟩
    unfold Kox; split
    · exact .inr ⟨noL, [(0, [0, 1]), (0, [])], 64, Kdc.none _ _ _, rfl, fun k => K02   k⟩
    unfold Kow; split
    · exact .inr ⟨noL, [(0, [0, 2]), (0, [])], 64, Kdc.none _ _ _, rfl, fun k => K03  _ _ k⟩
    · exact .inl (fun _ => rfl))
def Klz (f0 : W3q) (f1 : W3i) (f2 : W3q) (a : W4w) (κ0 : KI) (κ1 : W4c) : W4y :=
  f2 (bx (Nat.beq (a.size) 0) (κ0 (a.size : Int)) (bx (Nat.ble (a.size) 140737488355328) (κ1 (a.size : Int) (a.size) (Kjh a)) none))
def Koy (f0 : W3q) (f1 : W3i) (f2 : W3q) (a : W4w) (κ0 : KI) (κ1 : W4c) : W4y :=
  f2 (bx (Nat.beq (a.size) 0) (κ0 (a.size : Int)) (bx (Nat.ble (a.size) 140737488355328) (κ1 (a.size : Int) (a.size) (Kjh a)) none))
def Kj0 (f0 f1 : W3q) (f2 : W3i) (a : W4w) (b : Nat) (c : W4z) (κ0 κ1 : W4c) : W4y :=
  f2 b c (fun y1_0 y1_1 => bx (Nat.beq (a.size) 0) (κ0 (a.size : Int) y1_0 y1_1) (bx ((true && true && Nat.ble y1_0 (y1_1.length) && Nat.ble (y1_0 + a.size) 140737488355328)) (κ1 (a.size : Int) (y1_0 + a.size) (List.take y1_0 y1_1 ++ Kjh a)) none))
def Knr (f2 : W2k) (xs : List VV) (H : OH) (k : W29) : W4y :=
  match xs, H with
  | [.tp 63 2 0, .dv (.val (.string d))], [some (.mix [.ptr 0 0, .osl 5 1 1 0 e]), some (.cells f)] => f2 d e f (fun a b c => k (.dv (.val (.tuple ⟨[.int .i64 a, .nilIface]⟩))) [some (.mix [.ptr 0 0, .osl 5 1 1 0 b]), some (.cells c)]) (fun a b c => k (.dv (.val (.tuple ⟨[.int .i64 a, .nilIface]⟩))) [some (.mix [.ptr 0 0, .osl 5 1 2 0 b]), some .gone, some (.cells c)])
  | _, _ => none
def Kns (f1 : W2g) (f2 : W2k) (xs : List VV) (H : OH) (k : W29) : W4y :=
  match xs, H with
  | [.tp 63 2 0, .dv (.val (.string b))], [some (.mix [.ptr 0 0, .dv (.val (.slice none 0 0))])] => f1 b (fun a => k (.dv (.val (.tuple ⟨[.int .i64 a, .nilIface]⟩))) [some (.mix [.ptr 0 0, .dv (.val (.slice none 0 0))])]) (fun a c d => k (.dv (.val (.tuple ⟨[.int .i64 a, .nilIface]⟩))) [some (.mix [.ptr 0 0, .osl 5 1 1 0 c]), some (.cells d)])
  | _, _ => Knr f2 xs H k
def Kaw (f0 f1 : W2g) (f2 : W2k) (xs : List VV) (H : OH) (k : W29) : W4y :=
  match xs, H with
  | [.tp 63 2 0, .dv (.val (.string b))], [some (.mix [.dv (.val (.pointer none)), .dv (.val (.slice none 0 0))])] => f0 b (fun a => k (.dv (.val (.tuple ⟨[.int .i64 a, .nilIface]⟩))) [some (.mix [.ptr 0 0, .dv (.val (.slice none 0 0))])]) (fun a c d => k (.dv (.val (.tuple ⟨[.int .i64 a, .nilIface]⟩))) [some (.mix [.ptr 0 0, .osl 5 1 1 0 c]), some (.cells d)])
  | _, _ => Kns f1 f2 xs H k
def Kaj : W2g := Klz Keh Kdu Kej
def Kai : W2g := Koy Kej Kdu Keh
def Kah : W2k := Kj0 Kej Keh Kdu
theorem K1s (f0 : W3q) (f1 : W3i) (f2 : W3q) (b : W4w) (k : W29) : Klz f0 f1 f2 b (fun a => k (.dv (.val (.tuple ⟨[.int .i64 a, .nilIface]⟩))) [some (.mix [.ptr 0 0, .dv (.val (.slice none 0 0))])]) (fun a c d => k (.dv (.val (.tuple ⟨[.int .i64 a, .nilIface]⟩))) [some (.mix [.ptr 0 0, .osl 5 1 1 0 c]), some (.cells d)]) = pevH Tryz.prog (tab [] [(75, (Kha f2 f0 f1))]) noL [(0, [0, 1]), (0, [])] 64 Tryz.f51 (Kaf Tryz.f51) [.tp 63 2 0, .dv (.val (.string b))] [some (.mix [.dv (.val (.pointer none)), .dv (.val (.slice none 0 0))])] k := by kernel_rfl
theorem Kzb (f0 : W3q) (f1 : W3i) (f2 : W3q) (b : W4w) (k : W29) : Koy f0 f1 f2 b (fun a => k (.dv (.val (.tuple ⟨[.int .i64 a, .nilIface]⟩))) [some (.mix [.ptr 0 0, .dv (.val (.slice none 0 0))])]) (fun a c d => k (.dv (.val (.tuple ⟨[.int .i64 a, .nilIface]⟩))) [some (.mix [.ptr 0 0, .osl 5 1 1 0 c]), some (.cells d)]) = pevH Tryz.prog (tab [] [(75, (Kha f0 f2 f1))]) noL [(0, [0, 1]), (0, [])] 64 Tryz.f51 (Kaf Tryz.f51) [.tp 63 2 0, .dv (.val (.string b))] [some (.mix [.ptr 0 0, .dv (.val (.slice none 0 0))])] k := by kernel_rfl
theorem Kzc (f0 f1 : W3q) (f2 : W3i) (d : W4w) (e : Nat) (f : W4z) (k : W29) : Kj0 f0 f1 f2 d e f (fun a b c => k (.dv (.val (.tuple ⟨[.int .i64 a, .nilIface]⟩))) [some (.mix [.ptr 0 0, .osl 5 1 1 0 b]), some (.cells c)]) (fun a b c => k (.dv (.val (.tuple ⟨[.int .i64 a, .nilIface]⟩))) [some (.mix [.ptr 0 0, .osl 5 1 2 0 b]), some .gone, some (.cells c)]) = pevH Tryz.prog (tab [] [(75, (Kha f0 f1 f2))]) noL [(0, [0, 2]), (0, [])] 64 Tryz.f51 (Kaf Tryz.f51) [.tp 63 2 0, .dv (.val (.string d))] [some (.mix [.ptr 0 0, .osl 5 1 1 0 e]), some (.cells f)] k := by kernel_rfl
theorem Kea : Kk0 Tryz.prog Inv 51 (Kaw Kaj Kai Kah) :=
  Kx5 Kbg (Kbs stab (Kak _ _) (Kbp K36 (Kae _ _))) Tryz.func51 (by kernel_rfl) (by kernel_rfl) (by
    intro xs H; unfold Kaw; split
    · exact .inr ⟨noL, [(0, [0, 1]), (0, [])], 64, Kdc.none _ _ _, rfl, fun k => K1s Keh Kdu Kej _ k⟩
    unfold Kns; split
    · exact .inr ⟨noL, [(0, [0, 1]), (0, [])], 64, Kdc.none _ _ _, rfl, fun k => Kzb Kej Kdu Keh _ k⟩
    unfold Knr; split
    · exact .inr ⟨noL, [(0, [0, 2]), (0, [])], 64, Kdc.none _ _ _, rfl, fun k => Kzc Kej Keh Kdu _ _ _ k⟩
    · exact .inl (fun _ => rfl))
def Wao (f0 : W4q) (f1 : W3f) (f2 : W2n) (a : W4w) (c d : Int) (e f : W4w) (k : KT) : W4y :=
  f2 a c d e f (fun g => bx (!g) (k (⟨#[]⟩)) (f1 c (fun h => f1 d (fun i => bx (decide (((a.size + ByteArray.size (⟨#[40]⟩) : Nat) : Int) > IntKind.max .i64)) none (f0 ([[.val (.string h)], [.val (.string i)], [.val (.string e)], [.val (.string f)]]) (⟨#[44]⟩) (fun b => bx (decide (((ByteArray.size (a ++ (⟨#[40]⟩)) + b.size : Nat) : Int) > IntKind.max .i64)) none (bx (decide (((ByteArray.size ((a ++ (⟨#[40]⟩)) ++ b) + ByteArray.size (⟨#[41]⟩) : Nat) : Int) > IntKind.max .i64)) none (k (((a ++ (⟨#[40]⟩)) ++ b) ++ (⟨#[41]⟩))))))))))
def Kq6 (f0 : W2z) (ds : W4z) (k : W2v) : W4y :=
  match ds with
  | [.val (.agg ⟨[.string a, .int .i64 b, .int .i64 c, .string d, .string e]⟩)] => f0 a b c d e (fun f => k (.val (.string f)))
  | _ => none
def Knx : W2z := Wao strings_Join strconv_Itoa Kqu
theorem Wok (f0 : W4q) (f1 : W3f) (f2 : W2n) : Rd (Kq6 (Wao f0 f1 f2)) (pevL Tryz.prog (tab [(65, (Krv f2)), (76, (Klc f1)), (109, (Kyw f0))] []) noL [] 64 Tryz.f77 (Kaf Tryz.f77)) := by
  intro ds; unfold Kq6; split
  · exact .inr fun k => by kernel_rfl
  · exact .inl fun _ => rfl
theorem Wap : Kce Tryz.prog Inv 77 (Kq6 Knx) :=
  Kam (lv := []) Kbg stab (Kbs stab (Kaa K8f (Kaa Kwg (Kaa Wjl (Kak _ _)))) (Kae _ _)) Tryz.func77 (by kernel_rfl) (by kernel_rfl) (Kdc.none _ _ _) (Wok strings_Join strconv_Itoa Kqu)
def Waq (f0 : W28) (f1 : W2q) (c b : Int) (k : KT) : W4y :=
  f1 c b (fun e => bx (!e) (k (⟨#[110, 111, 110, 101]⟩)) (f0 c 10 (fun a => bx (b == 1) (k a) (bx (decide (((a.size + ByteArray.size (⟨#[47]⟩) : Nat) : Int) > IntKind.max .i64)) none (f0 b 10 (fun d => bx (decide (((ByteArray.size (a ++ (⟨#[47]⟩)) + d.size : Nat) : Int) > IntKind.max .i64)) none (k ((a ++ (⟨#[47]⟩)) ++ d))))))))
def Kq7 (f0 : W28) (ds : W4z) (k : W2v) : W4y :=
  match ds with
  | [.val (.agg ⟨[.int .i64 a, .int .i64 b]⟩)] => f0 a b (fun c => k (.val (.string c)))
  | _ => none
def Kny : W28 := Waq Ki7 Knj
theorem Wol (f0 : W28) (f1 : W2q) : Rd (Kq7 (Waq f0 f1)) (pevL Tryz.prog (tab [(95, (Kos f1)), (106, (Ko6 f0))] []) noL [] 64 Tryz.f78 (Kaf Tryz.f78)) := by
  intro ds; unfold Kq7; split
  · exact .inr fun k => by kernel_rfl
  · exact .inl fun _ => rfl
theorem War : Kce Tryz.prog Inv 78 (Kq7 Kny) :=
  Kam (lv := []) Kbg stab (Kbs stab (Kaa Kzy (Kaa K33 (Kak _ _))) (Kae _ _)) Tryz.func78 (by kernel_rfl) (by kernel_rfl) (Kdc.none _ _ _) (Wol Ki7 Knj)
end Go.Proofs.YtgohccjmphapfaaGreatDoor
end

noncomputable section
namespace Go.Proofs.YtgohccjmphapfaaGreatDoor
open Go.Pv Go.RowKit
set_option maxRecDepth 100000
inductive Kag where
  | h0 (a : Nat) (b : W4x) (c d : Int) (e : W4z)
  | h1 (a : W4x) (b c : Int)
def Ka2 : Kag → Nat
  | .h0 c b a d e => Int.toNat (a - d) + 1
  | .h1 c b a => Int.toNat (b - a) + 1
def Kwj : SP := ⟨[(5, .osl 9 1 0 0), (44, .d (.l 2)), (45, .d (.i .i64)), (46, .d (.i .i64))], 57, [.raw]⟩
def Kwk : Args → Option Kag
  | [.n a, .l b, .i d, .i e, .c f] => some (.h0 a b d e f)
  | _ => none
def Kwl : SP := ⟨[(5, .d .z), (44, .d (.l 2)), (45, .d (.i .i64)), (46, .d (.i .i64))], 57, []⟩
def Kwm : Args → Option Kag
  | [.l a, .i b, .i c] => some (.h1 a b c)
  | _ => none
def Kkb : Kag → St
  | .h0 a b d e f => fS Kwj [.n a, .l b, .i d, .i e, .c f]
  | .h1 a b d => fS Kwl [.l a, .i b, .i d]
def Kyx (k : KC) : (Nat → List DV → Option DV) × (Option DV) := (fun a b => k (.exit 0) (fS ⟨[(5, .osl 9 1 0 0)], 57, [.raw]⟩ [.n a, .c b]), k (.exit 0) (fS ⟨[(5, .d .z)], 57, []⟩ []))
def Kau (f0 : W28) (f1 : W2z) (f2 : W3f) : Kag → (Kag → Option DV) → ((Nat → List DV → Option DV) × (Option DV)) → Option DV
  | .h0 a c b d e, κn, κ => bx (decide (d < b)) (bx (decide (0 ≤ d)) (optE (c[d.toNat]?) (fun f => Ki3 f 0 (fun v5 v6 => f0 v5 v6 (fun g => bx ((true && true && Nat.ble (a * 1) (e.length) && Nat.ble (a + 1) maxLen && Nat.ble ((a + 1) * 16) 140737488355328)) (κn (Kag.h0 (a + 1) c b (IntKind.wrap .i64 (d + 1)) (List.take (a * 1) e ++ [.val (.string g)]))) none)))) none) (κ.1 a e)
  | .h1 a c b, κn, κ => bx (decide (b < c)) (bx (decide (0 ≤ b)) (optE (a[b.toNat]?) (fun h => Ki3 h 0 (fun v9 v10 => f0 v9 v10 (fun i => κn (Kag.h0 1 a c (IntKind.wrap .i64 (b + 1)) ([.val (.string i)])))))) none) κ.2
def Kxs (s : St) : Option Kag := orO (hdO Kwj Kwk s) (hdO Kwl Kwm s)
def Kr9 (f0 : W28) (f1 : W2z) (f2 : W3f) : St → KC → Option DV := decR Kxs (Kau f0 f1 f2) Ka2 Kyx
theorem K9n : ∀ s x, Kxs s = some x → SLe s (Kkb x) := fun _ _ => (Kx6 (Kec (S := Kkb) fun a x h => by unfold Kwk at h; split at h <;> cases h; rfl) (Kec (S := Kkb) fun a x h => by unfold Kwm at h; split at h <;> cases h; rfl))
def Kyy (f0 : W28) (f1 : W2z) (f2 : W3f) (bd b : W4w) (bc s : Int) (a : W4x) (g : W4w) (h i : Int) (j l : W4w) (be : W4x) (bf bg bh r : Int) (m d bi : Bool) (k : W4e) : W4y :=
  bx (decide (r ≥ 1)) (f2 bc (fun c => bx (decide (r ≥ 2)) (f2 s (fun e => bx (m) (f1 g h i j l (fun n => bx (d) (bx (decide (((ByteArray.size (⟨#[34]⟩) + b.size : Nat) : Int) > IntKind.max .i64)) none (bx (decide (((ByteArray.size ((⟨#[34]⟩) ++ b) + ByteArray.size (⟨#[34]⟩) : Nat) : Int) > IntKind.max .i64)) none (LF (Kau f0 f1 f2) (Ka2 (Kag.h0 4 a (a.length : Int) 0 ([.val (.string c), .val (.string e), .val (.string n), .val (.string (((⟨#[34]⟩) ++ b) ++ (⟨#[34]⟩)))]))) (Kag.h0 4 a (a.length : Int) 0 ([.val (.string c), .val (.string e), .val (.string n), .val (.string (((⟨#[34]⟩) ++ b) ++ (⟨#[34]⟩)))])) ((fun t u => bx (Nat.ble (0 + t * 1) (u.length)) (k (Kcy 1 t (List.drop 0 u))) none), (k []))))) (LF (Kau f0 f1 f2) (Ka2 (Kag.h0 3 a (a.length : Int) 0 ([.val (.string c), .val (.string e), .val (.string n)]))) (Kag.h0 3 a (a.length : Int) 0 ([.val (.string c), .val (.string e), .val (.string n)])) ((fun v w => bx (Nat.ble (0 + v * 1) (w.length)) (k (Kcy 1 v (List.drop 0 w))) none), (k []))))) (bx (d) (bx (decide (((ByteArray.size (⟨#[34]⟩) + b.size : Nat) : Int) > IntKind.max .i64)) none (bx (decide (((ByteArray.size ((⟨#[34]⟩) ++ b) + ByteArray.size (⟨#[34]⟩) : Nat) : Int) > IntKind.max .i64)) none (LF (Kau f0 f1 f2) (Ka2 (Kag.h0 3 a (a.length : Int) 0 ([.val (.string c), .val (.string e), .val (.string (((⟨#[34]⟩) ++ b) ++ (⟨#[34]⟩)))]))) (Kag.h0 3 a (a.length : Int) 0 ([.val (.string c), .val (.string e), .val (.string (((⟨#[34]⟩) ++ b) ++ (⟨#[34]⟩)))])) ((fun x y => bx (Nat.ble (0 + x * 1) (y.length)) (k (Kcy 1 x (List.drop 0 y))) none), (k []))))) (LF (Kau f0 f1 f2) (Ka2 (Kag.h0 2 a (a.length : Int) 0 ([.val (.string c), .val (.string e)]))) (Kag.h0 2 a (a.length : Int) 0 ([.val (.string c), .val (.string e)])) ((fun z aa => bx (Nat.ble (0 + z * 1) (aa.length)) (k (Kcy 1 z (List.drop 0 aa))) none), (k [])))))) (bx (m) (f1 g h i j l (fun o => bx (d) (bx (decide (((ByteArray.size (⟨#[34]⟩) + b.size : Nat) : Int) > IntKind.max .i64)) none (bx (decide (((ByteArray.size ((⟨#[34]⟩) ++ b) + ByteArray.size (⟨#[34]⟩) : Nat) : Int) > IntKind.max .i64)) none (LF (Kau f0 f1 f2) (Ka2 (Kag.h0 3 a (a.length : Int) 0 ([.val (.string c), .val (.string o), .val (.string (((⟨#[34]⟩) ++ b) ++ (⟨#[34]⟩)))]))) (Kag.h0 3 a (a.length : Int) 0 ([.val (.string c), .val (.string o), .val (.string (((⟨#[34]⟩) ++ b) ++ (⟨#[34]⟩)))])) ((fun ab ac => bx (Nat.ble (0 + ab * 1) (ac.length)) (k (Kcy 1 ab (List.drop 0 ac))) none), (k []))))) (LF (Kau f0 f1 f2) (Ka2 (Kag.h0 2 a (a.length : Int) 0 ([.val (.string c), .val (.string o)]))) (Kag.h0 2 a (a.length : Int) 0 ([.val (.string c), .val (.string o)])) ((fun ad ae => bx (Nat.ble (0 + ad * 1) (ae.length)) (k (Kcy 1 ad (List.drop 0 ae))) none), (k []))))) (bx (d) (bx (decide (((ByteArray.size (⟨#[34]⟩) + b.size : Nat) : Int) > IntKind.max .i64)) none (bx (decide (((ByteArray.size ((⟨#[34]⟩) ++ b) + ByteArray.size (⟨#[34]⟩) : Nat) : Int) > IntKind.max .i64)) none (LF (Kau f0 f1 f2) (Ka2 (Kag.h0 2 a (a.length : Int) 0 ([.val (.string c), .val (.string (((⟨#[34]⟩) ++ b) ++ (⟨#[34]⟩)))]))) (Kag.h0 2 a (a.length : Int) 0 ([.val (.string c), .val (.string (((⟨#[34]⟩) ++ b) ++ (⟨#[34]⟩)))])) ((fun af ag => bx (Nat.ble (0 + af * 1) (ag.length)) (k (Kcy 1 af (List.drop 0 ag))) none), (k []))))) (LF (Kau f0 f1 f2) (Ka2 (Kag.h0 1 a (a.length : Int) 0 ([.val (.string c)]))) (Kag.h0 1 a (a.length : Int) 0 ([.val (.string c)])) ((fun ah ai => bx (Nat.ble (0 + ah * 1) (ai.length)) (k (Kcy 1 ah (List.drop 0 ai))) none), (k []))))))) (bx (decide (r ≥ 2)) (f2 s (fun f => bx (m) (f1 g h i j l (fun p => bx (d) (bx (decide (((ByteArray.size (⟨#[34]⟩) + b.size : Nat) : Int) > IntKind.max .i64)) none (bx (decide (((ByteArray.size ((⟨#[34]⟩) ++ b) + ByteArray.size (⟨#[34]⟩) : Nat) : Int) > IntKind.max .i64)) none (LF (Kau f0 f1 f2) (Ka2 (Kag.h0 3 a (a.length : Int) 0 ([.val (.string f), .val (.string p), .val (.string (((⟨#[34]⟩) ++ b) ++ (⟨#[34]⟩)))]))) (Kag.h0 3 a (a.length : Int) 0 ([.val (.string f), .val (.string p), .val (.string (((⟨#[34]⟩) ++ b) ++ (⟨#[34]⟩)))])) ((fun aj al => bx (Nat.ble (0 + aj * 1) (al.length)) (k (Kcy 1 aj (List.drop 0 al))) none), (k []))))) (LF (Kau f0 f1 f2) (Ka2 (Kag.h0 2 a (a.length : Int) 0 ([.val (.string f), .val (.string p)]))) (Kag.h0 2 a (a.length : Int) 0 ([.val (.string f), .val (.string p)])) ((fun am an => bx (Nat.ble (0 + am * 1) (an.length)) (k (Kcy 1 am (List.drop 0 an))) none), (k []))))) (bx (d) (bx (decide (((ByteArray.size (⟨#[34]⟩) + b.size : Nat) : Int) > IntKind.max .i64)) none (bx (decide (((ByteArray.size ((⟨#[34]⟩) ++ b) + ByteArray.size (⟨#[34]⟩) : Nat) : Int) > IntKind.max .i64)) none (LF (Kau f0 f1 f2) (Ka2 (Kag.h0 2 a (a.length : Int) 0 ([.val (.string f), .val (.string (((⟨#[34]⟩) ++ b) ++ (⟨#[34]⟩)))]))) (Kag.h0 2 a (a.length : Int) 0 ([.val (.string f), .val (.string (((⟨#[34]⟩) ++ b) ++ (⟨#[34]⟩)))])) ((fun ao ap => bx (Nat.ble (0 + ao * 1) (ap.length)) (k (Kcy 1 ao (List.drop 0 ap))) none), (k []))))) (LF (Kau f0 f1 f2) (Ka2 (Kag.h0 1 a (a.length : Int) 0 ([.val (.string f)]))) (Kag.h0 1 a (a.length : Int) 0 ([.val (.string f)])) ((fun aq ar => bx (Nat.ble (0 + aq * 1) (ar.length)) (k (Kcy 1 aq (List.drop 0 ar))) none), (k [])))))) (bx (m) (f1 g h i j l (fun q => bx (d) (bx (decide (((ByteArray.size (⟨#[34]⟩) + b.size : Nat) : Int) > IntKind.max .i64)) none (bx (decide (((ByteArray.size ((⟨#[34]⟩) ++ b) + ByteArray.size (⟨#[34]⟩) : Nat) : Int) > IntKind.max .i64)) none (LF (Kau f0 f1 f2) (Ka2 (Kag.h0 2 a (a.length : Int) 0 ([.val (.string q), .val (.string (((⟨#[34]⟩) ++ b) ++ (⟨#[34]⟩)))]))) (Kag.h0 2 a (a.length : Int) 0 ([.val (.string q), .val (.string (((⟨#[34]⟩) ++ b) ++ (⟨#[34]⟩)))])) ((fun au av => bx (Nat.ble (0 + au * 1) (av.length)) (k (Kcy 1 au (List.drop 0 av))) none), (k []))))) (LF (Kau f0 f1 f2) (Ka2 (Kag.h0 1 a (a.length : Int) 0 ([.val (.string q)]))) (Kag.h0 1 a (a.length : Int) 0 ([.val (.string q)])) ((fun aw ax => bx (Nat.ble (0 + aw * 1) (ax.length)) (k (Kcy 1 aw (List.drop 0 ax))) none), (k []))))) (bx (d) (bx (decide (((ByteArray.size (⟨#[34]⟩) + b.size : Nat) : Int) > IntKind.max .i64)) none (bx (decide (((ByteArray.size ((⟨#[34]⟩) ++ b) + ByteArray.size (⟨#[34]⟩) : Nat) : Int) > IntKind.max .i64)) none (LF (Kau f0 f1 f2) (Ka2 (Kag.h0 1 a (a.length : Int) 0 ([.val (.string (((⟨#[34]⟩) ++ b) ++ (⟨#[34]⟩)))]))) (Kag.h0 1 a (a.length : Int) 0 ([.val (.string (((⟨#[34]⟩) ++ b) ++ (⟨#[34]⟩)))])) ((fun ay az => bx (Nat.ble (0 + ay * 1) (az.length)) (k (Kcy 1 ay (List.drop 0 az))) none), (k []))))) (LF (Kau f0 f1 f2) (Ka2 (Kag.h1 a (a.length : Int) 0)) (Kag.h1 a (a.length : Int) 0) ((fun ba bb => bx (Nat.ble (0 + ba * 1) (bb.length)) (k (Kcy 1 ba (List.drop 0 bb))) none), (k []))))))
def Kb2 (f0 : W2c) (ds : W4z) (k : W2v) : W4y :=
  match ds with
  | [.agg [.val (.string a), .val (.string b), .val (.int .i64 c), .val (.int .i64 d), .lst 2 e, .val (.string f), .val (.int .i64 g), .val (.int .i64 h), .val (.string i), .val (.string j), .lst 11 l], .val (.agg ⟨[.int .i64 m, .int .i64 n, .int .i64 o, .int .i64 p, .bool q, .bool r, .bool s]⟩)] => f0 a b c d e f g h i j l m n o p q r s (fun t => k (.lst 1 t))
  | _ => none
def Kbf : W2c := Kyy Kny Knx strconv_Itoa
theorem K9o (f0 : W28) (f1 : W2z) (f2 : W3f) (x : Kag) (κn : St → Option DV) (κ : KC) : pev Tryz.prog (tab [(76, (Klc f2)), (77, (Kq6 f1)), (78, (Kq7 f0))] []) (ltab [(11, Kr9 f0 f1 f2)]) [(0, [0]), (0, []), (11, [5, 44, 45, 46]), (100011, [5])] 64 (Kb9 (Kaf Tryz.f52) 0) (Kkb x) (Ki2 0 [5, 44, 45, 46] [5] κn κ) = Kau f0 f1 f2 x (fun x => κn (Kkb x)) (Kyx κ) := by cases x <;> kernel_rfl
theorem K9p (f0 : W28) (f1 : W2z) (f2 : W3f) (HK : Kfv Tryz.prog Inv (tab [(76, (Klc f2)), (77, (Kq6 f1)), (78, (Kq7 f0))] [])) : Kjx 0 Tryz.prog Inv (Kb9 (Kaf Tryz.f52) 0) (Kr9 f0 f1 f2) :=
  Kca (lv := [(0, [0]), (0, []), (11, [5, 44, 45, 46]), (100011, [5])]) Kbg HK (Ka5 (bs := []) (by kernel_rfl) Kat) (K9o f0 f1 f2) K9n Ka2
theorem Wee (f0 : W28) (f1 : W2z) (f2 : W3f) : Rd (Kb2 (Kyy f0 f1 f2)) (pevL Tryz.prog (tab [(76, (Klc f2)), (77, (Kq6 f1)), (78, (Kq7 f0))] []) (ltab [(11, Kr9 f0 f1 f2)]) [(0, [0]), (0, []), (11, [5, 44, 45, 46]), (100011, [5])] 64 Tryz.f52 (Kaf Tryz.f52)) := by
  intro ds; unfold Kb2; split
  · exact .inr fun k => by kernel_rfl
  · exact .inl fun _ => rfl
theorem Kjs : Kce Tryz.prog Inv 52 (Kb2 Kbf) :=
  Kam (lv := [(0, [0]), (0, []), (11, [5, 44, 45, 46]), (100011, [5])]) Kbg stab (Kbs stab (Kaa Kwg (Kaa Wap (Kaa War (Kak _ _)))) (Kae _ _)) Tryz.func52 (by kernel_rfl) (by kernel_rfl) (Ka5 (bs := [Kb9 (Kaf Tryz.f52) 0]) (by kernel_rfl) (Kbk (by kernel_rfl) (K9p Kny Knx strconv_Itoa (Kbs stab (Kaa Kwg (Kaa Wap (Kaa War (Kak _ _)))) (Kae _ _))) Kat)) (Wee Kny Knx strconv_Itoa)
end Go.Proofs.YtgohccjmphapfaaGreatDoor
end
