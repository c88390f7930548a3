import Derived.Test.YtgohccjmphapfaaGreatDoorRd
set_option linter.all false
noncomputable section
namespace Go.Proofs.YtgohccjmphapfaaGreatDoor
open Go.Pv Go.RowKit
set_option maxRecDepth 100000
inductive Kgs where
  | h0 (a : W4x) (b c : Int)
def Ksz : Kgs → Nat
  | .h0 c a b => Int.toNat (a - b) + 1
def K1u : SP := ⟨[(14, .d (.l 1)), (15, .d (.i .i64)), (16, .d (.i .i64))], 24, []⟩
def K1v : Args → Option Kgs
  | [.l a, .i b, .i c] => some (.h0 a b c)
  | _ => none
def Kur : Kgs → St
  | .h0 a b c => fS K1u [.l a, .i b, .i c]
def K41 (k : KC) : KB × (Option DV) := (fun a => k .ret (fS ⟨[(2, .d .b)], 24, []⟩ [.b a]), k (.exit 0) (fS ⟨[(2, .dead)], 24, []⟩ []))
def Kmy (f0 : W3s) : Kgs → (Kgs → Option DV) → (KB × (Option DV)) → Option DV
  | .h0 b c a, κn, κ => bx (decide (a < c)) (bx (decide (0 ≤ a)) (optE (b[a.toNat]?) (fun d => W0w d 0 (fun v2 => f0 v2 (fun e => bx (!e) (κ.1 false) (κn (Kgs.h0 b c (IntKind.wrap .i64 (a + 1)))))))) none) κ.2
def K3n (s : St) : Option Kgs := hdO K1u K1v s
def Kz1 (f0 : W3s) : St → KC → Option DV := decR K3n (Kmy f0) Ksz K41
theorem Wew : ∀ s x, K3n s = some x → SLe s (Kur x) := fun _ _ => (Kec (S := Kur) fun a x h => by unfold K1v at h; split at h <;> cases h; rfl)
def K50 (f0 : W3s) (a : W4w) (k : KB) : W4y :=
  bx (!(decide ((a.size : Int) < 1))) (bx (decide ((a.size : Int) > 40)) (k false) (LF (Kmy f0) (Ksz (Kgs.h0 (Kse a) ((List.length (Kse a) : Nat) : Int) 0)) (Kgs.h0 (Kse a) ((List.length (Kse a) : Nat) : Int) 0) ((fun b => k b), (k true)))) (k false)
def Kye (f0 : W3h) (ds : W4z) (k : W2v) : W4y :=
  match ds with
  | [.val (.string a)] => f0 a (fun b => k (.val (.bool b)))
  | _ => none
def K0r : W3h := K50 Kly
theorem Wex (f0 : W3s) (x : Kgs) (κn : St → Option DV) (κ : KC) : pev Tryz.prog (tab [(101, (Kke f0))] []) (ltab [(4, Kz1 f0)]) [(0, [0]), (0, []), (4, [14, 15, 16]), (100004, [2])] 64 (Kb9 (Kaf Tryz.f67) 0) (Kur x) (Ki2 0 [14, 15, 16] [2] κn κ) = Kmy f0 x (fun x => κn (Kur x)) (K41 κ) := by cases x <;> kernel_rfl
theorem Wey (f0 : W3s) (HK : Kfv Tryz.prog Inv (tab [(101, (Kke f0))] [])) : Kjx 0 Tryz.prog Inv (Kb9 (Kaf Tryz.f67) 0) (Kz1 f0) :=
  Kca (lv := [(0, [0]), (0, []), (4, [14, 15, 16]), (100004, [2])]) Kbg HK (Ka5 (bs := []) (by kernel_rfl) Kat) (Wex f0) Wew Ksz
theorem Wjf (f0 : W3s) : Rd (Kye (K50 f0)) (pevL Tryz.prog (tab [(101, (Kke f0))] []) (ltab [(4, Kz1 f0)]) [(0, [0]), (0, []), (4, [14, 15, 16]), (100004, [2])] 64 Tryz.f67 (Kaf Tryz.f67)) := by
  intro ds; unfold Kye; split
  · exact .inr fun k => by kernel_rfl
  · exact .inl fun _ => rfl
theorem Wjg : Kce Tryz.prog Inv 67 (Kye K0r) :=
  Kam (lv := [(0, [0]), (0, []), (4, [14, 15, 16]), (100004, [2])]) Kbg stab (Kbs stab (Kaa K40 (Kak _ _)) (Kae _ _)) Tryz.func67 (by kernel_rfl) (by kernel_rfl) (Ka5 (bs := [Kb9 (Kaf Tryz.f67) 0]) (by kernel_rfl) (Kbk (by kernel_rfl) (Wey Kly (Kbs stab (Kaa K40 (Kak _ _)) (Kae _ _))) Kat)) (Wjf Kly)
def K42 (f0 : W2q) (a b c d : Int) (k : KB) : W4y :=
  f0 a b (fun e => bx (e) (f0 c d (fun f => k f)) (k false))
def Kyf (f0 : W32) (ds : W4z) (k : W2v) : W4y :=
  match ds with
  | [.val (.agg ⟨[.int .i64 a, .int .i64 b]⟩), .val (.agg ⟨[.int .i64 c, .int .i64 d]⟩)] => f0 a b c d (fun e => k (.val (.bool e)))
  | _ => none
def Kz2 : W32 := K42 Knj
theorem Wod (f0 : W2q) : Rd (Kyf (K42 f0)) (pevL Tryz.prog (tab [(95, (Kos f0))] []) noL [] 64 Tryz.f125 (Kaf Tryz.f125)) := by
  intro ds; unfold Kyf; split
  · exact .inr fun k => by kernel_rfl
  · exact .inl fun _ => rfl
theorem Wf0 : Kce Tryz.prog Inv 125 (Kyf Kz2) :=
  Kam (lv := []) Kbg stab (Kbs stab (Kaa Kzy (Kak _ _)) (Kae _ _)) Tryz.func125 (by kernel_rfl) (by kernel_rfl) (Kdc.none _ _ _) (Wod Knj)
def Waf  (a : Int) (k : KB) : W4y :=
  k (a != a)
def Kwv (f0 : W3s) (ds : W4z) (k : W2v) : W4y :=
  match ds with
  | [.val (.int .i64 a)] => f0 a (fun b => k (.val (.bool b)))
  | _ => none
def K8g : W3s := Waf
theorem Wiw  : Rd (Kwv (Waf )) (pevL Tryz.prog (tab [] []) noL [] 64 Tryz.f150 (Kaf Tryz.f150)) := by
  intro ds; unfold Kwv; split
  · exact .inr fun k => by kernel_rfl
  · exact .inl fun _ => rfl
theorem Wix : Kce Tryz.prog Inv 150 (Kwv K8g) :=
  Kam (lv := []) Kbg stab (Kbs stab (Kak _ _) (Kae _ _)) Tryz.func150 (by kernel_rfl) (by kernel_rfl) (Kdc.none _ _ _) (Wiw )
def K63 (f0 : W3s) (a b : Int) (k : KI) : W4y :=
  f0 a (fun d => f0 b (fun c => bx (d) (bx (c) (k 0) (k (-1))) (bx (c) (k 1) (bx (decide (a < b)) (k (-1)) (bx (decide (a > b)) (k 1) (k 0))))))
def Ks0 (f0 : W23) (ds : W4z) (k : W2v) : W4y :=
  match ds with
  | [.val (.int .i64 a), .val (.int .i64 b)] => f0 a b (fun c => k (.val (.int .i64 c)))
  | _ => none
def K3o : W23 := K63 K8g
theorem Wez (f0 : W3s) : Rd (Ks0 (K63 f0)) (pevL Tryz.prog (tab [(150, (Kwv f0))] []) noL [] 64 Tryz.f126 (Kaf Tryz.f126)) := by
  intro ds; unfold Ks0; split
  · exact .inr fun k => by kernel_rfl
  · exact .inl fun _ => rfl
theorem We0 : Kce Tryz.prog Inv 126 (Ks0 K3o) :=
  Kam (lv := []) Kbg stab (Kbs stab (Kaa Wix (Kak _ _)) (Kae _ _)) Tryz.func126 (by kernel_rfl) (by kernel_rfl) (Kdc.none _ _ _) (Wez K8g)
def Wf1 (f0 : W2q) (a b : Int) (k : KI) : W4y :=
  f0 a b (fun c => bx (c) (k 1) (k 0))
def K2l (f0 : W23) (ds : W4z) (k : W2v) : W4y :=
  match ds with
  | [.val (.agg ⟨[.int .i64 a, .int .i64 b]⟩)] => f0 a b (fun c => k (.val (.int .i64 c)))
  | _ => none
def We1 : W23 := Wf1 Knj
theorem Woe (f0 : W2q) : Rd (K2l (Wf1 f0)) (pevL Tryz.prog (tab [(95, (Kos f0))] []) noL [] 64 Tryz.f127 (Kaf Tryz.f127)) := by
  intro ds; unfold K2l; split
  · exact .inr fun k => by kernel_rfl
  · exact .inl fun _ => rfl
theorem Wof : Kce Tryz.prog Inv 127 (K2l We1) :=
  Kam (lv := []) Kbg stab (Kbs stab (Kaa Kzy (Kak _ _)) (Kae _ _)) Tryz.func127 (by kernel_rfl) (by kernel_rfl) (Kdc.none _ _ _) (Woe Knj)
def Kz3  (a : Int) (k : KB) : W4y :=
  k (a != a)
def Ks1 (f0 : W3s) (ds : W4z) (k : W2v) : W4y :=
  match ds with
  | [.val (.int .i64 a)] => f0 a (fun b => k (.val (.bool b)))
  | _ => none
def Kyg : W3s := Kz3
theorem We2  : Rd (Ks1 (Kz3 )) (pevL Tryz.prog (tab [] []) noL [] 64 Tryz.f151 (Kaf Tryz.f151)) := by
  intro ds; unfold Ks1; split
  · exact .inr fun k => by kernel_rfl
  · exact .inl fun _ => rfl
theorem We3 : Kce Tryz.prog Inv 151 (Ks1 Kyg) :=
  Kam (lv := []) Kbg stab (Kbs stab (Kak _ _) (Kae _ _)) Tryz.func151 (by kernel_rfl) (by kernel_rfl) (Kdc.none _ _ _) (We2 )
def Kw5 (f0 : W3s) (a b : Int) (k : KI) : W4y :=
  f0 a (fun d => f0 b (fun c => bx (d) (bx (c) (k 0) (k (-1))) (bx (c) (k 1) (bx (decide (a < b)) (k (-1)) (bx (decide (a > b)) (k 1) (k 0))))))
def Ko2 (f0 : W23) (ds : W4z) (k : W2v) : W4y :=
  match ds with
  | [.val (.int .i64 a), .val (.int .i64 b)] => f0 a b (fun c => k (.val (.int .i64 c)))
  | _ => none
def Kpq : W23 := Kw5 Kyg
theorem Wcf (f0 : W3s) : Rd (Ko2 (Kw5 f0)) (pevL Tryz.prog (tab [(151, (Ks1 f0))] []) noL [] 64 Tryz.f128 (Kaf Tryz.f128)) := by
  intro ds; unfold Ko2; split
  · exact .inr fun k => by kernel_rfl
  · exact .inl fun _ => rfl
theorem Wcg : Kce Tryz.prog Inv 128 (Ko2 Kpq) :=
  Kam (lv := []) Kbg stab (Kbs stab (Kaa We3 (Kak _ _)) (Kae _ _)) Tryz.func128 (by kernel_rfl) (by kernel_rfl) (Kdc.none _ _ _) (Wcf Kyg)
def Wch (f0 f1 f2 : W23) (f3 : W32) (a b c d : Int) (k : KI) : W4y :=
  f3 a b c d (fun e => bx (!e) (f1 a b (fun f => f1 c d (fun g => f0 f g (fun h => k h)))) (f2 (IntKind.wrap .i64 (a * d)) (IntKind.wrap .i64 (c * b)) (fun i => k i)))
def K0s (f0 : W26) (ds : W4z) (k : W2v) : W4y :=
  match ds with
  | [.val (.agg ⟨[.int .i64 a, .int .i64 b]⟩), .val (.agg ⟨[.int .i64 c, .int .i64 d]⟩)] => f0 a b c d (fun e => k (.val (.int .i64 e)))
  | _ => none
def Kyh : W26 := Wch K3o We1 Kpq Kz2
theorem Wp6 (f0 f1 f2 : W23) (f3 : W32) : Rd (K0s (Wch f0 f1 f2 f3)) (pevL Tryz.prog (tab [(125, (Kyf f3)), (126, (Ks0 f0)), (127, (K2l f1)), (128, (Ko2 f2))] []) noL [] 64 Tryz.f103 (Kaf Tryz.f103)) := by
  intro ds; unfold K0s; split
  · exact .inr fun k => by kernel_rfl
  · exact .inl fun _ => rfl
theorem Wiy : Kce Tryz.prog Inv 103 (K0s Kyh) :=
  Kam (lv := []) Kbg stab (Kbs stab (Kaa Wf0 (Kaa We0 (Kaa Wof (Kaa Wcg (Kak _ _))))) (Kae _ _)) Tryz.func103 (by kernel_rfl) (by kernel_rfl) (Kdc.none _ _ _) (Wp6 K3o We1 Kpq Kz2)
def K0e (f0 : W23) (d : Bool) (c b : Int) (k : KQ) : W4y :=
  bx (b == 0) (k 0 0) (f0 c b (fun a => bx (a == 0) none (bx (a == 0) none (bx (!(decide (IntKind.wrap .u64 (Int.tdiv c a) > 1073741824))) (bx (decide (IntKind.wrap .u64 (Int.tdiv b a) > 1073741824)) (k 0 0) (bx (d) (k (IntKind.wrap .i64 (0 - (IntKind.wrap .i64 (IntKind.wrap .u64 (Int.tdiv c a))))) (IntKind.wrap .i64 (IntKind.wrap .u64 (Int.tdiv b a)))) (k (IntKind.wrap .i64 (IntKind.wrap .u64 (Int.tdiv c a))) (IntKind.wrap .i64 (IntKind.wrap .u64 (Int.tdiv b a)))))) (k 0 0)))))
def Ktx (f0 : W39) (ds : W4z) (k : W2v) : W4y :=
  match ds with
  | [.val (.bool a), .val (.int .u64 b), .val (.int .u64 c)] => f0 a b c (fun d e => k (.val (.agg ⟨[.int .i64 d, .int .i64 e]⟩)))
  | _ => none
def Kn4 : W39 := K0e Kqs
theorem Wjh (f0 : W23) : Rd (Ktx (K0e f0)) (pevL Tryz.prog (tab [(122, (Krg f0))] []) noL [] 64 Tryz.f148 (Kaf Tryz.f148)) := by
  intro ds; unfold Ktx; split
  · exact .inr fun k => by kernel_rfl
  · exact .inl fun _ => rfl
theorem Wbx : Kce Tryz.prog Inv 148 (Ktx Kn4) :=
  Kam (lv := []) Kbg stab (Kbs stab (Kaa Wad (Kak _ _)) (Kae _ _)) Tryz.func148 (by kernel_rfl) (by kernel_rfl) (Kdc.none _ _ _) (Wjh Kqs)
def Wag (f0 : W39) (f1 : W4m) (a b : Int) (k : KQ) : W4y :=
  f1 a (fun c => f1 b (fun d => f0 (!(decide (a < 0) == decide (b < 0))) c d (fun e f => k e f)))
def K2m (f0 : W3t) (ds : W4z) (k : W2v) : W4y :=
  match ds with
  | [.val (.int .i64 a), .val (.int .i64 b)] => f0 a b (fun c d => k (.val (.agg ⟨[.int .i64 c, .int .i64 d]⟩)))
  | _ => none
def K64 : W3t := Wag Kn4 Kzx
theorem Wog (f0 : W39) (f1 : W4m) : Rd (K2m (Wag f0 f1)) (pevL Tryz.prog (tab [(123, (Kya f1)), (148, (Ktx f0))] []) noL [] 64 Tryz.f129 (Kaf Tryz.f129)) := by
  intro ds; unfold K2m; split
  · exact .inr fun k => by kernel_rfl
  · exact .inl fun _ => rfl
theorem Woh : Kce Tryz.prog Inv 129 (K2m K64) :=
  Kam (lv := []) Kbg stab (Kbs stab (Kaa Wfz (Kaa Wbx (Kak _ _))) (Kae _ _)) Tryz.func129 (by kernel_rfl) (by kernel_rfl) (Kdc.none _ _ _) (Wog Kn4 Kzx)
def Wci (f0 : W26) (f1 : W32) (a b c d : Int) (k : KQ) : W4y :=
  f1 a b c d (fun e => bx (!e) (k 0 0) (f0 c d a b (fun f => bx (decide (f > 0)) (k c d) (k a b))))
def K0t (f0 : W33) (ds : W4z) (k : W2v) : W4y :=
  match ds with
  | [.val (.agg ⟨[.int .i64 a, .int .i64 b]⟩), .val (.agg ⟨[.int .i64 c, .int .i64 d]⟩)] => f0 a b c d (fun e f => k (.val (.agg ⟨[.int .i64 e, .int .i64 f]⟩)))
  | _ => none
def K3p : W33 := Wci Kyh Kz2
theorem Wp7 (f0 : W26) (f1 : W32) : Rd (K0t (Wci f0 f1)) (pevL Tryz.prog (tab [(103, (K0s f0)), (125, (Kyf f1))] []) noL [] 64 Tryz.f130 (Kaf Tryz.f130)) := by
  intro ds; unfold K0t; split
  · exact .inr fun k => by kernel_rfl
  · exact .inl fun _ => rfl
theorem Wiz : Kce Tryz.prog Inv 130 (K0t K3p) :=
  Kam (lv := []) Kbg stab (Kbs stab (Kaa Wiy (Kaa Wf0 (Kak _ _))) (Kae _ _)) Tryz.func130 (by kernel_rfl) (by kernel_rfl) (Kdc.none _ _ _) (Wp7 Kyh Kz2)
def Wcj (f0 : W2q) (a b : Int) (k : KQ) : W4y :=
  f0 a b (fun c => bx (!c) (k 0 0) (k (IntKind.wrap .i64 (0 - a)) b))
def K43 (f0 : W3t) (ds : W4z) (k : W2v) : W4y :=
  match ds with
  | [.val (.agg ⟨[.int .i64 a, .int .i64 b]⟩)] => f0 a b (fun c d => k (.val (.agg ⟨[.int .i64 c, .int .i64 d]⟩)))
  | _ => none
def Wd2 : W3t := Wcj Knj
theorem Wp8 (f0 : W2q) : Rd (K43 (Wcj f0)) (pevL Tryz.prog (tab [(95, (Kos f0))] []) noL [] 64 Tryz.f152 (Kaf Tryz.f152)) := by
  intro ds; unfold K43; split
  · exact .inr fun k => by kernel_rfl
  · exact .inl fun _ => rfl
theorem Wp9 : Kce Tryz.prog Inv 152 (K43 Wd2) :=
  Kam (lv := []) Kbg stab (Kbs stab (Kaa Kzy (Kak _ _)) (Kae _ _)) Tryz.func152 (by kernel_rfl) (by kernel_rfl) (Kdc.none _ _ _) (Wp8 Knj)
def Wck (f0 : W33) (f1 : W3t) (a b : Int) (k : KQ) : W4y :=
  f1 a b (fun c d => f0 a b c d (fun e f => k e f))
def K44 (f0 : W3t) (ds : W4z) (k : W2v) : W4y :=
  match ds with
  | [.val (.agg ⟨[.int .i64 a, .int .i64 b]⟩)] => f0 a b (fun c d => k (.val (.agg ⟨[.int .i64 c, .int .i64 d]⟩)))
  | _ => none
def Wah : W3t := Wck K3p Wd2
theorem Wqa (f0 : W33) (f1 : W3t) : Rd (K44 (Wck f0 f1)) (pevL Tryz.prog (tab [(130, (K0t f0)), (152, (K43 f1))] []) noL [] 64 Tryz.f131 (Kaf Tryz.f131)) := by
  intro ds; unfold K44; split
  · exact .inr fun k => by kernel_rfl
  · exact .inl fun _ => rfl
theorem Wqb : Kce Tryz.prog Inv 131 (K44 Wah) :=
  Kam (lv := []) Kbg stab (Kbs stab (Kaa Wiz (Kaa Wp9 (Kak _ _))) (Kae _ _)) Tryz.func131 (by kernel_rfl) (by kernel_rfl) (Kdc.none _ _ _) (Wqa K3p Wd2)
def Kqv (f0 : W33) (f1 f2 : W3t) (c a d e n f : Int) (k : KB) : W4y :=
  f2 a f (fun o b => f1 c a (fun g h => f1 d e (fun i j => f0 g h i j (fun l m => bx (decide (IntKind.wrap .i64 (a * b) ≤ 1073741824)) (k (decide (IntKind.wrap .i64 ((IntKind.wrap .i64 (a * b)) * l) ≤ IntKind.wrap .i64 (1073741824 * m)))) (k false)))))
def Klk (f0 : W35) (ds : W4z) (k : W2v) : W4y :=
  match ds with
  | [.val (.agg ⟨[.int .i64 a, .int .i64 b]⟩), .val (.agg ⟨[.int .i64 c, .int .i64 d]⟩), .val (.agg ⟨[.int .i64 e, .int .i64 f]⟩)] => f0 a b c d e f (fun g => k (.val (.bool g)))
  | _ => none
def Kk3 : W35 := Kqv K3p Wah K64
theorem K8h (f0 : W33) (f1 f2 : W3t) : Rd (Klk (Kqv f0 f1 f2)) (pevL Tryz.prog (tab [(129, (K2m f2)), (130, (K0t f0)), (131, (K44 f1))] []) noL [] 64 Tryz.f104 (Kaf Tryz.f104)) := by
  intro ds; unfold Klk; split
  · exact .inr fun k => by kernel_rfl
  · exact .inl fun _ => rfl
theorem K8i : Kce Tryz.prog Inv 104 (Klk Kk3) :=
  Kam (lv := []) Kbg stab (Kbs stab (Kaa Woh (Kaa Wiz (Kaa Wqb (Kak _ _)))) (Kae _ _)) Tryz.func104 (by kernel_rfl) (by kernel_rfl) (Kdc.none _ _ _) (K8h K3p Wah K64)
def Kz4 (f0 : W35) (f1 : W26) (f2 : W22) (a : W4x) (k : KB) : W4y :=
  bx (!((a.length : Int) != 4)) (f2 a (fun b => bx (b) (k false) (optE (a[Int.toNat 0]?) (fun c => Ki3 c 0 (fun v3 v4 => optE (a[Int.toNat 1]?) (fun d => Ki3 d 0 (fun v6 v7 => optE (a[Int.toNat 2]?) (fun e => Ki3 e 0 (fun v9 v10 => optE (a[Int.toNat 3]?) (fun f => Ki3 f 0 (fun v12 v13 => f1 v6 v7 v3 v4 (fun g => bx (!(decide (g > 0))) (f1 v3 v4 v9 v10 (fun h => bx (!(decide (h > 0))) (bx (decide (v12 < 0)) (k false) (bx (!(v12 == 0)) (f0 v6 v7 v9 v10 v12 v13 (fun i => k i)) (k true))) (k false))) (k false))))))))))))) (k false)
def Ks2 (f0 : W22) (ds : W4z) (k : W2v) : W4y :=
  match ds with
  | [.lst 2 a] => f0 a (fun b => k (.val (.bool b)))
  | _ => none
def Kty : W22 := Kz4 Kk3 Kyh Kbn
theorem We4 (f0 : W35) (f1 : W26) (f2 : W22) : Rd (Ks2 (Kz4 f0 f1 f2)) (pevL Tryz.prog (tab [(99, (Ke9 Kbr f2)), (103, (K0s f1)), (104, (Klk f0))] []) noL [] 64 Tryz.f68 (Kaf Tryz.f68)) := by
  intro ds; unfold Ks2; split
  · exact .inr fun k => by kernel_rfl
  · exact .inl fun _ => rfl
theorem We5 : Kce Tryz.prog Inv 68 (Ks2 Kty) :=
  Kam (lv := []) Kbg stab (Kbs stab (Kaa Kl3 (Kaa Wiy (Kaa K8i (Kak _ _)))) (Kae _ _)) Tryz.func68 (by kernel_rfl) (by kernel_rfl) (Kdc.none _ _ _) (We4 Kk3 Kyh Kbn)
def Kz5 (f0 : W2q) (f1 : W2n) (f2 f3 : W22) (f4 : W3h) (a d : W4w) (b e : Int) (c : W4x) (f : W4w) (g h : Int) (i j : W4w) (u : W4x) (k : KB) : W4y :=
  bx ((a.toList == ByteArray.toList (⟨#[110, 117, 109]⟩))) (bx ((c.length : Int) == 1) (optE (c[Int.toNat 0]?) (fun l => Ki3 l 0 (fun v2 v3 => f0 v2 v3 (fun m => k m)))) (k false)) (bx ((a.toList == ByteArray.toList (⟨#[102, 105, 116]⟩))) (f1 f g h i j (fun n => k n)) (bx ((a.toList == ByteArray.toList (⟨#[100, 101, 108, 97, 121]⟩))) (bx (decide (0 ≤ b)) (k (decide (b ≤ 4096))) (k false)) (bx ((a.toList == ByteArray.toList (⟨#[118, 97, 114, 121]⟩))) (bx (decide (0 ≤ b)) (bx (decide (b ≤ e)) (k (decide (e ≤ 4096))) (k false)) (k false)) (bx ((a.toList == ByteArray.toList (⟨#[116, 97, 98, 108, 101]⟩))) (f2 c (fun o => k o)) (bx ((a.toList == ByteArray.toList (⟨#[115, 116, 111, 114, 101]⟩))) (f2 c (fun p => k p)) (bx ((a.toList == ByteArray.toList (⟨#[119, 97, 118, 101]⟩))) (f2 c (fun q => k q)) (bx ((a.toList == ByteArray.toList (⟨#[107, 110, 111, 98]⟩))) (f4 d (fun r => bx (r) (f3 c (fun s => k s)) (k false))) (bx ((a.toList == ByteArray.toList (⟨#[115, 104, 111, 119]⟩))) (f4 d (fun t => k t)) (bx ((a.toList == ByteArray.toList (⟨#[117, 112]⟩))) (bx (decide (1 ≤ b)) (k (decide (b ≤ 8))) (k false)) (bx ((a.toList == ByteArray.toList (⟨#[100, 111, 119, 110]⟩))) (bx (decide (1 ≤ b)) (k (decide (b ≤ 8))) (k false)) (k true)))))))))))
def Ks3 (f0 : W19) (ds : W4z) (k : W2v) : W4y :=
  match ds with
  | [.agg [.val (.string a), .val (.string b), .val (.int .i64 c), .val (.int .i64 d), .lst 2 e, .val (.string f), .val (.int .i64 g), .val (.int .i64 h), .val (.string i), .val (.string j), .lst 11 l]] => f0 a b c d e f g h i j l (fun m => k (.val (.bool m)))
  | _ => none
def Kpr : W19 := Kz5 Kqt Kqu Kyc Kty K0r
theorem We6 (f0 : W2q) (f1 : W2n) (f2 f3 : W22) (f4 : W3h) : Rd (Ks3 (Kz5 f0 f1 f2 f3 f4)) (pevL Tryz.prog (tab [(64, (Kv9 f0)), (65, (Krv f1)), (66, (Kwu f2)), (67, (Kye f4)), (68, (Ks2 f3))] []) noL [] 64 Tryz.f43 (Kaf Tryz.f43)) := by
  intro ds; unfold Ks3; split
  · exact .inr fun k => by kernel_rfl
  · exact .inl fun _ => rfl
theorem We7 : Kce Tryz.prog Inv 43 (Ks3 Kpr) :=
  Kam (lv := []) Kbg stab (Kbs stab (Kaa Wd0 (Kaa K8f (Kaa Wiv (Kaa Wjg (Kaa We5 (Kak _ _)))))) (Kae _ _)) Tryz.func43 (by kernel_rfl) (by kernel_rfl) (Kdc.none _ _ _) (We6 Kqt Kqu Kyc Kty K0r)
def Kyi (f0 : W22) (f1 f2 : W19) (b c : W4w) (d e : Int) (f : W4x) (g : W4w) (h i : Int) (j l : W4w) (a : W4x) (k : KB) : W4y :=
  f2 b c d e f g h i j l a (fun m => bx (m) (f1 b c d e f g h i j l a (fun n => bx (n) (f0 a (fun o => k (!o))) (k false))) (k false))
def Kf9 (f0 : W3m) (a : W4x) (k : KB) : W4y :=
  f0 a (fun b => k (decide (b ≥ 0)))
def K65 (f0 : W19) (a b : W4w) (c d : Int) (e : W4x) (f : W4w) (g h : Int) (i j : W4w) (l : W4x) (k : KB) : W4y :=
  f0 a b c d e f g h i j l (fun m => k (!m))
inductive Kan where
  | h0 (a : W4x) (b c : Int)
def Kcf : Kan → Nat
  | .h0 c a b => Int.toNat (a - b) + 1
def Kfd : SP := ⟨[(0, .d (.l 11)), (1, .d (.f 45)), (7, .d (.i .i64)), (8, .d (.i .i64))], 19, []⟩
def Kfe : Args → Option Kan
  | [.l a, .i b, .i c] => some (.h0 a b c)
  | _ => none
def Kck : Kan → St
  | .h0 a b c => fS Kfd [.l a, .i b, .i c]
def Kf0 (k : KC) : KI × (Option DV) := (fun a => k .ret (fS ⟨[(4, .d (.i .i64))], 19, []⟩ [.i a]), k (.exit 0) (fS ⟨[(4, .dead)], 19, []⟩ []))
def Ka6 (f0 : W19) : Kan → (Kan → Option DV) → (KI × (Option DV)) → Option DV
  | .h0 b c a, κn, κ => bx (decide (a < c)) (bx (decide (0 ≤ a)) (optE (b[a.toNat]?) (fun d => Kal d 0 (fun v2 v3 v4 v5 v6 v7 v8 v9 v10 v11 v12 => f0 v2 v3 v4 v5 v6 v7 v8 v9 v10 v11 v12 (fun e => bx (e) (κ.1 a) (κn (Kan.h0 b c (IntKind.wrap .i64 (a + 1)))))))) none) κ.2
def Kfr (s : St) : Option Kan := hdO Kfd Kfe s
def Kd1 (f0 : W19) : St → KC → Option DV := decR Kfr (Ka6 f0) Kcf Kf0
theorem Kk4 : ∀ s x, Kfr s = some x → SLe s (Kck x) := fun _ _ => (Kec (S := Kck) fun a x h => by unfold Kfe at h; split at h <;> cases h; rfl)
def Kgz (f0 : W19) (a : W4x) (k : KI) : W4y :=
  LF (Ka6 f0) (Kcf (Kan.h0 a (a.length : Int) 0)) (Kan.h0 a (a.length : Int) 0) ((fun b => k b), (k (-1)))
def Kiv (f0 : W19) (ds : W4z) (k : W2v) : W4y :=
  match ds with
  | [.agg [.val (.string a), .val (.string b), .val (.int .i64 c), .val (.int .i64 d), .lst 2 e, .val (.string f), .val (.int .i64 g), .val (.int .i64 h), .val (.string i), .val (.string j), .lst 11 l]] => f0 a b c d e f g h i j l (fun m => k (.val (.bool m)))
  | _ => none
def Kdl (f0 : W22) (ds : W4z) (k : W2v) : W4y :=
  match ds with
  | [.lst 11 a, .val (.func (.func 45) ⟨[]⟩ ⟨[]⟩)] => f0 a (fun b => k (.val (.bool b)))
  | _ => none
def Kjo (f0 : W19) (ds : W4z) (k : W2v) : W4y :=
  match ds with
  | [.agg [.val (.string a), .val (.string b), .val (.int .i64 c), .val (.int .i64 d), .lst 2 e, .val (.string f), .val (.int .i64 g), .val (.int .i64 h), .val (.string i), .val (.string j), .lst 11 l]] => f0 a b c d e f g h i j l (fun m => k (.val (.bool m)))
  | _ => none
def Kd2 (f0 : W3m) (ds : W4z) (k : W2v) : W4y :=
  match ds with
  | [.lst 11 a, .val (.func (.func 45) ⟨[]⟩ ⟨[]⟩)] => f0 a (fun b => k (.val (.int .i64 b)))
  | _ => none
def Kk5 (N : Nat) : Nat → (ByteArray → ByteArray → Int → Int → List (List DV) → ByteArray → Int → Int → ByteArray → ByteArray → List (List DV) → KB → Option DV) × (List (List DV) → KB → Option DV) × (ByteArray → ByteArray → Int → Int → List (List DV) → ByteArray → Int → Int → ByteArray → ByteArray → List (List DV) → KB → Option DV) × (List (List DV) → KI → Option DV)
  | 0 => (fun _ _ _ _ _ _ _ _ _ _ _ _ => none, fun _ _ => none, fun _ _ _ _ _ _ _ _ _ _ _ _ => none, fun _ _ => none)
  | n + 1 => (Kyi (Kk5 N n).2.1 Kpr Klj, Kf9 (Kk5 N n).2.2.2, K65 (Kk5 N n).1, Kgz (Kk5 N n).2.2.1)
def Kps (N n : Nat) : W19 := (Kk5 N n).1
def Kjp (N : Nat) : W19 := Kps N N
def Kcl (N n : Nat) : W22 := (Kk5 N n).2.1
def Kus (N n : Nat) : W19 := (Kk5 N n).2.2.1
def Kg0 (N n : Nat) : W3m := (Kk5 N n).2.2.2
theorem Wi0 (f0 : W22) (f1 f2 : W19) : Rd (Kiv (Kyi f0 f1 f2)) (pevL Tryz.prog (tab [(42, (Kn3 f2)), (43, (Ks3 f1)), (44, (Kdl f0))] []) noL [] 64 Tryz.f26 (Kaf Tryz.f26)) := by
  intro ds; unfold Kiv; split
  · exact .inr fun k => by kernel_rfl
  · exact .inl fun _ => rfl
theorem Kk6 (f0 : W3m) : Rd (Kdl (Kf9 f0)) (pevL Tryz.prog (tab [(69, (Kd2 f0))] []) noL [] 64 Tryz.f44 (Kaf Tryz.f44)) := by
  intro ds; unfold Kdl; split
  · exact .inr fun k => by kernel_rfl
  · exact .inl fun _ => rfl
theorem We8 (f0 : W19) : Rd (Kjo (K65 f0)) (pevL Tryz.prog (tab [(26, (Kiv f0))] []) noL [] 64 Tryz.f45 (Kaf Tryz.f45)) := by
  intro ds; unfold Kjo; split
  · exact .inr fun k => by kernel_rfl
  · exact .inl fun _ => rfl
theorem Kk7 (f0 : W19) (x : Kan) (κn : St → Option DV) (κ : KC) : pev Tryz.prog (tab [(45, (Kjo f0))] []) (ltab [(2, Kd1 f0)]) [(0, [0]), (0, []), (2, [0, 1, 7, 8]), (100002, [4])] 64 (Kb9 (Kaf Tryz.f69) 0) (Kck x) (Ki2 0 [0, 1, 7, 8] [4] κn κ) = Ka6 f0 x (fun x => κn (Kck x)) (Kf0 κ) := by cases x <;> kernel_rfl
theorem Kk8 (f0 : W19) (HK : Kfv Tryz.prog Inv (tab [(45, (Kjo f0))] [])) : Kjx 0 Tryz.prog Inv (Kb9 (Kaf Tryz.f69) 0) (Kd1 f0) :=
  Kca (lv := [(0, [0]), (0, []), (2, [0, 1, 7, 8]), (100002, [4])]) Kbg HK (Ka5 (bs := []) (by kernel_rfl) Kat) (Kk7 f0) Kk4 Kcf
theorem Kl4 (f0 : W19) : Rd (Kd2 (Kgz f0)) (pevL Tryz.prog (tab [(45, (Kjo f0))] []) (ltab [(2, Kd1 f0)]) [(0, [0]), (0, []), (2, [0, 1, 7, 8]), (100002, [4])] 64 Tryz.f69 (Kaf Tryz.f69)) := by
  intro ds; unfold Kd2; split
  · exact .inr fun k => by kernel_rfl
  · exact .inl fun _ => rfl
theorem K66 (N : Nat) : ∀ n, Kce Tryz.prog Inv 26 (Kiv (Kps N n)) ∧ Kce Tryz.prog Inv 44 (Kdl (Kcl N n)) ∧ Kce Tryz.prog Inv 45 (Kjo (Kus N n)) ∧ Kce Tryz.prog Inv 69 (Kd2 (Kg0 N n))
  | 0 => ⟨Khc (by intro ds k; unfold Kiv; split <;> rfl), Khc (by intro ds k; unfold Kdl; split <;> rfl), Khc (by intro ds k; unfold Kjo; split <;> rfl), Khc (by intro ds k; unfold Kd2; split <;> rfl)⟩
  | n + 1 => by
    have ih := K66 N n
    exact ⟨Kam (lv := []) Kbg stab (Kbs stab (Kaa Wbi (Kaa We7 (Kaa (ih.2.1) (Kak _ _)))) (Kae _ _)) Tryz.func26 (by kernel_rfl) (by kernel_rfl) (Kdc.none _ _ _) (Wi0 (Kcl N n) Kpr Klj),
    Kam (lv := []) Kbg stab (Kbs stab (Kaa (ih.2.2.2) (Kak _ _)) (Kae _ _)) Tryz.func44 (by kernel_rfl) (by kernel_rfl) (Kdc.none _ _ _) (Kk6 (Kg0 N n)),
    Kam (lv := []) Kbg stab (Kbs stab (Kaa (ih.1) (Kak _ _)) (Kae _ _)) Tryz.func45 (by kernel_rfl) (by kernel_rfl) (Kdc.none _ _ _) (We8 (Kps N n)),
    Kam (lv := [(0, [0]), (0, []), (2, [0, 1, 7, 8]), (100002, [4])]) Kbg stab (Kbs stab (Kaa (ih.2.2.1) (Kak _ _)) (Kae _ _)) Tryz.func69 (by kernel_rfl) (by kernel_rfl) (Ka5 (bs := [Kb9 (Kaf Tryz.f69) 0]) (by kernel_rfl) (Kbk (by kernel_rfl) (Kk8 (Kus N n) (Kbs stab (Kaa (ih.2.2.1) (Kak _ _)) (Kae _ _))) Kat)) (Kl4 (Kus N n))⟩
theorem K3q (N : Nat) : Kce Tryz.prog Inv 26 (Kiv (Kjp N)) := (K66 N N).1
def Kyj  (b a : Int) (k : KB) : W4y :=
  bx (decide (a > 0)) (bx (decide (b > 0)) (bx (a == 0) none (k ((Int.tmod b a) == 0))) (k false)) (k false)
def Kqw (f0 : W2q) (ds : W4z) (k : W2v) : W4y :=
  match ds with
  | [.val (.int .i64 a), .val (.int .i64 b)] => f0 a b (fun c => k (.val (.bool c)))
  | _ => none
def Krh : W2q := Kyj
theorem Wd3  : Rd (Kqw (Kyj )) (pevL Tryz.prog (tab [] []) noL [] 64 Tryz.f105 (Kaf Tryz.f105)) := by
  intro ds; unfold Kqw; split
  · exact .inr fun k => by kernel_rfl
  · exact .inl fun _ => rfl
theorem Wd4 : Kce Tryz.prog Inv 105 (Kqw Krh) :=
  Kam (lv := []) Kbg stab (Kbs stab (Kak _ _) (Kae _ _)) Tryz.func105 (by kernel_rfl) (by kernel_rfl) (Kdc.none _ _ _) (Wd3 )
def Kyk (f0 : W2q) (e : W4w) (a b d c : Int) (k : W3w) : W4y :=
  bx ((e.toList == ByteArray.toList (⟨#[112, 97, 114]⟩))) (k (IntKind.wrap .i64 (a + d)) (IntKind.wrap .i64 (b + c)) true) (bx ((e.toList == ByteArray.toList (⟨#[115, 101, 113]⟩))) (k a c (b == d)) (bx ((e.toList == ByteArray.toList (⟨#[115, 112, 108, 105, 116]⟩))) (f0 d b (fun f => k a c f)) (bx ((e.toList == ByteArray.toList (⟨#[109, 101, 114, 103, 101]⟩))) (f0 b d (fun g => k a c g)) (bx (decide (d ≤ b)) (k (IntKind.wrap .i64 (a - c)) b (decide (c ≤ a))) (k (IntKind.wrap .i64 (a - c)) b false)))))
def Kqx (f0 : W3u) (ds : W4z) (k : W2v) : W4y :=
  match ds with
  | [.val (.string a), .val (.agg ⟨[.int .i64 b, .int .i64 c]⟩), .val (.agg ⟨[.int .i64 d, .int .i64 e]⟩)] => f0 a b c d e (fun f g h => k (.val (.tuple ⟨[.agg ⟨[.int .i64 f, .int .i64 g]⟩, .bool h]⟩)))
  | _ => none
def Kri : W3u := Kyk Krh
theorem Wd5 (f0 : W2q) : Rd (Kqx (Kyk f0)) (pevL Tryz.prog (tab [(105, (Kqw f0))] []) noL [] 64 Tryz.f70 (Kaf Tryz.f70)) := by
  intro ds; unfold Kqx; split
  · exact .inr fun k => by kernel_rfl
  · exact .inl fun _ => rfl
theorem Wd6 : Kce Tryz.prog Inv 70 (Kqx Kri) :=
  Kam (lv := []) Kbg stab (Kbs stab (Kaa Wd4 (Kak _ _)) (Kae _ _)) Tryz.func70 (by kernel_rfl) (by kernel_rfl) (Kdc.none _ _ _) (Wd5 Krh)
def Kyl  (c : W4w) (a b : Int) (k : KQ) : W4y :=
  bx (!(c.toList == ByteArray.toList (⟨#[103, 97, 116, 101]⟩))) (bx ((c.toList == ByteArray.toList (⟨#[114, 101, 115, 101, 116]⟩))) (k (IntKind.wrap .i64 (a + 1)) b) (k a b)) (k (IntKind.wrap .i64 (a + 1)) b)
def Kqy (f0 : W4f) (ds : W4z) (k : W2v) : W4y :=
  match ds with
  | [.val (.string a), .val (.agg ⟨[.int .i64 b, .int .i64 c]⟩)] => f0 a b c (fun d e => k (.val (.agg ⟨[.int .i64 d, .int .i64 e]⟩)))
  | _ => none
def Krj : W4f := Kyl
theorem Wd7  : Rd (Kqy (Kyl )) (pevL Tryz.prog (tab [] []) noL [] 64 Tryz.f71 (Kaf Tryz.f71)) := by
  intro ds; unfold Kqy; split
  · exact .inr fun k => by kernel_rfl
  · exact .inl fun _ => rfl
theorem Wd8 : Kce Tryz.prog Inv 71 (Kqy Krj) :=
  Kam (lv := []) Kbg stab (Kbs stab (Kak _ _) (Kae _ _)) Tryz.func71 (by kernel_rfl) (by kernel_rfl) (Kdc.none _ _ _) (Wd7 )
def Kz6 (f0 : W3u) (f1 : W4f) (f2 : W2h) (b : W4w) (a : W4x) (k : W3w) : W4y :=
  bx ((a.length : Int) == 2) (optE (a[Int.toNat 0]?) (fun c => Ki3 c 0 (fun v2 v3 => optE (a[Int.toNat 1]?) (fun d => Ki3 d 0 (fun v5 v6 => f0 b v2 v3 v5 v6 (fun e f g => k e f g)))))) (bx ((a.length : Int) == 1) (optE (a[Int.toNat 0]?) (fun h => Ki3 h 0 (fun v11 v12 => f1 b v11 v12 (fun i j => k i j true)))) (f2 b (fun l m o p q r s n => k l m n)))
def Kll (f0 : W3d) (ds : W4z) (k : W2v) : W4y :=
  match ds with
  | [.val (.string a), .lst 2 b] => f0 a b (fun c d e => k (.val (.tuple ⟨[.agg ⟨[.int .i64 c, .int .i64 d]⟩, .bool e]⟩)))
  | _ => none
def Khp : W3d := Kz6 Kri Krj Kbh
theorem We9 (f0 : W3u) (f1 : W4f) (f2 : W2h) : Rd (Kll (Kz6 f0 f1 f2)) (pevL Tryz.prog (tab [(49, (Kbx f2)), (70, (Kqx f0)), (71, (Kqy f1))] []) noL [] 64 Tryz.f46 (Kaf Tryz.f46)) := by
  intro ds; unfold Kll; split
  · exact .inr fun k => by kernel_rfl
  · exact .inl fun _ => rfl
theorem K67 : Kce Tryz.prog Inv 46 (Kll Khp) :=
  Kam (lv := []) Kbg stab (Kbs stab (Kaa Kho (Kaa Wd6 (Kaa Wd8 (Kak _ _)))) (Kae _ _)) Tryz.func46 (by kernel_rfl) (by kernel_rfl) (Kdc.none _ _ _) (We9 Kri Krj Kbh)
end Go.Proofs.YtgohccjmphapfaaGreatDoor
end
