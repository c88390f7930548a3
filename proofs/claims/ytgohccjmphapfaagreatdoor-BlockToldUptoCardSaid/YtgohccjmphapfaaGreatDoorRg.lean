import Derived.Test.YtgohccjmphapfaaGreatDoorRf
set_option linter.all false
noncomputable section
namespace Go.Proofs.YtgohccjmphapfaaGreatDoor
open Go.Pv Go.RowKit
set_option maxRecDepth 100000
inductive Ka4 where
  | h0 (a : Bool) (b : Int) (c : W4x) (d e : Int) (f g : W4w) (h i : Int) (j : W4x) (l : W4w) (m n : Int) (o p : W4w) (q : W4x)
  | h1 (a : Nat) (b : Bool) (c : Int) (d : W4x) (e f : Int) (g : W4z) (h i : W4w) (j l : Int) (m : W4x) (n : W4w) (o p : Int) (q r : W4w) (s : W4x)
def Kd9 : Ka4 → Nat
  | .h0 a b c d e f g h i j l m n o p q => Int.toNat (0 - b) + 1
  | .h1 a b c d e f g h i j l m n o p q r s => Int.toNat (((a : Nat) : Int) - c) + 1
inductive Kar where
  | h0 (a : W4x) (b c : Int)
  | h1 (a : Nat) (b : W4x) (c d : Int) (e : W4z)
def Kgl : Kar → Nat
  | .h0 c b a => Int.toNat (b - a) + 1
  | .h1 c b a d e => Int.toNat (a - d) + 1
def Kpu : SP := ⟨[(3, .d .z), (5, .ptr 0 0), (6, .d .b), (7, .d (.i .i64)), (9, .d (.l 11)), (10, .d (.i .i64)), (11, .d (.i .i64))], 61, [BP0]⟩
def Kpv : Args → Option Ka4
  | [.b a, .i c, .l d, .i e, .i f, .s g, .s h, .i j, .i m, .l n, .s o, .i p, .i q, .s r, .s t, .l u] => some (.h0 a c d e f g h j m n o p q r t u)
  | _ => none
def Kpw : SP := ⟨[(3, .osl 40 10 0 0), (5, .ptr 1 0), (6, .d .b), (7, .d (.i .i64)), (9, .d (.l 11)), (10, .d (.i .i64)), (11, .d (.i .i64))], 61, [.raw, BP0]⟩
def Kpx : Args → Option Ka4
  | [.n a, .b d, .i e, .l f, .i g, .i h, .c j, .s m, .s o, .i p, .i q, .l r, .s t, .i u, .i v, .s w, .s x, .l y] => some (.h1 a d e f g h j m o p q r t u v w x y)
  | _ => none
def Kg8 : Ka4 → St
  | .h0 a d e f g h j m o p q r t u v w => fS Kpu [.b a, .i d, .l e, .i f, .i g, .s h, .s j, .i m, .i o, .l p, .s q, .i r, .i t, .s u, .s v, .l w]
  | .h1 a d e f g h j m o p q r t u v w x y => fS Kpw [.n a, .b d, .i e, .l f, .i g, .i h, .c j, .s m, .s o, .i p, .i q, .l r, .s t, .i u, .i v, .s w, .s x, .l y]
def Krk (k : KC) : (Bool → List (List DV) → Int → Int → ByteArray → ByteArray → Int → Int → List (List DV) → ByteArray → Int → Int → ByteArray → ByteArray → List (List DV) → Option DV) × (Nat → Bool → List (List DV) → Int → Int → List DV → ByteArray → ByteArray → Int → Int → List (List DV) → ByteArray → Int → Int → ByteArray → ByteArray → List (List DV) → Option DV) := (fun a e f g h j m o p q r t u v w => k (.exit 2) (fS ⟨[(3, .d .z), (5, .ptr 0 0), (6, .d .b), (9, .d (.l 11)), (10, .d (.i .i64)), (11, .d (.i .i64))], 61, [BP0]⟩ [.b a, .l e, .i f, .i g, .s h, .s j, .i m, .i o, .l p, .s q, .i r, .i t, .s u, .s v, .l w]), fun a e f g h j m o p q r t u v w x y => k (.exit 2) (fS ⟨[(3, .osl 40 10 0 0), (5, .ptr 1 0), (6, .d .b), (9, .d (.l 11)), (10, .d (.i .i64)), (11, .d (.i .i64))], 61, [.raw, BP0]⟩ [.n a, .b e, .l f, .i g, .i h, .c j, .s m, .s o, .i p, .i q, .l r, .s t, .i u, .i v, .s w, .s x, .l y]))
def Kc6 (f0 : W2d) : Ka4 → (Ka4 → Option DV) → ((Bool → List (List DV) → Int → Int → ByteArray → ByteArray → Int → Int → List (List DV) → ByteArray → Int → Int → ByteArray → ByteArray → List (List DV) → Option DV) × (Nat → Bool → List (List DV) → Int → Int → List DV → ByteArray → ByteArray → Int → Int → List (List DV) → ByteArray → Int → Int → ByteArray → ByteArray → List (List DV) → Option DV)) → Option DV
  | .h0 b q a e f g c h d i j l m n o p, κn, κ => bx (decide (q < 0)) (bx (!b) none (κn (Ka4.h0 true (IntKind.wrap .i64 (q + 1)) a e f g c h d i j l m n o p))) (κ.1 b a e f g c h d i j l m n o p)
  | .h1 b q a e f g c h d i j l m n o p r s, κn, κ => bx (decide (a < ((b : Nat) : Int))) (bx (!q) (bx ((decide (0 ≤ a) && decide (a < ((b : Nat) : Int)))) (ld_s c (0 + a.toNat * 10 + 0) (fun v14 => κn (Ka4.h1 b (v14.toList == d.toList) (IntKind.wrap .i64 (a + 1)) e f g c h d i j l m n o p r s))) none) (κn (Ka4.h1 b true (IntKind.wrap .i64 (a + 1)) e f g c h d i j l m n o p r s))) (κ.2 b q e f g c h d i j l m n o p r s)
def Kqi (s : St) : Option Ka4 := orO (hdO Kpu Kpv s) (hdO Kpw Kpx s)
def Kje (f0 : W2d) : St → KC → Option DV := decR Kqi (Kc6 f0) Kd9 Krk
theorem K2o : ∀ s x, Kqi s = some x → SLe s (Kg8 x) := fun _ _ => (Kx6 (Kec (S := Kg8) fun a x h => by unfold Kpv at h; split at h <;> cases h; rfl) (Kec (S := Kg8) fun a x h => by unfold Kpx at h; split at h <;> cases h; rfl))
def Kpy : SP := ⟨[(3, .d .z), (9, .d (.l 11)), (10, .d (.i .i64)), (11, .d (.i .i64))], 61, []⟩
def Kpz : Args → Option Kar
  | [.l a, .i b, .i c] => some (.h0 a b c)
  | _ => none
def Kp0 : SP := ⟨[(3, .osl 40 10 0 0), (9, .d (.l 11)), (10, .d (.i .i64)), (11, .d (.i .i64))], 61, [.raw]⟩
def Kp1 : Args → Option Kar
  | [.n a, .l b, .i d, .i e, .c f] => some (.h1 a b d e f)
  | _ => none
def Kg9 : Kar → St
  | .h0 a b d => fS Kpy [.l a, .i b, .i d]
  | .h1 a b d e f => fS Kp0 [.n a, .l b, .i d, .i e, .c f]
def Krl (k : KC) : (Option DV) × (Nat → List DV → Option DV) := (k (.exit 0) (fS ⟨[(3, .d .z)], 61, []⟩ []), fun a b => k (.exit 0) (fS ⟨[(3, .osl 40 10 0 0)], 61, [.raw]⟩ [.n a, .c b]))
def Kc7 (f0 : W2d) : Kar → (Kar → Option DV) → ((Option DV) × (Nat → List DV → Option DV)) → Option DV
  | .h0 b c a, κn, κ => bx (decide (a < c)) (bx (decide (0 ≤ a)) (optE (b[a.toNat]?) (fun aa => Kal aa 0 (fun v3 v4 v5 v6 v7 v8 v9 v10 v11 v12 v13 => bx (!(v3.toList == ByteArray.toList (⟨#[107, 110, 111, 98]⟩))) (κn (Kar.h0 b c (IntKind.wrap .i64 (a + 1)))) (LF (Kc6 f0) (Kd9 (Ka4.h0 false 0 b c a v3 v4 v5 v6 v7 v8 v9 v10 v11 v12 v13)) (Ka4.h0 false 0 b c a v3 v4 v5 v6 v7 v8 v9 v10 v11 v12 v13) ((fun ab o p q bd ac be bf g bg bh bi bj bl bm => bx (!ab) (optE (g[Int.toNat 0]?) (fun ad => Ki3 ad 0 (fun v17 v18 => optE (g[Int.toNat 1]?) (fun ae => Ki3 ae 0 (fun v20 v21 => optE (g[Int.toNat 2]?) (fun af => Ki3 af 0 (fun v23 v24 => optE (g[Int.toNat 3]?) (fun ag => Ki3 ag 0 (fun v26 v27 => κn (Kar.h1 1 o p (IntKind.wrap .i64 (q + 1)) ([.val (.string ac), .val (.int .i64 v17), .val (.int .i64 v18), .val (.int .i64 v20), .val (.int .i64 v21), .val (.int .i64 v23), .val (.int .i64 v24), .val (.int .i64 v26), .val (.int .i64 v27), .val (.bool false)]))))))))))) (κn (Kar.h0 o p (IntKind.wrap .i64 (q + 1))))), (fun d ah r s t m bn ai bo bp h bq br bs bt bu bv => bx (!ah) (optE (h[Int.toNat 0]?) (fun aj => Ki3 aj 0 (fun v30 v31 => optE (h[Int.toNat 1]?) (fun al => Ki3 al 0 (fun v33 v34 => optE (h[Int.toNat 2]?) (fun am => Ki3 am 0 (fun v36 v37 => optE (h[Int.toNat 3]?) (fun an => Ki3 an 0 (fun v39 v40 => bx ((true && true && Nat.ble (d * 10) (m.length) && Nat.ble (d + 1) maxLen && Nat.ble ((d + 1) * 88) 140737488355328)) (κn (Kar.h1 (d + 1) r s (IntKind.wrap .i64 (t + 1)) (List.take (d * 10) m ++ [.val (.string ai), .val (.int .i64 v30), .val (.int .i64 v31), .val (.int .i64 v33), .val (.int .i64 v34), .val (.int .i64 v36), .val (.int .i64 v37), .val (.int .i64 v39), .val (.int .i64 v40), .val (.bool false)]))) none))))))))) (κn (Kar.h1 d r s (IntKind.wrap .i64 (t + 1)) m)))))))) none) κ.1
  | .h1 b c a e i, κn, κ => bx (decide (e < a)) (bx (decide (0 ≤ e)) (optE (c[e.toNat]?) (fun ao => Kal ao 0 (fun v42 v43 v44 v45 v46 v47 v48 v49 v50 v51 v52 => bx (!(v42.toList == ByteArray.toList (⟨#[107, 110, 111, 98]⟩))) (κn (Kar.h1 b c a (IntKind.wrap .i64 (e + 1)) i)) (LF (Kc6 f0) (Kd9 (Ka4.h1 b false 0 c a e i v42 v43 v44 v45 v46 v47 v48 v49 v50 v51 v52)) (Ka4.h1 b false 0 c a e i v42 v43 v44 v45 v46 v47 v48 v49 v50 v51 v52) ((fun ap u v w bw aq bz ca j cb cc cd ce cf cg => bx (!ap) (optE (j[Int.toNat 0]?) (fun ar => Ki3 ar 0 (fun v55 v56 => optE (j[Int.toNat 1]?) (fun au => Ki3 au 0 (fun v58 v59 => optE (j[Int.toNat 2]?) (fun av => Ki3 av 0 (fun v61 v62 => optE (j[Int.toNat 3]?) (fun aw => Ki3 aw 0 (fun v64 v65 => κn (Kar.h1 1 u v (IntKind.wrap .i64 (w + 1)) ([.val (.string aq), .val (.int .i64 v55), .val (.int .i64 v56), .val (.int .i64 v58), .val (.int .i64 v59), .val (.int .i64 v61), .val (.int .i64 v62), .val (.int .i64 v64), .val (.int .i64 v65), .val (.bool false)]))))))))))) (κn (Kar.h0 u v (IntKind.wrap .i64 (w + 1))))), (fun f ax x y z n ch ay ci cj l cl cm cn co cp cq => bx (!ax) (optE (l[Int.toNat 0]?) (fun az => Ki3 az 0 (fun v68 v69 => optE (l[Int.toNat 1]?) (fun ba => Ki3 ba 0 (fun v71 v72 => optE (l[Int.toNat 2]?) (fun bb => Ki3 bb 0 (fun v74 v75 => optE (l[Int.toNat 3]?) (fun bc => Ki3 bc 0 (fun v77 v78 => bx ((true && true && Nat.ble (f * 10) (n.length) && Nat.ble (f + 1) maxLen && Nat.ble ((f + 1) * 88) 140737488355328)) (κn (Kar.h1 (f + 1) x y (IntKind.wrap .i64 (z + 1)) (List.take (f * 10) n ++ [.val (.string ay), .val (.int .i64 v68), .val (.int .i64 v69), .val (.int .i64 v71), .val (.int .i64 v72), .val (.int .i64 v74), .val (.int .i64 v75), .val (.int .i64 v77), .val (.int .i64 v78), .val (.bool false)]))) none))))))))) (κn (Kar.h1 f x y (IntKind.wrap .i64 (z + 1)) n)))))))) none) (κ.2 b i)
def Kqj (s : St) : Option Kar := orO (hdO Kpy Kpz s) (hdO Kp0 Kp1 s)
def Kjf (f0 : W2d) : St → KC → Option DV := decR Kqj (Kc7 f0) Kgl Krl
theorem K2p : ∀ s x, Kqj s = some x → SLe s (Kg9 x) := fun _ _ => (Kx6 (Kec (S := Kg9) fun a x h => by unfold Kpz at h; split at h <;> cases h; rfl) (Kec (S := Kg9) fun a x h => by unfold Kp1 at h; split at h <;> cases h; rfl))
def Kkv (f0 : W2d) (d e : W4w) (f g : Int) (h : W4x) (i : W4w) (j l : Int) (m n : W4w) (o : W4x) (k : W4e) : W4y :=
  f0 d e f g h i j l m n o (fun a => LF (Kc7 f0) (Kgl (Kar.h0 a (a.length : Int) 0)) (Kar.h0 a (a.length : Int) 0) ((k []), (fun b c => bx (Nat.ble (0 + b * 10) (c.length)) (k (Kcy 10 b (List.drop 0 c))) none)))
def Kj6 (f0 : W2d) (ds : W4z) (k : W2v) : W4y :=
  match ds with
  | [.agg [.val (.string a), .val (.string b), .val (.int .i64 c), .val (.int .i64 d), .lst 2 e, .val (.string f), .val (.int .i64 g), .val (.int .i64 h), .val (.string i), .val (.string j), .lst 11 l]] => f0 a b c d e f g h i j l (fun m => k (.lst 10 m))
  | _ => none
def Kmm (N : Nat) : W2d := Kkv (Kbv N)
theorem K2q (f0 : W2d) (x : Ka4) (κn : St → Option DV) (κ : KC) : pev Tryz.prog (tab [(31, (Ka9 f0))] []) (ltab [(8, Kje f0), (3, Kjf f0)]) [(0, [0]), (0, []), (8, [3, 5, 6, 7, 9, 10, 11]), (100008, [3, 5, 6, 9, 10, 11]), (3, [3, 9, 10, 11]), (100003, [3])] 64 (Kb9 (Kaf Tryz.f29) 1) (Kg8 x) (Ki2 0 [3, 5, 6, 7, 9, 10, 11] [3, 5, 6, 9, 10, 11] κn κ) = Kc6 f0 x (fun x => κn (Kg8 x)) (Krk κ) := by cases x <;> kernel_rfl
theorem Ks5 (f0 : W2d) (HK : Kfv Tryz.prog Inv (tab [(31, (Ka9 f0))] [])) : Kjx 0 Tryz.prog Inv (Kb9 (Kaf Tryz.f29) 1) (Kje f0) :=
  Kca (lv := [(0, [0]), (0, []), (8, [3, 5, 6, 7, 9, 10, 11]), (100008, [3, 5, 6, 9, 10, 11]), (3, [3, 9, 10, 11]), (100003, [3])]) Kbg HK (Ka5 (bs := []) (by kernel_rfl) Kat) (K2q f0) K2o Kd9
theorem K2r (f0 : W2d) (x : Kar) (κn : St → Option DV) (κ : KC) : pev Tryz.prog (tab [(31, (Ka9 f0))] []) (ltab [(8, Kje f0), (3, Kjf f0)]) [(0, [0]), (0, []), (8, [3, 5, 6, 7, 9, 10, 11]), (100008, [3, 5, 6, 9, 10, 11]), (3, [3, 9, 10, 11]), (100003, [3])] 64 (Kb9 (Kaf Tryz.f29) 0) (Kg9 x) (Ki2 0 [3, 9, 10, 11] [3] κn κ) = Kc7 f0 x (fun x => κn (Kg9 x)) (Krl κ) := by cases x <;> kernel_rfl
theorem K2s (f0 : W2d) (HK : Kfv Tryz.prog Inv (tab [(31, (Ka9 f0))] [])) : Kjx 0 Tryz.prog Inv (Kb9 (Kaf Tryz.f29) 0) (Kjf f0) :=
  Kca (lv := [(0, [0]), (0, []), (8, [3, 5, 6, 7, 9, 10, 11]), (100008, [3, 5, 6, 9, 10, 11]), (3, [3, 9, 10, 11]), (100003, [3])]) Kbg HK (Ka5 (bs := [Kb9 (Kaf Tryz.f29) 1]) (by kernel_rfl) (Kbk (by kernel_rfl) (Ks5 f0 HK) Kat)) (K2r f0) K2p Kgl
theorem K51 (f0 : W2d) : Rd (Kj6 (Kkv f0)) (pevL Tryz.prog (tab [(31, (Ka9 f0))] []) (ltab [(8, Kje f0), (3, Kjf f0)]) [(0, [0]), (0, []), (8, [3, 5, 6, 7, 9, 10, 11]), (100008, [3, 5, 6, 9, 10, 11]), (3, [3, 9, 10, 11]), (100003, [3])] 64 Tryz.f29 (Kaf Tryz.f29)) := by
  intro ds; unfold Kj6; split
  · exact .inr fun k => by kernel_rfl
  · exact .inl fun _ => rfl
theorem K52 (N : Nat) : Kce Tryz.prog Inv 29 (Kj6 (Kmm N)) :=
  Kam (lv := [(0, [0]), (0, []), (8, [3, 5, 6, 7, 9, 10, 11]), (100008, [3, 5, 6, 9, 10, 11]), (3, [3, 9, 10, 11]), (100003, [3])]) Kbg stab (Kbs stab (Kaa (Kf7 N) (Kak _ _)) (Kae _ _)) Tryz.func29 (by kernel_rfl) (by kernel_rfl) (Ka5 (bs := [Kb9 (Kaf Tryz.f29) 0, Kb9 (Kaf Tryz.f29) 1]) (by kernel_rfl) (Kbk (by kernel_rfl) (K2s (Kbv N) (Kbs stab (Kaa (Kf7 N) (Kak _ _)) (Kae _ _))) (Kbk (by kernel_rfl) (Ks5 (Kbv N) (Kbs stab (Kaa (Kf7 N) (Kak _ _)) (Kae _ _))) Kat))) (K51 (Kbv N))
def Knm (f0 : W2d) (f1 : W18) (a b : W4w) (c d : Int) (e : W4x) (f : W4w) (g h : Int) (i j : W4w) (l : W4x) (k : W3x) : W4y :=
  f1 a b c d e f g h i j l (fun o p m => bx (m != 0) (k [] m) (f0 a b c d e f g h i j l (fun n => k n 0)))
def Kez (f0 : W2b) (ds : W4z) (k : W2v) : W4y :=
  match ds with
  | [.agg [.val (.string a), .val (.string b), .val (.int .i64 c), .val (.int .i64 d), .lst 2 e, .val (.string f), .val (.int .i64 g), .val (.int .i64 h), .val (.string i), .val (.string j), .lst 11 l]] => f0 a b c d e f g h i j l (fun m n => k (.tup [.lst 10 m, .val (.int .i64 n)]))
  | _ => none
def Kh8 (N : Nat) : W2b := Knm (Kmm N) (Kcb N)
theorem K9k (f0 : W2d) (f1 : W18) : Rd (Kez (Knm f0 f1)) (pevL Tryz.prog (tab [(6, (Kcu f1)), (29, (Kj6 f0))] []) noL [] 64 Tryz.f12 (Kaf Tryz.f12)) := by
  intro ds; unfold Kez; split
  · exact .inr fun k => by kernel_rfl
  · exact .inl fun _ => rfl
theorem Kr4 (N : Nat) : Kce Tryz.prog Inv 12 (Kez (Kh8 N)) :=
  Kam (lv := []) Kbg stab (Kbs stab (Kaa (Kij N) (Kaa (K52 N) (Kak _ _))) (Kae _ _)) Tryz.func12 (by kernel_rfl) (by kernel_rfl) (Kdc.none _ _ _) (K9k (Kmm N) (Kcb N))
inductive Kdm where
  | h0 (a : W4x) (b c : Int) (d : List (ByteArray × DV))
  | h1 (a : Nat) (b : W4x) (c d : Int) (e : W4z) (f : List (ByteArray × DV))
def Kp2 : Kdm → Nat
  | .h0 d b a c => Int.toNat (b - a) + 1
  | .h1 d b a c e f => Int.toNat (a - c) + 1
def K3t : SP := ⟨[(7, .d .z), (8, .mp 0), (22, .d (.l 11)), (23, .d (.i .i64)), (24, .d (.i .i64))], 60, [.dict]⟩
def K3u : Args → Option Kdm
  | [.l a, .i b, .i c, .d e] => some (.h0 a b c e)
  | _ => none
def K3v : SP := ⟨[(7, .osl 40 10 0 0), (8, .mp 1), (22, .d (.l 11)), (23, .d (.i .i64)), (24, .d (.i .i64))], 60, [.raw, .dict]⟩
def K3w : Args → Option Kdm
  | [.n a, .l b, .i e, .i f, .c g, .d h] => some (.h1 a b e f g h)
  | _ => none
def Krm : Kdm → St
  | .h0 a b e f => fS K3t [.l a, .i b, .i e, .d f]
  | .h1 a b e f g h => fS K3v [.n a, .l b, .i e, .i f, .c g, .d h]
def K69 (k : KC) : (Option DV) × (Nat → List DV → Option DV) := (k (.exit 0) (fS ⟨[(7, .d .z)], 60, []⟩ []), fun a b => k (.exit 0) (fS ⟨[(7, .osl 40 10 0 0)], 60, [.raw]⟩ [.n a, .c b]))
def Kjz (f0 : W2e) (f1 : W18) : Kdm → (Kdm → Option DV) → ((Option DV) × (Nat → List DV → Option DV)) → Option DV
  | .h0 a d b c, κn, κ => bx (decide (b < d)) (bx (decide (0 ≤ b)) (optE (a[b.toNat]?) (fun g => Kal g 0 (fun v6 v7 v8 v9 v10 v11 v12 v13 v14 v15 v16 => optV (dget c v7) (fun h => ld_b ([h]) 0 (fun v18 => bx (!v18) (optE (v10[Int.toNat 0]?) (fun i => Ki3 i 0 (fun v20 v21 => optE (v10[Int.toNat 1]?) (fun j => Ki3 j 0 (fun v23 v24 => optE (v10[Int.toNat 2]?) (fun l => Ki3 l 0 (fun v26 v27 => optE (v10[Int.toNat 3]?) (fun m => Ki3 m 0 (fun v29 v30 => κn (Kdm.h1 1 a d (IntKind.wrap .i64 (b + 1)) ([.val (.string v7), .val (.int .i64 v20), .val (.int .i64 v21), .val (.int .i64 v23), .val (.int .i64 v24), .val (.int .i64 v26), .val (.int .i64 v27), .val (.int .i64 v29), .val (.int .i64 v30), .val (.bool false)]) (dset c v7 (.val (.bool true))))))))))))) (κn (Kdm.h0 a d (IntKind.wrap .i64 (b + 1)) c)))) (optE (v10[Int.toNat 0]?) (fun n => Ki3 n 0 (fun v32 v33 => optE (v10[Int.toNat 1]?) (fun o => Ki3 o 0 (fun v35 v36 => optE (v10[Int.toNat 2]?) (fun p => Ki3 p 0 (fun v38 v39 => optE (v10[Int.toNat 3]?) (fun q => Ki3 q 0 (fun v41 v42 => κn (Kdm.h1 1 a d (IntKind.wrap .i64 (b + 1)) ([.val (.string v7), .val (.int .i64 v32), .val (.int .i64 v33), .val (.int .i64 v35), .val (.int .i64 v36), .val (.int .i64 v38), .val (.int .i64 v39), .val (.int .i64 v41), .val (.int .i64 v42), .val (.bool false)]) (dset c v7 (.val (.bool true)))))))))))))))) none) κ.1
  | .h1 a d b c e f, κn, κ => bx (decide (c < b)) (bx (decide (0 ≤ c)) (optE (d[c.toNat]?) (fun r => Kal r 0 (fun v44 v45 v46 v47 v48 v49 v50 v51 v52 v53 v54 => optV (dget f v45) (fun s => ld_b ([s]) 0 (fun v56 => bx (!v56) (optE (v48[Int.toNat 0]?) (fun t => Ki3 t 0 (fun v58 v59 => optE (v48[Int.toNat 1]?) (fun u => Ki3 u 0 (fun v61 v62 => optE (v48[Int.toNat 2]?) (fun v => Ki3 v 0 (fun v64 v65 => optE (v48[Int.toNat 3]?) (fun w => Ki3 w 0 (fun v67 v68 => bx ((true && true && Nat.ble (a * 10) (e.length) && Nat.ble (a + 1) maxLen && Nat.ble ((a + 1) * 88) 140737488355328)) (κn (Kdm.h1 (a + 1) d b (IntKind.wrap .i64 (c + 1)) (List.take (a * 10) e ++ [.val (.string v45), .val (.int .i64 v58), .val (.int .i64 v59), .val (.int .i64 v61), .val (.int .i64 v62), .val (.int .i64 v64), .val (.int .i64 v65), .val (.int .i64 v67), .val (.int .i64 v68), .val (.bool false)]) (dset f v45 (.val (.bool true))))) none))))))))) (κn (Kdm.h1 a d b (IntKind.wrap .i64 (c + 1)) e f)))) (optE (v48[Int.toNat 0]?) (fun x => Ki3 x 0 (fun v70 v71 => optE (v48[Int.toNat 1]?) (fun y => Ki3 y 0 (fun v73 v74 => optE (v48[Int.toNat 2]?) (fun z => Ki3 z 0 (fun v76 v77 => optE (v48[Int.toNat 3]?) (fun aa => Ki3 aa 0 (fun v79 v80 => bx ((true && true && Nat.ble (a * 10) (e.length) && Nat.ble (a + 1) maxLen && Nat.ble ((a + 1) * 88) 140737488355328)) (κn (Kdm.h1 (a + 1) d b (IntKind.wrap .i64 (c + 1)) (List.take (a * 10) e ++ [.val (.string v45), .val (.int .i64 v70), .val (.int .i64 v71), .val (.int .i64 v73), .val (.int .i64 v74), .val (.int .i64 v76), .val (.int .i64 v77), .val (.int .i64 v79), .val (.int .i64 v80), .val (.bool false)]) (dset f v45 (.val (.bool true))))) none)))))))))))) none) (κ.2 a e)
def K47 (s : St) : Option Kdm := orO (hdO K3t K3u s) (hdO K3v K3w s)
def K1q (f0 : W2e) (f1 : W18) : St → KC → Option DV := decR K47 (Kjz f0 f1) Kp2 K69
theorem Wgd : ∀ s x, K47 s = some x → SLe s (Krm x) := fun _ _ => (Kx6 (Kec (S := Krm) fun a x h => by unfold K3u at h; split at h <;> cases h; rfl) (Kec (S := Krm) fun a x h => by unfold K3w at h; split at h <;> cases h; rfl))
def K2t (f0 : W2e) (f1 : W18) (b c : W4w) (d e : Int) (f : W4x) (g : W4w) (h i : Int) (j l : W4w) (m : W4x) (k : W3x) : W4y :=
  f1 b c d e f g h i j l m (fun q r n => bx (n != 0) (k [] n) (f0 (⟨#[107, 110, 111, 98]⟩) b c d e f g h i j l m (fun a => LF (Kjz f0 f1) (Kp2 (Kdm.h0 a (a.length : Int) 0 ([] : List (ByteArray × DV)))) (Kdm.h0 a (a.length : Int) 0 ([] : List (ByteArray × DV))) ((k [] 0), (fun o p => bx (Nat.ble (0 + o * 10) (p.length)) (k (Kcy 10 o (List.drop 0 p)) 0) none)))))
def Kmr (f0 : W2b) (ds : W4z) (k : W2v) : W4y :=
  match ds with
  | [.agg [.val (.string a), .val (.string b), .val (.int .i64 c), .val (.int .i64 d), .lst 2 e, .val (.string f), .val (.int .i64 g), .val (.int .i64 h), .val (.string i), .val (.string j), .lst 11 l]] => f0 a b c d e f g h i j l (fun m n => k (.tup [.lst 10 m, .val (.int .i64 n)]))
  | _ => none
def Kw6 (N : Nat) : W2b := K2t (Keb N) (Khr N)
theorem Wge (f0 : W2e) (f1 : W18) (x : Kdm) (κn : St → Option DV) (κ : KC) : pev Tryz.prog (tab [(7, (Kf1 f1)), (30, (Kdf f0))] []) (ltab [(7, K1q f0 f1)]) [(0, [0]), (0, []), (7, [7, 8, 22, 23, 24]), (100007, [7])] 64 (Kb9 (Kaf Tryz.f13) 0) (Krm x) (Ki2 0 [7, 8, 22, 23, 24] [7] κn κ) = Kjz f0 f1 x (fun x => κn (Krm x)) (K69 κ) := by cases x <;> kernel_rfl
theorem Wgf (f0 : W2e) (f1 : W18) (HK : Kfv Tryz.prog Inv (tab [(7, (Kf1 f1)), (30, (Kdf f0))] [])) : Kjx 0 Tryz.prog Inv (Kb9 (Kaf Tryz.f13) 0) (K1q f0 f1) :=
  Kca (lv := [(0, [0]), (0, []), (7, [7, 8, 22, 23, 24]), (100007, [7])]) Kbg HK (Ka5 (bs := []) (by kernel_rfl) Kat) (Wge f0 f1) Wgd Kp2
theorem Wlw (f0 : W2e) (f1 : W18) : Rd (Kmr (K2t f0 f1)) (pevL Tryz.prog (tab [(7, (Kf1 f1)), (30, (Kdf f0))] []) (ltab [(7, K1q f0 f1)]) [(0, [0]), (0, []), (7, [7, 8, 22, 23, 24]), (100007, [7])] 64 Tryz.f13 (Kaf Tryz.f13)) := by
  intro ds; unfold Kmr; split
  · exact .inr fun k => by kernel_rfl
  · exact .inl fun _ => rfl
theorem K8m (N : Nat) : Kce Tryz.prog Inv 13 (Kmr (Kw6 N)) :=
  Kam (lv := [(0, [0]), (0, []), (7, [7, 8, 22, 23, 24]), (100007, [7])]) Kbg stab (Kbs stab (Kaa (Kq0 N) (Kaa (Kot N) (Kak _ _))) (Kae _ _)) Tryz.func13 (by kernel_rfl) (by kernel_rfl) (Ka5 (bs := [Kb9 (Kaf Tryz.f13) 0]) (by kernel_rfl) (Kbk (by kernel_rfl) (Wgf (Keb N) (Khr N) (Kbs stab (Kaa (Kq0 N) (Kaa (Kot N) (Kak _ _))) (Kae _ _))) Kat)) (Wlw (Keb N) (Khr N))
inductive Kbm where
  | h0 (a : W4x) (b c : Int)
  | h1 (a : Nat) (b : W4x) (c d : Int) (e : W4z)
def Kh5 : Kbm → Nat
  | .h0 c b a => Int.toNat (b - a) + 1
  | .h1 c b a d e => Int.toNat (a - d) + 1
def Ks6 : SP := ⟨[(7, .d .z), (20, .d (.l 11)), (21, .d (.i .i64)), (22, .d (.i .i64))], 36, []⟩
def Ks7 : Args → Option Kbm
  | [.l a, .i b, .i c] => some (.h0 a b c)
  | _ => none
def Ks8 : SP := ⟨[(7, .osl 9 1 0 0), (20, .d (.l 11)), (21, .d (.i .i64)), (22, .d (.i .i64))], 36, [.raw]⟩
def Ks9 : Args → Option Kbm
  | [.n a, .l b, .i d, .i e, .c f] => some (.h1 a b d e f)
  | _ => none
def Kis : Kbm → St
  | .h0 a b d => fS Ks6 [.l a, .i b, .i d]
  | .h1 a b d e f => fS Ks8 [.n a, .l b, .i d, .i e, .c f]
def Kvb (k : KC) : (Option DV) × (Nat → List DV → Option DV) := (k (.exit 0) (fS ⟨[(7, .d .z)], 36, []⟩ []), fun a b => k (.exit 0) (fS ⟨[(7, .osl 9 1 0 0)], 36, [.raw]⟩ [.n a, .c b]))
def Kb0 (f0 : W2d) (f1 : W18) : Kbm → (Kbm → Option DV) → ((Option DV) × (Nat → List DV → Option DV)) → Option DV
  | .h0 a c b, κn, κ => bx (decide (b < c)) (bx (decide (0 ≤ b)) (optE (a[b.toNat]?) (fun f => Kal f 0 (fun v6 v7 v8 v9 v10 v11 v12 v13 v14 v15 v16 => bx ((v6.toList == ByteArray.toList (⟨#[115, 104, 111, 119]⟩))) (κn (Kbm.h1 1 a c (IntKind.wrap .i64 (b + 1)) ([.val (.string v7)]))) (κn (Kbm.h0 a c (IntKind.wrap .i64 (b + 1))))))) none) κ.1
  | .h1 a c b d e, κn, κ => bx (decide (d < b)) (bx (decide (0 ≤ d)) (optE (c[d.toNat]?) (fun g => Kal g 0 (fun v18 v19 v20 v21 v22 v23 v24 v25 v26 v27 v28 => bx ((v18.toList == ByteArray.toList (⟨#[115, 104, 111, 119]⟩))) (bx ((true && true && Nat.ble (a * 1) (e.length) && Nat.ble (a + 1) maxLen && Nat.ble ((a + 1) * 16) 140737488355328)) (κn (Kbm.h1 (a + 1) c b (IntKind.wrap .i64 (d + 1)) (List.take (a * 1) e ++ [.val (.string v19)]))) none) (κn (Kbm.h1 a c b (IntKind.wrap .i64 (d + 1)) e))))) none) (κ.2 a e)
def Ktz (s : St) : Option Kbm := orO (hdO Ks6 Ks7 s) (hdO Ks8 Ks9 s)
def Kou (f0 : W2d) (f1 : W18) : St → KC → Option DV := decR Ktz (Kb0 f0 f1) Kh5 Kvb
theorem K53 : ∀ s x, Ktz s = some x → SLe s (Kis x) := fun _ _ => (Kx6 (Kec (S := Kis) fun a x h => by unfold Ks7 at h; split at h <;> cases h; rfl) (Kec (S := Kis) fun a x h => by unfold Ks9 at h; split at h <;> cases h; rfl))
def Knn (f0 : W2d) (f1 : W18) (b c : W4w) (d e : Int) (f : W4x) (g : W4w) (h i : Int) (j l : W4w) (m : W4x) (k : W3x) : W4y :=
  f1 b c d e f g h i j l m (fun q r n => bx (n != 0) (k [] n) (f0 b c d e f g h i j l m (fun a => LF (Kb0 f0 f1) (Kh5 (Kbm.h0 a (a.length : Int) 0)) (Kbm.h0 a (a.length : Int) 0) ((k [] 0), (fun o p => bx (Nat.ble (0 + o * 1) (p.length)) (k (Kcy 1 o (List.drop 0 p)) 0) none)))))
def Ke0 (f0 : W2b) (ds : W4z) (k : W2v) : W4y :=
  match ds with
  | [.agg [.val (.string a), .val (.string b), .val (.int .i64 c), .val (.int .i64 d), .lst 2 e, .val (.string f), .val (.int .i64 g), .val (.int .i64 h), .val (.string i), .val (.string j), .lst 11 l]] => f0 a b c d e f g h i j l (fun m n => k (.tup [.lst 1 m, .val (.int .i64 n)]))
  | _ => none
def Kh9 (N : Nat) : W2b := Knn (Kbv N) (Kcb N)
theorem K54 (f0 : W2d) (f1 : W18) (x : Kbm) (κn : St → Option DV) (κ : KC) : pev Tryz.prog (tab [(6, (Kcu f1)), (31, (Ka9 f0))] []) (ltab [(6, Kou f0 f1)]) [(0, [0]), (0, []), (6, [7, 20, 21, 22]), (100006, [7])] 64 (Kb9 (Kaf Tryz.f14) 0) (Kis x) (Ki2 0 [7, 20, 21, 22] [7] κn κ) = Kb0 f0 f1 x (fun x => κn (Kis x)) (Kvb κ) := by cases x <;> kernel_rfl
theorem K55 (f0 : W2d) (f1 : W18) (HK : Kfv Tryz.prog Inv (tab [(6, (Kcu f1)), (31, (Ka9 f0))] [])) : Kjx 0 Tryz.prog Inv (Kb9 (Kaf Tryz.f14) 0) (Kou f0 f1) :=
  Kca (lv := [(0, [0]), (0, []), (6, [7, 20, 21, 22]), (100006, [7])]) Kbg HK (Ka5 (bs := []) (by kernel_rfl) Kat) (K54 f0 f1) K53 Kh5
theorem K9l (f0 : W2d) (f1 : W18) : Rd (Ke0 (Knn f0 f1)) (pevL Tryz.prog (tab [(6, (Kcu f1)), (31, (Ka9 f0))] []) (ltab [(6, Kou f0 f1)]) [(0, [0]), (0, []), (6, [7, 20, 21, 22]), (100006, [7])] 64 Tryz.f14 (Kaf Tryz.f14)) := by
  intro ds; unfold Ke0; split
  · exact .inr fun k => by kernel_rfl
  · exact .inl fun _ => rfl
theorem Kr5 (N : Nat) : Kce Tryz.prog Inv 14 (Ke0 (Kh9 N)) :=
  Kam (lv := [(0, [0]), (0, []), (6, [7, 20, 21, 22]), (100006, [7])]) Kbg stab (Kbs stab (Kaa (Kij N) (Kaa (Kf7 N) (Kak _ _))) (Kae _ _)) Tryz.func14 (by kernel_rfl) (by kernel_rfl) (Ka5 (bs := [Kb9 (Kaf Tryz.f14) 0]) (by kernel_rfl) (Kbk (by kernel_rfl) (K55 (Kbv N) (Kcb N) (Kbs stab (Kaa (Kij N) (Kaa (Kf7 N) (Kak _ _))) (Kae _ _))) Kat)) (K9l (Kbv N) (Kcb N))
inductive Key where
  | h0 (a : W4x) (b c : Int)
  | h1 (a : Nat) (b : W4x) (c d : Int) (e : W4z)
def Kp3 : Key → Nat
  | .h0 c b a => Int.toNat (b - a) + 1
  | .h1 c b a d e => Int.toNat (a - d) + 1
def K3x : SP := ⟨[(7, .d .z), (20, .d (.l 11)), (21, .d (.i .i64)), (22, .d (.i .i64))], 33, []⟩
def K3y : Args → Option Key
  | [.l a, .i b, .i c] => some (.h0 a b c)
  | _ => none
def K3z : SP := ⟨[(7, .osl 9 1 0 0), (20, .d (.l 11)), (21, .d (.i .i64)), (22, .d (.i .i64))], 33, [.raw]⟩
def K30 : Args → Option Key
  | [.n a, .l b, .i d, .i e, .c f] => some (.h1 a b d e f)
  | _ => none
def Krn : Key → St
  | .h0 a b d => fS K3x [.l a, .i b, .i d]
  | .h1 a b d e f => fS K3z [.n a, .l b, .i d, .i e, .c f]
def K7a (k : KC) : (Option DV) × (Nat → List DV → Option DV) := (k (.exit 0) (fS ⟨[(7, .d .z)], 33, []⟩ []), fun a b => k (.exit 0) (fS ⟨[(7, .osl 9 1 0 0)], 33, [.raw]⟩ [.n a, .c b]))
def Khy (f0 : W2e) (f1 : W18) : Key → (Key → Option DV) → ((Option DV) × (Nat → List DV → Option DV)) → Option DV
  | .h0 a c b, κn, κ => bx (decide (b < c)) (bx (decide (0 ≤ b)) (optE (a[b.toNat]?) (fun f => Kal f 0 (fun v6 v7 v8 v9 v10 v11 v12 v13 v14 v15 v16 => κn (Key.h1 1 a c (IntKind.wrap .i64 (b + 1)) ([.val (.string v7)]))))) none) κ.1
  | .h1 a c b d e, κn, κ => bx (decide (d < b)) (bx (decide (0 ≤ d)) (optE (c[d.toNat]?) (fun g => Kal g 0 (fun v18 v19 v20 v21 v22 v23 v24 v25 v26 v27 v28 => bx ((true && true && Nat.ble (a * 1) (e.length) && Nat.ble (a + 1) maxLen && Nat.ble ((a + 1) * 16) 140737488355328)) (κn (Key.h1 (a + 1) c b (IntKind.wrap .i64 (d + 1)) (List.take (a * 1) e ++ [.val (.string v19)]))) none))) none) (κ.2 a e)
def K48 (s : St) : Option Key := orO (hdO K3x K3y s) (hdO K3z K30 s)
def K1r (f0 : W2e) (f1 : W18) : St → KC → Option DV := decR K48 (Khy f0 f1) Kp3 K7a
theorem Wgg : ∀ s x, K48 s = some x → SLe s (Krn x) := fun _ _ => (Kx6 (Kec (S := Krn) fun a x h => by unfold K3y at h; split at h <;> cases h; rfl) (Kec (S := Krn) fun a x h => by unfold K30 at h; split at h <;> cases h; rfl))
def K2u (f0 : W2e) (f1 : W18) (b c : W4w) (d e : Int) (f : W4x) (g : W4w) (h i : Int) (j l : W4w) (m : W4x) (k : W3x) : W4y :=
  f1 b c d e f g h i j l m (fun q r n => bx (n != 0) (k [] n) (f0 (⟨#[115, 104, 111, 119]⟩) b c d e f g h i j l m (fun a => LF (Khy f0 f1) (Kp3 (Key.h0 a (a.length : Int) 0)) (Key.h0 a (a.length : Int) 0) ((k [] 0), (fun o p => bx (Nat.ble (0 + o * 1) (p.length)) (k (Kcy 1 o (List.drop 0 p)) 0) none)))))
def Kms (f0 : W2b) (ds : W4z) (k : W2v) : W4y :=
  match ds with
  | [.agg [.val (.string a), .val (.string b), .val (.int .i64 c), .val (.int .i64 d), .lst 2 e, .val (.string f), .val (.int .i64 g), .val (.int .i64 h), .val (.string i), .val (.string j), .lst 11 l]] => f0 a b c d e f g h i j l (fun m n => k (.tup [.lst 1 m, .val (.int .i64 n)]))
  | _ => none
def Kw7 (N : Nat) : W2b := K2u (Keb N) (Khr N)
theorem Wgh (f0 : W2e) (f1 : W18) (x : Key) (κn : St → Option DV) (κ : KC) : pev Tryz.prog (tab [(7, (Kf1 f1)), (30, (Kdf f0))] []) (ltab [(6, K1r f0 f1)]) [(0, [0]), (0, []), (6, [7, 20, 21, 22]), (100006, [7])] 64 (Kb9 (Kaf Tryz.f15) 0) (Krn x) (Ki2 0 [7, 20, 21, 22] [7] κn κ) = Khy f0 f1 x (fun x => κn (Krn x)) (K7a κ) := by cases x <;> kernel_rfl
theorem Wgi (f0 : W2e) (f1 : W18) (HK : Kfv Tryz.prog Inv (tab [(7, (Kf1 f1)), (30, (Kdf f0))] [])) : Kjx 0 Tryz.prog Inv (Kb9 (Kaf Tryz.f15) 0) (K1r f0 f1) :=
  Kca (lv := [(0, [0]), (0, []), (6, [7, 20, 21, 22]), (100006, [7])]) Kbg HK (Ka5 (bs := []) (by kernel_rfl) Kat) (Wgh f0 f1) Wgg Kp3
theorem Wlx (f0 : W2e) (f1 : W18) : Rd (Kms (K2u f0 f1)) (pevL Tryz.prog (tab [(7, (Kf1 f1)), (30, (Kdf f0))] []) (ltab [(6, K1r f0 f1)]) [(0, [0]), (0, []), (6, [7, 20, 21, 22]), (100006, [7])] 64 Tryz.f15 (Kaf Tryz.f15)) := by
  intro ds; unfold Kms; split
  · exact .inr fun k => by kernel_rfl
  · exact .inl fun _ => rfl
theorem K8n (N : Nat) : Kce Tryz.prog Inv 15 (Kms (Kw7 N)) :=
  Kam (lv := [(0, [0]), (0, []), (6, [7, 20, 21, 22]), (100006, [7])]) Kbg stab (Kbs stab (Kaa (Kq0 N) (Kaa (Kot N) (Kak _ _))) (Kae _ _)) Tryz.func15 (by kernel_rfl) (by kernel_rfl) (Ka5 (bs := [Kb9 (Kaf Tryz.f15) 0]) (by kernel_rfl) (Kbk (by kernel_rfl) (Wgi (Keb N) (Khr N) (Kbs stab (Kaa (Kq0 N) (Kaa (Kot N) (Kak _ _))) (Kae _ _))) Kat)) (Wlx (Keb N) (Khr N))
def Khi (f0 : W3f) (a : Int) (k : KT) : W4y :=
  bx (decide (a < 0)) (f0 (IntKind.wrap .i64 (0 - a)) (fun b => bx (decide (((ByteArray.size (⟨#[45]⟩) + b.size : Nat) : Int) > IntKind.max .i64)) none (k ((⟨#[45]⟩) ++ b)))) (bx (decide (a < 10)) (k (Whz [.val (.int .u8 (IntKind.wrap .u8 (IntKind.wrap .i64 (48 + a))))])) (f0 (IntKind.wrap .i64 (Int.tdiv a 10)) (fun c => bx (decide (((c.size + ByteArray.size (Whz [.val (.int .u8 (IntKind.wrap .u8 (IntKind.wrap .i64 (48 + (Int.tmod a 10)))))]) : Nat) : Int) > IntKind.max .i64)) none (k (c ++ (Whz [.val (.int .u8 (IntKind.wrap .u8 (IntKind.wrap .i64 (48 + (Int.tmod a 10)))))]))))))
def Kd0 (f0 : W3f) (ds : W4z) (k : W2v) : W4y :=
  match ds with
  | [.val (.int .i64 a)] => f0 a (fun b => k (.val (.string b)))
  | _ => none
def Keo (N : Nat) : Nat → W3f
  | 0 => (fun _ _ => none)
  | n + 1 => (Khi (Keo N n))
def Kff (N : Nat) : W3f := Keo N N
theorem K7b (f0 : W3f) : Rd (Kd0 (Khi f0)) (pevL Tryz.prog (tab [(72, (Kd0 f0))] []) noL [] 64 Tryz.f72 (Kaf Tryz.f72)) := by
  intro ds; unfold Kd0; split
  · exact .inr fun k => by kernel_rfl
  · exact .inl fun _ => rfl
theorem Kt0 (N : Nat) : ∀ n, Kce Tryz.prog Inv 72 (Kd0 (Keo N n))
  | 0 => Khc (by intro ds k; unfold Kd0; split <;> rfl)
  | n + 1 => by
    have ih := Kt0 N n
    exact Kam (lv := []) Kbg stab (Kbs stab (Kaa (ih) (Kak _ _)) (Kae _ _)) Tryz.func72 (by kernel_rfl) (by kernel_rfl) (Kdc.none _ _ _) (K7b (Keo N n))
theorem Kxp (N : Nat) : Kce Tryz.prog Inv 72 (Kd0 (Kff N)) := (Kt0 N N)
def K11  (a b c d : Int) (e f g : Bool) (k : KB) : W4y :=
  k ((a == a) && ((b == b) && ((c == 0) && ((d == 0) && ((e == false) && ((f == false) && ((g == false) && true)))))))
def Kbd (f0 : W2l) (ds : W4z) (k : W2v) : W4y :=
  match ds with
  | [.val (.agg ⟨[.int .i64 a, .int .i64 b, .int .i64 c, .int .i64 d, .bool e, .bool f, .bool g]⟩)] => f0 a b c d e f g (fun h => k (.val (.bool h)))
  | _ => none
def Ka0 : W2l := K11
theorem Wbj  : Rd (Kbd (K11 )) (pevL Tryz.prog (tab [] []) noL [] 64 Tryz.f50 (Kaf Tryz.f50)) := by
  intro ds; unfold Kbd; split
  · exact .inr fun k => by kernel_rfl
  · exact .inl fun _ => rfl
theorem Kfj : Kce Tryz.prog Inv 50 (Kbd Ka0) :=
  Kam (lv := []) Kbg stab (Kbs stab (Kak _ _) (Kae _ _)) Tryz.func50 (by kernel_rfl) (by kernel_rfl) (Kdc.none _ _ _) (Wbj )
end Go.Proofs.YtgohccjmphapfaaGreatDoor
end
