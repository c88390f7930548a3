import Derived.Test.YtgohccjmphapfaaGreatDoorRg
set_option linter.all false
noncomputable section
namespace Go.Proofs.YtgohccjmphapfaaGreatDoor
open Go.Pv Go.RowKit
set_option maxRecDepth 100000
def Kq1  (b a : W4w) (k : KB) : W4y :=
  bx (decide ((b.size : Int) ≥ (a.size : Int))) (bx ((decide (0 ≤ (a.size : Int)) && decide ((a.size : Int) ≤ (b.size : Int)) && decide (0 ≤ 0) && decide (0 ≤ (a.size : Int)))) (k (ByteArray.toList (ByteArray.extract b (Int.toNat 0) (Int.toNat (a.size : Int))) == a.toList)) none) (k false)
def Ki4 (f0 : W3b) (ds : W4z) (k : W2v) : W4y :=
  match ds with
  | [.val (.string a), .val (.string b)] => f0 a b (fun c => k (.val (.bool c)))
  | _ => none
def Ki5 : W3b := Kq1
theorem K8o  : Rd (Ki4 (Kq1 )) (pevL Tryz.prog (tab [] []) noL [] 64 Tryz.f134 (Kaf Tryz.f134)) := by
  intro ds; unfold Ki4; split
  · exact .inr fun k => by kernel_rfl
  · exact .inl fun _ => rfl
theorem Kys : Kce Tryz.prog Inv 134 (Ki4 Ki5) :=
  Kam (lv := []) Kbg stab (Kbs stab (Kak _ _) (Kae _ _)) Tryz.func134 (by kernel_rfl) (by kernel_rfl) (Kdc.none _ _ _) (K8o )
def Kq2 (f0 : W3b) (a b : W4w) (k : KB) : W4y :=
  f0 a b (fun c => k c)
def Ko4 (f0 : W3b) (ds : W4z) (k : W2v) : W4y :=
  match ds with
  | [.val (.string a), .val (.string b)] => f0 a b (fun c => k (.val (.bool c)))
  | _ => none
def Kmz : W3b := Kq2 Ki5
theorem Wcn (f0 : W3b) : Rd (Ko4 (Kq2 f0)) (pevL Tryz.prog (tab [(134, (Ki4 f0))] []) noL [] 64 Tryz.f110 (Kaf Tryz.f110)) := by
  intro ds; unfold Ko4; split
  · exact .inr fun k => by kernel_rfl
  · exact .inl fun _ => rfl
theorem Wco : Kce Tryz.prog Inv 110 (Ko4 Kmz) :=
  Kam (lv := []) Kbg stab (Kbs stab (Kaa Kys (Kak _ _)) (Kae _ _)) Tryz.func110 (by kernel_rfl) (by kernel_rfl) (Kdc.none _ _ _) (Wcn Ki5)
def Kmn  (a b : W4w) (k : KB) : W4y :=
  bx (decide ((a.size : Int) ≥ (b.size : Int))) (bx ((decide (0 ≤ (a.size : Int)) && decide ((a.size : Int) ≤ (a.size : Int)) && decide (0 ≤ IntKind.wrap .i64 ((a.size : Int) - (b.size : Int))) && decide (IntKind.wrap .i64 ((a.size : Int) - (b.size : Int)) ≤ (a.size : Int)))) (k (ByteArray.toList (ByteArray.extract a (Int.toNat (IntKind.wrap .i64 ((a.size : Int) - (b.size : Int)))) (Int.toNat (a.size : Int))) == b.toList)) none) (k false)
def Ki6 (f0 : W3b) (ds : W4z) (k : W2v) : W4y :=
  match ds with
  | [.val (.string a), .val (.string b)] => f0 a b (fun c => k (.val (.bool c)))
  | _ => none
def Khs : W3b := Kmn
theorem K8p  : Rd (Ki6 (Kmn )) (pevL Tryz.prog (tab [] []) noL [] 64 Tryz.f168 (Kaf Tryz.f168)) := by
  intro ds; unfold Ki6; split
  · exact .inr fun k => by kernel_rfl
  · exact .inl fun _ => rfl
theorem Kyt : Kce Tryz.prog Inv 168 (Ki6 Khs) :=
  Kam (lv := []) Kbg stab (Kbs stab (Kak _ _) (Kae _ _)) Tryz.func168 (by kernel_rfl) (by kernel_rfl) (Kdc.none _ _ _) (K8p )
def Kp4 (f0 : W3b) (a b : W4w) (k : KT) : W4y :=
  f0 a b (fun c => bx (c) (bx ((decide (0 ≤ IntKind.wrap .i64 ((a.size : Int) - (b.size : Int))) && decide (IntKind.wrap .i64 ((a.size : Int) - (b.size : Int)) ≤ (a.size : Int)) && decide (0 ≤ 0) && decide (0 ≤ IntKind.wrap .i64 ((a.size : Int) - (b.size : Int))))) (k (ByteArray.extract a (Int.toNat 0) (Int.toNat (IntKind.wrap .i64 ((a.size : Int) - (b.size : Int)))))) none) (k a))
def Kkw (f0 : W3o) (ds : W4z) (k : W2v) : W4y :=
  match ds with
  | [.val (.string a), .val (.string b)] => f0 a b (fun c => k (.val (.string c)))
  | _ => none
def Kno : W3o := Kp4 Khs
theorem K7c (f0 : W3b) : Rd (Kkw (Kp4 f0)) (pevL Tryz.prog (tab [(168, (Ki6 f0))] []) noL [] 64 Tryz.f166 (Kaf Tryz.f166)) := by
  intro ds; unfold Kkw; split
  · exact .inr fun k => by kernel_rfl
  · exact .inl fun _ => rfl
theorem K7d : Kce Tryz.prog Inv 166 (Kkw Kno) :=
  Kam (lv := []) Kbg stab (Kbs stab (Kaa Kyt (Kak _ _)) (Kae _ _)) Tryz.func166 (by kernel_rfl) (by kernel_rfl) (Kdc.none _ _ _) (K7c Khs)
def Kvv (f0 : W3o) (a b : W4w) (k : KT) : W4y :=
  f0 a b (fun c => k c)
def Kn6 (f0 : W3o) (ds : W4z) (k : W2v) : W4y :=
  match ds with
  | [.val (.string a), .val (.string b)] => f0 a b (fun c => k (.val (.string c)))
  | _ => none
def Kn7 : W3o := Kvv Kno
theorem Wbk (f0 : W3o) : Rd (Kn6 (Kvv f0)) (pevL Tryz.prog (tab [(166, (Kkw f0))] []) noL [] 64 Tryz.f143 (Kaf Tryz.f143)) := by
  intro ds; unfold Kn6; split
  · exact .inr fun k => by kernel_rfl
  · exact .inl fun _ => rfl
theorem Wbl : Kce Tryz.prog Inv 143 (Kn6 Kn7) :=
  Kam (lv := []) Kbg stab (Kbs stab (Kaa K7d (Kak _ _)) (Kae _ _)) Tryz.func143 (by kernel_rfl) (by kernel_rfl) (Kdc.none _ _ _) (Wbk Kno)
def Kq3 (f0 : W3b) (a b : W4w) (k : W3y) : W4y :=
  f0 a b (fun c => bx (!c) (k a false) (bx ((decide (0 ≤ (a.size : Int)) && decide ((a.size : Int) ≤ (a.size : Int)) && decide (0 ≤ (b.size : Int)) && decide ((b.size : Int) ≤ (a.size : Int)))) (k (ByteArray.extract a (Int.toNat (b.size : Int)) (Int.toNat (a.size : Int))) true) none))
def Klm (f0 : W20) (ds : W4z) (k : W2v) : W4y :=
  match ds with
  | [.val (.string a), .val (.string b)] => f0 a b (fun c d => k (.val (.tuple ⟨[.string c, .bool d]⟩)))
  | _ => none
def Kn8 : W20 := Kq3 Ki5
theorem K8q (f0 : W3b) : Rd (Klm (Kq3 f0)) (pevL Tryz.prog (tab [(134, (Ki4 f0))] []) noL [] 64 Tryz.f145 (Kaf Tryz.f145)) := by
  intro ds; unfold Klm; split
  · exact .inr fun k => by kernel_rfl
  · exact .inl fun _ => rfl
theorem K8r : Kce Tryz.prog Inv 145 (Klm Kn8) :=
  Kam (lv := []) Kbg stab (Kbs stab (Kaa Kys (Kak _ _)) (Kae _ _)) Tryz.func145 (by kernel_rfl) (by kernel_rfl) (Kdc.none _ _ _) (K8q Ki5)
def Kw8 (f0 : W20) (a b : W4w) (k : W3y) : W4y :=
  f0 a b (fun c d => k c d)
def Kl5 (f0 : W20) (ds : W4z) (k : W2v) : W4y :=
  match ds with
  | [.val (.string a), .val (.string b)] => f0 a b (fun c d => k (.val (.tuple ⟨[.string c, .bool d]⟩)))
  | _ => none
def Kkh : W20 := Kw8 Kn8
theorem Wcp (f0 : W20) : Rd (Kl5 (Kw8 f0)) (pevL Tryz.prog (tab [(145, (Klm f0))] []) noL [] 64 Tryz.f117 (Kaf Tryz.f117)) := by
  intro ds; unfold Kl5; split
  · exact .inr fun k => by kernel_rfl
  · exact .inl fun _ => rfl
theorem K31 : Kce Tryz.prog Inv 117 (Kl5 Kkh) :=
  Kam (lv := []) Kbg stab (Kbs stab (Kaa K8r (Kak _ _)) (Kae _ _)) Tryz.func117 (by kernel_rfl) (by kernel_rfl) (Kdc.none _ _ _) (Wcp Kn8)
def Kq4 (f0 : W3b) (a b : W4w) (k : W3y) : W4y :=
  f0 a b (fun c => bx (!c) (k a false) (bx ((decide (0 ≤ IntKind.wrap .i64 ((a.size : Int) - (b.size : Int))) && decide (IntKind.wrap .i64 ((a.size : Int) - (b.size : Int)) ≤ (a.size : Int)) && decide (0 ≤ 0) && decide (0 ≤ IntKind.wrap .i64 ((a.size : Int) - (b.size : Int))))) (k (ByteArray.extract a (Int.toNat 0) (Int.toNat (IntKind.wrap .i64 ((a.size : Int) - (b.size : Int))))) true) none))
def Kln (f0 : W20) (ds : W4z) (k : W2v) : W4y :=
  match ds with
  | [.val (.string a), .val (.string b)] => f0 a b (fun c d => k (.val (.tuple ⟨[.string c, .bool d]⟩)))
  | _ => none
def Kn9 : W20 := Kq4 Khs
theorem K8s (f0 : W3b) : Rd (Kln (Kq4 f0)) (pevL Tryz.prog (tab [(168, (Ki6 f0))] []) noL [] 64 Tryz.f146 (Kaf Tryz.f146)) := by
  intro ds; unfold Kln; split
  · exact .inr fun k => by kernel_rfl
  · exact .inl fun _ => rfl
theorem K8t : Kce Tryz.prog Inv 146 (Kln Kn9) :=
  Kam (lv := []) Kbg stab (Kbs stab (Kaa Kyt (Kak _ _)) (Kae _ _)) Tryz.func146 (by kernel_rfl) (by kernel_rfl) (Kdc.none _ _ _) (K8s Khs)
def Kw9 (f0 : W20) (a b : W4w) (k : W3y) : W4y :=
  f0 a b (fun c d => k c d)
def Ko5 (f0 : W20) (ds : W4z) (k : W2v) : W4y :=
  match ds with
  | [.val (.string a), .val (.string b)] => f0 a b (fun c d => k (.val (.tuple ⟨[.string c, .bool d]⟩)))
  | _ => none
def Kp5 : W20 := Kw9 Kn9
theorem Wcq (f0 : W20) : Rd (Ko5 (Kw9 f0)) (pevL Tryz.prog (tab [(146, (Kln f0))] []) noL [] 64 Tryz.f118 (Kaf Tryz.f118)) := by
  intro ds; unfold Ko5; split
  · exact .inr fun k => by kernel_rfl
  · exact .inl fun _ => rfl
theorem Wcr : Kce Tryz.prog Inv 118 (Ko5 Kp5) :=
  Kam (lv := []) Kbg stab (Kbs stab (Kaa K8t (Kak _ _)) (Kae _ _)) Tryz.func118 (by kernel_rfl) (by kernel_rfl) (Kdc.none _ _ _) (Wcq Kn9)
inductive Kfs where
  | h0 (a : Int) (b : W4x) (c d : Int)
def Koa : Kfs → Nat
  | .h0 c d a b => Int.toNat (a - b) + 1
def K12 : SP := ⟨[(4, .d (.i .u64)), (18, .d (.l 1)), (19, .d (.i .i64)), (20, .d (.i .i64))], 38, []⟩
def K13 : Args → Option Kfs
  | [.i a, .l b, .i c, .i d] => some (.h0 a b c d)
  | _ => none
def Kut : Kfs → St
  | .h0 a b c d => fS K12 [.i a, .l b, .i c, .i d]
def K49 (k : KC) : (Int → Bool → Option DV) × KI := (fun a c => k .ret (fS ⟨[(4, .d (.i .u64)), (5, .d .b)], 38, []⟩ [.i a, .b c]), fun a => k (.exit 0) (fS ⟨[(4, .d (.i .u64)), (5, .dead)], 38, []⟩ [.i a]))
def Km0  : Kfs → (Kfs → Option DV) → ((Int → Bool → Option DV) × KI) → Option DV
  | .h0 b c d a, κn, κ => bx (decide (a < d)) (bx (decide (0 ≤ a)) (optE (c[a.toNat]?) (fun e => W0w e 0 (fun v2 => bx (!(decide (v2 < 48))) (bx (decide (v2 > 57)) (κ.1 0 false) (κn (Kfs.h0 (IntKind.wrap .u64 ((IntKind.wrap .u64 (10 * b)) + (IntKind.wrap .u64 (IntKind.wrap .u8 (v2 - 48))))) c d (IntKind.wrap .i64 (a + 1))))) (κ.1 0 false)))) none) (κ.2 b)
def K32 (s : St) : Option Kfs := hdO K12 K13 s
def Kz8  : St → KC → Option DV := decR K32 (Km0 ) Koa K49
theorem Wfd : ∀ s x, K32 s = some x → SLe s (Kut x) := fun _ _ => (Kec (S := Kut) fun a x h => by unfold K13 at h; split at h <;> cases h; rfl)
def K56  (a : W4w) (b : Int) (k : Int → Bool → Option DV) : W4y :=
  bx (!(decide ((a.size : Int) < 1))) (bx (decide ((a.size : Int) > b)) (k 0 false) (LF (Km0 ) (Koa (Kfs.h0 0 (Kse a) ((List.length (Kse a) : Nat) : Int) 0)) (Kfs.h0 0 (Kse a) ((List.length (Kse a) : Nat) : Int) 0) ((fun c d => k c d), (fun e => k e true)))) (k 0 false)
def Kyu (f0 : W36) (ds : W4z) (k : W2v) : W4y :=
  match ds with
  | [.val (.string a), .val (.int .i64 b)] => f0 a b (fun c d => k (.val (.tuple ⟨[.int .u64 c, .bool d]⟩)))
  | _ => none
def K0z : W36 := K56
theorem Wfe  (x : Kfs) (κn : St → Option DV) (κ : KC) : pev Tryz.prog (tab [] []) (ltab [(4, Kz8 )]) [(0, [0]), (0, []), (4, [4, 18, 19, 20]), (100004, [4, 5])] 64 (Kb9 (Kaf Tryz.f169) 0) (Kut x) (Ki2 0 [4, 18, 19, 20] [4, 5] κn κ) = Km0  x (fun x => κn (Kut x)) (K49 κ) := by cases x <;> kernel_rfl
theorem Wff  (HK : Kfv Tryz.prog Inv (tab [] [])) : Kjx 0 Tryz.prog Inv (Kb9 (Kaf Tryz.f169) 0) (Kz8 ) :=
  Kca (lv := [(0, [0]), (0, []), (4, [4, 18, 19, 20]), (100004, [4, 5])]) Kbg HK (Ka5 (bs := []) (by kernel_rfl) Kat) (Wfe ) Wfd Koa
theorem Wjj  : Rd (Kyu (K56 )) (pevL Tryz.prog (tab [] []) (ltab [(4, Kz8 )]) [(0, [0]), (0, []), (4, [4, 18, 19, 20]), (100004, [4, 5])] 64 Tryz.f169 (Kaf Tryz.f169)) := by
  intro ds; unfold Kyu; split
  · exact .inr fun k => by kernel_rfl
  · exact .inl fun _ => rfl
theorem Wjk : Kce Tryz.prog Inv 169 (Kyu K0z) :=
  Kam (lv := [(0, [0]), (0, []), (4, [4, 18, 19, 20]), (100004, [4, 5])]) Kbg stab (Kbs stab (Kak _ _) (Kae _ _)) Tryz.func169 (by kernel_rfl) (by kernel_rfl) (Ka5 (bs := [Kb9 (Kaf Tryz.f169) 0]) (by kernel_rfl) (Kbk (by kernel_rfl) (Wff  (Kbs stab (Kak _ _) (Kae _ _))) Kat)) (Wjj )
inductive Kdo where
  | h0 (a : Int) (b c : W4w) (d e : Int) (f : W4x) (g : W4w) (h i : Int) (j l : W4w) (m : W4x) (n o : W4w) (p q : Int) (r : W4x) (s : W4w) (t u : Int) (v w : W4w) (x : W4x)
def Kkx : Kdo → Nat
  | .h0 a c d e f g h i j l m b n o p q r s t u v w x => Int.toNat ((b.length : Int) - a) + 1
def Kt1 : SP := ⟨[(2, .ptr 0 0), (3, .ptr 1 0), (5, .d (.i .i64))], 75, [BP0, BP0]⟩
def Kt2 : Args → Option Kdo
  | [.i a, .s b, .s c, .i d, .i e, .l f, .s g, .i h, .i j, .s m, .s n, .l o, .s p, .s q, .i r, .i t, .l u, .s v, .i w, .i x, .s y, .s z, .l aa] => some (.h0 a b c d e f g h j m n o p q r t u v w x y z aa)
  | _ => none
def Klo : Kdo → St
  | .h0 a b c d e f g h j m n o p q r t u v w x y z aa => fS Kt1 [.i a, .s b, .s c, .i d, .i e, .l f, .s g, .i h, .i j, .s m, .s n, .l o, .s p, .s q, .i r, .i t, .l u, .s v, .i w, .i x, .s y, .s z, .l aa]
def Kwf (k : KC) : KB × (Option DV) := (fun a => k .ret (fS ⟨[(4, .d .b)], 75, []⟩ [.b a]), k (.exit 0) (fS ⟨[(4, .dead)], 75, []⟩ []))
def Khj (f0 : W2f) (f1 : W2y) : Kdo → (Kdo → Option DV) → (KB × (Option DV)) → Option DV
  | .h0 a d e f g h i j l m n b o p q r s t u v w x c, κn, κ => bx (decide (a < (b.length : Int))) (bx (decide (0 ≤ a)) (optE (b[a.toNat]?) (fun y => Kal y 0 (fun v3 v4 v5 v6 v7 v8 v9 v10 v11 v12 v13 => bx (decide (0 ≤ a)) (optE (c[a.toNat]?) (fun z => Kal z 0 (fun v15 v16 v17 v18 v19 v20 v21 v22 v23 v24 v25 => f0 v3 v4 v5 v6 v7 v8 v9 v10 v11 v12 v13 v15 v16 v17 v18 v19 v20 v21 v22 v23 v24 v25 (fun aa => bx (!aa) (κ.1 false) (κn (Kdo.h0 (IntKind.wrap .i64 (a + 1)) d e f g h i j l m n b o p q r s t u v w x c)))))) none))) none) κ.2
def Kvc (s : St) : Option Kdo := hdO Kt1 Kt2 s
def Kp6 (f0 : W2f) (f1 : W2y) : St → KC → Option DV := decR Kvc (Khj f0 f1) Kkx Kwf
theorem K7e : ∀ s x, Kvc s = some x → SLe s (Klo x) := fun _ _ => (Kec (S := Klo) fun a x h => by unfold Kt2 at h; split at h <;> cases h; rfl)
def Kob (f0 : W2f) (f1 : W2y) (a b : W4w) (c d : Int) (e : W4x) (f : W4w) (g h : Int) (i j : W4w) (l : W4x) (m n : W4w) (o p : Int) (q : W4x) (r : W4w) (s t : Int) (u v : W4w) (w : W4x) (k : KB) : W4y :=
  bx (!(!(a.toList == m.toList))) (bx (!(!(b.toList == n.toList))) (bx (!(c != o)) (bx (!(d != p)) (bx (!(!(((f.toList == r.toList) && ((g == s) && ((h == t) && ((i.toList == u.toList) && ((j.toList == v.toList) && true)))))))) (f1 e q (fun x => bx (!(!x)) (bx ((l.length : Int) != (w.length : Int)) (k false) (LF (Khj f0 f1) (Kkx (Kdo.h0 0 a b c d e f g h i j l m n o p q r s t u v w)) (Kdo.h0 0 a b c d e f g h i j l m n o p q r s t u v w) ((fun y => k y), (k true)))) (k false))) (k false)) (k false)) (k false)) (k false)) (k false)
def Kcn (f0 : W2f) (ds : W4z) (k : W2v) : W4y :=
  match ds with
  | [.agg [.val (.string a), .val (.string b), .val (.int .i64 c), .val (.int .i64 d), .lst 2 e, .val (.string f), .val (.int .i64 g), .val (.int .i64 h), .val (.string i), .val (.string j), .lst 11 l], .agg [.val (.string m), .val (.string n), .val (.int .i64 o), .val (.int .i64 p), .lst 2 q, .val (.string r), .val (.int .i64 s), .val (.int .i64 t), .val (.string u), .val (.string v), .lst 11 w]] => f0 a b c d e f g h i j l m n o p q r s t u v w (fun x => k (.val (.bool x)))
  | _ => none
def Ke1 (N : Nat) : Nat → W2f
  | 0 => (fun _ _ _ _ _ _ _ _ _ _ _ _ _ _ _ _ _ _ _ _ _ _ _ => none)
  | n + 1 => (Kob (Ke1 N n) Kaz)
def Km5 (N : Nat) : W2f := Ke1 N N
theorem K7f (f0 : W2f) (f1 : W2y) (x : Kdo) (κn : St → Option DV) (κ : KC) : pev Tryz.prog (tab [(19, (Kcn f0)), (37, (Kdd f1))] []) (ltab [(4, Kp6 f0 f1)]) [(0, [0]), (0, []), (4, [2, 3, 5]), (100004, [4])] 64 (Kb9 (Kaf Tryz.f19) 0) (Klo x) (Ki2 0 [2, 3, 5] [4] κn κ) = Khj f0 f1 x (fun x => κn (Klo x)) (Kwf κ) := by cases x <;> kernel_rfl
theorem K7g (f0 : W2f) (f1 : W2y) (HK : Kfv Tryz.prog Inv (tab [(19, (Kcn f0)), (37, (Kdd f1))] [])) : Kjx 0 Tryz.prog Inv (Kb9 (Kaf Tryz.f19) 0) (Kp6 f0 f1) :=
  Kca (lv := [(0, [0]), (0, []), (4, [2, 3, 5]), (100004, [4])]) Kbg HK (Ka5 (bs := []) (by kernel_rfl) Kat) (K7f f0 f1) K7e Kkx
theorem Wai (f0 : W2f) (f1 : W2y) : Rd (Kcn (Kob f0 f1)) (pevL Tryz.prog (tab [(19, (Kcn f0)), (37, (Kdd f1))] []) (ltab [(4, Kp6 f0 f1)]) [(0, [0]), (0, []), (4, [2, 3, 5]), (100004, [4])] 64 Tryz.f19 (Kaf Tryz.f19)) := by
  intro ds; unfold Kcn; split
  · exact .inr fun k => by kernel_rfl
  · exact .inl fun _ => rfl
theorem Kxq (N : Nat) : ∀ n, Kce Tryz.prog Inv 19 (Kcn (Ke1 N n))
  | 0 => Khc (by intro ds k; unfold Kcn; split <;> rfl)
  | n + 1 => by
    have ih := Kxq N n
    exact Kam (lv := [(0, [0]), (0, []), (4, [2, 3, 5]), (100004, [4])]) Kbg stab (Kbs stab (Kaa (ih) (Kaa Kka (Kak _ _))) (Kae _ _)) Tryz.func19 (by kernel_rfl) (by kernel_rfl) (Ka5 (bs := [Kb9 (Kaf Tryz.f19) 0]) (by kernel_rfl) (Kbk (by kernel_rfl) (K7g (Ke1 N n) Kaz (Kbs stab (Kaa (ih) (Kaa Kka (Kak _ _))) (Kae _ _))) Kat)) (Wai (Ke1 N n) Kaz)
theorem Kt3 (N : Nat) : Kce Tryz.prog Inv 19 (Kcn (Km5 N)) := (Kxq N N)
end Go.Proofs.YtgohccjmphapfaaGreatDoor
end
