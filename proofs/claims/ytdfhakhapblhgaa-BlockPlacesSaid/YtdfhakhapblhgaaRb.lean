/-
  Diagrams, read as plain functions.
-/
import Derived.Test.YtdfhakhapblhgaaRa
set_option linter.all false
namespace Go.Proofs.Ytdfhakhapblhgaa
open Go.Pv Go.RowKit
set_option maxRecDepth 100000
noncomputable def ld_ssiil2siissl11 (e : List DV) (o : Nat) (k : ByteArray → ByteArray → Int → Int → List (List DV) → ByteArray → Int → Int → ByteArray → ByteArray → List (List DV) → Option DV) : Option DV :=
  bx (isS (nth e o)) (bx (isS (nth e (o + 1))) (bx (isI .i64 (nth e (o + 1 + 1))) (bx (isI .i64 (nth e (o + 1 + 1 + 1))) (bx (isL 2 (nth e (o + 1 + 1 + 1 + 1))) (bx (isS (nth e (o + 1 + 1 + 1 + 1 + 1))) (bx (isI .i64 (nth e (o + 1 + 1 + 1 + 1 + 1 + 1))) (bx (isI .i64 (nth e (o + 1 + 1 + 1 + 1 + 1 + 1 + 1))) (bx (isS (nth e (o + 1 + 1 + 1 + 1 + 1 + 1 + 1 + 1))) (bx (isS (nth e (o + 1 + 1 + 1 + 1 + 1 + 1 + 1 + 1 + 1))) (bx (isL 11 (nth e (o + 1 + 1 + 1 + 1 + 1 + 1 + 1 + 1 + 1 + 1))) (k (asS (nth e o)) (asS (nth e (o + 1))) (asI (nth e (o + 1 + 1))) (asI (nth e (o + 1 + 1 + 1))) (asL (nth e (o + 1 + 1 + 1 + 1))) (asS (nth e (o + 1 + 1 + 1 + 1 + 1))) (asI (nth e (o + 1 + 1 + 1 + 1 + 1 + 1))) (asI (nth e (o + 1 + 1 + 1 + 1 + 1 + 1 + 1))) (asS (nth e (o + 1 + 1 + 1 + 1 + 1 + 1 + 1 + 1))) (asS (nth e (o + 1 + 1 + 1 + 1 + 1 + 1 + 1 + 1 + 1))) (asL (nth e (o + 1 + 1 + 1 + 1 + 1 + 1 + 1 + 1 + 1 + 1)))) none) none) none) none) none) none) none) none) none) none) none

inductive X_serinetteref05_Size_l3 where
  | h0 (x0 : Int) (x1 : Int) (x2 : ByteArray) (x3 : ByteArray) (x4 : Int) (x5 : Int) (x6 : List (List DV)) (x7 : ByteArray) (x8 : Int) (x9 : Int) (x10 : ByteArray) (x11 : ByteArray) (x12 : List (List DV))
def φ_serinetteref05_Size_l3 : X_serinetteref05_Size_l3 → Nat
  | .h0 x0 x1 x2 x3 x4 x5 x6 x7 x8 x9 x10 x11 x12 => Int.toNat (((List.length x12 : Nat) : Int) - x1) + 1
noncomputable def S_serinetteref05_Size_l3 : X_serinetteref05_Size_l3 → St
  | .h0 x0 x1 x2 x3 x4 x5 x6 x7 x8 x9 x10 x11 x12 => ⟨mkT [(1, .ptr 0 0), (3, .dv (.val (.int .i64 x0))), (4, .dv (.val (.int .i64 x1)))] (.leaf .dead), 21, [some (.mix [.dv (.val (.string x2)), .dv (.val (.string x3)), .dv (.val (.int .i64 x4)), .dv (.val (.int .i64 x5)), .dv (.lst 2 x6), .dv (.val (.string x7)), .dv (.val (.int .i64 x8)), .dv (.val (.int .i64 x9)), .dv (.val (.string x10)), .dv (.val (.string x11)), .dv (.lst 11 x12)])]⟩

noncomputable def oc_serinetteref05_Size_l3 (k : KC) : KI := (fun y0 => k (.exit 0) ⟨mkT [(3, .dv (.val (.int .i64 y0)))] (.leaf .dead), 21, []⟩)

noncomputable def B_serinetteref05_Size_l3_h0 (f0 : ByteArray → ByteArray → Int → Int → List (List DV) → ByteArray → Int → Int → ByteArray → ByteArray → List (List DV) → KI → Option DV) (x0 : Int) (x1 : Int) (x2 : ByteArray) (x3 : ByteArray) (x4 : Int) (x5 : Int) (x6 : List (List DV)) (x7 : ByteArray) (x8 : Int) (x9 : Int) (x10 : ByteArray) (x11 : ByteArray) (x12 : List (List DV)) (κn : X_serinetteref05_Size_l3 → Option DV) (κ0 : KI) : Option DV :=
  bx (decide (x1 < ((List.length x12 : Nat) : Int))) (bx (decide (0 ≤ x1)) (optE (x12[Int.toNat x1]?) (fun e1 => ld_ssiil2siissl11 e1 0 (fun v2 v3 v4 v5 v6 v7 v8 v9 v10 v11 v12 => f0 v2 v3 v4 v5 v6 v7 v8 v9 v10 v11 v12 (fun r13 => κn (X_serinetteref05_Size_l3.h0 (IntKind.wrap .i64 (x0 + r13)) (IntKind.wrap .i64 (x1 + 1)) x2 x3 x4 x5 x6 x7 x8 x9 x10 x11 x12))))) none) (κ0 x0)

noncomputable def F_serinetteref05_Size_l3 (f0 : ByteArray → ByteArray → Int → Int → List (List DV) → ByteArray → Int → Int → ByteArray → ByteArray → List (List DV) → KI → Option DV) : X_serinetteref05_Size_l3 → (X_serinetteref05_Size_l3 → Option DV) → (KI) → Option DV
  | .h0 x0 x1 x2 x3 x4 x5 x6 x7 x8 x9 x10 x11 x12, κn, κ => B_serinetteref05_Size_l3_h0 f0 x0 x1 x2 x3 x4 x5 x6 x7 x8 x9 x10 x11 x12 κn κ

noncomputable def dec_serinetteref05_Size_l3 (s : St) : Option X_serinetteref05_Size_l3 :=
  bindO (xN s.n 21) fun u => bindO (xP 0 0 (s.tmps.get 1)) fun u1 => bindO (xD (s.tmps.get 3)) fun d2 => bindO (xI .i64 d2) fun x0 => bindO (xD (s.tmps.get 4)) fun d4 => bindO (xI .i64 d4) fun x1 => bindO (xMix s.heap) fun p6 => bindO (xUn p6.1) fun q7 => bindO (xD q7.1) fun d8 => bindO (xS d8) fun x2 => bindO (xUn q7.2) fun q10 => bindO (xD q10.1) fun d11 => bindO (xS d11) fun x3 => bindO (xUn q10.2) fun q13 => bindO (xD q13.1) fun d14 => bindO (xI .i64 d14) fun x4 => bindO (xUn q13.2) fun q16 => bindO (xD q16.1) fun d17 => bindO (xI .i64 d17) fun x5 => bindO (xUn q16.2) fun q19 => bindO (xD q19.1) fun d20 => bindO (xL 2 d20) fun x6 => bindO (xUn q19.2) fun q22 => bindO (xD q22.1) fun d23 => bindO (xS d23) fun x7 => bindO (xUn q22.2) fun q25 => bindO (xD q25.1) fun d26 => bindO (xI .i64 d26) fun x8 => bindO (xUn q25.2) fun q28 => bindO (xD q28.1) fun d29 => bindO (xI .i64 d29) fun x9 => bindO (xUn q28.2) fun q31 => bindO (xD q31.1) fun d32 => bindO (xS d32) fun x10 => bindO (xUn q31.2) fun q34 => bindO (xD q34.1) fun d35 => bindO (xS d35) fun x11 => bindO (xUn q34.2) fun q37 => bindO (xD q37.1) fun d38 => bindO (xL 11 d38) fun x12 => bindO (xEnd q37.2) fun u40 => bindO (xEnd p6.2) fun u41 => some (.h0 x0 x1 x2 x3 x4 x5 x6 x7 x8 x9 x10 x11 x12)

noncomputable def R_serinetteref05_Size_l3 (f0 : ByteArray → ByteArray → Int → Int → List (List DV) → ByteArray → Int → Int → ByteArray → ByteArray → List (List DV) → KI → Option DV) : St → KC → Option DV := decR dec_serinetteref05_Size_l3 (F_serinetteref05_Size_l3 f0) φ_serinetteref05_Size_l3 oc_serinetteref05_Size_l3

theorem d_serinetteref05_Size_l3 : ∀ s x, dec_serinetteref05_Size_l3 s = some x → SLe s (S_serinetteref05_Size_l3 x) := by
  intro s x h
  unfold dec_serinetteref05_Size_l3 at h
  · obtain ⟨u, en, h⟩ := bindO_some h
    obtain ⟨u1, e1, h⟩ := bindO_some h
    obtain ⟨d2, e2, h⟩ := bindO_some h
    obtain ⟨x0, e3, h⟩ := bindO_some h
    obtain ⟨d4, e4, h⟩ := bindO_some h
    obtain ⟨x1, e5, h⟩ := bindO_some h
    obtain ⟨p6, e6, h⟩ := bindO_some h
    obtain ⟨q7, e7, h⟩ := bindO_some h
    obtain ⟨d8, e8, h⟩ := bindO_some h
    obtain ⟨x2, e9, h⟩ := bindO_some h
    obtain ⟨q10, e10, h⟩ := bindO_some h
    obtain ⟨d11, e11, h⟩ := bindO_some h
    obtain ⟨x3, e12, h⟩ := bindO_some h
    obtain ⟨q13, e13, h⟩ := bindO_some h
    obtain ⟨d14, e14, h⟩ := bindO_some h
    obtain ⟨x4, e15, h⟩ := bindO_some h
    obtain ⟨q16, e16, h⟩ := bindO_some h
    obtain ⟨d17, e17, h⟩ := bindO_some h
    obtain ⟨x5, e18, h⟩ := bindO_some h
    obtain ⟨q19, e19, h⟩ := bindO_some h
    obtain ⟨d20, e20, h⟩ := bindO_some h
    obtain ⟨x6, e21, h⟩ := bindO_some h
    obtain ⟨q22, e22, h⟩ := bindO_some h
    obtain ⟨d23, e23, h⟩ := bindO_some h
    obtain ⟨x7, e24, h⟩ := bindO_some h
    obtain ⟨q25, e25, h⟩ := bindO_some h
    obtain ⟨d26, e26, h⟩ := bindO_some h
    obtain ⟨x8, e27, h⟩ := bindO_some h
    obtain ⟨q28, e28, h⟩ := bindO_some h
    obtain ⟨d29, e29, h⟩ := bindO_some h
    obtain ⟨x9, e30, h⟩ := bindO_some h
    obtain ⟨q31, e31, h⟩ := bindO_some h
    obtain ⟨d32, e32, h⟩ := bindO_some h
    obtain ⟨x10, e33, h⟩ := bindO_some h
    obtain ⟨q34, e34, h⟩ := bindO_some h
    obtain ⟨d35, e35, h⟩ := bindO_some h
    obtain ⟨x11, e36, h⟩ := bindO_some h
    obtain ⟨q37, e37, h⟩ := bindO_some h
    obtain ⟨d38, e38, h⟩ := bindO_some h
    obtain ⟨x12, e39, h⟩ := bindO_some h
    obtain ⟨u40, e40, h⟩ := bindO_some h
    obtain ⟨u41, e41, h⟩ := bindO_some h
    cases h
    exact ⟨le_mkT _ _ (Le.dead _) ⟨.inr (xP_eq e1), .inr ((xD_eq e2).trans (congrArg VV.dv (xI_eq e3))), .inr ((xD_eq e4).trans (congrArg VV.dv (xI_eq e5))), trivial⟩, (xN_eq en).symm, by rw [xMix_eq e6, xUn_eq e7, xD_eq e8, xS_eq e9, xUn_eq e10, xD_eq e11, xS_eq e12, xUn_eq e13, xD_eq e14, xI_eq e15, xUn_eq e16, xD_eq e17, xI_eq e18, xUn_eq e19, xD_eq e20, xL_eq e21, xUn_eq e22, xD_eq e23, xS_eq e24, xUn_eq e25, xD_eq e26, xI_eq e27, xUn_eq e28, xD_eq e29, xI_eq e30, xUn_eq e31, xD_eq e32, xS_eq e33, xUn_eq e34, xD_eq e35, xS_eq e36, xUn_eq e37, xD_eq e38, xL_eq e39, xEnd_eq e40, xEnd_eq e41]; rfl⟩
noncomputable def B_serinetteref05_Size (f0 : ByteArray → ByteArray → Int → Int → List (List DV) → ByteArray → Int → Int → ByteArray → ByteArray → List (List DV) → KI → Option DV) (a0_0 a0_1 : ByteArray) (a0_2 a0_3 : Int) (a0_4 : List (List DV)) (a0_5 : ByteArray) (a0_6 a0_7 : Int) (a0_8 a0_9 : ByteArray) (a0_10 : List (List DV)) (k : KI) : Option DV :=
  LF (F_serinetteref05_Size_l3 f0) (φ_serinetteref05_Size_l3 (X_serinetteref05_Size_l3.h0 1 0 a0_0 a0_1 a0_2 a0_3 a0_4 a0_5 a0_6 a0_7 a0_8 a0_9 a0_10)) (X_serinetteref05_Size_l3.h0 1 0 a0_0 a0_1 a0_2 a0_3 a0_4 a0_5 a0_6 a0_7 a0_8 a0_9 a0_10) ((fun z14_0 => k z14_0))

noncomputable def KK_serinetteref05_Size (f0 : ByteArray → ByteArray → Int → Int → List (List DV) → ByteArray → Int → Int → ByteArray → ByteArray → List (List DV) → KI → Option DV) (ds : List DV) (k : DV → Option DV) : Option DV :=
  match ds with
  | [.agg [.val (.string a0_0), .val (.string a0_1), .val (.int .i64 a0_2), .val (.int .i64 a0_3), .lst 2 a0_4, .val (.string a0_5), .val (.int .i64 a0_6), .val (.int .i64 a0_7), .val (.string a0_8), .val (.string a0_9), .lst 11 a0_10]] => f0 a0_0 a0_1 a0_2 a0_3 a0_4 a0_5 a0_6 a0_7 a0_8 a0_9 a0_10 (fun r0_0 => k (.val (.int .i64 r0_0)))
  | _ => none

noncomputable def G_serinetteref05_Size (N : Nat) : Nat → (ByteArray → ByteArray → Int → Int → List (List DV) → ByteArray → Int → Int → ByteArray → ByteArray → List (List DV) → KI → Option DV)
  | 0 => (fun _ _ _ _ _ _ _ _ _ _ _ _ => none)
  | n + 1 => (fun a0_0 a0_1 a0_2 a0_3 a0_4 a0_5 a0_6 a0_7 a0_8 a0_9 a0_10 k => B_serinetteref05_Size (G_serinetteref05_Size N n) a0_0 a0_1 a0_2 a0_3 a0_4 a0_5 a0_6 a0_7 a0_8 a0_9 a0_10 k)

noncomputable def serinetteref05_Size_n (N n : Nat) : ByteArray → ByteArray → Int → Int → List (List DV) → ByteArray → Int → Int → ByteArray → ByteArray → List (List DV) → KI → Option DV := (G_serinetteref05_Size N n)
noncomputable def serinetteref05_Size (N : Nat) : ByteArray → ByteArray → Int → Int → List (List DV) → ByteArray → Int → Int → ByteArray → ByteArray → List (List DV) → KI → Option DV := serinetteref05_Size_n N N

theorem q_serinetteref05_Size_l3_h0 (f0 : ByteArray → ByteArray → Int → Int → List (List DV) → ByteArray → Int → Int → ByteArray → ByteArray → List (List DV) → KI → Option DV) (x0 : Int) (x1 : Int) (x2 : ByteArray) (x3 : ByteArray) (x4 : Int) (x5 : Int) (x6 : List (List DV)) (x7 : ByteArray) (x8 : Int) (x9 : Int) (x10 : ByteArray) (x11 : ByteArray) (x12 : List (List DV)) (κn : St → Option DV) (κ : KC) : pev Try.prog (tab [(25, (KK_serinetteref05_Size f0))] []) (ltab [(3, R_serinetteref05_Size_l3 f0)]) [(0, [0]), (0, []), (3, [1, 3, 4]), (100003, [3])] 64 (loopB (bodyOf Try.f25) 0) (S_serinetteref05_Size_l3 (.h0 x0 x1 x2 x3 x4 x5 x6 x7 x8 x9 x10 x11 x12)) (contL 0 [1, 3, 4] [3] κn κ) = F_serinetteref05_Size_l3 f0 (.h0 x0 x1 x2 x3 x4 x5 x6 x7 x8 x9 x10 x11 x12) (fun x => κn (S_serinetteref05_Size_l3 x)) (oc_serinetteref05_Size_l3 κ) := by kernel_rfl

theorem g_serinetteref05_Size_l3 (f0 : ByteArray → ByteArray → Int → Int → List (List DV) → ByteArray → Int → Int → ByteArray → ByteArray → List (List DV) → KI → Option DV) (HK : KGood Try.prog Inv (tab [(25, (KK_serinetteref05_Size f0))] [])) : RGood 0 Try.prog Inv (loopB (bodyOf Try.f25) 0) (R_serinetteref05_Size_l3 f0) :=
  have hL : LGood 0 Try.prog Inv (ltab [(3, R_serinetteref05_Size_l3 f0)]) (loopB (bodyOf Try.f25) 0) := (lgood_of (bs := []) (by kernel_rfl) lgood_nil)
  rgood_dec (body := fun s k => pev Try.prog (tab [(25, (KK_serinetteref05_Size f0))] []) (ltab [(3, R_serinetteref05_Size_l3 f0)]) [(0, [0]), (0, []), (3, [1, 3, 4]), (100003, [3])] 64 (loopB (bodyOf Try.f25) 0) s k) (live := [1, 3, 4]) (out := [3]) (S := S_serinetteref05_Size_l3) (pev_ok mixed HK (ltab [(3, R_serinetteref05_Size_l3 f0)]) [(0, [0]), (0, []), (3, [1, 3, 4]), (100003, [3])] 64 _ hL) (pev_nat HK (ltab [(3, R_serinetteref05_Size_l3 f0)]) [(0, [0]), (0, []), (3, [1, 3, 4]), (100003, [3])] 64 _ hL)
    (fun x κn κ => match x with
      | .h0 _ _ _ _ _ _ _ _ _ _ _ _ _ => q_serinetteref05_Size_l3_h0 f0 _ _ _ _ _ _ _ _ _ _ _ _ _ κn κ
    ) d_serinetteref05_Size_l3 φ_serinetteref05_Size_l3

theorem r_serinetteref05_Size (f0 : ByteArray → ByteArray → Int → Int → List (List DV) → ByteArray → Int → Int → ByteArray → ByteArray → List (List DV) → KI → Option DV) (a0_0 a0_1 : ByteArray) (a0_2 a0_3 : Int) (a0_4 : List (List DV)) (a0_5 : ByteArray) (a0_6 a0_7 : Int) (a0_8 a0_9 : ByteArray) (a0_10 : List (List DV)) (k : DV → Option DV) : B_serinetteref05_Size f0 a0_0 a0_1 a0_2 a0_3 a0_4 a0_5 a0_6 a0_7 a0_8 a0_9 a0_10 (fun r0_0 => k (.val (.int .i64 r0_0))) = pevL Try.prog (tab [(25, (KK_serinetteref05_Size f0))] []) (ltab [(3, R_serinetteref05_Size_l3 f0)]) [(0, [0]), (0, []), (3, [1, 3, 4]), (100003, [3])] 64 Try.f25 (bodyOf Try.f25) [.agg [.val (.string a0_0), .val (.string a0_1), .val (.int .i64 a0_2), .val (.int .i64 a0_3), .lst 2 a0_4, .val (.string a0_5), .val (.int .i64 a0_6), .val (.int .i64 a0_7), .val (.string a0_8), .val (.string a0_9), .lst 11 a0_10]] k := by kernel_rfl

theorem m_G_serinetteref05_Size (N : Nat) : ∀ n, Meets Try.prog Inv 25 (KK_serinetteref05_Size (serinetteref05_Size_n N n))
  | 0 => meets_none (by intro ds k; unfold KK_serinetteref05_Size; split <;> rfl)
  | n + 1 => by
    have ih := m_G_serinetteref05_Size N n
    exact meets_of_pevL mixed stab (kgood stab (tab_cons (ih) (tab_nil _ _)) (tabH_nil _ _)) Try.func25 (by kernel_rfl) (by kernel_rfl) (by
    intro ds; unfold KK_serinetteref05_Size; split
    · exact .inr ⟨(ltab [(3, R_serinetteref05_Size_l3 (serinetteref05_Size_n N n))]), [(0, [0]), (0, []), (3, [1, 3, 4]), (100003, [3])], 64, lgood_of (bs := [loopB (bodyOf Try.f25) 0]) (by kernel_rfl) (lgood_cons (by kernel_rfl) (g_serinetteref05_Size_l3 (serinetteref05_Size_n N n) (kgood stab (tab_cons (ih) (tab_nil _ _)) (tabH_nil _ _))) lgood_nil), fun k => r_serinetteref05_Size (serinetteref05_Size_n N n) _ _ _ _ _ _ _ _ _ _ _ k⟩
    · exact .inl (fun _ => rfl))

theorem m_serinetteref05_Size (N : Nat) : Meets Try.prog Inv 25 (KK_serinetteref05_Size (serinetteref05_Size N)) := (m_G_serinetteref05_Size N N)

inductive X_serinettelaw05_short_l4 where
  | h0 (x0 : List (List DV)) (x1 : Int) (x2 : Int)
def φ_serinettelaw05_short_l4 : X_serinettelaw05_short_l4 → Nat
  | .h0 x0 x1 x2 => Int.toNat (x1 - x2) + 1
noncomputable def S_serinettelaw05_short_l4 : X_serinettelaw05_short_l4 → St
  | .h0 x0 x1 x2 => ⟨mkT [(22, .dv (.lst 11 x0)), (23, .dv (.val (.int .i64 x1))), (24, .dv (.val (.int .i64 x2)))] (.leaf .dead), 32, []⟩

noncomputable def oc_serinettelaw05_short_l4 (k : KC) : KB × (Option DV) := (fun y0 => k .ret ⟨mkT [(2, .dv (.val (.bool y0)))] (.leaf .dead), 32, []⟩, k (.exit 0) ⟨mkT [(2, .dead)] (.leaf .dead), 32, []⟩)

noncomputable def B_serinettelaw05_short_l4_h0 (f0 : ByteArray → ByteArray → Int → Int → List (List DV) → ByteArray → Int → Int → ByteArray → ByteArray → List (List DV) → KB → Option DV) (x0 : List (List DV)) (x1 : Int) (x2 : Int) (κn : X_serinettelaw05_short_l4 → Option DV) (κ0 : KB) (κ1 : Option DV) : Option DV :=
  bx (decide (x2 < x1)) (bx (decide (0 ≤ x2)) (optE (x0[Int.toNat x2]?) (fun e1 => ld_ssiil2siissl11 e1 0 (fun v2 v3 v4 v5 v6 v7 v8 v9 v10 v11 v12 => f0 v2 v3 v4 v5 v6 v7 v8 v9 v10 v11 v12 (fun r13 => bx (!r13) (κ0 false) (κn (X_serinettelaw05_short_l4.h0 x0 x1 (IntKind.wrap .i64 (x2 + 1)))))))) none) κ1

noncomputable def F_serinettelaw05_short_l4 (f0 : ByteArray → ByteArray → Int → Int → List (List DV) → ByteArray → Int → Int → ByteArray → ByteArray → List (List DV) → KB → Option DV) : X_serinettelaw05_short_l4 → (X_serinettelaw05_short_l4 → Option DV) → (KB × (Option DV)) → Option DV
  | .h0 x0 x1 x2, κn, κ => B_serinettelaw05_short_l4_h0 f0 x0 x1 x2 κn κ.1 κ.2

noncomputable def dec_serinettelaw05_short_l4 (s : St) : Option X_serinettelaw05_short_l4 :=
  bindO (xN s.n 32) fun u => bindO (xD (s.tmps.get 22)) fun d1 => bindO (xL 11 d1) fun x0 => bindO (xD (s.tmps.get 23)) fun d3 => bindO (xI .i64 d3) fun x1 => bindO (xD (s.tmps.get 24)) fun d5 => bindO (xI .i64 d5) fun x2 => bindO (xEnd s.heap) fun u7 => some (.h0 x0 x1 x2)

noncomputable def R_serinettelaw05_short_l4 (f0 : ByteArray → ByteArray → Int → Int → List (List DV) → ByteArray → Int → Int → ByteArray → ByteArray → List (List DV) → KB → Option DV) : St → KC → Option DV := decR dec_serinettelaw05_short_l4 (F_serinettelaw05_short_l4 f0) φ_serinettelaw05_short_l4 oc_serinettelaw05_short_l4

theorem d_serinettelaw05_short_l4 : ∀ s x, dec_serinettelaw05_short_l4 s = some x → SLe s (S_serinettelaw05_short_l4 x) := by
  intro s x h
  unfold dec_serinettelaw05_short_l4 at h
  · obtain ⟨u, en, h⟩ := bindO_some h
    obtain ⟨d1, e1, h⟩ := bindO_some h
    obtain ⟨x0, e2, h⟩ := bindO_some h
    obtain ⟨d3, e3, h⟩ := bindO_some h
    obtain ⟨x1, e4, h⟩ := bindO_some h
    obtain ⟨d5, e5, h⟩ := bindO_some h
    obtain ⟨x2, e6, h⟩ := bindO_some h
    obtain ⟨u7, e7, h⟩ := bindO_some h
    cases h
    exact ⟨le_mkT _ _ (Le.dead _) ⟨.inr ((xD_eq e1).trans (congrArg VV.dv (xL_eq e2))), .inr ((xD_eq e3).trans (congrArg VV.dv (xI_eq e4))), .inr ((xD_eq e5).trans (congrArg VV.dv (xI_eq e6))), trivial⟩, (xN_eq en).symm, by rw [xEnd_eq e7]; rfl⟩
noncomputable def B_serinettelaw05_short (f0 : ByteArray → ByteArray → Int → Int → List (List DV) → ByteArray → Int → Int → ByteArray → ByteArray → List (List DV) → KB → Option DV) (a0_0 a0_1 : ByteArray) (a0_2 a0_3 : Int) (a0_4 : List (List DV)) (a0_5 : ByteArray) (a0_6 a0_7 : Int) (a0_8 a0_9 : ByteArray) (a0_10 : List (List DV)) (k : KB) : Option DV :=
  bx (!(decide (((ByteArray.size a0_1 : Nat) : Int) > 100))) (bx (!(decide (((ByteArray.size a0_0 : Nat) : Int) > 100))) (bx (decide (((List.length a0_4 : Nat) : Int) > 300)) (k false) (LF (F_serinettelaw05_short_l4 f0) (φ_serinettelaw05_short_l4 (X_serinettelaw05_short_l4.h0 a0_10 ((List.length a0_10 : Nat) : Int) 0)) (X_serinettelaw05_short_l4.h0 a0_10 ((List.length a0_10 : Nat) : Int) 0) ((fun z14_0 => k z14_0), (k true)))) (k false)) (k false)

noncomputable def KK_serinettelaw05_short (f0 : ByteArray → ByteArray → Int → Int → List (List DV) → ByteArray → Int → Int → ByteArray → ByteArray → List (List DV) → KB → Option DV) (ds : List DV) (k : DV → Option DV) : Option DV :=
  match ds with
  | [.agg [.val (.string a0_0), .val (.string a0_1), .val (.int .i64 a0_2), .val (.int .i64 a0_3), .lst 2 a0_4, .val (.string a0_5), .val (.int .i64 a0_6), .val (.int .i64 a0_7), .val (.string a0_8), .val (.string a0_9), .lst 11 a0_10]] => f0 a0_0 a0_1 a0_2 a0_3 a0_4 a0_5 a0_6 a0_7 a0_8 a0_9 a0_10 (fun r0_0 => k (.val (.bool r0_0)))
  | _ => none

noncomputable def G_serinettelaw05_short (N : Nat) : Nat → (ByteArray → ByteArray → Int → Int → List (List DV) → ByteArray → Int → Int → ByteArray → ByteArray → List (List DV) → KB → Option DV)
  | 0 => (fun _ _ _ _ _ _ _ _ _ _ _ _ => none)
  | n + 1 => (fun a0_0 a0_1 a0_2 a0_3 a0_4 a0_5 a0_6 a0_7 a0_8 a0_9 a0_10 k => B_serinettelaw05_short (G_serinettelaw05_short N n) a0_0 a0_1 a0_2 a0_3 a0_4 a0_5 a0_6 a0_7 a0_8 a0_9 a0_10 k)

noncomputable def serinettelaw05_short_n (N n : Nat) : ByteArray → ByteArray → Int → Int → List (List DV) → ByteArray → Int → Int → ByteArray → ByteArray → List (List DV) → KB → Option DV := (G_serinettelaw05_short N n)
noncomputable def serinettelaw05_short (N : Nat) : ByteArray → ByteArray → Int → Int → List (List DV) → ByteArray → Int → Int → ByteArray → ByteArray → List (List DV) → KB → Option DV := serinettelaw05_short_n N N

theorem q_serinettelaw05_short_l4_h0 (f0 : ByteArray → ByteArray → Int → Int → List (List DV) → ByteArray → Int → Int → ByteArray → ByteArray → List (List DV) → KB → Option DV) (x0 : List (List DV)) (x1 : Int) (x2 : Int) (κn : St → Option DV) (κ : KC) : pev Try.prog (tab [(26, (KK_serinettelaw05_short f0))] []) (ltab [(4, R_serinettelaw05_short_l4 f0)]) [(0, [0]), (0, []), (4, [22, 23, 24]), (100004, [2])] 64 (loopB (bodyOf Try.f26) 0) (S_serinettelaw05_short_l4 (.h0 x0 x1 x2)) (contL 0 [22, 23, 24] [2] κn κ) = F_serinettelaw05_short_l4 f0 (.h0 x0 x1 x2) (fun x => κn (S_serinettelaw05_short_l4 x)) (oc_serinettelaw05_short_l4 κ) := by kernel_rfl

theorem g_serinettelaw05_short_l4 (f0 : ByteArray → ByteArray → Int → Int → List (List DV) → ByteArray → Int → Int → ByteArray → ByteArray → List (List DV) → KB → Option DV) (HK : KGood Try.prog Inv (tab [(26, (KK_serinettelaw05_short f0))] [])) : RGood 0 Try.prog Inv (loopB (bodyOf Try.f26) 0) (R_serinettelaw05_short_l4 f0) :=
  have hL : LGood 0 Try.prog Inv (ltab [(4, R_serinettelaw05_short_l4 f0)]) (loopB (bodyOf Try.f26) 0) := (lgood_of (bs := []) (by kernel_rfl) lgood_nil)
  rgood_dec (body := fun s k => pev Try.prog (tab [(26, (KK_serinettelaw05_short f0))] []) (ltab [(4, R_serinettelaw05_short_l4 f0)]) [(0, [0]), (0, []), (4, [22, 23, 24]), (100004, [2])] 64 (loopB (bodyOf Try.f26) 0) s k) (live := [22, 23, 24]) (out := [2]) (S := S_serinettelaw05_short_l4) (pev_ok mixed HK (ltab [(4, R_serinettelaw05_short_l4 f0)]) [(0, [0]), (0, []), (4, [22, 23, 24]), (100004, [2])] 64 _ hL) (pev_nat HK (ltab [(4, R_serinettelaw05_short_l4 f0)]) [(0, [0]), (0, []), (4, [22, 23, 24]), (100004, [2])] 64 _ hL)
    (fun x κn κ => match x with
      | .h0 _ _ _ => q_serinettelaw05_short_l4_h0 f0 _ _ _ κn κ
    ) d_serinettelaw05_short_l4 φ_serinettelaw05_short_l4

theorem r_serinettelaw05_short (f0 : ByteArray → ByteArray → Int → Int → List (List DV) → ByteArray → Int → Int → ByteArray → ByteArray → List (List DV) → KB → Option DV) (a0_0 a0_1 : ByteArray) (a0_2 a0_3 : Int) (a0_4 : List (List DV)) (a0_5 : ByteArray) (a0_6 a0_7 : Int) (a0_8 a0_9 : ByteArray) (a0_10 : List (List DV)) (k : DV → Option DV) : B_serinettelaw05_short f0 a0_0 a0_1 a0_2 a0_3 a0_4 a0_5 a0_6 a0_7 a0_8 a0_9 a0_10 (fun r0_0 => k (.val (.bool r0_0))) = pevL Try.prog (tab [(26, (KK_serinettelaw05_short f0))] []) (ltab [(4, R_serinettelaw05_short_l4 f0)]) [(0, [0]), (0, []), (4, [22, 23, 24]), (100004, [2])] 64 Try.f26 (bodyOf Try.f26) [.agg [.val (.string a0_0), .val (.string a0_1), .val (.int .i64 a0_2), .val (.int .i64 a0_3), .lst 2 a0_4, .val (.string a0_5), .val (.int .i64 a0_6), .val (.int .i64 a0_7), .val (.string a0_8), .val (.string a0_9), .lst 11 a0_10]] k := by kernel_rfl

theorem m_G_serinettelaw05_short (N : Nat) : ∀ n, Meets Try.prog Inv 26 (KK_serinettelaw05_short (serinettelaw05_short_n N n))
  | 0 => meets_none (by intro ds k; unfold KK_serinettelaw05_short; split <;> rfl)
  | n + 1 => by
    have ih := m_G_serinettelaw05_short N n
    exact meets_of_pevL mixed stab (kgood stab (tab_cons (ih) (tab_nil _ _)) (tabH_nil _ _)) Try.func26 (by kernel_rfl) (by kernel_rfl) (by
    intro ds; unfold KK_serinettelaw05_short; split
    · exact .inr ⟨(ltab [(4, R_serinettelaw05_short_l4 (serinettelaw05_short_n N n))]), [(0, [0]), (0, []), (4, [22, 23, 24]), (100004, [2])], 64, lgood_of (bs := [loopB (bodyOf Try.f26) 0]) (by kernel_rfl) (lgood_cons (by kernel_rfl) (g_serinettelaw05_short_l4 (serinettelaw05_short_n N n) (kgood stab (tab_cons (ih) (tab_nil _ _)) (tabH_nil _ _))) lgood_nil), fun k => r_serinettelaw05_short (serinettelaw05_short_n N n) _ _ _ _ _ _ _ _ _ _ _ k⟩
    · exact .inl (fun _ => rfl))

theorem m_serinettelaw05_short (N : Nat) : Meets Try.prog Inv 26 (KK_serinettelaw05_short (serinettelaw05_short N)) := (m_G_serinettelaw05_short N N)

noncomputable def B_serinettelaw05_few (f0 : ByteArray → ByteArray → Int → Int → List (List DV) → ByteArray → Int → Int → ByteArray → ByteArray → List (List DV) → KB → Option DV) (f1 : ByteArray → ByteArray → Int → Int → List (List DV) → ByteArray → Int → Int → ByteArray → ByteArray → List (List DV) → KI → Option DV) (a0_0 a0_1 : ByteArray) (a0_2 a0_3 : Int) (a0_4 : List (List DV)) (a0_5 : ByteArray) (a0_6 a0_7 : Int) (a0_8 a0_9 : ByteArray) (a0_10 : List (List DV)) (k : KB) : Option DV :=
  f1 a0_0 a0_1 a0_2 a0_3 a0_4 a0_5 a0_6 a0_7 a0_8 a0_9 a0_10 (fun r1 => bx (decide (r1 > 700)) (k false) (f0 a0_0 a0_1 a0_2 a0_3 a0_4 a0_5 a0_6 a0_7 a0_8 a0_9 a0_10 (fun r2 => k r2)))

noncomputable def KK_serinettelaw05_few (f0 : ByteArray → ByteArray → Int → Int → List (List DV) → ByteArray → Int → Int → ByteArray → ByteArray → List (List DV) → KB → Option DV) (ds : List DV) (k : DV → Option DV) : Option DV :=
  match ds with
  | [.agg [.val (.string a0_0), .val (.string a0_1), .val (.int .i64 a0_2), .val (.int .i64 a0_3), .lst 2 a0_4, .val (.string a0_5), .val (.int .i64 a0_6), .val (.int .i64 a0_7), .val (.string a0_8), .val (.string a0_9), .lst 11 a0_10]] => f0 a0_0 a0_1 a0_2 a0_3 a0_4 a0_5 a0_6 a0_7 a0_8 a0_9 a0_10 (fun r0_0 => k (.val (.bool r0_0)))
  | _ => none

noncomputable def serinettelaw05_few (N : Nat) (a0_0 a0_1 : ByteArray) (a0_2 a0_3 : Int) (a0_4 : List (List DV)) (a0_5 : ByteArray) (a0_6 a0_7 : Int) (a0_8 a0_9 : ByteArray) (a0_10 : List (List DV)) (k : KB) : Option DV := B_serinettelaw05_few (serinettelaw05_short N) (serinetteref05_Size N) a0_0 a0_1 a0_2 a0_3 a0_4 a0_5 a0_6 a0_7 a0_8 a0_9 a0_10 k

theorem r_serinettelaw05_few (f0 : ByteArray → ByteArray → Int → Int → List (List DV) → ByteArray → Int → Int → ByteArray → ByteArray → List (List DV) → KB → Option DV) (f1 : ByteArray → ByteArray → Int → Int → List (List DV) → ByteArray → Int → Int → ByteArray → ByteArray → List (List DV) → KI → Option DV) (a0_0 a0_1 : ByteArray) (a0_2 a0_3 : Int) (a0_4 : List (List DV)) (a0_5 : ByteArray) (a0_6 a0_7 : Int) (a0_8 a0_9 : ByteArray) (a0_10 : List (List DV)) (k : DV → Option DV) : B_serinettelaw05_few f0 f1 a0_0 a0_1 a0_2 a0_3 a0_4 a0_5 a0_6 a0_7 a0_8 a0_9 a0_10 (fun r0_0 => k (.val (.bool r0_0))) = pevL Try.prog (tab [(25, (KK_serinetteref05_Size f1)), (26, (KK_serinettelaw05_short f0))] []) noL [] 64 Try.f5 (bodyOf Try.f5) [.agg [.val (.string a0_0), .val (.string a0_1), .val (.int .i64 a0_2), .val (.int .i64 a0_3), .lst 2 a0_4, .val (.string a0_5), .val (.int .i64 a0_6), .val (.int .i64 a0_7), .val (.string a0_8), .val (.string a0_9), .lst 11 a0_10]] k := by kernel_rfl

theorem m_serinettelaw05_few (N : Nat) : Meets Try.prog Inv 5 (KK_serinettelaw05_few (serinettelaw05_few N)) :=
  meets_of_pevL mixed stab (kgood stab (tab_cons (m_serinetteref05_Size N) (tab_cons (m_serinettelaw05_short N) (tab_nil _ _))) (tabH_nil _ _)) Try.func5 (by kernel_rfl) (by kernel_rfl) (by
    intro ds; unfold KK_serinettelaw05_few; split
    · exact .inr ⟨noL, [], 64, LGood.none _ _ _, fun k => r_serinettelaw05_few (serinettelaw05_short N) (serinetteref05_Size N) _ _ _ _ _ _ _ _ _ _ _ k⟩
    · exact .inl (fun _ => rfl))

noncomputable def B_block_Leaf  (a0 : ByteArray) (k : ByteArray → ByteArray → Int → Int → List (List DV) → ByteArray → Int → Int → ByteArray → ByteArray → List (List DV) → Option DV) : Option DV :=
  k a0 (⟨#[]⟩) 0 0 [] (⟨#[]⟩) 0 0 (⟨#[]⟩) (⟨#[]⟩) []

noncomputable def KK_block_Leaf (f0 : ByteArray → (ByteArray → ByteArray → Int → Int → List (List DV) → ByteArray → Int → Int → ByteArray → ByteArray → List (List DV) → Option DV) → Option DV) (ds : List DV) (k : DV → Option DV) : Option DV :=
  match ds with
  | [.val (.string a0)] => f0 a0 (fun r0_0 r0_1 r0_2 r0_3 r0_4 r0_5 r0_6 r0_7 r0_8 r0_9 r0_10 => k (.agg [.val (.string r0_0), .val (.string r0_1), .val (.int .i64 r0_2), .val (.int .i64 r0_3), .lst 2 r0_4, .val (.string r0_5), .val (.int .i64 r0_6), .val (.int .i64 r0_7), .val (.string r0_8), .val (.string r0_9), .lst 11 r0_10]))
  | _ => none

noncomputable def block_Leaf (a0 : ByteArray) (k : ByteArray → ByteArray → Int → Int → List (List DV) → ByteArray → Int → Int → ByteArray → ByteArray → List (List DV) → Option DV) : Option DV := B_block_Leaf  a0 k

theorem r_block_Leaf  (a0 : ByteArray) (k : DV → Option DV) : B_block_Leaf  a0 (fun r0_0 r0_1 r0_2 r0_3 r0_4 r0_5 r0_6 r0_7 r0_8 r0_9 r0_10 => k (.agg [.val (.string r0_0), .val (.string r0_1), .val (.int .i64 r0_2), .val (.int .i64 r0_3), .lst 2 r0_4, .val (.string r0_5), .val (.int .i64 r0_6), .val (.int .i64 r0_7), .val (.string r0_8), .val (.string r0_9), .lst 11 r0_10])) = pevL Try.prog (tab [] []) noL [] 64 Try.f14 (bodyOf Try.f14) [.val (.string a0)] k := by kernel_rfl

theorem m_block_Leaf : Meets Try.prog Inv 14 (KK_block_Leaf block_Leaf) :=
  meets_of_pevL mixed stab (kgood stab (tab_nil _ _) (tabH_nil _ _)) Try.func14 (by kernel_rfl) (by kernel_rfl) (by
    intro ds; unfold KK_block_Leaf; split
    · exact .inr ⟨noL, [], 64, LGood.none _ _ _, fun k => r_block_Leaf  _ k⟩
    · exact .inl (fun _ => rfl))

end Go.Proofs.Ytdfhakhapblhgaa
