import Derived.Test.YtiiddikiaafanaaGreatDoorPka
set_option linter.all false
/-
  Spans that hold, read as plain functions.
-/
namespace Go.Proofs.YtiiddikiaafanaaGreatDoor
open _root_.ByteArray (toList)
open Go.Pv Go.RowKit
noncomputable def B_slices_MaxFunc_serinette_span_end_n4_span_compare (f0 : Int → Int → Int → Int → KI → Option DV) (e f g h c d a b : Int) (k : KQ) : Option DV :=
  f0 g h e f (fun i => bif decide (i > 0) then (f0 c d g h (fun j => bif decide (j > 0) then (f0 a b c d (fun l => bif decide (l > 0) then (k a b) else (k c d))) else (f0 a b g h (fun m => bif decide (m > 0) then (k a b) else (k g h))))) else (f0 c d e f (fun n => bif decide (n > 0) then (f0 a b c d (fun o => bif decide (o > 0) then (k a b) else (k c d))) else (f0 a b e f (fun p => bif decide (p > 0) then (k a b) else (k e f))))))
noncomputable def slices_MaxFunc_serinette_span_end_n4_span_compare (a b c d e f g h : Int) (k : KQ) : Option DV := B_slices_MaxFunc_serinette_span_end_n4_span_compare span_compare a b c d e f g h k

noncomputable def KK_slices_MaxFunc_serinette_span_end (f0 : Int → Int → Int → Int → Int → Int → Int → Int → KQ → Option DV) (ds : List DV) (k : DV → Option DV) : Option DV :=
  match ds with
  | [.lst 2 [[.val (.int .i64 a), .val (.int .i64 b)], [.val (.int .i64 c), .val (.int .i64 d)], [.val (.int .i64 e), .val (.int .i64 f)], [.val (.int .i64 g), .val (.int .i64 h)]], .val (.func (.func 161) ⟨[]⟩ ⟨[]⟩)] => f0 a b c d e f g h (fun i j => k (.val (.agg ⟨[.int .i64 i, .int .i64 j]⟩)))
  | _ => none

theorem r_slices_MaxFunc_serinette_span_end_n4_span_compare (f0 : Int → Int → Int → Int → KI → Option DV) (a b c d e f g h : Int) (k : DV → Option DV) : B_slices_MaxFunc_serinette_span_end_n4_span_compare f0 a b c d e f g h (fun i j => k (.val (.agg ⟨[.int .i64 i, .int .i64 j]⟩))) = pevF Tryz.prog (tab [(161, (KK_span_compare f0))]) [] 64 Tryz.f162 (bodyOf Tryz.f162) [.lst 2 [[.val (.int .i64 a), .val (.int .i64 b)], [.val (.int .i64 c), .val (.int .i64 d)], [.val (.int .i64 e), .val (.int .i64 f)], [.val (.int .i64 g), .val (.int .i64 h)]], .val (.func (.func 161) ⟨[]⟩ ⟨[]⟩)] k := by kernel_rfl

theorem m_slices_MaxFunc_serinette_span_end : Meets Tryz.prog Inv 162 (KK_slices_MaxFunc_serinette_span_end slices_MaxFunc_serinette_span_end_n4_span_compare) :=
  meets_of_pev mixed stab (tab_cons m_span_compare (tab_nil _ _)) Tryz.func162 (by kernel_rfl) (by kernel_rfl) (by
    intro ds; unfold KK_slices_MaxFunc_serinette_span_end; split
    · exact .inr ⟨[], 64, fun k => r_slices_MaxFunc_serinette_span_end_n4_span_compare span_compare _ _ _ _ _ _ _ _ k⟩
    · exact .inl (fun _ => rfl))

noncomputable def B_span_products (f0 : Int → Int → Int → Int → Int → Int → Int → Int → KQ → Option DV) (f1 : Int → Int → Int → Int → Int → Int → Int → Int → KQ → Option DV) (f2 : Int → Int → Int → Int → Int → Int → Int → Int → KB → Option DV) (f3 : Int → Int → Int → Int → KQ → Option DV) (f4 : Int → Int → Int → Int → Int → Bool → Bool → KB → Option DV) (a b c d r : Int) (s t : Bool) (e f g h u : Int) (v w : Bool) (k : KQQ) : Option DV :=
  f4 a b c d r s t (fun x => bif !x then (f4 e f g h u v w (fun y => bif y then (k 0 1 0 1) else (f3 a b e f (fun i j => f3 a b g h (fun l m => f3 c d e f (fun n o => f3 c d g h (fun p q => f2 i j l m n o p q (fun z => bif z then (k 0 0 0 0) else (f1 i j l m n o p q (fun aa ab => f0 i j l m n o p q (fun ac ad => k aa ab ac ad))))))))))) else (k 0 1 0 1))
noncomputable def span_products (a b c d e : Int) (f g : Bool) (h i j l m : Int) (n o : Bool) (k : KQQ) : Option DV := B_span_products slices_MaxFunc_serinette_span_end_n4_span_compare slices_MinFunc_serinette_span_end_n4_span_compare slices_ContainsFunc_serinette_span_end_n4_span_end_isOpen span_times span_isZero a b c d e f g h i j l m n o k

noncomputable def KK_span_products (f0 : Int → Int → Int → Int → Int → Bool → Bool → Int → Int → Int → Int → Int → Bool → Bool → KQQ → Option DV) (ds : List DV) (k : DV → Option DV) : Option DV :=
  match ds with
  | [.val (.agg ⟨[.int .i64 a, .int .i64 b, .int .i64 c, .int .i64 d, .int .i64 e, .bool f, .bool g]⟩), .val (.agg ⟨[.int .i64 h, .int .i64 i, .int .i64 j, .int .i64 l, .int .i64 m, .bool n, .bool o]⟩)] => f0 a b c d e f g h i j l m n o (fun p q r s => k (.val (.tuple ⟨[.agg ⟨[.int .i64 p, .int .i64 q]⟩, .agg ⟨[.int .i64 r, .int .i64 s]⟩]⟩)))
  | _ => none

theorem r_span_products (f0 : Int → Int → Int → Int → Int → Int → Int → Int → KQ → Option DV) (f1 : Int → Int → Int → Int → Int → Int → Int → Int → KQ → Option DV) (f2 : Int → Int → Int → Int → Int → Int → Int → Int → KB → Option DV) (f3 : Int → Int → Int → Int → KQ → Option DV) (f4 : Int → Int → Int → Int → Int → Bool → Bool → KB → Option DV) (a b c d e : Int) (f g : Bool) (h i j l m : Int) (n o : Bool) (k : DV → Option DV) : B_span_products f0 f1 f2 f3 f4 a b c d e f g h i j l m n o (fun p q r s => k (.val (.tuple ⟨[.agg ⟨[.int .i64 p, .int .i64 q]⟩, .agg ⟨[.int .i64 r, .int .i64 s]⟩]⟩))) = pevF Tryz.prog (tab [(70, (KK_span_isZero f4)), (157, (KK_span_times f3)), (158, (KK_slices_ContainsFunc_serinette_span_end f2)), (160, (KK_slices_MinFunc_serinette_span_end f1)), (162, (KK_slices_MaxFunc_serinette_span_end f0))]) [] 64 Tryz.f134 (bodyOf Tryz.f134) [.val (.agg ⟨[.int .i64 a, .int .i64 b, .int .i64 c, .int .i64 d, .int .i64 e, .bool f, .bool g]⟩), .val (.agg ⟨[.int .i64 h, .int .i64 i, .int .i64 j, .int .i64 l, .int .i64 m, .bool n, .bool o]⟩)] k := by kernel_rfl

theorem m_span_products : Meets Tryz.prog Inv 134 (KK_span_products span_products) :=
  meets_of_pev mixed stab (tab_cons m_span_isZero (tab_cons m_span_times (tab_cons m_slices_ContainsFunc_serinette_span_end (tab_cons m_slices_MinFunc_serinette_span_end (tab_cons m_slices_MaxFunc_serinette_span_end (tab_nil _ _)))))) Tryz.func134 (by kernel_rfl) (by kernel_rfl) (by
    intro ds; unfold KK_span_products; split
    · exact .inr ⟨[], 64, fun k => r_span_products slices_MaxFunc_serinette_span_end_n4_span_compare slices_MinFunc_serinette_span_end_n4_span_compare slices_ContainsFunc_serinette_span_end_n4_span_end_isOpen span_times span_isZero _ _ _ _ _ _ _ _ _ _ _ _ _ _ k⟩
    · exact .inl (fun _ => rfl))

noncomputable def B_span_product (f0 : Int → Int → Int → Int → Int → KS → Option DV) (f1 : Int → KI → Option DV) (f2 : Int → Int → Int → Int → Int → Bool → Bool → Int → Int → Int → Int → Int → Bool → Bool → KQQ → Option DV) (c d e f a : Int) (g h : Bool) (i j l m b : Int) (n o : Bool) (k : KS) : Option DV :=
  f2 c d e f a g h i j l m b n o (fun p q r s => f1 (IntKind.wrap .i64 (a * b)) (fun t => f0 p q r s t (fun u v w x y z aa => k u v w x y z aa)))
noncomputable def span_product (a b c d e : Int) (f g : Bool) (h i j l m : Int) (n o : Bool) (k : KS) : Option DV := B_span_product span_closed span_bounded span_products a b c d e f g h i j l m n o k

noncomputable def KK_span_product (f0 : Int → Int → Int → Int → Int → Bool → Bool → Int → Int → Int → Int → Int → Bool → Bool → KS → Option DV) (ds : List DV) (k : DV → Option DV) : Option DV :=
  match ds with
  | [.val (.agg ⟨[.int .i64 a, .int .i64 b, .int .i64 c, .int .i64 d, .int .i64 e, .bool f, .bool g]⟩), .val (.agg ⟨[.int .i64 h, .int .i64 i, .int .i64 j, .int .i64 l, .int .i64 m, .bool n, .bool o]⟩)] => f0 a b c d e f g h i j l m n o (fun p q r s t u v => k (.val (.agg ⟨[.int .i64 p, .int .i64 q, .int .i64 r, .int .i64 s, .int .i64 t, .bool u, .bool v]⟩)))
  | _ => none

theorem r_span_product (f0 : Int → Int → Int → Int → Int → KS → Option DV) (f1 : Int → KI → Option DV) (f2 : Int → Int → Int → Int → Int → Bool → Bool → Int → Int → Int → Int → Int → Bool → Bool → KQQ → Option DV) (a b c d e : Int) (f g : Bool) (h i j l m : Int) (n o : Bool) (k : DV → Option DV) : B_span_product f0 f1 f2 a b c d e f g h i j l m n o (fun p q r s t u v => k (.val (.agg ⟨[.int .i64 p, .int .i64 q, .int .i64 r, .int .i64 s, .int .i64 t, .bool u, .bool v]⟩))) = pevF Tryz.prog (tab [(125, (KK_span_bounded f1)), (132, (KK_span_closed f0)), (134, (KK_span_products f2))]) [] 64 Tryz.f106 (bodyOf Tryz.f106) [.val (.agg ⟨[.int .i64 a, .int .i64 b, .int .i64 c, .int .i64 d, .int .i64 e, .bool f, .bool g]⟩), .val (.agg ⟨[.int .i64 h, .int .i64 i, .int .i64 j, .int .i64 l, .int .i64 m, .bool n, .bool o]⟩)] k := by kernel_rfl

theorem m_span_product : Meets Tryz.prog Inv 106 (KK_span_product span_product) :=
  meets_of_pev mixed stab (tab_cons m_span_bounded (tab_cons m_span_closed (tab_cons m_span_products (tab_nil _ _)))) Tryz.func106 (by kernel_rfl) (by kernel_rfl) (by
    intro ds; unfold KK_span_product; split
    · exact .inr ⟨[], 64, fun k => r_span_product span_closed span_bounded span_products _ _ _ _ _ _ _ _ _ _ _ _ _ _ k⟩
    · exact .inl (fun _ => rfl))

noncomputable def B_span_quotient (f0 : KS → Option DV) (f1 : Int → Int → Int → Int → Int → Bool → Bool → Int → Int → Int → Int → Int → Bool → Bool → KS → Option DV) (f2 : Int → Int → KS → Option DV) (f3 : Int → Int → Int → Int → KQ → Option DV) (f4 : KQ → Option DV) (f5 : Int → Int → Int → Int → Int → Bool → Bool → KB → Option DV) (f6 : Int → Int → Int → Int → Int → Bool → Bool → KB → Option DV) (h i j l m : Int) (n o : Bool) (a b c d e : Int) (f g : Bool) (k : KS) : Option DV :=
  f6 a b c d e f g (fun p => bif !(!p) then (f5 a b c d e f g (fun q => bif q then (f0  (fun r s t u v w x => k r s t u v w x)) else (f4  (fun y z => f3 y z a b (fun aa ab => f2 aa ab (fun ac ad ae af ag ah ai => f1 h i j l m n o ac ad ae af ag ah ai (fun aj al am an ao ap aq => k aj al am an ao ap aq))))))) else (f0  (fun ar au av aw ax ay az => k ar au av aw ax ay az)))
noncomputable def span_quotient (a b c d e : Int) (f g : Bool) (h i j l m : Int) (n o : Bool) (k : KS) : Option DV := B_span_quotient span_All span_product span_Point ratio_Div span_one span_isZero span_isPoint a b c d e f g h i j l m n o k

noncomputable def KK_span_quotient (f0 : Int → Int → Int → Int → Int → Bool → Bool → Int → Int → Int → Int → Int → Bool → Bool → KS → Option DV) (ds : List DV) (k : DV → Option DV) : Option DV :=
  match ds with
  | [.val (.agg ⟨[.int .i64 a, .int .i64 b, .int .i64 c, .int .i64 d, .int .i64 e, .bool f, .bool g]⟩), .val (.agg ⟨[.int .i64 h, .int .i64 i, .int .i64 j, .int .i64 l, .int .i64 m, .bool n, .bool o]⟩)] => f0 a b c d e f g h i j l m n o (fun p q r s t u v => k (.val (.agg ⟨[.int .i64 p, .int .i64 q, .int .i64 r, .int .i64 s, .int .i64 t, .bool u, .bool v]⟩)))
  | _ => none

theorem r_span_quotient (f0 : KS → Option DV) (f1 : Int → Int → Int → Int → Int → Bool → Bool → Int → Int → Int → Int → Int → Bool → Bool → KS → Option DV) (f2 : Int → Int → KS → Option DV) (f3 : Int → Int → Int → Int → KQ → Option DV) (f4 : KQ → Option DV) (f5 : Int → Int → Int → Int → Int → Bool → Bool → KB → Option DV) (f6 : Int → Int → Int → Int → Int → Bool → Bool → KB → Option DV) (a b c d e : Int) (f g : Bool) (h i j l m : Int) (n o : Bool) (k : DV → Option DV) : B_span_quotient f0 f1 f2 f3 f4 f5 f6 a b c d e f g h i j l m n o (fun p q r s t u v => k (.val (.agg ⟨[.int .i64 p, .int .i64 q, .int .i64 r, .int .i64 s, .int .i64 t, .bool u, .bool v]⟩))) = pevF Tryz.prog (tab [(62, (KK_span_All f0)), (70, (KK_span_isZero f5)), (95, (KK_span_isPoint f6)), (106, (KK_span_product f1)), (129, (KK_span_Point f2)), (130, (KK_span_one f4)), (135, (KK_ratio_Div f3))]) [] 64 Tryz.f107 (bodyOf Tryz.f107) [.val (.agg ⟨[.int .i64 a, .int .i64 b, .int .i64 c, .int .i64 d, .int .i64 e, .bool f, .bool g]⟩), .val (.agg ⟨[.int .i64 h, .int .i64 i, .int .i64 j, .int .i64 l, .int .i64 m, .bool n, .bool o]⟩)] k := by kernel_rfl

theorem m_span_quotient : Meets Tryz.prog Inv 107 (KK_span_quotient span_quotient) :=
  meets_of_pev mixed stab (tab_cons m_span_All (tab_cons m_span_isZero (tab_cons m_span_isPoint (tab_cons m_span_product (tab_cons m_span_Point (tab_cons m_span_one (tab_cons m_ratio_Div (tab_nil _ _)))))))) Tryz.func107 (by kernel_rfl) (by kernel_rfl) (by
    intro ds; unfold KK_span_quotient; split
    · exact .inr ⟨[], 64, fun k => r_span_quotient span_All span_product span_Point ratio_Div span_one span_isZero span_isPoint _ _ _ _ _ _ _ _ _ _ _ _ _ _ k⟩
    · exact .inl (fun _ => rfl))

noncomputable def B_span_exactly  (a b : Int) (k : KQ) : Option DV :=
  k a b
noncomputable def span_exactly (a b : Int) (k : KQ) : Option DV := B_span_exactly  a b k

noncomputable def KK_span_exactly (f0 : Int → Int → KQ → Option DV) (ds : List DV) (k : DV → Option DV) : Option DV :=
  match ds with
  | [.val (.agg ⟨[.int .i64 a, .int .i64 b]⟩)] => f0 a b (fun c d => k (.val (.agg ⟨[.int .i64 c, .int .i64 d]⟩)))
  | _ => none

theorem r_span_exactly  (a b : Int) (k : DV → Option DV) : B_span_exactly  a b (fun c d => k (.val (.agg ⟨[.int .i64 c, .int .i64 d]⟩))) = pevF Tryz.prog (tab []) [] 64 Tryz.f136 (bodyOf Tryz.f136) [.val (.agg ⟨[.int .i64 a, .int .i64 b]⟩)] k := by kernel_rfl

theorem m_span_exactly : Meets Tryz.prog Inv 136 (KK_span_exactly span_exactly) :=
  meets_of_pev mixed stab (tab_nil _ _) Tryz.func136 (by kernel_rfl) (by kernel_rfl) (by
    intro ds; unfold KK_span_exactly; split
    · exact .inr ⟨[], 64, fun k => r_span_exactly  _ _ k⟩
    · exact .inl (fun _ => rfl))

noncomputable def B_span_modulo (f0 : KS → Option DV) (f1 : Int → Int → Int → Int → Int → KS → Option DV) (f2 : Int → Int → KI → Option DV) (f3 : Int → Int → KQ → Option DV) (f4 : KQ → Option DV) (ab ac ad ae a : Int) (af ag : Bool) (b ah c d e : Int) (ai aj : Bool) (k : KS) : Option DV :=
  bif decide (b ≤ 0) then (f0  (fun f g h i j l m => k f g h i j l m)) else (f4  (fun n o => f3 n o (fun p q => f3 c d (fun r s => f2 a e (fun t => f1 p q r s t (fun u v w x y z aa => k u v w x y z aa))))))
noncomputable def span_modulo (a b c d e : Int) (f g : Bool) (h i j l m : Int) (n o : Bool) (k : KS) : Option DV := B_span_modulo span_All span_closed span_lowestCommon span_exactly span_zero a b c d e f g h i j l m n o k

noncomputable def KK_span_modulo (f0 : Int → Int → Int → Int → Int → Bool → Bool → Int → Int → Int → Int → Int → Bool → Bool → KS → Option DV) (ds : List DV) (k : DV → Option DV) : Option DV :=
  match ds with
  | [.val (.agg ⟨[.int .i64 a, .int .i64 b, .int .i64 c, .int .i64 d, .int .i64 e, .bool f, .bool g]⟩), .val (.agg ⟨[.int .i64 h, .int .i64 i, .int .i64 j, .int .i64 l, .int .i64 m, .bool n, .bool o]⟩)] => f0 a b c d e f g h i j l m n o (fun p q r s t u v => k (.val (.agg ⟨[.int .i64 p, .int .i64 q, .int .i64 r, .int .i64 s, .int .i64 t, .bool u, .bool v]⟩)))
  | _ => none

theorem r_span_modulo (f0 : KS → Option DV) (f1 : Int → Int → Int → Int → Int → KS → Option DV) (f2 : Int → Int → KI → Option DV) (f3 : Int → Int → KQ → Option DV) (f4 : KQ → Option DV) (a b c d e : Int) (f g : Bool) (h i j l m : Int) (n o : Bool) (k : DV → Option DV) : B_span_modulo f0 f1 f2 f3 f4 a b c d e f g h i j l m n o (fun p q r s t u v => k (.val (.agg ⟨[.int .i64 p, .int .i64 q, .int .i64 r, .int .i64 s, .int .i64 t, .bool u, .bool v]⟩))) = pevF Tryz.prog (tab [(98, (KK_span_lowestCommon f2)), (62, (KK_span_All f0)), (69, (KK_span_zero f4)), (132, (KK_span_closed f1)), (136, (KK_span_exactly f3))]) [] 64 Tryz.f108 (bodyOf Tryz.f108) [.val (.agg ⟨[.int .i64 a, .int .i64 b, .int .i64 c, .int .i64 d, .int .i64 e, .bool f, .bool g]⟩), .val (.agg ⟨[.int .i64 h, .int .i64 i, .int .i64 j, .int .i64 l, .int .i64 m, .bool n, .bool o]⟩)] k := by kernel_rfl

theorem m_span_modulo : Meets Tryz.prog Inv 108 (KK_span_modulo span_modulo) :=
  meets_of_pev mixed stab (tab_cons m_span_lowestCommon (tab_cons m_span_All (tab_cons m_span_zero (tab_cons m_span_closed (tab_cons m_span_exactly (tab_nil _ _)))))) Tryz.func108 (by kernel_rfl) (by kernel_rfl) (by
    intro ds; unfold KK_span_modulo; split
    · exact .inr ⟨[], 64, fun k => r_span_modulo span_All span_closed span_lowestCommon span_exactly span_zero _ _ _ _ _ _ _ _ _ _ _ _ _ _ k⟩
    · exact .inl (fun _ => rfl))

noncomputable def B_span_truths (f0 : KS → Option DV) (f1 : Int → Int → KS → Option DV) (f2 : KQ → Option DV) (f3 : KQ → Option DV) (f4 : ByteArray → Int → Int → Int → Int → KQ → Option DV) (f5 : Int → Int → Int → Int → Int → Bool → Bool → KB → Option DV) (a : ByteArray) (b c d e j : Int) (l m : Bool) (f g h i n : Int) (o p : Bool) (k : KS) : Option DV :=
  bif !(toList a == toList (⟨#[101, 113]⟩)) then (bif (toList a == toList (⟨#[110, 101]⟩)) then (f5 b c d e j l m (fun q => bif q then (f5 f g h i n o p (fun r => bif !r then (f0  (fun s t u v w x y => k s t u v w x y)) else (f4 a d e f g (fun z aa => f2  (fun ab ac => bif ((z == ab) && ((aa == ac) && true)) then (f2  (fun ad ae => f1 ad ae (fun af ag ah ai aj al am => k af ag ah ai aj al am))) else (f4 a b c h i (fun an ao => f3  (fun ap aq => bif ((an == ap) && ((ao == aq) && true)) then (f3  (fun ar au => f1 ar au (fun av aw ax ay az ba bb => k av aw ax ay az ba bb))) else (f0  (fun bc bd be bf bg bh bi => k bc bd be bf bg bh bi)))))))))) else (f0  (fun bj bl bm bn bo bp bq => k bj bl bm bn bo bp bq)))) else (f4 a d e f g (fun br bs => f2  (fun bt bu => bif ((br == bt) && ((bs == bu) && true)) then (f2  (fun bv bw => f1 bv bw (fun bx bz ca cb cc cd ce => k bx bz ca cb cc cd ce))) else (f4 a b c h i (fun cf cg => f3  (fun ch ci => bif ((cf == ch) && ((cg == ci) && true)) then (f3  (fun cj cl => f1 cj cl (fun cm cn co cp cq cr cs => k cm cn co cp cq cr cs))) else (f0  (fun ct cu cv cw cx cy cz => k ct cu cv cw cx cy cz))))))))) else (f5 b c d e j l m (fun da => bif da then (f5 f g h i n o p (fun db => bif !db then (f0  (fun dc dd de df dg dh di => k dc dd de df dg dh di)) else (f4 a d e f g (fun dj dl => f2  (fun dm dn => bif ((dj == dm) && ((dl == dn) && true)) then (f2  (fun dp dq => f1 dp dq (fun dr ds dt du dv dw dx => k dr ds dt du dv dw dx))) else (f4 a b c h i (fun dy dz => f3  (fun ea eb => bif ((dy == ea) && ((dz == eb) && true)) then (f3  (fun ec ed => f1 ec ed (fun ee ef eg eh ei ej el => k ee ef eg eh ei ej el))) else (f0  (fun em en eo ep eq er es => k em en eo ep eq er es)))))))))) else (f0  (fun et eu ev ew ex ey ez => k et eu ev ew ex ey ez))))
noncomputable def span_truths (a : ByteArray) (b c d e f : Int) (g h : Bool) (i j l m n : Int) (o p : Bool) (k : KS) : Option DV := B_span_truths span_either span_Point span_one span_zero ratio_Test span_isPoint a b c d e f g h i j l m n o p k

noncomputable def KK_span_truths (f0 : ByteArray → Int → Int → Int → Int → Int → Bool → Bool → Int → Int → Int → Int → Int → Bool → Bool → KS → Option DV) (ds : List DV) (k : DV → Option DV) : Option DV :=
  match ds with
  | [.val (.string a), .val (.agg ⟨[.int .i64 b, .int .i64 c, .int .i64 d, .int .i64 e, .int .i64 f, .bool g, .bool h]⟩), .val (.agg ⟨[.int .i64 i, .int .i64 j, .int .i64 l, .int .i64 m, .int .i64 n, .bool o, .bool p]⟩)] => f0 a b c d e f g h i j l m n o p (fun q r s t u v w => k (.val (.agg ⟨[.int .i64 q, .int .i64 r, .int .i64 s, .int .i64 t, .int .i64 u, .bool v, .bool w]⟩)))
  | _ => none

theorem r_span_truths (f0 : KS → Option DV) (f1 : Int → Int → KS → Option DV) (f2 : KQ → Option DV) (f3 : KQ → Option DV) (f4 : ByteArray → Int → Int → Int → Int → KQ → Option DV) (f5 : Int → Int → Int → Int → Int → Bool → Bool → KB → Option DV) (a : ByteArray) (b c d e f : Int) (g h : Bool) (i j l m n : Int) (o p : Bool) (k : DV → Option DV) : B_span_truths f0 f1 f2 f3 f4 f5 a b c d e f g h i j l m n o p (fun q r s t u v w => k (.val (.agg ⟨[.int .i64 q, .int .i64 r, .int .i64 s, .int .i64 t, .int .i64 u, .bool v, .bool w]⟩))) = pevF Tryz.prog (tab [(69, (KK_span_zero f3)), (95, (KK_span_isPoint f5)), (129, (KK_span_Point f1)), (130, (KK_span_one f2)), (131, (KK_span_either f0)), (137, (KK_ratio_Test f4))]) [] 64 Tryz.f110 (bodyOf Tryz.f110) [.val (.string a), .val (.agg ⟨[.int .i64 b, .int .i64 c, .int .i64 d, .int .i64 e, .int .i64 f, .bool g, .bool h]⟩), .val (.agg ⟨[.int .i64 i, .int .i64 j, .int .i64 l, .int .i64 m, .int .i64 n, .bool o, .bool p]⟩)] k := by kernel_rfl

theorem m_span_truths : Meets Tryz.prog Inv 110 (KK_span_truths span_truths) :=
  meets_of_pev mixed stab (tab_cons m_span_zero (tab_cons m_span_isPoint (tab_cons m_span_Point (tab_cons m_span_one (tab_cons m_span_either (tab_cons m_ratio_Test (tab_nil _ _))))))) Tryz.func110 (by kernel_rfl) (by kernel_rfl) (by
    intro ds; unfold KK_span_truths; split
    · exact .inr ⟨[], 64, fun k => r_span_truths span_either span_Point span_one span_zero ratio_Test span_isPoint _ _ _ _ _ _ _ _ _ _ _ _ _ _ _ k⟩
    · exact .inl (fun _ => rfl))

noncomputable def B_span_isCount (f0 : Int → Int → KB → Option DV) (a b c d e : Int) (h i : Bool) (k : KB) : Option DV :=
  bif e == 1 then (f0 a b (fun f => bif !f then (bif decide (a ≥ 0) then (f0 c d (fun g => k (!g))) else (k false)) else (k false))) else (k false)
noncomputable def span_isCount (a b c d e : Int) (f g : Bool) (k : KB) : Option DV := B_span_isCount span_isOpen a b c d e f g k

noncomputable def KK_span_isCount (f0 : Int → Int → Int → Int → Int → Bool → Bool → KB → Option DV) (ds : List DV) (k : DV → Option DV) : Option DV :=
  match ds with
  | [.val (.agg ⟨[.int .i64 a, .int .i64 b, .int .i64 c, .int .i64 d, .int .i64 e, .bool f, .bool g]⟩)] => f0 a b c d e f g (fun h => k (.val (.bool h)))
  | _ => none

theorem r_span_isCount (f0 : Int → Int → KB → Option DV) (a b c d e : Int) (f g : Bool) (k : DV → Option DV) : B_span_isCount f0 a b c d e f g (fun h => k (.val (.bool h))) = pevF Tryz.prog (tab [(26, (KK_span_isOpen f0))]) [] 64 Tryz.f138 (bodyOf Tryz.f138) [.val (.agg ⟨[.int .i64 a, .int .i64 b, .int .i64 c, .int .i64 d, .int .i64 e, .bool f, .bool g]⟩)] k := by kernel_rfl

theorem m_span_isCount : Meets Tryz.prog Inv 138 (KK_span_isCount span_isCount) :=
  meets_of_pev mixed stab (tab_cons m_span_isOpen (tab_nil _ _)) Tryz.func138 (by kernel_rfl) (by kernel_rfl) (by
    intro ds; unfold KK_span_isCount; split
    · exact .inr ⟨[], 64, fun k => r_span_isCount span_isOpen _ _ _ _ _ _ _ k⟩
    · exact .inl (fun _ => rfl))

noncomputable def B_span_ones (f0 : Int → Int → Int → Int → KI → Option DV) (f1 : Int → Int → KQ → Option DV) (a b : Int) (k : KQ) : Option DV :=
  f1 a b (fun c d => f0 0 1 c d (fun e => bif decide (e < 0) then (f1 a b (fun f g => f0 1 1 f g (fun h => bif decide (h < 0) then (f1 a b (fun i j => f0 3 1 i j (fun l => bif decide (l < 0) then (f1 a b (fun m n => f0 7 1 m n (fun o => bif decide (o < 0) then (f1 a b (fun p q => f0 15 1 p q (fun r => bif decide (r < 0) then (f1 a b (fun s t => f0 31 1 s t (fun u => bif decide (u < 0) then (f1 a b (fun v w => f0 63 1 v w (fun x => bif decide (x < 0) then (f1 a b (fun y z => f0 127 1 y z (fun aa => bif decide (aa < 0) then (f1 a b (fun ab ac => f0 255 1 ab ac (fun ad => bif decide (ad < 0) then (f1 a b (fun ae af => f0 511 1 ae af (fun ag => bif decide (ag < 0) then (f1 a b (fun ah ai => f0 1023 1 ah ai (fun aj => bif decide (aj < 0) then (f1 a b (fun al am => f0 2047 1 al am (fun an => bif decide (an < 0) then (f1 a b (fun ao ap => f0 4095 1 ao ap (fun aq => bif decide (aq < 0) then (f1 a b (fun ar au => f0 8191 1 ar au (fun av => bif decide (av < 0) then (f1 a b (fun aw ax => f0 16383 1 aw ax (fun ay => bif decide (ay < 0) then (f1 a b (fun az ba => f0 32767 1 az ba (fun bb => bif decide (bb < 0) then (f1 a b (fun bc bd => f0 65535 1 bc bd (fun be => bif decide (be < 0) then (f1 a b (fun bf bg => f0 131071 1 bf bg (fun bh => bif decide (bh < 0) then (f1 a b (fun bi bj => f0 262143 1 bi bj (fun bl => bif decide (bl < 0) then (f1 a b (fun bm bn => f0 524287 1 bm bn (fun bo => bif decide (bo < 0) then (f1 a b (fun bp bq => f0 1048575 1 bp bq (fun br => bif decide (br < 0) then (f1 a b (fun bs bt => f0 2097151 1 bs bt (fun bu => bif decide (bu < 0) then (f1 a b (fun bv bw => f0 4194303 1 bv bw (fun bx => bif decide (bx < 0) then (f1 a b (fun bz ca => f0 8388607 1 bz ca (fun cb => bif decide (cb < 0) then (f1 a b (fun cc cd => f0 16777215 1 cc cd (fun ce => bif decide (ce < 0) then (f1 a b (fun cf cg => f0 33554431 1 cf cg (fun ch => bif decide (ch < 0) then (f1 a b (fun ci cj => f0 67108863 1 ci cj (fun cl => bif decide (cl < 0) then (f1 a b (fun cm cn => f0 134217727 1 cm cn (fun co => bif decide (co < 0) then (f1 a b (fun cp cq => f0 268435455 1 cp cq (fun cr => bif decide (cr < 0) then (f1 a b (fun cs ct => f0 536870911 1 cs ct (fun cu => bif decide (cu < 0) then (f1 a b (fun cv cw => f0 1073741823 1 cv cw (fun cx => bif decide (cx < 0) then (f1 a b (fun cy cz => f0 2147483647 1 cy cz (fun da => bif decide (da < 0) then (f1 a b (fun db dc => f0 4294967295 1 db dc (fun dd => bif decide (dd < 0) then (f1 a b (fun de df => f0 8589934591 1 de df (fun dg => bif decide (dg < 0) then none else (k 8589934591 1)))) else (k 4294967295 1)))) else (k 2147483647 1)))) else (k 1073741823 1)))) else (k 536870911 1)))) else (k 268435455 1)))) else (k 134217727 1)))) else (k 67108863 1)))) else (k 33554431 1)))) else (k 16777215 1)))) else (k 8388607 1)))) else (k 4194303 1)))) else (k 2097151 1)))) else (k 1048575 1)))) else (k 524287 1)))) else (k 262143 1)))) else (k 131071 1)))) else (k 65535 1)))) else (k 32767 1)))) else (k 16383 1)))) else (k 8191 1)))) else (k 4095 1)))) else (k 2047 1)))) else (k 1023 1)))) else (k 511 1)))) else (k 255 1)))) else (k 127 1)))) else (k 63 1)))) else (k 31 1)))) else (k 15 1)))) else (k 7 1)))) else (k 3 1)))) else (k 1 1)))) else (k 0 1)))
noncomputable def span_ones (a b : Int) (k : KQ) : Option DV := B_span_ones span_compare span_exactly a b k

noncomputable def KK_span_ones (f0 : Int → Int → KQ → Option DV) (ds : List DV) (k : DV → Option DV) : Option DV :=
  match ds with
  | [.val (.agg ⟨[.int .i64 a, .int .i64 b]⟩)] => f0 a b (fun c d => k (.val (.agg ⟨[.int .i64 c, .int .i64 d]⟩)))
  | _ => none

theorem r_span_ones (f0 : Int → Int → Int → Int → KI → Option DV) (f1 : Int → Int → KQ → Option DV) (a b : Int) (k : DV → Option DV) : B_span_ones f0 f1 a b (fun c d => k (.val (.agg ⟨[.int .i64 c, .int .i64 d]⟩))) = pevF Tryz.prog (tab [(136, (KK_span_exactly f1)), (161, (KK_span_compare f0))]) [] 34 Tryz.f139 (bodyOf Tryz.f139) [.val (.agg ⟨[.int .i64 a, .int .i64 b]⟩)] k := by kernel_rfl

theorem m_span_ones : Meets Tryz.prog Inv 139 (KK_span_ones span_ones) :=
  meets_of_pev mixed stab (tab_cons m_span_exactly (tab_cons m_span_compare (tab_nil _ _))) Tryz.func139 (by kernel_rfl) (by kernel_rfl) (by
    intro ds; unfold KK_span_ones; split
    · exact .inr ⟨[], 34, fun k => r_span_ones span_compare span_exactly _ _ k⟩
    · exact .inl (fun _ => rfl))

noncomputable def B_span_digits (f0 : KS → Option DV) (f1 : Int → Int → Int → Int → Int → KS → Option DV) (f2 : Int → Int → KQ → Option DV) (f3 : KQ → Option DV) (f4 : Int → Int → KQ → Option DV) (f5 : Int → Int → Int → Int → KQ → Option DV) (f6 : Int → Int → Int → Int → KQ → Option DV) (f7 : Int → Int → Int → Int → Int → Bool → Bool → KB → Option DV) (e : ByteArray) (f g a b h : Int) (i j : Bool) (l m c d n : Int) (o p : Bool) (k : KS) : Option DV :=
  f7 f g a b h i j (fun q => bif !(!q) then (f7 l m c d n o p (fun r => bif !r then (f0  (fun s t u v w x y => k s t u v w x y)) else (f6 a b c d (fun z aa => f2 z aa (fun ab ac => bif !(toList e == toList (⟨#[97, 110, 100]⟩)) then (f5 a b c d (fun ad ae => f4 ad ae (fun af ag => f3  (fun ah ai => f2 ah ai (fun aj al => f1 aj al af ag 1 (fun am an ao ap aq ar au => k am an ao ap aq ar au)))))) else (f3  (fun av aw => f2 av aw (fun ax ay => f1 ax ay ab ac 1 (fun az ba bb bc bd be bf => k az ba bb bc bd be bf))))))))) else (f0  (fun bg bh bi bj bl bm bn => k bg bh bi bj bl bm bn)))
noncomputable def span_digits (a : ByteArray) (b c d e f : Int) (g h : Bool) (i j l m n : Int) (o p : Bool) (k : KS) : Option DV := B_span_digits span_All span_closed span_exactly span_zero span_ones ratio_Max ratio_Min span_isCount a b c d e f g h i j l m n o p k

noncomputable def KK_span_digits (f0 : ByteArray → Int → Int → Int → Int → Int → Bool → Bool → Int → Int → Int → Int → Int → Bool → Bool → KS → Option DV) (ds : List DV) (k : DV → Option DV) : Option DV :=
  match ds with
  | [.val (.string a), .val (.agg ⟨[.int .i64 b, .int .i64 c, .int .i64 d, .int .i64 e, .int .i64 f, .bool g, .bool h]⟩), .val (.agg ⟨[.int .i64 i, .int .i64 j, .int .i64 l, .int .i64 m, .int .i64 n, .bool o, .bool p]⟩)] => f0 a b c d e f g h i j l m n o p (fun q r s t u v w => k (.val (.agg ⟨[.int .i64 q, .int .i64 r, .int .i64 s, .int .i64 t, .int .i64 u, .bool v, .bool w]⟩)))
  | _ => none

theorem r_span_digits (f0 : KS → Option DV) (f1 : Int → Int → Int → Int → Int → KS → Option DV) (f2 : Int → Int → KQ → Option DV) (f3 : KQ → Option DV) (f4 : Int → Int → KQ → Option DV) (f5 : Int → Int → Int → Int → KQ → Option DV) (f6 : Int → Int → Int → Int → KQ → Option DV) (f7 : Int → Int → Int → Int → Int → Bool → Bool → KB → Option DV) (a : ByteArray) (b c d e f : Int) (g h : Bool) (i j l m n : Int) (o p : Bool) (k : DV → Option DV) : B_span_digits f0 f1 f2 f3 f4 f5 f6 f7 a b c d e f g h i j l m n o p (fun q r s t u v w => k (.val (.agg ⟨[.int .i64 q, .int .i64 r, .int .i64 s, .int .i64 t, .int .i64 u, .bool v, .bool w]⟩))) = pevF Tryz.prog (tab [(96, (KK_ratio_Min f6)), (97, (KK_ratio_Max f5)), (62, (KK_span_All f0)), (69, (KK_span_zero f3)), (132, (KK_span_closed f1)), (136, (KK_span_exactly f2)), (138, (KK_span_isCount f7)), (139, (KK_span_ones f4))]) [] 64 Tryz.f111 (bodyOf Tryz.f111) [.val (.string a), .val (.agg ⟨[.int .i64 b, .int .i64 c, .int .i64 d, .int .i64 e, .int .i64 f, .bool g, .bool h]⟩), .val (.agg ⟨[.int .i64 i, .int .i64 j, .int .i64 l, .int .i64 m, .int .i64 n, .bool o, .bool p]⟩)] k := by kernel_rfl

theorem m_span_digits : Meets Tryz.prog Inv 111 (KK_span_digits span_digits) :=
  meets_of_pev mixed stab (tab_cons m_ratio_Min (tab_cons m_ratio_Max (tab_cons m_span_All (tab_cons m_span_zero (tab_cons m_span_closed (tab_cons m_span_exactly (tab_cons m_span_isCount (tab_cons m_span_ones (tab_nil _ _))))))))) Tryz.func111 (by kernel_rfl) (by kernel_rfl) (by
    intro ds; unfold KK_span_digits; split
    · exact .inr ⟨[], 64, fun k => r_span_digits span_All span_closed span_exactly span_zero span_ones ratio_Max ratio_Min span_isCount _ _ _ _ _ _ _ _ _ _ _ _ _ _ _ k⟩
    · exact .inl (fun _ => rfl))

noncomputable def B_span_ofTwo (f0 : Int → Int → Int → Int → Int → Bool → Bool → Int → Int → Int → Int → Int → Bool → Bool → KS → Option DV) (f1 : Int → Int → Int → Int → Int → Bool → Bool → KS → Option DV) (f2 : Int → Int → Int → Int → Int → Bool → Bool → Int → Int → Int → Int → Int → Bool → Bool → KS → Option DV) (f3 : Int → Int → Int → Int → Int → Bool → Bool → Int → Int → Int → Int → Int → Bool → Bool → KS → Option DV) (f4 : Int → Int → Int → Int → Int → Bool → Bool → Int → Int → Int → Int → Int → Bool → Bool → KS → Option DV) (f5 : Int → Int → Int → Int → Int → KS → Option DV) (f6 : Int → Int → KI → Option DV) (f7 : Int → Int → Int → Int → KQ → Option DV) (f8 : Int → Int → Int → Int → KQ → Option DV) (f9 : Int → Int → Int → Int → KQ → Option DV) (f10 : Int → Int → Int → Int → KQ → Option DV) (f11 : ByteArray → Int → Int → Int → Int → Int → Bool → Bool → Int → Int → Int → Int → Int → Bool → Bool → KS → Option DV) (f12 : ByteArray → Int → Int → Int → Int → Int → Bool → Bool → Int → Int → Int → Int → Int → Bool → Bool → KS → Option DV) (f13 : KS → Option DV) (a : ByteArray) (b c d e f : Int) (m n : Bool) (g h i j l : Int) (o p : Bool) (k : KS) : Option DV :=
  bif (toList a == toList (⟨#[97, 100, 100]⟩)) then (f0 b c d e f m n g h i j l o p (fun q r s t u v w => k q r s t u v w)) else (bif (toList a == toList (⟨#[115, 117, 98]⟩)) then (f1 g h i j l o p (fun x y z aa ab ac ad => f0 b c d e f m n x y z aa ab ac ad (fun ae af ag ah ai aj al => k ae af ag ah ai aj al))) else (bif (toList a == toList (⟨#[109, 117, 108]⟩)) then (f2 b c d e f m n g h i j l o p (fun am an ao ap aq ar au => k am an ao ap aq ar au)) else (bif (toList a == toList (⟨#[100, 105, 118]⟩)) then (f3 b c d e f m n g h i j l o p (fun av aw ax ay az ba bb => k av aw ax ay az ba bb)) else (bif (toList a == toList (⟨#[109, 111, 100]⟩)) then (f4 b c d e f m n g h i j l o p (fun bc bd be bf bg bh bi => k bc bd be bf bg bh bi)) else (bif (toList a == toList (⟨#[109, 105, 110]⟩)) then (f8 b c g h (fun bj bl => f7 d e i j (fun bm bn => f6 f l (fun bo => f5 bj bl bm bn bo (fun bp bq br bs bt bu bv => k bp bq br bs bt bu bv))))) else (bif (toList a == toList (⟨#[109, 97, 120]⟩)) then (f10 b c g h (fun bw bx => f9 d e i j (fun bz ca => f6 f l (fun cb => f5 bw bx bz ca cb (fun cc cd ce cf cg ch ci => k cc cd ce cf cg ch ci))))) else (bif (toList a == toList (⟨#[108, 116]⟩)) then (bif (toList a == toList (⟨#[108, 116]⟩)) then (f11 a b c d e f m n g h i j l o p (fun cj cl cm cn co cp cq => k cj cl cm cn co cp cq)) else (bif (toList a == toList (⟨#[97, 110, 100]⟩)) then (bif (toList a == toList (⟨#[97, 110, 100]⟩)) then (f12 a b c d e f m n g h i j l o p (fun cr cs ct cu cv cw cx => k cr cs ct cu cv cw cx)) else (f13  (fun cy cz da db dc dd de => k cy cz da db dc dd de))) else (bif (toList a == toList (⟨#[111, 114]⟩)) then (bif (toList a == toList (⟨#[111, 114]⟩)) then (f12 a b c d e f m n g h i j l o p (fun df dg dh di dj dl dm => k df dg dh di dj dl dm)) else (f13  (fun dn dp dq dr ds dt du => k dn dp dq dr ds dt du))) else (bif (toList a == toList (⟨#[120, 111, 114]⟩)) then (f12 a b c d e f m n g h i j l o p (fun dv dw dx dy dz ea eb => k dv dw dx dy dz ea eb)) else (f13  (fun ec ed ee ef eg eh ei => k ec ed ee ef eg eh ei)))))) else (bif (toList a == toList (⟨#[108, 101]⟩)) then (bif (toList a == toList (⟨#[108, 101]⟩)) then (f11 a b c d e f m n g h i j l o p (fun ej el em en eo ep eq => k ej el em en eo ep eq)) else (bif (toList a == toList (⟨#[97, 110, 100]⟩)) then (bif (toList a == toList (⟨#[97, 110, 100]⟩)) then (f12 a b c d e f m n g h i j l o p (fun er es et eu ev ew ex => k er es et eu ev ew ex)) else (f13  (fun ey ez fa fb fc fd fe => k ey ez fa fb fc fd fe))) else (bif (toList a == toList (⟨#[111, 114]⟩)) then (bif (toList a == toList (⟨#[111, 114]⟩)) then (f12 a b c d e f m n g h i j l o p (fun ff fg fh fi fj fl fm => k ff fg fh fi fj fl fm)) else (f13  (fun fn fo fp fq fr fs ft => k fn fo fp fq fr fs ft))) else (bif (toList a == toList (⟨#[120, 111, 114]⟩)) then (f12 a b c d e f m n g h i j l o p (fun fu fv fw fx fy fz ga => k fu fv fw fx fy fz ga)) else (f13  (fun gb gc gd ge gf gg gh => k gb gc gd ge gf gg gh)))))) else (bif (toList a == toList (⟨#[101, 113]⟩)) then (bif (toList a == toList (⟨#[101, 113]⟩)) then (f11 a b c d e f m n g h i j l o p (fun gi gj gl gm gn go gp => k gi gj gl gm gn go gp)) else (bif (toList a == toList (⟨#[97, 110, 100]⟩)) then (bif (toList a == toList (⟨#[97, 110, 100]⟩)) then (f12 a b c d e f m n g h i j l o p (fun gq gr gs gt gu gv gw => k gq gr gs gt gu gv gw)) else (f13  (fun gx gy gz ha hb hc hd => k gx gy gz ha hb hc hd))) else (bif (toList a == toList (⟨#[111, 114]⟩)) then (bif (toList a == toList (⟨#[111, 114]⟩)) then (f12 a b c d e f m n g h i j l o p (fun he hf hg hh hi hj hl => k he hf hg hh hi hj hl)) else (f13  (fun hm hn ho hp hq hr hs => k hm hn ho hp hq hr hs))) else (bif (toList a == toList (⟨#[120, 111, 114]⟩)) then (f12 a b c d e f m n g h i j l o p (fun ht hu hv hw hx hy hz => k ht hu hv hw hx hy hz)) else (f13  (fun ia ib ic id ie ig ih => k ia ib ic id ie ig ih)))))) else (bif (toList a == toList (⟨#[110, 101]⟩)) then (f11 a b c d e f m n g h i j l o p (fun ii ij il im io ip iq => k ii ij il im io ip iq)) else (bif (toList a == toList (⟨#[97, 110, 100]⟩)) then (bif (toList a == toList (⟨#[97, 110, 100]⟩)) then (f12 a b c d e f m n g h i j l o p (fun ir it iu iv iw ix iy => k ir it iu iv iw ix iy)) else (f13  (fun iz ja jb jc jd je jf => k iz ja jb jc jd je jf))) else (bif (toList a == toList (⟨#[111, 114]⟩)) then (bif (toList a == toList (⟨#[111, 114]⟩)) then (f12 a b c d e f m n g h i j l o p (fun jg jh ji jj jl jm jn => k jg jh ji jj jl jm jn)) else (f13  (fun jo jp jq jr js jt ju => k jo jp jq jr js jt ju))) else (bif (toList a == toList (⟨#[120, 111, 114]⟩)) then (f12 a b c d e f m n g h i j l o p (fun jv jw jx jy jz la lb => k jv jw jx jy jz la lb)) else (f13  (fun lc ld le lf lg lh li => k lc ld le lf lg lh li)))))))))))))))
noncomputable def span_ofTwo (a : ByteArray) (b c d e f : Int) (g h : Bool) (i j l m n : Int) (o p : Bool) (k : KS) : Option DV := B_span_ofTwo span_sum span_turned span_product span_quotient span_modulo span_Make span_lowestCommon span_givingWay_ratio_Min ratio_Min ratio_Max span_givingWay_ratio_Max span_truths span_digits span_All a b c d e f g h i j l m n o p k

noncomputable def KK_span_ofTwo (f0 : ByteArray → Int → Int → Int → Int → Int → Bool → Bool → Int → Int → Int → Int → Int → Bool → Bool → KS → Option DV) (ds : List DV) (k : DV → Option DV) : Option DV :=
  match ds with
  | [.val (.string a), .val (.agg ⟨[.int .i64 b, .int .i64 c, .int .i64 d, .int .i64 e, .int .i64 f, .bool g, .bool h]⟩), .val (.agg ⟨[.int .i64 i, .int .i64 j, .int .i64 l, .int .i64 m, .int .i64 n, .bool o, .bool p]⟩)] => f0 a b c d e f g h i j l m n o p (fun q r s t u v w => k (.val (.agg ⟨[.int .i64 q, .int .i64 r, .int .i64 s, .int .i64 t, .int .i64 u, .bool v, .bool w]⟩)))
  | _ => none

theorem r_span_ofTwo (f0 : Int → Int → Int → Int → Int → Bool → Bool → Int → Int → Int → Int → Int → Bool → Bool → KS → Option DV) (f1 : Int → Int → Int → Int → Int → Bool → Bool → KS → Option DV) (f2 : Int → Int → Int → Int → Int → Bool → Bool → Int → Int → Int → Int → Int → Bool → Bool → KS → Option DV) (f3 : Int → Int → Int → Int → Int → Bool → Bool → Int → Int → Int → Int → Int → Bool → Bool → KS → Option DV) (f4 : Int → Int → Int → Int → Int → Bool → Bool → Int → Int → Int → Int → Int → Bool → Bool → KS → Option DV) (f5 : Int → Int → Int → Int → Int → KS → Option DV) (f6 : Int → Int → KI → Option DV) (f7 : Int → Int → Int → Int → KQ → Option DV) (f8 : Int → Int → Int → Int → KQ → Option DV) (f9 : Int → Int → Int → Int → KQ → Option DV) (f10 : Int → Int → Int → Int → KQ → Option DV) (f11 : ByteArray → Int → Int → Int → Int → Int → Bool → Bool → Int → Int → Int → Int → Int → Bool → Bool → KS → Option DV) (f12 : ByteArray → Int → Int → Int → Int → Int → Bool → Bool → Int → Int → Int → Int → Int → Bool → Bool → KS → Option DV) (f13 : KS → Option DV) (a : ByteArray) (b c d e f : Int) (g h : Bool) (i j l m n : Int) (o p : Bool) (k : DV → Option DV) : B_span_ofTwo f0 f1 f2 f3 f4 f5 f6 f7 f8 f9 f10 f11 f12 f13 a b c d e f g h i j l m n o p (fun q r s t u v w => k (.val (.agg ⟨[.int .i64 q, .int .i64 r, .int .i64 s, .int .i64 t, .int .i64 u, .bool v, .bool w]⟩))) = pevF Tryz.prog (tab [(12, (KK_span_Make f5)), (96, (KK_ratio_Min f8)), (97, (KK_ratio_Max f9)), (98, (KK_span_lowestCommon f6)), (109, (KK_span_givingWay f7 f10)), (62, (KK_span_All f13)), (99, (KK_span_turned f1)), (105, (KK_span_sum f0)), (106, (KK_span_product f2)), (107, (KK_span_quotient f3)), (108, (KK_span_modulo f4)), (110, (KK_span_truths f11)), (111, (KK_span_digits f12))]) [] 64 Tryz.f73 (bodyOf Tryz.f73) [.val (.string a), .val (.agg ⟨[.int .i64 b, .int .i64 c, .int .i64 d, .int .i64 e, .int .i64 f, .bool g, .bool h]⟩), .val (.agg ⟨[.int .i64 i, .int .i64 j, .int .i64 l, .int .i64 m, .int .i64 n, .bool o, .bool p]⟩)] k := by kernel_rfl

theorem m_span_ofTwo : Meets Tryz.prog Inv 73 (KK_span_ofTwo span_ofTwo) :=
  meets_of_pev mixed stab (tab_cons m_span_Make (tab_cons m_ratio_Min (tab_cons m_ratio_Max (tab_cons m_span_lowestCommon (tab_cons m_span_givingWay (tab_cons m_span_All (tab_cons m_span_turned (tab_cons m_span_sum (tab_cons m_span_product (tab_cons m_span_quotient (tab_cons m_span_modulo (tab_cons m_span_truths (tab_cons m_span_digits (tab_nil _ _)))))))))))))) Tryz.func73 (by kernel_rfl) (by kernel_rfl) (by
    intro ds; unfold KK_span_ofTwo; split
    · exact .inr ⟨[], 64, fun k => r_span_ofTwo span_sum span_turned span_product span_quotient span_modulo span_Make span_lowestCommon span_givingWay_ratio_Min ratio_Min ratio_Max span_givingWay_ratio_Max span_truths span_digits span_All _ _ _ _ _ _ _ _ _ _ _ _ _ _ _ k⟩
    · exact .inl (fun _ => rfl))

noncomputable def B_span_of_n1 (f0 : ByteArray → Int → Int → Int → Int → Int → Bool → Bool → KS → Option DV) (a : ByteArray) (b c d e f : Int) (g h : Bool) (k : KS) : Option DV :=
  f0 a b c d e f g h (fun i j l m n o p => k i j l m n o p)
noncomputable def span_of_n1 (a : ByteArray) (b c d e f : Int) (g h : Bool) (k : KS) : Option DV := B_span_of_n1 span_ofOne a b c d e f g h k

noncomputable def B_span_of_n2 (f0 : ByteArray → Int → Int → Int → Int → Int → Bool → Bool → Int → Int → Int → Int → Int → Bool → Bool → KS → Option DV) (a : ByteArray) (b c d e f : Int) (g h : Bool) (i j l m n : Int) (o p : Bool) (k : KS) : Option DV :=
  f0 a b c d e f g h i j l m n o p (fun q r s t u v w => k q r s t u v w)
noncomputable def span_of_n2 (a : ByteArray) (b c d e f : Int) (g h : Bool) (i j l m n : Int) (o p : Bool) (k : KS) : Option DV := B_span_of_n2 span_ofTwo a b c d e f g h i j l m n o p k

noncomputable def B_span_of_n3 (f0 : ByteArray → Int → Int → Int → Int → Int → Bool → Bool → Int → Int → Int → Int → Int → Bool → Bool → KS → Option DV) (a : ByteArray) (b c d e f : Int) (g h : Bool) (i j l m n : Int) (o p : Bool) (x y z aa ab : Int) (ac ad : Bool) (k : KS) : Option DV :=
  f0 a b c d e f g h i j l m n o p (fun q r s t u v w => k q r s t u v w)
noncomputable def span_of_n3 (a : ByteArray) (b c d e f : Int) (g h : Bool) (i j l m n : Int) (o p : Bool) (q r s t u : Int) (v w : Bool) (k : KS) : Option DV := B_span_of_n3 span_ofTwo a b c d e f g h i j l m n o p q r s t u v w k

noncomputable def KK_span_of_at2 (f2 : ByteArray → Int → Int → Int → Int → Int → Bool → Bool → Int → Int → Int → Int → Int → Bool → Bool → Int → Int → Int → Int → Int → Bool → Bool → KS → Option DV) (ds : List DV) (k : DV → Option DV) : Option DV :=
  match ds with
  | [.val (.string a), .lst 7 [[.val (.int .i64 b), .val (.int .i64 c), .val (.int .i64 d), .val (.int .i64 e), .val (.int .i64 f), .val (.bool g), .val (.bool h)], [.val (.int .i64 i), .val (.int .i64 j), .val (.int .i64 l), .val (.int .i64 m), .val (.int .i64 n), .val (.bool o), .val (.bool p)], [.val (.int .i64 q), .val (.int .i64 r), .val (.int .i64 s), .val (.int .i64 t), .val (.int .i64 u), .val (.bool v), .val (.bool w)]]] => f2 a b c d e f g h i j l m n o p q r s t u v w (fun x y z aa ab ac ad => k (.val (.agg ⟨[.int .i64 x, .int .i64 y, .int .i64 z, .int .i64 aa, .int .i64 ab, .bool ac, .bool ad]⟩)))
  | _ => none
noncomputable def KK_span_of_at1 (f1 : ByteArray → Int → Int → Int → Int → Int → Bool → Bool → Int → Int → Int → Int → Int → Bool → Bool → KS → Option DV) (f2 : ByteArray → Int → Int → Int → Int → Int → Bool → Bool → Int → Int → Int → Int → Int → Bool → Bool → Int → Int → Int → Int → Int → Bool → Bool → KS → Option DV) (ds : List DV) (k : DV → Option DV) : Option DV :=
  match ds with
  | [.val (.string a), .lst 7 [[.val (.int .i64 b), .val (.int .i64 c), .val (.int .i64 d), .val (.int .i64 e), .val (.int .i64 f), .val (.bool g), .val (.bool h)], [.val (.int .i64 i), .val (.int .i64 j), .val (.int .i64 l), .val (.int .i64 m), .val (.int .i64 n), .val (.bool o), .val (.bool p)]]] => f1 a b c d e f g h i j l m n o p (fun q r s t u v w => k (.val (.agg ⟨[.int .i64 q, .int .i64 r, .int .i64 s, .int .i64 t, .int .i64 u, .bool v, .bool w]⟩)))
  | _ => KK_span_of_at2 f2 ds k
noncomputable def KK_span_of (f0 : ByteArray → Int → Int → Int → Int → Int → Bool → Bool → KS → Option DV) (f1 : ByteArray → Int → Int → Int → Int → Int → Bool → Bool → Int → Int → Int → Int → Int → Bool → Bool → KS → Option DV) (f2 : ByteArray → Int → Int → Int → Int → Int → Bool → Bool → Int → Int → Int → Int → Int → Bool → Bool → Int → Int → Int → Int → Int → Bool → Bool → KS → Option DV) (ds : List DV) (k : DV → Option DV) : Option DV :=
  match ds with
  | [.val (.string a), .lst 7 [[.val (.int .i64 b), .val (.int .i64 c), .val (.int .i64 d), .val (.int .i64 e), .val (.int .i64 f), .val (.bool g), .val (.bool h)]]] => f0 a b c d e f g h (fun i j l m n o p => k (.val (.agg ⟨[.int .i64 i, .int .i64 j, .int .i64 l, .int .i64 m, .int .i64 n, .bool o, .bool p]⟩)))
  | _ => KK_span_of_at1 f1 f2 ds k

theorem r_span_of_n1 (f0 : ByteArray → Int → Int → Int → Int → Int → Bool → Bool → KS → Option DV) (a : ByteArray) (b c d e f : Int) (g h : Bool) (k : DV → Option DV) : B_span_of_n1 f0 a b c d e f g h (fun i j l m n o p => k (.val (.agg ⟨[.int .i64 i, .int .i64 j, .int .i64 l, .int .i64 m, .int .i64 n, .bool o, .bool p]⟩))) = pevF Tryz.prog (tab [(72, (KK_span_ofOne f0)), (73, (KK_span_ofTwo span_ofTwo))]) [] 64 Tryz.f30 (bodyOf Tryz.f30) [.val (.string a), .lst 7 [[.val (.int .i64 b), .val (.int .i64 c), .val (.int .i64 d), .val (.int .i64 e), .val (.int .i64 f), .val (.bool g), .val (.bool h)]]] k := by kernel_rfl

theorem r_span_of_n2 (f0 : ByteArray → Int → Int → Int → Int → Int → Bool → Bool → Int → Int → Int → Int → Int → Bool → Bool → KS → Option DV) (a : ByteArray) (b c d e f : Int) (g h : Bool) (i j l m n : Int) (o p : Bool) (k : DV → Option DV) : B_span_of_n2 f0 a b c d e f g h i j l m n o p (fun q r s t u v w => k (.val (.agg ⟨[.int .i64 q, .int .i64 r, .int .i64 s, .int .i64 t, .int .i64 u, .bool v, .bool w]⟩))) = pevF Tryz.prog (tab [(72, (KK_span_ofOne span_ofOne)), (73, (KK_span_ofTwo f0))]) [] 64 Tryz.f30 (bodyOf Tryz.f30) [.val (.string a), .lst 7 [[.val (.int .i64 b), .val (.int .i64 c), .val (.int .i64 d), .val (.int .i64 e), .val (.int .i64 f), .val (.bool g), .val (.bool h)], [.val (.int .i64 i), .val (.int .i64 j), .val (.int .i64 l), .val (.int .i64 m), .val (.int .i64 n), .val (.bool o), .val (.bool p)]]] k := by kernel_rfl

theorem r_span_of_n3 (f0 : ByteArray → Int → Int → Int → Int → Int → Bool → Bool → Int → Int → Int → Int → Int → Bool → Bool → KS → Option DV) (a : ByteArray) (b c d e f : Int) (g h : Bool) (i j l m n : Int) (o p : Bool) (q r s t u : Int) (v w : Bool) (k : DV → Option DV) : B_span_of_n3 f0 a b c d e f g h i j l m n o p q r s t u v w (fun x y z aa ab ac ad => k (.val (.agg ⟨[.int .i64 x, .int .i64 y, .int .i64 z, .int .i64 aa, .int .i64 ab, .bool ac, .bool ad]⟩))) = pevF Tryz.prog (tab [(72, (KK_span_ofOne span_ofOne)), (73, (KK_span_ofTwo f0))]) [] 64 Tryz.f30 (bodyOf Tryz.f30) [.val (.string a), .lst 7 [[.val (.int .i64 b), .val (.int .i64 c), .val (.int .i64 d), .val (.int .i64 e), .val (.int .i64 f), .val (.bool g), .val (.bool h)], [.val (.int .i64 i), .val (.int .i64 j), .val (.int .i64 l), .val (.int .i64 m), .val (.int .i64 n), .val (.bool o), .val (.bool p)], [.val (.int .i64 q), .val (.int .i64 r), .val (.int .i64 s), .val (.int .i64 t), .val (.int .i64 u), .val (.bool v), .val (.bool w)]]] k := by kernel_rfl

theorem m_span_of : Meets Tryz.prog Inv 30 (KK_span_of span_of_n1 span_of_n2 span_of_n3) :=
  meets_of_pev mixed stab (tab_cons m_span_ofOne (tab_cons m_span_ofTwo (tab_nil _ _))) Tryz.func30 (by kernel_rfl) (by kernel_rfl) (by
    intro ds; unfold KK_span_of; split
    · exact .inr ⟨[], 64, fun k => r_span_of_n1 span_ofOne _ _ _ _ _ _ _ _ k⟩
    unfold KK_span_of_at1; split
    · exact .inr ⟨[], 64, fun k => r_span_of_n2 span_ofTwo _ _ _ _ _ _ _ _ _ _ _ _ _ _ _ k⟩
    unfold KK_span_of_at2; split
    · exact .inr ⟨[], 64, fun k => r_span_of_n3 span_ofTwo _ _ _ _ _ _ _ _ _ _ _ _ _ _ _ _ _ _ _ _ _ _ k⟩
    · exact .inl (fun _ => rfl))

noncomputable def B_span_Op_n0  (a : ByteArray) (k : KSE) : Option DV :=
  k 0 0 0 0 0 false false 2
noncomputable def span_Op_n0 (a : ByteArray) (k : KSE) : Option DV := B_span_Op_n0  a k

noncomputable def B_span_Op_n1 (f0 : Bool → KS → Option DV) (f1 : ByteArray → Int → Int → Int → Int → Int → Bool → Bool → KS → Option DV) (f2 : Int → Int → Int → Int → Int → Bool → Bool → KS → Option DV) (f3 : ByteArray → KI → Option DV) (a : ByteArray) (j l m n o : Int) (p q : Bool) (k : KSE) : Option DV :=
  f3 a (fun r => bif 1 != r then (k 0 0 0 0 0 false false 2) else (f2 j l m n o p q (fun s t u v w b c => bif (toList a == toList (⟨#[112, 105, 99, 107]⟩)) then none else (bif c then (f0 b (fun x y z aa ab ac ad => k x y z aa ab ac ad 0)) else (f1 a s t u v w b c (fun d e f g h ae i => bif !ae then (k d e f g h b i 0) else (k d e f g h true i 0)))))))
noncomputable def span_Op_n1 (a : ByteArray) (b c d e f : Int) (g h : Bool) (k : KSE) : Option DV := B_span_Op_n1 span_nothing span_of_n1 span_known span_ins a b c d e f g h k

noncomputable def B_span_Op_n2 (f0 : Bool → KS → Option DV) (f1 : ByteArray → Int → Int → Int → Int → Int → Bool → Bool → Int → Int → Int → Int → Int → Bool → Bool → KS → Option DV) (f2 : Int → Int → Int → Int → Int → Bool → Bool → KS → Option DV) (f3 : ByteArray → KI → Option DV) (a : ByteArray) (ac ad ae af ag : Int) (ah ai : Bool) (aj al am an ao : Int) (ap aq : Bool) (k : KSE) : Option DV :=
  f3 a (fun ar => bif 2 != ar then (k 0 0 0 0 0 false false 2) else (f2 ac ad ae af ag ah ai (fun f g h i j e c => f2 aj al am an ao ap aq (fun l m n o p b d => bif !e then (bif !c then (bif (toList a == toList (⟨#[112, 105, 99, 107]⟩)) then none else (bif d then (f0 b (fun au av aw ax ay az ba => k au av aw ax ay az ba 0)) else (f1 a f g h i j e c l m n o p b d (fun q r s t u bb v => bif !bb then (k q r s t u b v 0) else (k q r s t u true v 0))))) else (bif (toList a == toList (⟨#[112, 105, 99, 107]⟩)) then none else (f0 b (fun bc bd be bf bg bh bi => k bc bd be bf bg bh bi 0)))) else (bif !c then (bif (toList a == toList (⟨#[112, 105, 99, 107]⟩)) then none else (bif d then (f0 true (fun bj bl bm bn bo bp bq => k bj bl bm bn bo bp bq 0)) else (f1 a f g h i j e c l m n o p b d (fun w x y z aa br ab => bif !br then (k w x y z aa true ab 0) else (k w x y z aa true ab 0))))) else (bif (toList a == toList (⟨#[112, 105, 99, 107]⟩)) then none else (f0 true (fun bs bt bu bv bw bx bz => k bs bt bu bv bw bx bz 0))))))))
noncomputable def span_Op_n2 (a : ByteArray) (b c d e f : Int) (g h : Bool) (i j l m n : Int) (o p : Bool) (k : KSE) : Option DV := B_span_Op_n2 span_nothing span_of_n2 span_known span_ins a b c d e f g h i j l m n o p k

noncomputable def B_span_Op_n3 (f0 : Int → Int → Int → Int → Int → Bool → Bool → Int → Int → Int → Int → Int → Bool → Bool → Int → Int → Int → Int → Int → Bool → Bool → KS → Option DV) (f1 : Bool → KS → Option DV) (f2 : ByteArray → Int → Int → Int → Int → Int → Bool → Bool → Int → Int → Int → Int → Int → Bool → Bool → Int → Int → Int → Int → Int → Bool → Bool → KS → Option DV) (f3 : Int → Int → Int → Int → Int → Bool → Bool → KS → Option DV) (f4 : ByteArray → KI → Option DV) (d : ByteArray) (bo bp bq br bs : Int) (bt bu : Bool) (bv bw bx bz ca : Int) (cb cc : Bool) (x y z aa ab : Int) (ac ad : Bool) (k : KSE) : Option DV :=
  f4 d (fun cd => bif 3 != cd then (k 0 0 0 0 0 false false 2) else (f3 bo bp bq br bs bt bu (fun f g h i j e b => f3 bv bw bx bz ca cb cc (fun l m n o p c a => bif !e then (bif !b then (f3 x y z aa ab ac ad (fun s t u v w q r => bif !c then (bif !a then (bif (toList d == toList (⟨#[112, 105, 99, 107]⟩)) then (f0 f g h i j e b l m n o p c a s t u v w q r (fun ce cf cg ch ci cj cl => k ce cf cg ch ci cj cl 0)) else (bif r then (f1 q (fun cm cn co cp cq cr cs => k cm cn co cp cq cr cs 0)) else (f2 d f g h i j e b l m n o p c a s t u v w q r (fun an ao ap aq ar ct au => bif !ct then (k an ao ap aq ar q au 0) else (k an ao ap aq ar true au 0))))) else (bif (toList d == toList (⟨#[112, 105, 99, 107]⟩)) then (f0 f g h i j e b l m n o p c a s t u v w q r (fun cu cv cw cx cy cz da => k cu cv cw cx cy cz da 0)) else (f1 q (fun db dc dd de df dg dh => k db dc dd de df dg dh 0)))) else (bif !a then (bif (toList d == toList (⟨#[112, 105, 99, 107]⟩)) then (f0 f g h i j e b l m n o p c a s t u v w q r (fun di dj dl dm dn dp dq => k di dj dl dm dn dp dq 0)) else (bif r then (f1 true (fun dr ds dt du dv dw dx => k dr ds dt du dv dw dx 0)) else (f2 d f g h i j e b l m n o p c a s t u v w q r (fun av aw ax ay az dy ba => bif !dy then (k av aw ax ay az true ba 0) else (k av aw ax ay az true ba 0))))) else (bif (toList d == toList (⟨#[112, 105, 99, 107]⟩)) then (f0 f g h i j e b l m n o p c a s t u v w q r (fun dz ea eb ec ed ee ef => k dz ea eb ec ed ee ef 0)) else (f1 true (fun eg eh ei ej el em en => k eg eh ei ej el em en 0)))))) else (f3 x y z aa ab ac ad (fun bb bc bd be bf af bg => bif !c then (bif (toList d == toList (⟨#[112, 105, 99, 107]⟩)) then (f0 f g h i j e b l m n o p c a bb bc bd be bf af bg (fun eo ep eq er es et eu => k eo ep eq er es et eu 0)) else (f1 af (fun ev ew ex ey ez fa fb => k ev ew ex ey ez fa fb 0))) else (bif (toList d == toList (⟨#[112, 105, 99, 107]⟩)) then (f0 f g h i j e b l m n o p c a bb bc bd be bf af bg (fun fc fd fe ff fg fh fi => k fc fd fe ff fg fh fi 0)) else (f1 true (fun fj fl fm fn fo fp fq => k fj fl fm fn fo fp fq 0)))))) else (bif !b then (f3 x y z aa ab ac ad (fun ag ah ai aj al am ae => bif !a then (bif (toList d == toList (⟨#[112, 105, 99, 107]⟩)) then (f0 f g h i j e b l m n o p c a ag ah ai aj al am ae (fun fr fs ft fu fv fw fx => k fr fs ft fu fv fw fx 0)) else (bif ae then (f1 true (fun fy fz ga gb gc gd ge => k fy fz ga gb gc gd ge 0)) else (f2 d f g h i j e b l m n o p c a ag ah ai aj al am ae (fun bh bi bj bl bm gf bn => bif !gf then (k bh bi bj bl bm true bn 0) else (k bh bi bj bl bm true bn 0))))) else (bif (toList d == toList (⟨#[112, 105, 99, 107]⟩)) then (f0 f g h i j e b l m n o p c a ag ah ai aj al am ae (fun gg gh gi gj gl gm gn => k gg gh gi gj gl gm gn 0)) else (f1 true (fun go gp gq gr gs gt gu => k go gp gq gr gs gt gu 0))))) else (f3 x y z aa ab ac ad (fun gv gw gx gy gz ha hb => bif (toList d == toList (⟨#[112, 105, 99, 107]⟩)) then (f0 f g h i j e b l m n o p c a gv gw gx gy gz ha hb (fun hc hd he hf hg hh hi => k hc hd he hf hg hh hi 0)) else (f1 true (fun hj hl hm hn ho hp hq => k hj hl hm hn ho hp hq 0)))))))))
noncomputable def span_Op_n3 (a : ByteArray) (b c d e f : Int) (g h : Bool) (i j l m n : Int) (o p : Bool) (q r s t u : Int) (v w : Bool) (k : KSE) : Option DV := B_span_Op_n3 span_pick span_nothing span_of_n3 span_known span_ins a b c d e f g h i j l m n o p q r s t u v w k

noncomputable def B_span_Op_m4 (f0 : ByteArray → KI → Option DV) (b : ByteArray) (d e f g h : Int) (i j : Bool) (l m n o p : Int) (q r : Bool) (s t u v w : Int) (x y : Bool) (z aa ab ac ad : Int) (ae af : Bool) (a : List (List DV)) (k : KSE) : Option DV :=
  bif !(((Nat.succ (Nat.succ (Nat.succ (Nat.succ (List.length a)))) : Nat) : Int) == 0) then (f0 b (fun c => bif ((Nat.succ (Nat.succ (Nat.succ (Nat.succ (List.length a)))) : Nat) : Int) != c then (k 0 0 0 0 0 false false 2) else none)) else (k 0 0 0 0 0 false false 2)
noncomputable def span_Op_m4 (a : ByteArray) (b c d e f : Int) (g h : Bool) (i j l m n : Int) (o p : Bool) (q r s t u : Int) (v w : Bool) (x y z aa ab : Int) (ac ad : Bool) (ae : List (List DV)) (k : KSE) : Option DV := B_span_Op_m4 span_ins a b c d e f g h i j l m n o p q r s t u v w x y z aa ab ac ad ae k

noncomputable def KK_span_Op_at4 (f4 : ByteArray → Int → Int → Int → Int → Int → Bool → Bool → Int → Int → Int → Int → Int → Bool → Bool → Int → Int → Int → Int → Int → Bool → Bool → Int → Int → Int → Int → Int → Bool → Bool → List (List DV) → KSE → Option DV) (ds : List DV) (k : DV → Option DV) : Option DV :=
  match ds with
  | [.val (.string a), .lst 7 ([.val (.int .i64 b), .val (.int .i64 c), .val (.int .i64 d), .val (.int .i64 e), .val (.int .i64 f), .val (.bool g), .val (.bool h)] :: [.val (.int .i64 i), .val (.int .i64 j), .val (.int .i64 l), .val (.int .i64 m), .val (.int .i64 n), .val (.bool o), .val (.bool p)] :: [.val (.int .i64 q), .val (.int .i64 r), .val (.int .i64 s), .val (.int .i64 t), .val (.int .i64 u), .val (.bool v), .val (.bool w)] :: [.val (.int .i64 x), .val (.int .i64 y), .val (.int .i64 z), .val (.int .i64 aa), .val (.int .i64 ab), .val (.bool ac), .val (.bool ad)] :: ae)] => f4 a b c d e f g h i j l m n o p q r s t u v w x y z aa ab ac ad ae (fun af ag ah ai aj al am an => k (.val (.tuple ⟨[.agg ⟨[.int .i64 af, .int .i64 ag, .int .i64 ah, .int .i64 ai, .int .i64 aj, .bool al, .bool am]⟩, .int .i64 an]⟩)))
  | _ => none
noncomputable def KK_span_Op_at3 (f3 : ByteArray → Int → Int → Int → Int → Int → Bool → Bool → Int → Int → Int → Int → Int → Bool → Bool → Int → Int → Int → Int → Int → Bool → Bool → KSE → Option DV) (f4 : ByteArray → Int → Int → Int → Int → Int → Bool → Bool → Int → Int → Int → Int → Int → Bool → Bool → Int → Int → Int → Int → Int → Bool → Bool → Int → Int → Int → Int → Int → Bool → Bool → List (List DV) → KSE → Option DV) (ds : List DV) (k : DV → Option DV) : Option DV :=
  match ds with
  | [.val (.string a), .lst 7 [[.val (.int .i64 b), .val (.int .i64 c), .val (.int .i64 d), .val (.int .i64 e), .val (.int .i64 f), .val (.bool g), .val (.bool h)], [.val (.int .i64 i), .val (.int .i64 j), .val (.int .i64 l), .val (.int .i64 m), .val (.int .i64 n), .val (.bool o), .val (.bool p)], [.val (.int .i64 q), .val (.int .i64 r), .val (.int .i64 s), .val (.int .i64 t), .val (.int .i64 u), .val (.bool v), .val (.bool w)]]] => f3 a b c d e f g h i j l m n o p q r s t u v w (fun x y z aa ab ac ad ae => k (.val (.tuple ⟨[.agg ⟨[.int .i64 x, .int .i64 y, .int .i64 z, .int .i64 aa, .int .i64 ab, .bool ac, .bool ad]⟩, .int .i64 ae]⟩)))
  | _ => KK_span_Op_at4 f4 ds k
noncomputable def KK_span_Op_at2 (f2 : ByteArray → Int → Int → Int → Int → Int → Bool → Bool → Int → Int → Int → Int → Int → Bool → Bool → KSE → Option DV) (f3 : ByteArray → Int → Int → Int → Int → Int → Bool → Bool → Int → Int → Int → Int → Int → Bool → Bool → Int → Int → Int → Int → Int → Bool → Bool → KSE → Option DV) (f4 : ByteArray → Int → Int → Int → Int → Int → Bool → Bool → Int → Int → Int → Int → Int → Bool → Bool → Int → Int → Int → Int → Int → Bool → Bool → Int → Int → Int → Int → Int → Bool → Bool → List (List DV) → KSE → Option DV) (ds : List DV) (k : DV → Option DV) : Option DV :=
  match ds with
  | [.val (.string a), .lst 7 [[.val (.int .i64 b), .val (.int .i64 c), .val (.int .i64 d), .val (.int .i64 e), .val (.int .i64 f), .val (.bool g), .val (.bool h)], [.val (.int .i64 i), .val (.int .i64 j), .val (.int .i64 l), .val (.int .i64 m), .val (.int .i64 n), .val (.bool o), .val (.bool p)]]] => f2 a b c d e f g h i j l m n o p (fun q r s t u v w x => k (.val (.tuple ⟨[.agg ⟨[.int .i64 q, .int .i64 r, .int .i64 s, .int .i64 t, .int .i64 u, .bool v, .bool w]⟩, .int .i64 x]⟩)))
  | _ => KK_span_Op_at3 f3 f4 ds k
noncomputable def KK_span_Op_at1 (f1 : ByteArray → Int → Int → Int → Int → Int → Bool → Bool → KSE → Option DV) (f2 : ByteArray → Int → Int → Int → Int → Int → Bool → Bool → Int → Int → Int → Int → Int → Bool → Bool → KSE → Option DV) (f3 : ByteArray → Int → Int → Int → Int → Int → Bool → Bool → Int → Int → Int → Int → Int → Bool → Bool → Int → Int → Int → Int → Int → Bool → Bool → KSE → Option DV) (f4 : ByteArray → Int → Int → Int → Int → Int → Bool → Bool → Int → Int → Int → Int → Int → Bool → Bool → Int → Int → Int → Int → Int → Bool → Bool → Int → Int → Int → Int → Int → Bool → Bool → List (List DV) → KSE → Option DV) (ds : List DV) (k : DV → Option DV) : Option DV :=
  match ds with
  | [.val (.string a), .lst 7 [[.val (.int .i64 b), .val (.int .i64 c), .val (.int .i64 d), .val (.int .i64 e), .val (.int .i64 f), .val (.bool g), .val (.bool h)]]] => f1 a b c d e f g h (fun i j l m n o p q => k (.val (.tuple ⟨[.agg ⟨[.int .i64 i, .int .i64 j, .int .i64 l, .int .i64 m, .int .i64 n, .bool o, .bool p]⟩, .int .i64 q]⟩)))
  | _ => KK_span_Op_at2 f2 f3 f4 ds k
noncomputable def KK_span_Op (f0 : ByteArray → KSE → Option DV) (f1 : ByteArray → Int → Int → Int → Int → Int → Bool → Bool → KSE → Option DV) (f2 : ByteArray → Int → Int → Int → Int → Int → Bool → Bool → Int → Int → Int → Int → Int → Bool → Bool → KSE → Option DV) (f3 : ByteArray → Int → Int → Int → Int → Int → Bool → Bool → Int → Int → Int → Int → Int → Bool → Bool → Int → Int → Int → Int → Int → Bool → Bool → KSE → Option DV) (f4 : ByteArray → Int → Int → Int → Int → Int → Bool → Bool → Int → Int → Int → Int → Int → Bool → Bool → Int → Int → Int → Int → Int → Bool → Bool → Int → Int → Int → Int → Int → Bool → Bool → List (List DV) → KSE → Option DV) (ds : List DV) (k : DV → Option DV) : Option DV :=
  match ds with
  | [.val (.string a), .lst 7 []] => f0 a (fun b c d e f g h i => k (.val (.tuple ⟨[.agg ⟨[.int .i64 b, .int .i64 c, .int .i64 d, .int .i64 e, .int .i64 f, .bool g, .bool h]⟩, .int .i64 i]⟩)))
  | _ => KK_span_Op_at1 f1 f2 f3 f4 ds k

theorem r_span_Op_n0  (a : ByteArray) (k : DV → Option DV) : B_span_Op_n0  a (fun b c d e f g h i => k (.val (.tuple ⟨[.agg ⟨[.int .i64 b, .int .i64 c, .int .i64 d, .int .i64 e, .int .i64 f, .bool g, .bool h]⟩, .int .i64 i]⟩))) = pevF Tryz.prog (tab [(20, (KK_span_nothing span_nothing)), (21, (KK_span_known span_known)), (28, (KK_span_ins span_ins)), (29, (KK_span_pick span_pick)), (30, (KK_span_of span_of_n1 span_of_n2 span_of_n3))]) [] 64 Tryz.f9 (bodyOf Tryz.f9) [.val (.string a), .lst 7 []] k := by kernel_rfl

theorem r_span_Op_n1 (f0 : Bool → KS → Option DV) (f1 : ByteArray → Int → Int → Int → Int → Int → Bool → Bool → KS → Option DV) (f2 : Int → Int → Int → Int → Int → Bool → Bool → KS → Option DV) (f3 : ByteArray → KI → Option DV) (a : ByteArray) (b c d e f : Int) (g h : Bool) (k : DV → Option DV) : B_span_Op_n1 f0 f1 f2 f3 a b c d e f g h (fun i j l m n o p q => k (.val (.tuple ⟨[.agg ⟨[.int .i64 i, .int .i64 j, .int .i64 l, .int .i64 m, .int .i64 n, .bool o, .bool p]⟩, .int .i64 q]⟩))) = pevF Tryz.prog (tab [(20, (KK_span_nothing f0)), (21, (KK_span_known f2)), (28, (KK_span_ins f3)), (29, (KK_span_pick span_pick)), (30, (KK_span_of f1 span_of_n2 span_of_n3))]) [] 64 Tryz.f9 (bodyOf Tryz.f9) [.val (.string a), .lst 7 [[.val (.int .i64 b), .val (.int .i64 c), .val (.int .i64 d), .val (.int .i64 e), .val (.int .i64 f), .val (.bool g), .val (.bool h)]]] k := by kernel_rfl

theorem r_span_Op_n2 (f0 : Bool → KS → Option DV) (f1 : ByteArray → Int → Int → Int → Int → Int → Bool → Bool → Int → Int → Int → Int → Int → Bool → Bool → KS → Option DV) (f2 : Int → Int → Int → Int → Int → Bool → Bool → KS → Option DV) (f3 : ByteArray → KI → Option DV) (a : ByteArray) (b c d e f : Int) (g h : Bool) (i j l m n : Int) (o p : Bool) (k : DV → Option DV) : B_span_Op_n2 f0 f1 f2 f3 a b c d e f g h i j l m n o p (fun q r s t u v w x => k (.val (.tuple ⟨[.agg ⟨[.int .i64 q, .int .i64 r, .int .i64 s, .int .i64 t, .int .i64 u, .bool v, .bool w]⟩, .int .i64 x]⟩))) = pevF Tryz.prog (tab [(20, (KK_span_nothing f0)), (21, (KK_span_known f2)), (28, (KK_span_ins f3)), (29, (KK_span_pick span_pick)), (30, (KK_span_of span_of_n1 f1 span_of_n3))]) [] 64 Tryz.f9 (bodyOf Tryz.f9) [.val (.string a), .lst 7 [[.val (.int .i64 b), .val (.int .i64 c), .val (.int .i64 d), .val (.int .i64 e), .val (.int .i64 f), .val (.bool g), .val (.bool h)], [.val (.int .i64 i), .val (.int .i64 j), .val (.int .i64 l), .val (.int .i64 m), .val (.int .i64 n), .val (.bool o), .val (.bool p)]]] k := by kernel_rfl

theorem r_span_Op_n3 (f0 : Int → Int → Int → Int → Int → Bool → Bool → Int → Int → Int → Int → Int → Bool → Bool → Int → Int → Int → Int → Int → Bool → Bool → KS → Option DV) (f1 : Bool → KS → Option DV) (f2 : ByteArray → Int → Int → Int → Int → Int → Bool → Bool → Int → Int → Int → Int → Int → Bool → Bool → Int → Int → Int → Int → Int → Bool → Bool → KS → Option DV) (f3 : Int → Int → Int → Int → Int → Bool → Bool → KS → Option DV) (f4 : ByteArray → KI → Option DV) (a : ByteArray) (b c d e f : Int) (g h : Bool) (i j l m n : Int) (o p : Bool) (q r s t u : Int) (v w : Bool) (k : DV → Option DV) : B_span_Op_n3 f0 f1 f2 f3 f4 a b c d e f g h i j l m n o p q r s t u v w (fun x y z aa ab ac ad ae => k (.val (.tuple ⟨[.agg ⟨[.int .i64 x, .int .i64 y, .int .i64 z, .int .i64 aa, .int .i64 ab, .bool ac, .bool ad]⟩, .int .i64 ae]⟩))) = pevF Tryz.prog (tab [(20, (KK_span_nothing f1)), (21, (KK_span_known f3)), (28, (KK_span_ins f4)), (29, (KK_span_pick f0)), (30, (KK_span_of span_of_n1 span_of_n2 f2))]) [] 64 Tryz.f9 (bodyOf Tryz.f9) [.val (.string a), .lst 7 [[.val (.int .i64 b), .val (.int .i64 c), .val (.int .i64 d), .val (.int .i64 e), .val (.int .i64 f), .val (.bool g), .val (.bool h)], [.val (.int .i64 i), .val (.int .i64 j), .val (.int .i64 l), .val (.int .i64 m), .val (.int .i64 n), .val (.bool o), .val (.bool p)], [.val (.int .i64 q), .val (.int .i64 r), .val (.int .i64 s), .val (.int .i64 t), .val (.int .i64 u), .val (.bool v), .val (.bool w)]]] k := by kernel_rfl

theorem r_span_Op_m4 (f0 : ByteArray → KI → Option DV) (a : ByteArray) (b c d e f : Int) (g h : Bool) (i j l m n : Int) (o p : Bool) (q r s t u : Int) (v w : Bool) (x y z aa ab : Int) (ac ad : Bool) (ae : List (List DV)) (k : DV → Option DV) : B_span_Op_m4 f0 a b c d e f g h i j l m n o p q r s t u v w x y z aa ab ac ad ae (fun af ag ah ai aj al am an => k (.val (.tuple ⟨[.agg ⟨[.int .i64 af, .int .i64 ag, .int .i64 ah, .int .i64 ai, .int .i64 aj, .bool al, .bool am]⟩, .int .i64 an]⟩))) = pevF Tryz.prog (tab [(20, (KK_span_nothing span_nothing)), (21, (KK_span_known span_known)), (28, (KK_span_ins f0)), (29, (KK_span_pick span_pick)), (30, (KK_span_of span_of_n1 span_of_n2 span_of_n3))]) [(0, [0]), (0, [3, 7, 8, 9, 12])] 64 Tryz.f9 (bodyOf Tryz.f9) [.val (.string a), .lst 7 ([.val (.int .i64 b), .val (.int .i64 c), .val (.int .i64 d), .val (.int .i64 e), .val (.int .i64 f), .val (.bool g), .val (.bool h)] :: [.val (.int .i64 i), .val (.int .i64 j), .val (.int .i64 l), .val (.int .i64 m), .val (.int .i64 n), .val (.bool o), .val (.bool p)] :: [.val (.int .i64 q), .val (.int .i64 r), .val (.int .i64 s), .val (.int .i64 t), .val (.int .i64 u), .val (.bool v), .val (.bool w)] :: [.val (.int .i64 x), .val (.int .i64 y), .val (.int .i64 z), .val (.int .i64 aa), .val (.int .i64 ab), .val (.bool ac), .val (.bool ad)] :: ae)] k := by kernel_rfl

theorem m_span_Op : Meets Tryz.prog Inv 9 (KK_span_Op span_Op_n0 span_Op_n1 span_Op_n2 span_Op_n3 span_Op_m4) :=
  meets_of_pev mixed stab (tab_cons m_span_nothing (tab_cons m_span_known (tab_cons m_span_ins (tab_cons m_span_pick (tab_cons m_span_of (tab_nil _ _)))))) Tryz.func9 (by kernel_rfl) (by kernel_rfl) (by
    intro ds; unfold KK_span_Op; split
    · exact .inr ⟨[], 64, fun k => r_span_Op_n0  _ k⟩
    unfold KK_span_Op_at1; split
    · exact .inr ⟨[], 64, fun k => r_span_Op_n1 span_nothing span_of_n1 span_known span_ins _ _ _ _ _ _ _ _ k⟩
    unfold KK_span_Op_at2; split
    · exact .inr ⟨[], 64, fun k => r_span_Op_n2 span_nothing span_of_n2 span_known span_ins _ _ _ _ _ _ _ _ _ _ _ _ _ _ _ k⟩
    unfold KK_span_Op_at3; split
    · exact .inr ⟨[], 64, fun k => r_span_Op_n3 span_pick span_nothing span_of_n3 span_known span_ins _ _ _ _ _ _ _ _ _ _ _ _ _ _ _ _ _ _ _ _ _ _ k⟩
    unfold KK_span_Op_at4; split
    · exact .inr ⟨[(0, [0]), (0, [3, 7, 8, 9, 12])], 64, fun k => r_span_Op_m4 span_ins _ _ _ _ _ _ _ _ _ _ _ _ _ _ _ _ _ _ _ _ _ _ _ _ _ _ _ _ _ _ k⟩
    · exact .inl (fun _ => rfl))

noncomputable def B_ratio_Text (f0 : Int → Int → KT → Option DV) (f1 : Int → Int → KB → Option DV) (c b : Int) (k : KT) : Option DV :=
  f1 c b (fun e => bif !e then (k (⟨#[110, 111, 110, 101]⟩)) else (f0 c 10 (fun a => bif b == 1 then (k a) else (bif decide (((ByteArray.size a + ByteArray.size (⟨#[47]⟩) : Nat) : Int) > IntKind.max .i64) then none else (f0 b 10 (fun d => bif decide (((ByteArray.size (a ++ (⟨#[47]⟩)) + ByteArray.size d : Nat) : Int) > IntKind.max .i64) then none else (k ((a ++ (⟨#[47]⟩)) ++ d))))))))
noncomputable def ratio_Text (a b : Int) (k : KT) : Option DV := B_ratio_Text strconv_FormatInt ratio_Is a b k

noncomputable def KK_ratio_Text (f0 : Int → Int → KT → Option DV) (ds : List DV) (k : DV → Option DV) : Option DV :=
  match ds with
  | [.val (.agg ⟨[.int .i64 a, .int .i64 b]⟩)] => f0 a b (fun c => k (.val (.string c)))
  | _ => none

theorem r_ratio_Text (f0 : Int → Int → KT → Option DV) (f1 : Int → Int → KB → Option DV) (a b : Int) (k : DV → Option DV) : B_ratio_Text f0 f1 a b (fun c => k (.val (.string c))) = pevF Tryz.prog (tab [(31, (KK_ratio_Is f1)), (54, (KK_strconv_FormatInt f0))]) [] 64 Tryz.f84 (bodyOf Tryz.f84) [.val (.agg ⟨[.int .i64 a, .int .i64 b]⟩)] k := by kernel_rfl

theorem m_ratio_Text : Meets Tryz.prog Inv 84 (KK_ratio_Text ratio_Text) :=
  meets_of_pev mixed stab (tab_cons m_ratio_Is (tab_cons m_strconv_FormatInt (tab_nil _ _))) Tryz.func84 (by kernel_rfl) (by kernel_rfl) (by
    intro ds; unfold KK_ratio_Text; split
    · exact .inr ⟨[], 64, fun k => r_ratio_Text strconv_FormatInt ratio_Is _ _ k⟩
    · exact .inl (fun _ => rfl))

noncomputable def B_span_endText (f0 : Int → Int → KT → Option DV) (f1 : Int → Int → KB → Option DV) (a b : Int) (k : KT) : Option DV :=
  f1 a b (fun c => bif c then (k (⟨#[42]⟩)) else (f0 a b (fun d => k d)))
noncomputable def span_endText (a b : Int) (k : KT) : Option DV := B_span_endText ratio_Text span_isOpen a b k

noncomputable def KK_span_endText (f0 : Int → Int → KT → Option DV) (ds : List DV) (k : DV → Option DV) : Option DV :=
  match ds with
  | [.val (.agg ⟨[.int .i64 a, .int .i64 b]⟩)] => f0 a b (fun c => k (.val (.string c)))
  | _ => none

theorem r_span_endText (f0 : Int → Int → KT → Option DV) (f1 : Int → Int → KB → Option DV) (a b : Int) (k : DV → Option DV) : B_span_endText f0 f1 a b (fun c => k (.val (.string c))) = pevF Tryz.prog (tab [(26, (KK_span_isOpen f1)), (84, (KK_ratio_Text f0))]) [] 64 Tryz.f53 (bodyOf Tryz.f53) [.val (.agg ⟨[.int .i64 a, .int .i64 b]⟩)] k := by kernel_rfl

theorem m_span_endText : Meets Tryz.prog Inv 53 (KK_span_endText span_endText) :=
  meets_of_pev mixed stab (tab_cons m_span_isOpen (tab_cons m_ratio_Text (tab_nil _ _))) Tryz.func53 (by kernel_rfl) (by kernel_rfl) (by
    intro ds; unfold KK_span_endText; split
    · exact .inr ⟨[], 64, fun k => r_span_endText ratio_Text span_isOpen _ _ k⟩
    · exact .inl (fun _ => rfl))

noncomputable def B_span_Text (f0 : Int → Int → KT → Option DV) (f1 : Int → Int → KT → Option DV) (f2 : Int → Int → Int → Int → Int → Bool → Bool → KS → Option DV) (e f g h i : Int) (j l : Bool) (k : KT) : Option DV :=
  f2 e f g h i j l (fun m n o p q d r => bif !r then (f1 m n (fun a => bif decide (((ByteArray.size (⟨#[91]⟩) + ByteArray.size a : Nat) : Int) > IntKind.max .i64) then none else (bif decide (((ByteArray.size ((⟨#[91]⟩) ++ a) + ByteArray.size (⟨#[44]⟩) : Nat) : Int) > IntKind.max .i64) then none else (f1 o p (fun b => bif decide (((ByteArray.size (((⟨#[91]⟩) ++ a) ++ (⟨#[44]⟩)) + ByteArray.size b : Nat) : Int) > IntKind.max .i64) then none else (bif decide (((ByteArray.size ((((⟨#[91]⟩) ++ a) ++ (⟨#[44]⟩)) ++ b) + ByteArray.size (⟨#[93, 47]⟩) : Nat) : Int) > IntKind.max .i64) then none else (f0 q 10 (fun c => bif decide (((ByteArray.size (((((⟨#[91]⟩) ++ a) ++ (⟨#[44]⟩)) ++ b) ++ (⟨#[93, 47]⟩)) + ByteArray.size c : Nat) : Int) > IntKind.max .i64) then none else (bif d then (bif decide (((ByteArray.size ((((((⟨#[91]⟩) ++ a) ++ (⟨#[44]⟩)) ++ b) ++ (⟨#[93, 47]⟩)) ++ c) + ByteArray.size (⟨#[32, 110, 111, 110, 101]⟩) : Nat) : Int) > IntKind.max .i64) then none else (k (((((((⟨#[91]⟩) ++ a) ++ (⟨#[44]⟩)) ++ b) ++ (⟨#[93, 47]⟩)) ++ c) ++ (⟨#[32, 110, 111, 110, 101]⟩)))) else (k ((((((⟨#[91]⟩) ++ a) ++ (⟨#[44]⟩)) ++ b) ++ (⟨#[93, 47]⟩)) ++ c))))))))))) else (bif d then (bif decide (((ByteArray.size (⟨#[91, 93]⟩) + ByteArray.size (⟨#[32, 110, 111, 110, 101]⟩) : Nat) : Int) > IntKind.max .i64) then none else (k ((⟨#[91, 93]⟩) ++ (⟨#[32, 110, 111, 110, 101]⟩)))) else (k (⟨#[91, 93]⟩))))
noncomputable def span_Text (a b c d e : Int) (f g : Bool) (k : KT) : Option DV := B_span_Text strconv_FormatInt span_endText span_known a b c d e f g k

noncomputable def KK_span_Text (f0 : Int → Int → Int → Int → Int → Bool → Bool → KT → Option DV) (ds : List DV) (k : DV → Option DV) : Option DV :=
  match ds with
  | [.val (.agg ⟨[.int .i64 a, .int .i64 b, .int .i64 c, .int .i64 d, .int .i64 e, .bool f, .bool g]⟩)] => f0 a b c d e f g (fun h => k (.val (.string h)))
  | _ => none

theorem r_span_Text (f0 : Int → Int → KT → Option DV) (f1 : Int → Int → KT → Option DV) (f2 : Int → Int → Int → Int → Int → Bool → Bool → KS → Option DV) (a b c d e : Int) (f g : Bool) (k : DV → Option DV) : B_span_Text f0 f1 f2 a b c d e f g (fun h => k (.val (.string h))) = pevF Tryz.prog (tab [(21, (KK_span_known f2)), (53, (KK_span_endText f1)), (54, (KK_strconv_FormatInt f0))]) [] 64 Tryz.f14 (bodyOf Tryz.f14) [.val (.agg ⟨[.int .i64 a, .int .i64 b, .int .i64 c, .int .i64 d, .int .i64 e, .bool f, .bool g]⟩)] k := by kernel_rfl

theorem m_span_Text : Meets Tryz.prog Inv 14 (KK_span_Text span_Text) :=
  meets_of_pev mixed stab (tab_cons m_span_known (tab_cons m_span_endText (tab_cons m_strconv_FormatInt (tab_nil _ _)))) Tryz.func14 (by kernel_rfl) (by kernel_rfl) (by
    intro ds; unfold KK_span_Text; split
    · exact .inr ⟨[], 64, fun k => r_span_Text strconv_FormatInt span_endText span_known _ _ _ _ _ _ _ k⟩
    · exact .inl (fun _ => rfl))

noncomputable def B_w3_awake (f0 : Int → Int → Int → Int → Int → Bool → Bool → Int → Int → KB → Option DV) (f1 : Int → Int → Int → Int → Int → Bool → Bool → KT → Option DV) (f2 : ByteArray → Int → Int → Int → Int → Int → Bool → Bool → Int → Int → Int → Int → Int → Bool → Bool → KSE → Option DV) (f3 : Int → Int → Int → Int → Int → KS → Option DV) (f4 : Int → KQ → Option DV)  (k : KB) : Option DV :=
  f4 0 (fun h i => f4 1 (fun j l => f3 h i j l 2 (fun m n o p q r s => f4 0 (fun t u => f4 1 (fun v w => f3 t u v w 3 (fun x y z aa ab ac ad => f2 (⟨#[97, 100, 100]⟩) m n o p q r s x y z aa ab ac ad (fun a b c d e f g ae => bif ae == 0 then (f1 a b c d e f g (fun af => bif (toList af == toList (⟨#[91, 48, 44, 50, 93, 47, 54]⟩)) then (f0 a b c d e f g 5 6 (fun ag => bif ag then (f0 a b c d e f g 5 4 (fun ah => k (!ah))) else (k false))) else (k false))) else (k false))))))))
noncomputable def w3_awake  (k : KB) : Option DV := B_w3_awake span_Has span_Text span_Op_n2 span_Make s1_Whole  k

noncomputable def KK_w3_awake (f0 : KB → Option DV) (ds : List DV) (k : DV → Option DV) : Option DV :=
  match ds with
  | [] => f0  (fun a => k (.val (.bool a)))
  | _ => none

theorem r_w3_awake (f0 : Int → Int → Int → Int → Int → Bool → Bool → Int → Int → KB → Option DV) (f1 : Int → Int → Int → Int → Int → Bool → Bool → KT → Option DV) (f2 : ByteArray → Int → Int → Int → Int → Int → Bool → Bool → Int → Int → Int → Int → Int → Bool → Bool → KSE → Option DV) (f3 : Int → Int → Int → Int → Int → KS → Option DV) (f4 : Int → KQ → Option DV)  (k : DV → Option DV) : B_w3_awake f0 f1 f2 f3 f4  (fun a => k (.val (.bool a))) = pevF Tryz.prog (tab [(9, (KK_span_Op span_Op_n0 span_Op_n1 f2 span_Op_n3 span_Op_m4)), (10, (KK_span_Has f0)), (12, (KK_span_Make f3)), (13, (KK_s1_Whole f4)), (14, (KK_span_Text f1))]) [] 64 Tryz.f5 (bodyOf Tryz.f5) [] k := by kernel_rfl

theorem m_w3_awake : Meets Tryz.prog Inv 5 (KK_w3_awake w3_awake) :=
  meets_of_pev mixed stab (tab_cons m_span_Op (tab_cons m_span_Has (tab_cons m_span_Make (tab_cons m_s1_Whole (tab_cons m_span_Text (tab_nil _ _)))))) Tryz.func5 (by kernel_rfl) (by kernel_rfl) (by
    intro ds; unfold KK_w3_awake; split
    · exact .inr ⟨[], 64, fun k => r_w3_awake span_Has span_Text span_Op_n2 span_Make s1_Whole  k⟩
    · exact .inl (fun _ => rfl))

noncomputable def B_s3_Valid (f0 : KQ → Option DV) (f1 : Int → Int → Int → Int → KI → Option DV) (f2 : Int → Int → KB → Option DV) (f3 : Int → Int → KB → Option DV) (a b c d e : Int) (q f : Bool) (k : KB) : Option DV :=
  bif f then (f0  (fun g h => bif ((a == g) && ((b == h) && true)) then (f0  (fun i j => bif ((c == i) && ((d == j) && true)) then (k (e == 0)) else (k false))) else (k false))) else (f3 a b (fun l => bif !(!l) then (f3 c d (fun m => bif !(!m) then (bif !(decide (e < 0)) then (bif decide (e > 1073741824) then (k false) else (f2 a b (fun n => bif !(!n) then (f2 c d (fun o => bif !(!o) then (f1 a b c d (fun p => k (decide (p ≤ 0)))) else (k true))) else (k true)))) else (k false)) else (k false))) else (k false)))
noncomputable def s3_Valid (a b c d e : Int) (f g : Bool) (k : KB) : Option DV := B_s3_Valid s1_None s1_Cmp s1_Is s1_Valid a b c d e f g k

noncomputable def KK_s3_Valid (f0 : Int → Int → Int → Int → Int → Bool → Bool → KB → Option DV) (ds : List DV) (k : DV → Option DV) : Option DV :=
  match ds with
  | [.val (.agg ⟨[.int .i64 a, .int .i64 b, .int .i64 c, .int .i64 d, .int .i64 e, .bool f, .bool g]⟩)] => f0 a b c d e f g (fun h => k (.val (.bool h)))
  | _ => none

theorem r_s3_Valid (f0 : KQ → Option DV) (f1 : Int → Int → Int → Int → KI → Option DV) (f2 : Int → Int → KB → Option DV) (f3 : Int → Int → KB → Option DV) (a b c d e : Int) (f g : Bool) (k : DV → Option DV) : B_s3_Valid f0 f1 f2 f3 a b c d e f g (fun h => k (.val (.bool h))) = pevF Tryz.prog (tab [(15, (KK_s1_Is f2)), (16, (KK_s1_None f0)), (18, (KK_s1_Cmp f1)), (86, (KK_s1_Valid f3))]) [] 64 Tryz.f56 (bodyOf Tryz.f56) [.val (.agg ⟨[.int .i64 a, .int .i64 b, .int .i64 c, .int .i64 d, .int .i64 e, .bool f, .bool g]⟩)] k := by kernel_rfl

theorem m_s3_Valid : Meets Tryz.prog Inv 56 (KK_s3_Valid s3_Valid) :=
  meets_of_pev mixed stab (tab_cons m_s1_Is (tab_cons m_s1_None (tab_cons m_s1_Cmp (tab_cons m_s1_Valid (tab_nil _ _))))) Tryz.func56 (by kernel_rfl) (by kernel_rfl) (by
    intro ds; unfold KK_s3_Valid; split
    · exact .inr ⟨[], 64, fun k => r_s3_Valid s1_None s1_Cmp s1_Is s1_Valid _ _ _ _ _ _ _ k⟩
    · exact .inl (fun _ => rfl))

noncomputable def B_s3_All   (k : KS) : Option DV :=
  k 0 0 0 0 0 true false
noncomputable def s3_All  (k : KS) : Option DV := B_s3_All   k

noncomputable def KK_s3_All (f0 : KS → Option DV) (ds : List DV) (k : DV → Option DV) : Option DV :=
  match ds with
  | [] => f0  (fun a b c d e f g => k (.val (.agg ⟨[.int .i64 a, .int .i64 b, .int .i64 c, .int .i64 d, .int .i64 e, .bool f, .bool g]⟩)))
  | _ => none

theorem r_s3_All   (k : DV → Option DV) : B_s3_All   (fun a b c d e f g => k (.val (.agg ⟨[.int .i64 a, .int .i64 b, .int .i64 c, .int .i64 d, .int .i64 e, .bool f, .bool g]⟩))) = pevF Tryz.prog (tab []) [] 64 Tryz.f57 (bodyOf Tryz.f57) [] k := by kernel_rfl

theorem m_s3_All : Meets Tryz.prog Inv 57 (KK_s3_All s3_All) :=
  meets_of_pev mixed stab (tab_nil _ _) Tryz.func57 (by kernel_rfl) (by kernel_rfl) (by
    intro ds; unfold KK_s3_All; split
    · exact .inr ⟨[], 64, fun k => r_s3_All   k⟩
    · exact .inl (fun _ => rfl))

noncomputable def B_s3_Clean (f0 : KS → Option DV) (f1 : Int → Int → Int → Int → Int → Bool → Bool → KB → Option DV) (a b c d e : Int) (f g : Bool) (k : KS) : Option DV :=
  f1 a b c d e f g (fun h => bif h then (k a b c d e f g) else (f0  (fun i j l m n o p => k i j l m n o p)))
noncomputable def s3_Clean (a b c d e : Int) (f g : Bool) (k : KS) : Option DV := B_s3_Clean s3_All s3_Valid a b c d e f g k

noncomputable def KK_s3_Clean (f0 : Int → Int → Int → Int → Int → Bool → Bool → KS → Option DV) (ds : List DV) (k : DV → Option DV) : Option DV :=
  match ds with
  | [.val (.agg ⟨[.int .i64 a, .int .i64 b, .int .i64 c, .int .i64 d, .int .i64 e, .bool f, .bool g]⟩)] => f0 a b c d e f g (fun h i j l m n o => k (.val (.agg ⟨[.int .i64 h, .int .i64 i, .int .i64 j, .int .i64 l, .int .i64 m, .bool n, .bool o]⟩)))
  | _ => none

theorem r_s3_Clean (f0 : KS → Option DV) (f1 : Int → Int → Int → Int → Int → Bool → Bool → KB → Option DV) (a b c d e : Int) (f g : Bool) (k : DV → Option DV) : B_s3_Clean f0 f1 a b c d e f g (fun h i j l m n o => k (.val (.agg ⟨[.int .i64 h, .int .i64 i, .int .i64 j, .int .i64 l, .int .i64 m, .bool n, .bool o]⟩))) = pevF Tryz.prog (tab [(56, (KK_s3_Valid f1)), (57, (KK_s3_All f0))]) [] 64 Tryz.f17 (bodyOf Tryz.f17) [.val (.agg ⟨[.int .i64 a, .int .i64 b, .int .i64 c, .int .i64 d, .int .i64 e, .bool f, .bool g]⟩)] k := by kernel_rfl

theorem m_s3_Clean : Meets Tryz.prog Inv 17 (KK_s3_Clean s3_Clean) :=
  meets_of_pev mixed stab (tab_cons m_s3_Valid (tab_cons m_s3_All (tab_nil _ _))) Tryz.func17 (by kernel_rfl) (by kernel_rfl) (by
    intro ds; unfold KK_s3_Clean; split
    · exact .inr ⟨[], 64, fun k => r_s3_Clean s3_All s3_Valid _ _ _ _ _ _ _ k⟩
    · exact .inl (fun _ => rfl))

noncomputable def B_s3_Has (f0 : Int → Int → Int → Int → KI → Option DV) (f1 : Int → Int → KB → Option DV) (f2 : Int → Int → Int → Int → Int → Bool → Bool → KS → Option DV) (h i j l m : Int) (n o : Bool) (c a : Int) (k : KB) : Option DV :=
  f2 h i j l m n o (fun f g d e b p q => f1 c a (fun r => bif !r then (k p) else (bif !q then (f1 f g (fun s => bif s then (f0 c a f g (fun t => bif !(decide (t < 0)) then (f1 d e (fun u => bif u then (f0 c a d e (fun v => bif decide (v > 0) then (k false) else (bif !(b == 0) then (bif a == 0 then none else (k ((Int.tmod b a) == 0))) else (k true)))) else (bif !(b == 0) then (bif a == 0 then none else (k ((Int.tmod b a) == 0))) else (k true)))) else (k false))) else (f1 d e (fun w => bif w then (f0 c a d e (fun x => bif decide (x > 0) then (k false) else (bif !(b == 0) then (bif a == 0 then none else (k ((Int.tmod b a) == 0))) else (k true)))) else (bif !(b == 0) then (bif a == 0 then none else (k ((Int.tmod b a) == 0))) else (k true)))))) else (k false))))
noncomputable def s3_Has (a b c d e : Int) (f g : Bool) (h i : Int) (k : KB) : Option DV := B_s3_Has s1_Cmp s1_Is s3_Clean a b c d e f g h i k

noncomputable def KK_s3_Has (f0 : Int → Int → Int → Int → Int → Bool → Bool → Int → Int → KB → Option DV) (ds : List DV) (k : DV → Option DV) : Option DV :=
  match ds with
  | [.val (.agg ⟨[.int .i64 a, .int .i64 b, .int .i64 c, .int .i64 d, .int .i64 e, .bool f, .bool g]⟩), .val (.agg ⟨[.int .i64 h, .int .i64 i]⟩)] => f0 a b c d e f g h i (fun j => k (.val (.bool j)))
  | _ => none

theorem r_s3_Has (f0 : Int → Int → Int → Int → KI → Option DV) (f1 : Int → Int → KB → Option DV) (f2 : Int → Int → Int → Int → Int → Bool → Bool → KS → Option DV) (a b c d e : Int) (f g : Bool) (h i : Int) (k : DV → Option DV) : B_s3_Has f0 f1 f2 a b c d e f g h i (fun j => k (.val (.bool j))) = pevF Tryz.prog (tab [(15, (KK_s1_Is f1)), (17, (KK_s3_Clean f2)), (18, (KK_s1_Cmp f0))]) [] 64 Tryz.f7 (bodyOf Tryz.f7) [.val (.agg ⟨[.int .i64 a, .int .i64 b, .int .i64 c, .int .i64 d, .int .i64 e, .bool f, .bool g]⟩), .val (.agg ⟨[.int .i64 h, .int .i64 i]⟩)] k := by kernel_rfl

theorem m_s3_Has : Meets Tryz.prog Inv 7 (KK_s3_Has s3_Has) :=
  meets_of_pev mixed stab (tab_cons m_s1_Is (tab_cons m_s3_Clean (tab_cons m_s1_Cmp (tab_nil _ _)))) Tryz.func7 (by kernel_rfl) (by kernel_rfl) (by
    intro ds; unfold KK_s3_Has; split
    · exact .inr ⟨[], 64, fun k => r_s3_Has s1_Cmp s1_Is s3_Clean _ _ _ _ _ _ _ _ _ k⟩
    · exact .inl (fun _ => rfl))

noncomputable def B_span_Fit (f0 : Bool → KS → Option DV) (f1 : Int → Int → KB → Option DV) (f2 : Int → Int → Int → Int → Int → Int → Int → Int → Int → Bool → Bool → KB → Option DV) (f3 : Int → Int → Int → Int → Int → KS → Option DV) (f4 : ByteArray → Int → Int → ByteArray → ByteArray → KQ → Option DV) (f5 : ByteArray → Int → Int → ByteArray → ByteArray → KQ → Option DV) (f6 : ByteArray → Int → Int → ByteArray → ByteArray → KQ → Option DV) (f7 : ByteArray → Int → Int → ByteArray → ByteArray → Int → Int → KQ → Option DV) (f8 : Int → Int → Int → Int → Int → Bool → Bool → KS → Option DV) (f9 : ByteArray → Int → Int → ByteArray → ByteArray → KB → Option DV) (n : ByteArray) (o p : Int) (q l : ByteArray) (x y z aa ab : Int) (ac ad : Bool) (k : KS) : Option DV :=
  f9 n o p q l (fun ae => bif !ae then (f0 true (fun af ag ah ai aj al am => k af ag ah ai aj al am)) else (f8 x y z aa ab ac ad (fun r s t u an v w => bif w then (k r s t u an v w) else (f7 n o p q l r s (fun e f => f7 n o p q l t u (fun c d => f6 n o p q l (fun ao ap => f5 n o p q l (fun aq ar => f4 n o p q l (fun ca au => f3 ao ap aq ar au (fun g h i j a cb b => bif !v then (bif (toList l == toList (⟨#[110, 111, 110, 101]⟩)) then (f1 e f (fun av => bif !av then (f1 c d (fun m => bif (toList l == toList (⟨#[119, 114, 97, 112]⟩)) then (f2 r s t u g h i j a m b (fun aw => bif !aw then (k g h i j a m b) else (f1 e f (fun ax => bif !ax then (f1 c d (fun ay => bif !ay then (k e f c d a m b) else (k e f i j a m b))) else (f1 c d (fun az => bif !az then (k g h c d a m b) else (k g h i j a m b))))))) else (f1 e f (fun ba => bif !ba then (f1 c d (fun bb => bif !bb then (k e f c d a m b) else (k e f i j a m b))) else (f1 c d (fun bc => bif !bc then (k g h c d a m b) else (k g h i j a m b))))))) else (bif (toList l == toList (⟨#[119, 114, 97, 112]⟩)) then (f2 r s t u g h i j a true b (fun bd => bif !bd then (k g h i j a true b) else (f1 e f (fun be => bif !be then (f1 c d (fun bf => bif !bf then (k e f c d a true b) else (k e f i j a true b))) else (f1 c d (fun bg => bif !bg then (k g h c d a true b) else (k g h i j a true b))))))) else (f1 e f (fun bh => bif !bh then (f1 c d (fun bi => bif !bi then (k e f c d a true b) else (k e f i j a true b))) else (f1 c d (fun bj => bif !bj then (k g h c d a true b) else (k g h i j a true b)))))))) else (bif (toList l == toList (⟨#[119, 114, 97, 112]⟩)) then (f2 r s t u g h i j a false b (fun bl => bif !bl then (k g h i j a false b) else (f1 e f (fun bm => bif !bm then (f1 c d (fun bn => bif !bn then (k e f c d a false b) else (k e f i j a false b))) else (f1 c d (fun bo => bif !bo then (k g h c d a false b) else (k g h i j a false b))))))) else (f1 e f (fun bp => bif !bp then (f1 c d (fun bq => bif !bq then (k e f c d a false b) else (k e f i j a false b))) else (f1 c d (fun br => bif !br then (k g h c d a false b) else (k g h i j a false b))))))) else (bif (toList l == toList (⟨#[119, 114, 97, 112]⟩)) then (f2 r s t u g h i j a true b (fun bs => bif !bs then (k g h i j a true b) else (f1 e f (fun bt => bif !bt then (f1 c d (fun bu => bif !bu then (k e f c d a true b) else (k e f i j a true b))) else (f1 c d (fun bv => bif !bv then (k g h c d a true b) else (k g h i j a true b))))))) else (f1 e f (fun bw => bif !bw then (f1 c d (fun bx => bif !bx then (k e f c d a true b) else (k e f i j a true b))) else (f1 c d (fun bz => bif !bz then (k g h c d a true b) else (k g h i j a true b))))))))))))))))
noncomputable def span_Fit (a : ByteArray) (b c : Int) (d e : ByteArray) (f g h i j : Int) (l m : Bool) (k : KS) : Option DV := B_span_Fit span_nothing span_isOpen span_isAmong span_Make quant_Step quant_Greatest quant_Least quant_Fit span_known quant_Valid a b c d e f g h i j l m k

noncomputable def KK_span_Fit (f0 : ByteArray → Int → Int → ByteArray → ByteArray → Int → Int → Int → Int → Int → Bool → Bool → KS → Option DV) (ds : List DV) (k : DV → Option DV) : Option DV :=
  match ds with
  | [.val (.agg ⟨[.string a, .int .i64 b, .int .i64 c, .string d, .string e]⟩), .val (.agg ⟨[.int .i64 f, .int .i64 g, .int .i64 h, .int .i64 i, .int .i64 j, .bool l, .bool m]⟩)] => f0 a b c d e f g h i j l m (fun n o p q r s t => k (.val (.agg ⟨[.int .i64 n, .int .i64 o, .int .i64 p, .int .i64 q, .int .i64 r, .bool s, .bool t]⟩)))
  | _ => none

theorem r_span_Fit (f0 : Bool → KS → Option DV) (f1 : Int → Int → KB → Option DV) (f2 : Int → Int → Int → Int → Int → Int → Int → Int → Int → Bool → Bool → KB → Option DV) (f3 : Int → Int → Int → Int → Int → KS → Option DV) (f4 : ByteArray → Int → Int → ByteArray → ByteArray → KQ → Option DV) (f5 : ByteArray → Int → Int → ByteArray → ByteArray → KQ → Option DV) (f6 : ByteArray → Int → Int → ByteArray → ByteArray → KQ → Option DV) (f7 : ByteArray → Int → Int → ByteArray → ByteArray → Int → Int → KQ → Option DV) (f8 : Int → Int → Int → Int → Int → Bool → Bool → KS → Option DV) (f9 : ByteArray → Int → Int → ByteArray → ByteArray → KB → Option DV) (a : ByteArray) (b c : Int) (d e : ByteArray) (f g h i j : Int) (l m : Bool) (k : DV → Option DV) : B_span_Fit f0 f1 f2 f3 f4 f5 f6 f7 f8 f9 a b c d e f g h i j l m (fun n o p q r s t => k (.val (.agg ⟨[.int .i64 n, .int .i64 o, .int .i64 p, .int .i64 q, .int .i64 r, .bool s, .bool t]⟩))) = pevF Tryz.prog (tab [(12, (KK_span_Make f3)), (19, (KK_quant_Valid f9)), (20, (KK_span_nothing f0)), (21, (KK_span_known f8)), (22, (KK_quant_Fit f7)), (23, (KK_quant_Least f6)), (24, (KK_quant_Greatest f5)), (25, (KK_quant_Step f4)), (26, (KK_span_isOpen f1)), (27, (KK_span_isAmong f2))]) [] 64 Tryz.f8 (bodyOf Tryz.f8) [.val (.agg ⟨[.string a, .int .i64 b, .int .i64 c, .string d, .string e]⟩), .val (.agg ⟨[.int .i64 f, .int .i64 g, .int .i64 h, .int .i64 i, .int .i64 j, .bool l, .bool m]⟩)] k := by kernel_rfl

theorem m_span_Fit : Meets Tryz.prog Inv 8 (KK_span_Fit span_Fit) :=
  meets_of_pev mixed stab (tab_cons m_span_Make (tab_cons m_quant_Valid (tab_cons m_span_nothing (tab_cons m_span_known (tab_cons m_quant_Fit (tab_cons m_quant_Least (tab_cons m_quant_Greatest (tab_cons m_quant_Step (tab_cons m_span_isOpen (tab_cons m_span_isAmong (tab_nil _ _))))))))))) Tryz.func8 (by kernel_rfl) (by kernel_rfl) (by
    intro ds; unfold KK_span_Fit; split
    · exact .inr ⟨[], 64, fun k => r_span_Fit span_nothing span_isOpen span_isAmong span_Make quant_Step quant_Greatest quant_Least quant_Fit span_known quant_Valid _ _ _ _ _ _ _ _ _ _ _ _ k⟩
    · exact .inl (fun _ => rfl))

noncomputable def B_s1_digit (f0 : Int → Int → KI → Option DV) (c a : Int) (k : KI) : Option DV :=
  bif decide (a < 0) then none else (f0 c (IntKind.wrap .i64 (1 * 2 ^ (min (Int.toNat a) (IntKind.bits .i64)))) (fun b => f0 b 2 (fun d => k (IntKind.wrap .i64 (b - (IntKind.wrap .i64 (2 * d)))))))
noncomputable def s1_digit (a b : Int) (k : KI) : Option DV := B_s1_digit s1_FloorDiv a b k

noncomputable def KK_s1_digit (f0 : Int → Int → KI → Option DV) (ds : List DV) (k : DV → Option DV) : Option DV :=
  match ds with
  | [.val (.int .i64 a), .val (.int .i64 b)] => f0 a b (fun c => k (.val (.int .i64 c)))
  | _ => none

theorem r_s1_digit (f0 : Int → Int → KI → Option DV) (a b : Int) (k : DV → Option DV) : B_s1_digit f0 a b (fun c => k (.val (.int .i64 c))) = pevF Tryz.prog (tab [(76, (KK_s1_FloorDiv f0))]) [] 64 Tryz.f112 (bodyOf Tryz.f112) [.val (.int .i64 a), .val (.int .i64 b)] k := by kernel_rfl

theorem m_s1_digit : Meets Tryz.prog Inv 112 (KK_s1_digit s1_digit) :=
  meets_of_pev mixed stab (tab_cons m_s1_FloorDiv (tab_nil _ _)) Tryz.func112 (by kernel_rfl) (by kernel_rfl) (by
    intro ds; unfold KK_s1_digit; split
    · exact .inr ⟨[], 64, fun k => r_s1_digit s1_FloorDiv _ _ k⟩
    · exact .inl (fun _ => rfl))

inductive X_s1_logic_l3 where
  | h0 (a : ByteArray) (b : Int) (c : Int) (d : Int) (e : Int)
def φ_s1_logic_l3 : X_s1_logic_l3 → Nat
  | .h0 b c d e a => Int.toNat (33 - a) + 1

noncomputable def S_s1_logic_l3 : X_s1_logic_l3 → St
  | .h0 a b c d e => ⟨mkT [(0, .dv (.val (.string a))), (1, .dv (.val (.int .i64 b))), (2, .dv (.val (.int .i64 c))), (7, .dv (.val (.int .i64 d))), (8, .dv (.val (.int .i64 e)))] (.leaf .dead), 58, []⟩

noncomputable def oc_s1_logic_l3 (k : KC) : KI := (fun a => k (.exit 0) ⟨mkT [(7, .dv (.val (.int .i64 a)))] (.leaf .dead), 58, []⟩)

noncomputable def B_s1_logic_l3_h0 (f0 : Int → Int → KI → Option DV) (h : X_s1_logic_l3 → Nat) (d : ByteArray) (e : Int) (f : Int) (g : Int) (a : Int) (κn : X_s1_logic_l3 → Option DV) (κ0 : KI) : Option DV :=
  bif decide (a ≤ 32) then (f0 e a (fun b => f0 f a (fun c => bif (toList d == toList (⟨#[97, 110, 100]⟩)) then (bif a == 32 then (κn (X_s1_logic_l3.h0 d e f (IntKind.wrap .i64 (g - (IntKind.wrap .i64 ((IntKind.wrap .i64 (b * c)) * 4294967296)))) (IntKind.wrap .i64 (a + 1)))) else (bif decide (a < 0) then none else (κn (X_s1_logic_l3.h0 d e f (IntKind.wrap .i64 (g + (IntKind.wrap .i64 ((IntKind.wrap .i64 (b * c)) * (IntKind.wrap .i64 (1 * 2 ^ (min (Int.toNat a) (IntKind.bits .i64)))))))) (IntKind.wrap .i64 (a + 1)))))) else (bif (toList d == toList (⟨#[111, 114]⟩)) then (bif a == 32 then (κn (X_s1_logic_l3.h0 d e f (IntKind.wrap .i64 (g - (IntKind.wrap .i64 ((IntKind.wrap .i64 ((IntKind.wrap .i64 (b + c)) - (IntKind.wrap .i64 (b * c)))) * 4294967296)))) (IntKind.wrap .i64 (a + 1)))) else (bif decide (a < 0) then none else (κn (X_s1_logic_l3.h0 d e f (IntKind.wrap .i64 (g + (IntKind.wrap .i64 ((IntKind.wrap .i64 ((IntKind.wrap .i64 (b + c)) - (IntKind.wrap .i64 (b * c)))) * (IntKind.wrap .i64 (1 * 2 ^ (min (Int.toNat a) (IntKind.bits .i64)))))))) (IntKind.wrap .i64 (a + 1)))))) else (bif a == 32 then (κn (X_s1_logic_l3.h0 d e f (IntKind.wrap .i64 (g - (IntKind.wrap .i64 ((IntKind.wrap .i64 ((IntKind.wrap .i64 (b + c)) - (IntKind.wrap .i64 ((IntKind.wrap .i64 (2 * b)) * c)))) * 4294967296)))) (IntKind.wrap .i64 (a + 1)))) else (bif decide (a < 0) then none else (κn (X_s1_logic_l3.h0 d e f (IntKind.wrap .i64 (g + (IntKind.wrap .i64 ((IntKind.wrap .i64 ((IntKind.wrap .i64 (b + c)) - (IntKind.wrap .i64 ((IntKind.wrap .i64 (2 * b)) * c)))) * (IntKind.wrap .i64 (1 * 2 ^ (min (Int.toNat a) (IntKind.bits .i64)))))))) (IntKind.wrap .i64 (a + 1)))))))))) else (κ0 g)

noncomputable def F_s1_logic_l3 (f0 : Int → Int → KI → Option DV) (a : X_s1_logic_l3 → Nat) : X_s1_logic_l3 → (X_s1_logic_l3 → Option DV) → (KI) → Option DV
  | .h0 b c d e f, κn, κ => B_s1_logic_l3_h0 f0 a b c d e f κn κ

noncomputable def dec_s1_logic_l3 (s : St) : Option X_s1_logic_l3 :=
  bindO (xN s.n 58) fun u => bindO (xD (s.tmps.get 0)) fun a => bindO (xS a) fun b => bindO (xD (s.tmps.get 1)) fun c => bindO (xI .i64 c) fun d => bindO (xD (s.tmps.get 2)) fun e => bindO (xI .i64 e) fun f => bindO (xD (s.tmps.get 7)) fun g => bindO (xI .i64 g) fun h => bindO (xD (s.tmps.get 8)) fun i => bindO (xI .i64 i) fun j => bindO (xEnd s.heap) fun l => some (.h0 b d f h j)

noncomputable def R_s1_logic_l3 (f0 : Int → Int → KI → Option DV) (a : X_s1_logic_l3 → Nat) : St → KC → Option DV := decR dec_s1_logic_l3 (F_s1_logic_l3 f0 a) a oc_s1_logic_l3

theorem d_s1_logic_l3 : ∀ s x, dec_s1_logic_l3 s = some x → SLe s (S_s1_logic_l3 x) := by
  intro s x h
  unfold dec_s1_logic_l3 at h
  · obtain ⟨u, en, h⟩ := bindO_some h
    obtain ⟨n, a, h⟩ := bindO_some h
    obtain ⟨o, b, h⟩ := bindO_some h
    obtain ⟨p, c, h⟩ := bindO_some h
    obtain ⟨q, d, h⟩ := bindO_some h
    obtain ⟨r, e, h⟩ := bindO_some h
    obtain ⟨t, f, h⟩ := bindO_some h
    obtain ⟨v, g, h⟩ := bindO_some h
    obtain ⟨w, i, h⟩ := bindO_some h
    obtain ⟨y, j, h⟩ := bindO_some h
    obtain ⟨z, l, h⟩ := bindO_some h
    obtain ⟨aa, m, h⟩ := bindO_some h
    cases h
    exact ⟨le_mkT _ _ (Le.dead _) ⟨.inr ((xD_eq a).trans (congrArg VV.dv (xS_eq b))), .inr ((xD_eq c).trans (congrArg VV.dv (xI_eq d))), .inr ((xD_eq e).trans (congrArg VV.dv (xI_eq f))), .inr ((xD_eq g).trans (congrArg VV.dv (xI_eq i))), .inr ((xD_eq j).trans (congrArg VV.dv (xI_eq l))), trivial⟩, (xN_eq en).symm, by rw [xEnd_eq m]; rfl⟩

noncomputable def B_s1_logic (f0 : Int → Int → KI → Option DV) (a : X_s1_logic_l3 → Nat) (b : ByteArray) (c d : Int) (k : KI) : Option DV :=
  LF (F_s1_logic_l3 f0 a) (a (X_s1_logic_l3.h0 b c d 0 0)) (X_s1_logic_l3.h0 b c d 0 0) ((fun e => k e))
noncomputable def s1_logic (a : ByteArray) (b c : Int) (k : KI) : Option DV := B_s1_logic s1_digit φ_s1_logic_l3 a b c k

noncomputable def KK_s1_logic (f0 : ByteArray → Int → Int → KI → Option DV) (ds : List DV) (k : DV → Option DV) : Option DV :=
  match ds with
  | [.val (.string a), .val (.int .i64 b), .val (.int .i64 c)] => f0 a b c (fun d => k (.val (.int .i64 d)))
  | _ => none

theorem q_s1_logic_l3_h0 (f0 : Int → Int → KI → Option DV) (a : X_s1_logic_l3 → Nat) (b : ByteArray) (c : Int) (d : Int) (e : Int) (f : Int) (κn : St → Option DV) (κ : KC) : pev Tryz.prog (tab [(112, (KK_s1_digit f0))]) (ltab [(3, R_s1_logic_l3 f0 a)]) [(0, [0]), (0, []), (3, [0, 1, 2, 7, 8]), (100003, [7])] 64 (loopB (bodyOf Tryz.f79) 0) (S_s1_logic_l3 (.h0 b c d e f)) (contL [0, 1, 2, 7, 8] [7] κn κ) = F_s1_logic_l3 f0 a (.h0 b c d e f) (fun x => κn (S_s1_logic_l3 x)) (oc_s1_logic_l3 κ) := by kernel_rfl

theorem g_s1_logic_l3 (f0 : Int → Int → KI → Option DV) (a : X_s1_logic_l3 → Nat) (HK : ∀ g, Meets Tryz.prog Inv g (tab [(112, (KK_s1_digit f0))] g)) : RGood Tryz.prog Inv (loopB (bodyOf Tryz.f79) 0) (R_s1_logic_l3 f0 a) :=
  have hL : LGood Tryz.prog Inv (ltab [(3, R_s1_logic_l3 f0 a)]) (loopB (bodyOf Tryz.f79) 0) := (lgood_of (bs := []) (by kernel_rfl) lgood_nil)
  rgood_dec (body := fun s k => pev Tryz.prog (tab [(112, (KK_s1_digit f0))]) (ltab [(3, R_s1_logic_l3 f0 a)]) [(0, [0]), (0, []), (3, [0, 1, 2, 7, 8]), (100003, [7])] 64 (loopB (bodyOf Tryz.f79) 0) s k) (live := [0, 1, 2, 7, 8]) (out := [7]) (S := S_s1_logic_l3) (pev_ok mixed stab HK (ltab [(3, R_s1_logic_l3 f0 a)]) [(0, [0]), (0, []), (3, [0, 1, 2, 7, 8]), (100003, [7])] 64 _ hL) (pev_nat HK (ltab [(3, R_s1_logic_l3 f0 a)]) [(0, [0]), (0, []), (3, [0, 1, 2, 7, 8]), (100003, [7])] 64 _ hL)
    (fun x κn κ => match x with
      | .h0 _ _ _ _ _ => q_s1_logic_l3_h0 f0 a _ _ _ _ _ κn κ
    ) d_s1_logic_l3 a

theorem r_s1_logic (f0 : Int → Int → KI → Option DV) (a : X_s1_logic_l3 → Nat) (b : ByteArray) (c d : Int) (k : DV → Option DV) : B_s1_logic f0 a b c d (fun e => k (.val (.int .i64 e))) = pevL Tryz.prog (tab [(112, (KK_s1_digit f0))]) (ltab [(3, R_s1_logic_l3 f0 a)]) [(0, [0]), (0, []), (3, [0, 1, 2, 7, 8]), (100003, [7])] 64 Tryz.f79 (bodyOf Tryz.f79) [.val (.string b), .val (.int .i64 c), .val (.int .i64 d)] k := by kernel_rfl

theorem m_s1_logic : Meets Tryz.prog Inv 79 (KK_s1_logic s1_logic) :=
  meets_of_pevL mixed stab (tab_cons m_s1_digit (tab_nil _ _)) Tryz.func79 (by kernel_rfl) (by kernel_rfl) (by
    intro ds; unfold KK_s1_logic; split
    · exact .inr ⟨(ltab [(3, R_s1_logic_l3 s1_digit φ_s1_logic_l3)]), [(0, [0]), (0, []), (3, [0, 1, 2, 7, 8]), (100003, [7])], 64, lgood_of (bs := [loopB (bodyOf Tryz.f79) 0]) (by kernel_rfl) (lgood_cons (by kernel_rfl) (g_s1_logic_l3 s1_digit φ_s1_logic_l3 (tab_cons m_s1_digit (tab_nil _ _))) lgood_nil), fun k => r_s1_logic s1_digit φ_s1_logic_l3 _ _ _ k⟩
    · exact .inl (fun _ => rfl))

end Go.Proofs.YtiiddikiaafanaaGreatDoor
