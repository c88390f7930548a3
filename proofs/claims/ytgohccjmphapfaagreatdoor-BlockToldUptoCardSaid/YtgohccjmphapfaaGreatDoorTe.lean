import Derived.Test.YtgohccjmphapfaaGreatDoorTc
set_option linter.all false
noncomputable section
namespace Go.Proofs.YtgohccjmphapfaaGreatDoor
open Go.Pv Go.RowKit
set_option maxRecDepth 100000
def Wat (f0 : W16) (f1 : W2a) (f2 : W16) (f3 : W4u) (f4 : KT → Option DV) (f5 : W19) (a b : W4w) (c d : Int) (e : W4x) (f : W4w) (g h : Int) (i j : W4w) (l : W4x) (k : W4o) : W4y :=
  f5 a b c d e f g h i j l (fun m => bx (!m) (k (⟨#[]⟩) 2) (f2 a b c d e f g h i j l (f4 (fun y3_0 => k y3_0 0)) (fun y4_0 y4_1 => f3 y4_0 y4_1 (fun y5_0 => k y5_0 0))))
def Koe (f0 : W2i) (ds : W4z) (k : W2v) : W4y :=
  match ds with
  | [.agg [.val (.string a), .val (.string b), .val (.int .i64 c), .val (.int .i64 d), .lst 2 e, .val (.string f), .val (.int .i64 g), .val (.int .i64 h), .val (.string i), .val (.string j), .lst 11 l]] => f0 a b c d e f g h i j l (fun m n => k (.val (.tuple ⟨[.string m, .int .i64 n]⟩)))
  | _ => none
def Kxt (N : Nat) : W2i := Wat (K57 N) (K58 N) (K8u N) Ke6 Kr6 (Kjp N)
theorem Wom (f0 : W16) (f1 : W2a) (f2 : W16) (f3 : W4u) (f4 : KT → Option DV) (f5 : W19) : Rd (Koe (Wat f0 f1 f2 f3 f4 f5)) (pevL Tryz.prog (tab [(26, (Kiv f5))] [(33, (Kdr f2 f0 f1)), (34, (Kky f4 f3))]) noL [] 64 Tryz.f17 (Kaf Tryz.f17)) := by
  intro ds; unfold Koe; split
  · exact .inr fun k => by kernel_rfl
  · exact .inl fun _ => rfl
theorem Wau (N : Nat) : Kce Tryz.prog Inv 17 (Koe (Kxt N)) :=
  Kam (lv := []) Kbg stab (Kbs stab (Kaa (K3q N) (Kak _ _)) (Kbp (Wl1 N) (Kbp K7h (Kae _ _)))) Tryz.func17 (by kernel_rfl) (by kernel_rfl) (Kdc.none _ _ _) (Wom (K57 N) (K58 N) (K8u N) Ke6 Kr6 (Kjp N))
def Kov (f0 : W3o) (a : W4w) (b : Bool) (κ0 : W3y) : W4y :=
  f0 a (⟨#[32, 10]⟩) (fun c => κ0 c b)
def Kew (f0 : W3a) (xs : List VV) (H : OH) (k : W29) : W4y :=
  match xs, H with
  | [.ptr 0 0], [some (.cells [.val (.string a), .val (.bool b)])] => f0 a b (fun c d => k (.dv (.val (.tuple ⟨[]⟩))) [some (.cells [.val (.string c), .val (.bool d)])])
  | _, _ => none
def Kdg : W3a := Kov Kro
theorem K59 (f0 : W3o) : RdH 1 (Kew (Kov f0)) (pevH Tryz.prog (tab [(57, (Kxa f0))] []) noL [(0, [0, 1]), (0, [])] 64 Tryz.f36 (Kaf Tryz.f36)) := by
  intro xs H; unfold Kew; split
  · exact .inr ⟨rfl, fun k => by kernel_rfl⟩
  · exact .inl fun _ => rfl
theorem Kkz : Kk0 Tryz.prog Inv 36 (Kew Kdg) :=
  Kmw (lv := [(0, [0, 1]), (0, [])]) Kbg (Kbs stab (Kaa Wec (Kak _ _)) (Kae _ _)) Tryz.func36 (by kernel_rfl) (by kernel_rfl) (Kdc.none _ _ _) (K59 Kro)
def Ksa (f0 : W3a) (f1 : W3b) (a b : W4w) (c : Bool) (κ0 : W4d) : W4y :=
  f0 b c (fun y1_0 y1_1 => f1 y1_0 a (fun d => κ0 d y1_0 y1_1))
def Kge (f0 : W2x) (xs : List VV) (H : OH) (k : W29) : W4y :=
  match xs, H with
  | [.ptr 0 0, .dv (.val (.string a))], [some (.cells [.val (.string b), .val (.bool c)])] => f0 a b c (fun d e f => k (.dv (.val (.bool d))) [some (.cells [.val (.string e), .val (.bool f)])])
  | _, _ => none
def Kfk : W2x := Ksa Kdg Kmz
theorem K9q (f0 : W3a) (f1 : W3b) : RdH 1 (Kge (Ksa f0 f1)) (pevH Tryz.prog (tab [(110, (Ko4 f1))] [(36, (Kew f0))]) noL [(0, [0, 1]), (0, [])] 64 Tryz.f79 (Kaf Tryz.f79)) := by
  intro xs H; unfold Kge; split
  · exact .inr ⟨rfl, fun k => by kernel_rfl⟩
  · exact .inl fun _ => rfl
theorem Ksb : Kk0 Tryz.prog Inv 79 (Kge Kfk) :=
  Kmw (lv := [(0, [0, 1]), (0, [])]) Kbg (Kbs stab (Kaa Wco (Kak _ _)) (Kbp Kkz (Kae _ _))) Tryz.func79 (by kernel_rfl) (by kernel_rfl) (Kdc.none _ _ _) (K9q Kdg Kmz)
def Kof (f0 : W2x) (a b : W4w) (c : Bool) (κ0 : W4d) : W4y :=
  f0 a b c (fun y1_0 y1_1 y1_2 => bx (y1_0) (bx ((decide (0 ≤ (y1_1.size : Int)) && decide ((y1_1.size : Int) ≤ (y1_1.size : Int)) && decide (0 ≤ (a.size : Int)) && decide ((a.size : Int) ≤ (y1_1.size : Int)))) (κ0 y1_0 (ByteArray.extract y1_1 (Int.toNat (a.size : Int)) (Int.toNat (y1_1.size : Int))) y1_2) none) (κ0 y1_0 y1_1 y1_2))
def Kim (f0 : W2x) (xs : List VV) (H : OH) (k : W29) : W4y :=
  match xs, H with
  | [.ptr 0 0, .dv (.val (.string a))], [some (.cells [.val (.string b), .val (.bool c)])] => f0 a b c (fun d e f => k (.dv (.val (.bool d))) [some (.cells [.val (.string e), .val (.bool f)])])
  | _, _ => none
def Ke7 : W2x := Kof Kfk
theorem Wav (f0 : W2x) : RdH 1 (Kim (Kof f0)) (pevH Tryz.prog (tab [] [(79, (Kge f0))]) noL [(0, [0, 1]), (0, [])] 64 Tryz.f53 (Kaf Tryz.f53)) := by
  intro xs H; unfold Kim; split
  · exact .inr ⟨rfl, fun k => by kernel_rfl⟩
  · exact .inl fun _ => rfl
theorem K08 : Kk0 Tryz.prog Inv 53 (Kim Ke7) :=
  Kmw (lv := [(0, [0, 1]), (0, [])]) Kbg (Kbs stab (Kak _ _) (Kbp Ksb (Kae _ _))) Tryz.func53 (by kernel_rfl) (by kernel_rfl) (Kdc.none _ _ _) (Wav Kfk)
def Kxc  (b : Int) (a : W4w) (c : Bool) (κ0 : W3l) : W4y :=
  bx ((decide (0 ≤ b) && decide (b ≤ (a.size : Int)) && decide (0 ≤ 0) && decide (0 ≤ b))) (bx ((decide (0 ≤ (a.size : Int)) && decide ((a.size : Int) ≤ (a.size : Int)) && decide (0 ≤ b) && decide (b ≤ (a.size : Int)))) (κ0 (ByteArray.extract a (Int.toNat 0) (b.toNat)) (ByteArray.extract a (b.toNat) (Int.toNat (a.size : Int))) c) none) none
def Kma (f0 : W3j) (xs : List VV) (H : OH) (k : W29) : W4y :=
  match xs, H with
  | [.ptr 0 0, .dv (.val (.int .i64 a))], [some (.cells [.val (.string b), .val (.bool c)])] => f0 a b c (fun d e f => k (.dv (.val (.string d))) [some (.cells [.val (.string e), .val (.bool f)])])
  | _, _ => none
def Kki : W3j := Kxc
theorem Wcy  : RdH 1 (Kma (Kxc )) (pevH Tryz.prog (tab [] []) noL [(0, [0, 1]), (0, [])] 64 Tryz.f81 (Kaf Tryz.f81)) := by
  intro xs H; unfold Kma; split
  · exact .inr ⟨rfl, fun k => by kernel_rfl⟩
  · exact .inl fun _ => rfl
theorem K4c : Kk0 Tryz.prog Inv 81 (Kma Kki) :=
  Kmw (lv := [(0, [0, 1]), (0, [])]) Kbg (Kbs stab (Kak _ _) (Kae _ _)) Tryz.func81 (by kernel_rfl) (by kernel_rfl) (Kdc.none _ _ _) (Wcy )
def Kxd (f0 : W3a) (f1 : W3j) (f2 : W3p) (b : W4w) (c : Bool) (κ0 : W3l) : W4y :=
  f0 b c (fun y1_0 y1_1 => f2 y1_0 (⟨#[32, 10, 40, 41]⟩) (fun a => bx (decide (a < 0)) (f1 (y1_0.size : Int) y1_0 y1_1 (fun y3_0 y3_1 y3_2 => κ0 y3_0 y3_1 y3_2)) (f1 a y1_0 y1_1 (fun y4_0 y4_1 y4_2 => κ0 y4_0 y4_1 y4_2))))
def Kfl (f0 : W2t) (xs : List VV) (H : OH) (k : W29) : W4y :=
  match xs, H with
  | [.ptr 0 0], [some (.cells [.val (.string a), .val (.bool b)])] => f0 a b (fun c d e => k (.dv (.val (.string c))) [some (.cells [.val (.string d), .val (.bool e)])])
  | _, _ => none
def Kel : W2t := Kxd Kdg Kki strings_IndexAny
theorem Wcz (f0 : W3a) (f1 : W3j) (f2 : W3p) : RdH 1 (Kfl (Kxd f0 f1 f2)) (pevH Tryz.prog (tab [(80, (Kxb f2))] [(36, (Kew f0)), (81, (Kma f1))]) noL [(0, [0, 1]), (0, [])] 64 Tryz.f54 (Kaf Tryz.f54)) := by
  intro xs H; unfold Kfl; split
  · exact .inr ⟨rfl, fun k => by kernel_rfl⟩
  · exact .inl fun _ => rfl
theorem Knb : Kk0 Tryz.prog Inv 54 (Kfl Kel) :=
  Kmw (lv := [(0, [0, 1]), (0, [])]) Kbg (Kbs stab (Kaa Wed (Kak _ _)) (Kbp Kkz (Kbp K4c (Kae _ _)))) Tryz.func54 (by kernel_rfl) (by kernel_rfl) (Kdc.none _ _ _) (Wcz Kdg Kki strings_IndexAny)
def K09  (b : Bool) (a : W4w) (c : Bool) (κ0 : W3y) : W4y :=
  bx (!c) (κ0 a (!b)) (κ0 a true)
def Kd6 (f0 : W21) (xs : List VV) (H : OH) (k : W29) : W4y :=
  match xs, H with
  | [.ptr 0 0, .dv (.val (.bool a))], [some (.cells [.val (.string b), .val (.bool c)])] => f0 a b c (fun d e => k (.dv (.val (.tuple ⟨[]⟩))) [some (.cells [.val (.string d), .val (.bool e)])])
  | _, _ => none
def Kdh : W21 := K09
theorem Waw  : RdH 1 (Kd6 (K09 )) (pevH Tryz.prog (tab [] []) noL [(0, [0, 1]), (0, [])] 64 Tryz.f55 (Kaf Tryz.f55)) := by
  intro xs H; unfold Kd6; split
  · exact .inr ⟨rfl, fun k => by kernel_rfl⟩
  · exact .inl fun _ => rfl
theorem Ki9 : Kk0 Tryz.prog Inv 55 (Kd6 Kdh) :=
  Kmw (lv := [(0, [0, 1]), (0, [])]) Kbg (Kbs stab (Kak _ _) (Kae _ _)) Tryz.func55 (by kernel_rfl) (by kernel_rfl) (Kdc.none _ _ _) (Waw )
def Ksc (f0 : W2t) (f1 : W21) (f2 : W3f) (f3 : W4l) (b : W4w) (c : Bool) (κ0 : W4t) : W4y :=
  f0 b c (fun y1_0 y1_1 y1_2 => f3 y1_0 (fun a => f2 a (fun d => f1 (d.toList == y1_0.toList) y1_1 y1_2 (fun y4_0 y4_1 => κ0 a y4_0 y4_1))) (fun e => f1 false y1_1 y1_2 (fun y6_0 y6_1 => κ0 e y6_0 y6_1)))
def Kh2 (f0 : W3e) (xs : List VV) (H : OH) (k : W29) : W4y :=
  match xs, H with
  | [.ptr 0 0], [some (.cells [.val (.string a), .val (.bool b)])] => f0 a b (fun c d e => k (.dv (.val (.int .i64 c))) [some (.cells [.val (.string d), .val (.bool e)])])
  | _, _ => none
def Kfm : W3e := Ksc Kel Kdh strconv_Itoa Koc
theorem K9r (f0 : W2t) (f1 : W21) (f2 : W3f) (f3 : W4l) : RdH 1 (Kh2 (Ksc f0 f1 f2 f3)) (pevH Tryz.prog (tab [(76, (Klc f2)), (114, (Kyv f3))] [(54, (Kfl f0)), (55, (Kd6 f1))]) noL [(0, [0, 1]), (0, [])] 64 Tryz.f82 (Kaf Tryz.f82)) := by
  intro xs H; unfold Kh2; split
  · exact .inr ⟨rfl, fun k => by kernel_rfl⟩
  · exact .inl fun _ => rfl
theorem Kzr : Kk0 Tryz.prog Inv 82 (Kh2 Kfm) :=
  Kmw (lv := [(0, [0, 1]), (0, [])]) Kbg (Kbs stab (Kaa Kwg (Kaa Wby (Kak _ _))) (Kbp Knb (Kbp Ki9 (Kae _ _)))) Tryz.func82 (by kernel_rfl) (by kernel_rfl) (Kdc.none _ _ _) (K9r Kel Kdh strconv_Itoa Koc)
def Kuu (f0 : W3p) (a c : W4w) (k : W3l) : W4y :=
  f0 a c (fun b => bx (decide (b ≥ 0)) (bx ((decide (0 ≤ b) && decide (b ≤ (a.size : Int)) && decide (0 ≤ 0) && decide (0 ≤ b))) (bx ((decide (0 ≤ (a.size : Int)) && decide ((a.size : Int) ≤ (a.size : Int)) && decide (0 ≤ IntKind.wrap .i64 (b + (c.size : Int))) && decide (IntKind.wrap .i64 (b + (c.size : Int)) ≤ (a.size : Int)))) (k (ByteArray.extract a (Int.toNat 0) (b.toNat)) (ByteArray.extract a (Int.toNat (IntKind.wrap .i64 (b + (c.size : Int)))) (Int.toNat (a.size : Int))) true) none) none) (k a (⟨#[]⟩) false))
def Ktb (f0 : W27) (ds : W4z) (k : W2v) : W4y :=
  match ds with
  | [.val (.string a), .val (.string b)] => f0 a b (fun c d e => k (.val (.tuple ⟨[.string c, .string d, .bool e]⟩)))
  | _ => none
def Kud : W27 := Kuu stringslite_Index
theorem Wfj (f0 : W3p) : Rd (Ktb (Kuu f0)) (pevL Tryz.prog (tab [(144, (Ko7 f0))] []) noL [] 64 Tryz.f164 (Kaf Tryz.f164)) := by
  intro ds; unfold Ktb; split
  · exact .inr fun k => by kernel_rfl
  · exact .inl fun _ => rfl
theorem Wfk : Kce Tryz.prog Inv 164 (Ktb Kud) :=
  Kam (lv := []) Kbg stab (Kbs stab (Kaa K34 (Kak _ _)) (Kae _ _)) Tryz.func164 (by kernel_rfl) (by kernel_rfl) (Kdc.none _ _ _) (Wfj stringslite_Index)
def K2w (f0 : W27) (a b : W4w) (k : W3l) : W4y :=
  f0 a b (fun c d e => k c d e)
def Kwn (f0 : W27) (ds : W4z) (k : W2v) : W4y :=
  match ds with
  | [.val (.string a), .val (.string b)] => f0 a b (fun c d e => k (.val (.tuple ⟨[.string c, .string d, .bool e]⟩)))
  | _ => none
def Kq9 : W27 := K2w Kud
theorem Wl2 (f0 : W27) : Rd (Kwn (K2w f0)) (pevL Tryz.prog (tab [(164, (Ktb f0))] []) noL [] 64 Tryz.f141 (Kaf Tryz.f141)) := by
  intro ds; unfold Kwn; split
  · exact .inr fun k => by kernel_rfl
  · exact .inl fun _ => rfl
theorem Wef : Kce Tryz.prog Inv 141 (Kwn Kq9) :=
  Kam (lv := []) Kbg stab (Kbs stab (Kaa Wfk (Kak _ _)) (Kae _ _)) Tryz.func141 (by kernel_rfl) (by kernel_rfl) (Kdc.none _ _ _) (Wl2 Kud)
def K8v (f0 : W2z) (f1 : W2n) (f2 : W4l) (f3 : W4a) (f4 : W3o) (f5 : W27) (e : W4w) (k : W4k) : W4y :=
  f5 e (⟨#[40]⟩) (fun b f p => f4 f (⟨#[41]⟩) (fun g => f3 g (⟨#[44]⟩) 5 (fun a => bx ((a.length : Int) != 4) (k (⟨#[]⟩) 0 0 (⟨#[]⟩) (⟨#[]⟩) 3) (optE (a[Int.toNat 0]?) (fun h => ld_s h 0 (fun v7 => f2 v7 (fun c => optE (a[Int.toNat 1]?) (fun i => ld_s i 0 (fun v10 => f2 v10 (fun d => optE (a[Int.toNat 2]?) (fun j => ld_s j 0 (fun v13 => optE (a[Int.toNat 3]?) (fun l => ld_s l 0 (fun v15 => f1 b c d v13 v15 (fun m => bx (!(!m)) (f0 b c d v13 v15 (fun n => bx (!(n.toList == e.toList)) (k (⟨#[]⟩) 0 0 (⟨#[]⟩) (⟨#[]⟩) 3) (k b c d v13 v15 0))) (k (⟨#[]⟩) 0 0 (⟨#[]⟩) (⟨#[]⟩) 3))))))) (fun q => k (⟨#[]⟩) 0 0 (⟨#[]⟩) (⟨#[]⟩) 3)))) (fun r => optE (a[Int.toNat 1]?) (fun o => ld_s o 0 (fun v21 => f2 v21 (fun s => k (⟨#[]⟩) 0 0 (⟨#[]⟩) (⟨#[]⟩) 3) (fun t => k (⟨#[]⟩) 0 0 (⟨#[]⟩) (⟨#[]⟩) 3))))))))))
def K0g (f0 : W3r) (ds : W4z) (k : W2v) : W4y :=
  match ds with
  | [.val (.string a)] => f0 a (fun b c d e f g => k (.val (.tuple ⟨[.agg ⟨[.string b, .int .i64 c, .int .i64 d, .string e, .string f]⟩, .int .i64 g]⟩)))
  | _ => none
def K4d : W3r := K8v Knx Kqu Koc strings_SplitN Kn7 Kq9
theorem Wl3 (f0 : W2z) (f1 : W2n) (f2 : W4l) (f3 : W4a) (f4 : W3o) (f5 : W27) : Rd (K0g (K8v f0 f1 f2 f3 f4 f5)) (pevL Tryz.prog (tab [(65, (Krv f1)), (77, (Kq6 f0)), (114, (Kyv f2)), (141, (Kwn f5)), (142, (Kz9 f3)), (143, (Kn6 f4))] []) noL [] 64 Tryz.f115 (Kaf Tryz.f115)) := by
  intro ds; unfold K0g; split
  · exact .inr fun k => by kernel_rfl
  · exact .inl fun _ => rfl
theorem Wl4 : Kce Tryz.prog Inv 115 (K0g K4d) :=
  Kam (lv := []) Kbg stab (Kbs stab (Kaa K8f (Kaa Wap (Kaa Wby (Kaa Wef (Kaa Wgj (Kaa Wbl (Kak _ _))))))) (Kae _ _)) Tryz.func115 (by kernel_rfl) (by kernel_rfl) (Kdc.none _ _ _) (Wl3 Knx Kqu Koc strings_SplitN Kn7 Kq9)
def K4e (f0 : W3p) (a b : W4w) (k : KI) : W4y :=
  f0 a b (fun c => k c)
def Kwx (f0 : W3p) (ds : W4z) (k : W2v) : W4y :=
  match ds with
  | [.val (.string a), .val (.string b)] => f0 a b (fun c => k (.val (.int .i64 c)))
  | _ => none
def K2x : W3p := K4e stringslite_Index
theorem Wi7 (f0 : W3p) : Rd (Kwx (K4e f0)) (pevL Tryz.prog (tab [(144, (Ko7 f0))] []) noL [] 64 Tryz.f116 (Kaf Tryz.f116)) := by
  intro ds; unfold Kwx; split
  · exact .inr fun k => by kernel_rfl
  · exact .inl fun _ => rfl
theorem Wi8 : Kce Tryz.prog Inv 116 (Kwx K2x) :=
  Kam (lv := []) Kbg stab (Kbs stab (Kaa K34 (Kak _ _)) (Kae _ _)) Tryz.func116 (by kernel_rfl) (by kernel_rfl) (Kdc.none _ _ _) (Wi7 stringslite_Index)
def Kue (f0 : W3a) (f1 : W3j) (f2 : W21) (f3 : W3r) (f4 : W3p) (a : W4w) (b : Bool) (κ0 : W4g) : W4y :=
  f0 a b (fun y1_0 y1_1 => f4 y1_0 (⟨#[41]⟩) (fun c => f1 (IntKind.wrap .i64 (c + 1)) y1_0 y1_1 (fun y3_0 y3_1 y3_2 => f3 y3_0 (fun d e f g h i => f2 (i == 0) y3_1 y3_2 (fun y10_0 y10_1 => κ0 d e f g h y10_0 y10_1)))))
def Kin (f0 : W25) (xs : List VV) (H : OH) (k : W29) : W4y :=
  match xs, H with
  | [.ptr 0 0], [some (.cells [.val (.string a), .val (.bool b)])] => f0 a b (fun c d e f g h i => k (.dv (.val (.agg ⟨[.string c, .int .i64 d, .int .i64 e, .string f, .string g]⟩))) [some (.cells [.val (.string h), .val (.bool i)])])
  | _, _ => none
def Khw : W25 := Kue Kdg Kki Kdh K4d K2x
theorem Wax (f0 : W3a) (f1 : W3j) (f2 : W21) (f3 : W3r) (f4 : W3p) : RdH 1 (Kin (Kue f0 f1 f2 f3 f4)) (pevH Tryz.prog (tab [(115, (K0g f3)), (116, (Kwx f4))] [(36, (Kew f0)), (55, (Kd6 f2)), (81, (Kma f1))]) noL [(0, [0, 1]), (0, [])] 64 Tryz.f83 (Kaf Tryz.f83)) := by
  intro xs H; unfold Kin; split
  · exact .inr ⟨rfl, fun k => by kernel_rfl⟩
  · exact .inl fun _ => rfl
theorem K1a : Kk0 Tryz.prog Inv 83 (Kin Khw) :=
  Kmw (lv := [(0, [0, 1]), (0, [])]) Kbg (Kbs stab (Kaa Wl4 (Kaa Wi8 (Kak _ _))) (Kbp Kkz (Kbp Ki9 (Kbp K4c (Kae _ _))))) Tryz.func83 (by kernel_rfl) (by kernel_rfl) (Kdc.none _ _ _) (Wax Kdg Kki Kdh K4d K2x)
def Kxe (f0 : W2t) (f1 : W21) (f2 f3 : W20) (b : W4w) (c : Bool) (κ0 : W3l) : W4y :=
  f0 b c (fun y1_0 y1_1 y1_2 => f3 y1_0 (⟨#[34]⟩) (fun d e => f2 d (⟨#[34]⟩) (fun a f => bx (e) (f1 f y1_1 y1_2 (fun y6_0 y6_1 => κ0 a y6_0 y6_1)) (f1 false y1_1 y1_2 (fun y7_0 y7_1 => κ0 a y7_0 y7_1)))))
def Kjw (f0 : W2t) (xs : List VV) (H : OH) (k : W29) : W4y :=
  match xs, H with
  | [.ptr 0 0], [some (.cells [.val (.string a), .val (.bool b)])] => f0 a b (fun c d e => k (.dv (.val (.string c))) [some (.cells [.val (.string d), .val (.bool e)])])
  | _, _ => none
def Kja : W2t := Kxe Kel Kdh Kp5 Kkh
theorem Wc0 (f0 : W2t) (f1 : W21) (f2 f3 : W20) : RdH 1 (Kjw (Kxe f0 f1 f2 f3)) (pevH Tryz.prog (tab [(117, (Kl5 f3)), (118, (Ko5 f2))] [(54, (Kfl f0)), (55, (Kd6 f1))]) noL [(0, [0, 1]), (0, [])] 64 Tryz.f84 (Kaf Tryz.f84)) := by
  intro xs H; unfold Kjw; split
  · exact .inr ⟨rfl, fun k => by kernel_rfl⟩
  · exact .inl fun _ => rfl
theorem K4f : Kk0 Tryz.prog Inv 84 (Kjw Kja) :=
  Kmw (lv := [(0, [0, 1]), (0, [])]) Kbg (Kbs stab (Kaa K31 (Kaa Wcr (Kak _ _))) (Kbp Knb (Kbp Ki9 (Kae _ _)))) Tryz.func84 (by kernel_rfl) (by kernel_rfl) (Kdc.none _ _ _) (Wc0 Kel Kdh Kp5 Kkh)
def Kwy (f0 : W36) (f1 : W27) (d : W4w) (k : W3w) : W4y :=
  f1 d (⟨#[47]⟩) (fun f g h => bx (h) (f0 f 10 (fun b i => f0 g 10 (fun a j => bx (i) (bx (j) (k b a (a != 0)) (k b a false)) (k b a false)))) (f1 d (⟨#[46]⟩) (fun l m n => f0 l 10 (fun e c => bx (!(!n)) (bx (!c) (k e 1 c) (f0 m 9 (fun p o => bx (!o) (k 0 0 false) none))) (k e 1 c)))))
def Kuv (f0 : W37) (ds : W4z) (k : W2v) : W4y :=
  match ds with
  | [.val (.string a)] => f0 a (fun b c d => k (.val (.tuple ⟨[.int .u64 b, .int .u64 c, .bool d]⟩)))
  | _ => none
def Kmt : W37 := Kwy K0z Kq9
theorem Wgp (f0 : W36) (f1 : W27) : Rd (Kuv (Kwy f0 f1)) (pevL Tryz.prog (tab [(141, (Kwn f1)), (169, (Kyu f0))] []) noL [(0, [0]), (0, [14])] 64 Tryz.f147 (Kaf Tryz.f147)) := by
  intro ds; unfold Kuv; split
  · exact .inr fun k => by kernel_rfl
  · exact .inl fun _ => rfl
theorem Wgq : Kce Tryz.prog Inv 147 (Kuv Kmt) :=
  Kam (lv := [(0, [0]), (0, [14])]) Kbg stab (Kbs stab (Kaa Wef (Kaa Wjk (Kak _ _))) (Kae _ _)) Tryz.func147 (by kernel_rfl) (by kernel_rfl) (Kdc.none _ _ _) (Wgp K0z Kq9)
def K8w (f0 : W2q) (f1 : W39) (f2 : W37) (f3 : W20) (a : W4w) (k : W24) : W4y :=
  bx ((a.toList == ByteArray.toList (⟨#[110, 111, 110, 101]⟩))) (k 0 0 0) (f3 a (⟨#[45]⟩) (fun d e => f2 d (fun f g h => bx (!h) (k 0 0 3) (f1 e f g (fun b c => f0 b c (fun i => bx (!i) (k 0 0 4) (k b c 0)))))))
def K0h (f0 : W38) (ds : W4z) (k : W2v) : W4y :=
  match ds with
  | [.val (.string a)] => f0 a (fun b c d => k (.val (.tuple ⟨[.agg ⟨[.int .i64 b, .int .i64 c]⟩, .int .i64 d]⟩)))
  | _ => none
def K4g : W38 := K8w Knj Kn4 Kmt Kkh
theorem Wl5 (f0 : W2q) (f1 : W39) (f2 : W37) (f3 : W20) : Rd (K0h (K8w f0 f1 f2 f3)) (pevL Tryz.prog (tab [(95, (Kos f0)), (117, (Kl5 f3)), (147, (Kuv f2)), (148, (Ktx f1))] []) noL [] 64 Tryz.f119 (Kaf Tryz.f119)) := by
  intro ds; unfold K0h; split
  · exact .inr fun k => by kernel_rfl
  · exact .inl fun _ => rfl
theorem Wl6 : Kce Tryz.prog Inv 119 (K0h K4g) :=
  Kam (lv := []) Kbg stab (Kbs stab (Kaa Kzy (Kaa K31 (Kaa Wgq (Kaa Wbx (Kak _ _))))) (Kae _ _)) Tryz.func119 (by kernel_rfl) (by kernel_rfl) (Kdc.none _ _ _) (Wl5 Knj Kn4 Kmt Kkh)
def Kuf (f0 : W2t) (f1 : W21) (f2 : W28) (f3 : W38) (c : W4w) (d : Bool) (κ0 : W4r) : W4y :=
  f0 c d (fun y1_0 y1_1 y1_2 => f3 y1_0 (fun a b e => bx (e == 0) (f2 a b (fun f => f1 (f.toList == y1_0.toList) y1_1 y1_2 (fun y6_0 y6_1 => κ0 a b y6_0 y6_1))) (f1 false y1_1 y1_2 (fun y7_0 y7_1 => κ0 a b y7_0 y7_1))))
def Kio (f0 : W3c) (xs : List VV) (H : OH) (k : W29) : W4y :=
  match xs, H with
  | [.ptr 0 0], [some (.cells [.val (.string a), .val (.bool b)])] => f0 a b (fun c d e f => k (.dv (.val (.agg ⟨[.int .i64 c, .int .i64 d]⟩))) [some (.cells [.val (.string e), .val (.bool f)])])
  | _, _ => none
def Ki0 : W3c := Kuf Kel Kdh Kny K4g
theorem Way (f0 : W2t) (f1 : W21) (f2 : W28) (f3 : W38) : RdH 1 (Kio (Kuf f0 f1 f2 f3)) (pevH Tryz.prog (tab [(78, (Kq7 f2)), (119, (K0h f3))] [(54, (Kfl f0)), (55, (Kd6 f1))]) noL [(0, [0, 1]), (0, [])] 64 Tryz.f85 (Kaf Tryz.f85)) := by
  intro xs H; unfold Kio; split
  · exact .inr ⟨rfl, fun k => by kernel_rfl⟩
  · exact .inl fun _ => rfl
theorem K1b : Kk0 Tryz.prog Inv 85 (Kio Ki0) :=
  Kmw (lv := [(0, [0, 1]), (0, [])]) Kbg (Kbs stab (Kaa War (Kaa Wl6 (Kak _ _))) (Kbp Knb (Kbp Ki9 (Kae _ _)))) Tryz.func85 (by kernel_rfl) (by kernel_rfl) (Kdc.none _ _ _) (Way Kel Kdh Kny K4g)
end Go.Proofs.YtgohccjmphapfaaGreatDoor
end

noncomputable section
namespace Go.Proofs.YtgohccjmphapfaaGreatDoor
open Go.Pv Go.RowKit
set_option maxRecDepth 100000
def BP1 : BP := .mix [.d .s, .d .s, .d (.i .i64), .d (.i .i64), .d .z, .d .s, .d (.i .i64), .d (.i .i64), .d .s, .d .s, .d .z]
def BP2 : BP := .mix [.d .s, .d .s, .d (.i .i64), .d (.i .i64), .osl 38 2 3 0, .d .s, .d (.i .i64), .d (.i .i64), .d .s, .d .s, .d .z]
def BP3 : BP := .mix [.d .s, .d .s, .d (.i .i64), .d (.i .i64), .osl 38 2 2 0, .d .s, .d (.i .i64), .d (.i .i64), .d .s, .d .s, .d .z]
inductive Kac where
  | h0 (a : W4w) (b : Bool) (c d : W4w) (e f : Int) (g : W4w) (h i : Int) (j l : W4w) (m n o p : Int) (q r s : Bool)
  | h1 (a : W4w) (b : Bool) (c d : W4w) (e f : Int) (g : Nat) (h : W4w) (i j : Int) (l m : W4w) (n o p q : Int) (r s t : Bool) (u : W4z)
def Ka1 : Kac → Nat
  | .h0 a b c d e f g h i j l m n o p q r s => a.size + 1
  | .h1 a b c d e f g h i j l m n o p q r s t u => a.size + 1
def Kug : SP := ⟨[(0, .ptr 0 0), (1, .ptr 1 0), (5, .ptr 2 0)], 61, [.cs [.s, .b], BP1, .cs [.i .i64, .i .i64, .i .i64, .i .i64, .b, .b, .b]]⟩
def Kuh : Args → Option Kac
  | [.s a, .b c, .s d, .s e, .i f, .i g, .s h, .i j, .i l, .s m, .s n, .i o, .i p, .i q, .i r, .b t, .b u, .b v] => some (.h0 a c d e f g h j l m n o p q r t u v)
  | _ => none
def Kui : SP := ⟨[(0, .ptr 0 0), (1, .ptr 1 0), (5, .ptr 2 0)], 61, [.cs [.s, .b], BP2, .cs [.i .i64, .i .i64, .i .i64, .i .i64, .b, .b, .b], .raw]⟩
def Kuj : Args → Option Kac
  | [.s a, .b d, .s e, .s f, .i g, .i h, .n j, .s l, .i m, .i o, .s p, .s q, .i r, .i t, .i u, .i v, .b w, .b x, .b y, .c z] => some (.h1 a d e f g h j l m o p q r t u v w x y z)
  | _ => none
def Kjb : Kac → St
  | .h0 a d e f g h j l m o p q r t u v w x => fS Kug [.s a, .b d, .s e, .s f, .i g, .i h, .s j, .i l, .i m, .s o, .s p, .i q, .i r, .i t, .i u, .b v, .b w, .b x]
  | .h1 a d e f g h j l m o p q r t u v w x y z => fS Kui [.s a, .b d, .s e, .s f, .i g, .i h, .n j, .s l, .i m, .i o, .s p, .s q, .i r, .i t, .i u, .i v, .b w, .b x, .b y, .c z]
def Kwo (k : KC) : (ByteArray → Bool → ByteArray → ByteArray → Int → Int → ByteArray → Int → Int → ByteArray → ByteArray → Option DV) × (ByteArray → Bool → ByteArray → ByteArray → Int → Int → Nat → ByteArray → Int → Int → ByteArray → ByteArray → List DV → Option DV) := (fun a d e f g h j l m o p => k (.exit 0) (fS ⟨[], 61, [.cs [.s, .b], BP1]⟩ [.s a, .b d, .s e, .s f, .i g, .i h, .s j, .i l, .i m, .s o, .s p]), fun a d e f g h j l m o p q r => k (.exit 0) (fS ⟨[], 61, [.cs [.s, .b], BP3, .raw]⟩ [.s a, .b d, .s e, .s f, .i g, .i h, .n j, .s l, .i m, .i o, .s p, .s q, .c r]))
def Kax (f0 : W3e) (f1 : W25) (f2 : W2t) (f3 : W2x) (f4 : W3c) : Kac → (Kac → Option DV) → ((ByteArray → Bool → ByteArray → ByteArray → Int → Int → ByteArray → Int → Int → ByteArray → ByteArray → Option DV) × (ByteArray → Bool → ByteArray → ByteArray → Int → Int → Nat → ByteArray → Int → Int → ByteArray → ByteArray → List DV → Option DV)) → Option DV
  | .h0 l b c d e f a g h i j m p q r s t o, κn, κ => bx (o) (bx (!b) (f3 (⟨#[41]⟩) l b (fun y5_0 y5_1 y5_2 => bx (!y5_0) (f4 y5_1 y5_2 (fun y6_0 y6_1 y6_2 y6_3 => κn (Kac.h1 y6_2 y6_3 c d e f 1 a g h i j m p q r s t o ([.val (.int .i64 y6_0), .val (.int .i64 y6_1)])))) (κ.1 y5_1 y5_2 c d e f a g h i j))) (κ.1 l b c d e f a g h i j)) (κ.1 l b c d e f a g h i j)
  | .h1 l b c d e f a g h i j m p q r s t o u n, κn, κ => bx (u) (bx (!b) (f3 (⟨#[41]⟩) l b (fun y7_0 y7_1 y7_2 => bx (!y7_0) (f4 y7_1 y7_2 (fun y8_0 y8_1 y8_2 y8_3 => bx ((true && true && Nat.ble (a * 2) (n.length) && Nat.ble (a + 1) maxLen && Nat.ble ((a + 1) * 16) 140737488355328)) (κn (Kac.h1 y8_2 y8_3 c d e f (a + 1) g h i j m p q r s t o u (List.take (a * 2) n ++ [.val (.int .i64 y8_0), .val (.int .i64 y8_1)]))) none)) (κ.2 y7_1 y7_2 c d e f a g h i j m n))) (κ.2 l b c d e f a g h i j m n)) (κ.2 l b c d e f a g h i j m n)
def Kvf (s : St) : Option Kac := orO (hdO Kug Kuh s) (hdO Kui Kuj s)
def Kp9 (f0 : W3e) (f1 : W25) (f2 : W2t) (f3 : W2x) (f4 : W3c) : St → KC → Option DV := decR Kvf (Kax f0 f1 f2 f3 f4) Ka1 Kwo
theorem K7p : ∀ s x, Kvf s = some x → SLe s (Kjb x) := fun _ _ => (Kx6 (Kec (S := Kjb) fun a x h => by unfold Kuh at h; split at h <;> cases h; rfl) (Kec (S := Kjb) fun a x h => by unfold Kuj at h; split at h <;> cases h; rfl))
def Kuk (f0 : W3e) (f1 : W25) (f2 : W2t) (f3 : W2x) (f4 : W3c) (d e f c : Int) (b a g : Bool) (r : W4w) (s : Bool) (h i : W4w) (j l : Int) (m : W4w) (n o : Int) (p q : W4w) (κ0 : W3k) (κ1 : W3g) : W4y :=
  bx (decide (c ≥ 1)) (f0 r s (fun y1_0 y1_1 y1_2 => bx (decide (c ≥ 2)) (f0 y1_1 y1_2 (fun y2_0 y2_1 y2_2 => bx (b) (f1 y2_1 y2_2 (fun y3_0 y3_1 y3_2 y3_3 y3_4 y3_5 y3_6 => bx (a) (f2 y3_5 y3_6 (fun y4_0 y4_1 y4_2 => LF (Kax f0 f1 f2 f3 f4) (Ka1 (Kac.h0 y4_1 y4_2 h y4_0 y1_0 y2_0 y3_0 y3_1 y3_2 y3_3 y3_4 d e f c b a g)) (Kac.h0 y4_1 y4_2 h y4_0 y1_0 y2_0 y3_0 y3_1 y3_2 y3_3 y3_4 d e f c b a g) ((fun t u v w x y z aa ab ac ad => κ0 t u v w x y z aa ab ac ad), (fun ae af ag ah ai aj al am an ao ap aq ar => κ1 ae af ag ah ai aj al am an ao ap aq ar)))) (LF (Kax f0 f1 f2 f3 f4) (Ka1 (Kac.h0 y3_5 y3_6 h i y1_0 y2_0 y3_0 y3_1 y3_2 y3_3 y3_4 d e f c b a g)) (Kac.h0 y3_5 y3_6 h i y1_0 y2_0 y3_0 y3_1 y3_2 y3_3 y3_4 d e f c b a g) ((fun au av aw ax ay az ba bb bc bd be => κ0 au av aw ax ay az ba bb bc bd be), (fun bf bg bh bi bj bl bm bn bo bp bq br bs => κ1 bf bg bh bi bj bl bm bn bo bp bq br bs))))) (bx (a) (f2 y2_1 y2_2 (fun y13_0 y13_1 y13_2 => LF (Kax f0 f1 f2 f3 f4) (Ka1 (Kac.h0 y13_1 y13_2 h y13_0 y1_0 y2_0 m n o p q d e f c b a g)) (Kac.h0 y13_1 y13_2 h y13_0 y1_0 y2_0 m n o p q d e f c b a g) ((fun bt bu bv bw bz ca cb cc cd ce cf => κ0 bt bu bv bw bz ca cb cc cd ce cf), (fun cg ch ci cj cl cm cn co cp cq cr cs ct => κ1 cg ch ci cj cl cm cn co cp cq cr cs ct)))) (LF (Kax f0 f1 f2 f3 f4) (Ka1 (Kac.h0 y2_1 y2_2 h i y1_0 y2_0 m n o p q d e f c b a g)) (Kac.h0 y2_1 y2_2 h i y1_0 y2_0 m n o p q d e f c b a g) ((fun cu cv cw cx cy cz da db dc dd de => κ0 cu cv cw cx cy cz da db dc dd de), (fun df dg dh di dj dl dm dn dp dq dr ds dt => κ1 df dg dh di dj dl dm dn dp dq dr ds dt)))))) (bx (b) (f1 y1_1 y1_2 (fun y18_0 y18_1 y18_2 y18_3 y18_4 y18_5 y18_6 => bx (a) (f2 y18_5 y18_6 (fun y19_0 y19_1 y19_2 => LF (Kax f0 f1 f2 f3 f4) (Ka1 (Kac.h0 y19_1 y19_2 h y19_0 y1_0 l y18_0 y18_1 y18_2 y18_3 y18_4 d e f c b a g)) (Kac.h0 y19_1 y19_2 h y19_0 y1_0 l y18_0 y18_1 y18_2 y18_3 y18_4 d e f c b a g) ((fun du dv dw dx dy dz ea eb ec ed ee => κ0 du dv dw dx dy dz ea eb ec ed ee), (fun ef eg eh ei ej el em en eo ep eq er es => κ1 ef eg eh ei ej el em en eo ep eq er es)))) (LF (Kax f0 f1 f2 f3 f4) (Ka1 (Kac.h0 y18_5 y18_6 h i y1_0 l y18_0 y18_1 y18_2 y18_3 y18_4 d e f c b a g)) (Kac.h0 y18_5 y18_6 h i y1_0 l y18_0 y18_1 y18_2 y18_3 y18_4 d e f c b a g) ((fun et eu ev ew ex ey ez fa fb fc fd => κ0 et eu ev ew ex ey ez fa fb fc fd), (fun fe ff fg fh fi fj fl fm fn fo fp fq fr => κ1 fe ff fg fh fi fj fl fm fn fo fp fq fr))))) (bx (a) (f2 y1_1 y1_2 (fun y24_0 y24_1 y24_2 => LF (Kax f0 f1 f2 f3 f4) (Ka1 (Kac.h0 y24_1 y24_2 h y24_0 y1_0 l m n o p q d e f c b a g)) (Kac.h0 y24_1 y24_2 h y24_0 y1_0 l m n o p q d e f c b a g) ((fun fs ft fu fv fw fx fy fz ga gb gc => κ0 fs ft fu fv fw fx fy fz ga gb gc), (fun gd ge gf gg gh gi gj gl gm gn go gp gq => κ1 gd ge gf gg gh gi gj gl gm gn go gp gq)))) (LF (Kax f0 f1 f2 f3 f4) (Ka1 (Kac.h0 y1_1 y1_2 h i y1_0 l m n o p q d e f c b a g)) (Kac.h0 y1_1 y1_2 h i y1_0 l m n o p q d e f c b a g) ((fun gr gs gt gu gv gw gx gy gz ha hb => κ0 gr gs gt gu gv gw gx gy gz ha hb), (fun hc hd he hf hg hh hi hj hl hm hn ho hp => κ1 hc hd he hf hg hh hi hj hl hm hn ho hp))))))) (bx (decide (c ≥ 2)) (f0 r s (fun y29_0 y29_1 y29_2 => bx (b) (f1 y29_1 y29_2 (fun y30_0 y30_1 y30_2 y30_3 y30_4 y30_5 y30_6 => bx (a) (f2 y30_5 y30_6 (fun y31_0 y31_1 y31_2 => LF (Kax f0 f1 f2 f3 f4) (Ka1 (Kac.h0 y31_1 y31_2 h y31_0 j y29_0 y30_0 y30_1 y30_2 y30_3 y30_4 d e f c b a g)) (Kac.h0 y31_1 y31_2 h y31_0 j y29_0 y30_0 y30_1 y30_2 y30_3 y30_4 d e f c b a g) ((fun hq hr hs ht hu hv hw hx hy hz ia => κ0 hq hr hs ht hu hv hw hx hy hz ia), (fun ib ic id ie ig ih ii ij il im io ip iq => κ1 ib ic id ie ig ih ii ij il im io ip iq)))) (LF (Kax f0 f1 f2 f3 f4) (Ka1 (Kac.h0 y30_5 y30_6 h i j y29_0 y30_0 y30_1 y30_2 y30_3 y30_4 d e f c b a g)) (Kac.h0 y30_5 y30_6 h i j y29_0 y30_0 y30_1 y30_2 y30_3 y30_4 d e f c b a g) ((fun ir it iu iv iw ix iy iz ja jb jc => κ0 ir it iu iv iw ix iy iz ja jb jc), (fun jd je jf jg jh ji jj jl jm jn jo jp jq => κ1 jd je jf jg jh ji jj jl jm jn jo jp jq))))) (bx (a) (f2 y29_1 y29_2 (fun y36_0 y36_1 y36_2 => LF (Kax f0 f1 f2 f3 f4) (Ka1 (Kac.h0 y36_1 y36_2 h y36_0 j y29_0 m n o p q d e f c b a g)) (Kac.h0 y36_1 y36_2 h y36_0 j y29_0 m n o p q d e f c b a g) ((fun jr js jt ju jv jw jx jy jz la lb => κ0 jr js jt ju jv jw jx jy jz la lb), (fun lc ld le lf lg lh li lj ll lm ln lo lp => κ1 lc ld le lf lg lh li lj ll lm ln lo lp)))) (LF (Kax f0 f1 f2 f3 f4) (Ka1 (Kac.h0 y29_1 y29_2 h i j y29_0 m n o p q d e f c b a g)) (Kac.h0 y29_1 y29_2 h i j y29_0 m n o p q d e f c b a g) ((fun lq lr ls lt lu lv lw lx ly lz ma => κ0 lq lr ls lt lu lv lw lx ly lz ma), (fun mb mc md me mf mg mh mi mj ml mm mn mo => κ1 mb mc md me mf mg mh mi mj ml mm mn mo)))))) (bx (b) (f1 r s (fun y41_0 y41_1 y41_2 y41_3 y41_4 y41_5 y41_6 => bx (a) (f2 y41_5 y41_6 (fun y42_0 y42_1 y42_2 => LF (Kax f0 f1 f2 f3 f4) (Ka1 (Kac.h0 y42_1 y42_2 h y42_0 j l y41_0 y41_1 y41_2 y41_3 y41_4 d e f c b a g)) (Kac.h0 y42_1 y42_2 h y42_0 j l y41_0 y41_1 y41_2 y41_3 y41_4 d e f c b a g) ((fun mp mq mr ms mt mu mv mw mx my mz => κ0 mp mq mr ms mt mu mv mw mx my mz), (fun na nb nc nd ne nf ng nh ni nj nl nm nn => κ1 na nb nc nd ne nf ng nh ni nj nl nm nn)))) (LF (Kax f0 f1 f2 f3 f4) (Ka1 (Kac.h0 y41_5 y41_6 h i j l y41_0 y41_1 y41_2 y41_3 y41_4 d e f c b a g)) (Kac.h0 y41_5 y41_6 h i j l y41_0 y41_1 y41_2 y41_3 y41_4 d e f c b a g) ((fun no np nq nr ns nt nu nv nw nx ny => κ0 no np nq nr ns nt nu nv nw nx ny), (fun nz oa ob oc od oe og oh oi oj ol om on => κ1 nz oa ob oc od oe og oh oi oj ol om on))))) (bx (a) (f2 r s (fun y47_0 y47_1 y47_2 => LF (Kax f0 f1 f2 f3 f4) (Ka1 (Kac.h0 y47_1 y47_2 h y47_0 j l m n o p q d e f c b a g)) (Kac.h0 y47_1 y47_2 h y47_0 j l m n o p q d e f c b a g) ((fun oo op oq os ot ou ov ow ox oy oz => κ0 oo op oq os ot ou ov ow ox oy oz), (fun pa pb pc pd pe pf pg ph pi pj pl pm pn => κ1 pa pb pc pd pe pf pg ph pi pj pl pm pn)))) (LF (Kax f0 f1 f2 f3 f4) (Ka1 (Kac.h0 r s h i j l m n o p q d e f c b a g)) (Kac.h0 r s h i j l m n o p q d e f c b a g) ((fun po pp pq pr ps pt pu pv pw px py => κ0 po pp pq pr ps pt pu pv pw px py), (fun pz qa qb qc qd qe qf qg qh qi qj ql qm => κ1 pz qa qb qc qd qe qf qg qh qi qj ql qm))))))
def Kip (f0 : W2j) (xs : List VV) (H : OH) (k : W29) : W4y :=
  match xs, H with
  | [.ptr 0 0, .ptr 1 0, .dv (.val (.agg ⟨[.int .i64 m, .int .i64 n, .int .i64 o, .int .i64 p, .bool q, .bool r, .bool s]⟩))], [some (.cells [.val (.string t), .val (.bool u)]), some (.mix [.dv (.val (.string v)), .dv (.val (.string w)), .dv (.val (.int .i64 x)), .dv (.val (.int .i64 y)), .dv (.val (.slice none 0 0)), .dv (.val (.string z)), .dv (.val (.int .i64 aa)), .dv (.val (.int .i64 ab)), .dv (.val (.string ac)), .dv (.val (.string ad)), .dv (.val (.slice none 0 0))])] => f0 m n o p q r s t u v w x y z aa ab ac ad (fun a b c d e f g h i j l => k (.dv (.val (.tuple ⟨[]⟩))) [some (.cells [.val (.string a), .val (.bool b)]), some (.mix [.dv (.val (.string c)), .dv (.val (.string d)), .dv (.val (.int .i64 e)), .dv (.val (.int .i64 f)), .dv (.val (.slice none 0 0)), .dv (.val (.string g)), .dv (.val (.int .i64 h)), .dv (.val (.int .i64 i)), .dv (.val (.string j)), .dv (.val (.string l)), .dv (.val (.slice none 0 0))])]) (fun a b c d e f g h i j l ae af => k (.dv (.val (.tuple ⟨[]⟩))) [some (.cells [.val (.string a), .val (.bool b)]), some (.mix [.dv (.val (.string c)), .dv (.val (.string d)), .dv (.val (.int .i64 e)), .dv (.val (.int .i64 f)), .osl 38 2 2 0 g, .dv (.val (.string h)), .dv (.val (.int .i64 i)), .dv (.val (.int .i64 j)), .dv (.val (.string l)), .dv (.val (.string ae)), .dv (.val (.slice none 0 0))]), some (.cells af)])
  | _, _ => none
def Ki1 : W2j := Kuk Kfm Khw Kja Kfk Ki0
theorem K7q (f0 : W3e) (f1 : W25) (f2 : W2t) (f3 : W2x) (f4 : W3c) (x : Kac) (κn : St → Option DV) (κ : KC) : pev Tryz.prog (tab [] [(79, (Kge f3)), (82, (Kh2 f0)), (83, (Kin f1)), (84, (Kjw f2)), (85, (Kio f4))]) (ltab [(9, Kp9 f0 f1 f2 f3 f4)]) [(0, [0, 2]), (0, []), (9, [0, 1, 5]), (100009, []), (500010, [0, 40109009])] 64 (Kb9 (Kaf Tryz.f56) 0) (Kjb x) (Ki2 2 [0, 1, 5] [] κn κ) = Kax f0 f1 f2 f3 f4 x (fun x => κn (Kjb x)) (Kwo κ) := by cases x <;> kernel_rfl
theorem K7r (f0 : W3e) (f1 : W25) (f2 : W2t) (f3 : W2x) (f4 : W3c) (HK : Kfv Tryz.prog Inv (tab [] [(79, (Kge f3)), (82, (Kh2 f0)), (83, (Kin f1)), (84, (Kjw f2)), (85, (Kio f4))])) : Kjx 2 Tryz.prog Inv (Kb9 (Kaf Tryz.f56) 0) (Kp9 f0 f1 f2 f3 f4) :=
  Kca (lv := [(0, [0, 2]), (0, []), (9, [0, 1, 5]), (100009, []), (500010, [0, 40109009])]) Kbg HK (Ka5 (bs := []) (by kernel_rfl) Kat) (K7q f0 f1 f2 f3 f4) K7p Ka1
theorem Waz (f0 : W3e) (f1 : W25) (f2 : W2t) (f3 : W2x) (f4 : W3c) : RdH 2 (Kip (Kuk f0 f1 f2 f3 f4)) (pevH Tryz.prog (tab [] [(79, (Kge f3)), (82, (Kh2 f0)), (83, (Kin f1)), (84, (Kjw f2)), (85, (Kio f4))]) (ltab [(9, Kp9 f0 f1 f2 f3 f4)]) [(0, [0, 2]), (0, []), (9, [0, 1, 5]), (100009, []), (500010, [0, 40109009])] 64 Tryz.f56 (Kaf Tryz.f56)) := by
  intro xs H; unfold Kip; split
  · exact .inr ⟨rfl, fun k => by kernel_rfl⟩
  · exact .inl fun _ => rfl
theorem K1c : Kk0 Tryz.prog Inv 56 (Kip Ki1) :=
  Kmw (lv := [(0, [0, 2]), (0, []), (9, [0, 1, 5]), (100009, []), (500010, [0, 40109009])]) Kbg (Kbs stab (Kak _ _) (Kbp Ksb (Kbp Kzr (Kbp K1a (Kbp K4f (Kbp K1b (Kae _ _))))))) Tryz.func56 (by kernel_rfl) (by kernel_rfl) (Ka5 (bs := [Kb9 (Kaf Tryz.f56) 0]) (by kernel_rfl) (Kbk (by kernel_rfl) (K7r Kfm Khw Kja Kfk Ki0 (Kbs stab (Kak _ _) (Kbp Ksb (Kbp Kzr (Kbp K1a (Kbp K4f (Kbp K1b (Kae _ _)))))))) Kat)) (Waz Kfm Khw Kja Kfk Ki0)
end Go.Proofs.YtgohccjmphapfaaGreatDoor
end
