import Derived.Test.YtiiddikiaafanaaGreatDoorPa
import Derived.Test.YtiiddikiaafanaaGreatDoorZv
import Derived.Test.YtiiddikiaafanaaGreatDoorShelf
set_option linter.all false
/-
  What a format makes of a number, read as plain functions.
-/
namespace Go.Proofs.YtiiddikiaafanaaGreatDoor
open _root_.ByteArray (toList)
open Go.Pv Go.RowKit
def bits_Mul64 (x y : Int) (k : Int → Int → Option DV) : Option DV :=
  bif decide ((0 ≤ x ∧ x < 18446744073709551616) ∧ (0 ≤ y ∧ y < 18446744073709551616)) then k (x * y / 18446744073709551616) (x * y % 18446744073709551616) else none
noncomputable def KK_bits_Mul64 (f0 : Int → Int → (Int → Int → Option DV) → Option DV) (ds : List DV) (k : DV → Option DV) : Option DV :=
  match ds with
  | [.val (.int .u64 a), .val (.int .u64 b)] => f0 a b (fun c d => k (.val (.tuple ⟨[.int .u64 c, .int .u64 d]⟩)))
  | _ => none
theorem m_bits_Mul64 : Meets Tryz.prog Inv 152 (KK_bits_Mul64 bits_Mul64) :=
  meets_flat (by kernel_rfl) (by
    intro ds; unfold KK_bits_Mul64; split
    · rename_i x y
      unfold bits_Mul64
      by_cases hp : (0 ≤ x ∧ x < 18446744073709551616) ∧ (0 ≤ y ∧ y < 18446744073709551616)
      · simp only [decide_eq_true hp, cond_true]
        obtain ⟨⟨h1, h2⟩, h3, h4⟩ := hp
        obtain ⟨a, rfl⟩ := Int.eq_ofNat_of_zero_le h1
        obtain ⟨b, rfl⟩ := Int.eq_ofNat_of_zero_le h3
        refine .inr ⟨[.int .u64 a, .int .u64 b], _, rfl, fun _ => rfl, fun w _ => (Tryz.bits_Mul64 a b (by omega) (by omega) w).mono fun e w' h => ⟨h.1.trans ?_, by rw [h.2]; exact Below.refl _ _⟩⟩
        simp
      · left; intro _; simp only [decide_eq_false hp, cond_false]
    · exact .inl (fun _ => rfl))
def bits_Div64 (x y z : Int) (k : Int → Int → Option DV) : Option DV :=
  bif decide ((0 ≤ x ∧ x < z) ∧ (0 ≤ y ∧ y < 18446744073709551616) ∧ z < 18446744073709551616) then k ((x * 18446744073709551616 + y) / z) ((x * 18446744073709551616 + y) % z) else none
noncomputable def KK_bits_Div64 (f0 : Int → Int → Int → (Int → Int → Option DV) → Option DV) (ds : List DV) (k : DV → Option DV) : Option DV :=
  match ds with
  | [.val (.int .u64 a), .val (.int .u64 b), .val (.int .u64 c)] => f0 a b c (fun d e => k (.val (.tuple ⟨[.int .u64 d, .int .u64 e]⟩)))
  | _ => none
theorem m_bits_Div64 : Meets Tryz.prog Inv 153 (KK_bits_Div64 bits_Div64) :=
  meets_flat (by kernel_rfl) (by
    intro ds; unfold KK_bits_Div64; split
    · rename_i x y z
      unfold bits_Div64
      by_cases hp : (0 ≤ x ∧ x < z) ∧ (0 ≤ y ∧ y < 18446744073709551616) ∧ z < 18446744073709551616
      · simp only [decide_eq_true hp, cond_true]
        exact .inr ⟨[.int .u64 x, .int .u64 y, .int .u64 z], _, rfl, fun _ => rfl, fun w _ => div64_any x y z hp.1 hp.2.1 hp.2.2 w⟩
      · left; intro _; simp only [decide_eq_false hp, cond_false]
    · exact .inl (fun _ => rfl))
noncomputable def B_quant_hasSizes  (c : ByteArray) (a b : Int) (d e : ByteArray) (k : KB) : Option DV :=
  bif (toList c == toList (⟨#[102, 105, 120]⟩)) then (bif decide (0 ≤ a) then (bif decide (a ≤ 30) then (bif decide (0 ≤ b) then (bif decide (b ≤ 30) then (k (decide (IntKind.wrap .i64 (a + b) ≤ 30))) else (k false)) else (k false)) else (k false)) else (k false)) else (bif (toList c == toList (⟨#[102, 108, 111, 97, 116]⟩)) then (bif decide (1 ≤ a) then (bif decide (a ≤ 24) then (bif decide (0 ≤ b) then (bif decide (b ≤ 20) then (k (decide (IntKind.wrap .i64 (a + b) ≤ 30))) else (k false)) else (k false)) else (k false)) else (k false)) else (k false))
noncomputable def quant_hasSizes (a : ByteArray) (b c : Int) (d e : ByteArray) (k : KB) : Option DV := B_quant_hasSizes  a b c d e k

noncomputable def KK_quant_hasSizes (f0 : ByteArray → Int → Int → ByteArray → ByteArray → KB → Option DV) (ds : List DV) (k : DV → Option DV) : Option DV :=
  match ds with
  | [.val (.agg ⟨[.string a, .int .i64 b, .int .i64 c, .string d, .string e]⟩)] => f0 a b c d e (fun f => k (.val (.bool f)))
  | _ => none

theorem r_quant_hasSizes  (a : ByteArray) (b c : Int) (d e : ByteArray) (k : DV → Option DV) : B_quant_hasSizes  a b c d e (fun f => k (.val (.bool f))) = pevF Tryz.prog (tab []) [] 64 Tryz.f58 (bodyOf Tryz.f58) [.val (.agg ⟨[.string a, .int .i64 b, .int .i64 c, .string d, .string e]⟩)] k := by kernel_rfl

theorem m_quant_hasSizes : Meets Tryz.prog Inv 58 (KK_quant_hasSizes quant_hasSizes) :=
  meets_of_pev mixed stab (tab_nil _ _) Tryz.func58 (by kernel_rfl) (by kernel_rfl) (by
    intro ds; unfold KK_quant_hasSizes; split
    · exact .inr ⟨[], 64, fun k => r_quant_hasSizes  _ _ _ _ _ k⟩
    · exact .inl (fun _ => rfl))

noncomputable def B_quant_hasRound  (b : ByteArray) (c d : Int) (a e : ByteArray) (k : KB) : Option DV :=
  bif !(toList a == toList (⟨#[102, 108, 111, 111, 114]⟩)) then (bif !(toList a == toList (⟨#[110, 101, 97, 114]⟩)) then (k (toList a == toList (⟨#[122, 101, 114, 111]⟩))) else (k true)) else (k true)
noncomputable def quant_hasRound (a : ByteArray) (b c : Int) (d e : ByteArray) (k : KB) : Option DV := B_quant_hasRound  a b c d e k

noncomputable def KK_quant_hasRound (f0 : ByteArray → Int → Int → ByteArray → ByteArray → KB → Option DV) (ds : List DV) (k : DV → Option DV) : Option DV :=
  match ds with
  | [.val (.agg ⟨[.string a, .int .i64 b, .int .i64 c, .string d, .string e]⟩)] => f0 a b c d e (fun f => k (.val (.bool f)))
  | _ => none

theorem r_quant_hasRound  (a : ByteArray) (b c : Int) (d e : ByteArray) (k : DV → Option DV) : B_quant_hasRound  a b c d e (fun f => k (.val (.bool f))) = pevF Tryz.prog (tab []) [] 64 Tryz.f59 (bodyOf Tryz.f59) [.val (.agg ⟨[.string a, .int .i64 b, .int .i64 c, .string d, .string e]⟩)] k := by kernel_rfl

theorem m_quant_hasRound : Meets Tryz.prog Inv 59 (KK_quant_hasRound quant_hasRound) :=
  meets_of_pev mixed stab (tab_nil _ _) Tryz.func59 (by kernel_rfl) (by kernel_rfl) (by
    intro ds; unfold KK_quant_hasRound; split
    · exact .inr ⟨[], 64, fun k => r_quant_hasRound  _ _ _ _ _ k⟩
    · exact .inl (fun _ => rfl))

noncomputable def B_quant_hasOver  (b : ByteArray) (c d : Int) (e a : ByteArray) (k : KB) : Option DV :=
  bif !(toList a == toList (⟨#[115, 97, 116]⟩)) then (bif !(toList a == toList (⟨#[110, 111, 110, 101]⟩)) then (bif (toList a == toList (⟨#[119, 114, 97, 112]⟩)) then (k (toList b == toList (⟨#[102, 105, 120]⟩))) else (k false)) else (k true)) else (k true)
noncomputable def quant_hasOver (a : ByteArray) (b c : Int) (d e : ByteArray) (k : KB) : Option DV := B_quant_hasOver  a b c d e k

noncomputable def KK_quant_hasOver (f0 : ByteArray → Int → Int → ByteArray → ByteArray → KB → Option DV) (ds : List DV) (k : DV → Option DV) : Option DV :=
  match ds with
  | [.val (.agg ⟨[.string a, .int .i64 b, .int .i64 c, .string d, .string e]⟩)] => f0 a b c d e (fun f => k (.val (.bool f)))
  | _ => none

theorem r_quant_hasOver  (a : ByteArray) (b c : Int) (d e : ByteArray) (k : DV → Option DV) : B_quant_hasOver  a b c d e (fun f => k (.val (.bool f))) = pevF Tryz.prog (tab []) [] 64 Tryz.f60 (bodyOf Tryz.f60) [.val (.agg ⟨[.string a, .int .i64 b, .int .i64 c, .string d, .string e]⟩)] k := by kernel_rfl

theorem m_quant_hasOver : Meets Tryz.prog Inv 60 (KK_quant_hasOver quant_hasOver) :=
  meets_of_pev mixed stab (tab_nil _ _) Tryz.func60 (by kernel_rfl) (by kernel_rfl) (by
    intro ds; unfold KK_quant_hasOver; split
    · exact .inr ⟨[], 64, fun k => r_quant_hasOver  _ _ _ _ _ k⟩
    · exact .inl (fun _ => rfl))

noncomputable def B_quant_Valid (f0 : ByteArray → Int → Int → ByteArray → ByteArray → KB → Option DV) (f1 : ByteArray → Int → Int → ByteArray → ByteArray → KB → Option DV) (f2 : ByteArray → Int → Int → ByteArray → ByteArray → KB → Option DV) (a : ByteArray) (b c : Int) (d e : ByteArray) (k : KB) : Option DV :=
  f2 a b c d e (fun f => bif f then (f1 a b c d e (fun g => bif g then (f0 a b c d e (fun h => k h)) else (k false))) else (k false))
noncomputable def quant_Valid (a : ByteArray) (b c : Int) (d e : ByteArray) (k : KB) : Option DV := B_quant_Valid quant_hasOver quant_hasRound quant_hasSizes a b c d e k

noncomputable def KK_quant_Valid (f0 : ByteArray → Int → Int → ByteArray → ByteArray → KB → Option DV) (ds : List DV) (k : DV → Option DV) : Option DV :=
  match ds with
  | [.val (.agg ⟨[.string a, .int .i64 b, .int .i64 c, .string d, .string e]⟩)] => f0 a b c d e (fun f => k (.val (.bool f)))
  | _ => none

theorem r_quant_Valid (f0 : ByteArray → Int → Int → ByteArray → ByteArray → KB → Option DV) (f1 : ByteArray → Int → Int → ByteArray → ByteArray → KB → Option DV) (f2 : ByteArray → Int → Int → ByteArray → ByteArray → KB → Option DV) (a : ByteArray) (b c : Int) (d e : ByteArray) (k : DV → Option DV) : B_quant_Valid f0 f1 f2 a b c d e (fun f => k (.val (.bool f))) = pevF Tryz.prog (tab [(58, (KK_quant_hasSizes f2)), (59, (KK_quant_hasRound f1)), (60, (KK_quant_hasOver f0))]) [] 64 Tryz.f19 (bodyOf Tryz.f19) [.val (.agg ⟨[.string a, .int .i64 b, .int .i64 c, .string d, .string e]⟩)] k := by kernel_rfl

theorem m_quant_Valid : Meets Tryz.prog Inv 19 (KK_quant_Valid quant_Valid) :=
  meets_of_pev mixed stab (tab_cons m_quant_hasSizes (tab_cons m_quant_hasRound (tab_cons m_quant_hasOver (tab_nil _ _)))) Tryz.func19 (by kernel_rfl) (by kernel_rfl) (by
    intro ds; unfold KK_quant_Valid; split
    · exact .inr ⟨[], 64, fun k => r_quant_Valid quant_hasOver quant_hasRound quant_hasSizes _ _ _ _ _ k⟩
    · exact .inl (fun _ => rfl))

noncomputable def B_quant_power (f0 : Int → Int → KQ → Option DV) (b a : Int) (k : KQ) : Option DV :=
  bif decide (a < 0) then (bif decide (IntKind.wrap .i64 (0 - a) < 0) then none else (f0 b (IntKind.wrap .i64 (1 * 2 ^ (min (Int.toNat (IntKind.wrap .i64 (0 - a))) (IntKind.bits .i64)))) (fun c d => k c d))) else (bif decide (a < 0) then none else (f0 (IntKind.wrap .i64 (b * 2 ^ (min (Int.toNat a) (IntKind.bits .i64)))) 1 (fun e f => k e f)))
noncomputable def quant_power (a b : Int) (k : KQ) : Option DV := B_quant_power ratio_Make a b k

noncomputable def KK_quant_power (f0 : Int → Int → KQ → Option DV) (ds : List DV) (k : DV → Option DV) : Option DV :=
  match ds with
  | [.val (.int .i64 a), .val (.int .i64 b)] => f0 a b (fun c d => k (.val (.agg ⟨[.int .i64 c, .int .i64 d]⟩)))
  | _ => none

theorem r_quant_power (f0 : Int → Int → KQ → Option DV) (a b : Int) (k : DV → Option DV) : B_quant_power f0 a b (fun c d => k (.val (.agg ⟨[.int .i64 c, .int .i64 d]⟩))) = pevF Tryz.prog (tab [(90, (KK_ratio_Make f0))]) [] 64 Tryz.f67 (bodyOf Tryz.f67) [.val (.int .i64 a), .val (.int .i64 b)] k := by kernel_rfl

theorem m_quant_power : Meets Tryz.prog Inv 67 (KK_quant_power quant_power) :=
  meets_of_pev mixed stab (tab_cons m_ratio_Make (tab_nil _ _)) Tryz.func67 (by kernel_rfl) (by kernel_rfl) (by
    intro ds; unfold KK_quant_power; split
    · exact .inr ⟨[], 64, fun k => r_quant_power ratio_Make _ _ k⟩
    · exact .inl (fun _ => rfl))

noncomputable def B_quant_exact_size  (a b : Int) (k : KI) : Option DV :=
  k (IntKind.wrap .u64 ((if IntKind.wrap .i64 (0 - a) > a then IntKind.wrap .i64 (0 - a) else a)))
noncomputable def quant_exact_size (a b : Int) (k : KI) : Option DV := B_quant_exact_size  a b k

noncomputable def KK_quant_exact_size (f0 : Int → Int → KI → Option DV) (ds : List DV) (k : DV → Option DV) : Option DV :=
  match ds with
  | [.val (.agg ⟨[.int .i64 a, .int .i64 b]⟩)] => f0 a b (fun c => k (.val (.int .u64 c)))
  | _ => none

theorem r_quant_exact_size  (a b : Int) (k : DV → Option DV) : B_quant_exact_size  a b (fun c => k (.val (.int .u64 c))) = pevF Tryz.prog (tab []) [] 64 Tryz.f151 (bodyOf Tryz.f151) [.val (.agg ⟨[.int .i64 a, .int .i64 b]⟩)] k := by kernel_rfl

theorem m_quant_exact_size : Meets Tryz.prog Inv 151 (KK_quant_exact_size quant_exact_size) :=
  meets_of_pev mixed stab (tab_nil _ _) Tryz.func151 (by kernel_rfl) (by kernel_rfl) (by
    intro ds; unfold KK_quant_exact_size; split
    · exact .inr ⟨[], 64, fun k => r_quant_exact_size  _ _ k⟩
    · exact .inl (fun _ => rfl))

noncomputable def B_quant_exact_isBelow (f0 : Int → Int → KI → Option DV) (c b a : Int) (k : KB) : Option DV :=
  bif decide (a < 0) then (f0 c b (fun d => bif decide (IntKind.wrap .i64 (0 - a) < 0) then none else (k (decide (d ≤ Int.fdiv (IntKind.wrap .u64 (IntKind.wrap .i64 (b - 1))) (2 ^ (min (Int.toNat (IntKind.wrap .i64 (0 - a))) (IntKind.bits .u64)))))))) else (f0 c b (fun e => bif decide (a < 0) then none else (k (decide (Int.fdiv e (2 ^ (min (Int.toNat a) (IntKind.bits .u64))) < IntKind.wrap .u64 (b))))))
noncomputable def quant_exact_isBelow (a b c : Int) (k : KB) : Option DV := B_quant_exact_isBelow quant_exact_size a b c k

noncomputable def KK_quant_exact_isBelow (f0 : Int → Int → Int → KB → Option DV) (ds : List DV) (k : DV → Option DV) : Option DV :=
  match ds with
  | [.val (.agg ⟨[.int .i64 a, .int .i64 b]⟩), .val (.int .i64 c)] => f0 a b c (fun d => k (.val (.bool d)))
  | _ => none

theorem r_quant_exact_isBelow (f0 : Int → Int → KI → Option DV) (a b c : Int) (k : DV → Option DV) : B_quant_exact_isBelow f0 a b c (fun d => k (.val (.bool d))) = pevF Tryz.prog (tab [(151, (KK_quant_exact_size f0))]) [] 64 Tryz.f119 (bodyOf Tryz.f119) [.val (.agg ⟨[.int .i64 a, .int .i64 b]⟩), .val (.int .i64 c)] k := by kernel_rfl

theorem m_quant_exact_isBelow : Meets Tryz.prog Inv 119 (KK_quant_exact_isBelow quant_exact_isBelow) :=
  meets_of_pev mixed stab (tab_cons m_quant_exact_size (tab_nil _ _)) Tryz.func119 (by kernel_rfl) (by kernel_rfl) (by
    intro ds; unfold KK_quant_exact_isBelow; split
    · exact .inr ⟨[], 64, fun k => r_quant_exact_isBelow quant_exact_size _ _ _ k⟩
    · exact .inl (fun _ => rfl))

noncomputable def B_quant_steps (f0 : Int → Int → KQ → Option DV) (e : ByteArray) (f a : Int) (g h : ByteArray) (b : Int) (k : KQ) : Option DV :=
  f0 b (IntKind.wrap .i64 (0 - a)) (fun c d => k c d)
noncomputable def quant_steps (a : ByteArray) (b c : Int) (d e : ByteArray) (f : Int) (k : KQ) : Option DV := B_quant_steps quant_power a b c d e f k

noncomputable def KK_quant_steps (f0 : ByteArray → Int → Int → ByteArray → ByteArray → Int → KQ → Option DV) (ds : List DV) (k : DV → Option DV) : Option DV :=
  match ds with
  | [.val (.agg ⟨[.string a, .int .i64 b, .int .i64 c, .string d, .string e]⟩), .val (.int .i64 f)] => f0 a b c d e f (fun g h => k (.val (.agg ⟨[.int .i64 g, .int .i64 h]⟩)))
  | _ => none

theorem r_quant_steps (f0 : Int → Int → KQ → Option DV) (a : ByteArray) (b c : Int) (d e : ByteArray) (f : Int) (k : DV → Option DV) : B_quant_steps f0 a b c d e f (fun g h => k (.val (.agg ⟨[.int .i64 g, .int .i64 h]⟩))) = pevF Tryz.prog (tab [(67, (KK_quant_power f0))]) [] 64 Tryz.f65 (bodyOf Tryz.f65) [.val (.agg ⟨[.string a, .int .i64 b, .int .i64 c, .string d, .string e]⟩), .val (.int .i64 f)] k := by kernel_rfl

theorem m_quant_steps : Meets Tryz.prog Inv 65 (KK_quant_steps quant_steps) :=
  meets_of_pev mixed stab (tab_cons m_quant_power (tab_nil _ _)) Tryz.func65 (by kernel_rfl) (by kernel_rfl) (by
    intro ds; unfold KK_quant_steps; split
    · exact .inr ⟨[], 64, fun k => r_quant_steps quant_power _ _ _ _ _ _ k⟩
    · exact .inl (fun _ => rfl))

noncomputable def B_quant_half  (c : ByteArray) (a b : Int) (d e : ByteArray) (k : KI) : Option DV :=
  bif decide (IntKind.wrap .i64 (a + b) < 0) then none else (k (IntKind.wrap .i64 (1 * 2 ^ (min (Int.toNat (IntKind.wrap .i64 (a + b))) (IntKind.bits .i64)))))
noncomputable def quant_half (a : ByteArray) (b c : Int) (d e : ByteArray) (k : KI) : Option DV := B_quant_half  a b c d e k

noncomputable def KK_quant_half (f0 : ByteArray → Int → Int → ByteArray → ByteArray → KI → Option DV) (ds : List DV) (k : DV → Option DV) : Option DV :=
  match ds with
  | [.val (.agg ⟨[.string a, .int .i64 b, .int .i64 c, .string d, .string e]⟩)] => f0 a b c d e (fun f => k (.val (.int .i64 f)))
  | _ => none

theorem r_quant_half  (a : ByteArray) (b c : Int) (d e : ByteArray) (k : DV → Option DV) : B_quant_half  a b c d e (fun f => k (.val (.int .i64 f))) = pevF Tryz.prog (tab []) [] 64 Tryz.f66 (bodyOf Tryz.f66) [.val (.agg ⟨[.string a, .int .i64 b, .int .i64 c, .string d, .string e]⟩)] k := by kernel_rfl

theorem m_quant_half : Meets Tryz.prog Inv 66 (KK_quant_half quant_half) :=
  meets_of_pev mixed stab (tab_nil _ _) Tryz.func66 (by kernel_rfl) (by kernel_rfl) (by
    intro ds; unfold KK_quant_half; split
    · exact .inr ⟨[], 64, fun k => r_quant_half  _ _ _ _ _ k⟩
    · exact .inl (fun _ => rfl))

noncomputable def B_quant_Greatest (f0 : Int → Int → KQ → Option DV) (f1 : ByteArray → Int → Int → ByteArray → ByteArray → Int → KQ → Option DV) (f2 : ByteArray → Int → Int → ByteArray → ByteArray → KI → Option DV) (f3 : ByteArray → Int → Int → ByteArray → ByteArray → KB → Option DV) (b : ByteArray) (a c : Int) (d e : ByteArray) (k : KQ) : Option DV :=
  f3 b a c d e (fun f => bif !f then (k 0 0) else (bif (toList b == toList (⟨#[102, 108, 111, 97, 116]⟩)) then (bif decide (a < 0) then none else (f0 (IntKind.wrap .i64 ((IntKind.wrap .i64 (1 * 2 ^ (min (Int.toNat a) (IntKind.bits .i64)))) - 1)) c (fun g h => k g h))) else (f2 b a c d e (fun i => f1 b a c d e (IntKind.wrap .i64 (i - 1)) (fun j l => k j l)))))
noncomputable def quant_Greatest (a : ByteArray) (b c : Int) (d e : ByteArray) (k : KQ) : Option DV := B_quant_Greatest quant_power quant_steps quant_half quant_Valid a b c d e k

noncomputable def KK_quant_Greatest (f0 : ByteArray → Int → Int → ByteArray → ByteArray → KQ → Option DV) (ds : List DV) (k : DV → Option DV) : Option DV :=
  match ds with
  | [.val (.agg ⟨[.string a, .int .i64 b, .int .i64 c, .string d, .string e]⟩)] => f0 a b c d e (fun f g => k (.val (.agg ⟨[.int .i64 f, .int .i64 g]⟩)))
  | _ => none

theorem r_quant_Greatest (f0 : Int → Int → KQ → Option DV) (f1 : ByteArray → Int → Int → ByteArray → ByteArray → Int → KQ → Option DV) (f2 : ByteArray → Int → Int → ByteArray → ByteArray → KI → Option DV) (f3 : ByteArray → Int → Int → ByteArray → ByteArray → KB → Option DV) (a : ByteArray) (b c : Int) (d e : ByteArray) (k : DV → Option DV) : B_quant_Greatest f0 f1 f2 f3 a b c d e (fun f g => k (.val (.agg ⟨[.int .i64 f, .int .i64 g]⟩))) = pevF Tryz.prog (tab [(19, (KK_quant_Valid f3)), (65, (KK_quant_steps f1)), (66, (KK_quant_half f2)), (67, (KK_quant_power f0))]) [] 64 Tryz.f24 (bodyOf Tryz.f24) [.val (.agg ⟨[.string a, .int .i64 b, .int .i64 c, .string d, .string e]⟩)] k := by kernel_rfl

theorem m_quant_Greatest : Meets Tryz.prog Inv 24 (KK_quant_Greatest quant_Greatest) :=
  meets_of_pev mixed stab (tab_cons m_quant_Valid (tab_cons m_quant_steps (tab_cons m_quant_half (tab_cons m_quant_power (tab_nil _ _))))) Tryz.func24 (by kernel_rfl) (by kernel_rfl) (by
    intro ds; unfold KK_quant_Greatest; split
    · exact .inr ⟨[], 64, fun k => r_quant_Greatest quant_power quant_steps quant_half quant_Valid _ _ _ _ _ k⟩
    · exact .inl (fun _ => rfl))

noncomputable def B_quant_Least (f0 : Int → Int → KQ → Option DV) (f1 : ByteArray → Int → Int → ByteArray → ByteArray → KQ → Option DV) (f2 : ByteArray → Int → Int → ByteArray → ByteArray → Int → KQ → Option DV) (f3 : ByteArray → Int → Int → ByteArray → ByteArray → KI → Option DV) (f4 : ByteArray → Int → Int → ByteArray → ByteArray → KB → Option DV) (a : ByteArray) (b c : Int) (d e : ByteArray) (k : KQ) : Option DV :=
  f4 a b c d e (fun f => bif !f then (k 0 0) else (bif (toList a == toList (⟨#[102, 108, 111, 97, 116]⟩)) then (f1 a b c d e (fun g h => f0 g h (fun i j => k i j))) else (f3 a b c d e (fun l => f2 a b c d e (IntKind.wrap .i64 (0 - l)) (fun m n => k m n)))))
noncomputable def quant_Least (a : ByteArray) (b c : Int) (d e : ByteArray) (k : KQ) : Option DV := B_quant_Least ratio_Neg quant_Greatest quant_steps quant_half quant_Valid a b c d e k

noncomputable def KK_quant_Least (f0 : ByteArray → Int → Int → ByteArray → ByteArray → KQ → Option DV) (ds : List DV) (k : DV → Option DV) : Option DV :=
  match ds with
  | [.val (.agg ⟨[.string a, .int .i64 b, .int .i64 c, .string d, .string e]⟩)] => f0 a b c d e (fun f g => k (.val (.agg ⟨[.int .i64 f, .int .i64 g]⟩)))
  | _ => none

theorem r_quant_Least (f0 : Int → Int → KQ → Option DV) (f1 : ByteArray → Int → Int → ByteArray → ByteArray → KQ → Option DV) (f2 : ByteArray → Int → Int → ByteArray → ByteArray → Int → KQ → Option DV) (f3 : ByteArray → Int → Int → ByteArray → ByteArray → KI → Option DV) (f4 : ByteArray → Int → Int → ByteArray → ByteArray → KB → Option DV) (a : ByteArray) (b c : Int) (d e : ByteArray) (k : DV → Option DV) : B_quant_Least f0 f1 f2 f3 f4 a b c d e (fun f g => k (.val (.agg ⟨[.int .i64 f, .int .i64 g]⟩))) = pevF Tryz.prog (tab [(19, (KK_quant_Valid f4)), (24, (KK_quant_Greatest f1)), (64, (KK_ratio_Neg f0)), (65, (KK_quant_steps f2)), (66, (KK_quant_half f3))]) [] 64 Tryz.f23 (bodyOf Tryz.f23) [.val (.agg ⟨[.string a, .int .i64 b, .int .i64 c, .string d, .string e]⟩)] k := by kernel_rfl

theorem m_quant_Least : Meets Tryz.prog Inv 23 (KK_quant_Least quant_Least) :=
  meets_of_pev mixed stab (tab_cons m_quant_Valid (tab_cons m_quant_Greatest (tab_cons m_ratio_Neg (tab_cons m_quant_steps (tab_cons m_quant_half (tab_nil _ _)))))) Tryz.func23 (by kernel_rfl) (by kernel_rfl) (by
    intro ds; unfold KK_quant_Least; split
    · exact .inr ⟨[], 64, fun k => r_quant_Least ratio_Neg quant_Greatest quant_steps quant_half quant_Valid _ _ _ _ _ k⟩
    · exact .inl (fun _ => rfl))

noncomputable def B_quant_beyond (f0 : ByteArray → Int → Int → ByteArray → ByteArray → KQ → Option DV) (f1 : ByteArray → Int → Int → ByteArray → ByteArray → KQ → Option DV) (b : ByteArray) (c d : Int) (e a : ByteArray) (f l : Int) (k : KQ) : Option DV :=
  bif (toList a == toList (⟨#[110, 111, 110, 101]⟩)) then (k 0 0) else (bif decide (f < 0) then (f0 b c d e a (fun g h => k g h)) else (f1 b c d e a (fun i j => k i j)))
noncomputable def quant_beyond (a : ByteArray) (b c : Int) (d e : ByteArray) (f g : Int) (k : KQ) : Option DV := B_quant_beyond quant_Least quant_Greatest a b c d e f g k

noncomputable def KK_quant_beyond (f0 : ByteArray → Int → Int → ByteArray → ByteArray → Int → Int → KQ → Option DV) (ds : List DV) (k : DV → Option DV) : Option DV :=
  match ds with
  | [.val (.agg ⟨[.string a, .int .i64 b, .int .i64 c, .string d, .string e]⟩), .val (.agg ⟨[.int .i64 f, .int .i64 g]⟩)] => f0 a b c d e f g (fun h i => k (.val (.agg ⟨[.int .i64 h, .int .i64 i]⟩)))
  | _ => none

theorem r_quant_beyond (f0 : ByteArray → Int → Int → ByteArray → ByteArray → KQ → Option DV) (f1 : ByteArray → Int → Int → ByteArray → ByteArray → KQ → Option DV) (a : ByteArray) (b c : Int) (d e : ByteArray) (f g : Int) (k : DV → Option DV) : B_quant_beyond f0 f1 a b c d e f g (fun h i => k (.val (.agg ⟨[.int .i64 h, .int .i64 i]⟩))) = pevF Tryz.prog (tab [(23, (KK_quant_Least f0)), (24, (KK_quant_Greatest f1))]) [] 64 Tryz.f120 (bodyOf Tryz.f120) [.val (.agg ⟨[.string a, .int .i64 b, .int .i64 c, .string d, .string e]⟩), .val (.agg ⟨[.int .i64 f, .int .i64 g]⟩)] k := by kernel_rfl

theorem m_quant_beyond : Meets Tryz.prog Inv 120 (KK_quant_beyond quant_beyond) :=
  meets_of_pev mixed stab (tab_cons m_quant_Least (tab_cons m_quant_Greatest (tab_nil _ _))) Tryz.func120 (by kernel_rfl) (by kernel_rfl) (by
    intro ds; unfold KK_quant_beyond; split
    · exact .inr ⟨[], 64, fun k => r_quant_beyond quant_Least quant_Greatest _ _ _ _ _ _ _ k⟩
    · exact .inl (fun _ => rfl))

noncomputable def B_quant_exact_rounded (f0 : Int → Int → Int → KQ → Option DV) (f1 : Int → Int → KQ → Option DV) (f2 : Int → Int → KI → Option DV) (c d b : Int) (f : ByteArray) (k : KI) : Option DV :=
  bif decide ((if IntKind.wrap .i64 (0 - b) > 0 then IntKind.wrap .i64 (0 - b) else 0) < 0) then none else (f2 c d (fun g => bif decide ((if b > 0 then b else 0) < 0) then none else (f1 g (IntKind.wrap .u64 (1 * 2 ^ (min (Int.toNat (if b > 0 then b else 0)) (IntKind.bits .u64)))) (fun h i => f0 h i (IntKind.wrap .u64 (IntKind.wrap .u64 (d) * 2 ^ (min (Int.toNat (if IntKind.wrap .i64 (0 - b) > 0 then IntKind.wrap .i64 (0 - b) else 0)) (IntKind.bits .u64)))) (fun a e => bif (toList f == toList (⟨#[102, 108, 111, 111, 114]⟩)) then (bif decide (c < 0) then (bif decide (e > 0) then (bif decide (c < 0) then (k (IntKind.wrap .i64 (0 - (IntKind.wrap .i64 (IntKind.wrap .u64 (a + 1)))))) else (k (IntKind.wrap .i64 (IntKind.wrap .u64 (a + 1))))) else (bif (toList f == toList (⟨#[110, 101, 97, 114]⟩)) then (bif !(decide (IntKind.wrap .u64 (2 * e) > IntKind.wrap .u64 (IntKind.wrap .u64 (d) * 2 ^ (min (Int.toNat (if IntKind.wrap .i64 (0 - b) > 0 then IntKind.wrap .i64 (0 - b) else 0)) (IntKind.bits .u64))))) then (bif (IntKind.wrap .u64 (2 * e)) == (IntKind.wrap .u64 (IntKind.wrap .u64 (d) * 2 ^ (min (Int.toNat (if IntKind.wrap .i64 (0 - b) > 0 then IntKind.wrap .i64 (0 - b) else 0)) (IntKind.bits .u64)))) then (bif (Int.tmod a 2) == 1 then (bif decide (c < 0) then (k (IntKind.wrap .i64 (0 - (IntKind.wrap .i64 (IntKind.wrap .u64 (a + 1)))))) else (k (IntKind.wrap .i64 (IntKind.wrap .u64 (a + 1))))) else (bif decide (c < 0) then (k (IntKind.wrap .i64 (0 - (IntKind.wrap .i64 (a))))) else (k (IntKind.wrap .i64 (a))))) else (bif decide (c < 0) then (k (IntKind.wrap .i64 (0 - (IntKind.wrap .i64 (a))))) else (k (IntKind.wrap .i64 (a))))) else (bif decide (c < 0) then (k (IntKind.wrap .i64 (0 - (IntKind.wrap .i64 (IntKind.wrap .u64 (a + 1)))))) else (k (IntKind.wrap .i64 (IntKind.wrap .u64 (a + 1)))))) else (bif decide (c < 0) then (k (IntKind.wrap .i64 (0 - (IntKind.wrap .i64 (a))))) else (k (IntKind.wrap .i64 (a)))))) else (bif (toList f == toList (⟨#[110, 101, 97, 114]⟩)) then (bif !(decide (IntKind.wrap .u64 (2 * e) > IntKind.wrap .u64 (IntKind.wrap .u64 (d) * 2 ^ (min (Int.toNat (if IntKind.wrap .i64 (0 - b) > 0 then IntKind.wrap .i64 (0 - b) else 0)) (IntKind.bits .u64))))) then (bif (IntKind.wrap .u64 (2 * e)) == (IntKind.wrap .u64 (IntKind.wrap .u64 (d) * 2 ^ (min (Int.toNat (if IntKind.wrap .i64 (0 - b) > 0 then IntKind.wrap .i64 (0 - b) else 0)) (IntKind.bits .u64)))) then (bif (Int.tmod a 2) == 1 then (bif decide (c < 0) then (k (IntKind.wrap .i64 (0 - (IntKind.wrap .i64 (IntKind.wrap .u64 (a + 1)))))) else (k (IntKind.wrap .i64 (IntKind.wrap .u64 (a + 1))))) else (bif decide (c < 0) then (k (IntKind.wrap .i64 (0 - (IntKind.wrap .i64 (a))))) else (k (IntKind.wrap .i64 (a))))) else (bif decide (c < 0) then (k (IntKind.wrap .i64 (0 - (IntKind.wrap .i64 (a))))) else (k (IntKind.wrap .i64 (a))))) else (bif decide (c < 0) then (k (IntKind.wrap .i64 (0 - (IntKind.wrap .i64 (IntKind.wrap .u64 (a + 1)))))) else (k (IntKind.wrap .i64 (IntKind.wrap .u64 (a + 1)))))) else (bif decide (c < 0) then (k (IntKind.wrap .i64 (0 - (IntKind.wrap .i64 (a))))) else (k (IntKind.wrap .i64 (a)))))) else (bif (toList f == toList (⟨#[110, 101, 97, 114]⟩)) then (bif !(decide (IntKind.wrap .u64 (2 * e) > IntKind.wrap .u64 (IntKind.wrap .u64 (d) * 2 ^ (min (Int.toNat (if IntKind.wrap .i64 (0 - b) > 0 then IntKind.wrap .i64 (0 - b) else 0)) (IntKind.bits .u64))))) then (bif (IntKind.wrap .u64 (2 * e)) == (IntKind.wrap .u64 (IntKind.wrap .u64 (d) * 2 ^ (min (Int.toNat (if IntKind.wrap .i64 (0 - b) > 0 then IntKind.wrap .i64 (0 - b) else 0)) (IntKind.bits .u64)))) then (bif (Int.tmod a 2) == 1 then (bif decide (c < 0) then (k (IntKind.wrap .i64 (0 - (IntKind.wrap .i64 (IntKind.wrap .u64 (a + 1)))))) else (k (IntKind.wrap .i64 (IntKind.wrap .u64 (a + 1))))) else (bif decide (c < 0) then (k (IntKind.wrap .i64 (0 - (IntKind.wrap .i64 (a))))) else (k (IntKind.wrap .i64 (a))))) else (bif decide (c < 0) then (k (IntKind.wrap .i64 (0 - (IntKind.wrap .i64 (a))))) else (k (IntKind.wrap .i64 (a))))) else (bif decide (c < 0) then (k (IntKind.wrap .i64 (0 - (IntKind.wrap .i64 (IntKind.wrap .u64 (a + 1)))))) else (k (IntKind.wrap .i64 (IntKind.wrap .u64 (a + 1)))))) else (bif decide (c < 0) then (k (IntKind.wrap .i64 (0 - (IntKind.wrap .i64 (a))))) else (k (IntKind.wrap .i64 (a))))))))))
noncomputable def quant_exact_rounded (a b c : Int) (d : ByteArray) (k : KI) : Option DV := B_quant_exact_rounded bits_Div64 bits_Mul64 quant_exact_size a b c d k

noncomputable def KK_quant_exact_rounded (f0 : Int → Int → Int → ByteArray → KI → Option DV) (ds : List DV) (k : DV → Option DV) : Option DV :=
  match ds with
  | [.val (.agg ⟨[.int .i64 a, .int .i64 b]⟩), .val (.int .i64 c), .val (.string d)] => f0 a b c d (fun e => k (.val (.int .i64 e)))
  | _ => none

theorem r_quant_exact_rounded (f0 : Int → Int → Int → KQ → Option DV) (f1 : Int → Int → KQ → Option DV) (f2 : Int → Int → KI → Option DV) (a b c : Int) (d : ByteArray) (k : DV → Option DV) : B_quant_exact_rounded f0 f1 f2 a b c d (fun e => k (.val (.int .i64 e))) = pevF Tryz.prog (tab [(151, (KK_quant_exact_size f2)), (152, (KK_bits_Mul64 f1)), (153, (KK_bits_Div64 f0))]) [] 64 Tryz.f121 (bodyOf Tryz.f121) [.val (.agg ⟨[.int .i64 a, .int .i64 b]⟩), .val (.int .i64 c), .val (.string d)] k := by kernel_rfl

theorem m_quant_exact_rounded : Meets Tryz.prog Inv 121 (KK_quant_exact_rounded quant_exact_rounded) :=
  meets_of_pev mixed stab (tab_cons m_quant_exact_size (tab_cons m_bits_Mul64 (tab_cons m_bits_Div64 (tab_nil _ _)))) Tryz.func121 (by kernel_rfl) (by kernel_rfl) (by
    intro ds; unfold KK_quant_exact_rounded; split
    · exact .inr ⟨[], 64, fun k => r_quant_exact_rounded bits_Div64 bits_Mul64 quant_exact_size _ _ _ _ k⟩
    · exact .inl (fun _ => rfl))

inductive X_quant_fitFloat_l2 where
  | h0 (a : Int) (b : ByteArray) (c : Int) (d : Int) (e : ByteArray) (f : ByteArray) (g : Int) (h : Int) (i : Int) (j : Int)
def φ_quant_fitFloat_l2 : X_quant_fitFloat_l2 → Nat
  | .h0 a b c d e f g h i j => Int.toNat (70 - a)

noncomputable def S_quant_fitFloat_l2 : X_quant_fitFloat_l2 → St
  | .h0 a b c d e f g h i j => ⟨mkT [(2, .ptr 0 0), (3, .ptr 1 0), (4, .ptr 2 0), (5, .dv (.val (.int .i64 a)))] (.leaf .dead), 52, [some (.cells [.val (.string b), .val (.int .i64 c), .val (.int .i64 d), .val (.string e), .val (.string f)]), some (.cells [.val (.int .i64 g), .val (.int .i64 h)]), some (.cells [.val (.int .i64 i), .val (.int .i64 j)])]⟩

noncomputable def oc_quant_fitFloat_l2 (k : KC) : (Int → ByteArray → Int → Int → ByteArray → ByteArray → Int → Int → Int → Int → Option DV) × (Int → ByteArray → Int → Int → ByteArray → ByteArray → Int → Int → Int → Int → Option DV) := (fun a b c d e f g h i j => k .ret ⟨mkT [(2, .ptr 0 0), (3, .ptr 1 0), (4, .ptr 2 0), (5, .dv (.val (.int .i64 a)))] (.leaf .dead), 52, [some (.cells [.val (.string b), .val (.int .i64 c), .val (.int .i64 d), .val (.string e), .val (.string f)]), some (.cells [.val (.int .i64 g), .val (.int .i64 h)]), some (.cells [.val (.int .i64 i), .val (.int .i64 j)])]⟩, fun a b c d e f g h i j => k (.exit 0) ⟨mkT [(2, .ptr 0 0), (3, .ptr 1 0), (4, .ptr 2 0), (5, .dv (.val (.int .i64 a)))] (.leaf .dead), 52, [some (.cells [.val (.string b), .val (.int .i64 c), .val (.int .i64 d), .val (.string e), .val (.string f)]), some (.cells [.val (.int .i64 g), .val (.int .i64 h)]), some (.cells [.val (.int .i64 i), .val (.int .i64 j)])]⟩)

noncomputable def B_quant_fitFloat_l2_h0 (f0 : ByteArray → Int → Int → ByteArray → ByteArray → Int → Int → KQ → Option DV) (f1 : Int → Int → Int → KB → Option DV) (f2 : Int → Int → KQ → Option DV) (f3 : Int → Int → Int → ByteArray → KI → Option DV) (a : Int) (f : ByteArray) (b : Int) (c : Int) (g : ByteArray) (h : ByteArray) (d : Int) (e : Int) (i : Int) (j : Int) (κn : X_quant_fitFloat_l2 → Option DV) (κ0 : Int → ByteArray → Int → Int → ByteArray → ByteArray → Int → Int → Int → Int → Option DV) (κ1 : Int → ByteArray → Int → Int → ByteArray → ByteArray → Int → Int → Int → Int → Option DV) : Option DV :=
  f1 d e (IntKind.wrap .i64 (b + a)) (fun l => bif !l then (bif a == c then (f0 f b c g h d e (fun m n => κ0 a f b c g h d e m n)) else (κn (X_quant_fitFloat_l2.h0 (IntKind.wrap .i64 (a + 1)) f b c g h d e i j))) else (κ1 a f b c g h d e i j))

noncomputable def F_quant_fitFloat_l2 (f0 : ByteArray → Int → Int → ByteArray → ByteArray → Int → Int → KQ → Option DV) (f1 : Int → Int → Int → KB → Option DV) (f2 : Int → Int → KQ → Option DV) (f3 : Int → Int → Int → ByteArray → KI → Option DV) : X_quant_fitFloat_l2 → (X_quant_fitFloat_l2 → Option DV) → ((Int → ByteArray → Int → Int → ByteArray → ByteArray → Int → Int → Int → Int → Option DV) × (Int → ByteArray → Int → Int → ByteArray → ByteArray → Int → Int → Int → Int → Option DV)) → Option DV
  | .h0 a b c d e f g h i j, κn, κ => B_quant_fitFloat_l2_h0 f0 f1 f2 f3 a b c d e f g h i j κn κ.1 κ.2

noncomputable def dec_quant_fitFloat_l2 (s : St) : Option X_quant_fitFloat_l2 :=
  bindO (xN s.n 52) fun u => bindO (xP 0 0 (s.tmps.get 2)) fun ab => bindO (xP 1 0 (s.tmps.get 3)) fun ac => bindO (xP 2 0 (s.tmps.get 4)) fun ad => bindO (xD (s.tmps.get 5)) fun o => bindO (xI .i64 o) fun p => bindO (xBlk s.heap) fun a => bindO (xUn a.1) fun b => bindO (xS b.1) fun q => bindO (xUn b.2) fun c => bindO (xI .i64 c.1) fun r => bindO (xUn c.2) fun d => bindO (xI .i64 d.1) fun t => bindO (xUn d.2) fun e => bindO (xS e.1) fun v => bindO (xUn e.2) fun f => bindO (xS f.1) fun w => bindO (xEnd f.2) fun ae => bindO (xBlk a.2) fun g => bindO (xUn g.1) fun h => bindO (xI .i64 h.1) fun x => bindO (xUn h.2) fun i => bindO (xI .i64 i.1) fun y => bindO (xEnd i.2) fun af => bindO (xBlk g.2) fun j => bindO (xUn j.1) fun l => bindO (xI .i64 l.1) fun z => bindO (xUn l.2) fun m => bindO (xI .i64 m.1) fun aa => bindO (xEnd m.2) fun ag => bindO (xEnd j.2) fun ah => some (.h0 p q r t v w x y z aa)

noncomputable def R_quant_fitFloat_l2 (f0 : ByteArray → Int → Int → ByteArray → ByteArray → Int → Int → KQ → Option DV) (f1 : Int → Int → Int → KB → Option DV) (f2 : Int → Int → KQ → Option DV) (f3 : Int → Int → Int → ByteArray → KI → Option DV) : St → KC → Option DV := decR dec_quant_fitFloat_l2 (F_quant_fitFloat_l2 f0 f1 f2 f3) φ_quant_fitFloat_l2 oc_quant_fitFloat_l2

theorem d_quant_fitFloat_l2 : ∀ s x, dec_quant_fitFloat_l2 s = some x → SLe s (S_quant_fitFloat_l2 x) := by
  intro s x h
  unfold dec_quant_fitFloat_l2 at h
  · obtain ⟨u, en, h⟩ := bindO_some h
    obtain ⟨aj, a, h⟩ := bindO_some h
    obtain ⟨al, b, h⟩ := bindO_some h
    obtain ⟨am, c, h⟩ := bindO_some h
    obtain ⟨an, d, h⟩ := bindO_some h
    obtain ⟨ao, e, h⟩ := bindO_some h
    obtain ⟨ap, f, h⟩ := bindO_some h
    obtain ⟨aq, g, h⟩ := bindO_some h
    obtain ⟨ar, i, h⟩ := bindO_some h
    obtain ⟨au, j, h⟩ := bindO_some h
    obtain ⟨av, l, h⟩ := bindO_some h
    obtain ⟨aw, m, h⟩ := bindO_some h
    obtain ⟨ax, n, h⟩ := bindO_some h
    obtain ⟨ay, o, h⟩ := bindO_some h
    obtain ⟨az, p, h⟩ := bindO_some h
    obtain ⟨ba, q, h⟩ := bindO_some h
    obtain ⟨bb, r, h⟩ := bindO_some h
    obtain ⟨bc, t, h⟩ := bindO_some h
    obtain ⟨bd, v, h⟩ := bindO_some h
    obtain ⟨be, w, h⟩ := bindO_some h
    obtain ⟨bf, y, h⟩ := bindO_some h
    obtain ⟨bg, z, h⟩ := bindO_some h
    obtain ⟨bh, aa, h⟩ := bindO_some h
    obtain ⟨bi, ab, h⟩ := bindO_some h
    obtain ⟨bj, ac, h⟩ := bindO_some h
    obtain ⟨bl, ad, h⟩ := bindO_some h
    obtain ⟨bm, ae, h⟩ := bindO_some h
    obtain ⟨bn, af, h⟩ := bindO_some h
    obtain ⟨bo, ag, h⟩ := bindO_some h
    obtain ⟨bp, ah, h⟩ := bindO_some h
    obtain ⟨bq, ai, h⟩ := bindO_some h
    cases h
    exact ⟨le_mkT _ _ (Le.dead _) ⟨.inr (xP_eq a), .inr (xP_eq b), .inr (xP_eq c), .inr ((xD_eq d).trans (congrArg VV.dv (xI_eq e))), trivial⟩, (xN_eq en).symm, by rw [xBlk_eq f, xUn_eq g, xS_eq i, xUn_eq j, xI_eq l, xUn_eq m, xI_eq n, xUn_eq o, xS_eq p, xUn_eq q, xS_eq r, xEnd_eq t, xBlk_eq v, xUn_eq w, xI_eq y, xUn_eq z, xI_eq aa, xEnd_eq ab, xBlk_eq ac, xUn_eq ad, xI_eq ae, xUn_eq af, xI_eq ag, xEnd_eq ah, xEnd_eq ai]; rfl⟩

noncomputable def B_quant_fitFloat (f0 : ByteArray → Int → Int → ByteArray → ByteArray → Int → Int → KQ → Option DV) (f1 : Int → Int → Int → KB → Option DV) (f2 : Int → Int → KQ → Option DV) (f3 : Int → Int → Int → ByteArray → KI → Option DV) (e : ByteArray) (f b : Int) (g h : ByteArray) (i j : Int) (k : KQ) : Option DV :=
  LF (F_quant_fitFloat_l2 f0 f1 f2 f3) (φ_quant_fitFloat_l2 (X_quant_fitFloat_l2.h0 (IntKind.wrap .i64 (0 - b)) e f b g h i j 0 0)) (X_quant_fitFloat_l2.h0 (IntKind.wrap .i64 (0 - b)) e f b g h i j 0 0) ((fun z aa ab ac ad ae af ag p q => k p q), (fun c r d l m s n o ah ai => f3 n o (IntKind.wrap .i64 (0 - c)) m (fun a => bif c == l then (bif decide (d < 0) then none else (bif (if IntKind.wrap .i64 (0 - a) > a then IntKind.wrap .i64 (0 - a) else a) == (IntKind.wrap .i64 (1 * 2 ^ (min (Int.toNat d) (IntKind.bits .i64)))) then (f0 r d l m s n o (fun t u => k t u)) else (f2 a c (fun v w => k v w)))) else (f2 a c (fun x y => k x y)))))
noncomputable def quant_fitFloat (a : ByteArray) (b c : Int) (d e : ByteArray) (f g : Int) (k : KQ) : Option DV := B_quant_fitFloat quant_beyond quant_exact_isBelow quant_power quant_exact_rounded a b c d e f g k

noncomputable def KK_quant_fitFloat (f0 : ByteArray → Int → Int → ByteArray → ByteArray → Int → Int → KQ → Option DV) (ds : List DV) (k : DV → Option DV) : Option DV :=
  match ds with
  | [.val (.agg ⟨[.string a, .int .i64 b, .int .i64 c, .string d, .string e]⟩), .val (.agg ⟨[.int .i64 f, .int .i64 g]⟩)] => f0 a b c d e f g (fun h i => k (.val (.agg ⟨[.int .i64 h, .int .i64 i]⟩)))
  | _ => none

theorem q_quant_fitFloat_l2_h0 (f0 : ByteArray → Int → Int → ByteArray → ByteArray → Int → Int → KQ → Option DV) (f1 : Int → Int → Int → KB → Option DV) (f2 : Int → Int → KQ → Option DV) (f3 : Int → Int → Int → ByteArray → KI → Option DV) (a : Int) (b : ByteArray) (c : Int) (d : Int) (e : ByteArray) (f : ByteArray) (g : Int) (h : Int) (i : Int) (j : Int) (κn : St → Option DV) (κ : KC) : pev Tryz.prog (tab [(67, (KK_quant_power f2)), (119, (KK_quant_exact_isBelow f1)), (120, (KK_quant_beyond f0)), (121, (KK_quant_exact_rounded f3))]) (ltab [(2, R_quant_fitFloat_l2 f0 f1 f2 f3)]) [(0, [0]), (0, []), (2, [2, 3, 4, 5]), (100002, [2, 3, 4, 5])] 64 (loopB (bodyOf Tryz.f88) 0) (S_quant_fitFloat_l2 (.h0 a b c d e f g h i j)) (contL [2, 3, 4, 5] [2, 3, 4, 5] κn κ) = F_quant_fitFloat_l2 f0 f1 f2 f3 (.h0 a b c d e f g h i j) (fun x => κn (S_quant_fitFloat_l2 x)) (oc_quant_fitFloat_l2 κ) := by kernel_rfl

theorem g_quant_fitFloat_l2 (f0 : ByteArray → Int → Int → ByteArray → ByteArray → Int → Int → KQ → Option DV) (f1 : Int → Int → Int → KB → Option DV) (f2 : Int → Int → KQ → Option DV) (f3 : Int → Int → Int → ByteArray → KI → Option DV) (HK : ∀ g, Meets Tryz.prog Inv g (tab [(67, (KK_quant_power f2)), (119, (KK_quant_exact_isBelow f1)), (120, (KK_quant_beyond f0)), (121, (KK_quant_exact_rounded f3))] g)) : RGood Tryz.prog Inv (loopB (bodyOf Tryz.f88) 0) (R_quant_fitFloat_l2 f0 f1 f2 f3) :=
  have hL : LGood Tryz.prog Inv (ltab [(2, R_quant_fitFloat_l2 f0 f1 f2 f3)]) (loopB (bodyOf Tryz.f88) 0) := (lgood_of (bs := []) (by kernel_rfl) lgood_nil)
  rgood_dec (body := fun s k => pev Tryz.prog (tab [(67, (KK_quant_power f2)), (119, (KK_quant_exact_isBelow f1)), (120, (KK_quant_beyond f0)), (121, (KK_quant_exact_rounded f3))]) (ltab [(2, R_quant_fitFloat_l2 f0 f1 f2 f3)]) [(0, [0]), (0, []), (2, [2, 3, 4, 5]), (100002, [2, 3, 4, 5])] 64 (loopB (bodyOf Tryz.f88) 0) s k) (live := [2, 3, 4, 5]) (out := [2, 3, 4, 5]) (S := S_quant_fitFloat_l2) (pev_ok mixed stab HK (ltab [(2, R_quant_fitFloat_l2 f0 f1 f2 f3)]) [(0, [0]), (0, []), (2, [2, 3, 4, 5]), (100002, [2, 3, 4, 5])] 64 _ hL) (pev_nat HK (ltab [(2, R_quant_fitFloat_l2 f0 f1 f2 f3)]) [(0, [0]), (0, []), (2, [2, 3, 4, 5]), (100002, [2, 3, 4, 5])] 64 _ hL)
    (fun x κn κ => match x with
      | .h0 _ _ _ _ _ _ _ _ _ _ => q_quant_fitFloat_l2_h0 f0 f1 f2 f3 _ _ _ _ _ _ _ _ _ _ κn κ
    ) d_quant_fitFloat_l2 φ_quant_fitFloat_l2

theorem r_quant_fitFloat (f0 : ByteArray → Int → Int → ByteArray → ByteArray → Int → Int → KQ → Option DV) (f1 : Int → Int → Int → KB → Option DV) (f2 : Int → Int → KQ → Option DV) (f3 : Int → Int → Int → ByteArray → KI → Option DV) (a : ByteArray) (b c : Int) (d e : ByteArray) (f g : Int) (k : DV → Option DV) : B_quant_fitFloat f0 f1 f2 f3 a b c d e f g (fun h i => k (.val (.agg ⟨[.int .i64 h, .int .i64 i]⟩))) = pevL Tryz.prog (tab [(67, (KK_quant_power f2)), (119, (KK_quant_exact_isBelow f1)), (120, (KK_quant_beyond f0)), (121, (KK_quant_exact_rounded f3))]) (ltab [(2, R_quant_fitFloat_l2 f0 f1 f2 f3)]) [(0, [0]), (0, []), (2, [2, 3, 4, 5]), (100002, [2, 3, 4, 5])] 64 Tryz.f88 (bodyOf Tryz.f88) [.val (.agg ⟨[.string a, .int .i64 b, .int .i64 c, .string d, .string e]⟩), .val (.agg ⟨[.int .i64 f, .int .i64 g]⟩)] k := by kernel_rfl

theorem m_quant_fitFloat : Meets Tryz.prog Inv 88 (KK_quant_fitFloat quant_fitFloat) :=
  meets_of_pevL mixed stab (tab_cons m_quant_power (tab_cons m_quant_exact_isBelow (tab_cons m_quant_beyond (tab_cons m_quant_exact_rounded (tab_nil _ _))))) Tryz.func88 (by kernel_rfl) (by kernel_rfl) (by
    intro ds; unfold KK_quant_fitFloat; split
    · exact .inr ⟨(ltab [(2, R_quant_fitFloat_l2 quant_beyond quant_exact_isBelow quant_power quant_exact_rounded)]), [(0, [0]), (0, []), (2, [2, 3, 4, 5]), (100002, [2, 3, 4, 5])], 64, lgood_of (bs := [loopB (bodyOf Tryz.f88) 0]) (by kernel_rfl) (lgood_cons (by kernel_rfl) (g_quant_fitFloat_l2 quant_beyond quant_exact_isBelow quant_power quant_exact_rounded (tab_cons m_quant_power (tab_cons m_quant_exact_isBelow (tab_cons m_quant_beyond (tab_cons m_quant_exact_rounded (tab_nil _ _)))))) lgood_nil), fun k => r_quant_fitFloat quant_beyond quant_exact_isBelow quant_power quant_exact_rounded _ _ _ _ _ _ _ k⟩
    · exact .inl (fun _ => rfl))

noncomputable def B_quant_fitFix (f0 : ByteArray → Int → Int → ByteArray → ByteArray → Int → Int → KQ → Option DV) (f1 : ByteArray → Int → Int → ByteArray → ByteArray → Int → KQ → Option DV) (f2 : ByteArray → Int → Int → ByteArray → ByteArray → KI → Option DV) (f3 : Int → Int → Int → ByteArray → KI → Option DV) (f4 : Int → Int → Int → KB → Option DV) (e : ByteArray) (a c : Int) (d b : ByteArray) (g f : Int) (k : KQ) : Option DV :=
  f4 g f (IntKind.wrap .i64 (a + 1)) (fun q => bif !q then (bif !(toList b == toList (⟨#[119, 114, 97, 112]⟩)) then (f0 e a c d b g f (fun r s => k r s)) else (bif decide (IntKind.wrap .i64 (a + 1) < 0) then none else (bif (IntKind.wrap .i64 (f * 2 ^ (min (Int.toNat (IntKind.wrap .i64 (a + 1))) (IntKind.bits .i64)))) == 0 then none else (f3 (Int.tmod g (IntKind.wrap .i64 (f * 2 ^ (min (Int.toNat (IntKind.wrap .i64 (a + 1))) (IntKind.bits .i64))))) f c d (fun h => bif (toList b == toList (⟨#[119, 114, 97, 112]⟩)) then (f2 e a c d b (fun j => f2 e a c d b (fun l => f2 e a c d b (fun m => f2 e a c d b (fun t => bif !(decide (IntKind.wrap .i64 ((IntKind.wrap .i64 ((BitVec.toNat (BitVec.ofInt (IntKind.bits .i64) (IntKind.wrap .i64 (h + j)) &&& BitVec.ofInt (IntKind.bits .i64) (IntKind.wrap .i64 ((IntKind.wrap .i64 (2 * l)) - 1))) : Nat))) - m) < IntKind.wrap .i64 (0 - t))) then (f2 e a c d b (fun u => bif decide (IntKind.wrap .i64 ((IntKind.wrap .i64 ((BitVec.toNat (BitVec.ofInt (IntKind.bits .i64) (IntKind.wrap .i64 (h + j)) &&& BitVec.ofInt (IntKind.bits .i64) (IntKind.wrap .i64 ((IntKind.wrap .i64 (2 * l)) - 1))) : Nat))) - m) ≥ u) then (f0 e a c d b (Int.tmod g (IntKind.wrap .i64 (f * 2 ^ (min (Int.toNat (IntKind.wrap .i64 (a + 1))) (IntKind.bits .i64))))) f (fun v w => k v w)) else (f1 e a c d b (IntKind.wrap .i64 ((IntKind.wrap .i64 ((BitVec.toNat (BitVec.ofInt (IntKind.bits .i64) (IntKind.wrap .i64 (h + j)) &&& BitVec.ofInt (IntKind.bits .i64) (IntKind.wrap .i64 ((IntKind.wrap .i64 (2 * l)) - 1))) : Nat))) - m)) (fun x y => k x y)))) else (f0 e a c d b (Int.tmod g (IntKind.wrap .i64 (f * 2 ^ (min (Int.toNat (IntKind.wrap .i64 (a + 1))) (IntKind.bits .i64))))) f (fun z aa => k z aa))))))) else (f2 e a c d b (fun ab => bif !(decide (h < IntKind.wrap .i64 (0 - ab))) then (f2 e a c d b (fun ac => bif decide (h ≥ ac) then (f0 e a c d b (Int.tmod g (IntKind.wrap .i64 (f * 2 ^ (min (Int.toNat (IntKind.wrap .i64 (a + 1))) (IntKind.bits .i64))))) f (fun ad ae => k ad ae)) else (f1 e a c d b h (fun af ag => k af ag)))) else (f0 e a c d b (Int.tmod g (IntKind.wrap .i64 (f * 2 ^ (min (Int.toNat (IntKind.wrap .i64 (a + 1))) (IntKind.bits .i64))))) f (fun ah ai => k ah ai))))))))) else (f3 g f c d (fun i => bif (toList b == toList (⟨#[119, 114, 97, 112]⟩)) then (f2 e a c d b (fun n => f2 e a c d b (fun o => f2 e a c d b (fun p => f2 e a c d b (fun aj => bif !(decide (IntKind.wrap .i64 ((IntKind.wrap .i64 ((BitVec.toNat (BitVec.ofInt (IntKind.bits .i64) (IntKind.wrap .i64 (i + n)) &&& BitVec.ofInt (IntKind.bits .i64) (IntKind.wrap .i64 ((IntKind.wrap .i64 (2 * o)) - 1))) : Nat))) - p) < IntKind.wrap .i64 (0 - aj))) then (f2 e a c d b (fun al => bif decide (IntKind.wrap .i64 ((IntKind.wrap .i64 ((BitVec.toNat (BitVec.ofInt (IntKind.bits .i64) (IntKind.wrap .i64 (i + n)) &&& BitVec.ofInt (IntKind.bits .i64) (IntKind.wrap .i64 ((IntKind.wrap .i64 (2 * o)) - 1))) : Nat))) - p) ≥ al) then (f0 e a c d b g f (fun am an => k am an)) else (f1 e a c d b (IntKind.wrap .i64 ((IntKind.wrap .i64 ((BitVec.toNat (BitVec.ofInt (IntKind.bits .i64) (IntKind.wrap .i64 (i + n)) &&& BitVec.ofInt (IntKind.bits .i64) (IntKind.wrap .i64 ((IntKind.wrap .i64 (2 * o)) - 1))) : Nat))) - p)) (fun ao ap => k ao ap)))) else (f0 e a c d b g f (fun aq ar => k aq ar))))))) else (f2 e a c d b (fun au => bif !(decide (i < IntKind.wrap .i64 (0 - au))) then (f2 e a c d b (fun av => bif decide (i ≥ av) then (f0 e a c d b g f (fun aw ax => k aw ax)) else (f1 e a c d b i (fun ay az => k ay az)))) else (f0 e a c d b g f (fun ba bb => k ba bb)))))))
noncomputable def quant_fitFix (a : ByteArray) (b c : Int) (d e : ByteArray) (f g : Int) (k : KQ) : Option DV := B_quant_fitFix quant_beyond quant_steps quant_half quant_exact_rounded quant_exact_isBelow a b c d e f g k

noncomputable def KK_quant_fitFix (f0 : ByteArray → Int → Int → ByteArray → ByteArray → Int → Int → KQ → Option DV) (ds : List DV) (k : DV → Option DV) : Option DV :=
  match ds with
  | [.val (.agg ⟨[.string a, .int .i64 b, .int .i64 c, .string d, .string e]⟩), .val (.agg ⟨[.int .i64 f, .int .i64 g]⟩)] => f0 a b c d e f g (fun h i => k (.val (.agg ⟨[.int .i64 h, .int .i64 i]⟩)))
  | _ => none

theorem r_quant_fitFix (f0 : ByteArray → Int → Int → ByteArray → ByteArray → Int → Int → KQ → Option DV) (f1 : ByteArray → Int → Int → ByteArray → ByteArray → Int → KQ → Option DV) (f2 : ByteArray → Int → Int → ByteArray → ByteArray → KI → Option DV) (f3 : Int → Int → Int → ByteArray → KI → Option DV) (f4 : Int → Int → Int → KB → Option DV) (a : ByteArray) (b c : Int) (d e : ByteArray) (f g : Int) (k : DV → Option DV) : B_quant_fitFix f0 f1 f2 f3 f4 a b c d e f g (fun h i => k (.val (.agg ⟨[.int .i64 h, .int .i64 i]⟩))) = pevF Tryz.prog (tab [(65, (KK_quant_steps f1)), (66, (KK_quant_half f2)), (119, (KK_quant_exact_isBelow f4)), (120, (KK_quant_beyond f0)), (121, (KK_quant_exact_rounded f3))]) [] 64 Tryz.f89 (bodyOf Tryz.f89) [.val (.agg ⟨[.string a, .int .i64 b, .int .i64 c, .string d, .string e]⟩), .val (.agg ⟨[.int .i64 f, .int .i64 g]⟩)] k := by kernel_rfl

theorem m_quant_fitFix : Meets Tryz.prog Inv 89 (KK_quant_fitFix quant_fitFix) :=
  meets_of_pev mixed stab (tab_cons m_quant_steps (tab_cons m_quant_half (tab_cons m_quant_exact_isBelow (tab_cons m_quant_beyond (tab_cons m_quant_exact_rounded (tab_nil _ _)))))) Tryz.func89 (by kernel_rfl) (by kernel_rfl) (by
    intro ds; unfold KK_quant_fitFix; split
    · exact .inr ⟨[], 64, fun k => r_quant_fitFix quant_beyond quant_steps quant_half quant_exact_rounded quant_exact_isBelow _ _ _ _ _ _ _ k⟩
    · exact .inl (fun _ => rfl))

noncomputable def B_quant_fit (f0 : ByteArray → Int → Int → ByteArray → ByteArray → Int → Int → KQ → Option DV) (f1 : ByteArray → Int → Int → ByteArray → ByteArray → Int → Int → KQ → Option DV) (f2 : ByteArray → Int → Int → ByteArray → ByteArray → KB → Option DV) (a : ByteArray) (b c : Int) (d e : ByteArray) (f g : Int) (k : KQ) : Option DV :=
  f2 a b c d e (fun h => bif !h then (k 0 0) else (bif (toList a == toList (⟨#[102, 108, 111, 97, 116]⟩)) then (f0 a b c d e f g (fun i j => k i j)) else (f1 a b c d e f g (fun l m => k l m))))
noncomputable def quant_fit (a : ByteArray) (b c : Int) (d e : ByteArray) (f g : Int) (k : KQ) : Option DV := B_quant_fit quant_fitFloat quant_fitFix quant_Valid a b c d e f g k

noncomputable def KK_quant_fit (f0 : ByteArray → Int → Int → ByteArray → ByteArray → Int → Int → KQ → Option DV) (ds : List DV) (k : DV → Option DV) : Option DV :=
  match ds with
  | [.val (.agg ⟨[.string a, .int .i64 b, .int .i64 c, .string d, .string e]⟩), .val (.agg ⟨[.int .i64 f, .int .i64 g]⟩)] => f0 a b c d e f g (fun h i => k (.val (.agg ⟨[.int .i64 h, .int .i64 i]⟩)))
  | _ => none

theorem r_quant_fit (f0 : ByteArray → Int → Int → ByteArray → ByteArray → Int → Int → KQ → Option DV) (f1 : ByteArray → Int → Int → ByteArray → ByteArray → Int → Int → KQ → Option DV) (f2 : ByteArray → Int → Int → ByteArray → ByteArray → KB → Option DV) (a : ByteArray) (b c : Int) (d e : ByteArray) (f g : Int) (k : DV → Option DV) : B_quant_fit f0 f1 f2 a b c d e f g (fun h i => k (.val (.agg ⟨[.int .i64 h, .int .i64 i]⟩))) = pevF Tryz.prog (tab [(19, (KK_quant_Valid f2)), (88, (KK_quant_fitFloat f0)), (89, (KK_quant_fitFix f1))]) [] 64 Tryz.f63 (bodyOf Tryz.f63) [.val (.agg ⟨[.string a, .int .i64 b, .int .i64 c, .string d, .string e]⟩), .val (.agg ⟨[.int .i64 f, .int .i64 g]⟩)] k := by kernel_rfl

theorem m_quant_fit : Meets Tryz.prog Inv 63 (KK_quant_fit quant_fit) :=
  meets_of_pev mixed stab (tab_cons m_quant_Valid (tab_cons m_quant_fitFloat (tab_cons m_quant_fitFix (tab_nil _ _)))) Tryz.func63 (by kernel_rfl) (by kernel_rfl) (by
    intro ds; unfold KK_quant_fit; split
    · exact .inr ⟨[], 64, fun k => r_quant_fit quant_fitFloat quant_fitFix quant_Valid _ _ _ _ _ _ _ k⟩
    · exact .inl (fun _ => rfl))

noncomputable def B_quant_Fit (f0 : ByteArray → Int → Int → ByteArray → ByteArray → Int → Int → KQ → Option DV) (f1 : Int → Int → KB → Option DV) (c : ByteArray) (d e : Int) (f g : ByteArray) (a b : Int) (k : KQ) : Option DV :=
  f1 a b (fun h => bif !h then (k 0 0) else (f0 c d e f g a b (fun i j => k i j)))
noncomputable def quant_Fit (a : ByteArray) (b c : Int) (d e : ByteArray) (f g : Int) (k : KQ) : Option DV := B_quant_Fit quant_fit ratio_Is a b c d e f g k

noncomputable def KK_quant_Fit (f0 : ByteArray → Int → Int → ByteArray → ByteArray → Int → Int → KQ → Option DV) (ds : List DV) (k : DV → Option DV) : Option DV :=
  match ds with
  | [.val (.agg ⟨[.string a, .int .i64 b, .int .i64 c, .string d, .string e]⟩), .val (.agg ⟨[.int .i64 f, .int .i64 g]⟩)] => f0 a b c d e f g (fun h i => k (.val (.agg ⟨[.int .i64 h, .int .i64 i]⟩)))
  | _ => none

theorem r_quant_Fit (f0 : ByteArray → Int → Int → ByteArray → ByteArray → Int → Int → KQ → Option DV) (f1 : Int → Int → KB → Option DV) (a : ByteArray) (b c : Int) (d e : ByteArray) (f g : Int) (k : DV → Option DV) : B_quant_Fit f0 f1 a b c d e f g (fun h i => k (.val (.agg ⟨[.int .i64 h, .int .i64 i]⟩))) = pevF Tryz.prog (tab [(31, (KK_ratio_Is f1)), (63, (KK_quant_fit f0))]) [] 64 Tryz.f22 (bodyOf Tryz.f22) [.val (.agg ⟨[.string a, .int .i64 b, .int .i64 c, .string d, .string e]⟩), .val (.agg ⟨[.int .i64 f, .int .i64 g]⟩)] k := by kernel_rfl

theorem m_quant_Fit : Meets Tryz.prog Inv 22 (KK_quant_Fit quant_Fit) :=
  meets_of_pev mixed stab (tab_cons m_ratio_Is (tab_cons m_quant_fit (tab_nil _ _))) Tryz.func22 (by kernel_rfl) (by kernel_rfl) (by
    intro ds; unfold KK_quant_Fit; split
    · exact .inr ⟨[], 64, fun k => r_quant_Fit quant_fit ratio_Is _ _ _ _ _ _ _ k⟩
    · exact .inl (fun _ => rfl))

noncomputable def B_quant_Step (f0 : ByteArray → Int → Int → ByteArray → ByteArray → Int → KQ → Option DV) (f1 : ByteArray → Int → Int → ByteArray → ByteArray → KB → Option DV) (a : ByteArray) (b c : Int) (d e : ByteArray) (k : KQ) : Option DV :=
  f1 a b c d e (fun f => bif !f then (k 0 0) else (f0 a b c d e 1 (fun g h => k g h)))
noncomputable def quant_Step (a : ByteArray) (b c : Int) (d e : ByteArray) (k : KQ) : Option DV := B_quant_Step quant_steps quant_Valid a b c d e k

noncomputable def KK_quant_Step (f0 : ByteArray → Int → Int → ByteArray → ByteArray → KQ → Option DV) (ds : List DV) (k : DV → Option DV) : Option DV :=
  match ds with
  | [.val (.agg ⟨[.string a, .int .i64 b, .int .i64 c, .string d, .string e]⟩)] => f0 a b c d e (fun f g => k (.val (.agg ⟨[.int .i64 f, .int .i64 g]⟩)))
  | _ => none

theorem r_quant_Step (f0 : ByteArray → Int → Int → ByteArray → ByteArray → Int → KQ → Option DV) (f1 : ByteArray → Int → Int → ByteArray → ByteArray → KB → Option DV) (a : ByteArray) (b c : Int) (d e : ByteArray) (k : DV → Option DV) : B_quant_Step f0 f1 a b c d e (fun f g => k (.val (.agg ⟨[.int .i64 f, .int .i64 g]⟩))) = pevF Tryz.prog (tab [(19, (KK_quant_Valid f1)), (65, (KK_quant_steps f0))]) [] 64 Tryz.f25 (bodyOf Tryz.f25) [.val (.agg ⟨[.string a, .int .i64 b, .int .i64 c, .string d, .string e]⟩)] k := by kernel_rfl

theorem m_quant_Step : Meets Tryz.prog Inv 25 (KK_quant_Step quant_Step) :=
  meets_of_pev mixed stab (tab_cons m_quant_Valid (tab_cons m_quant_steps (tab_nil _ _))) Tryz.func25 (by kernel_rfl) (by kernel_rfl) (by
    intro ds; unfold KK_quant_Step; split
    · exact .inr ⟨[], 64, fun k => r_quant_Step quant_steps quant_Valid _ _ _ _ _ k⟩
    · exact .inl (fun _ => rfl))

noncomputable def B_s2_Valid  (d : ByteArray) (a b : Int) (e c : ByteArray) (k : KB) : Option DV :=
  bif !(toList e == toList (⟨#[102, 108, 111, 111, 114]⟩)) then (bif !(toList e == toList (⟨#[110, 101, 97, 114]⟩)) then (bif !(toList e == toList (⟨#[122, 101, 114, 111]⟩)) then (k false) else (bif (toList d == toList (⟨#[102, 105, 120]⟩)) then (bif !(toList c == toList (⟨#[115, 97, 116]⟩)) then (bif !(toList c == toList (⟨#[119, 114, 97, 112]⟩)) then (bif (toList c == toList (⟨#[110, 111, 110, 101]⟩)) then (bif decide (a ≥ 0) then (bif decide (a ≤ 30) then (bif decide (b ≥ 0) then (bif decide (b ≤ 30) then (k (decide (IntKind.wrap .i64 (a + b) ≤ 30))) else (k false)) else (k false)) else (k false)) else (k false)) else (k false)) else (bif decide (a ≥ 0) then (bif decide (a ≤ 30) then (bif decide (b ≥ 0) then (bif decide (b ≤ 30) then (k (decide (IntKind.wrap .i64 (a + b) ≤ 30))) else (k false)) else (k false)) else (k false)) else (k false))) else (bif decide (a ≥ 0) then (bif decide (a ≤ 30) then (bif decide (b ≥ 0) then (bif decide (b ≤ 30) then (k (decide (IntKind.wrap .i64 (a + b) ≤ 30))) else (k false)) else (k false)) else (k false)) else (k false))) else (bif !(toList c == toList (⟨#[115, 97, 116]⟩)) then (bif (toList d == toList (⟨#[102, 108, 111, 97, 116]⟩)) then (bif (toList c == toList (⟨#[110, 111, 110, 101]⟩)) then (bif decide (a ≥ 1) then (bif decide (a ≤ 24) then (bif decide (b ≥ 0) then (bif decide (b ≤ 20) then (k (decide (IntKind.wrap .i64 (a + b) ≤ 30))) else (k false)) else (k false)) else (k false)) else (k false)) else (k false)) else (k false)) else (bif (toList d == toList (⟨#[102, 108, 111, 97, 116]⟩)) then (bif decide (a ≥ 1) then (bif decide (a ≤ 24) then (bif decide (b ≥ 0) then (bif decide (b ≤ 20) then (k (decide (IntKind.wrap .i64 (a + b) ≤ 30))) else (k false)) else (k false)) else (k false)) else (k false)) else (k false))))) else (bif (toList d == toList (⟨#[102, 105, 120]⟩)) then (bif !(toList c == toList (⟨#[115, 97, 116]⟩)) then (bif !(toList c == toList (⟨#[119, 114, 97, 112]⟩)) then (bif (toList c == toList (⟨#[110, 111, 110, 101]⟩)) then (bif decide (a ≥ 0) then (bif decide (a ≤ 30) then (bif decide (b ≥ 0) then (bif decide (b ≤ 30) then (k (decide (IntKind.wrap .i64 (a + b) ≤ 30))) else (k false)) else (k false)) else (k false)) else (k false)) else (k false)) else (bif decide (a ≥ 0) then (bif decide (a ≤ 30) then (bif decide (b ≥ 0) then (bif decide (b ≤ 30) then (k (decide (IntKind.wrap .i64 (a + b) ≤ 30))) else (k false)) else (k false)) else (k false)) else (k false))) else (bif decide (a ≥ 0) then (bif decide (a ≤ 30) then (bif decide (b ≥ 0) then (bif decide (b ≤ 30) then (k (decide (IntKind.wrap .i64 (a + b) ≤ 30))) else (k false)) else (k false)) else (k false)) else (k false))) else (bif !(toList c == toList (⟨#[115, 97, 116]⟩)) then (bif (toList d == toList (⟨#[102, 108, 111, 97, 116]⟩)) then (bif (toList c == toList (⟨#[110, 111, 110, 101]⟩)) then (bif decide (a ≥ 1) then (bif decide (a ≤ 24) then (bif decide (b ≥ 0) then (bif decide (b ≤ 20) then (k (decide (IntKind.wrap .i64 (a + b) ≤ 30))) else (k false)) else (k false)) else (k false)) else (k false)) else (k false)) else (k false)) else (bif (toList d == toList (⟨#[102, 108, 111, 97, 116]⟩)) then (bif decide (a ≥ 1) then (bif decide (a ≤ 24) then (bif decide (b ≥ 0) then (bif decide (b ≤ 20) then (k (decide (IntKind.wrap .i64 (a + b) ≤ 30))) else (k false)) else (k false)) else (k false)) else (k false)) else (k false))))) else (bif (toList d == toList (⟨#[102, 105, 120]⟩)) then (bif !(toList c == toList (⟨#[115, 97, 116]⟩)) then (bif !(toList c == toList (⟨#[119, 114, 97, 112]⟩)) then (bif (toList c == toList (⟨#[110, 111, 110, 101]⟩)) then (bif decide (a ≥ 0) then (bif decide (a ≤ 30) then (bif decide (b ≥ 0) then (bif decide (b ≤ 30) then (k (decide (IntKind.wrap .i64 (a + b) ≤ 30))) else (k false)) else (k false)) else (k false)) else (k false)) else (k false)) else (bif decide (a ≥ 0) then (bif decide (a ≤ 30) then (bif decide (b ≥ 0) then (bif decide (b ≤ 30) then (k (decide (IntKind.wrap .i64 (a + b) ≤ 30))) else (k false)) else (k false)) else (k false)) else (k false))) else (bif decide (a ≥ 0) then (bif decide (a ≤ 30) then (bif decide (b ≥ 0) then (bif decide (b ≤ 30) then (k (decide (IntKind.wrap .i64 (a + b) ≤ 30))) else (k false)) else (k false)) else (k false)) else (k false))) else (bif !(toList c == toList (⟨#[115, 97, 116]⟩)) then (bif (toList d == toList (⟨#[102, 108, 111, 97, 116]⟩)) then (bif (toList c == toList (⟨#[110, 111, 110, 101]⟩)) then (bif decide (a ≥ 1) then (bif decide (a ≤ 24) then (bif decide (b ≥ 0) then (bif decide (b ≤ 20) then (k (decide (IntKind.wrap .i64 (a + b) ≤ 30))) else (k false)) else (k false)) else (k false)) else (k false)) else (k false)) else (k false)) else (bif (toList d == toList (⟨#[102, 108, 111, 97, 116]⟩)) then (bif decide (a ≥ 1) then (bif decide (a ≤ 24) then (bif decide (b ≥ 0) then (bif decide (b ≤ 20) then (k (decide (IntKind.wrap .i64 (a + b) ≤ 30))) else (k false)) else (k false)) else (k false)) else (k false)) else (k false))))
noncomputable def s2_Valid (a : ByteArray) (b c : Int) (d e : ByteArray) (k : KB) : Option DV := B_s2_Valid  a b c d e k

noncomputable def KK_s2_Valid (f0 : ByteArray → Int → Int → ByteArray → ByteArray → KB → Option DV) (ds : List DV) (k : DV → Option DV) : Option DV :=
  match ds with
  | [.val (.agg ⟨[.string a, .int .i64 b, .int .i64 c, .string d, .string e]⟩)] => f0 a b c d e (fun f => k (.val (.bool f)))
  | _ => none

theorem r_s2_Valid  (a : ByteArray) (b c : Int) (d e : ByteArray) (k : DV → Option DV) : B_s2_Valid  a b c d e (fun f => k (.val (.bool f))) = pevF Tryz.prog (tab []) [] 64 Tryz.f80 (bodyOf Tryz.f80) [.val (.agg ⟨[.string a, .int .i64 b, .int .i64 c, .string d, .string e]⟩)] k := by kernel_rfl

theorem m_s2_Valid : Meets Tryz.prog Inv 80 (KK_s2_Valid s2_Valid) :=
  meets_of_pev mixed stab (tab_nil _ _) Tryz.func80 (by kernel_rfl) (by kernel_rfl) (by
    intro ds; unfold KK_s2_Valid; split
    · exact .inr ⟨[], 64, fun k => r_s2_Valid  _ _ _ _ _ k⟩
    · exact .inl (fun _ => rfl))

noncomputable def B_s2_Two  (a : Int) (k : KI) : Option DV :=
  bif decide (a < 0) then none else (k (IntKind.wrap .i64 (1 * 2 ^ (min (Int.toNat a) (IntKind.bits .i64)))))
noncomputable def s2_Two (a : Int) (k : KI) : Option DV := B_s2_Two  a k

noncomputable def KK_s2_Two (f0 : Int → KI → Option DV) (ds : List DV) (k : DV → Option DV) : Option DV :=
  match ds with
  | [.val (.int .i64 a)] => f0 a (fun b => k (.val (.int .i64 b)))
  | _ => none

theorem r_s2_Two  (a : Int) (k : DV → Option DV) : B_s2_Two  a (fun b => k (.val (.int .i64 b))) = pevF Tryz.prog (tab []) [] 64 Tryz.f140 (bodyOf Tryz.f140) [.val (.int .i64 a)] k := by kernel_rfl

theorem m_s2_Two : Meets Tryz.prog Inv 140 (KK_s2_Two s2_Two) :=
  meets_of_pev mixed stab (tab_nil _ _) Tryz.func140 (by kernel_rfl) (by kernel_rfl) (by
    intro ds; unfold KK_s2_Two; split
    · exact .inr ⟨[], 64, fun k => r_s2_Two  _ k⟩
    · exact .inl (fun _ => rfl))

noncomputable def B_s2_rounded  (e : ByteArray) (a d c b f : Int) (k : KI) : Option DV :=
  bif !(decide (d > 0)) then (bif (toList e == toList (⟨#[122, 101, 114, 111]⟩)) then (bif decide (a < 0) then (bif decide (b > 0) then (k (IntKind.wrap .i64 (a + 1))) else (k a)) else (k a)) else (bif (toList e == toList (⟨#[117, 112]⟩)) then (bif decide (b > 0) then (k (IntKind.wrap .i64 (a + 1))) else (k a)) else (bif (toList e == toList (⟨#[110, 101, 97, 114]⟩)) then (bif c == 1 then (bif !(decide (b > IntKind.wrap .i64 (f - b))) then (bif b == (IntKind.wrap .i64 (f - b)) then (bif (Int.tmod a 2) != 0 then (k (IntKind.wrap .i64 (a + 1))) else (k a)) else (k a)) else (k (IntKind.wrap .i64 (a + 1)))) else (bif !(decide (d > IntKind.wrap .i64 (Int.tdiv c 2))) then (bif d == (IntKind.wrap .i64 (Int.tdiv c 2)) then (bif d == (IntKind.wrap .i64 (Int.tdiv c 2)) then (bif !(decide (b > 0)) then (bif b == 0 then (bif (Int.tmod a 2) != 0 then (k (IntKind.wrap .i64 (a + 1))) else (k a)) else (k a)) else (k (IntKind.wrap .i64 (a + 1)))) else (bif !(decide (b > 0)) then (k a) else (k (IntKind.wrap .i64 (a + 1))))) else (bif d == (IntKind.wrap .i64 (Int.tdiv c 2)) then (bif b == 0 then (bif (Int.tmod a 2) != 0 then (k (IntKind.wrap .i64 (a + 1))) else (k a)) else (k a)) else (k a))) else (bif d == (IntKind.wrap .i64 (Int.tdiv c 2)) then (k (IntKind.wrap .i64 (a + 1))) else (k (IntKind.wrap .i64 (a + 1)))))) else (k a)))) else (bif (toList e == toList (⟨#[122, 101, 114, 111]⟩)) then (bif decide (a < 0) then (k (IntKind.wrap .i64 (a + 1))) else (k a)) else (bif (toList e == toList (⟨#[117, 112]⟩)) then (k (IntKind.wrap .i64 (a + 1))) else (bif (toList e == toList (⟨#[110, 101, 97, 114]⟩)) then (bif c == 1 then (bif !(decide (b > IntKind.wrap .i64 (f - b))) then (bif b == (IntKind.wrap .i64 (f - b)) then (bif (Int.tmod a 2) != 0 then (k (IntKind.wrap .i64 (a + 1))) else (k a)) else (k a)) else (k (IntKind.wrap .i64 (a + 1)))) else (bif !(decide (d > IntKind.wrap .i64 (Int.tdiv c 2))) then (bif d == (IntKind.wrap .i64 (Int.tdiv c 2)) then (bif d == (IntKind.wrap .i64 (Int.tdiv c 2)) then (bif !(decide (b > 0)) then (bif b == 0 then (bif (Int.tmod a 2) != 0 then (k (IntKind.wrap .i64 (a + 1))) else (k a)) else (k a)) else (k (IntKind.wrap .i64 (a + 1)))) else (bif !(decide (b > 0)) then (k a) else (k (IntKind.wrap .i64 (a + 1))))) else (bif d == (IntKind.wrap .i64 (Int.tdiv c 2)) then (bif b == 0 then (bif (Int.tmod a 2) != 0 then (k (IntKind.wrap .i64 (a + 1))) else (k a)) else (k a)) else (k a))) else (bif d == (IntKind.wrap .i64 (Int.tdiv c 2)) then (k (IntKind.wrap .i64 (a + 1))) else (k (IntKind.wrap .i64 (a + 1)))))) else (k a))))
noncomputable def s2_rounded (a : ByteArray) (b c d e f : Int) (k : KI) : Option DV := B_s2_rounded  a b c d e f k

noncomputable def KK_s2_rounded (f0 : ByteArray → Int → Int → Int → Int → Int → KI → Option DV) (ds : List DV) (k : DV → Option DV) : Option DV :=
  match ds with
  | [.val (.string a), .val (.int .i64 b), .val (.int .i64 c), .val (.int .i64 d), .val (.int .i64 e), .val (.int .i64 f)] => f0 a b c d e f (fun g => k (.val (.int .i64 g)))
  | _ => none

theorem r_s2_rounded  (a : ByteArray) (b c d e f : Int) (k : DV → Option DV) : B_s2_rounded  a b c d e f (fun g => k (.val (.int .i64 g))) = pevF Tryz.prog (tab []) [] 64 Tryz.f164 (bodyOf Tryz.f164) [.val (.string a), .val (.int .i64 b), .val (.int .i64 c), .val (.int .i64 d), .val (.int .i64 e), .val (.int .i64 f)] k := by kernel_rfl

theorem m_s2_rounded : Meets Tryz.prog Inv 164 (KK_s2_rounded s2_rounded) :=
  meets_of_pev mixed stab (tab_nil _ _) Tryz.func164 (by kernel_rfl) (by kernel_rfl) (by
    intro ds; unfold KK_s2_rounded; split
    · exact .inr ⟨[], 64, fun k => r_s2_rounded  _ _ _ _ _ _ k⟩
    · exact .inl (fun _ => rfl))

inductive X_s2_shift_l3 where
  | h0 (a : ByteArray) (b : Int) (c : Int) (d : Int)
def φ_s2_shift_l3 : X_s2_shift_l3 → Nat
  | .h0 b a c d => Int.toNat a + 1

inductive X_s2_shift_l6 where
  | h0 (a : ByteArray) (b : Int) (c : Int) (d : Int)
def φ_s2_shift_l6 : X_s2_shift_l6 → Nat
  | .h0 b a c d => Int.toNat (0 - a) + 1

inductive X_s2_shift_l13 where
  | h0 (a : ByteArray) (b : Int) (c : Int) (d : Int) (e : Int) (f : Int) (g : Int)
def φ_s2_shift_l13 : X_s2_shift_l13 → Nat
  | .h0 b a c d e f g => Int.toNat a + 1

noncomputable def S_s2_shift_l3 : X_s2_shift_l3 → St
  | .h0 a b c d => ⟨mkT [(0, .dv (.val (.string a))), (2, .dv (.val (.int .i64 b))), (8, .dv (.val (.int .i64 c))), (9, .dv (.val (.int .i64 d)))] (.leaf .dead), 110, []⟩

noncomputable def oc_s2_shift_l3 (k : KC) : (ByteArray → Int → Int → Int → Option DV) := (fun a b c d => k (.exit 0) ⟨mkT [(0, .dv (.val (.string a))), (2, .dv (.val (.int .i64 b))), (8, .dv (.val (.int .i64 c))), (9, .dv (.val (.int .i64 d)))] (.leaf .dead), 110, []⟩)

noncomputable def B_s2_shift_l3_h0 (f0 : Int → KI → Option DV) (f1 : ByteArray → Int → Int → Int → Int → Int → KI → Option DV) (f2 : Int → Int → KI → Option DV) (c : ByteArray) (a : Int) (d : Int) (b : Int) (κn : X_s2_shift_l3 → Option DV) (κ0 : ByteArray → Int → Int → Int → Option DV) : Option DV :=
  bif decide (a > 0) then (bif (Int.tmod b 2) == 0 then (κn (X_s2_shift_l3.h0 c (IntKind.wrap .i64 (a - 1)) d (IntKind.wrap .i64 (Int.tdiv b 2)))) else (κ0 c a d b)) else (κ0 c a d b)

noncomputable def F_s2_shift_l3 (f0 : Int → KI → Option DV) (f1 : ByteArray → Int → Int → Int → Int → Int → KI → Option DV) (f2 : Int → Int → KI → Option DV) : X_s2_shift_l3 → (X_s2_shift_l3 → Option DV) → ((ByteArray → Int → Int → Int → Option DV)) → Option DV
  | .h0 a b c d, κn, κ => B_s2_shift_l3_h0 f0 f1 f2 a b c d κn κ

noncomputable def dec_s2_shift_l3 (s : St) : Option X_s2_shift_l3 :=
  bindO (xN s.n 110) fun u => bindO (xD (s.tmps.get 0)) fun a => bindO (xS a) fun b => bindO (xD (s.tmps.get 2)) fun c => bindO (xI .i64 c) fun d => bindO (xD (s.tmps.get 8)) fun e => bindO (xI .i64 e) fun f => bindO (xD (s.tmps.get 9)) fun g => bindO (xI .i64 g) fun h => bindO (xEnd s.heap) fun i => some (.h0 b d f h)

noncomputable def R_s2_shift_l3 (f0 : Int → KI → Option DV) (f1 : ByteArray → Int → Int → Int → Int → Int → KI → Option DV) (f2 : Int → Int → KI → Option DV) : St → KC → Option DV := decR dec_s2_shift_l3 (F_s2_shift_l3 f0 f1 f2) φ_s2_shift_l3 oc_s2_shift_l3

theorem d_s2_shift_l3 : ∀ s x, dec_s2_shift_l3 s = some x → SLe s (S_s2_shift_l3 x) := by
  intro s x h
  unfold dec_s2_shift_l3 at h
  · obtain ⟨u, en, h⟩ := bindO_some h
    obtain ⟨l, a, h⟩ := bindO_some h
    obtain ⟨m, b, h⟩ := bindO_some h
    obtain ⟨n, c, h⟩ := bindO_some h
    obtain ⟨o, d, h⟩ := bindO_some h
    obtain ⟨p, e, h⟩ := bindO_some h
    obtain ⟨q, f, h⟩ := bindO_some h
    obtain ⟨r, g, h⟩ := bindO_some h
    obtain ⟨t, i, h⟩ := bindO_some h
    obtain ⟨v, j, h⟩ := bindO_some h
    cases h
    exact ⟨le_mkT _ _ (Le.dead _) ⟨.inr ((xD_eq a).trans (congrArg VV.dv (xS_eq b))), .inr ((xD_eq c).trans (congrArg VV.dv (xI_eq d))), .inr ((xD_eq e).trans (congrArg VV.dv (xI_eq f))), .inr ((xD_eq g).trans (congrArg VV.dv (xI_eq i))), trivial⟩, (xN_eq en).symm, by rw [xEnd_eq j]; rfl⟩

noncomputable def S_s2_shift_l6 : X_s2_shift_l6 → St
  | .h0 a b c d => ⟨mkT [(0, .dv (.val (.string a))), (2, .dv (.val (.int .i64 b))), (8, .dv (.val (.int .i64 c))), (9, .dv (.val (.int .i64 d)))] (.leaf .dead), 110, []⟩

noncomputable def oc_s2_shift_l6 (k : KC) : (ByteArray → Int → Int → Int → Option DV) := (fun a b c d => k (.exit 2) ⟨mkT [(0, .dv (.val (.string a))), (2, .dv (.val (.int .i64 b))), (8, .dv (.val (.int .i64 c))), (9, .dv (.val (.int .i64 d)))] (.leaf .dead), 110, []⟩)

noncomputable def B_s2_shift_l6_h0 (f0 : Int → KI → Option DV) (f1 : ByteArray → Int → Int → Int → Int → Int → KI → Option DV) (f2 : Int → Int → KI → Option DV) (c : ByteArray) (a : Int) (b : Int) (d : Int) (κn : X_s2_shift_l6 → Option DV) (κ0 : ByteArray → Int → Int → Int → Option DV) : Option DV :=
  bif decide (a < 0) then (bif (Int.tmod b 2) == 0 then (κn (X_s2_shift_l6.h0 c (IntKind.wrap .i64 (a + 1)) (IntKind.wrap .i64 (Int.tdiv b 2)) d)) else (κ0 c a b d)) else (κ0 c a b d)

noncomputable def F_s2_shift_l6 (f0 : Int → KI → Option DV) (f1 : ByteArray → Int → Int → Int → Int → Int → KI → Option DV) (f2 : Int → Int → KI → Option DV) : X_s2_shift_l6 → (X_s2_shift_l6 → Option DV) → ((ByteArray → Int → Int → Int → Option DV)) → Option DV
  | .h0 a b c d, κn, κ => B_s2_shift_l6_h0 f0 f1 f2 a b c d κn κ

noncomputable def dec_s2_shift_l6 (s : St) : Option X_s2_shift_l6 :=
  bindO (xN s.n 110) fun u => bindO (xD (s.tmps.get 0)) fun a => bindO (xS a) fun b => bindO (xD (s.tmps.get 2)) fun c => bindO (xI .i64 c) fun d => bindO (xD (s.tmps.get 8)) fun e => bindO (xI .i64 e) fun f => bindO (xD (s.tmps.get 9)) fun g => bindO (xI .i64 g) fun h => bindO (xEnd s.heap) fun i => some (.h0 b d f h)

noncomputable def R_s2_shift_l6 (f0 : Int → KI → Option DV) (f1 : ByteArray → Int → Int → Int → Int → Int → KI → Option DV) (f2 : Int → Int → KI → Option DV) : St → KC → Option DV := decR dec_s2_shift_l6 (F_s2_shift_l6 f0 f1 f2) φ_s2_shift_l6 oc_s2_shift_l6

theorem d_s2_shift_l6 : ∀ s x, dec_s2_shift_l6 s = some x → SLe s (S_s2_shift_l6 x) := by
  intro s x h
  unfold dec_s2_shift_l6 at h
  · obtain ⟨u, en, h⟩ := bindO_some h
    obtain ⟨l, a, h⟩ := bindO_some h
    obtain ⟨m, b, h⟩ := bindO_some h
    obtain ⟨n, c, h⟩ := bindO_some h
    obtain ⟨o, d, h⟩ := bindO_some h
    obtain ⟨p, e, h⟩ := bindO_some h
    obtain ⟨q, f, h⟩ := bindO_some h
    obtain ⟨r, g, h⟩ := bindO_some h
    obtain ⟨t, i, h⟩ := bindO_some h
    obtain ⟨v, j, h⟩ := bindO_some h
    cases h
    exact ⟨le_mkT _ _ (Le.dead _) ⟨.inr ((xD_eq a).trans (congrArg VV.dv (xS_eq b))), .inr ((xD_eq c).trans (congrArg VV.dv (xI_eq d))), .inr ((xD_eq e).trans (congrArg VV.dv (xI_eq f))), .inr ((xD_eq g).trans (congrArg VV.dv (xI_eq i))), trivial⟩, (xN_eq en).symm, by rw [xEnd_eq j]; rfl⟩

noncomputable def S_s2_shift_l13 : X_s2_shift_l13 → St
  | .h0 a b c d e f g => ⟨mkT [(0, .dv (.val (.string a))), (2, .dv (.val (.int .i64 b))), (9, .dv (.val (.int .i64 c))), (10, .dv (.val (.int .i64 d))), (11, .dv (.val (.int .i64 e))), (12, .dv (.val (.int .i64 f))), (13, .dv (.val (.int .i64 g)))] (.leaf .dead), 110, []⟩

noncomputable def oc_s2_shift_l13 (k : KC) : (ByteArray → Int → Int → Bool → Int → Int → Int → Int → Int → Option DV) × (ByteArray → Int → Int → Int → Int → Int → Int → Option DV) := (fun a b c d e f g h i => k .ret ⟨mkT [(0, .dv (.val (.string a))), (2, .dv (.val (.int .i64 b))), (6, .dv (.val (.int .i64 c))), (7, .dv (.val (.bool d))), (9, .dv (.val (.int .i64 e))), (10, .dv (.val (.int .i64 f))), (11, .dv (.val (.int .i64 g))), (12, .dv (.val (.int .i64 h))), (13, .dv (.val (.int .i64 i)))] (.leaf .dead), 110, []⟩, fun a b c d e f g => k (.exit 4) ⟨mkT [(0, .dv (.val (.string a))), (2, .dv (.val (.int .i64 b))), (6, .dead), (7, .dead), (9, .dv (.val (.int .i64 c))), (10, .dv (.val (.int .i64 d))), (11, .dv (.val (.int .i64 e))), (12, .dv (.val (.int .i64 f))), (13, .dv (.val (.int .i64 g)))] (.leaf .dead), 110, []⟩)

noncomputable def B_s2_shift_l13_h0 (f0 : Int → KI → Option DV) (f1 : ByteArray → Int → Int → Int → Int → Int → KI → Option DV) (f2 : Int → Int → KI → Option DV) (e : ByteArray) (d : Int) (c : Int) (a : Int) (b : Int) (f : Int) (g : Int) (κn : X_s2_shift_l13 → Option DV) (κ0 : ByteArray → Int → Int → Bool → Int → Int → Int → Int → Int → Option DV) (κ1 : ByteArray → Int → Int → Int → Int → Int → Int → Option DV) : Option DV :=
  bif decide (d > 0) then (f0 40 (fun h => bif !(decide (a > h)) then (f0 40 (fun i => bif decide (a < IntKind.wrap .i64 (0 - i)) then (κ0 e d a false c a b f g) else (bif decide (b ≥ IntKind.wrap .i64 (c - b)) then (κn (X_s2_shift_l13.h0 e (IntKind.wrap .i64 (d - 1)) c (IntKind.wrap .i64 ((IntKind.wrap .i64 (2 * a)) + 1)) (IntKind.wrap .i64 (b - (IntKind.wrap .i64 (c - b)))) f g)) else (κn (X_s2_shift_l13.h0 e (IntKind.wrap .i64 (d - 1)) c (IntKind.wrap .i64 (2 * a)) (IntKind.wrap .i64 (2 * b)) f g))))) else (κ0 e d a false c a b f g))) else (κ1 e d c a b f g)

noncomputable def F_s2_shift_l13 (f0 : Int → KI → Option DV) (f1 : ByteArray → Int → Int → Int → Int → Int → KI → Option DV) (f2 : Int → Int → KI → Option DV) : X_s2_shift_l13 → (X_s2_shift_l13 → Option DV) → ((ByteArray → Int → Int → Bool → Int → Int → Int → Int → Int → Option DV) × (ByteArray → Int → Int → Int → Int → Int → Int → Option DV)) → Option DV
  | .h0 a b c d e f g, κn, κ => B_s2_shift_l13_h0 f0 f1 f2 a b c d e f g κn κ.1 κ.2

noncomputable def dec_s2_shift_l13 (s : St) : Option X_s2_shift_l13 :=
  bindO (xN s.n 110) fun u => bindO (xD (s.tmps.get 0)) fun a => bindO (xS a) fun b => bindO (xD (s.tmps.get 2)) fun c => bindO (xI .i64 c) fun d => bindO (xD (s.tmps.get 9)) fun e => bindO (xI .i64 e) fun f => bindO (xD (s.tmps.get 10)) fun g => bindO (xI .i64 g) fun h => bindO (xD (s.tmps.get 11)) fun i => bindO (xI .i64 i) fun j => bindO (xD (s.tmps.get 12)) fun l => bindO (xI .i64 l) fun m => bindO (xD (s.tmps.get 13)) fun o => bindO (xI .i64 o) fun p => bindO (xEnd s.heap) fun q => some (.h0 b d f h j m p)

noncomputable def R_s2_shift_l13 (f0 : Int → KI → Option DV) (f1 : ByteArray → Int → Int → Int → Int → Int → KI → Option DV) (f2 : Int → Int → KI → Option DV) : St → KC → Option DV := decR dec_s2_shift_l13 (F_s2_shift_l13 f0 f1 f2) φ_s2_shift_l13 oc_s2_shift_l13

theorem d_s2_shift_l13 : ∀ s x, dec_s2_shift_l13 s = some x → SLe s (S_s2_shift_l13 x) := by
  intro s x h
  unfold dec_s2_shift_l13 at h
  · obtain ⟨u, en, h⟩ := bindO_some h
    obtain ⟨r, a, h⟩ := bindO_some h
    obtain ⟨t, b, h⟩ := bindO_some h
    obtain ⟨v, c, h⟩ := bindO_some h
    obtain ⟨w, d, h⟩ := bindO_some h
    obtain ⟨y, e, h⟩ := bindO_some h
    obtain ⟨z, f, h⟩ := bindO_some h
    obtain ⟨aa, g, h⟩ := bindO_some h
    obtain ⟨ab, i, h⟩ := bindO_some h
    obtain ⟨ac, j, h⟩ := bindO_some h
    obtain ⟨ad, l, h⟩ := bindO_some h
    obtain ⟨ae, m, h⟩ := bindO_some h
    obtain ⟨af, n, h⟩ := bindO_some h
    obtain ⟨ag, o, h⟩ := bindO_some h
    obtain ⟨ah, p, h⟩ := bindO_some h
    obtain ⟨ai, q, h⟩ := bindO_some h
    cases h
    exact ⟨le_mkT _ _ (Le.dead _) ⟨.inr ((xD_eq a).trans (congrArg VV.dv (xS_eq b))), .inr ((xD_eq c).trans (congrArg VV.dv (xI_eq d))), .inr ((xD_eq e).trans (congrArg VV.dv (xI_eq f))), .inr ((xD_eq g).trans (congrArg VV.dv (xI_eq i))), .inr ((xD_eq j).trans (congrArg VV.dv (xI_eq l))), .inr ((xD_eq m).trans (congrArg VV.dv (xI_eq n))), .inr ((xD_eq o).trans (congrArg VV.dv (xI_eq p))), trivial⟩, (xN_eq en).symm, by rw [xEnd_eq q]; rfl⟩

noncomputable def B_s2_shift (f0 : Int → KI → Option DV) (f1 : ByteArray → Int → Int → Int → Int → Int → KI → Option DV) (f2 : Int → Int → KI → Option DV) (g : ByteArray) (h i j : Int) (k : Int → Bool → Option DV) : Option DV :=
  LF (F_s2_shift_l3 f0 f1 f2) (φ_s2_shift_l3 (X_s2_shift_l3.h0 g j h i)) (X_s2_shift_l3.h0 g j h i) ((fun l m n o => LF (F_s2_shift_l6 f0 f1 f2) (φ_s2_shift_l6 (X_s2_shift_l6.h0 l m n o)) (X_s2_shift_l6.h0 l m n o) ((fun p q e c => f2 e c (fun d => LF (F_s2_shift_l13 f0 f1 f2) (φ_s2_shift_l13 (X_s2_shift_l13.h0 p q c d (IntKind.wrap .i64 (e - (IntKind.wrap .i64 (d * c)))) 1 0)) (X_s2_shift_l13.h0 p q c d (IntKind.wrap .i64 (e - (IntKind.wrap .i64 (d * c)))) 1 0) ((fun af ag v w ah ai aj al am => k v w), (fun r s t a u x y => bif decide (s < 0) then (f0 (IntKind.wrap .i64 (0 - s)) (fun f => f2 a f (fun b => f0 40 (fun z => bif !(decide (b > z)) then (f0 40 (fun aa => bif decide (b < IntKind.wrap .i64 (0 - aa)) then (k b false) else (f1 r b (IntKind.wrap .i64 (a - (IntKind.wrap .i64 (b * f)))) f u t (fun ab => k ab true)))) else (k b false))))) else (f0 40 (fun ac => bif !(decide (a > ac)) then (f0 40 (fun ad => bif decide (a < IntKind.wrap .i64 (0 - ad)) then (k a false) else (f1 r a y x u t (fun ae => k ae true)))) else (k a false))))))))))
noncomputable def s2_shift (a : ByteArray) (b c d : Int) (k : Int → Bool → Option DV) : Option DV := B_s2_shift s2_Two s2_rounded s1_FloorDiv a b c d k

noncomputable def KK_s2_shift (f0 : ByteArray → Int → Int → Int → (Int → Bool → Option DV) → Option DV) (ds : List DV) (k : DV → Option DV) : Option DV :=
  match ds with
  | [.val (.string a), .val (.agg ⟨[.int .i64 b, .int .i64 c]⟩), .val (.int .i64 d)] => f0 a b c d (fun e f => k (.val (.tuple ⟨[.int .i64 e, .bool f]⟩)))
  | _ => none

theorem q_s2_shift_l3_h0 (f0 : Int → KI → Option DV) (f1 : ByteArray → Int → Int → Int → Int → Int → KI → Option DV) (f2 : Int → Int → KI → Option DV) (a : ByteArray) (b : Int) (c : Int) (d : Int) (κn : St → Option DV) (κ : KC) : pev Tryz.prog (tab [(76, (KK_s1_FloorDiv f2)), (140, (KK_s2_Two f0)), (164, (KK_s2_rounded f1))]) (ltab [(3, R_s2_shift_l3 f0 f1 f2), (6, R_s2_shift_l6 f0 f1 f2), (13, R_s2_shift_l13 f0 f1 f2)]) [(0, [0]), (0, []), (3, [0, 2, 8, 9]), (100003, [0, 2, 8, 9]), (6, [0, 2, 8, 9]), (100006, [0, 2, 8, 9]), (13, [0, 2, 9, 10, 11, 12, 13]), (100013, [0, 2, 6, 7, 9, 10, 11, 12, 13])] 64 (loopB (bodyOf Tryz.f141) 0) (S_s2_shift_l3 (.h0 a b c d)) (contL [0, 2, 8, 9] [0, 2, 8, 9] κn κ) = F_s2_shift_l3 f0 f1 f2 (.h0 a b c d) (fun x => κn (S_s2_shift_l3 x)) (oc_s2_shift_l3 κ) := by kernel_rfl

theorem g_s2_shift_l3 (f0 : Int → KI → Option DV) (f1 : ByteArray → Int → Int → Int → Int → Int → KI → Option DV) (f2 : Int → Int → KI → Option DV) (HK : ∀ g, Meets Tryz.prog Inv g (tab [(76, (KK_s1_FloorDiv f2)), (140, (KK_s2_Two f0)), (164, (KK_s2_rounded f1))] g)) : RGood Tryz.prog Inv (loopB (bodyOf Tryz.f141) 0) (R_s2_shift_l3 f0 f1 f2) :=
  have hL : LGood Tryz.prog Inv (ltab [(3, R_s2_shift_l3 f0 f1 f2), (6, R_s2_shift_l6 f0 f1 f2), (13, R_s2_shift_l13 f0 f1 f2)]) (loopB (bodyOf Tryz.f141) 0) := (lgood_of (bs := []) (by kernel_rfl) lgood_nil)
  rgood_dec (body := fun s k => pev Tryz.prog (tab [(76, (KK_s1_FloorDiv f2)), (140, (KK_s2_Two f0)), (164, (KK_s2_rounded f1))]) (ltab [(3, R_s2_shift_l3 f0 f1 f2), (6, R_s2_shift_l6 f0 f1 f2), (13, R_s2_shift_l13 f0 f1 f2)]) [(0, [0]), (0, []), (3, [0, 2, 8, 9]), (100003, [0, 2, 8, 9]), (6, [0, 2, 8, 9]), (100006, [0, 2, 8, 9]), (13, [0, 2, 9, 10, 11, 12, 13]), (100013, [0, 2, 6, 7, 9, 10, 11, 12, 13])] 64 (loopB (bodyOf Tryz.f141) 0) s k) (live := [0, 2, 8, 9]) (out := [0, 2, 8, 9]) (S := S_s2_shift_l3) (pev_ok mixed stab HK (ltab [(3, R_s2_shift_l3 f0 f1 f2), (6, R_s2_shift_l6 f0 f1 f2), (13, R_s2_shift_l13 f0 f1 f2)]) [(0, [0]), (0, []), (3, [0, 2, 8, 9]), (100003, [0, 2, 8, 9]), (6, [0, 2, 8, 9]), (100006, [0, 2, 8, 9]), (13, [0, 2, 9, 10, 11, 12, 13]), (100013, [0, 2, 6, 7, 9, 10, 11, 12, 13])] 64 _ hL) (pev_nat HK (ltab [(3, R_s2_shift_l3 f0 f1 f2), (6, R_s2_shift_l6 f0 f1 f2), (13, R_s2_shift_l13 f0 f1 f2)]) [(0, [0]), (0, []), (3, [0, 2, 8, 9]), (100003, [0, 2, 8, 9]), (6, [0, 2, 8, 9]), (100006, [0, 2, 8, 9]), (13, [0, 2, 9, 10, 11, 12, 13]), (100013, [0, 2, 6, 7, 9, 10, 11, 12, 13])] 64 _ hL)
    (fun x κn κ => match x with
      | .h0 _ _ _ _ => q_s2_shift_l3_h0 f0 f1 f2 _ _ _ _ κn κ
    ) d_s2_shift_l3 φ_s2_shift_l3

theorem q_s2_shift_l6_h0 (f0 : Int → KI → Option DV) (f1 : ByteArray → Int → Int → Int → Int → Int → KI → Option DV) (f2 : Int → Int → KI → Option DV) (a : ByteArray) (b : Int) (c : Int) (d : Int) (κn : St → Option DV) (κ : KC) : pev Tryz.prog (tab [(76, (KK_s1_FloorDiv f2)), (140, (KK_s2_Two f0)), (164, (KK_s2_rounded f1))]) (ltab [(3, R_s2_shift_l3 f0 f1 f2), (6, R_s2_shift_l6 f0 f1 f2), (13, R_s2_shift_l13 f0 f1 f2)]) [(0, [0]), (0, []), (3, [0, 2, 8, 9]), (100003, [0, 2, 8, 9]), (6, [0, 2, 8, 9]), (100006, [0, 2, 8, 9]), (13, [0, 2, 9, 10, 11, 12, 13]), (100013, [0, 2, 6, 7, 9, 10, 11, 12, 13])] 64 (loopB (bodyOf Tryz.f141) 1) (S_s2_shift_l6 (.h0 a b c d)) (contL [0, 2, 8, 9] [0, 2, 8, 9] κn κ) = F_s2_shift_l6 f0 f1 f2 (.h0 a b c d) (fun x => κn (S_s2_shift_l6 x)) (oc_s2_shift_l6 κ) := by kernel_rfl

theorem g_s2_shift_l6 (f0 : Int → KI → Option DV) (f1 : ByteArray → Int → Int → Int → Int → Int → KI → Option DV) (f2 : Int → Int → KI → Option DV) (HK : ∀ g, Meets Tryz.prog Inv g (tab [(76, (KK_s1_FloorDiv f2)), (140, (KK_s2_Two f0)), (164, (KK_s2_rounded f1))] g)) : RGood Tryz.prog Inv (loopB (bodyOf Tryz.f141) 1) (R_s2_shift_l6 f0 f1 f2) :=
  have hL : LGood Tryz.prog Inv (ltab [(3, R_s2_shift_l3 f0 f1 f2), (6, R_s2_shift_l6 f0 f1 f2), (13, R_s2_shift_l13 f0 f1 f2)]) (loopB (bodyOf Tryz.f141) 1) := (lgood_of (bs := []) (by kernel_rfl) lgood_nil)
  rgood_dec (body := fun s k => pev Tryz.prog (tab [(76, (KK_s1_FloorDiv f2)), (140, (KK_s2_Two f0)), (164, (KK_s2_rounded f1))]) (ltab [(3, R_s2_shift_l3 f0 f1 f2), (6, R_s2_shift_l6 f0 f1 f2), (13, R_s2_shift_l13 f0 f1 f2)]) [(0, [0]), (0, []), (3, [0, 2, 8, 9]), (100003, [0, 2, 8, 9]), (6, [0, 2, 8, 9]), (100006, [0, 2, 8, 9]), (13, [0, 2, 9, 10, 11, 12, 13]), (100013, [0, 2, 6, 7, 9, 10, 11, 12, 13])] 64 (loopB (bodyOf Tryz.f141) 1) s k) (live := [0, 2, 8, 9]) (out := [0, 2, 8, 9]) (S := S_s2_shift_l6) (pev_ok mixed stab HK (ltab [(3, R_s2_shift_l3 f0 f1 f2), (6, R_s2_shift_l6 f0 f1 f2), (13, R_s2_shift_l13 f0 f1 f2)]) [(0, [0]), (0, []), (3, [0, 2, 8, 9]), (100003, [0, 2, 8, 9]), (6, [0, 2, 8, 9]), (100006, [0, 2, 8, 9]), (13, [0, 2, 9, 10, 11, 12, 13]), (100013, [0, 2, 6, 7, 9, 10, 11, 12, 13])] 64 _ hL) (pev_nat HK (ltab [(3, R_s2_shift_l3 f0 f1 f2), (6, R_s2_shift_l6 f0 f1 f2), (13, R_s2_shift_l13 f0 f1 f2)]) [(0, [0]), (0, []), (3, [0, 2, 8, 9]), (100003, [0, 2, 8, 9]), (6, [0, 2, 8, 9]), (100006, [0, 2, 8, 9]), (13, [0, 2, 9, 10, 11, 12, 13]), (100013, [0, 2, 6, 7, 9, 10, 11, 12, 13])] 64 _ hL)
    (fun x κn κ => match x with
      | .h0 _ _ _ _ => q_s2_shift_l6_h0 f0 f1 f2 _ _ _ _ κn κ
    ) d_s2_shift_l6 φ_s2_shift_l6

theorem q_s2_shift_l13_h0 (f0 : Int → KI → Option DV) (f1 : ByteArray → Int → Int → Int → Int → Int → KI → Option DV) (f2 : Int → Int → KI → Option DV) (a : ByteArray) (b : Int) (c : Int) (d : Int) (e : Int) (f : Int) (g : Int) (κn : St → Option DV) (κ : KC) : pev Tryz.prog (tab [(76, (KK_s1_FloorDiv f2)), (140, (KK_s2_Two f0)), (164, (KK_s2_rounded f1))]) (ltab [(3, R_s2_shift_l3 f0 f1 f2), (6, R_s2_shift_l6 f0 f1 f2), (13, R_s2_shift_l13 f0 f1 f2)]) [(0, [0]), (0, []), (3, [0, 2, 8, 9]), (100003, [0, 2, 8, 9]), (6, [0, 2, 8, 9]), (100006, [0, 2, 8, 9]), (13, [0, 2, 9, 10, 11, 12, 13]), (100013, [0, 2, 6, 7, 9, 10, 11, 12, 13])] 64 (loopB (bodyOf Tryz.f141) 2) (S_s2_shift_l13 (.h0 a b c d e f g)) (contL [0, 2, 9, 10, 11, 12, 13] [0, 2, 6, 7, 9, 10, 11, 12, 13] κn κ) = F_s2_shift_l13 f0 f1 f2 (.h0 a b c d e f g) (fun x => κn (S_s2_shift_l13 x)) (oc_s2_shift_l13 κ) := by kernel_rfl

theorem g_s2_shift_l13 (f0 : Int → KI → Option DV) (f1 : ByteArray → Int → Int → Int → Int → Int → KI → Option DV) (f2 : Int → Int → KI → Option DV) (HK : ∀ g, Meets Tryz.prog Inv g (tab [(76, (KK_s1_FloorDiv f2)), (140, (KK_s2_Two f0)), (164, (KK_s2_rounded f1))] g)) : RGood Tryz.prog Inv (loopB (bodyOf Tryz.f141) 2) (R_s2_shift_l13 f0 f1 f2) :=
  have hL : LGood Tryz.prog Inv (ltab [(3, R_s2_shift_l3 f0 f1 f2), (6, R_s2_shift_l6 f0 f1 f2), (13, R_s2_shift_l13 f0 f1 f2)]) (loopB (bodyOf Tryz.f141) 2) := (lgood_of (bs := []) (by kernel_rfl) lgood_nil)
  rgood_dec (body := fun s k => pev Tryz.prog (tab [(76, (KK_s1_FloorDiv f2)), (140, (KK_s2_Two f0)), (164, (KK_s2_rounded f1))]) (ltab [(3, R_s2_shift_l3 f0 f1 f2), (6, R_s2_shift_l6 f0 f1 f2), (13, R_s2_shift_l13 f0 f1 f2)]) [(0, [0]), (0, []), (3, [0, 2, 8, 9]), (100003, [0, 2, 8, 9]), (6, [0, 2, 8, 9]), (100006, [0, 2, 8, 9]), (13, [0, 2, 9, 10, 11, 12, 13]), (100013, [0, 2, 6, 7, 9, 10, 11, 12, 13])] 64 (loopB (bodyOf Tryz.f141) 2) s k) (live := [0, 2, 9, 10, 11, 12, 13]) (out := [0, 2, 6, 7, 9, 10, 11, 12, 13]) (S := S_s2_shift_l13) (pev_ok mixed stab HK (ltab [(3, R_s2_shift_l3 f0 f1 f2), (6, R_s2_shift_l6 f0 f1 f2), (13, R_s2_shift_l13 f0 f1 f2)]) [(0, [0]), (0, []), (3, [0, 2, 8, 9]), (100003, [0, 2, 8, 9]), (6, [0, 2, 8, 9]), (100006, [0, 2, 8, 9]), (13, [0, 2, 9, 10, 11, 12, 13]), (100013, [0, 2, 6, 7, 9, 10, 11, 12, 13])] 64 _ hL) (pev_nat HK (ltab [(3, R_s2_shift_l3 f0 f1 f2), (6, R_s2_shift_l6 f0 f1 f2), (13, R_s2_shift_l13 f0 f1 f2)]) [(0, [0]), (0, []), (3, [0, 2, 8, 9]), (100003, [0, 2, 8, 9]), (6, [0, 2, 8, 9]), (100006, [0, 2, 8, 9]), (13, [0, 2, 9, 10, 11, 12, 13]), (100013, [0, 2, 6, 7, 9, 10, 11, 12, 13])] 64 _ hL)
    (fun x κn κ => match x with
      | .h0 _ _ _ _ _ _ _ => q_s2_shift_l13_h0 f0 f1 f2 _ _ _ _ _ _ _ κn κ
    ) d_s2_shift_l13 φ_s2_shift_l13

theorem r_s2_shift (f0 : Int → KI → Option DV) (f1 : ByteArray → Int → Int → Int → Int → Int → KI → Option DV) (f2 : Int → Int → KI → Option DV) (a : ByteArray) (b c d : Int) (k : DV → Option DV) : B_s2_shift f0 f1 f2 a b c d (fun e f => k (.val (.tuple ⟨[.int .i64 e, .bool f]⟩))) = pevL Tryz.prog (tab [(76, (KK_s1_FloorDiv f2)), (140, (KK_s2_Two f0)), (164, (KK_s2_rounded f1))]) (ltab [(3, R_s2_shift_l3 f0 f1 f2), (6, R_s2_shift_l6 f0 f1 f2), (13, R_s2_shift_l13 f0 f1 f2)]) [(0, [0]), (0, []), (3, [0, 2, 8, 9]), (100003, [0, 2, 8, 9]), (6, [0, 2, 8, 9]), (100006, [0, 2, 8, 9]), (13, [0, 2, 9, 10, 11, 12, 13]), (100013, [0, 2, 6, 7, 9, 10, 11, 12, 13])] 64 Tryz.f141 (bodyOf Tryz.f141) [.val (.string a), .val (.agg ⟨[.int .i64 b, .int .i64 c]⟩), .val (.int .i64 d)] k := by kernel_rfl

theorem m_s2_shift : Meets Tryz.prog Inv 141 (KK_s2_shift s2_shift) :=
  meets_of_pevL mixed stab (tab_cons m_s1_FloorDiv (tab_cons m_s2_Two (tab_cons m_s2_rounded (tab_nil _ _)))) Tryz.func141 (by kernel_rfl) (by kernel_rfl) (by
    intro ds; unfold KK_s2_shift; split
    · exact .inr ⟨(ltab [(3, R_s2_shift_l3 s2_Two s2_rounded s1_FloorDiv), (6, R_s2_shift_l6 s2_Two s2_rounded s1_FloorDiv), (13, R_s2_shift_l13 s2_Two s2_rounded s1_FloorDiv)]), [(0, [0]), (0, []), (3, [0, 2, 8, 9]), (100003, [0, 2, 8, 9]), (6, [0, 2, 8, 9]), (100006, [0, 2, 8, 9]), (13, [0, 2, 9, 10, 11, 12, 13]), (100013, [0, 2, 6, 7, 9, 10, 11, 12, 13])], 64, lgood_of (bs := [loopB (bodyOf Tryz.f141) 0, loopB (bodyOf Tryz.f141) 1, loopB (bodyOf Tryz.f141) 2]) (by kernel_rfl) (lgood_cons (by kernel_rfl) (g_s2_shift_l3 s2_Two s2_rounded s1_FloorDiv (tab_cons m_s1_FloorDiv (tab_cons m_s2_Two (tab_cons m_s2_rounded (tab_nil _ _))))) (lgood_cons (by kernel_rfl) (g_s2_shift_l6 s2_Two s2_rounded s1_FloorDiv (tab_cons m_s1_FloorDiv (tab_cons m_s2_Two (tab_cons m_s2_rounded (tab_nil _ _))))) (lgood_cons (by kernel_rfl) (g_s2_shift_l13 s2_Two s2_rounded s1_FloorDiv (tab_cons m_s1_FloorDiv (tab_cons m_s2_Two (tab_cons m_s2_rounded (tab_nil _ _))))) lgood_nil))), fun k => r_s2_shift s2_Two s2_rounded s1_FloorDiv _ _ _ _ k⟩
    · exact .inl (fun _ => rfl))

noncomputable def B_s2_wrapped (f0 : Int → Int → KQ → Option DV) (f1 : Int → KI → Option DV) (f2 : ByteArray → Int → Int → Int → (Int → Bool → Option DV) → Option DV) (f3 : Int → Int → KI → Option DV) (ba : ByteArray) (l b : Int) (j bb : ByteArray) (g c a : Int) (k : KQ) : Option DV :=
  f1 (IntKind.wrap .i64 (l + 1)) (fun h => f3 g c (fun m => f3 m h (fun i => bif (toList j == toList (⟨#[122, 101, 114, 111]⟩)) then (bif decide (g < 0) then (f2 (⟨#[117, 112]⟩) (IntKind.wrap .i64 (g - (IntKind.wrap .i64 ((IntKind.wrap .i64 (i * h)) * c)))) c b (fun d bc => bif (IntKind.wrap .i64 (2 * a)) == 0 then none else (bif decide (Int.tmod d (IntKind.wrap .i64 (2 * a)) < 0) then (bif decide (IntKind.wrap .i64 ((Int.tmod d (IntKind.wrap .i64 (2 * a))) + (IntKind.wrap .i64 (2 * a))) ≥ a) then (f1 b (fun n => f0 (IntKind.wrap .i64 ((IntKind.wrap .i64 ((Int.tmod d (IntKind.wrap .i64 (2 * a))) + (IntKind.wrap .i64 (2 * a)))) - (IntKind.wrap .i64 (2 * a)))) n (fun o p => k o p))) else (f1 b (fun q => f0 (IntKind.wrap .i64 ((Int.tmod d (IntKind.wrap .i64 (2 * a))) + (IntKind.wrap .i64 (2 * a)))) q (fun r s => k r s)))) else (bif decide (Int.tmod d (IntKind.wrap .i64 (2 * a)) ≥ a) then (f1 b (fun t => f0 (IntKind.wrap .i64 ((Int.tmod d (IntKind.wrap .i64 (2 * a))) - (IntKind.wrap .i64 (2 * a)))) t (fun u v => k u v))) else (f1 b (fun w => f0 (Int.tmod d (IntKind.wrap .i64 (2 * a))) w (fun x y => k x y))))))) else (f2 (⟨#[102, 108, 111, 111, 114]⟩) (IntKind.wrap .i64 (g - (IntKind.wrap .i64 ((IntKind.wrap .i64 (i * h)) * c)))) c b (fun e bd => bif (IntKind.wrap .i64 (2 * a)) == 0 then none else (bif decide (Int.tmod e (IntKind.wrap .i64 (2 * a)) < 0) then (bif decide (IntKind.wrap .i64 ((Int.tmod e (IntKind.wrap .i64 (2 * a))) + (IntKind.wrap .i64 (2 * a))) ≥ a) then (f1 b (fun z => f0 (IntKind.wrap .i64 ((IntKind.wrap .i64 ((Int.tmod e (IntKind.wrap .i64 (2 * a))) + (IntKind.wrap .i64 (2 * a)))) - (IntKind.wrap .i64 (2 * a)))) z (fun aa ab => k aa ab))) else (f1 b (fun ac => f0 (IntKind.wrap .i64 ((Int.tmod e (IntKind.wrap .i64 (2 * a))) + (IntKind.wrap .i64 (2 * a)))) ac (fun ad ae => k ad ae)))) else (bif decide (Int.tmod e (IntKind.wrap .i64 (2 * a)) ≥ a) then (f1 b (fun af => f0 (IntKind.wrap .i64 ((Int.tmod e (IntKind.wrap .i64 (2 * a))) - (IntKind.wrap .i64 (2 * a)))) af (fun ag ah => k ag ah))) else (f1 b (fun ai => f0 (Int.tmod e (IntKind.wrap .i64 (2 * a))) ai (fun aj al => k aj al)))))))) else (f2 j (IntKind.wrap .i64 (g - (IntKind.wrap .i64 ((IntKind.wrap .i64 (i * h)) * c)))) c b (fun f be => bif (IntKind.wrap .i64 (2 * a)) == 0 then none else (bif decide (Int.tmod f (IntKind.wrap .i64 (2 * a)) < 0) then (bif decide (IntKind.wrap .i64 ((Int.tmod f (IntKind.wrap .i64 (2 * a))) + (IntKind.wrap .i64 (2 * a))) ≥ a) then (f1 b (fun am => f0 (IntKind.wrap .i64 ((IntKind.wrap .i64 ((Int.tmod f (IntKind.wrap .i64 (2 * a))) + (IntKind.wrap .i64 (2 * a)))) - (IntKind.wrap .i64 (2 * a)))) am (fun an ao => k an ao))) else (f1 b (fun ap => f0 (IntKind.wrap .i64 ((Int.tmod f (IntKind.wrap .i64 (2 * a))) + (IntKind.wrap .i64 (2 * a)))) ap (fun aq ar => k aq ar)))) else (bif decide (Int.tmod f (IntKind.wrap .i64 (2 * a)) ≥ a) then (f1 b (fun au => f0 (IntKind.wrap .i64 ((Int.tmod f (IntKind.wrap .i64 (2 * a))) - (IntKind.wrap .i64 (2 * a)))) au (fun av aw => k av aw))) else (f1 b (fun ax => f0 (Int.tmod f (IntKind.wrap .i64 (2 * a))) ax (fun ay az => k ay az))))))))))
noncomputable def s2_wrapped (a : ByteArray) (b c : Int) (d e : ByteArray) (f g h : Int) (k : KQ) : Option DV := B_s2_wrapped s1_Make s2_Two s2_shift s1_FloorDiv a b c d e f g h k

noncomputable def KK_s2_wrapped (f0 : ByteArray → Int → Int → ByteArray → ByteArray → Int → Int → Int → KQ → Option DV) (ds : List DV) (k : DV → Option DV) : Option DV :=
  match ds with
  | [.val (.agg ⟨[.string a, .int .i64 b, .int .i64 c, .string d, .string e]⟩), .val (.agg ⟨[.int .i64 f, .int .i64 g]⟩), .val (.int .i64 h)] => f0 a b c d e f g h (fun i j => k (.val (.agg ⟨[.int .i64 i, .int .i64 j]⟩)))
  | _ => none

theorem r_s2_wrapped (f0 : Int → Int → KQ → Option DV) (f1 : Int → KI → Option DV) (f2 : ByteArray → Int → Int → Int → (Int → Bool → Option DV) → Option DV) (f3 : Int → Int → KI → Option DV) (a : ByteArray) (b c : Int) (d e : ByteArray) (f g h : Int) (k : DV → Option DV) : B_s2_wrapped f0 f1 f2 f3 a b c d e f g h (fun i j => k (.val (.agg ⟨[.int .i64 i, .int .i64 j]⟩))) = pevF Tryz.prog (tab [(52, (KK_s1_Make f0)), (76, (KK_s1_FloorDiv f3)), (140, (KK_s2_Two f1)), (141, (KK_s2_shift f2))]) [] 64 Tryz.f142 (bodyOf Tryz.f142) [.val (.agg ⟨[.string a, .int .i64 b, .int .i64 c, .string d, .string e]⟩), .val (.agg ⟨[.int .i64 f, .int .i64 g]⟩), .val (.int .i64 h)] k := by kernel_rfl

theorem m_s2_wrapped : Meets Tryz.prog Inv 142 (KK_s2_wrapped s2_wrapped) :=
  meets_of_pev mixed stab (tab_cons m_s1_Make (tab_cons m_s1_FloorDiv (tab_cons m_s2_Two (tab_cons m_s2_shift (tab_nil _ _))))) Tryz.func142 (by kernel_rfl) (by kernel_rfl) (by
    intro ds; unfold KK_s2_wrapped; split
    · exact .inr ⟨[], 64, fun k => r_s2_wrapped s1_Make s2_Two s2_shift s1_FloorDiv _ _ _ _ _ _ _ _ k⟩
    · exact .inl (fun _ => rfl))

noncomputable def B_s2_fix (f0 : Int → Int → KQ → Option DV) (f1 : Int → KI → Option DV) (f2 : ByteArray → Int → Int → ByteArray → ByteArray → Int → Int → Int → KQ → Option DV) (f3 : KQ → Option DV) (f4 : ByteArray → Int → Int → Int → (Int → Bool → Option DV) → Option DV) (h : ByteArray) (e a : Int) (f c : ByteArray) (d g : Int) (k : KQ) : Option DV :=
  f1 (IntKind.wrap .i64 (e + a)) (fun b => f4 f d g a (fun i j => bif j then (bif decide (i ≥ IntKind.wrap .i64 (0 - b)) then (bif decide (i < b) then (f1 a (fun l => f0 i l (fun m n => k m n))) else (bif (toList c == toList (⟨#[115, 97, 116]⟩)) then (bif decide (d < 0) then (f1 a (fun o => f0 (IntKind.wrap .i64 (0 - b)) o (fun p q => k p q))) else (f1 a (fun r => f0 (IntKind.wrap .i64 (b - 1)) r (fun s t => k s t)))) else (bif (toList c == toList (⟨#[119, 114, 97, 112]⟩)) then (f2 h e a f c d g b (fun u v => k u v)) else (f3  (fun w x => k w x))))) else (bif (toList c == toList (⟨#[115, 97, 116]⟩)) then (bif decide (d < 0) then (f1 a (fun y => f0 (IntKind.wrap .i64 (0 - b)) y (fun z aa => k z aa))) else (f1 a (fun ab => f0 (IntKind.wrap .i64 (b - 1)) ab (fun ac ad => k ac ad)))) else (bif (toList c == toList (⟨#[119, 114, 97, 112]⟩)) then (f2 h e a f c d g b (fun ae af => k ae af)) else (f3  (fun ag ah => k ag ah))))) else (bif (toList c == toList (⟨#[115, 97, 116]⟩)) then (bif decide (d < 0) then (f1 a (fun ai => f0 (IntKind.wrap .i64 (0 - b)) ai (fun aj al => k aj al))) else (f1 a (fun am => f0 (IntKind.wrap .i64 (b - 1)) am (fun an ao => k an ao)))) else (bif (toList c == toList (⟨#[119, 114, 97, 112]⟩)) then (f2 h e a f c d g b (fun ap aq => k ap aq)) else (f3  (fun ar au => k ar au))))))
noncomputable def s2_fix (a : ByteArray) (b c : Int) (d e : ByteArray) (f g : Int) (k : KQ) : Option DV := B_s2_fix s1_Make s2_Two s2_wrapped s1_None s2_shift a b c d e f g k

noncomputable def KK_s2_fix (f0 : ByteArray → Int → Int → ByteArray → ByteArray → Int → Int → KQ → Option DV) (ds : List DV) (k : DV → Option DV) : Option DV :=
  match ds with
  | [.val (.agg ⟨[.string a, .int .i64 b, .int .i64 c, .string d, .string e]⟩), .val (.agg ⟨[.int .i64 f, .int .i64 g]⟩)] => f0 a b c d e f g (fun h i => k (.val (.agg ⟨[.int .i64 h, .int .i64 i]⟩)))
  | _ => none

theorem r_s2_fix (f0 : Int → Int → KQ → Option DV) (f1 : Int → KI → Option DV) (f2 : ByteArray → Int → Int → ByteArray → ByteArray → Int → Int → Int → KQ → Option DV) (f3 : KQ → Option DV) (f4 : ByteArray → Int → Int → Int → (Int → Bool → Option DV) → Option DV) (a : ByteArray) (b c : Int) (d e : ByteArray) (f g : Int) (k : DV → Option DV) : B_s2_fix f0 f1 f2 f3 f4 a b c d e f g (fun h i => k (.val (.agg ⟨[.int .i64 h, .int .i64 i]⟩))) = pevF Tryz.prog (tab [(16, (KK_s1_None f3)), (52, (KK_s1_Make f0)), (140, (KK_s2_Two f1)), (141, (KK_s2_shift f4)), (142, (KK_s2_wrapped f2))]) [] 64 Tryz.f113 (bodyOf Tryz.f113) [.val (.agg ⟨[.string a, .int .i64 b, .int .i64 c, .string d, .string e]⟩), .val (.agg ⟨[.int .i64 f, .int .i64 g]⟩)] k := by kernel_rfl

theorem m_s2_fix : Meets Tryz.prog Inv 113 (KK_s2_fix s2_fix) :=
  meets_of_pev mixed stab (tab_cons m_s1_None (tab_cons m_s1_Make (tab_cons m_s2_Two (tab_cons m_s2_shift (tab_cons m_s2_wrapped (tab_nil _ _)))))) Tryz.func113 (by kernel_rfl) (by kernel_rfl) (by
    intro ds; unfold KK_s2_fix; split
    · exact .inr ⟨[], 64, fun k => r_s2_fix s1_Make s2_Two s2_wrapped s1_None s2_shift _ _ _ _ _ _ _ k⟩
    · exact .inl (fun _ => rfl))

inductive X_s2_below_l7 where
  | h0 (a : Int) (b : Int) (c : Int) (d : Int)
def φ_s2_below_l7 : X_s2_below_l7 → Nat
  | .h0 a b c d => Int.toNat (0 - a) + 1

noncomputable def S_s2_below_l7 : X_s2_below_l7 → St
  | .h0 a b c d => ⟨mkT [(1, .dv (.val (.int .i64 a))), (2, .ptr 0 0), (5, .dv (.val (.int .i64 b)))] (.leaf .dead), 37, [some (.cells [.val (.int .i64 c), .val (.int .i64 d)])]⟩

noncomputable def oc_s2_below_l7 (k : KC) : (Bool → Int → Int → Int → Option DV) × (Int → Int → Int → Option DV) := (fun a b c d => k .ret ⟨mkT [(2, .ptr 0 0), (4, .dv (.val (.bool a))), (5, .dv (.val (.int .i64 b)))] (.leaf .dead), 37, [some (.cells [.val (.int .i64 c), .val (.int .i64 d)])]⟩, fun a b c => k (.exit 0) ⟨mkT [(2, .ptr 0 0), (4, .dead), (5, .dv (.val (.int .i64 a)))] (.leaf .dead), 37, [some (.cells [.val (.int .i64 b), .val (.int .i64 c)])]⟩)

noncomputable def B_s2_below_l7_h0 (f0 : Int → KI → Option DV) (d : Int) (a : Int) (c : Int) (b : Int) (κn : X_s2_below_l7 → Option DV) (κ0 : Bool → Int → Int → Int → Option DV) (κ1 : Int → Int → Int → Option DV) : Option DV :=
  bif decide (d < 0) then (bif decide (a ≥ b) then (κ0 false a c b) else (κn (X_s2_below_l7.h0 (IntKind.wrap .i64 (d + 1)) (IntKind.wrap .i64 (2 * a)) c b))) else (κ1 a c b)

noncomputable def F_s2_below_l7 (f0 : Int → KI → Option DV) : X_s2_below_l7 → (X_s2_below_l7 → Option DV) → ((Bool → Int → Int → Int → Option DV) × (Int → Int → Int → Option DV)) → Option DV
  | .h0 a b c d, κn, κ => B_s2_below_l7_h0 f0 a b c d κn κ.1 κ.2

noncomputable def dec_s2_below_l7 (s : St) : Option X_s2_below_l7 :=
  bindO (xN s.n 37) fun u => bindO (xD (s.tmps.get 1)) fun d => bindO (xI .i64 d) fun e => bindO (xP 0 0 (s.tmps.get 2)) fun j => bindO (xD (s.tmps.get 5)) fun f => bindO (xI .i64 f) fun g => bindO (xBlk s.heap) fun a => bindO (xUn a.1) fun b => bindO (xI .i64 b.1) fun h => bindO (xUn b.2) fun c => bindO (xI .i64 c.1) fun i => bindO (xEnd c.2) fun l => bindO (xEnd a.2) fun m => some (.h0 e g h i)

noncomputable def R_s2_below_l7 (f0 : Int → KI → Option DV) : St → KC → Option DV := decR dec_s2_below_l7 (F_s2_below_l7 f0) φ_s2_below_l7 oc_s2_below_l7

theorem d_s2_below_l7 : ∀ s x, dec_s2_below_l7 s = some x → SLe s (S_s2_below_l7 x) := by
  intro s x h
  unfold dec_s2_below_l7 at h
  · obtain ⟨u, en, h⟩ := bindO_some h
    obtain ⟨o, a, h⟩ := bindO_some h
    obtain ⟨p, b, h⟩ := bindO_some h
    obtain ⟨q, c, h⟩ := bindO_some h
    obtain ⟨r, d, h⟩ := bindO_some h
    obtain ⟨t, e, h⟩ := bindO_some h
    obtain ⟨v, f, h⟩ := bindO_some h
    obtain ⟨w, g, h⟩ := bindO_some h
    obtain ⟨y, i, h⟩ := bindO_some h
    obtain ⟨z, j, h⟩ := bindO_some h
    obtain ⟨aa, l, h⟩ := bindO_some h
    obtain ⟨ab, m, h⟩ := bindO_some h
    obtain ⟨ac, n, h⟩ := bindO_some h
    cases h
    exact ⟨le_mkT _ _ (Le.dead _) ⟨.inr ((xD_eq a).trans (congrArg VV.dv (xI_eq b))), .inr (xP_eq c), .inr ((xD_eq d).trans (congrArg VV.dv (xI_eq e))), trivial⟩, (xN_eq en).symm, by rw [xBlk_eq f, xUn_eq g, xI_eq i, xUn_eq j, xI_eq l, xEnd_eq m, xEnd_eq n]; rfl⟩

noncomputable def B_s2_below (f0 : Int → KI → Option DV) (a b c : Int) (k : KB) : Option DV :=
  bif decide (a < 0) then (bif b == 0 then none else (bif decide (c ≥ 0) then (f0 c (fun d => k (decide (IntKind.wrap .i64 (Int.tdiv (IntKind.wrap .i64 (0 - a)) b) < d)))) else (LF (F_s2_below_l7 f0) (φ_s2_below_l7 (X_s2_below_l7.h0 c (IntKind.wrap .i64 (0 - a)) a b)) (X_s2_below_l7.h0 c (IntKind.wrap .i64 (0 - a)) a b) ((fun e m n o => k e), (fun f p g => k (decide (f < g))))))) else (bif b == 0 then none else (bif decide (c ≥ 0) then (f0 c (fun h => k (decide (IntKind.wrap .i64 (Int.tdiv a b) < h)))) else (LF (F_s2_below_l7 f0) (φ_s2_below_l7 (X_s2_below_l7.h0 c a a b)) (X_s2_below_l7.h0 c a a b) ((fun i q r s => k i), (fun j t l => k (decide (j < l)))))))
noncomputable def s2_below (a b c : Int) (k : KB) : Option DV := B_s2_below s2_Two a b c k

noncomputable def KK_s2_below (f0 : Int → Int → Int → KB → Option DV) (ds : List DV) (k : DV → Option DV) : Option DV :=
  match ds with
  | [.val (.agg ⟨[.int .i64 a, .int .i64 b]⟩), .val (.int .i64 c)] => f0 a b c (fun d => k (.val (.bool d)))
  | _ => none

theorem q_s2_below_l7_h0 (f0 : Int → KI → Option DV) (a : Int) (b : Int) (c : Int) (d : Int) (κn : St → Option DV) (κ : KC) : pev Tryz.prog (tab [(140, (KK_s2_Two f0))]) (ltab [(7, R_s2_below_l7 f0)]) [(0, [0]), (0, []), (7, [1, 2, 5]), (100007, [2, 4, 5])] 64 (loopB (bodyOf Tryz.f143) 0) (S_s2_below_l7 (.h0 a b c d)) (contL [1, 2, 5] [2, 4, 5] κn κ) = F_s2_below_l7 f0 (.h0 a b c d) (fun x => κn (S_s2_below_l7 x)) (oc_s2_below_l7 κ) := by kernel_rfl

theorem g_s2_below_l7 (f0 : Int → KI → Option DV) (HK : ∀ g, Meets Tryz.prog Inv g (tab [(140, (KK_s2_Two f0))] g)) : RGood Tryz.prog Inv (loopB (bodyOf Tryz.f143) 0) (R_s2_below_l7 f0) :=
  have hL : LGood Tryz.prog Inv (ltab [(7, R_s2_below_l7 f0)]) (loopB (bodyOf Tryz.f143) 0) := (lgood_of (bs := []) (by kernel_rfl) lgood_nil)
  rgood_dec (body := fun s k => pev Tryz.prog (tab [(140, (KK_s2_Two f0))]) (ltab [(7, R_s2_below_l7 f0)]) [(0, [0]), (0, []), (7, [1, 2, 5]), (100007, [2, 4, 5])] 64 (loopB (bodyOf Tryz.f143) 0) s k) (live := [1, 2, 5]) (out := [2, 4, 5]) (S := S_s2_below_l7) (pev_ok mixed stab HK (ltab [(7, R_s2_below_l7 f0)]) [(0, [0]), (0, []), (7, [1, 2, 5]), (100007, [2, 4, 5])] 64 _ hL) (pev_nat HK (ltab [(7, R_s2_below_l7 f0)]) [(0, [0]), (0, []), (7, [1, 2, 5]), (100007, [2, 4, 5])] 64 _ hL)
    (fun x κn κ => match x with
      | .h0 _ _ _ _ => q_s2_below_l7_h0 f0 _ _ _ _ κn κ
    ) d_s2_below_l7 φ_s2_below_l7

theorem r_s2_below (f0 : Int → KI → Option DV) (a b c : Int) (k : DV → Option DV) : B_s2_below f0 a b c (fun d => k (.val (.bool d))) = pevL Tryz.prog (tab [(140, (KK_s2_Two f0))]) (ltab [(7, R_s2_below_l7 f0)]) [(0, [0]), (0, []), (7, [1, 2, 5]), (100007, [2, 4, 5])] 64 Tryz.f143 (bodyOf Tryz.f143) [.val (.agg ⟨[.int .i64 a, .int .i64 b]⟩), .val (.int .i64 c)] k := by kernel_rfl

theorem m_s2_below : Meets Tryz.prog Inv 143 (KK_s2_below s2_below) :=
  meets_of_pevL mixed stab (tab_cons m_s2_Two (tab_nil _ _)) Tryz.func143 (by kernel_rfl) (by kernel_rfl) (by
    intro ds; unfold KK_s2_below; split
    · exact .inr ⟨(ltab [(7, R_s2_below_l7 s2_Two)]), [(0, [0]), (0, []), (7, [1, 2, 5]), (100007, [2, 4, 5])], 64, lgood_of (bs := [loopB (bodyOf Tryz.f143) 0]) (by kernel_rfl) (lgood_cons (by kernel_rfl) (g_s2_below_l7 s2_Two (tab_cons m_s2_Two (tab_nil _ _))) lgood_nil), fun k => r_s2_below s2_Two _ _ _ k⟩
    · exact .inl (fun _ => rfl))

noncomputable def B_s2_scaled (f0 : Int → Int → KQ → Option DV) (f1 : Int → KI → Option DV) (b a : Int) (k : KQ) : Option DV :=
  bif decide (a < 0) then (f1 (IntKind.wrap .i64 (0 - a)) (fun c => f0 b c (fun d e => k d e))) else (f1 a (fun f => f0 (IntKind.wrap .i64 (b * f)) 1 (fun g h => k g h)))
noncomputable def s2_scaled (a b : Int) (k : KQ) : Option DV := B_s2_scaled s1_Make s2_Two a b k

noncomputable def KK_s2_scaled (f0 : Int → Int → KQ → Option DV) (ds : List DV) (k : DV → Option DV) : Option DV :=
  match ds with
  | [.val (.int .i64 a), .val (.int .i64 b)] => f0 a b (fun c d => k (.val (.agg ⟨[.int .i64 c, .int .i64 d]⟩)))
  | _ => none

theorem r_s2_scaled (f0 : Int → Int → KQ → Option DV) (f1 : Int → KI → Option DV) (a b : Int) (k : DV → Option DV) : B_s2_scaled f0 f1 a b (fun c d => k (.val (.agg ⟨[.int .i64 c, .int .i64 d]⟩))) = pevF Tryz.prog (tab [(52, (KK_s1_Make f0)), (140, (KK_s2_Two f1))]) [] 64 Tryz.f145 (bodyOf Tryz.f145) [.val (.int .i64 a), .val (.int .i64 b)] k := by kernel_rfl

theorem m_s2_scaled : Meets Tryz.prog Inv 145 (KK_s2_scaled s2_scaled) :=
  meets_of_pev mixed stab (tab_cons m_s1_Make (tab_cons m_s2_Two (tab_nil _ _))) Tryz.func145 (by kernel_rfl) (by kernel_rfl) (by
    intro ds; unfold KK_s2_scaled; split
    · exact .inr ⟨[], 64, fun k => r_s2_scaled s1_Make s2_Two _ _ k⟩
    · exact .inl (fun _ => rfl))

noncomputable def B_s2_beyond (f0 : KQ → Option DV) (f1 : Int → Int → KQ → Option DV) (f2 : Int → KI → Option DV) (m : ByteArray) (c a : Int) (n d : ByteArray) (e : Bool) (k : KQ) : Option DV :=
  bif !(toList d == toList (⟨#[115, 97, 116]⟩)) then (f0  (fun f g => k f g)) else (f2 c (fun b => bif e then (f1 (IntKind.wrap .i64 (0 - (IntKind.wrap .i64 (b - 1)))) a (fun h i => k h i)) else (f1 (IntKind.wrap .i64 (b - 1)) a (fun j l => k j l))))
noncomputable def s2_beyond (a : ByteArray) (b c : Int) (d e : ByteArray) (f : Bool) (k : KQ) : Option DV := B_s2_beyond s1_None s2_scaled s2_Two a b c d e f k

noncomputable def KK_s2_beyond (f0 : ByteArray → Int → Int → ByteArray → ByteArray → Bool → KQ → Option DV) (ds : List DV) (k : DV → Option DV) : Option DV :=
  match ds with
  | [.val (.agg ⟨[.string a, .int .i64 b, .int .i64 c, .string d, .string e]⟩), .val (.bool f)] => f0 a b c d e f (fun g h => k (.val (.agg ⟨[.int .i64 g, .int .i64 h]⟩)))
  | _ => none

theorem r_s2_beyond (f0 : KQ → Option DV) (f1 : Int → Int → KQ → Option DV) (f2 : Int → KI → Option DV) (a : ByteArray) (b c : Int) (d e : ByteArray) (f : Bool) (k : DV → Option DV) : B_s2_beyond f0 f1 f2 a b c d e f (fun g h => k (.val (.agg ⟨[.int .i64 g, .int .i64 h]⟩))) = pevF Tryz.prog (tab [(16, (KK_s1_None f0)), (140, (KK_s2_Two f2)), (145, (KK_s2_scaled f1))]) [] 64 Tryz.f144 (bodyOf Tryz.f144) [.val (.agg ⟨[.string a, .int .i64 b, .int .i64 c, .string d, .string e]⟩), .val (.bool f)] k := by kernel_rfl

theorem m_s2_beyond : Meets Tryz.prog Inv 144 (KK_s2_beyond s2_beyond) :=
  meets_of_pev mixed stab (tab_cons m_s1_None (tab_cons m_s2_Two (tab_cons m_s2_scaled (tab_nil _ _)))) Tryz.func144 (by kernel_rfl) (by kernel_rfl) (by
    intro ds; unfold KK_s2_beyond; split
    · exact .inr ⟨[], 64, fun k => r_s2_beyond s1_None s2_scaled s2_Two _ _ _ _ _ _ k⟩
    · exact .inl (fun _ => rfl))

inductive X_s2_float_l4 where
  | h0 (a : Int) (b : ByteArray) (c : Int) (d : Int) (e : ByteArray) (f : ByteArray) (g : Int) (h : Int) (i : Int) (j : Int)
def φ_s2_float_l4 : X_s2_float_l4 → Nat
  | .h0 a b c d e f g h i j => Int.toNat (70 - a)

noncomputable def S_s2_float_l4 : X_s2_float_l4 → St
  | .h0 a b c d e f g h i j => ⟨mkT [(2, .ptr 0 0), (3, .ptr 1 0), (4, .ptr 2 0), (5, .dv (.val (.int .i64 a)))] (.leaf .dead), 77, [some (.cells [.val (.string b), .val (.int .i64 c), .val (.int .i64 d), .val (.string e), .val (.string f)]), some (.cells [.val (.int .i64 g), .val (.int .i64 h)]), some (.cells [.val (.int .i64 i), .val (.int .i64 j)])]⟩

noncomputable def oc_s2_float_l4 (k : KC) : (Int → ByteArray → Int → Int → ByteArray → ByteArray → Int → Int → Int → Int → Option DV) := (fun a b c d e f g h i j => k (.exit 0) ⟨mkT [(2, .ptr 0 0), (3, .ptr 1 0), (4, .ptr 2 0), (5, .dv (.val (.int .i64 a)))] (.leaf .dead), 77, [some (.cells [.val (.string b), .val (.int .i64 c), .val (.int .i64 d), .val (.string e), .val (.string f)]), some (.cells [.val (.int .i64 g), .val (.int .i64 h)]), some (.cells [.val (.int .i64 i), .val (.int .i64 j)])]⟩)

noncomputable def B_s2_float_l4_h0 (f0 : Int → KQ → Option DV) (f1 : Int → Int → Int → KB → Option DV) (f2 : ByteArray → Int → Int → ByteArray → ByteArray → Bool → KQ → Option DV) (f3 : Int → Int → KQ → Option DV) (f4 : Int → KI → Option DV) (f5 : ByteArray → Int → Int → Int → (Int → Bool → Option DV) → Option DV) (a : Int) (f : ByteArray) (b : Int) (c : Int) (g : ByteArray) (h : ByteArray) (d : Int) (e : Int) (i : Int) (j : Int) (κn : X_s2_float_l4 → Option DV) (κ0 : Int → ByteArray → Int → Int → ByteArray → ByteArray → Int → Int → Int → Int → Option DV) : Option DV :=
  bif decide (a ≤ c) then (f1 d e (IntKind.wrap .i64 (b + a)) (fun l => bif !l then (κn (X_s2_float_l4.h0 (IntKind.wrap .i64 (a + 1)) f b c g h d e i j)) else (κ0 a f b c g h d e i j))) else (κ0 a f b c g h d e i j)

noncomputable def F_s2_float_l4 (f0 : Int → KQ → Option DV) (f1 : Int → Int → Int → KB → Option DV) (f2 : ByteArray → Int → Int → ByteArray → ByteArray → Bool → KQ → Option DV) (f3 : Int → Int → KQ → Option DV) (f4 : Int → KI → Option DV) (f5 : ByteArray → Int → Int → Int → (Int → Bool → Option DV) → Option DV) : X_s2_float_l4 → (X_s2_float_l4 → Option DV) → ((Int → ByteArray → Int → Int → ByteArray → ByteArray → Int → Int → Int → Int → Option DV)) → Option DV
  | .h0 a b c d e f g h i j, κn, κ => B_s2_float_l4_h0 f0 f1 f2 f3 f4 f5 a b c d e f g h i j κn κ

noncomputable def dec_s2_float_l4 (s : St) : Option X_s2_float_l4 :=
  bindO (xN s.n 77) fun u => bindO (xP 0 0 (s.tmps.get 2)) fun ab => bindO (xP 1 0 (s.tmps.get 3)) fun ac => bindO (xP 2 0 (s.tmps.get 4)) fun ad => bindO (xD (s.tmps.get 5)) fun o => bindO (xI .i64 o) fun p => bindO (xBlk s.heap) fun a => bindO (xUn a.1) fun b => bindO (xS b.1) fun q => bindO (xUn b.2) fun c => bindO (xI .i64 c.1) fun r => bindO (xUn c.2) fun d => bindO (xI .i64 d.1) fun t => bindO (xUn d.2) fun e => bindO (xS e.1) fun v => bindO (xUn e.2) fun f => bindO (xS f.1) fun w => bindO (xEnd f.2) fun ae => bindO (xBlk a.2) fun g => bindO (xUn g.1) fun h => bindO (xI .i64 h.1) fun x => bindO (xUn h.2) fun i => bindO (xI .i64 i.1) fun y => bindO (xEnd i.2) fun af => bindO (xBlk g.2) fun j => bindO (xUn j.1) fun l => bindO (xI .i64 l.1) fun z => bindO (xUn l.2) fun m => bindO (xI .i64 m.1) fun aa => bindO (xEnd m.2) fun ag => bindO (xEnd j.2) fun ah => some (.h0 p q r t v w x y z aa)

noncomputable def R_s2_float_l4 (f0 : Int → KQ → Option DV) (f1 : Int → Int → Int → KB → Option DV) (f2 : ByteArray → Int → Int → ByteArray → ByteArray → Bool → KQ → Option DV) (f3 : Int → Int → KQ → Option DV) (f4 : Int → KI → Option DV) (f5 : ByteArray → Int → Int → Int → (Int → Bool → Option DV) → Option DV) : St → KC → Option DV := decR dec_s2_float_l4 (F_s2_float_l4 f0 f1 f2 f3 f4 f5) φ_s2_float_l4 oc_s2_float_l4

theorem d_s2_float_l4 : ∀ s x, dec_s2_float_l4 s = some x → SLe s (S_s2_float_l4 x) := by
  intro s x h
  unfold dec_s2_float_l4 at h
  · obtain ⟨u, en, h⟩ := bindO_some h
    obtain ⟨aj, a, h⟩ := bindO_some h
    obtain ⟨al, b, h⟩ := bindO_some h
    obtain ⟨am, c, h⟩ := bindO_some h
    obtain ⟨an, d, h⟩ := bindO_some h
    obtain ⟨ao, e, h⟩ := bindO_some h
    obtain ⟨ap, f, h⟩ := bindO_some h
    obtain ⟨aq, g, h⟩ := bindO_some h
    obtain ⟨ar, i, h⟩ := bindO_some h
    obtain ⟨au, j, h⟩ := bindO_some h
    obtain ⟨av, l, h⟩ := bindO_some h
    obtain ⟨aw, m, h⟩ := bindO_some h
    obtain ⟨ax, n, h⟩ := bindO_some h
    obtain ⟨ay, o, h⟩ := bindO_some h
    obtain ⟨az, p, h⟩ := bindO_some h
    obtain ⟨ba, q, h⟩ := bindO_some h
    obtain ⟨bb, r, h⟩ := bindO_some h
    obtain ⟨bc, t, h⟩ := bindO_some h
    obtain ⟨bd, v, h⟩ := bindO_some h
    obtain ⟨be, w, h⟩ := bindO_some h
    obtain ⟨bf, y, h⟩ := bindO_some h
    obtain ⟨bg, z, h⟩ := bindO_some h
    obtain ⟨bh, aa, h⟩ := bindO_some h
    obtain ⟨bi, ab, h⟩ := bindO_some h
    obtain ⟨bj, ac, h⟩ := bindO_some h
    obtain ⟨bl, ad, h⟩ := bindO_some h
    obtain ⟨bm, ae, h⟩ := bindO_some h
    obtain ⟨bn, af, h⟩ := bindO_some h
    obtain ⟨bo, ag, h⟩ := bindO_some h
    obtain ⟨bp, ah, h⟩ := bindO_some h
    obtain ⟨bq, ai, h⟩ := bindO_some h
    cases h
    exact ⟨le_mkT _ _ (Le.dead _) ⟨.inr (xP_eq a), .inr (xP_eq b), .inr (xP_eq c), .inr ((xD_eq d).trans (congrArg VV.dv (xI_eq e))), trivial⟩, (xN_eq en).symm, by rw [xBlk_eq f, xUn_eq g, xS_eq i, xUn_eq j, xI_eq l, xUn_eq m, xI_eq n, xUn_eq o, xS_eq p, xUn_eq q, xS_eq r, xEnd_eq t, xBlk_eq v, xUn_eq w, xI_eq y, xUn_eq z, xI_eq aa, xEnd_eq ab, xBlk_eq ac, xUn_eq ad, xI_eq ae, xUn_eq af, xI_eq ag, xEnd_eq ah, xEnd_eq ai]; rfl⟩

noncomputable def B_s2_float (f0 : Int → KQ → Option DV) (f1 : Int → Int → Int → KB → Option DV) (f2 : ByteArray → Int → Int → ByteArray → ByteArray → Bool → KQ → Option DV) (f3 : Int → Int → KQ → Option DV) (f4 : Int → KI → Option DV) (f5 : ByteArray → Int → Int → Int → (Int → Bool → Option DV) → Option DV) (l : ByteArray) (m e : Int) (n o : ByteArray) (h p : Int) (k : KQ) : Option DV :=
  bif h == 0 then (f0 0 (fun q r => k q r)) else (LF (F_s2_float_l4 f0 f1 f2 f3 f4 f5) (φ_s2_float_l4 (X_s2_float_l4.h0 (IntKind.wrap .i64 (0 - e)) l m e n o h p 0 0)) (X_s2_float_l4.h0 (IntKind.wrap .i64 (0 - e)) l m e n o h p 0 0) ((fun a i c b f j g s ah ai => bif decide (a > b) then (f2 i c b f j (decide (g < 0)) (fun t u => k t u)) else (f5 f g s (IntKind.wrap .i64 (0 - a)) (fun d aj => f4 c (fun v => bif !(d == v) then (f4 c (fun w => bif d == (IntKind.wrap .i64 (0 - w)) then (bif a == b then (f2 i c b f j (decide (g < 0)) (fun x y => k x y)) else (f3 (IntKind.wrap .i64 (Int.tdiv d 2)) (IntKind.wrap .i64 (a + 1)) (fun z aa => k z aa))) else (f3 d a (fun ab ac => k ab ac)))) else (bif a == b then (f2 i c b f j (decide (g < 0)) (fun ad ae => k ad ae)) else (f3 (IntKind.wrap .i64 (Int.tdiv d 2)) (IntKind.wrap .i64 (a + 1)) (fun af ag => k af ag)))))))))
noncomputable def s2_float (a : ByteArray) (b c : Int) (d e : ByteArray) (f g : Int) (k : KQ) : Option DV := B_s2_float s1_Whole s2_below s2_beyond s2_scaled s2_Two s2_shift a b c d e f g k

noncomputable def KK_s2_float (f0 : ByteArray → Int → Int → ByteArray → ByteArray → Int → Int → KQ → Option DV) (ds : List DV) (k : DV → Option DV) : Option DV :=
  match ds with
  | [.val (.agg ⟨[.string a, .int .i64 b, .int .i64 c, .string d, .string e]⟩), .val (.agg ⟨[.int .i64 f, .int .i64 g]⟩)] => f0 a b c d e f g (fun h i => k (.val (.agg ⟨[.int .i64 h, .int .i64 i]⟩)))
  | _ => none

theorem q_s2_float_l4_h0 (f0 : Int → KQ → Option DV) (f1 : Int → Int → Int → KB → Option DV) (f2 : ByteArray → Int → Int → ByteArray → ByteArray → Bool → KQ → Option DV) (f3 : Int → Int → KQ → Option DV) (f4 : Int → KI → Option DV) (f5 : ByteArray → Int → Int → Int → (Int → Bool → Option DV) → Option DV) (a : Int) (b : ByteArray) (c : Int) (d : Int) (e : ByteArray) (f : ByteArray) (g : Int) (h : Int) (i : Int) (j : Int) (κn : St → Option DV) (κ : KC) : pev Tryz.prog (tab [(13, (KK_s1_Whole f0)), (140, (KK_s2_Two f4)), (141, (KK_s2_shift f5)), (143, (KK_s2_below f1)), (144, (KK_s2_beyond f2)), (145, (KK_s2_scaled f3))]) (ltab [(4, R_s2_float_l4 f0 f1 f2 f3 f4 f5)]) [(0, [0]), (0, []), (4, [2, 3, 4, 5]), (100004, [2, 3, 4, 5])] 64 (loopB (bodyOf Tryz.f114) 0) (S_s2_float_l4 (.h0 a b c d e f g h i j)) (contL [2, 3, 4, 5] [2, 3, 4, 5] κn κ) = F_s2_float_l4 f0 f1 f2 f3 f4 f5 (.h0 a b c d e f g h i j) (fun x => κn (S_s2_float_l4 x)) (oc_s2_float_l4 κ) := by kernel_rfl

theorem g_s2_float_l4 (f0 : Int → KQ → Option DV) (f1 : Int → Int → Int → KB → Option DV) (f2 : ByteArray → Int → Int → ByteArray → ByteArray → Bool → KQ → Option DV) (f3 : Int → Int → KQ → Option DV) (f4 : Int → KI → Option DV) (f5 : ByteArray → Int → Int → Int → (Int → Bool → Option DV) → Option DV) (HK : ∀ g, Meets Tryz.prog Inv g (tab [(13, (KK_s1_Whole f0)), (140, (KK_s2_Two f4)), (141, (KK_s2_shift f5)), (143, (KK_s2_below f1)), (144, (KK_s2_beyond f2)), (145, (KK_s2_scaled f3))] g)) : RGood Tryz.prog Inv (loopB (bodyOf Tryz.f114) 0) (R_s2_float_l4 f0 f1 f2 f3 f4 f5) :=
  have hL : LGood Tryz.prog Inv (ltab [(4, R_s2_float_l4 f0 f1 f2 f3 f4 f5)]) (loopB (bodyOf Tryz.f114) 0) := (lgood_of (bs := []) (by kernel_rfl) lgood_nil)
  rgood_dec (body := fun s k => pev Tryz.prog (tab [(13, (KK_s1_Whole f0)), (140, (KK_s2_Two f4)), (141, (KK_s2_shift f5)), (143, (KK_s2_below f1)), (144, (KK_s2_beyond f2)), (145, (KK_s2_scaled f3))]) (ltab [(4, R_s2_float_l4 f0 f1 f2 f3 f4 f5)]) [(0, [0]), (0, []), (4, [2, 3, 4, 5]), (100004, [2, 3, 4, 5])] 64 (loopB (bodyOf Tryz.f114) 0) s k) (live := [2, 3, 4, 5]) (out := [2, 3, 4, 5]) (S := S_s2_float_l4) (pev_ok mixed stab HK (ltab [(4, R_s2_float_l4 f0 f1 f2 f3 f4 f5)]) [(0, [0]), (0, []), (4, [2, 3, 4, 5]), (100004, [2, 3, 4, 5])] 64 _ hL) (pev_nat HK (ltab [(4, R_s2_float_l4 f0 f1 f2 f3 f4 f5)]) [(0, [0]), (0, []), (4, [2, 3, 4, 5]), (100004, [2, 3, 4, 5])] 64 _ hL)
    (fun x κn κ => match x with
      | .h0 _ _ _ _ _ _ _ _ _ _ => q_s2_float_l4_h0 f0 f1 f2 f3 f4 f5 _ _ _ _ _ _ _ _ _ _ κn κ
    ) d_s2_float_l4 φ_s2_float_l4

theorem r_s2_float (f0 : Int → KQ → Option DV) (f1 : Int → Int → Int → KB → Option DV) (f2 : ByteArray → Int → Int → ByteArray → ByteArray → Bool → KQ → Option DV) (f3 : Int → Int → KQ → Option DV) (f4 : Int → KI → Option DV) (f5 : ByteArray → Int → Int → Int → (Int → Bool → Option DV) → Option DV) (a : ByteArray) (b c : Int) (d e : ByteArray) (f g : Int) (k : DV → Option DV) : B_s2_float f0 f1 f2 f3 f4 f5 a b c d e f g (fun h i => k (.val (.agg ⟨[.int .i64 h, .int .i64 i]⟩))) = pevL Tryz.prog (tab [(13, (KK_s1_Whole f0)), (140, (KK_s2_Two f4)), (141, (KK_s2_shift f5)), (143, (KK_s2_below f1)), (144, (KK_s2_beyond f2)), (145, (KK_s2_scaled f3))]) (ltab [(4, R_s2_float_l4 f0 f1 f2 f3 f4 f5)]) [(0, [0]), (0, []), (4, [2, 3, 4, 5]), (100004, [2, 3, 4, 5])] 64 Tryz.f114 (bodyOf Tryz.f114) [.val (.agg ⟨[.string a, .int .i64 b, .int .i64 c, .string d, .string e]⟩), .val (.agg ⟨[.int .i64 f, .int .i64 g]⟩)] k := by kernel_rfl

theorem m_s2_float : Meets Tryz.prog Inv 114 (KK_s2_float s2_float) :=
  meets_of_pevL mixed stab (tab_cons m_s1_Whole (tab_cons m_s2_Two (tab_cons m_s2_shift (tab_cons m_s2_below (tab_cons m_s2_beyond (tab_cons m_s2_scaled (tab_nil _ _))))))) Tryz.func114 (by kernel_rfl) (by kernel_rfl) (by
    intro ds; unfold KK_s2_float; split
    · exact .inr ⟨(ltab [(4, R_s2_float_l4 s1_Whole s2_below s2_beyond s2_scaled s2_Two s2_shift)]), [(0, [0]), (0, []), (4, [2, 3, 4, 5]), (100004, [2, 3, 4, 5])], 64, lgood_of (bs := [loopB (bodyOf Tryz.f114) 0]) (by kernel_rfl) (lgood_cons (by kernel_rfl) (g_s2_float_l4 s1_Whole s2_below s2_beyond s2_scaled s2_Two s2_shift (tab_cons m_s1_Whole (tab_cons m_s2_Two (tab_cons m_s2_shift (tab_cons m_s2_below (tab_cons m_s2_beyond (tab_cons m_s2_scaled (tab_nil _ _)))))))) lgood_nil), fun k => r_s2_float s1_Whole s2_below s2_beyond s2_scaled s2_Two s2_shift _ _ _ _ _ _ _ k⟩
    · exact .inl (fun _ => rfl))

noncomputable def B_s2_fit (f0 : ByteArray → Int → Int → ByteArray → ByteArray → Int → Int → KQ → Option DV) (f1 : ByteArray → Int → Int → ByteArray → ByteArray → Int → Int → KQ → Option DV) (a : ByteArray) (b c : Int) (d e : ByteArray) (f g : Int) (k : KQ) : Option DV :=
  bif (toList a == toList (⟨#[102, 105, 120]⟩)) then (f0 a b c d e f g (fun h i => k h i)) else (f1 a b c d e f g (fun j l => k j l))
noncomputable def s2_fit (a : ByteArray) (b c : Int) (d e : ByteArray) (f g : Int) (k : KQ) : Option DV := B_s2_fit s2_fix s2_float a b c d e f g k

noncomputable def KK_s2_fit (f0 : ByteArray → Int → Int → ByteArray → ByteArray → Int → Int → KQ → Option DV) (ds : List DV) (k : DV → Option DV) : Option DV :=
  match ds with
  | [.val (.agg ⟨[.string a, .int .i64 b, .int .i64 c, .string d, .string e]⟩), .val (.agg ⟨[.int .i64 f, .int .i64 g]⟩)] => f0 a b c d e f g (fun h i => k (.val (.agg ⟨[.int .i64 h, .int .i64 i]⟩)))
  | _ => none

theorem r_s2_fit (f0 : ByteArray → Int → Int → ByteArray → ByteArray → Int → Int → KQ → Option DV) (f1 : ByteArray → Int → Int → ByteArray → ByteArray → Int → Int → KQ → Option DV) (a : ByteArray) (b c : Int) (d e : ByteArray) (f g : Int) (k : DV → Option DV) : B_s2_fit f0 f1 a b c d e f g (fun h i => k (.val (.agg ⟨[.int .i64 h, .int .i64 i]⟩))) = pevF Tryz.prog (tab [(113, (KK_s2_fix f0)), (114, (KK_s2_float f1))]) [] 64 Tryz.f81 (bodyOf Tryz.f81) [.val (.agg ⟨[.string a, .int .i64 b, .int .i64 c, .string d, .string e]⟩), .val (.agg ⟨[.int .i64 f, .int .i64 g]⟩)] k := by kernel_rfl

theorem m_s2_fit : Meets Tryz.prog Inv 81 (KK_s2_fit s2_fit) :=
  meets_of_pev mixed stab (tab_cons m_s2_fix (tab_cons m_s2_float (tab_nil _ _))) Tryz.func81 (by kernel_rfl) (by kernel_rfl) (by
    intro ds; unfold KK_s2_fit; split
    · exact .inr ⟨[], 64, fun k => r_s2_fit s2_fix s2_float _ _ _ _ _ _ _ k⟩
    · exact .inl (fun _ => rfl))

noncomputable def B_s2_wide  (a b : Int) (k : KQ) : Option DV :=
  k a b
noncomputable def s2_wide (a b : Int) (k : KQ) : Option DV := B_s2_wide  a b k

noncomputable def KK_s2_wide (f0 : Int → Int → KQ → Option DV) (ds : List DV) (k : DV → Option DV) : Option DV :=
  match ds with
  | [.val (.agg ⟨[.int .i64 a, .int .i64 b]⟩)] => f0 a b (fun c d => k (.val (.agg ⟨[.int .i64 c, .int .i64 d]⟩)))
  | _ => none

theorem r_s2_wide  (a b : Int) (k : DV → Option DV) : B_s2_wide  a b (fun c d => k (.val (.agg ⟨[.int .i64 c, .int .i64 d]⟩))) = pevF Tryz.prog (tab []) [] 64 Tryz.f82 (bodyOf Tryz.f82) [.val (.agg ⟨[.int .i64 a, .int .i64 b]⟩)] k := by kernel_rfl

theorem m_s2_wide : Meets Tryz.prog Inv 82 (KK_s2_wide s2_wide) :=
  meets_of_pev mixed stab (tab_nil _ _) Tryz.func82 (by kernel_rfl) (by kernel_rfl) (by
    intro ds; unfold KK_s2_wide; split
    · exact .inr ⟨[], 64, fun k => r_s2_wide  _ _ k⟩
    · exact .inl (fun _ => rfl))

noncomputable def B_s2_Fit (f0 : KQ → Option DV) (f1 : ByteArray → Int → Int → ByteArray → ByteArray → Int → Int → KQ → Option DV) (f2 : Int → Int → KQ → Option DV) (f3 : Int → Int → KB → Option DV) (f4 : ByteArray → Int → Int → ByteArray → ByteArray → KB → Option DV) (a : ByteArray) (b c : Int) (d e : ByteArray) (f g : Int) (k : KQ) : Option DV :=
  f4 a b c d e (fun h => bif !(!h) then (f3 f g (fun i => bif !i then (f0  (fun j l => k j l)) else (f2 f g (fun m n => f1 a b c d e m n (fun o p => k o p))))) else (f0  (fun q r => k q r)))
noncomputable def s2_Fit (a : ByteArray) (b c : Int) (d e : ByteArray) (f g : Int) (k : KQ) : Option DV := B_s2_Fit s1_None s2_fit s2_wide s1_Is s2_Valid a b c d e f g k

noncomputable def KK_s2_Fit (f0 : ByteArray → Int → Int → ByteArray → ByteArray → Int → Int → KQ → Option DV) (ds : List DV) (k : DV → Option DV) : Option DV :=
  match ds with
  | [.val (.agg ⟨[.string a, .int .i64 b, .int .i64 c, .string d, .string e]⟩), .val (.agg ⟨[.int .i64 f, .int .i64 g]⟩)] => f0 a b c d e f g (fun h i => k (.val (.agg ⟨[.int .i64 h, .int .i64 i]⟩)))
  | _ => none

theorem r_s2_Fit (f0 : KQ → Option DV) (f1 : ByteArray → Int → Int → ByteArray → ByteArray → Int → Int → KQ → Option DV) (f2 : Int → Int → KQ → Option DV) (f3 : Int → Int → KB → Option DV) (f4 : ByteArray → Int → Int → ByteArray → ByteArray → KB → Option DV) (a : ByteArray) (b c : Int) (d e : ByteArray) (f g : Int) (k : DV → Option DV) : B_s2_Fit f0 f1 f2 f3 f4 a b c d e f g (fun h i => k (.val (.agg ⟨[.int .i64 h, .int .i64 i]⟩))) = pevF Tryz.prog (tab [(15, (KK_s1_Is f3)), (16, (KK_s1_None f0)), (80, (KK_s2_Valid f4)), (81, (KK_s2_fit f1)), (82, (KK_s2_wide f2))]) [] 64 Tryz.f46 (bodyOf Tryz.f46) [.val (.agg ⟨[.string a, .int .i64 b, .int .i64 c, .string d, .string e]⟩), .val (.agg ⟨[.int .i64 f, .int .i64 g]⟩)] k := by kernel_rfl

theorem m_s2_Fit : Meets Tryz.prog Inv 46 (KK_s2_Fit s2_Fit) :=
  meets_of_pev mixed stab (tab_cons m_s1_Is (tab_cons m_s1_None (tab_cons m_s2_Valid (tab_cons m_s2_fit (tab_cons m_s2_wide (tab_nil _ _)))))) Tryz.func46 (by kernel_rfl) (by kernel_rfl) (by
    intro ds; unfold KK_s2_Fit; split
    · exact .inr ⟨[], 64, fun k => r_s2_Fit s1_None s2_fit s2_wide s1_Is s2_Valid _ _ _ _ _ _ _ k⟩
    · exact .inl (fun _ => rfl))

end Go.Proofs.YtiiddikiaafanaaGreatDoor
