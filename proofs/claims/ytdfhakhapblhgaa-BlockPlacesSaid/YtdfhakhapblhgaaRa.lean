/-
  Diagrams, read as plain functions.
-/
import Derived.Test.YtdfhakhapblhgaaR0
set_option linter.all false
namespace Go.Proofs.Ytdfhakhapblhgaa
open Go.Pv Go.RowKit
set_option maxRecDepth 100000
noncomputable def B_bits_Mul32  (a0 a1 : Int) (k : KQ) : Option DV :=
  k (IntKind.wrap .u32 (Int.fdiv (IntKind.wrap .u64 ((IntKind.wrap .u64 (a0)) * (IntKind.wrap .u64 (a1)))) (2 ^ (min (Int.toNat 32) (IntKind.bits .u64))))) (IntKind.wrap .u32 (IntKind.wrap .u64 ((IntKind.wrap .u64 (a0)) * (IntKind.wrap .u64 (a1)))))

noncomputable def KK_bits_Mul32 (f0 : Int → Int → KQ → Option DV) (ds : List DV) (k : DV → Option DV) : Option DV :=
  match ds with
  | [.val (.int .u32 a0), .val (.int .u32 a1)] => f0 a0 a1 (fun r0_0 r1_0 => k (.val (.tuple ⟨[.int .u32 r0_0, .int .u32 r1_0]⟩)))
  | _ => none

noncomputable def bits_Mul32 (a0 a1 : Int) (k : KQ) : Option DV := B_bits_Mul32  a0 a1 k

theorem r_bits_Mul32  (a0 a1 : Int) (k : DV → Option DV) : B_bits_Mul32  a0 a1 (fun r0_0 r1_0 => k (.val (.tuple ⟨[.int .u32 r0_0, .int .u32 r1_0]⟩))) = pevL Try.prog (tab [] []) noL [] 64 Try.f55 (bodyOf Try.f55) [.val (.int .u32 a0), .val (.int .u32 a1)] k := by kernel_rfl

theorem m_bits_Mul32 : Meets Try.prog Inv 55 (KK_bits_Mul32 bits_Mul32) :=
  meets_of_pevL mixed stab (kgood stab (tab_nil _ _) (tabH_nil _ _)) Try.func55 (by kernel_rfl) (by kernel_rfl) (by
    intro ds; unfold KK_bits_Mul32; split
    · exact .inr ⟨noL, [], 64, LGood.none _ _ _, fun k => r_bits_Mul32  _ _ k⟩
    · exact .inl (fun _ => rfl))

noncomputable def B_bits_Mul64  (a0 a1 : Int) (k : KQ) : Option DV :=
  k (IntKind.wrap .u64 ((IntKind.wrap .u64 ((IntKind.wrap .u64 ((Int.fdiv a0 (2 ^ (min (Int.toNat 32) (IntKind.bits .u64)))) * (Int.fdiv a1 (2 ^ (min (Int.toNat 32) (IntKind.bits .u64)))))) + (Int.fdiv (IntKind.wrap .u64 ((IntKind.wrap .u64 ((Int.fdiv a0 (2 ^ (min (Int.toNat 32) (IntKind.bits .u64)))) * (IntKind.wrap .u64 ((BitVec.toNat (BitVec.ofInt (IntKind.bits .u64) a1 &&& BitVec.ofInt (IntKind.bits .u64) 4294967295) : Nat))))) + (Int.fdiv (IntKind.wrap .u64 ((IntKind.wrap .u64 ((BitVec.toNat (BitVec.ofInt (IntKind.bits .u64) a0 &&& BitVec.ofInt (IntKind.bits .u64) 4294967295) : Nat))) * (IntKind.wrap .u64 ((BitVec.toNat (BitVec.ofInt (IntKind.bits .u64) a1 &&& BitVec.ofInt (IntKind.bits .u64) 4294967295) : Nat))))) (2 ^ (min (Int.toNat 32) (IntKind.bits .u64)))))) (2 ^ (min (Int.toNat 32) (IntKind.bits .u64)))))) + (Int.fdiv (IntKind.wrap .u64 ((IntKind.wrap .u64 ((BitVec.toNat (BitVec.ofInt (IntKind.bits .u64) (IntKind.wrap .u64 ((IntKind.wrap .u64 ((Int.fdiv a0 (2 ^ (min (Int.toNat 32) (IntKind.bits .u64)))) * (IntKind.wrap .u64 ((BitVec.toNat (BitVec.ofInt (IntKind.bits .u64) a1 &&& BitVec.ofInt (IntKind.bits .u64) 4294967295) : Nat))))) + (Int.fdiv (IntKind.wrap .u64 ((IntKind.wrap .u64 ((BitVec.toNat (BitVec.ofInt (IntKind.bits .u64) a0 &&& BitVec.ofInt (IntKind.bits .u64) 4294967295) : Nat))) * (IntKind.wrap .u64 ((BitVec.toNat (BitVec.ofInt (IntKind.bits .u64) a1 &&& BitVec.ofInt (IntKind.bits .u64) 4294967295) : Nat))))) (2 ^ (min (Int.toNat 32) (IntKind.bits .u64)))))) &&& BitVec.ofInt (IntKind.bits .u64) 4294967295) : Nat))) + (IntKind.wrap .u64 ((IntKind.wrap .u64 ((BitVec.toNat (BitVec.ofInt (IntKind.bits .u64) a0 &&& BitVec.ofInt (IntKind.bits .u64) 4294967295) : Nat))) * (Int.fdiv a1 (2 ^ (min (Int.toNat 32) (IntKind.bits .u64)))))))) (2 ^ (min (Int.toNat 32) (IntKind.bits .u64)))))) (IntKind.wrap .u64 (a0 * a1))

noncomputable def KK_bits_Mul64 (f0 : Int → Int → KQ → Option DV) (ds : List DV) (k : DV → Option DV) : Option DV :=
  match ds with
  | [.val (.int .u64 a0), .val (.int .u64 a1)] => f0 a0 a1 (fun r0_0 r1_0 => k (.val (.tuple ⟨[.int .u64 r0_0, .int .u64 r1_0]⟩)))
  | _ => none

noncomputable def bits_Mul64 (a0 a1 : Int) (k : KQ) : Option DV := B_bits_Mul64  a0 a1 k

theorem r_bits_Mul64  (a0 a1 : Int) (k : DV → Option DV) : B_bits_Mul64  a0 a1 (fun r0_0 r1_0 => k (.val (.tuple ⟨[.int .u64 r0_0, .int .u64 r1_0]⟩))) = pevL Try.prog (tab [] []) noL [] 64 Try.f56 (bodyOf Try.f56) [.val (.int .u64 a0), .val (.int .u64 a1)] k := by kernel_rfl

theorem m_bits_Mul64 : Meets Try.prog Inv 56 (KK_bits_Mul64 bits_Mul64) :=
  meets_of_pevL mixed stab (kgood stab (tab_nil _ _) (tabH_nil _ _)) Try.func56 (by kernel_rfl) (by kernel_rfl) (by
    intro ds; unfold KK_bits_Mul64; split
    · exact .inr ⟨noL, [], 64, LGood.none _ _ _, fun k => r_bits_Mul64  _ _ k⟩
    · exact .inl (fun _ => rfl))

noncomputable def B_bits_Mul (f0 : Int → Int → KQ → Option DV) (a0 a1 : Int) (k : KQ) : Option DV :=
  f0 a0 a1 (fun r1 r2 => k r1 r2)

noncomputable def KK_bits_Mul (f0 : Int → Int → KQ → Option DV) (ds : List DV) (k : DV → Option DV) : Option DV :=
  match ds with
  | [.val (.int .u64 a0), .val (.int .u64 a1)] => f0 a0 a1 (fun r0_0 r1_0 => k (.val (.tuple ⟨[.int .u64 r0_0, .int .u64 r1_0]⟩)))
  | _ => none

noncomputable def bits_Mul (a0 a1 : Int) (k : KQ) : Option DV := B_bits_Mul bits_Mul64 a0 a1 k

theorem r_bits_Mul (f0 : Int → Int → KQ → Option DV) (a0 a1 : Int) (k : DV → Option DV) : B_bits_Mul f0 a0 a1 (fun r0_0 r1_0 => k (.val (.tuple ⟨[.int .u64 r0_0, .int .u64 r1_0]⟩))) = pevL Try.prog (tab [(56, (KK_bits_Mul64 f0))] []) noL [] 64 Try.f45 (bodyOf Try.f45) [.val (.int .u64 a0), .val (.int .u64 a1)] k := by kernel_rfl

theorem m_bits_Mul : Meets Try.prog Inv 45 (KK_bits_Mul bits_Mul) :=
  meets_of_pevL mixed stab (kgood stab (tab_cons m_bits_Mul64 (tab_nil _ _)) (tabH_nil _ _)) Try.func45 (by kernel_rfl) (by kernel_rfl) (by
    intro ds; unfold KK_bits_Mul; split
    · exact .inr ⟨noL, [], 64, LGood.none _ _ _, fun k => r_bits_Mul bits_Mul64 _ _ k⟩
    · exact .inl (fun _ => rfl))

end Go.Proofs.Ytdfhakhapblhgaa
