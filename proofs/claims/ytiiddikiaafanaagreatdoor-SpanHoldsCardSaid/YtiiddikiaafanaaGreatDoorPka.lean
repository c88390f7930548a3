import Derived.Test.YtiiddikiaafanaaGreatDoorPc
set_option linter.all false
/-
  Spans that hold, read as plain functions.
-/
namespace Go.Proofs.YtiiddikiaafanaaGreatDoor
open _root_.ByteArray (toList)
open Go.Pv Go.RowKit
noncomputable def B_s3_Takes  (a : ByteArray) (k0 k1 k2 k3 : Option DV) : Option DV :=
  bif (toList a == toList (⟨#[110, 101, 103]⟩)) then (bif (toList a == toList (⟨#[110, 101, 103]⟩)) then k1 else (bif (toList a == toList (⟨#[97, 100, 100]⟩)) then (bif (toList a == toList (⟨#[97, 100, 100]⟩)) then k2 else (bif (toList a == toList (⟨#[112, 105, 99, 107]⟩)) then k3 else k0)) else (bif (toList a == toList (⟨#[115, 117, 98]⟩)) then (bif (toList a == toList (⟨#[115, 117, 98]⟩)) then k2 else (bif (toList a == toList (⟨#[112, 105, 99, 107]⟩)) then k3 else k0)) else (bif (toList a == toList (⟨#[109, 117, 108]⟩)) then (bif (toList a == toList (⟨#[109, 117, 108]⟩)) then k2 else (bif (toList a == toList (⟨#[112, 105, 99, 107]⟩)) then k3 else k0)) else (bif (toList a == toList (⟨#[100, 105, 118]⟩)) then (bif (toList a == toList (⟨#[100, 105, 118]⟩)) then k2 else (bif (toList a == toList (⟨#[112, 105, 99, 107]⟩)) then k3 else k0)) else (bif (toList a == toList (⟨#[109, 111, 100]⟩)) then (bif (toList a == toList (⟨#[109, 111, 100]⟩)) then k2 else (bif (toList a == toList (⟨#[112, 105, 99, 107]⟩)) then k3 else k0)) else (bif (toList a == toList (⟨#[109, 105, 110]⟩)) then (bif (toList a == toList (⟨#[109, 105, 110]⟩)) then k2 else (bif (toList a == toList (⟨#[112, 105, 99, 107]⟩)) then k3 else k0)) else (bif (toList a == toList (⟨#[109, 97, 120]⟩)) then (bif (toList a == toList (⟨#[109, 97, 120]⟩)) then k2 else (bif (toList a == toList (⟨#[112, 105, 99, 107]⟩)) then k3 else k0)) else (bif (toList a == toList (⟨#[108, 116]⟩)) then (bif (toList a == toList (⟨#[108, 116]⟩)) then k2 else (bif (toList a == toList (⟨#[112, 105, 99, 107]⟩)) then k3 else k0)) else (bif (toList a == toList (⟨#[108, 101]⟩)) then (bif (toList a == toList (⟨#[108, 101]⟩)) then k2 else (bif (toList a == toList (⟨#[112, 105, 99, 107]⟩)) then k3 else k0)) else (bif (toList a == toList (⟨#[101, 113]⟩)) then (bif (toList a == toList (⟨#[101, 113]⟩)) then k2 else (bif (toList a == toList (⟨#[112, 105, 99, 107]⟩)) then k3 else k0)) else (bif (toList a == toList (⟨#[110, 101]⟩)) then (bif (toList a == toList (⟨#[110, 101]⟩)) then k2 else (bif (toList a == toList (⟨#[112, 105, 99, 107]⟩)) then k3 else k0)) else (bif (toList a == toList (⟨#[97, 110, 100]⟩)) then (bif (toList a == toList (⟨#[97, 110, 100]⟩)) then k2 else (bif (toList a == toList (⟨#[112, 105, 99, 107]⟩)) then k3 else k0)) else (bif (toList a == toList (⟨#[111, 114]⟩)) then (bif (toList a == toList (⟨#[111, 114]⟩)) then k2 else (bif (toList a == toList (⟨#[112, 105, 99, 107]⟩)) then k3 else k0)) else (bif (toList a == toList (⟨#[120, 111, 114]⟩)) then (bif (toList a == toList (⟨#[120, 111, 114]⟩)) then k2 else (bif (toList a == toList (⟨#[112, 105, 99, 107]⟩)) then k3 else k0)) else (bif (toList a == toList (⟨#[115, 104, 108]⟩)) then (bif (toList a == toList (⟨#[115, 104, 108]⟩)) then k2 else (bif (toList a == toList (⟨#[112, 105, 99, 107]⟩)) then k3 else k0)) else (bif (toList a == toList (⟨#[115, 104, 114]⟩)) then k2 else (bif (toList a == toList (⟨#[112, 105, 99, 107]⟩)) then k3 else k0)))))))))))))))))) else (bif (toList a == toList (⟨#[97, 98, 115]⟩)) then (bif (toList a == toList (⟨#[97, 98, 115]⟩)) then k1 else (bif (toList a == toList (⟨#[97, 100, 100]⟩)) then (bif (toList a == toList (⟨#[97, 100, 100]⟩)) then k2 else (bif (toList a == toList (⟨#[112, 105, 99, 107]⟩)) then k3 else k0)) else (bif (toList a == toList (⟨#[115, 117, 98]⟩)) then (bif (toList a == toList (⟨#[115, 117, 98]⟩)) then k2 else (bif (toList a == toList (⟨#[112, 105, 99, 107]⟩)) then k3 else k0)) else (bif (toList a == toList (⟨#[109, 117, 108]⟩)) then (bif (toList a == toList (⟨#[109, 117, 108]⟩)) then k2 else (bif (toList a == toList (⟨#[112, 105, 99, 107]⟩)) then k3 else k0)) else (bif (toList a == toList (⟨#[100, 105, 118]⟩)) then (bif (toList a == toList (⟨#[100, 105, 118]⟩)) then k2 else (bif (toList a == toList (⟨#[112, 105, 99, 107]⟩)) then k3 else k0)) else (bif (toList a == toList (⟨#[109, 111, 100]⟩)) then (bif (toList a == toList (⟨#[109, 111, 100]⟩)) then k2 else (bif (toList a == toList (⟨#[112, 105, 99, 107]⟩)) then k3 else k0)) else (bif (toList a == toList (⟨#[109, 105, 110]⟩)) then (bif (toList a == toList (⟨#[109, 105, 110]⟩)) then k2 else (bif (toList a == toList (⟨#[112, 105, 99, 107]⟩)) then k3 else k0)) else (bif (toList a == toList (⟨#[109, 97, 120]⟩)) then (bif (toList a == toList (⟨#[109, 97, 120]⟩)) then k2 else (bif (toList a == toList (⟨#[112, 105, 99, 107]⟩)) then k3 else k0)) else (bif (toList a == toList (⟨#[108, 116]⟩)) then (bif (toList a == toList (⟨#[108, 116]⟩)) then k2 else (bif (toList a == toList (⟨#[112, 105, 99, 107]⟩)) then k3 else k0)) else (bif (toList a == toList (⟨#[108, 101]⟩)) then (bif (toList a == toList (⟨#[108, 101]⟩)) then k2 else (bif (toList a == toList (⟨#[112, 105, 99, 107]⟩)) then k3 else k0)) else (bif (toList a == toList (⟨#[101, 113]⟩)) then (bif (toList a == toList (⟨#[101, 113]⟩)) then k2 else (bif (toList a == toList (⟨#[112, 105, 99, 107]⟩)) then k3 else k0)) else (bif (toList a == toList (⟨#[110, 101]⟩)) then (bif (toList a == toList (⟨#[110, 101]⟩)) then k2 else (bif (toList a == toList (⟨#[112, 105, 99, 107]⟩)) then k3 else k0)) else (bif (toList a == toList (⟨#[97, 110, 100]⟩)) then (bif (toList a == toList (⟨#[97, 110, 100]⟩)) then k2 else (bif (toList a == toList (⟨#[112, 105, 99, 107]⟩)) then k3 else k0)) else (bif (toList a == toList (⟨#[111, 114]⟩)) then (bif (toList a == toList (⟨#[111, 114]⟩)) then k2 else (bif (toList a == toList (⟨#[112, 105, 99, 107]⟩)) then k3 else k0)) else (bif (toList a == toList (⟨#[120, 111, 114]⟩)) then (bif (toList a == toList (⟨#[120, 111, 114]⟩)) then k2 else (bif (toList a == toList (⟨#[112, 105, 99, 107]⟩)) then k3 else k0)) else (bif (toList a == toList (⟨#[115, 104, 108]⟩)) then (bif (toList a == toList (⟨#[115, 104, 108]⟩)) then k2 else (bif (toList a == toList (⟨#[112, 105, 99, 107]⟩)) then k3 else k0)) else (bif (toList a == toList (⟨#[115, 104, 114]⟩)) then k2 else (bif (toList a == toList (⟨#[112, 105, 99, 107]⟩)) then k3 else k0)))))))))))))))))) else (bif (toList a == toList (⟨#[102, 108, 111, 111, 114]⟩)) then (bif (toList a == toList (⟨#[102, 108, 111, 111, 114]⟩)) then k1 else (bif (toList a == toList (⟨#[97, 100, 100]⟩)) then (bif (toList a == toList (⟨#[97, 100, 100]⟩)) then k2 else (bif (toList a == toList (⟨#[112, 105, 99, 107]⟩)) then k3 else k0)) else (bif (toList a == toList (⟨#[115, 117, 98]⟩)) then (bif (toList a == toList (⟨#[115, 117, 98]⟩)) then k2 else (bif (toList a == toList (⟨#[112, 105, 99, 107]⟩)) then k3 else k0)) else (bif (toList a == toList (⟨#[109, 117, 108]⟩)) then (bif (toList a == toList (⟨#[109, 117, 108]⟩)) then k2 else (bif (toList a == toList (⟨#[112, 105, 99, 107]⟩)) then k3 else k0)) else (bif (toList a == toList (⟨#[100, 105, 118]⟩)) then (bif (toList a == toList (⟨#[100, 105, 118]⟩)) then k2 else (bif (toList a == toList (⟨#[112, 105, 99, 107]⟩)) then k3 else k0)) else (bif (toList a == toList (⟨#[109, 111, 100]⟩)) then (bif (toList a == toList (⟨#[109, 111, 100]⟩)) then k2 else (bif (toList a == toList (⟨#[112, 105, 99, 107]⟩)) then k3 else k0)) else (bif (toList a == toList (⟨#[109, 105, 110]⟩)) then (bif (toList a == toList (⟨#[109, 105, 110]⟩)) then k2 else (bif (toList a == toList (⟨#[112, 105, 99, 107]⟩)) then k3 else k0)) else (bif (toList a == toList (⟨#[109, 97, 120]⟩)) then (bif (toList a == toList (⟨#[109, 97, 120]⟩)) then k2 else (bif (toList a == toList (⟨#[112, 105, 99, 107]⟩)) then k3 else k0)) else (bif (toList a == toList (⟨#[108, 116]⟩)) then (bif (toList a == toList (⟨#[108, 116]⟩)) then k2 else (bif (toList a == toList (⟨#[112, 105, 99, 107]⟩)) then k3 else k0)) else (bif (toList a == toList (⟨#[108, 101]⟩)) then (bif (toList a == toList (⟨#[108, 101]⟩)) then k2 else (bif (toList a == toList (⟨#[112, 105, 99, 107]⟩)) then k3 else k0)) else (bif (toList a == toList (⟨#[101, 113]⟩)) then (bif (toList a == toList (⟨#[101, 113]⟩)) then k2 else (bif (toList a == toList (⟨#[112, 105, 99, 107]⟩)) then k3 else k0)) else (bif (toList a == toList (⟨#[110, 101]⟩)) then (bif (toList a == toList (⟨#[110, 101]⟩)) then k2 else (bif (toList a == toList (⟨#[112, 105, 99, 107]⟩)) then k3 else k0)) else (bif (toList a == toList (⟨#[97, 110, 100]⟩)) then (bif (toList a == toList (⟨#[97, 110, 100]⟩)) then k2 else (bif (toList a == toList (⟨#[112, 105, 99, 107]⟩)) then k3 else k0)) else (bif (toList a == toList (⟨#[111, 114]⟩)) then (bif (toList a == toList (⟨#[111, 114]⟩)) then k2 else (bif (toList a == toList (⟨#[112, 105, 99, 107]⟩)) then k3 else k0)) else (bif (toList a == toList (⟨#[120, 111, 114]⟩)) then (bif (toList a == toList (⟨#[120, 111, 114]⟩)) then k2 else (bif (toList a == toList (⟨#[112, 105, 99, 107]⟩)) then k3 else k0)) else (bif (toList a == toList (⟨#[115, 104, 108]⟩)) then (bif (toList a == toList (⟨#[115, 104, 108]⟩)) then k2 else (bif (toList a == toList (⟨#[112, 105, 99, 107]⟩)) then k3 else k0)) else (bif (toList a == toList (⟨#[115, 104, 114]⟩)) then k2 else (bif (toList a == toList (⟨#[112, 105, 99, 107]⟩)) then k3 else k0)))))))))))))))))) else (bif (toList a == toList (⟨#[114, 111, 117, 110, 100]⟩)) then (bif (toList a == toList (⟨#[114, 111, 117, 110, 100]⟩)) then k1 else (bif (toList a == toList (⟨#[97, 100, 100]⟩)) then (bif (toList a == toList (⟨#[97, 100, 100]⟩)) then k2 else (bif (toList a == toList (⟨#[112, 105, 99, 107]⟩)) then k3 else k0)) else (bif (toList a == toList (⟨#[115, 117, 98]⟩)) then (bif (toList a == toList (⟨#[115, 117, 98]⟩)) then k2 else (bif (toList a == toList (⟨#[112, 105, 99, 107]⟩)) then k3 else k0)) else (bif (toList a == toList (⟨#[109, 117, 108]⟩)) then (bif (toList a == toList (⟨#[109, 117, 108]⟩)) then k2 else (bif (toList a == toList (⟨#[112, 105, 99, 107]⟩)) then k3 else k0)) else (bif (toList a == toList (⟨#[100, 105, 118]⟩)) then (bif (toList a == toList (⟨#[100, 105, 118]⟩)) then k2 else (bif (toList a == toList (⟨#[112, 105, 99, 107]⟩)) then k3 else k0)) else (bif (toList a == toList (⟨#[109, 111, 100]⟩)) then (bif (toList a == toList (⟨#[109, 111, 100]⟩)) then k2 else (bif (toList a == toList (⟨#[112, 105, 99, 107]⟩)) then k3 else k0)) else (bif (toList a == toList (⟨#[109, 105, 110]⟩)) then (bif (toList a == toList (⟨#[109, 105, 110]⟩)) then k2 else (bif (toList a == toList (⟨#[112, 105, 99, 107]⟩)) then k3 else k0)) else (bif (toList a == toList (⟨#[109, 97, 120]⟩)) then (bif (toList a == toList (⟨#[109, 97, 120]⟩)) then k2 else (bif (toList a == toList (⟨#[112, 105, 99, 107]⟩)) then k3 else k0)) else (bif (toList a == toList (⟨#[108, 116]⟩)) then (bif (toList a == toList (⟨#[108, 116]⟩)) then k2 else (bif (toList a == toList (⟨#[112, 105, 99, 107]⟩)) then k3 else k0)) else (bif (toList a == toList (⟨#[108, 101]⟩)) then (bif (toList a == toList (⟨#[108, 101]⟩)) then k2 else (bif (toList a == toList (⟨#[112, 105, 99, 107]⟩)) then k3 else k0)) else (bif (toList a == toList (⟨#[101, 113]⟩)) then (bif (toList a == toList (⟨#[101, 113]⟩)) then k2 else (bif (toList a == toList (⟨#[112, 105, 99, 107]⟩)) then k3 else k0)) else (bif (toList a == toList (⟨#[110, 101]⟩)) then (bif (toList a == toList (⟨#[110, 101]⟩)) then k2 else (bif (toList a == toList (⟨#[112, 105, 99, 107]⟩)) then k3 else k0)) else (bif (toList a == toList (⟨#[97, 110, 100]⟩)) then (bif (toList a == toList (⟨#[97, 110, 100]⟩)) then k2 else (bif (toList a == toList (⟨#[112, 105, 99, 107]⟩)) then k3 else k0)) else (bif (toList a == toList (⟨#[111, 114]⟩)) then (bif (toList a == toList (⟨#[111, 114]⟩)) then k2 else (bif (toList a == toList (⟨#[112, 105, 99, 107]⟩)) then k3 else k0)) else (bif (toList a == toList (⟨#[120, 111, 114]⟩)) then (bif (toList a == toList (⟨#[120, 111, 114]⟩)) then k2 else (bif (toList a == toList (⟨#[112, 105, 99, 107]⟩)) then k3 else k0)) else (bif (toList a == toList (⟨#[115, 104, 108]⟩)) then (bif (toList a == toList (⟨#[115, 104, 108]⟩)) then k2 else (bif (toList a == toList (⟨#[112, 105, 99, 107]⟩)) then k3 else k0)) else (bif (toList a == toList (⟨#[115, 104, 114]⟩)) then k2 else (bif (toList a == toList (⟨#[112, 105, 99, 107]⟩)) then k3 else k0)))))))))))))))))) else (bif (toList a == toList (⟨#[102, 114, 97, 99]⟩)) then (bif (toList a == toList (⟨#[102, 114, 97, 99]⟩)) then k1 else (bif (toList a == toList (⟨#[97, 100, 100]⟩)) then (bif (toList a == toList (⟨#[97, 100, 100]⟩)) then k2 else (bif (toList a == toList (⟨#[112, 105, 99, 107]⟩)) then k3 else k0)) else (bif (toList a == toList (⟨#[115, 117, 98]⟩)) then (bif (toList a == toList (⟨#[115, 117, 98]⟩)) then k2 else (bif (toList a == toList (⟨#[112, 105, 99, 107]⟩)) then k3 else k0)) else (bif (toList a == toList (⟨#[109, 117, 108]⟩)) then (bif (toList a == toList (⟨#[109, 117, 108]⟩)) then k2 else (bif (toList a == toList (⟨#[112, 105, 99, 107]⟩)) then k3 else k0)) else (bif (toList a == toList (⟨#[100, 105, 118]⟩)) then (bif (toList a == toList (⟨#[100, 105, 118]⟩)) then k2 else (bif (toList a == toList (⟨#[112, 105, 99, 107]⟩)) then k3 else k0)) else (bif (toList a == toList (⟨#[109, 111, 100]⟩)) then (bif (toList a == toList (⟨#[109, 111, 100]⟩)) then k2 else (bif (toList a == toList (⟨#[112, 105, 99, 107]⟩)) then k3 else k0)) else (bif (toList a == toList (⟨#[109, 105, 110]⟩)) then (bif (toList a == toList (⟨#[109, 105, 110]⟩)) then k2 else (bif (toList a == toList (⟨#[112, 105, 99, 107]⟩)) then k3 else k0)) else (bif (toList a == toList (⟨#[109, 97, 120]⟩)) then (bif (toList a == toList (⟨#[109, 97, 120]⟩)) then k2 else (bif (toList a == toList (⟨#[112, 105, 99, 107]⟩)) then k3 else k0)) else (bif (toList a == toList (⟨#[108, 116]⟩)) then (bif (toList a == toList (⟨#[108, 116]⟩)) then k2 else (bif (toList a == toList (⟨#[112, 105, 99, 107]⟩)) then k3 else k0)) else (bif (toList a == toList (⟨#[108, 101]⟩)) then (bif (toList a == toList (⟨#[108, 101]⟩)) then k2 else (bif (toList a == toList (⟨#[112, 105, 99, 107]⟩)) then k3 else k0)) else (bif (toList a == toList (⟨#[101, 113]⟩)) then (bif (toList a == toList (⟨#[101, 113]⟩)) then k2 else (bif (toList a == toList (⟨#[112, 105, 99, 107]⟩)) then k3 else k0)) else (bif (toList a == toList (⟨#[110, 101]⟩)) then (bif (toList a == toList (⟨#[110, 101]⟩)) then k2 else (bif (toList a == toList (⟨#[112, 105, 99, 107]⟩)) then k3 else k0)) else (bif (toList a == toList (⟨#[97, 110, 100]⟩)) then (bif (toList a == toList (⟨#[97, 110, 100]⟩)) then k2 else (bif (toList a == toList (⟨#[112, 105, 99, 107]⟩)) then k3 else k0)) else (bif (toList a == toList (⟨#[111, 114]⟩)) then (bif (toList a == toList (⟨#[111, 114]⟩)) then k2 else (bif (toList a == toList (⟨#[112, 105, 99, 107]⟩)) then k3 else k0)) else (bif (toList a == toList (⟨#[120, 111, 114]⟩)) then (bif (toList a == toList (⟨#[120, 111, 114]⟩)) then k2 else (bif (toList a == toList (⟨#[112, 105, 99, 107]⟩)) then k3 else k0)) else (bif (toList a == toList (⟨#[115, 104, 108]⟩)) then (bif (toList a == toList (⟨#[115, 104, 108]⟩)) then k2 else (bif (toList a == toList (⟨#[112, 105, 99, 107]⟩)) then k3 else k0)) else (bif (toList a == toList (⟨#[115, 104, 114]⟩)) then k2 else (bif (toList a == toList (⟨#[112, 105, 99, 107]⟩)) then k3 else k0)))))))))))))))))) else (bif (toList a == toList (⟨#[110, 111, 116]⟩)) then k1 else (bif (toList a == toList (⟨#[97, 100, 100]⟩)) then (bif (toList a == toList (⟨#[97, 100, 100]⟩)) then k2 else (bif (toList a == toList (⟨#[112, 105, 99, 107]⟩)) then k3 else k0)) else (bif (toList a == toList (⟨#[115, 117, 98]⟩)) then (bif (toList a == toList (⟨#[115, 117, 98]⟩)) then k2 else (bif (toList a == toList (⟨#[112, 105, 99, 107]⟩)) then k3 else k0)) else (bif (toList a == toList (⟨#[109, 117, 108]⟩)) then (bif (toList a == toList (⟨#[109, 117, 108]⟩)) then k2 else (bif (toList a == toList (⟨#[112, 105, 99, 107]⟩)) then k3 else k0)) else (bif (toList a == toList (⟨#[100, 105, 118]⟩)) then (bif (toList a == toList (⟨#[100, 105, 118]⟩)) then k2 else (bif (toList a == toList (⟨#[112, 105, 99, 107]⟩)) then k3 else k0)) else (bif (toList a == toList (⟨#[109, 111, 100]⟩)) then (bif (toList a == toList (⟨#[109, 111, 100]⟩)) then k2 else (bif (toList a == toList (⟨#[112, 105, 99, 107]⟩)) then k3 else k0)) else (bif (toList a == toList (⟨#[109, 105, 110]⟩)) then (bif (toList a == toList (⟨#[109, 105, 110]⟩)) then k2 else (bif (toList a == toList (⟨#[112, 105, 99, 107]⟩)) then k3 else k0)) else (bif (toList a == toList (⟨#[109, 97, 120]⟩)) then (bif (toList a == toList (⟨#[109, 97, 120]⟩)) then k2 else (bif (toList a == toList (⟨#[112, 105, 99, 107]⟩)) then k3 else k0)) else (bif (toList a == toList (⟨#[108, 116]⟩)) then (bif (toList a == toList (⟨#[108, 116]⟩)) then k2 else (bif (toList a == toList (⟨#[112, 105, 99, 107]⟩)) then k3 else k0)) else (bif (toList a == toList (⟨#[108, 101]⟩)) then (bif (toList a == toList (⟨#[108, 101]⟩)) then k2 else (bif (toList a == toList (⟨#[112, 105, 99, 107]⟩)) then k3 else k0)) else (bif (toList a == toList (⟨#[101, 113]⟩)) then (bif (toList a == toList (⟨#[101, 113]⟩)) then k2 else (bif (toList a == toList (⟨#[112, 105, 99, 107]⟩)) then k3 else k0)) else (bif (toList a == toList (⟨#[110, 101]⟩)) then (bif (toList a == toList (⟨#[110, 101]⟩)) then k2 else (bif (toList a == toList (⟨#[112, 105, 99, 107]⟩)) then k3 else k0)) else (bif (toList a == toList (⟨#[97, 110, 100]⟩)) then (bif (toList a == toList (⟨#[97, 110, 100]⟩)) then k2 else (bif (toList a == toList (⟨#[112, 105, 99, 107]⟩)) then k3 else k0)) else (bif (toList a == toList (⟨#[111, 114]⟩)) then (bif (toList a == toList (⟨#[111, 114]⟩)) then k2 else (bif (toList a == toList (⟨#[112, 105, 99, 107]⟩)) then k3 else k0)) else (bif (toList a == toList (⟨#[120, 111, 114]⟩)) then (bif (toList a == toList (⟨#[120, 111, 114]⟩)) then k2 else (bif (toList a == toList (⟨#[112, 105, 99, 107]⟩)) then k3 else k0)) else (bif (toList a == toList (⟨#[115, 104, 108]⟩)) then (bif (toList a == toList (⟨#[115, 104, 108]⟩)) then k2 else (bif (toList a == toList (⟨#[112, 105, 99, 107]⟩)) then k3 else k0)) else (bif (toList a == toList (⟨#[115, 104, 114]⟩)) then k2 else (bif (toList a == toList (⟨#[112, 105, 99, 107]⟩)) then k3 else k0))))))))))))))))))))))
noncomputable def s3_Takes (a : ByteArray) (k0 k1 k2 k3 : Option DV) : Option DV := B_s3_Takes  a k0 k1 k2 k3

noncomputable def KK_s3_Takes (f0 : ByteArray → Option DV → Option DV → Option DV → Option DV → Option DV) (ds : List DV) (k : DV → Option DV) : Option DV :=
  match ds with
  | [.val (.string a)] => f0 a (k (.val (.int .i64 0))) (k (.val (.int .i64 1))) (k (.val (.int .i64 2))) (k (.val (.int .i64 3)))

  | _ => none

theorem r_s3_Takes  (a : ByteArray) (k : DV → Option DV) : B_s3_Takes  a (k (.val (.int .i64 0))) (k (.val (.int .i64 1))) (k (.val (.int .i64 2))) (k (.val (.int .i64 3))) = pevF Tryz.prog (tab []) [] 64 Tryz.f4 (bodyOf Tryz.f4) [.val (.string a)] k := by kernel_rfl

theorem m_s3_Takes : Meets Tryz.prog Inv 4 (KK_s3_Takes s3_Takes) :=
  meets_of_pev mixed stab (tab_nil _ _) Tryz.func4 (by kernel_rfl) (by kernel_rfl) (by
    intro ds; unfold KK_s3_Takes; split
    · exact .inr ⟨[], 64, fun k => r_s3_Takes  _ k⟩
    · exact .inl (fun _ => rfl))

noncomputable def B_span_nothing  (a : Bool) (k : KS) : Option DV :=
  k 0 0 0 0 0 a true
noncomputable def span_nothing (a : Bool) (k : KS) : Option DV := B_span_nothing  a k

noncomputable def KK_span_nothing (f0 : Bool → KS → Option DV) (ds : List DV) (k : DV → Option DV) : Option DV :=
  match ds with
  | [.val (.bool a)] => f0 a (fun b c d e f g h => k (.val (.agg ⟨[.int .i64 b, .int .i64 c, .int .i64 d, .int .i64 e, .int .i64 f, .bool g, .bool h]⟩)))
  | _ => none

theorem r_span_nothing  (a : Bool) (k : DV → Option DV) : B_span_nothing  a (fun b c d e f g h => k (.val (.agg ⟨[.int .i64 b, .int .i64 c, .int .i64 d, .int .i64 e, .int .i64 f, .bool g, .bool h]⟩))) = pevF Tryz.prog (tab []) [] 64 Tryz.f20 (bodyOf Tryz.f20) [.val (.bool a)] k := by kernel_rfl

theorem m_span_nothing : Meets Tryz.prog Inv 20 (KK_span_nothing span_nothing) :=
  meets_of_pev mixed stab (tab_nil _ _) Tryz.func20 (by kernel_rfl) (by kernel_rfl) (by
    intro ds; unfold KK_span_nothing; split
    · exact .inr ⟨[], 64, fun k => r_span_nothing  _ k⟩
    · exact .inl (fun _ => rfl))

noncomputable def B_span_isOutOfOrder (f0 : Int → Int → Int → Int → KI → Option DV) (f1 : Int → Int → KB → Option DV) (c d a b : Int) (k : KB) : Option DV :=
  f1 a b (fun e => bif e then (f0 c d a b (fun f => k (decide (f > 0)))) else (k false))
noncomputable def span_isOutOfOrder (a b c d : Int) (k : KB) : Option DV := B_span_isOutOfOrder ratio_Cmp ratio_Is a b c d k

noncomputable def KK_span_isOutOfOrder (f0 : Int → Int → Int → Int → KB → Option DV) (ds : List DV) (k : DV → Option DV) : Option DV :=
  match ds with
  | [.val (.agg ⟨[.int .i64 a, .int .i64 b]⟩), .val (.agg ⟨[.int .i64 c, .int .i64 d]⟩)] => f0 a b c d (fun e => k (.val (.bool e)))
  | _ => none

theorem r_span_isOutOfOrder (f0 : Int → Int → Int → Int → KI → Option DV) (f1 : Int → Int → KB → Option DV) (a b c d : Int) (k : DV → Option DV) : B_span_isOutOfOrder f0 f1 a b c d (fun e => k (.val (.bool e))) = pevF Tryz.prog (tab [(31, (KK_ratio_Is f1)), (68, (KK_ratio_Cmp f0))]) [] 64 Tryz.f49 (bodyOf Tryz.f49) [.val (.agg ⟨[.int .i64 a, .int .i64 b]⟩), .val (.agg ⟨[.int .i64 c, .int .i64 d]⟩)] k := by kernel_rfl

theorem m_span_isOutOfOrder : Meets Tryz.prog Inv 49 (KK_span_isOutOfOrder span_isOutOfOrder) :=
  meets_of_pev mixed stab (tab_cons m_ratio_Is (tab_cons m_ratio_Cmp (tab_nil _ _))) Tryz.func49 (by kernel_rfl) (by kernel_rfl) (by
    intro ds; unfold KK_span_isOutOfOrder; split
    · exact .inr ⟨[], 64, fun k => r_span_isOutOfOrder ratio_Cmp ratio_Is _ _ _ _ k⟩
    · exact .inl (fun _ => rfl))

noncomputable def B_span_isDen  (a : Int) (k : KB) : Option DV :=
  bif decide (a ≥ 0) then (k (decide (a ≤ 1073741824))) else (k false)
noncomputable def span_isDen (a : Int) (k : KB) : Option DV := B_span_isDen  a k

noncomputable def KK_span_isDen (f0 : Int → KB → Option DV) (ds : List DV) (k : DV → Option DV) : Option DV :=
  match ds with
  | [.val (.int .i64 a)] => f0 a (fun b => k (.val (.bool b)))
  | _ => none

theorem r_span_isDen  (a : Int) (k : DV → Option DV) : B_span_isDen  a (fun b => k (.val (.bool b))) = pevF Tryz.prog (tab []) [] 64 Tryz.f50 (bodyOf Tryz.f50) [.val (.int .i64 a)] k := by kernel_rfl

theorem m_span_isDen : Meets Tryz.prog Inv 50 (KK_span_isDen span_isDen) :=
  meets_of_pev mixed stab (tab_nil _ _) Tryz.func50 (by kernel_rfl) (by kernel_rfl) (by
    intro ds; unfold KK_span_isDen; split
    · exact .inr ⟨[], 64, fun k => r_span_isDen  _ k⟩
    · exact .inl (fun _ => rfl))

noncomputable def B_span_Valid (f0 : Bool → KS → Option DV) (f1 : Int → KB → Option DV) (f2 : Int → Int → Int → Int → KB → Option DV) (f3 : Int → Int → KB → Option DV) (a b c d e : Int) (f g : Bool) (k : KB) : Option DV :=
  bif g then (f0 f (fun h i j l m n o => k (((a == h) && ((b == i) && true)) && (((c == j) && ((d == l) && true)) && ((e == m) && ((f == n) && ((g == o) && true))))))) else (f3 a b (fun p => bif !(!p) then (f3 c d (fun q => bif !(!q) then (f2 a b c d (fun r => bif r then (k false) else (f1 e (fun s => k s)))) else (k false))) else (k false)))
noncomputable def span_Valid (a b c d e : Int) (f g : Bool) (k : KB) : Option DV := B_span_Valid span_nothing span_isDen span_isOutOfOrder ratio_Valid a b c d e f g k

noncomputable def KK_span_Valid (f0 : Int → Int → Int → Int → Int → Bool → Bool → KB → Option DV) (ds : List DV) (k : DV → Option DV) : Option DV :=
  match ds with
  | [.val (.agg ⟨[.int .i64 a, .int .i64 b, .int .i64 c, .int .i64 d, .int .i64 e, .bool f, .bool g]⟩)] => f0 a b c d e f g (fun h => k (.val (.bool h)))
  | _ => none

theorem r_span_Valid (f0 : Bool → KS → Option DV) (f1 : Int → KB → Option DV) (f2 : Int → Int → Int → Int → KB → Option DV) (f3 : Int → Int → KB → Option DV) (a b c d e : Int) (f g : Bool) (k : DV → Option DV) : B_span_Valid f0 f1 f2 f3 a b c d e f g (fun h => k (.val (.bool h))) = pevF Tryz.prog (tab [(20, (KK_span_nothing f0)), (49, (KK_span_isOutOfOrder f2)), (50, (KK_span_isDen f1)), (87, (KK_ratio_Valid f3))]) [] 64 Tryz.f61 (bodyOf Tryz.f61) [.val (.agg ⟨[.int .i64 a, .int .i64 b, .int .i64 c, .int .i64 d, .int .i64 e, .bool f, .bool g]⟩)] k := by kernel_rfl

theorem m_span_Valid : Meets Tryz.prog Inv 61 (KK_span_Valid span_Valid) :=
  meets_of_pev mixed stab (tab_cons m_span_nothing (tab_cons m_span_isOutOfOrder (tab_cons m_span_isDen (tab_cons m_ratio_Valid (tab_nil _ _))))) Tryz.func61 (by kernel_rfl) (by kernel_rfl) (by
    intro ds; unfold KK_span_Valid; split
    · exact .inr ⟨[], 64, fun k => r_span_Valid span_nothing span_isDen span_isOutOfOrder ratio_Valid _ _ _ _ _ _ _ k⟩
    · exact .inl (fun _ => rfl))

noncomputable def B_span_All   (k : KS) : Option DV :=
  k 0 0 0 0 0 true false
noncomputable def span_All  (k : KS) : Option DV := B_span_All   k

noncomputable def KK_span_All (f0 : KS → Option DV) (ds : List DV) (k : DV → Option DV) : Option DV :=
  match ds with
  | [] => f0  (fun a b c d e f g => k (.val (.agg ⟨[.int .i64 a, .int .i64 b, .int .i64 c, .int .i64 d, .int .i64 e, .bool f, .bool g]⟩)))
  | _ => none

theorem r_span_All   (k : DV → Option DV) : B_span_All   (fun a b c d e f g => k (.val (.agg ⟨[.int .i64 a, .int .i64 b, .int .i64 c, .int .i64 d, .int .i64 e, .bool f, .bool g]⟩))) = pevF Tryz.prog (tab []) [] 64 Tryz.f62 (bodyOf Tryz.f62) [] k := by kernel_rfl

theorem m_span_All : Meets Tryz.prog Inv 62 (KK_span_All span_All) :=
  meets_of_pev mixed stab (tab_nil _ _) Tryz.func62 (by kernel_rfl) (by kernel_rfl) (by
    intro ds; unfold KK_span_All; split
    · exact .inr ⟨[], 64, fun k => r_span_All   k⟩
    · exact .inl (fun _ => rfl))

noncomputable def B_span_known (f0 : KS → Option DV) (f1 : Int → Int → Int → Int → Int → Bool → Bool → KB → Option DV) (a b c d e : Int) (f g : Bool) (k : KS) : Option DV :=
  f1 a b c d e f g (fun h => bif !h then (f0  (fun i j l m n o p => k i j l m n o p)) else (k a b c d e f g))
noncomputable def span_known (a b c d e : Int) (f g : Bool) (k : KS) : Option DV := B_span_known span_All span_Valid a b c d e f g k

noncomputable def KK_span_known (f0 : Int → Int → Int → Int → Int → Bool → Bool → KS → Option DV) (ds : List DV) (k : DV → Option DV) : Option DV :=
  match ds with
  | [.val (.agg ⟨[.int .i64 a, .int .i64 b, .int .i64 c, .int .i64 d, .int .i64 e, .bool f, .bool g]⟩)] => f0 a b c d e f g (fun h i j l m n o => k (.val (.agg ⟨[.int .i64 h, .int .i64 i, .int .i64 j, .int .i64 l, .int .i64 m, .bool n, .bool o]⟩)))
  | _ => none

theorem r_span_known (f0 : KS → Option DV) (f1 : Int → Int → Int → Int → Int → Bool → Bool → KB → Option DV) (a b c d e : Int) (f g : Bool) (k : DV → Option DV) : B_span_known f0 f1 a b c d e f g (fun h i j l m n o => k (.val (.agg ⟨[.int .i64 h, .int .i64 i, .int .i64 j, .int .i64 l, .int .i64 m, .bool n, .bool o]⟩))) = pevF Tryz.prog (tab [(61, (KK_span_Valid f1)), (62, (KK_span_All f0))]) [] 64 Tryz.f21 (bodyOf Tryz.f21) [.val (.agg ⟨[.int .i64 a, .int .i64 b, .int .i64 c, .int .i64 d, .int .i64 e, .bool f, .bool g]⟩)] k := by kernel_rfl

theorem m_span_known : Meets Tryz.prog Inv 21 (KK_span_known span_known) :=
  meets_of_pev mixed stab (tab_cons m_span_Valid (tab_cons m_span_All (tab_nil _ _))) Tryz.func21 (by kernel_rfl) (by kernel_rfl) (by
    intro ds; unfold KK_span_known; split
    · exact .inr ⟨[], 64, fun k => r_span_known span_All span_Valid _ _ _ _ _ _ _ k⟩
    · exact .inl (fun _ => rfl))

noncomputable def B_span_ins  (a : ByteArray) (k : KI) : Option DV :=
  bif (toList a == toList (⟨#[110, 101, 103]⟩)) then (bif (toList a == toList (⟨#[110, 101, 103]⟩)) then (k 1) else (bif (toList a == toList (⟨#[97, 100, 100]⟩)) then (bif (toList a == toList (⟨#[97, 100, 100]⟩)) then (k 2) else (bif (toList a == toList (⟨#[112, 105, 99, 107]⟩)) then (k 3) else (k 0))) else (bif (toList a == toList (⟨#[115, 117, 98]⟩)) then (bif (toList a == toList (⟨#[115, 117, 98]⟩)) then (k 2) else (bif (toList a == toList (⟨#[112, 105, 99, 107]⟩)) then (k 3) else (k 0))) else (bif (toList a == toList (⟨#[109, 117, 108]⟩)) then (bif (toList a == toList (⟨#[109, 117, 108]⟩)) then (k 2) else (bif (toList a == toList (⟨#[112, 105, 99, 107]⟩)) then (k 3) else (k 0))) else (bif (toList a == toList (⟨#[100, 105, 118]⟩)) then (bif (toList a == toList (⟨#[100, 105, 118]⟩)) then (k 2) else (bif (toList a == toList (⟨#[112, 105, 99, 107]⟩)) then (k 3) else (k 0))) else (bif (toList a == toList (⟨#[109, 111, 100]⟩)) then (bif (toList a == toList (⟨#[109, 111, 100]⟩)) then (k 2) else (bif (toList a == toList (⟨#[112, 105, 99, 107]⟩)) then (k 3) else (k 0))) else (bif (toList a == toList (⟨#[109, 105, 110]⟩)) then (bif (toList a == toList (⟨#[109, 105, 110]⟩)) then (k 2) else (bif (toList a == toList (⟨#[112, 105, 99, 107]⟩)) then (k 3) else (k 0))) else (bif (toList a == toList (⟨#[109, 97, 120]⟩)) then (bif (toList a == toList (⟨#[109, 97, 120]⟩)) then (k 2) else (bif (toList a == toList (⟨#[112, 105, 99, 107]⟩)) then (k 3) else (k 0))) else (bif (toList a == toList (⟨#[108, 116]⟩)) then (bif (toList a == toList (⟨#[108, 116]⟩)) then (k 2) else (bif (toList a == toList (⟨#[112, 105, 99, 107]⟩)) then (k 3) else (k 0))) else (bif (toList a == toList (⟨#[108, 101]⟩)) then (bif (toList a == toList (⟨#[108, 101]⟩)) then (k 2) else (bif (toList a == toList (⟨#[112, 105, 99, 107]⟩)) then (k 3) else (k 0))) else (bif (toList a == toList (⟨#[101, 113]⟩)) then (bif (toList a == toList (⟨#[101, 113]⟩)) then (k 2) else (bif (toList a == toList (⟨#[112, 105, 99, 107]⟩)) then (k 3) else (k 0))) else (bif (toList a == toList (⟨#[110, 101]⟩)) then (bif (toList a == toList (⟨#[110, 101]⟩)) then (k 2) else (bif (toList a == toList (⟨#[112, 105, 99, 107]⟩)) then (k 3) else (k 0))) else (bif (toList a == toList (⟨#[97, 110, 100]⟩)) then (bif (toList a == toList (⟨#[97, 110, 100]⟩)) then (k 2) else (bif (toList a == toList (⟨#[112, 105, 99, 107]⟩)) then (k 3) else (k 0))) else (bif (toList a == toList (⟨#[111, 114]⟩)) then (bif (toList a == toList (⟨#[111, 114]⟩)) then (k 2) else (bif (toList a == toList (⟨#[112, 105, 99, 107]⟩)) then (k 3) else (k 0))) else (bif (toList a == toList (⟨#[120, 111, 114]⟩)) then (bif (toList a == toList (⟨#[120, 111, 114]⟩)) then (k 2) else (bif (toList a == toList (⟨#[112, 105, 99, 107]⟩)) then (k 3) else (k 0))) else (bif (toList a == toList (⟨#[115, 104, 108]⟩)) then (bif (toList a == toList (⟨#[115, 104, 108]⟩)) then (k 2) else (bif (toList a == toList (⟨#[112, 105, 99, 107]⟩)) then (k 3) else (k 0))) else (bif (toList a == toList (⟨#[115, 104, 114]⟩)) then (k 2) else (bif (toList a == toList (⟨#[112, 105, 99, 107]⟩)) then (k 3) else (k 0))))))))))))))))))) else (bif (toList a == toList (⟨#[97, 98, 115]⟩)) then (bif (toList a == toList (⟨#[97, 98, 115]⟩)) then (k 1) else (bif (toList a == toList (⟨#[97, 100, 100]⟩)) then (bif (toList a == toList (⟨#[97, 100, 100]⟩)) then (k 2) else (bif (toList a == toList (⟨#[112, 105, 99, 107]⟩)) then (k 3) else (k 0))) else (bif (toList a == toList (⟨#[115, 117, 98]⟩)) then (bif (toList a == toList (⟨#[115, 117, 98]⟩)) then (k 2) else (bif (toList a == toList (⟨#[112, 105, 99, 107]⟩)) then (k 3) else (k 0))) else (bif (toList a == toList (⟨#[109, 117, 108]⟩)) then (bif (toList a == toList (⟨#[109, 117, 108]⟩)) then (k 2) else (bif (toList a == toList (⟨#[112, 105, 99, 107]⟩)) then (k 3) else (k 0))) else (bif (toList a == toList (⟨#[100, 105, 118]⟩)) then (bif (toList a == toList (⟨#[100, 105, 118]⟩)) then (k 2) else (bif (toList a == toList (⟨#[112, 105, 99, 107]⟩)) then (k 3) else (k 0))) else (bif (toList a == toList (⟨#[109, 111, 100]⟩)) then (bif (toList a == toList (⟨#[109, 111, 100]⟩)) then (k 2) else (bif (toList a == toList (⟨#[112, 105, 99, 107]⟩)) then (k 3) else (k 0))) else (bif (toList a == toList (⟨#[109, 105, 110]⟩)) then (bif (toList a == toList (⟨#[109, 105, 110]⟩)) then (k 2) else (bif (toList a == toList (⟨#[112, 105, 99, 107]⟩)) then (k 3) else (k 0))) else (bif (toList a == toList (⟨#[109, 97, 120]⟩)) then (bif (toList a == toList (⟨#[109, 97, 120]⟩)) then (k 2) else (bif (toList a == toList (⟨#[112, 105, 99, 107]⟩)) then (k 3) else (k 0))) else (bif (toList a == toList (⟨#[108, 116]⟩)) then (bif (toList a == toList (⟨#[108, 116]⟩)) then (k 2) else (bif (toList a == toList (⟨#[112, 105, 99, 107]⟩)) then (k 3) else (k 0))) else (bif (toList a == toList (⟨#[108, 101]⟩)) then (bif (toList a == toList (⟨#[108, 101]⟩)) then (k 2) else (bif (toList a == toList (⟨#[112, 105, 99, 107]⟩)) then (k 3) else (k 0))) else (bif (toList a == toList (⟨#[101, 113]⟩)) then (bif (toList a == toList (⟨#[101, 113]⟩)) then (k 2) else (bif (toList a == toList (⟨#[112, 105, 99, 107]⟩)) then (k 3) else (k 0))) else (bif (toList a == toList (⟨#[110, 101]⟩)) then (bif (toList a == toList (⟨#[110, 101]⟩)) then (k 2) else (bif (toList a == toList (⟨#[112, 105, 99, 107]⟩)) then (k 3) else (k 0))) else (bif (toList a == toList (⟨#[97, 110, 100]⟩)) then (bif (toList a == toList (⟨#[97, 110, 100]⟩)) then (k 2) else (bif (toList a == toList (⟨#[112, 105, 99, 107]⟩)) then (k 3) else (k 0))) else (bif (toList a == toList (⟨#[111, 114]⟩)) then (bif (toList a == toList (⟨#[111, 114]⟩)) then (k 2) else (bif (toList a == toList (⟨#[112, 105, 99, 107]⟩)) then (k 3) else (k 0))) else (bif (toList a == toList (⟨#[120, 111, 114]⟩)) then (bif (toList a == toList (⟨#[120, 111, 114]⟩)) then (k 2) else (bif (toList a == toList (⟨#[112, 105, 99, 107]⟩)) then (k 3) else (k 0))) else (bif (toList a == toList (⟨#[115, 104, 108]⟩)) then (bif (toList a == toList (⟨#[115, 104, 108]⟩)) then (k 2) else (bif (toList a == toList (⟨#[112, 105, 99, 107]⟩)) then (k 3) else (k 0))) else (bif (toList a == toList (⟨#[115, 104, 114]⟩)) then (k 2) else (bif (toList a == toList (⟨#[112, 105, 99, 107]⟩)) then (k 3) else (k 0))))))))))))))))))) else (bif (toList a == toList (⟨#[102, 108, 111, 111, 114]⟩)) then (bif (toList a == toList (⟨#[102, 108, 111, 111, 114]⟩)) then (k 1) else (bif (toList a == toList (⟨#[97, 100, 100]⟩)) then (bif (toList a == toList (⟨#[97, 100, 100]⟩)) then (k 2) else (bif (toList a == toList (⟨#[112, 105, 99, 107]⟩)) then (k 3) else (k 0))) else (bif (toList a == toList (⟨#[115, 117, 98]⟩)) then (bif (toList a == toList (⟨#[115, 117, 98]⟩)) then (k 2) else (bif (toList a == toList (⟨#[112, 105, 99, 107]⟩)) then (k 3) else (k 0))) else (bif (toList a == toList (⟨#[109, 117, 108]⟩)) then (bif (toList a == toList (⟨#[109, 117, 108]⟩)) then (k 2) else (bif (toList a == toList (⟨#[112, 105, 99, 107]⟩)) then (k 3) else (k 0))) else (bif (toList a == toList (⟨#[100, 105, 118]⟩)) then (bif (toList a == toList (⟨#[100, 105, 118]⟩)) then (k 2) else (bif (toList a == toList (⟨#[112, 105, 99, 107]⟩)) then (k 3) else (k 0))) else (bif (toList a == toList (⟨#[109, 111, 100]⟩)) then (bif (toList a == toList (⟨#[109, 111, 100]⟩)) then (k 2) else (bif (toList a == toList (⟨#[112, 105, 99, 107]⟩)) then (k 3) else (k 0))) else (bif (toList a == toList (⟨#[109, 105, 110]⟩)) then (bif (toList a == toList (⟨#[109, 105, 110]⟩)) then (k 2) else (bif (toList a == toList (⟨#[112, 105, 99, 107]⟩)) then (k 3) else (k 0))) else (bif (toList a == toList (⟨#[109, 97, 120]⟩)) then (bif (toList a == toList (⟨#[109, 97, 120]⟩)) then (k 2) else (bif (toList a == toList (⟨#[112, 105, 99, 107]⟩)) then (k 3) else (k 0))) else (bif (toList a == toList (⟨#[108, 116]⟩)) then (bif (toList a == toList (⟨#[108, 116]⟩)) then (k 2) else (bif (toList a == toList (⟨#[112, 105, 99, 107]⟩)) then (k 3) else (k 0))) else (bif (toList a == toList (⟨#[108, 101]⟩)) then (bif (toList a == toList (⟨#[108, 101]⟩)) then (k 2) else (bif (toList a == toList (⟨#[112, 105, 99, 107]⟩)) then (k 3) else (k 0))) else (bif (toList a == toList (⟨#[101, 113]⟩)) then (bif (toList a == toList (⟨#[101, 113]⟩)) then (k 2) else (bif (toList a == toList (⟨#[112, 105, 99, 107]⟩)) then (k 3) else (k 0))) else (bif (toList a == toList (⟨#[110, 101]⟩)) then (bif (toList a == toList (⟨#[110, 101]⟩)) then (k 2) else (bif (toList a == toList (⟨#[112, 105, 99, 107]⟩)) then (k 3) else (k 0))) else (bif (toList a == toList (⟨#[97, 110, 100]⟩)) then (bif (toList a == toList (⟨#[97, 110, 100]⟩)) then (k 2) else (bif (toList a == toList (⟨#[112, 105, 99, 107]⟩)) then (k 3) else (k 0))) else (bif (toList a == toList (⟨#[111, 114]⟩)) then (bif (toList a == toList (⟨#[111, 114]⟩)) then (k 2) else (bif (toList a == toList (⟨#[112, 105, 99, 107]⟩)) then (k 3) else (k 0))) else (bif (toList a == toList (⟨#[120, 111, 114]⟩)) then (bif (toList a == toList (⟨#[120, 111, 114]⟩)) then (k 2) else (bif (toList a == toList (⟨#[112, 105, 99, 107]⟩)) then (k 3) else (k 0))) else (bif (toList a == toList (⟨#[115, 104, 108]⟩)) then (bif (toList a == toList (⟨#[115, 104, 108]⟩)) then (k 2) else (bif (toList a == toList (⟨#[112, 105, 99, 107]⟩)) then (k 3) else (k 0))) else (bif (toList a == toList (⟨#[115, 104, 114]⟩)) then (k 2) else (bif (toList a == toList (⟨#[112, 105, 99, 107]⟩)) then (k 3) else (k 0))))))))))))))))))) else (bif (toList a == toList (⟨#[114, 111, 117, 110, 100]⟩)) then (bif (toList a == toList (⟨#[114, 111, 117, 110, 100]⟩)) then (k 1) else (bif (toList a == toList (⟨#[97, 100, 100]⟩)) then (bif (toList a == toList (⟨#[97, 100, 100]⟩)) then (k 2) else (bif (toList a == toList (⟨#[112, 105, 99, 107]⟩)) then (k 3) else (k 0))) else (bif (toList a == toList (⟨#[115, 117, 98]⟩)) then (bif (toList a == toList (⟨#[115, 117, 98]⟩)) then (k 2) else (bif (toList a == toList (⟨#[112, 105, 99, 107]⟩)) then (k 3) else (k 0))) else (bif (toList a == toList (⟨#[109, 117, 108]⟩)) then (bif (toList a == toList (⟨#[109, 117, 108]⟩)) then (k 2) else (bif (toList a == toList (⟨#[112, 105, 99, 107]⟩)) then (k 3) else (k 0))) else (bif (toList a == toList (⟨#[100, 105, 118]⟩)) then (bif (toList a == toList (⟨#[100, 105, 118]⟩)) then (k 2) else (bif (toList a == toList (⟨#[112, 105, 99, 107]⟩)) then (k 3) else (k 0))) else (bif (toList a == toList (⟨#[109, 111, 100]⟩)) then (bif (toList a == toList (⟨#[109, 111, 100]⟩)) then (k 2) else (bif (toList a == toList (⟨#[112, 105, 99, 107]⟩)) then (k 3) else (k 0))) else (bif (toList a == toList (⟨#[109, 105, 110]⟩)) then (bif (toList a == toList (⟨#[109, 105, 110]⟩)) then (k 2) else (bif (toList a == toList (⟨#[112, 105, 99, 107]⟩)) then (k 3) else (k 0))) else (bif (toList a == toList (⟨#[109, 97, 120]⟩)) then (bif (toList a == toList (⟨#[109, 97, 120]⟩)) then (k 2) else (bif (toList a == toList (⟨#[112, 105, 99, 107]⟩)) then (k 3) else (k 0))) else (bif (toList a == toList (⟨#[108, 116]⟩)) then (bif (toList a == toList (⟨#[108, 116]⟩)) then (k 2) else (bif (toList a == toList (⟨#[112, 105, 99, 107]⟩)) then (k 3) else (k 0))) else (bif (toList a == toList (⟨#[108, 101]⟩)) then (bif (toList a == toList (⟨#[108, 101]⟩)) then (k 2) else (bif (toList a == toList (⟨#[112, 105, 99, 107]⟩)) then (k 3) else (k 0))) else (bif (toList a == toList (⟨#[101, 113]⟩)) then (bif (toList a == toList (⟨#[101, 113]⟩)) then (k 2) else (bif (toList a == toList (⟨#[112, 105, 99, 107]⟩)) then (k 3) else (k 0))) else (bif (toList a == toList (⟨#[110, 101]⟩)) then (bif (toList a == toList (⟨#[110, 101]⟩)) then (k 2) else (bif (toList a == toList (⟨#[112, 105, 99, 107]⟩)) then (k 3) else (k 0))) else (bif (toList a == toList (⟨#[97, 110, 100]⟩)) then (bif (toList a == toList (⟨#[97, 110, 100]⟩)) then (k 2) else (bif (toList a == toList (⟨#[112, 105, 99, 107]⟩)) then (k 3) else (k 0))) else (bif (toList a == toList (⟨#[111, 114]⟩)) then (bif (toList a == toList (⟨#[111, 114]⟩)) then (k 2) else (bif (toList a == toList (⟨#[112, 105, 99, 107]⟩)) then (k 3) else (k 0))) else (bif (toList a == toList (⟨#[120, 111, 114]⟩)) then (bif (toList a == toList (⟨#[120, 111, 114]⟩)) then (k 2) else (bif (toList a == toList (⟨#[112, 105, 99, 107]⟩)) then (k 3) else (k 0))) else (bif (toList a == toList (⟨#[115, 104, 108]⟩)) then (bif (toList a == toList (⟨#[115, 104, 108]⟩)) then (k 2) else (bif (toList a == toList (⟨#[112, 105, 99, 107]⟩)) then (k 3) else (k 0))) else (bif (toList a == toList (⟨#[115, 104, 114]⟩)) then (k 2) else (bif (toList a == toList (⟨#[112, 105, 99, 107]⟩)) then (k 3) else (k 0))))))))))))))))))) else (bif (toList a == toList (⟨#[102, 114, 97, 99]⟩)) then (bif (toList a == toList (⟨#[102, 114, 97, 99]⟩)) then (k 1) else (bif (toList a == toList (⟨#[97, 100, 100]⟩)) then (bif (toList a == toList (⟨#[97, 100, 100]⟩)) then (k 2) else (bif (toList a == toList (⟨#[112, 105, 99, 107]⟩)) then (k 3) else (k 0))) else (bif (toList a == toList (⟨#[115, 117, 98]⟩)) then (bif (toList a == toList (⟨#[115, 117, 98]⟩)) then (k 2) else (bif (toList a == toList (⟨#[112, 105, 99, 107]⟩)) then (k 3) else (k 0))) else (bif (toList a == toList (⟨#[109, 117, 108]⟩)) then (bif (toList a == toList (⟨#[109, 117, 108]⟩)) then (k 2) else (bif (toList a == toList (⟨#[112, 105, 99, 107]⟩)) then (k 3) else (k 0))) else (bif (toList a == toList (⟨#[100, 105, 118]⟩)) then (bif (toList a == toList (⟨#[100, 105, 118]⟩)) then (k 2) else (bif (toList a == toList (⟨#[112, 105, 99, 107]⟩)) then (k 3) else (k 0))) else (bif (toList a == toList (⟨#[109, 111, 100]⟩)) then (bif (toList a == toList (⟨#[109, 111, 100]⟩)) then (k 2) else (bif (toList a == toList (⟨#[112, 105, 99, 107]⟩)) then (k 3) else (k 0))) else (bif (toList a == toList (⟨#[109, 105, 110]⟩)) then (bif (toList a == toList (⟨#[109, 105, 110]⟩)) then (k 2) else (bif (toList a == toList (⟨#[112, 105, 99, 107]⟩)) then (k 3) else (k 0))) else (bif (toList a == toList (⟨#[109, 97, 120]⟩)) then (bif (toList a == toList (⟨#[109, 97, 120]⟩)) then (k 2) else (bif (toList a == toList (⟨#[112, 105, 99, 107]⟩)) then (k 3) else (k 0))) else (bif (toList a == toList (⟨#[108, 116]⟩)) then (bif (toList a == toList (⟨#[108, 116]⟩)) then (k 2) else (bif (toList a == toList (⟨#[112, 105, 99, 107]⟩)) then (k 3) else (k 0))) else (bif (toList a == toList (⟨#[108, 101]⟩)) then (bif (toList a == toList (⟨#[108, 101]⟩)) then (k 2) else (bif (toList a == toList (⟨#[112, 105, 99, 107]⟩)) then (k 3) else (k 0))) else (bif (toList a == toList (⟨#[101, 113]⟩)) then (bif (toList a == toList (⟨#[101, 113]⟩)) then (k 2) else (bif (toList a == toList (⟨#[112, 105, 99, 107]⟩)) then (k 3) else (k 0))) else (bif (toList a == toList (⟨#[110, 101]⟩)) then (bif (toList a == toList (⟨#[110, 101]⟩)) then (k 2) else (bif (toList a == toList (⟨#[112, 105, 99, 107]⟩)) then (k 3) else (k 0))) else (bif (toList a == toList (⟨#[97, 110, 100]⟩)) then (bif (toList a == toList (⟨#[97, 110, 100]⟩)) then (k 2) else (bif (toList a == toList (⟨#[112, 105, 99, 107]⟩)) then (k 3) else (k 0))) else (bif (toList a == toList (⟨#[111, 114]⟩)) then (bif (toList a == toList (⟨#[111, 114]⟩)) then (k 2) else (bif (toList a == toList (⟨#[112, 105, 99, 107]⟩)) then (k 3) else (k 0))) else (bif (toList a == toList (⟨#[120, 111, 114]⟩)) then (bif (toList a == toList (⟨#[120, 111, 114]⟩)) then (k 2) else (bif (toList a == toList (⟨#[112, 105, 99, 107]⟩)) then (k 3) else (k 0))) else (bif (toList a == toList (⟨#[115, 104, 108]⟩)) then (bif (toList a == toList (⟨#[115, 104, 108]⟩)) then (k 2) else (bif (toList a == toList (⟨#[112, 105, 99, 107]⟩)) then (k 3) else (k 0))) else (bif (toList a == toList (⟨#[115, 104, 114]⟩)) then (k 2) else (bif (toList a == toList (⟨#[112, 105, 99, 107]⟩)) then (k 3) else (k 0))))))))))))))))))) else (bif (toList a == toList (⟨#[110, 111, 116]⟩)) then (k 1) else (bif (toList a == toList (⟨#[97, 100, 100]⟩)) then (bif (toList a == toList (⟨#[97, 100, 100]⟩)) then (k 2) else (bif (toList a == toList (⟨#[112, 105, 99, 107]⟩)) then (k 3) else (k 0))) else (bif (toList a == toList (⟨#[115, 117, 98]⟩)) then (bif (toList a == toList (⟨#[115, 117, 98]⟩)) then (k 2) else (bif (toList a == toList (⟨#[112, 105, 99, 107]⟩)) then (k 3) else (k 0))) else (bif (toList a == toList (⟨#[109, 117, 108]⟩)) then (bif (toList a == toList (⟨#[109, 117, 108]⟩)) then (k 2) else (bif (toList a == toList (⟨#[112, 105, 99, 107]⟩)) then (k 3) else (k 0))) else (bif (toList a == toList (⟨#[100, 105, 118]⟩)) then (bif (toList a == toList (⟨#[100, 105, 118]⟩)) then (k 2) else (bif (toList a == toList (⟨#[112, 105, 99, 107]⟩)) then (k 3) else (k 0))) else (bif (toList a == toList (⟨#[109, 111, 100]⟩)) then (bif (toList a == toList (⟨#[109, 111, 100]⟩)) then (k 2) else (bif (toList a == toList (⟨#[112, 105, 99, 107]⟩)) then (k 3) else (k 0))) else (bif (toList a == toList (⟨#[109, 105, 110]⟩)) then (bif (toList a == toList (⟨#[109, 105, 110]⟩)) then (k 2) else (bif (toList a == toList (⟨#[112, 105, 99, 107]⟩)) then (k 3) else (k 0))) else (bif (toList a == toList (⟨#[109, 97, 120]⟩)) then (bif (toList a == toList (⟨#[109, 97, 120]⟩)) then (k 2) else (bif (toList a == toList (⟨#[112, 105, 99, 107]⟩)) then (k 3) else (k 0))) else (bif (toList a == toList (⟨#[108, 116]⟩)) then (bif (toList a == toList (⟨#[108, 116]⟩)) then (k 2) else (bif (toList a == toList (⟨#[112, 105, 99, 107]⟩)) then (k 3) else (k 0))) else (bif (toList a == toList (⟨#[108, 101]⟩)) then (bif (toList a == toList (⟨#[108, 101]⟩)) then (k 2) else (bif (toList a == toList (⟨#[112, 105, 99, 107]⟩)) then (k 3) else (k 0))) else (bif (toList a == toList (⟨#[101, 113]⟩)) then (bif (toList a == toList (⟨#[101, 113]⟩)) then (k 2) else (bif (toList a == toList (⟨#[112, 105, 99, 107]⟩)) then (k 3) else (k 0))) else (bif (toList a == toList (⟨#[110, 101]⟩)) then (bif (toList a == toList (⟨#[110, 101]⟩)) then (k 2) else (bif (toList a == toList (⟨#[112, 105, 99, 107]⟩)) then (k 3) else (k 0))) else (bif (toList a == toList (⟨#[97, 110, 100]⟩)) then (bif (toList a == toList (⟨#[97, 110, 100]⟩)) then (k 2) else (bif (toList a == toList (⟨#[112, 105, 99, 107]⟩)) then (k 3) else (k 0))) else (bif (toList a == toList (⟨#[111, 114]⟩)) then (bif (toList a == toList (⟨#[111, 114]⟩)) then (k 2) else (bif (toList a == toList (⟨#[112, 105, 99, 107]⟩)) then (k 3) else (k 0))) else (bif (toList a == toList (⟨#[120, 111, 114]⟩)) then (bif (toList a == toList (⟨#[120, 111, 114]⟩)) then (k 2) else (bif (toList a == toList (⟨#[112, 105, 99, 107]⟩)) then (k 3) else (k 0))) else (bif (toList a == toList (⟨#[115, 104, 108]⟩)) then (bif (toList a == toList (⟨#[115, 104, 108]⟩)) then (k 2) else (bif (toList a == toList (⟨#[112, 105, 99, 107]⟩)) then (k 3) else (k 0))) else (bif (toList a == toList (⟨#[115, 104, 114]⟩)) then (k 2) else (bif (toList a == toList (⟨#[112, 105, 99, 107]⟩)) then (k 3) else (k 0)))))))))))))))))))))))
noncomputable def span_ins (a : ByteArray) (k : KI) : Option DV := B_span_ins  a k

noncomputable def KK_span_ins (f0 : ByteArray → KI → Option DV) (ds : List DV) (k : DV → Option DV) : Option DV :=
  match ds with
  | [.val (.string a)] => f0 a (fun b => k (.val (.int .i64 b)))
  | _ => none

theorem r_span_ins  (a : ByteArray) (k : DV → Option DV) : B_span_ins  a (fun b => k (.val (.int .i64 b))) = pevF Tryz.prog (tab []) [] 64 Tryz.f28 (bodyOf Tryz.f28) [.val (.string a)] k := by kernel_rfl

theorem m_span_ins : Meets Tryz.prog Inv 28 (KK_span_ins span_ins) :=
  meets_of_pev mixed stab (tab_nil _ _) Tryz.func28 (by kernel_rfl) (by kernel_rfl) (by
    intro ds; unfold KK_span_ins; split
    · exact .inr ⟨[], 64, fun k => r_span_ins  _ k⟩
    · exact .inl (fun _ => rfl))

noncomputable def B_span_isOpen  (a b : Int) (k : KB) : Option DV :=
  k ((a == 0) && ((b == 0) && true))
noncomputable def span_isOpen (a b : Int) (k : KB) : Option DV := B_span_isOpen  a b k

noncomputable def KK_span_isOpen (f0 : Int → Int → KB → Option DV) (ds : List DV) (k : DV → Option DV) : Option DV :=
  match ds with
  | [.val (.agg ⟨[.int .i64 a, .int .i64 b]⟩)] => f0 a b (fun c => k (.val (.bool c)))
  | _ => none

theorem r_span_isOpen  (a b : Int) (k : DV → Option DV) : B_span_isOpen  a b (fun c => k (.val (.bool c))) = pevF Tryz.prog (tab []) [] 64 Tryz.f26 (bodyOf Tryz.f26) [.val (.agg ⟨[.int .i64 a, .int .i64 b]⟩)] k := by kernel_rfl

theorem m_span_isOpen : Meets Tryz.prog Inv 26 (KK_span_isOpen span_isOpen) :=
  meets_of_pev mixed stab (tab_nil _ _) Tryz.func26 (by kernel_rfl) (by kernel_rfl) (by
    intro ds; unfold KK_span_isOpen; split
    · exact .inr ⟨[], 64, fun k => r_span_isOpen  _ _ k⟩
    · exact .inl (fun _ => rfl))

noncomputable def B_span_isAmong (f0 : Int → Int → Int → Int → KI → Option DV) (f1 : Int → Int → KB → Option DV) (g h a b e f c d r : Int) (s t : Bool) (k : KB) : Option DV :=
  f1 e f (fun i => bif !i then (f0 g h e f (fun j => bif decide (j ≥ 0) then (f1 c d (fun l => bif !l then (f1 a b (fun m => bif !m then (f0 a b c d (fun n => k (decide (n ≤ 0)))) else (k false))) else (k true))) else (k false))) else (f1 c d (fun o => bif !o then (f1 a b (fun p => bif !p then (f0 a b c d (fun q => k (decide (q ≤ 0)))) else (k false))) else (k true))))
noncomputable def span_isAmong (a b c d e f g h i : Int) (j l : Bool) (k : KB) : Option DV := B_span_isAmong ratio_Cmp span_isOpen a b c d e f g h i j l k

noncomputable def KK_span_isAmong (f0 : Int → Int → Int → Int → Int → Int → Int → Int → Int → Bool → Bool → KB → Option DV) (ds : List DV) (k : DV → Option DV) : Option DV :=
  match ds with
  | [.val (.agg ⟨[.int .i64 a, .int .i64 b]⟩), .val (.agg ⟨[.int .i64 c, .int .i64 d]⟩), .val (.agg ⟨[.int .i64 e, .int .i64 f, .int .i64 g, .int .i64 h, .int .i64 i, .bool j, .bool l]⟩)] => f0 a b c d e f g h i j l (fun m => k (.val (.bool m)))
  | _ => none

theorem r_span_isAmong (f0 : Int → Int → Int → Int → KI → Option DV) (f1 : Int → Int → KB → Option DV) (a b c d e f g h i : Int) (j l : Bool) (k : DV → Option DV) : B_span_isAmong f0 f1 a b c d e f g h i j l (fun m => k (.val (.bool m))) = pevF Tryz.prog (tab [(26, (KK_span_isOpen f1)), (68, (KK_ratio_Cmp f0))]) [] 64 Tryz.f27 (bodyOf Tryz.f27) [.val (.agg ⟨[.int .i64 a, .int .i64 b]⟩), .val (.agg ⟨[.int .i64 c, .int .i64 d]⟩), .val (.agg ⟨[.int .i64 e, .int .i64 f, .int .i64 g, .int .i64 h, .int .i64 i, .bool j, .bool l]⟩)] k := by kernel_rfl

theorem m_span_isAmong : Meets Tryz.prog Inv 27 (KK_span_isAmong span_isAmong) :=
  meets_of_pev mixed stab (tab_cons m_span_isOpen (tab_cons m_ratio_Cmp (tab_nil _ _))) Tryz.func27 (by kernel_rfl) (by kernel_rfl) (by
    intro ds; unfold KK_span_isAmong; split
    · exact .inr ⟨[], 64, fun k => r_span_isAmong ratio_Cmp span_isOpen _ _ _ _ _ _ _ _ _ _ _ k⟩
    · exact .inl (fun _ => rfl))

noncomputable def B_span_Has (f0 : Int → Int → Int → Int → Int → Int → Int → Int → Int → Bool → Bool → KB → Option DV) (f1 : Int → Int → KB → Option DV) (f2 : Int → Int → Int → Int → Int → Bool → Bool → KS → Option DV) (f g h i j : Int) (l m : Bool) (b a : Int) (k : KB) : Option DV :=
  f2 f g h i j l m (fun n o p q c d e => f1 b a (fun r => bif !r then (k d) else (bif !e then (f0 b a b a n o p q c d e (fun s => bif s then (bif !(c == 0) then (bif a == 0 then none else (k ((Int.tmod c a) == 0))) else (k true)) else (k false))) else (k false))))
noncomputable def span_Has (a b c d e : Int) (f g : Bool) (h i : Int) (k : KB) : Option DV := B_span_Has span_isAmong ratio_Is span_known a b c d e f g h i k

noncomputable def KK_span_Has (f0 : Int → Int → Int → Int → Int → Bool → Bool → Int → Int → KB → Option DV) (ds : List DV) (k : DV → Option DV) : Option DV :=
  match ds with
  | [.val (.agg ⟨[.int .i64 a, .int .i64 b, .int .i64 c, .int .i64 d, .int .i64 e, .bool f, .bool g]⟩), .val (.agg ⟨[.int .i64 h, .int .i64 i]⟩)] => f0 a b c d e f g h i (fun j => k (.val (.bool j)))
  | _ => none

theorem r_span_Has (f0 : Int → Int → Int → Int → Int → Int → Int → Int → Int → Bool → Bool → KB → Option DV) (f1 : Int → Int → KB → Option DV) (f2 : Int → Int → Int → Int → Int → Bool → Bool → KS → Option DV) (a b c d e : Int) (f g : Bool) (h i : Int) (k : DV → Option DV) : B_span_Has f0 f1 f2 a b c d e f g h i (fun j => k (.val (.bool j))) = pevF Tryz.prog (tab [(21, (KK_span_known f2)), (27, (KK_span_isAmong f0)), (31, (KK_ratio_Is f1))]) [] 64 Tryz.f10 (bodyOf Tryz.f10) [.val (.agg ⟨[.int .i64 a, .int .i64 b, .int .i64 c, .int .i64 d, .int .i64 e, .bool f, .bool g]⟩), .val (.agg ⟨[.int .i64 h, .int .i64 i]⟩)] k := by kernel_rfl

theorem m_span_Has : Meets Tryz.prog Inv 10 (KK_span_Has span_Has) :=
  meets_of_pev mixed stab (tab_cons m_span_known (tab_cons m_span_isAmong (tab_cons m_ratio_Is (tab_nil _ _)))) Tryz.func10 (by kernel_rfl) (by kernel_rfl) (by
    intro ds; unfold KK_span_Has; split
    · exact .inr ⟨[], 64, fun k => r_span_Has span_isAmong ratio_Is span_known _ _ _ _ _ _ _ _ _ k⟩
    · exact .inl (fun _ => rfl))

noncomputable def B_span_bounded (f0 : Int → KB → Option DV) (a : Int) (k : KI) : Option DV :=
  f0 a (fun b => bif !b then (k 0) else (k a))
noncomputable def span_bounded (a : Int) (k : KI) : Option DV := B_span_bounded span_isDen a k

noncomputable def KK_span_bounded (f0 : Int → KI → Option DV) (ds : List DV) (k : DV → Option DV) : Option DV :=
  match ds with
  | [.val (.int .i64 a)] => f0 a (fun b => k (.val (.int .i64 b)))
  | _ => none

theorem r_span_bounded (f0 : Int → KB → Option DV) (a : Int) (k : DV → Option DV) : B_span_bounded f0 a (fun b => k (.val (.int .i64 b))) = pevF Tryz.prog (tab [(50, (KK_span_isDen f0))]) [] 64 Tryz.f125 (bodyOf Tryz.f125) [.val (.int .i64 a)] k := by kernel_rfl

theorem m_span_bounded : Meets Tryz.prog Inv 125 (KK_span_bounded span_bounded) :=
  meets_of_pev mixed stab (tab_cons m_span_isDen (tab_nil _ _)) Tryz.func125 (by kernel_rfl) (by kernel_rfl) (by
    intro ds; unfold KK_span_bounded; split
    · exact .inr ⟨[], 64, fun k => r_span_bounded span_isDen _ k⟩
    · exact .inl (fun _ => rfl))

noncomputable def B_span_lowestCommon (f0 : Int → KI → Option DV) (f1 : Int → Int → KQ → Option DV) (a b : Int) (k : KI) : Option DV :=
  f1 a b (fun e c => f0 (IntKind.wrap .i64 (a * c)) (fun d => k d))
noncomputable def span_lowestCommon (a b : Int) (k : KI) : Option DV := B_span_lowestCommon span_bounded ratio_Make a b k

noncomputable def KK_span_lowestCommon (f0 : Int → Int → KI → Option DV) (ds : List DV) (k : DV → Option DV) : Option DV :=
  match ds with
  | [.val (.int .i64 a), .val (.int .i64 b)] => f0 a b (fun c => k (.val (.int .i64 c)))
  | _ => none

theorem r_span_lowestCommon (f0 : Int → KI → Option DV) (f1 : Int → Int → KQ → Option DV) (a b : Int) (k : DV → Option DV) : B_span_lowestCommon f0 f1 a b (fun c => k (.val (.int .i64 c))) = pevF Tryz.prog (tab [(125, (KK_span_bounded f0)), (90, (KK_ratio_Make f1))]) [] 64 Tryz.f98 (bodyOf Tryz.f98) [.val (.int .i64 a), .val (.int .i64 b)] k := by kernel_rfl

theorem m_span_lowestCommon : Meets Tryz.prog Inv 98 (KK_span_lowestCommon span_lowestCommon) :=
  meets_of_pev mixed stab (tab_cons m_span_bounded (tab_cons m_ratio_Make (tab_nil _ _))) Tryz.func98 (by kernel_rfl) (by kernel_rfl) (by
    intro ds; unfold KK_span_lowestCommon; split
    · exact .inr ⟨[], 64, fun k => r_span_lowestCommon span_bounded ratio_Make _ _ k⟩
    · exact .inl (fun _ => rfl))

noncomputable def B_span_Join (f0 : Int → Int → KI → Option DV) (f1 : Int → Int → Int → Int → KQ → Option DV) (f2 : Int → Int → Int → Int → KQ → Option DV) (f3 : Int → Int → Int → Int → Int → Bool → Bool → KS → Option DV) (u v w x y : Int) (z aa : Bool) (ab ac ad ae af : Int) (ag ah : Bool) (k : KS) : Option DV :=
  f3 u v w x y z aa (fun a b c d e f g => f3 ab ac ad ae af ag ah (fun h i j l m n o => f2 a b h i (fun p q => f1 c d j l (fun r s => f0 e m (fun t => bif g then (bif !f then (k h i j l m n o) else (k h i j l m true o)) else (bif o then (bif !f then (k a b c d e n g) else (k a b c d e true g)) else (bif !f then (k p q r s t n false) else (k p q r s t true false))))))))
noncomputable def span_Join (a b c d e : Int) (f g : Bool) (h i j l m : Int) (n o : Bool) (k : KS) : Option DV := B_span_Join span_lowestCommon ratio_Max ratio_Min span_known a b c d e f g h i j l m n o k

noncomputable def KK_span_Join (f0 : Int → Int → Int → Int → Int → Bool → Bool → Int → Int → Int → Int → Int → Bool → Bool → KS → Option DV) (ds : List DV) (k : DV → Option DV) : Option DV :=
  match ds with
  | [.val (.agg ⟨[.int .i64 a, .int .i64 b, .int .i64 c, .int .i64 d, .int .i64 e, .bool f, .bool g]⟩), .val (.agg ⟨[.int .i64 h, .int .i64 i, .int .i64 j, .int .i64 l, .int .i64 m, .bool n, .bool o]⟩)] => f0 a b c d e f g h i j l m n o (fun p q r s t u v => k (.val (.agg ⟨[.int .i64 p, .int .i64 q, .int .i64 r, .int .i64 s, .int .i64 t, .bool u, .bool v]⟩)))
  | _ => none

theorem r_span_Join (f0 : Int → Int → KI → Option DV) (f1 : Int → Int → Int → Int → KQ → Option DV) (f2 : Int → Int → Int → Int → KQ → Option DV) (f3 : Int → Int → Int → Int → Int → Bool → Bool → KS → Option DV) (a b c d e : Int) (f g : Bool) (h i j l m : Int) (n o : Bool) (k : DV → Option DV) : B_span_Join f0 f1 f2 f3 a b c d e f g h i j l m n o (fun p q r s t u v => k (.val (.agg ⟨[.int .i64 p, .int .i64 q, .int .i64 r, .int .i64 s, .int .i64 t, .bool u, .bool v]⟩))) = pevF Tryz.prog (tab [(21, (KK_span_known f3)), (96, (KK_ratio_Min f2)), (97, (KK_ratio_Max f1)), (98, (KK_span_lowestCommon f0))]) [] 64 Tryz.f71 (bodyOf Tryz.f71) [.val (.agg ⟨[.int .i64 a, .int .i64 b, .int .i64 c, .int .i64 d, .int .i64 e, .bool f, .bool g]⟩), .val (.agg ⟨[.int .i64 h, .int .i64 i, .int .i64 j, .int .i64 l, .int .i64 m, .bool n, .bool o]⟩)] k := by kernel_rfl

theorem m_span_Join : Meets Tryz.prog Inv 71 (KK_span_Join span_Join) :=
  meets_of_pev mixed stab (tab_cons m_span_known (tab_cons m_ratio_Min (tab_cons m_ratio_Max (tab_cons m_span_lowestCommon (tab_nil _ _))))) Tryz.func71 (by kernel_rfl) (by kernel_rfl) (by
    intro ds; unfold KK_span_Join; split
    · exact .inr ⟨[], 64, fun k => r_span_Join span_lowestCommon ratio_Max ratio_Min span_known _ _ _ _ _ _ _ _ _ _ _ _ _ _ k⟩
    · exact .inl (fun _ => rfl))

noncomputable def B_span_zero (f0 : Int → Int → KQ → Option DV)  (k : KQ) : Option DV :=
  f0 0 1 (fun a b => k a b)
noncomputable def span_zero  (k : KQ) : Option DV := B_span_zero ratio_Make  k

noncomputable def KK_span_zero (f0 : KQ → Option DV) (ds : List DV) (k : DV → Option DV) : Option DV :=
  match ds with
  | [] => f0  (fun a b => k (.val (.agg ⟨[.int .i64 a, .int .i64 b]⟩)))
  | _ => none

theorem r_span_zero (f0 : Int → Int → KQ → Option DV)  (k : DV → Option DV) : B_span_zero f0  (fun a b => k (.val (.agg ⟨[.int .i64 a, .int .i64 b]⟩))) = pevF Tryz.prog (tab [(90, (KK_ratio_Make f0))]) [] 64 Tryz.f69 (bodyOf Tryz.f69) [] k := by kernel_rfl

theorem m_span_zero : Meets Tryz.prog Inv 69 (KK_span_zero span_zero) :=
  meets_of_pev mixed stab (tab_cons m_ratio_Make (tab_nil _ _)) Tryz.func69 (by kernel_rfl) (by kernel_rfl) (by
    intro ds; unfold KK_span_zero; split
    · exact .inr ⟨[], 64, fun k => r_span_zero ratio_Make  k⟩
    · exact .inl (fun _ => rfl))

noncomputable def B_span_isPoint (f0 : Int → Int → KB → Option DV) (a b c d f : Int) (g h : Bool) (k : KB) : Option DV :=
  f0 a b (fun e => bif !e then (k ((a == c) && ((b == d) && true))) else (k false))
noncomputable def span_isPoint (a b c d e : Int) (f g : Bool) (k : KB) : Option DV := B_span_isPoint span_isOpen a b c d e f g k

noncomputable def KK_span_isPoint (f0 : Int → Int → Int → Int → Int → Bool → Bool → KB → Option DV) (ds : List DV) (k : DV → Option DV) : Option DV :=
  match ds with
  | [.val (.agg ⟨[.int .i64 a, .int .i64 b, .int .i64 c, .int .i64 d, .int .i64 e, .bool f, .bool g]⟩)] => f0 a b c d e f g (fun h => k (.val (.bool h)))
  | _ => none

theorem r_span_isPoint (f0 : Int → Int → KB → Option DV) (a b c d e : Int) (f g : Bool) (k : DV → Option DV) : B_span_isPoint f0 a b c d e f g (fun h => k (.val (.bool h))) = pevF Tryz.prog (tab [(26, (KK_span_isOpen f0))]) [] 64 Tryz.f95 (bodyOf Tryz.f95) [.val (.agg ⟨[.int .i64 a, .int .i64 b, .int .i64 c, .int .i64 d, .int .i64 e, .bool f, .bool g]⟩)] k := by kernel_rfl

theorem m_span_isPoint : Meets Tryz.prog Inv 95 (KK_span_isPoint span_isPoint) :=
  meets_of_pev mixed stab (tab_cons m_span_isOpen (tab_nil _ _)) Tryz.func95 (by kernel_rfl) (by kernel_rfl) (by
    intro ds; unfold KK_span_isPoint; split
    · exact .inr ⟨[], 64, fun k => r_span_isPoint span_isOpen _ _ _ _ _ _ _ k⟩
    · exact .inl (fun _ => rfl))

noncomputable def B_span_isZero (f0 : Int → Int → Int → Int → Int → Bool → Bool → KB → Option DV) (a b c d e : Int) (f g : Bool) (k : KB) : Option DV :=
  f0 a b c d e f g (fun h => bif h then (k (a == 0)) else (k false))
noncomputable def span_isZero (a b c d e : Int) (f g : Bool) (k : KB) : Option DV := B_span_isZero span_isPoint a b c d e f g k

noncomputable def KK_span_isZero (f0 : Int → Int → Int → Int → Int → Bool → Bool → KB → Option DV) (ds : List DV) (k : DV → Option DV) : Option DV :=
  match ds with
  | [.val (.agg ⟨[.int .i64 a, .int .i64 b, .int .i64 c, .int .i64 d, .int .i64 e, .bool f, .bool g]⟩)] => f0 a b c d e f g (fun h => k (.val (.bool h)))
  | _ => none

theorem r_span_isZero (f0 : Int → Int → Int → Int → Int → Bool → Bool → KB → Option DV) (a b c d e : Int) (f g : Bool) (k : DV → Option DV) : B_span_isZero f0 a b c d e f g (fun h => k (.val (.bool h))) = pevF Tryz.prog (tab [(95, (KK_span_isPoint f0))]) [] 64 Tryz.f70 (bodyOf Tryz.f70) [.val (.agg ⟨[.int .i64 a, .int .i64 b, .int .i64 c, .int .i64 d, .int .i64 e, .bool f, .bool g]⟩)] k := by kernel_rfl

theorem m_span_isZero : Meets Tryz.prog Inv 70 (KK_span_isZero span_isZero) :=
  meets_of_pev mixed stab (tab_cons m_span_isPoint (tab_nil _ _)) Tryz.func70 (by kernel_rfl) (by kernel_rfl) (by
    intro ds; unfold KK_span_isZero; split
    · exact .inr ⟨[], 64, fun k => r_span_isZero span_isPoint _ _ _ _ _ _ _ k⟩
    · exact .inl (fun _ => rfl))

noncomputable def B_span_pick (f0 : Int → Int → Int → Int → Int → Bool → Bool → Int → Int → Int → Int → Int → Bool → Bool → KS → Option DV) (f1 : Int → Int → Int → Int → Int → Bool → Bool → KB → Option DV) (f2 : Int → Int → Int → Int → Int → Bool → Bool → Int → Int → KB → Option DV) (f3 : KQ → Option DV) (c d e f g : Int) (a b : Bool) (h i j l m : Int) (u n : Bool) (o p q r s : Int) (v t : Bool) (k : KS) : Option DV :=
  bif b then (k c d e f g a b) else (f3  (fun ac ad => f2 c d e f g a b ac ad (fun ae => bif !ae then (bif !v then (k o p q r s a t) else (k o p q r s true t)) else (f1 c d e f g a b (fun af => bif af then (bif !u then (k h i j l m a n) else (k h i j l m true n)) else (f0 h i j l m u n o p q r s v t (fun w x y z aa ag ab => bif !ag then (k w x y z aa a ab) else (k w x y z aa true ab))))))))
noncomputable def span_pick (a b c d e : Int) (f g : Bool) (h i j l m : Int) (n o : Bool) (p q r s t : Int) (u v : Bool) (k : KS) : Option DV := B_span_pick span_Join span_isZero span_Has span_zero a b c d e f g h i j l m n o p q r s t u v k

noncomputable def KK_span_pick (f0 : Int → Int → Int → Int → Int → Bool → Bool → Int → Int → Int → Int → Int → Bool → Bool → Int → Int → Int → Int → Int → Bool → Bool → KS → Option DV) (ds : List DV) (k : DV → Option DV) : Option DV :=
  match ds with
  | [.val (.agg ⟨[.int .i64 a, .int .i64 b, .int .i64 c, .int .i64 d, .int .i64 e, .bool f, .bool g]⟩), .val (.agg ⟨[.int .i64 h, .int .i64 i, .int .i64 j, .int .i64 l, .int .i64 m, .bool n, .bool o]⟩), .val (.agg ⟨[.int .i64 p, .int .i64 q, .int .i64 r, .int .i64 s, .int .i64 t, .bool u, .bool v]⟩)] => f0 a b c d e f g h i j l m n o p q r s t u v (fun w x y z aa ab ac => k (.val (.agg ⟨[.int .i64 w, .int .i64 x, .int .i64 y, .int .i64 z, .int .i64 aa, .bool ab, .bool ac]⟩)))
  | _ => none

theorem r_span_pick (f0 : Int → Int → Int → Int → Int → Bool → Bool → Int → Int → Int → Int → Int → Bool → Bool → KS → Option DV) (f1 : Int → Int → Int → Int → Int → Bool → Bool → KB → Option DV) (f2 : Int → Int → Int → Int → Int → Bool → Bool → Int → Int → KB → Option DV) (f3 : KQ → Option DV) (a b c d e : Int) (f g : Bool) (h i j l m : Int) (n o : Bool) (p q r s t : Int) (u v : Bool) (k : DV → Option DV) : B_span_pick f0 f1 f2 f3 a b c d e f g h i j l m n o p q r s t u v (fun w x y z aa ab ac => k (.val (.agg ⟨[.int .i64 w, .int .i64 x, .int .i64 y, .int .i64 z, .int .i64 aa, .bool ab, .bool ac]⟩))) = pevF Tryz.prog (tab [(10, (KK_span_Has f2)), (71, (KK_span_Join f0)), (69, (KK_span_zero f3)), (70, (KK_span_isZero f1))]) [] 64 Tryz.f29 (bodyOf Tryz.f29) [.val (.agg ⟨[.int .i64 a, .int .i64 b, .int .i64 c, .int .i64 d, .int .i64 e, .bool f, .bool g]⟩), .val (.agg ⟨[.int .i64 h, .int .i64 i, .int .i64 j, .int .i64 l, .int .i64 m, .bool n, .bool o]⟩), .val (.agg ⟨[.int .i64 p, .int .i64 q, .int .i64 r, .int .i64 s, .int .i64 t, .bool u, .bool v]⟩)] k := by kernel_rfl

theorem m_span_pick : Meets Tryz.prog Inv 29 (KK_span_pick span_pick) :=
  meets_of_pev mixed stab (tab_cons m_span_Has (tab_cons m_span_Join (tab_cons m_span_zero (tab_cons m_span_isZero (tab_nil _ _))))) Tryz.func29 (by kernel_rfl) (by kernel_rfl) (by
    intro ds; unfold KK_span_pick; split
    · exact .inr ⟨[], 64, fun k => r_span_pick span_Join span_isZero span_Has span_zero _ _ _ _ _ _ _ _ _ _ _ _ _ _ _ _ _ _ _ _ _ k⟩
    · exact .inl (fun _ => rfl))

noncomputable def B_span_counted (f0 : Int → Int → KB → Option DV) (a b : Int) (k : KQ) : Option DV :=
  f0 a b (fun c => bif !c then (k 0 0) else (k a b))
noncomputable def span_counted (a b : Int) (k : KQ) : Option DV := B_span_counted ratio_Is a b k

noncomputable def KK_span_counted (f0 : Int → Int → KQ → Option DV) (ds : List DV) (k : DV → Option DV) : Option DV :=
  match ds with
  | [.val (.agg ⟨[.int .i64 a, .int .i64 b]⟩)] => f0 a b (fun c d => k (.val (.agg ⟨[.int .i64 c, .int .i64 d]⟩)))
  | _ => none

theorem r_span_counted (f0 : Int → Int → KB → Option DV) (a b : Int) (k : DV → Option DV) : B_span_counted f0 a b (fun c d => k (.val (.agg ⟨[.int .i64 c, .int .i64 d]⟩))) = pevF Tryz.prog (tab [(31, (KK_ratio_Is f0))]) [] 64 Tryz.f51 (bodyOf Tryz.f51) [.val (.agg ⟨[.int .i64 a, .int .i64 b]⟩)] k := by kernel_rfl

theorem m_span_counted : Meets Tryz.prog Inv 51 (KK_span_counted span_counted) :=
  meets_of_pev mixed stab (tab_cons m_ratio_Is (tab_nil _ _)) Tryz.func51 (by kernel_rfl) (by kernel_rfl) (by
    intro ds; unfold KK_span_counted; split
    · exact .inr ⟨[], 64, fun k => r_span_counted ratio_Is _ _ k⟩
    · exact .inl (fun _ => rfl))

noncomputable def B_span_Make (f0 : Bool → KS → Option DV) (f1 : Int → Int → KQ → Option DV) (f2 : Int → KB → Option DV) (f3 : Int → Int → Int → Int → KB → Option DV) (a b c d e : Int) (k : KS) : Option DV :=
  f3 a b c d (fun f => bif f then (f0 false (fun g h i j l m n => k g h i j l m n)) else (f2 e (fun o => bif !o then (f1 a b (fun p q => f1 c d (fun r s => k p q r s 0 false false))) else (f1 a b (fun t u => f1 c d (fun v w => k t u v w e false false))))))
noncomputable def span_Make (a b c d e : Int) (k : KS) : Option DV := B_span_Make span_nothing span_counted span_isDen span_isOutOfOrder a b c d e k

noncomputable def KK_span_Make (f0 : Int → Int → Int → Int → Int → KS → Option DV) (ds : List DV) (k : DV → Option DV) : Option DV :=
  match ds with
  | [.val (.agg ⟨[.int .i64 a, .int .i64 b]⟩), .val (.agg ⟨[.int .i64 c, .int .i64 d]⟩), .val (.int .i64 e)] => f0 a b c d e (fun f g h i j l m => k (.val (.agg ⟨[.int .i64 f, .int .i64 g, .int .i64 h, .int .i64 i, .int .i64 j, .bool l, .bool m]⟩)))
  | _ => none

theorem r_span_Make (f0 : Bool → KS → Option DV) (f1 : Int → Int → KQ → Option DV) (f2 : Int → KB → Option DV) (f3 : Int → Int → Int → Int → KB → Option DV) (a b c d e : Int) (k : DV → Option DV) : B_span_Make f0 f1 f2 f3 a b c d e (fun f g h i j l m => k (.val (.agg ⟨[.int .i64 f, .int .i64 g, .int .i64 h, .int .i64 i, .int .i64 j, .bool l, .bool m]⟩))) = pevF Tryz.prog (tab [(20, (KK_span_nothing f0)), (49, (KK_span_isOutOfOrder f3)), (50, (KK_span_isDen f2)), (51, (KK_span_counted f1))]) [] 64 Tryz.f12 (bodyOf Tryz.f12) [.val (.agg ⟨[.int .i64 a, .int .i64 b]⟩), .val (.agg ⟨[.int .i64 c, .int .i64 d]⟩), .val (.int .i64 e)] k := by kernel_rfl

theorem m_span_Make : Meets Tryz.prog Inv 12 (KK_span_Make span_Make) :=
  meets_of_pev mixed stab (tab_cons m_span_nothing (tab_cons m_span_isOutOfOrder (tab_cons m_span_isDen (tab_cons m_span_counted (tab_nil _ _))))) Tryz.func12 (by kernel_rfl) (by kernel_rfl) (by
    intro ds; unfold KK_span_Make; split
    · exact .inr ⟨[], 64, fun k => r_span_Make span_nothing span_counted span_isDen span_isOutOfOrder _ _ _ _ _ k⟩
    · exact .inl (fun _ => rfl))

noncomputable def B_span_turned (f0 : Int → Int → Int → Int → Int → KS → Option DV) (f1 : Int → Int → KQ → Option DV) (a b c d e : Int) (r s : Bool) (k : KS) : Option DV :=
  f1 c d (fun f g => f1 a b (fun h i => f0 f g h i e (fun j l m n o p q => k j l m n o p q)))
noncomputable def span_turned (a b c d e : Int) (f g : Bool) (k : KS) : Option DV := B_span_turned span_Make ratio_Neg a b c d e f g k

noncomputable def KK_span_turned (f0 : Int → Int → Int → Int → Int → Bool → Bool → KS → Option DV) (ds : List DV) (k : DV → Option DV) : Option DV :=
  match ds with
  | [.val (.agg ⟨[.int .i64 a, .int .i64 b, .int .i64 c, .int .i64 d, .int .i64 e, .bool f, .bool g]⟩)] => f0 a b c d e f g (fun h i j l m n o => k (.val (.agg ⟨[.int .i64 h, .int .i64 i, .int .i64 j, .int .i64 l, .int .i64 m, .bool n, .bool o]⟩)))
  | _ => none

theorem r_span_turned (f0 : Int → Int → Int → Int → Int → KS → Option DV) (f1 : Int → Int → KQ → Option DV) (a b c d e : Int) (f g : Bool) (k : DV → Option DV) : B_span_turned f0 f1 a b c d e f g (fun h i j l m n o => k (.val (.agg ⟨[.int .i64 h, .int .i64 i, .int .i64 j, .int .i64 l, .int .i64 m, .bool n, .bool o]⟩))) = pevF Tryz.prog (tab [(12, (KK_span_Make f0)), (64, (KK_ratio_Neg f1))]) [] 64 Tryz.f99 (bodyOf Tryz.f99) [.val (.agg ⟨[.int .i64 a, .int .i64 b, .int .i64 c, .int .i64 d, .int .i64 e, .bool f, .bool g]⟩)] k := by kernel_rfl

theorem m_span_turned : Meets Tryz.prog Inv 99 (KK_span_turned span_turned) :=
  meets_of_pev mixed stab (tab_cons m_span_Make (tab_cons m_ratio_Neg (tab_nil _ _))) Tryz.func99 (by kernel_rfl) (by kernel_rfl) (by
    intro ds; unfold KK_span_turned; split
    · exact .inr ⟨[], 64, fun k => r_span_turned span_Make ratio_Neg _ _ _ _ _ _ _ k⟩
    · exact .inl (fun _ => rfl))

noncomputable def B_span_givingWay_ratio_Min (f0 : Int → Int → Int → Int → KQ → Option DV) (f1 : Int → Int → KB → Option DV) (a b c d : Int) (k : KQ) : Option DV :=
  f1 a b (fun e => bif e then (k c d) else (f1 c d (fun f => bif f then (k a b) else (f0 a b c d (fun g h => k g h)))))
noncomputable def span_givingWay_ratio_Min (a b c d : Int) (k : KQ) : Option DV := B_span_givingWay_ratio_Min ratio_Min span_isOpen a b c d k

noncomputable def B_span_givingWay_ratio_Max (f0 : Int → Int → Int → Int → KQ → Option DV) (f1 : Int → Int → KB → Option DV) (a b c d : Int) (k : KQ) : Option DV :=
  f1 a b (fun e => bif e then (k c d) else (f1 c d (fun f => bif f then (k a b) else (f0 a b c d (fun g h => k g h)))))
noncomputable def span_givingWay_ratio_Max (a b c d : Int) (k : KQ) : Option DV := B_span_givingWay_ratio_Max ratio_Max span_isOpen a b c d k

noncomputable def KK_span_givingWay_at1 (f1 : Int → Int → Int → Int → KQ → Option DV) (ds : List DV) (k : DV → Option DV) : Option DV :=
  match ds with
  | [.val (.func (.func 97) ⟨[]⟩ ⟨[]⟩), .val (.agg ⟨[.int .i64 a, .int .i64 b]⟩), .val (.agg ⟨[.int .i64 c, .int .i64 d]⟩)] => f1 a b c d (fun e f => k (.val (.agg ⟨[.int .i64 e, .int .i64 f]⟩)))
  | _ => none
noncomputable def KK_span_givingWay (f0 : Int → Int → Int → Int → KQ → Option DV) (f1 : Int → Int → Int → Int → KQ → Option DV) (ds : List DV) (k : DV → Option DV) : Option DV :=
  match ds with
  | [.val (.func (.func 96) ⟨[]⟩ ⟨[]⟩), .val (.agg ⟨[.int .i64 a, .int .i64 b]⟩), .val (.agg ⟨[.int .i64 c, .int .i64 d]⟩)] => f0 a b c d (fun e f => k (.val (.agg ⟨[.int .i64 e, .int .i64 f]⟩)))
  | _ => KK_span_givingWay_at1 f1 ds k

theorem r_span_givingWay_ratio_Min (f0 : Int → Int → Int → Int → KQ → Option DV) (f1 : Int → Int → KB → Option DV) (a b c d : Int) (k : DV → Option DV) : B_span_givingWay_ratio_Min f0 f1 a b c d (fun e f => k (.val (.agg ⟨[.int .i64 e, .int .i64 f]⟩))) = pevF Tryz.prog (tab [(26, (KK_span_isOpen f1)), (96, (KK_ratio_Min f0)), (97, (KK_ratio_Max ratio_Max))]) [] 64 Tryz.f109 (bodyOf Tryz.f109) [.val (.func (.func 96) ⟨[]⟩ ⟨[]⟩), .val (.agg ⟨[.int .i64 a, .int .i64 b]⟩), .val (.agg ⟨[.int .i64 c, .int .i64 d]⟩)] k := by kernel_rfl

theorem r_span_givingWay_ratio_Max (f0 : Int → Int → Int → Int → KQ → Option DV) (f1 : Int → Int → KB → Option DV) (a b c d : Int) (k : DV → Option DV) : B_span_givingWay_ratio_Max f0 f1 a b c d (fun e f => k (.val (.agg ⟨[.int .i64 e, .int .i64 f]⟩))) = pevF Tryz.prog (tab [(26, (KK_span_isOpen f1)), (96, (KK_ratio_Min ratio_Min)), (97, (KK_ratio_Max f0))]) [] 64 Tryz.f109 (bodyOf Tryz.f109) [.val (.func (.func 97) ⟨[]⟩ ⟨[]⟩), .val (.agg ⟨[.int .i64 a, .int .i64 b]⟩), .val (.agg ⟨[.int .i64 c, .int .i64 d]⟩)] k := by kernel_rfl

theorem m_span_givingWay : Meets Tryz.prog Inv 109 (KK_span_givingWay span_givingWay_ratio_Min span_givingWay_ratio_Max) :=
  meets_of_pev mixed stab (tab_cons m_span_isOpen (tab_cons m_ratio_Min (tab_cons m_ratio_Max (tab_nil _ _)))) Tryz.func109 (by kernel_rfl) (by kernel_rfl) (by
    intro ds; unfold KK_span_givingWay; split
    · exact .inr ⟨[], 64, fun k => r_span_givingWay_ratio_Min ratio_Min span_isOpen _ _ _ _ k⟩
    unfold KK_span_givingWay_at1; split
    · exact .inr ⟨[], 64, fun k => r_span_givingWay_ratio_Max ratio_Max span_isOpen _ _ _ _ k⟩
    · exact .inl (fun _ => rfl))

noncomputable def B_span_sizes (f0 : Int → Int → Int → Int → Int → KS → Option DV) (f1 : Int → Int → Int → Int → KQ → Option DV) (f2 : KQ → Option DV) (f3 : Int → Int → Int → Int → Int → Bool → Bool → Int → Int → KB → Option DV) (f4 : Int → Int → Int → Int → KQ → Option DV) (f5 : Int → Int → KQ → Option DV) (f g h i a : Int) (j l : Bool) (k : KS) : Option DV :=
  f5 f g (fun b c => f5 h i (fun d e => f4 b c d e (fun m n => f2  (fun o p => f3 f g h i a j l o p (fun q => bif q then (f2  (fun r s => f1 b c d e (fun t u => f0 r s t u a (fun v w x y z aa ab => k v w x y z aa ab)))) else (f1 b c d e (fun ac ad => f0 m n ac ad a (fun ae af ag ah ai aj al => k ae af ag ah ai aj al))))))))
noncomputable def span_sizes (a b c d e : Int) (f g : Bool) (k : KS) : Option DV := B_span_sizes span_Make ratio_Max span_zero span_Has span_givingWay_ratio_Min ratio_Abs a b c d e f g k

noncomputable def KK_span_sizes (f0 : Int → Int → Int → Int → Int → Bool → Bool → KS → Option DV) (ds : List DV) (k : DV → Option DV) : Option DV :=
  match ds with
  | [.val (.agg ⟨[.int .i64 a, .int .i64 b, .int .i64 c, .int .i64 d, .int .i64 e, .bool f, .bool g]⟩)] => f0 a b c d e f g (fun h i j l m n o => k (.val (.agg ⟨[.int .i64 h, .int .i64 i, .int .i64 j, .int .i64 l, .int .i64 m, .bool n, .bool o]⟩)))
  | _ => none

theorem r_span_sizes (f0 : Int → Int → Int → Int → Int → KS → Option DV) (f1 : Int → Int → Int → Int → KQ → Option DV) (f2 : KQ → Option DV) (f3 : Int → Int → Int → Int → Int → Bool → Bool → Int → Int → KB → Option DV) (f4 : Int → Int → Int → Int → KQ → Option DV) (f5 : Int → Int → KQ → Option DV) (a b c d e : Int) (f g : Bool) (k : DV → Option DV) : B_span_sizes f0 f1 f2 f3 f4 f5 a b c d e f g (fun h i j l m n o => k (.val (.agg ⟨[.int .i64 h, .int .i64 i, .int .i64 j, .int .i64 l, .int .i64 m, .bool n, .bool o]⟩))) = pevF Tryz.prog (tab [(10, (KK_span_Has f3)), (12, (KK_span_Make f0)), (97, (KK_ratio_Max f1)), (109, (KK_span_givingWay f4 span_givingWay_ratio_Max)), (69, (KK_span_zero f2)), (126, (KK_ratio_Abs f5))]) [] 64 Tryz.f100 (bodyOf Tryz.f100) [.val (.agg ⟨[.int .i64 a, .int .i64 b, .int .i64 c, .int .i64 d, .int .i64 e, .bool f, .bool g]⟩)] k := by kernel_rfl

theorem m_span_sizes : Meets Tryz.prog Inv 100 (KK_span_sizes span_sizes) :=
  meets_of_pev mixed stab (tab_cons m_span_Has (tab_cons m_span_Make (tab_cons m_ratio_Max (tab_cons m_span_givingWay (tab_cons m_span_zero (tab_cons m_ratio_Abs (tab_nil _ _))))))) Tryz.func100 (by kernel_rfl) (by kernel_rfl) (by
    intro ds; unfold KK_span_sizes; split
    · exact .inr ⟨[], 64, fun k => r_span_sizes span_Make ratio_Max span_zero span_Has span_givingWay_ratio_Min ratio_Abs _ _ _ _ _ _ _ k⟩
    · exact .inl (fun _ => rfl))

noncomputable def B_span_Point (f0 : Bool → KS → Option DV) (f1 : Int → Int → KB → Option DV) (b a : Int) (k : KS) : Option DV :=
  f1 b a (fun c => bif !c then (f0 true (fun d e f g h i j => k d e f g h i j)) else (k b a b a a false false))
noncomputable def span_Point (a b : Int) (k : KS) : Option DV := B_span_Point span_nothing ratio_Is a b k

noncomputable def KK_span_Point (f0 : Int → Int → KS → Option DV) (ds : List DV) (k : DV → Option DV) : Option DV :=
  match ds with
  | [.val (.agg ⟨[.int .i64 a, .int .i64 b]⟩)] => f0 a b (fun c d e f g h i => k (.val (.agg ⟨[.int .i64 c, .int .i64 d, .int .i64 e, .int .i64 f, .int .i64 g, .bool h, .bool i]⟩)))
  | _ => none

theorem r_span_Point (f0 : Bool → KS → Option DV) (f1 : Int → Int → KB → Option DV) (a b : Int) (k : DV → Option DV) : B_span_Point f0 f1 a b (fun c d e f g h i => k (.val (.agg ⟨[.int .i64 c, .int .i64 d, .int .i64 e, .int .i64 f, .int .i64 g, .bool h, .bool i]⟩))) = pevF Tryz.prog (tab [(20, (KK_span_nothing f0)), (31, (KK_ratio_Is f1))]) [] 64 Tryz.f129 (bodyOf Tryz.f129) [.val (.agg ⟨[.int .i64 a, .int .i64 b]⟩)] k := by kernel_rfl

theorem m_span_Point : Meets Tryz.prog Inv 129 (KK_span_Point span_Point) :=
  meets_of_pev mixed stab (tab_cons m_span_nothing (tab_cons m_ratio_Is (tab_nil _ _))) Tryz.func129 (by kernel_rfl) (by kernel_rfl) (by
    intro ds; unfold KK_span_Point; split
    · exact .inr ⟨[], 64, fun k => r_span_Point span_nothing ratio_Is _ _ k⟩
    · exact .inl (fun _ => rfl))

noncomputable def B_span_one (f0 : Int → Int → KQ → Option DV)  (k : KQ) : Option DV :=
  f0 1 1 (fun a b => k a b)
noncomputable def span_one  (k : KQ) : Option DV := B_span_one ratio_Make  k

noncomputable def KK_span_one (f0 : KQ → Option DV) (ds : List DV) (k : DV → Option DV) : Option DV :=
  match ds with
  | [] => f0  (fun a b => k (.val (.agg ⟨[.int .i64 a, .int .i64 b]⟩)))
  | _ => none

theorem r_span_one (f0 : Int → Int → KQ → Option DV)  (k : DV → Option DV) : B_span_one f0  (fun a b => k (.val (.agg ⟨[.int .i64 a, .int .i64 b]⟩))) = pevF Tryz.prog (tab [(90, (KK_ratio_Make f0))]) [] 64 Tryz.f130 (bodyOf Tryz.f130) [] k := by kernel_rfl

theorem m_span_one : Meets Tryz.prog Inv 130 (KK_span_one span_one) :=
  meets_of_pev mixed stab (tab_cons m_ratio_Make (tab_nil _ _)) Tryz.func130 (by kernel_rfl) (by kernel_rfl) (by
    intro ds; unfold KK_span_one; split
    · exact .inr ⟨[], 64, fun k => r_span_one ratio_Make  k⟩
    · exact .inl (fun _ => rfl))

noncomputable def B_span_rests (f0 : Int → Int → KS → Option DV) (f1 : KQ → Option DV) (f2 : Int → Int → Int → Int → Int → KS → Option DV) (f3 : KQ → Option DV) (w x y z a : Int) (aa ab : Bool) (k : KS) : Option DV :=
  bif a == 1 then (f1  (fun b c => f0 b c (fun d e f g h i j => k d e f g h i j))) else (f1  (fun l m => f3  (fun n o => f2 l m n o a (fun p q r s t u v => k p q r s t u v))))
noncomputable def span_rests (a b c d e : Int) (f g : Bool) (k : KS) : Option DV := B_span_rests span_Point span_zero span_Make span_one a b c d e f g k

noncomputable def KK_span_rests (f0 : Int → Int → Int → Int → Int → Bool → Bool → KS → Option DV) (ds : List DV) (k : DV → Option DV) : Option DV :=
  match ds with
  | [.val (.agg ⟨[.int .i64 a, .int .i64 b, .int .i64 c, .int .i64 d, .int .i64 e, .bool f, .bool g]⟩)] => f0 a b c d e f g (fun h i j l m n o => k (.val (.agg ⟨[.int .i64 h, .int .i64 i, .int .i64 j, .int .i64 l, .int .i64 m, .bool n, .bool o]⟩)))
  | _ => none

theorem r_span_rests (f0 : Int → Int → KS → Option DV) (f1 : KQ → Option DV) (f2 : Int → Int → Int → Int → Int → KS → Option DV) (f3 : KQ → Option DV) (a b c d e : Int) (f g : Bool) (k : DV → Option DV) : B_span_rests f0 f1 f2 f3 a b c d e f g (fun h i j l m n o => k (.val (.agg ⟨[.int .i64 h, .int .i64 i, .int .i64 j, .int .i64 l, .int .i64 m, .bool n, .bool o]⟩))) = pevF Tryz.prog (tab [(12, (KK_span_Make f2)), (69, (KK_span_zero f1)), (129, (KK_span_Point f0)), (130, (KK_span_one f3))]) [] 64 Tryz.f103 (bodyOf Tryz.f103) [.val (.agg ⟨[.int .i64 a, .int .i64 b, .int .i64 c, .int .i64 d, .int .i64 e, .bool f, .bool g]⟩)] k := by kernel_rfl

theorem m_span_rests : Meets Tryz.prog Inv 103 (KK_span_rests span_rests) :=
  meets_of_pev mixed stab (tab_cons m_span_Make (tab_cons m_span_zero (tab_cons m_span_Point (tab_cons m_span_one (tab_nil _ _))))) Tryz.func103 (by kernel_rfl) (by kernel_rfl) (by
    intro ds; unfold KK_span_rests; split
    · exact .inr ⟨[], 64, fun k => r_span_rests span_Point span_zero span_Make span_one _ _ _ _ _ _ _ k⟩
    · exact .inl (fun _ => rfl))

noncomputable def B_span_either (f0 : Int → Int → Int → Int → Int → KS → Option DV) (f1 : KQ → Option DV) (f2 : KQ → Option DV)  (k : KS) : Option DV :=
  f2  (fun a b => f1  (fun c d => f0 a b c d 1 (fun e f g h i j l => k e f g h i j l)))
noncomputable def span_either  (k : KS) : Option DV := B_span_either span_Make span_one span_zero  k

noncomputable def KK_span_either (f0 : KS → Option DV) (ds : List DV) (k : DV → Option DV) : Option DV :=
  match ds with
  | [] => f0  (fun a b c d e f g => k (.val (.agg ⟨[.int .i64 a, .int .i64 b, .int .i64 c, .int .i64 d, .int .i64 e, .bool f, .bool g]⟩)))
  | _ => none

theorem r_span_either (f0 : Int → Int → Int → Int → Int → KS → Option DV) (f1 : KQ → Option DV) (f2 : KQ → Option DV)  (k : DV → Option DV) : B_span_either f0 f1 f2  (fun a b c d e f g => k (.val (.agg ⟨[.int .i64 a, .int .i64 b, .int .i64 c, .int .i64 d, .int .i64 e, .bool f, .bool g]⟩))) = pevF Tryz.prog (tab [(12, (KK_span_Make f0)), (69, (KK_span_zero f2)), (130, (KK_span_one f1))]) [] 64 Tryz.f131 (bodyOf Tryz.f131) [] k := by kernel_rfl

theorem m_span_either : Meets Tryz.prog Inv 131 (KK_span_either span_either) :=
  meets_of_pev mixed stab (tab_cons m_span_Make (tab_cons m_span_zero (tab_cons m_span_one (tab_nil _ _)))) Tryz.func131 (by kernel_rfl) (by kernel_rfl) (by
    intro ds; unfold KK_span_either; split
    · exact .inr ⟨[], 64, fun k => r_span_either span_Make span_one span_zero  k⟩
    · exact .inl (fun _ => rfl))

noncomputable def B_span_opposites (f0 : Int → Int → KS → Option DV) (f1 : KQ → Option DV) (f2 : KQ → Option DV) (f3 : KS → Option DV) (f4 : Int → Int → Int → Int → Int → Bool → Bool → Int → Int → KB → Option DV) (f5 : Int → Int → Int → Int → Int → Bool → Bool → KB → Option DV) (a b c d e : Int) (f g : Bool) (k : KS) : Option DV :=
  f5 a b c d e f g (fun h => bif h then (f1  (fun i j => f0 i j (fun l m n o p q r => k l m n o p q r))) else (f2  (fun s t => f4 a b c d e f g s t (fun u => bif !u then (f2  (fun v w => f0 v w (fun x y z aa ab ac ad => k x y z aa ab ac ad))) else (f3  (fun ae af ag ah ai aj al => k ae af ag ah ai aj al))))))
noncomputable def span_opposites (a b c d e : Int) (f g : Bool) (k : KS) : Option DV := B_span_opposites span_Point span_one span_zero span_either span_Has span_isZero a b c d e f g k

noncomputable def KK_span_opposites (f0 : Int → Int → Int → Int → Int → Bool → Bool → KS → Option DV) (ds : List DV) (k : DV → Option DV) : Option DV :=
  match ds with
  | [.val (.agg ⟨[.int .i64 a, .int .i64 b, .int .i64 c, .int .i64 d, .int .i64 e, .bool f, .bool g]⟩)] => f0 a b c d e f g (fun h i j l m n o => k (.val (.agg ⟨[.int .i64 h, .int .i64 i, .int .i64 j, .int .i64 l, .int .i64 m, .bool n, .bool o]⟩)))
  | _ => none

theorem r_span_opposites (f0 : Int → Int → KS → Option DV) (f1 : KQ → Option DV) (f2 : KQ → Option DV) (f3 : KS → Option DV) (f4 : Int → Int → Int → Int → Int → Bool → Bool → Int → Int → KB → Option DV) (f5 : Int → Int → Int → Int → Int → Bool → Bool → KB → Option DV) (a b c d e : Int) (f g : Bool) (k : DV → Option DV) : B_span_opposites f0 f1 f2 f3 f4 f5 a b c d e f g (fun h i j l m n o => k (.val (.agg ⟨[.int .i64 h, .int .i64 i, .int .i64 j, .int .i64 l, .int .i64 m, .bool n, .bool o]⟩))) = pevF Tryz.prog (tab [(10, (KK_span_Has f4)), (69, (KK_span_zero f2)), (70, (KK_span_isZero f5)), (129, (KK_span_Point f0)), (130, (KK_span_one f1)), (131, (KK_span_either f3))]) [] 64 Tryz.f104 (bodyOf Tryz.f104) [.val (.agg ⟨[.int .i64 a, .int .i64 b, .int .i64 c, .int .i64 d, .int .i64 e, .bool f, .bool g]⟩)] k := by kernel_rfl

theorem m_span_opposites : Meets Tryz.prog Inv 104 (KK_span_opposites span_opposites) :=
  meets_of_pev mixed stab (tab_cons m_span_Has (tab_cons m_span_zero (tab_cons m_span_isZero (tab_cons m_span_Point (tab_cons m_span_one (tab_cons m_span_either (tab_nil _ _))))))) Tryz.func104 (by kernel_rfl) (by kernel_rfl) (by
    intro ds; unfold KK_span_opposites; split
    · exact .inr ⟨[], 64, fun k => r_span_opposites span_Point span_one span_zero span_either span_Has span_isZero _ _ _ _ _ _ _ k⟩
    · exact .inl (fun _ => rfl))

noncomputable def B_span_ofOne (f0 : Int → Int → Int → Int → Int → Bool → Bool → KS → Option DV) (f1 : Int → Int → Int → Int → Int → Bool → Bool → KS → Option DV) (f2 : Int → Int → Int → Int → Int → KS → Option DV) (f3 : Int → Int → KQ → Option DV) (f4 : Int → Int → KQ → Option DV) (f5 : Int → Int → Int → Int → Int → Bool → Bool → KS → Option DV) (f6 : Int → Int → Int → Int → Int → Bool → Bool → KS → Option DV) (e : ByteArray) (a b c d f : Int) (g h : Bool) (k : KS) : Option DV :=
  bif (toList e == toList (⟨#[110, 101, 103]⟩)) then (f0 a b c d f g h (fun i j l m n o p => k i j l m n o p)) else (bif (toList e == toList (⟨#[97, 98, 115]⟩)) then (f1 a b c d f g h (fun q r s t u v w => k q r s t u v w)) else (bif (toList e == toList (⟨#[102, 108, 111, 111, 114]⟩)) then (f3 a b (fun x y => f3 c d (fun z aa => f2 x y z aa 1 (fun ab ac ad ae af ag ah => k ab ac ad ae af ag ah)))) else (bif (toList e == toList (⟨#[114, 111, 117, 110, 100]⟩)) then (f4 a b (fun ai aj => f4 c d (fun al am => f2 ai aj al am 1 (fun an ao ap aq ar au av => k an ao ap aq ar au av)))) else (bif (toList e == toList (⟨#[102, 114, 97, 99]⟩)) then (f5 a b c d f g h (fun aw ax ay az ba bb bc => k aw ax ay az ba bb bc)) else (f6 a b c d f g h (fun bd be bf bg bh bi bj => k bd be bf bg bh bi bj))))))
noncomputable def span_ofOne (a : ByteArray) (b c d e f : Int) (g h : Bool) (k : KS) : Option DV := B_span_ofOne span_turned span_sizes span_Make ratio_Floor ratio_Round span_rests span_opposites a b c d e f g h k

noncomputable def KK_span_ofOne (f0 : ByteArray → Int → Int → Int → Int → Int → Bool → Bool → KS → Option DV) (ds : List DV) (k : DV → Option DV) : Option DV :=
  match ds with
  | [.val (.string a), .val (.agg ⟨[.int .i64 b, .int .i64 c, .int .i64 d, .int .i64 e, .int .i64 f, .bool g, .bool h]⟩)] => f0 a b c d e f g h (fun i j l m n o p => k (.val (.agg ⟨[.int .i64 i, .int .i64 j, .int .i64 l, .int .i64 m, .int .i64 n, .bool o, .bool p]⟩)))
  | _ => none

theorem r_span_ofOne (f0 : Int → Int → Int → Int → Int → Bool → Bool → KS → Option DV) (f1 : Int → Int → Int → Int → Int → Bool → Bool → KS → Option DV) (f2 : Int → Int → Int → Int → Int → KS → Option DV) (f3 : Int → Int → KQ → Option DV) (f4 : Int → Int → KQ → Option DV) (f5 : Int → Int → Int → Int → Int → Bool → Bool → KS → Option DV) (f6 : Int → Int → Int → Int → Int → Bool → Bool → KS → Option DV) (a : ByteArray) (b c d e f : Int) (g h : Bool) (k : DV → Option DV) : B_span_ofOne f0 f1 f2 f3 f4 f5 f6 a b c d e f g h (fun i j l m n o p => k (.val (.agg ⟨[.int .i64 i, .int .i64 j, .int .i64 l, .int .i64 m, .int .i64 n, .bool o, .bool p]⟩))) = pevF Tryz.prog (tab [(12, (KK_span_Make f2)), (99, (KK_span_turned f0)), (100, (KK_span_sizes f1)), (101, (KK_ratio_Floor f3)), (102, (KK_ratio_Round f4)), (103, (KK_span_rests f5)), (104, (KK_span_opposites f6))]) [] 64 Tryz.f72 (bodyOf Tryz.f72) [.val (.string a), .val (.agg ⟨[.int .i64 b, .int .i64 c, .int .i64 d, .int .i64 e, .int .i64 f, .bool g, .bool h]⟩)] k := by kernel_rfl

theorem m_span_ofOne : Meets Tryz.prog Inv 72 (KK_span_ofOne span_ofOne) :=
  meets_of_pev mixed stab (tab_cons m_span_Make (tab_cons m_span_turned (tab_cons m_span_sizes (tab_cons m_ratio_Floor (tab_cons m_ratio_Round (tab_cons m_span_rests (tab_cons m_span_opposites (tab_nil _ _)))))))) Tryz.func72 (by kernel_rfl) (by kernel_rfl) (by
    intro ds; unfold KK_span_ofOne; split
    · exact .inr ⟨[], 64, fun k => r_span_ofOne span_turned span_sizes span_Make ratio_Floor ratio_Round span_rests span_opposites _ _ _ _ _ _ _ _ k⟩
    · exact .inl (fun _ => rfl))

noncomputable def B_span_end_isOpen  (b a : Int) (k : KB) : Option DV :=
  k (a == 0)
noncomputable def span_end_isOpen (a b : Int) (k : KB) : Option DV := B_span_end_isOpen  a b k

noncomputable def KK_span_end_isOpen (f0 : Int → Int → KB → Option DV) (ds : List DV) (k : DV → Option DV) : Option DV :=
  match ds with
  | [.val (.agg ⟨[.int .i64 a, .int .i64 b]⟩)] => f0 a b (fun c => k (.val (.bool c)))
  | _ => none

theorem r_span_end_isOpen  (a b : Int) (k : DV → Option DV) : B_span_end_isOpen  a b (fun c => k (.val (.bool c))) = pevF Tryz.prog (tab []) [] 64 Tryz.f159 (bodyOf Tryz.f159) [.val (.agg ⟨[.int .i64 a, .int .i64 b]⟩)] k := by kernel_rfl

theorem m_span_end_isOpen : Meets Tryz.prog Inv 159 (KK_span_end_isOpen span_end_isOpen) :=
  meets_of_pev mixed stab (tab_nil _ _) Tryz.func159 (by kernel_rfl) (by kernel_rfl) (by
    intro ds; unfold KK_span_end_isOpen; split
    · exact .inr ⟨[], 64, fun k => r_span_end_isOpen  _ _ k⟩
    · exact .inl (fun _ => rfl))

noncomputable def B_span_end_lower (f0 : Int → Int → KQ → Option DV) (f1 : Int → Int → KB → Option DV) (f2 : Int → Int → KB → Option DV) (a b : Int) (k : KQ) : Option DV :=
  f0 a b (fun c d => f2 c d (fun e => bif !e then (f1 a b (fun f => bif f then (k c d) else (bif b == 0 then none else (bif decide (a < 0) then (bif decide (IntKind.wrap .i64 ((IntKind.wrap .i64 (Int.tdiv a b)) - 1) ≥ 1073741824) then (k 0 0) else (f0 (IntKind.wrap .i64 ((IntKind.wrap .i64 (Int.tdiv a b)) - 1)) 1 (fun g h => k g h))) else (bif decide (IntKind.wrap .i64 (Int.tdiv a b) ≥ 1073741824) then (k 0 0) else (f0 (IntKind.wrap .i64 (Int.tdiv a b)) 1 (fun i j => k i j))))))) else (k c d)))
noncomputable def span_end_lower (a b : Int) (k : KQ) : Option DV := B_span_end_lower ratio_Make span_end_isOpen ratio_Is a b k

noncomputable def KK_span_end_lower (f0 : Int → Int → KQ → Option DV) (ds : List DV) (k : DV → Option DV) : Option DV :=
  match ds with
  | [.val (.agg ⟨[.int .i64 a, .int .i64 b]⟩)] => f0 a b (fun c d => k (.val (.agg ⟨[.int .i64 c, .int .i64 d]⟩)))
  | _ => none

theorem r_span_end_lower (f0 : Int → Int → KQ → Option DV) (f1 : Int → Int → KB → Option DV) (f2 : Int → Int → KB → Option DV) (a b : Int) (k : DV → Option DV) : B_span_end_lower f0 f1 f2 a b (fun c d => k (.val (.agg ⟨[.int .i64 c, .int .i64 d]⟩))) = pevF Tryz.prog (tab [(31, (KK_ratio_Is f2)), (90, (KK_ratio_Make f0)), (159, (KK_span_end_isOpen f1))]) [] 64 Tryz.f154 (bodyOf Tryz.f154) [.val (.agg ⟨[.int .i64 a, .int .i64 b]⟩)] k := by kernel_rfl

theorem m_span_end_lower : Meets Tryz.prog Inv 154 (KK_span_end_lower span_end_lower) :=
  meets_of_pev mixed stab (tab_cons m_ratio_Is (tab_cons m_ratio_Make (tab_cons m_span_end_isOpen (tab_nil _ _)))) Tryz.func154 (by kernel_rfl) (by kernel_rfl) (by
    intro ds; unfold KK_span_end_lower; split
    · exact .inr ⟨[], 64, fun k => r_span_end_lower ratio_Make span_end_isOpen ratio_Is _ _ k⟩
    · exact .inl (fun _ => rfl))

noncomputable def B_span_end_upper (f0 : Int → Int → KQ → Option DV) (f1 : Int → Int → KQ → Option DV) (a b : Int) (k : KQ) : Option DV :=
  f1 (IntKind.wrap .i64 (0 - a)) b (fun c d => f0 c d (fun e f => k e f))
noncomputable def span_end_upper (a b : Int) (k : KQ) : Option DV := B_span_end_upper ratio_Neg span_end_lower a b k

noncomputable def KK_span_end_upper (f0 : Int → Int → KQ → Option DV) (ds : List DV) (k : DV → Option DV) : Option DV :=
  match ds with
  | [.val (.agg ⟨[.int .i64 a, .int .i64 b]⟩)] => f0 a b (fun c d => k (.val (.agg ⟨[.int .i64 c, .int .i64 d]⟩)))
  | _ => none

theorem r_span_end_upper (f0 : Int → Int → KQ → Option DV) (f1 : Int → Int → KQ → Option DV) (a b : Int) (k : DV → Option DV) : B_span_end_upper f0 f1 a b (fun c d => k (.val (.agg ⟨[.int .i64 c, .int .i64 d]⟩))) = pevF Tryz.prog (tab [(64, (KK_ratio_Neg f0)), (154, (KK_span_end_lower f1))]) [] 64 Tryz.f155 (bodyOf Tryz.f155) [.val (.agg ⟨[.int .i64 a, .int .i64 b]⟩)] k := by kernel_rfl

theorem m_span_end_upper : Meets Tryz.prog Inv 155 (KK_span_end_upper span_end_upper) :=
  meets_of_pev mixed stab (tab_cons m_ratio_Neg (tab_cons m_span_end_lower (tab_nil _ _))) Tryz.func155 (by kernel_rfl) (by kernel_rfl) (by
    intro ds; unfold KK_span_end_upper; split
    · exact .inr ⟨[], 64, fun k => r_span_end_upper ratio_Neg span_end_lower _ _ k⟩
    · exact .inl (fun _ => rfl))

noncomputable def B_span_size  (a : Int) (k : KI) : Option DV :=
  k (IntKind.wrap .u64 ((if IntKind.wrap .i64 (0 - a) > a then IntKind.wrap .i64 (0 - a) else a)))
noncomputable def span_size (a : Int) (k : KI) : Option DV := B_span_size  a k

noncomputable def KK_span_size (f0 : Int → KI → Option DV) (ds : List DV) (k : DV → Option DV) : Option DV :=
  match ds with
  | [.val (.int .i64 a)] => f0 a (fun b => k (.val (.int .u64 b)))
  | _ => none

theorem r_span_size  (a : Int) (k : DV → Option DV) : B_span_size  a (fun b => k (.val (.int .u64 b))) = pevF Tryz.prog (tab []) [] 64 Tryz.f168 (bodyOf Tryz.f168) [.val (.int .i64 a)] k := by kernel_rfl

theorem m_span_size : Meets Tryz.prog Inv 168 (KK_span_size span_size) :=
  meets_of_pev mixed stab (tab_nil _ _) Tryz.func168 (by kernel_rfl) (by kernel_rfl) (by
    intro ds; unfold KK_span_size; split
    · exact .inr ⟨[], 64, fun k => r_span_size  _ k⟩
    · exact .inl (fun _ => rfl))

noncomputable def B_span_holds (f0 : Int → KI → Option DV) (a b c : Int) (k : KB) : Option DV :=
  f0 a (fun d => k (decide (IntKind.wrap .u64 (d * (IntKind.wrap .u64 (c))) ≤ IntKind.wrap .u64 (1073741824 * (IntKind.wrap .u64 (b))))))
noncomputable def span_holds (a b c : Int) (k : KB) : Option DV := B_span_holds span_size a b c k

noncomputable def KK_span_holds (f0 : Int → Int → Int → KB → Option DV) (ds : List DV) (k : DV → Option DV) : Option DV :=
  match ds with
  | [.val (.agg ⟨[.int .i64 a, .int .i64 b]⟩), .val (.int .i64 c)] => f0 a b c (fun d => k (.val (.bool d)))
  | _ => none

theorem r_span_holds (f0 : Int → KI → Option DV) (a b c : Int) (k : DV → Option DV) : B_span_holds f0 a b c (fun d => k (.val (.bool d))) = pevF Tryz.prog (tab [(168, (KK_span_size f0))]) [] 64 Tryz.f156 (bodyOf Tryz.f156) [.val (.agg ⟨[.int .i64 a, .int .i64 b]⟩), .val (.int .i64 c)] k := by kernel_rfl

theorem m_span_holds : Meets Tryz.prog Inv 156 (KK_span_holds span_holds) :=
  meets_of_pev mixed stab (tab_cons m_span_size (tab_nil _ _)) Tryz.func156 (by kernel_rfl) (by kernel_rfl) (by
    intro ds; unfold KK_span_holds; split
    · exact .inr ⟨[], 64, fun k => r_span_holds span_size _ _ _ k⟩
    · exact .inl (fun _ => rfl))

noncomputable def B_span_closed (f0 : Int → Int → Int → KB → Option DV) (f1 : Int → Int → KB → Option DV) (f2 : Int → Int → KQ → Option DV) (f3 : Int → Int → KQ → Option DV) (f g h i a : Int) (k : KS) : Option DV :=
  f3 f g (fun b c => f2 h i (fun d e => bif !(a == 0) then (f1 b c (fun j => bif !j then (f1 d e (fun l => bif !l then (f0 b c a (fun m => bif !(!m) then (f0 d e a (fun n => k b c d e a (!n) false)) else (k b c d e a true false))) else (k b c d e a true false))) else (k b c d e a true false))) else (k b c d e a true false)))
noncomputable def span_closed (a b c d e : Int) (k : KS) : Option DV := B_span_closed span_holds span_isOpen span_end_upper span_end_lower a b c d e k

noncomputable def KK_span_closed (f0 : Int → Int → Int → Int → Int → KS → Option DV) (ds : List DV) (k : DV → Option DV) : Option DV :=
  match ds with
  | [.val (.agg ⟨[.int .i64 a, .int .i64 b]⟩), .val (.agg ⟨[.int .i64 c, .int .i64 d]⟩), .val (.int .i64 e)] => f0 a b c d e (fun f g h i j l m => k (.val (.agg ⟨[.int .i64 f, .int .i64 g, .int .i64 h, .int .i64 i, .int .i64 j, .bool l, .bool m]⟩)))
  | _ => none

theorem r_span_closed (f0 : Int → Int → Int → KB → Option DV) (f1 : Int → Int → KB → Option DV) (f2 : Int → Int → KQ → Option DV) (f3 : Int → Int → KQ → Option DV) (a b c d e : Int) (k : DV → Option DV) : B_span_closed f0 f1 f2 f3 a b c d e (fun f g h i j l m => k (.val (.agg ⟨[.int .i64 f, .int .i64 g, .int .i64 h, .int .i64 i, .int .i64 j, .bool l, .bool m]⟩))) = pevF Tryz.prog (tab [(26, (KK_span_isOpen f1)), (154, (KK_span_end_lower f3)), (155, (KK_span_end_upper f2)), (156, (KK_span_holds f0))]) [] 64 Tryz.f132 (bodyOf Tryz.f132) [.val (.agg ⟨[.int .i64 a, .int .i64 b]⟩), .val (.agg ⟨[.int .i64 c, .int .i64 d]⟩), .val (.int .i64 e)] k := by kernel_rfl

theorem m_span_closed : Meets Tryz.prog Inv 132 (KK_span_closed span_closed) :=
  meets_of_pev mixed stab (tab_cons m_span_isOpen (tab_cons m_span_end_lower (tab_cons m_span_end_upper (tab_cons m_span_holds (tab_nil _ _))))) Tryz.func132 (by kernel_rfl) (by kernel_rfl) (by
    intro ds; unfold KK_span_closed; split
    · exact .inr ⟨[], 64, fun k => r_span_closed span_holds span_isOpen span_end_upper span_end_lower _ _ _ _ _ k⟩
    · exact .inl (fun _ => rfl))

noncomputable def B_span_plus  (c a d b : Int) (k : KQ) : Option DV :=
  k (IntKind.wrap .i64 ((IntKind.wrap .i64 (c * b)) + (IntKind.wrap .i64 (d * a)))) (IntKind.wrap .i64 (a * b))
noncomputable def span_plus (a b c d : Int) (k : KQ) : Option DV := B_span_plus  a b c d k

noncomputable def KK_span_plus (f0 : Int → Int → Int → Int → KQ → Option DV) (ds : List DV) (k : DV → Option DV) : Option DV :=
  match ds with
  | [.val (.agg ⟨[.int .i64 a, .int .i64 b]⟩), .val (.agg ⟨[.int .i64 c, .int .i64 d]⟩)] => f0 a b c d (fun e f => k (.val (.agg ⟨[.int .i64 e, .int .i64 f]⟩)))
  | _ => none

theorem r_span_plus  (a b c d : Int) (k : DV → Option DV) : B_span_plus  a b c d (fun e f => k (.val (.agg ⟨[.int .i64 e, .int .i64 f]⟩))) = pevF Tryz.prog (tab []) [] 64 Tryz.f133 (bodyOf Tryz.f133) [.val (.agg ⟨[.int .i64 a, .int .i64 b]⟩), .val (.agg ⟨[.int .i64 c, .int .i64 d]⟩)] k := by kernel_rfl

theorem m_span_plus : Meets Tryz.prog Inv 133 (KK_span_plus span_plus) :=
  meets_of_pev mixed stab (tab_nil _ _) Tryz.func133 (by kernel_rfl) (by kernel_rfl) (by
    intro ds; unfold KK_span_plus; split
    · exact .inr ⟨[], 64, fun k => r_span_plus  _ _ _ _ k⟩
    · exact .inl (fun _ => rfl))

noncomputable def B_span_sum (f0 : Int → Int → Int → Int → Int → KS → Option DV) (f1 : Int → Int → KI → Option DV) (f2 : Int → Int → Int → Int → KQ → Option DV) (a b c d e : Int) (x y : Bool) (f g h i j : Int) (z aa : Bool) (k : KS) : Option DV :=
  f2 a b f g (fun l m => f2 c d h i (fun n o => f1 e j (fun p => f0 l m n o p (fun q r s t u v w => k q r s t u v w))))
noncomputable def span_sum (a b c d e : Int) (f g : Bool) (h i j l m : Int) (n o : Bool) (k : KS) : Option DV := B_span_sum span_closed span_lowestCommon span_plus a b c d e f g h i j l m n o k

noncomputable def KK_span_sum (f0 : Int → Int → Int → Int → Int → Bool → Bool → Int → Int → Int → Int → Int → Bool → Bool → KS → Option DV) (ds : List DV) (k : DV → Option DV) : Option DV :=
  match ds with
  | [.val (.agg ⟨[.int .i64 a, .int .i64 b, .int .i64 c, .int .i64 d, .int .i64 e, .bool f, .bool g]⟩), .val (.agg ⟨[.int .i64 h, .int .i64 i, .int .i64 j, .int .i64 l, .int .i64 m, .bool n, .bool o]⟩)] => f0 a b c d e f g h i j l m n o (fun p q r s t u v => k (.val (.agg ⟨[.int .i64 p, .int .i64 q, .int .i64 r, .int .i64 s, .int .i64 t, .bool u, .bool v]⟩)))
  | _ => none

theorem r_span_sum (f0 : Int → Int → Int → Int → Int → KS → Option DV) (f1 : Int → Int → KI → Option DV) (f2 : Int → Int → Int → Int → KQ → Option DV) (a b c d e : Int) (f g : Bool) (h i j l m : Int) (n o : Bool) (k : DV → Option DV) : B_span_sum f0 f1 f2 a b c d e f g h i j l m n o (fun p q r s t u v => k (.val (.agg ⟨[.int .i64 p, .int .i64 q, .int .i64 r, .int .i64 s, .int .i64 t, .bool u, .bool v]⟩))) = pevF Tryz.prog (tab [(98, (KK_span_lowestCommon f1)), (132, (KK_span_closed f0)), (133, (KK_span_plus f2))]) [] 64 Tryz.f105 (bodyOf Tryz.f105) [.val (.agg ⟨[.int .i64 a, .int .i64 b, .int .i64 c, .int .i64 d, .int .i64 e, .bool f, .bool g]⟩), .val (.agg ⟨[.int .i64 h, .int .i64 i, .int .i64 j, .int .i64 l, .int .i64 m, .bool n, .bool o]⟩)] k := by kernel_rfl

theorem m_span_sum : Meets Tryz.prog Inv 105 (KK_span_sum span_sum) :=
  meets_of_pev mixed stab (tab_cons m_span_lowestCommon (tab_cons m_span_closed (tab_cons m_span_plus (tab_nil _ _)))) Tryz.func105 (by kernel_rfl) (by kernel_rfl) (by
    intro ds; unfold KK_span_sum; split
    · exact .inr ⟨[], 64, fun k => r_span_sum span_closed span_lowestCommon span_plus _ _ _ _ _ _ _ _ _ _ _ _ _ _ k⟩
    · exact .inl (fun _ => rfl))

noncomputable def B_span_times  (a b c d : Int) (k : KQ) : Option DV :=
  k (IntKind.wrap .i64 (a * c)) (IntKind.wrap .i64 (b * d))
noncomputable def span_times (a b c d : Int) (k : KQ) : Option DV := B_span_times  a b c d k

noncomputable def KK_span_times (f0 : Int → Int → Int → Int → KQ → Option DV) (ds : List DV) (k : DV → Option DV) : Option DV :=
  match ds with
  | [.val (.agg ⟨[.int .i64 a, .int .i64 b]⟩), .val (.agg ⟨[.int .i64 c, .int .i64 d]⟩)] => f0 a b c d (fun e f => k (.val (.agg ⟨[.int .i64 e, .int .i64 f]⟩)))
  | _ => none

theorem r_span_times  (a b c d : Int) (k : DV → Option DV) : B_span_times  a b c d (fun e f => k (.val (.agg ⟨[.int .i64 e, .int .i64 f]⟩))) = pevF Tryz.prog (tab []) [] 64 Tryz.f157 (bodyOf Tryz.f157) [.val (.agg ⟨[.int .i64 a, .int .i64 b]⟩), .val (.agg ⟨[.int .i64 c, .int .i64 d]⟩)] k := by kernel_rfl

theorem m_span_times : Meets Tryz.prog Inv 157 (KK_span_times span_times) :=
  meets_of_pev mixed stab (tab_nil _ _) Tryz.func157 (by kernel_rfl) (by kernel_rfl) (by
    intro ds; unfold KK_span_times; split
    · exact .inr ⟨[], 64, fun k => r_span_times  _ _ _ _ k⟩
    · exact .inl (fun _ => rfl))

noncomputable def B_slices_IndexFunc_serinette_span_end_n4_span_end_isOpen (f0 : Int → Int → KB → Option DV) (a b c d e f g h : Int) (k : KI) : Option DV :=
  f0 a b (fun i => bif i then (k 0) else (f0 c d (fun j => bif j then (k 1) else (f0 e f (fun l => bif l then (k 2) else (f0 g h (fun m => bif m then (k 3) else (k (-1)))))))))
noncomputable def slices_IndexFunc_serinette_span_end_n4_span_end_isOpen (a b c d e f g h : Int) (k : KI) : Option DV := B_slices_IndexFunc_serinette_span_end_n4_span_end_isOpen span_end_isOpen a b c d e f g h k

noncomputable def KK_slices_IndexFunc_serinette_span_end (f0 : Int → Int → Int → Int → Int → Int → Int → Int → KI → Option DV) (ds : List DV) (k : DV → Option DV) : Option DV :=
  match ds with
  | [.lst 2 [[.val (.int .i64 a), .val (.int .i64 b)], [.val (.int .i64 c), .val (.int .i64 d)], [.val (.int .i64 e), .val (.int .i64 f)], [.val (.int .i64 g), .val (.int .i64 h)]], .val (.func (.func 159) ⟨[]⟩ ⟨[]⟩)] => f0 a b c d e f g h (fun i => k (.val (.int .i64 i)))
  | _ => none

theorem r_slices_IndexFunc_serinette_span_end_n4_span_end_isOpen (f0 : Int → Int → KB → Option DV) (a b c d e f g h : Int) (k : DV → Option DV) : B_slices_IndexFunc_serinette_span_end_n4_span_end_isOpen f0 a b c d e f g h (fun i => k (.val (.int .i64 i))) = pevF Tryz.prog (tab [(159, (KK_span_end_isOpen f0))]) [] 64 Tryz.f169 (bodyOf Tryz.f169) [.lst 2 [[.val (.int .i64 a), .val (.int .i64 b)], [.val (.int .i64 c), .val (.int .i64 d)], [.val (.int .i64 e), .val (.int .i64 f)], [.val (.int .i64 g), .val (.int .i64 h)]], .val (.func (.func 159) ⟨[]⟩ ⟨[]⟩)] k := by kernel_rfl

theorem m_slices_IndexFunc_serinette_span_end : Meets Tryz.prog Inv 169 (KK_slices_IndexFunc_serinette_span_end slices_IndexFunc_serinette_span_end_n4_span_end_isOpen) :=
  meets_of_pev mixed stab (tab_cons m_span_end_isOpen (tab_nil _ _)) Tryz.func169 (by kernel_rfl) (by kernel_rfl) (by
    intro ds; unfold KK_slices_IndexFunc_serinette_span_end; split
    · exact .inr ⟨[], 64, fun k => r_slices_IndexFunc_serinette_span_end_n4_span_end_isOpen span_end_isOpen _ _ _ _ _ _ _ _ k⟩
    · exact .inl (fun _ => rfl))

noncomputable def B_slices_ContainsFunc_serinette_span_end_n4_span_end_isOpen (f0 : Int → Int → Int → Int → Int → Int → Int → Int → KI → Option DV) (a b c d e f g h : Int) (k : KB) : Option DV :=
  f0 a b c d e f g h (fun i => k (decide (i ≥ 0)))
noncomputable def slices_ContainsFunc_serinette_span_end_n4_span_end_isOpen (a b c d e f g h : Int) (k : KB) : Option DV := B_slices_ContainsFunc_serinette_span_end_n4_span_end_isOpen slices_IndexFunc_serinette_span_end_n4_span_end_isOpen a b c d e f g h k

noncomputable def KK_slices_ContainsFunc_serinette_span_end (f0 : Int → Int → Int → Int → Int → Int → Int → Int → KB → Option DV) (ds : List DV) (k : DV → Option DV) : Option DV :=
  match ds with
  | [.lst 2 [[.val (.int .i64 a), .val (.int .i64 b)], [.val (.int .i64 c), .val (.int .i64 d)], [.val (.int .i64 e), .val (.int .i64 f)], [.val (.int .i64 g), .val (.int .i64 h)]], .val (.func (.func 159) ⟨[]⟩ ⟨[]⟩)] => f0 a b c d e f g h (fun i => k (.val (.bool i)))
  | _ => none

theorem r_slices_ContainsFunc_serinette_span_end_n4_span_end_isOpen (f0 : Int → Int → Int → Int → Int → Int → Int → Int → KI → Option DV) (a b c d e f g h : Int) (k : DV → Option DV) : B_slices_ContainsFunc_serinette_span_end_n4_span_end_isOpen f0 a b c d e f g h (fun i => k (.val (.bool i))) = pevF Tryz.prog (tab [(169, (KK_slices_IndexFunc_serinette_span_end f0))]) [] 64 Tryz.f158 (bodyOf Tryz.f158) [.lst 2 [[.val (.int .i64 a), .val (.int .i64 b)], [.val (.int .i64 c), .val (.int .i64 d)], [.val (.int .i64 e), .val (.int .i64 f)], [.val (.int .i64 g), .val (.int .i64 h)]], .val (.func (.func 159) ⟨[]⟩ ⟨[]⟩)] k := by kernel_rfl

theorem m_slices_ContainsFunc_serinette_span_end : Meets Tryz.prog Inv 158 (KK_slices_ContainsFunc_serinette_span_end slices_ContainsFunc_serinette_span_end_n4_span_end_isOpen) :=
  meets_of_pev mixed stab (tab_cons m_slices_IndexFunc_serinette_span_end (tab_nil _ _)) Tryz.func158 (by kernel_rfl) (by kernel_rfl) (by
    intro ds; unfold KK_slices_ContainsFunc_serinette_span_end; split
    · exact .inr ⟨[], 64, fun k => r_slices_ContainsFunc_serinette_span_end_n4_span_end_isOpen slices_IndexFunc_serinette_span_end_n4_span_end_isOpen _ _ _ _ _ _ _ _ k⟩
    · exact .inl (fun _ => rfl))

noncomputable def B_cmp_Or_int_n2  (a b : Int) (k : KI) : Option DV :=
  bif a != 0 then (k a) else (bif b != 0 then (k b) else (k 0))
noncomputable def cmp_Or_int_n2 (a b : Int) (k : KI) : Option DV := B_cmp_Or_int_n2  a b k

noncomputable def KK_cmp_Or_int (f0 : Int → Int → KI → Option DV) (ds : List DV) (k : DV → Option DV) : Option DV :=
  match ds with
  | [.lst 1 [[.val (.int .i64 a)], [.val (.int .i64 b)]]] => f0 a b (fun c => k (.val (.int .i64 c)))
  | _ => none

theorem r_cmp_Or_int_n2  (a b : Int) (k : DV → Option DV) : B_cmp_Or_int_n2  a b (fun c => k (.val (.int .i64 c))) = pevF Tryz.prog (tab []) [] 64 Tryz.f170 (bodyOf Tryz.f170) [.lst 1 [[.val (.int .i64 a)], [.val (.int .i64 b)]]] k := by kernel_rfl

theorem m_cmp_Or_int : Meets Tryz.prog Inv 170 (KK_cmp_Or_int cmp_Or_int_n2) :=
  meets_of_pev mixed stab (tab_nil _ _) Tryz.func170 (by kernel_rfl) (by kernel_rfl) (by
    intro ds; unfold KK_cmp_Or_int; split
    · exact .inr ⟨[], 64, fun k => r_cmp_Or_int_n2  _ _ k⟩
    · exact .inl (fun _ => rfl))

noncomputable def B_cmp_isNaN_uint64  (a : Int) (k : KB) : Option DV :=
  k (a != a)
noncomputable def cmp_isNaN_uint64 (a : Int) (k : KB) : Option DV := B_cmp_isNaN_uint64  a k

noncomputable def KK_cmp_isNaN_uint64 (f0 : Int → KB → Option DV) (ds : List DV) (k : DV → Option DV) : Option DV :=
  match ds with
  | [.val (.int .u64 a)] => f0 a (fun b => k (.val (.bool b)))
  | _ => none

theorem r_cmp_isNaN_uint64  (a : Int) (k : DV → Option DV) : B_cmp_isNaN_uint64  a (fun b => k (.val (.bool b))) = pevF Tryz.prog (tab []) [] 64 Tryz.f172 (bodyOf Tryz.f172) [.val (.int .u64 a)] k := by kernel_rfl

theorem m_cmp_isNaN_uint64 : Meets Tryz.prog Inv 172 (KK_cmp_isNaN_uint64 cmp_isNaN_uint64) :=
  meets_of_pev mixed stab (tab_nil _ _) Tryz.func172 (by kernel_rfl) (by kernel_rfl) (by
    intro ds; unfold KK_cmp_isNaN_uint64; split
    · exact .inr ⟨[], 64, fun k => r_cmp_isNaN_uint64  _ k⟩
    · exact .inl (fun _ => rfl))

noncomputable def B_cmp_Compare_uint64 (f0 : Int → KB → Option DV) (a b : Int) (k : KI) : Option DV :=
  f0 a (fun d => f0 b (fun c => bif d then (bif c then (k 0) else (k (-1))) else (bif c then (k 1) else (bif decide (a < b) then (k (-1)) else (bif decide (a > b) then (k 1) else (k 0))))))
noncomputable def cmp_Compare_uint64 (a b : Int) (k : KI) : Option DV := B_cmp_Compare_uint64 cmp_isNaN_uint64 a b k

noncomputable def KK_cmp_Compare_uint64 (f0 : Int → Int → KI → Option DV) (ds : List DV) (k : DV → Option DV) : Option DV :=
  match ds with
  | [.val (.int .u64 a), .val (.int .u64 b)] => f0 a b (fun c => k (.val (.int .i64 c)))
  | _ => none

theorem r_cmp_Compare_uint64 (f0 : Int → KB → Option DV) (a b : Int) (k : DV → Option DV) : B_cmp_Compare_uint64 f0 a b (fun c => k (.val (.int .i64 c))) = pevF Tryz.prog (tab [(172, (KK_cmp_isNaN_uint64 f0))]) [] 64 Tryz.f171 (bodyOf Tryz.f171) [.val (.int .u64 a), .val (.int .u64 b)] k := by kernel_rfl

theorem m_cmp_Compare_uint64 : Meets Tryz.prog Inv 171 (KK_cmp_Compare_uint64 cmp_Compare_uint64) :=
  meets_of_pev mixed stab (tab_cons m_cmp_isNaN_uint64 (tab_nil _ _)) Tryz.func171 (by kernel_rfl) (by kernel_rfl) (by
    intro ds; unfold KK_cmp_Compare_uint64; split
    · exact .inr ⟨[], 64, fun k => r_cmp_Compare_uint64 cmp_isNaN_uint64 _ _ k⟩
    · exact .inl (fun _ => rfl))

noncomputable def B_span_compare (f0 : Int → Int → KI → Option DV) (f1 : Int → Int → KI → Option DV) (f2 : Int → Int → KI → Option DV) (f3 : Int → Int → KQ → Option DV) (f4 : Int → KI → Option DV) (a d b e : Int) (k : KI) : Option DV :=
  bif !(decide (a < 0) == decide (b < 0)) then (f0 a b (fun f => k f)) else (f4 a (fun g => f3 g (IntKind.wrap .u64 (e)) (fun h i => f4 b (fun j => f3 j (IntKind.wrap .u64 (d)) (fun l m => f2 h l (fun n => f2 i m (fun o => f1 n o (fun c => bif decide (a < 0) then (k (IntKind.wrap .i64 (0 - c))) else (k c)))))))))
noncomputable def span_compare (a b c d : Int) (k : KI) : Option DV := B_span_compare cmp_Compare_int64 cmp_Or_int_n2 cmp_Compare_uint64 bits_Mul64 span_size a b c d k

noncomputable def KK_span_compare (f0 : Int → Int → Int → Int → KI → Option DV) (ds : List DV) (k : DV → Option DV) : Option DV :=
  match ds with
  | [.val (.agg ⟨[.int .i64 a, .int .i64 b]⟩), .val (.agg ⟨[.int .i64 c, .int .i64 d]⟩)] => f0 a b c d (fun e => k (.val (.int .i64 e)))
  | _ => none

theorem r_span_compare (f0 : Int → Int → KI → Option DV) (f1 : Int → Int → KI → Option DV) (f2 : Int → Int → KI → Option DV) (f3 : Int → Int → KQ → Option DV) (f4 : Int → KI → Option DV) (a b c d : Int) (k : DV → Option DV) : B_span_compare f0 f1 f2 f3 f4 a b c d (fun e => k (.val (.int .i64 e))) = pevF Tryz.prog (tab [(94, (KK_cmp_Compare_int64 f0)), (152, (KK_bits_Mul64 f3)), (168, (KK_span_size f4)), (170, (KK_cmp_Or_int f1)), (171, (KK_cmp_Compare_uint64 f2))]) [] 64 Tryz.f161 (bodyOf Tryz.f161) [.val (.agg ⟨[.int .i64 a, .int .i64 b]⟩), .val (.agg ⟨[.int .i64 c, .int .i64 d]⟩)] k := by kernel_rfl

theorem m_span_compare : Meets Tryz.prog Inv 161 (KK_span_compare span_compare) :=
  meets_of_pev mixed stab (tab_cons m_cmp_Compare_int64 (tab_cons m_bits_Mul64 (tab_cons m_span_size (tab_cons m_cmp_Or_int (tab_cons m_cmp_Compare_uint64 (tab_nil _ _)))))) Tryz.func161 (by kernel_rfl) (by kernel_rfl) (by
    intro ds; unfold KK_span_compare; split
    · exact .inr ⟨[], 64, fun k => r_span_compare cmp_Compare_int64 cmp_Or_int_n2 cmp_Compare_uint64 bits_Mul64 span_size _ _ _ _ k⟩
    · exact .inl (fun _ => rfl))

noncomputable def B_slices_MinFunc_serinette_span_end_n4_span_compare (f0 : Int → Int → Int → Int → KI → Option DV) (e f g h c d a b : Int) (k : KQ) : Option DV :=
  f0 g h e f (fun i => bif decide (i < 0) then (f0 c d g h (fun j => bif decide (j < 0) then (f0 a b c d (fun l => bif decide (l < 0) then (k a b) else (k c d))) else (f0 a b g h (fun m => bif decide (m < 0) then (k a b) else (k g h))))) else (f0 c d e f (fun n => bif decide (n < 0) then (f0 a b c d (fun o => bif decide (o < 0) then (k a b) else (k c d))) else (f0 a b e f (fun p => bif decide (p < 0) then (k a b) else (k e f))))))
noncomputable def slices_MinFunc_serinette_span_end_n4_span_compare (a b c d e f g h : Int) (k : KQ) : Option DV := B_slices_MinFunc_serinette_span_end_n4_span_compare span_compare a b c d e f g h k

noncomputable def KK_slices_MinFunc_serinette_span_end (f0 : Int → Int → Int → Int → Int → Int → Int → Int → KQ → Option DV) (ds : List DV) (k : DV → Option DV) : Option DV :=
  match ds with
  | [.lst 2 [[.val (.int .i64 a), .val (.int .i64 b)], [.val (.int .i64 c), .val (.int .i64 d)], [.val (.int .i64 e), .val (.int .i64 f)], [.val (.int .i64 g), .val (.int .i64 h)]], .val (.func (.func 161) ⟨[]⟩ ⟨[]⟩)] => f0 a b c d e f g h (fun i j => k (.val (.agg ⟨[.int .i64 i, .int .i64 j]⟩)))
  | _ => none

theorem r_slices_MinFunc_serinette_span_end_n4_span_compare (f0 : Int → Int → Int → Int → KI → Option DV) (a b c d e f g h : Int) (k : DV → Option DV) : B_slices_MinFunc_serinette_span_end_n4_span_compare f0 a b c d e f g h (fun i j => k (.val (.agg ⟨[.int .i64 i, .int .i64 j]⟩))) = pevF Tryz.prog (tab [(161, (KK_span_compare f0))]) [] 64 Tryz.f160 (bodyOf Tryz.f160) [.lst 2 [[.val (.int .i64 a), .val (.int .i64 b)], [.val (.int .i64 c), .val (.int .i64 d)], [.val (.int .i64 e), .val (.int .i64 f)], [.val (.int .i64 g), .val (.int .i64 h)]], .val (.func (.func 161) ⟨[]⟩ ⟨[]⟩)] k := by kernel_rfl

theorem m_slices_MinFunc_serinette_span_end : Meets Tryz.prog Inv 160 (KK_slices_MinFunc_serinette_span_end slices_MinFunc_serinette_span_end_n4_span_compare) :=
  meets_of_pev mixed stab (tab_cons m_span_compare (tab_nil _ _)) Tryz.func160 (by kernel_rfl) (by kernel_rfl) (by
    intro ds; unfold KK_slices_MinFunc_serinette_span_end; split
    · exact .inr ⟨[], 64, fun k => r_slices_MinFunc_serinette_span_end_n4_span_compare span_compare _ _ _ _ _ _ _ _ k⟩
    · exact .inl (fun _ => rfl))

end Go.Proofs.YtiiddikiaafanaaGreatDoor
