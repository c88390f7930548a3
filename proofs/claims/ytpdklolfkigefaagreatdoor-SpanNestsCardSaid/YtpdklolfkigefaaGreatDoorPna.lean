/-
  Spans, read as plain functions.
-/
import Derived.Test.YtpdklolfkigefaaGreatDoorPa
set_option linter.all false
namespace Go.Proofs.YtpdklolfkigefaaGreatDoor
open Go.Pv Go.RowKit
noncomputable def B_serinetteref03_Takes  (a0 : ByteArray) (k : KI) : Option DV :=
  bif (ByteArray.toList a0 == ByteArray.toList (⟨#[110, 101, 103]⟩)) then (bif (ByteArray.toList a0 == ByteArray.toList (⟨#[110, 101, 103]⟩)) then (k 1) else (bif (ByteArray.toList a0 == ByteArray.toList (⟨#[97, 100, 100]⟩)) then (bif (ByteArray.toList a0 == ByteArray.toList (⟨#[97, 100, 100]⟩)) then (k 2) else (bif (ByteArray.toList a0 == ByteArray.toList (⟨#[112, 105, 99, 107]⟩)) then (k 3) else (k 0))) else (bif (ByteArray.toList a0 == ByteArray.toList (⟨#[115, 117, 98]⟩)) then (bif (ByteArray.toList a0 == ByteArray.toList (⟨#[115, 117, 98]⟩)) then (k 2) else (bif (ByteArray.toList a0 == ByteArray.toList (⟨#[112, 105, 99, 107]⟩)) then (k 3) else (k 0))) else (bif (ByteArray.toList a0 == ByteArray.toList (⟨#[109, 117, 108]⟩)) then (bif (ByteArray.toList a0 == ByteArray.toList (⟨#[109, 117, 108]⟩)) then (k 2) else (bif (ByteArray.toList a0 == ByteArray.toList (⟨#[112, 105, 99, 107]⟩)) then (k 3) else (k 0))) else (bif (ByteArray.toList a0 == ByteArray.toList (⟨#[100, 105, 118]⟩)) then (bif (ByteArray.toList a0 == ByteArray.toList (⟨#[100, 105, 118]⟩)) then (k 2) else (bif (ByteArray.toList a0 == ByteArray.toList (⟨#[112, 105, 99, 107]⟩)) then (k 3) else (k 0))) else (bif (ByteArray.toList a0 == ByteArray.toList (⟨#[109, 111, 100]⟩)) then (bif (ByteArray.toList a0 == ByteArray.toList (⟨#[109, 111, 100]⟩)) then (k 2) else (bif (ByteArray.toList a0 == ByteArray.toList (⟨#[112, 105, 99, 107]⟩)) then (k 3) else (k 0))) else (bif (ByteArray.toList a0 == ByteArray.toList (⟨#[109, 105, 110]⟩)) then (bif (ByteArray.toList a0 == ByteArray.toList (⟨#[109, 105, 110]⟩)) then (k 2) else (bif (ByteArray.toList a0 == ByteArray.toList (⟨#[112, 105, 99, 107]⟩)) then (k 3) else (k 0))) else (bif (ByteArray.toList a0 == ByteArray.toList (⟨#[109, 97, 120]⟩)) then (bif (ByteArray.toList a0 == ByteArray.toList (⟨#[109, 97, 120]⟩)) then (k 2) else (bif (ByteArray.toList a0 == ByteArray.toList (⟨#[112, 105, 99, 107]⟩)) then (k 3) else (k 0))) else (bif (ByteArray.toList a0 == ByteArray.toList (⟨#[108, 116]⟩)) then (bif (ByteArray.toList a0 == ByteArray.toList (⟨#[108, 116]⟩)) then (k 2) else (bif (ByteArray.toList a0 == ByteArray.toList (⟨#[112, 105, 99, 107]⟩)) then (k 3) else (k 0))) else (bif (ByteArray.toList a0 == ByteArray.toList (⟨#[108, 101]⟩)) then (bif (ByteArray.toList a0 == ByteArray.toList (⟨#[108, 101]⟩)) then (k 2) else (bif (ByteArray.toList a0 == ByteArray.toList (⟨#[112, 105, 99, 107]⟩)) then (k 3) else (k 0))) else (bif (ByteArray.toList a0 == ByteArray.toList (⟨#[101, 113]⟩)) then (bif (ByteArray.toList a0 == ByteArray.toList (⟨#[101, 113]⟩)) then (k 2) else (bif (ByteArray.toList a0 == ByteArray.toList (⟨#[112, 105, 99, 107]⟩)) then (k 3) else (k 0))) else (bif (ByteArray.toList a0 == ByteArray.toList (⟨#[110, 101]⟩)) then (bif (ByteArray.toList a0 == ByteArray.toList (⟨#[110, 101]⟩)) then (k 2) else (bif (ByteArray.toList a0 == ByteArray.toList (⟨#[112, 105, 99, 107]⟩)) then (k 3) else (k 0))) else (bif (ByteArray.toList a0 == ByteArray.toList (⟨#[97, 110, 100]⟩)) then (bif (ByteArray.toList a0 == ByteArray.toList (⟨#[97, 110, 100]⟩)) then (k 2) else (bif (ByteArray.toList a0 == ByteArray.toList (⟨#[112, 105, 99, 107]⟩)) then (k 3) else (k 0))) else (bif (ByteArray.toList a0 == ByteArray.toList (⟨#[111, 114]⟩)) then (bif (ByteArray.toList a0 == ByteArray.toList (⟨#[111, 114]⟩)) then (k 2) else (bif (ByteArray.toList a0 == ByteArray.toList (⟨#[112, 105, 99, 107]⟩)) then (k 3) else (k 0))) else (bif (ByteArray.toList a0 == ByteArray.toList (⟨#[120, 111, 114]⟩)) then (bif (ByteArray.toList a0 == ByteArray.toList (⟨#[120, 111, 114]⟩)) then (k 2) else (bif (ByteArray.toList a0 == ByteArray.toList (⟨#[112, 105, 99, 107]⟩)) then (k 3) else (k 0))) else (bif (ByteArray.toList a0 == ByteArray.toList (⟨#[115, 104, 108]⟩)) then (bif (ByteArray.toList a0 == ByteArray.toList (⟨#[115, 104, 108]⟩)) then (k 2) else (bif (ByteArray.toList a0 == ByteArray.toList (⟨#[112, 105, 99, 107]⟩)) then (k 3) else (k 0))) else (bif (ByteArray.toList a0 == ByteArray.toList (⟨#[115, 104, 114]⟩)) then (k 2) else (bif (ByteArray.toList a0 == ByteArray.toList (⟨#[112, 105, 99, 107]⟩)) then (k 3) else (k 0))))))))))))))))))) else (bif (ByteArray.toList a0 == ByteArray.toList (⟨#[97, 98, 115]⟩)) then (bif (ByteArray.toList a0 == ByteArray.toList (⟨#[97, 98, 115]⟩)) then (k 1) else (bif (ByteArray.toList a0 == ByteArray.toList (⟨#[97, 100, 100]⟩)) then (bif (ByteArray.toList a0 == ByteArray.toList (⟨#[97, 100, 100]⟩)) then (k 2) else (bif (ByteArray.toList a0 == ByteArray.toList (⟨#[112, 105, 99, 107]⟩)) then (k 3) else (k 0))) else (bif (ByteArray.toList a0 == ByteArray.toList (⟨#[115, 117, 98]⟩)) then (bif (ByteArray.toList a0 == ByteArray.toList (⟨#[115, 117, 98]⟩)) then (k 2) else (bif (ByteArray.toList a0 == ByteArray.toList (⟨#[112, 105, 99, 107]⟩)) then (k 3) else (k 0))) else (bif (ByteArray.toList a0 == ByteArray.toList (⟨#[109, 117, 108]⟩)) then (bif (ByteArray.toList a0 == ByteArray.toList (⟨#[109, 117, 108]⟩)) then (k 2) else (bif (ByteArray.toList a0 == ByteArray.toList (⟨#[112, 105, 99, 107]⟩)) then (k 3) else (k 0))) else (bif (ByteArray.toList a0 == ByteArray.toList (⟨#[100, 105, 118]⟩)) then (bif (ByteArray.toList a0 == ByteArray.toList (⟨#[100, 105, 118]⟩)) then (k 2) else (bif (ByteArray.toList a0 == ByteArray.toList (⟨#[112, 105, 99, 107]⟩)) then (k 3) else (k 0))) else (bif (ByteArray.toList a0 == ByteArray.toList (⟨#[109, 111, 100]⟩)) then (bif (ByteArray.toList a0 == ByteArray.toList (⟨#[109, 111, 100]⟩)) then (k 2) else (bif (ByteArray.toList a0 == ByteArray.toList (⟨#[112, 105, 99, 107]⟩)) then (k 3) else (k 0))) else (bif (ByteArray.toList a0 == ByteArray.toList (⟨#[109, 105, 110]⟩)) then (bif (ByteArray.toList a0 == ByteArray.toList (⟨#[109, 105, 110]⟩)) then (k 2) else (bif (ByteArray.toList a0 == ByteArray.toList (⟨#[112, 105, 99, 107]⟩)) then (k 3) else (k 0))) else (bif (ByteArray.toList a0 == ByteArray.toList (⟨#[109, 97, 120]⟩)) then (bif (ByteArray.toList a0 == ByteArray.toList (⟨#[109, 97, 120]⟩)) then (k 2) else (bif (ByteArray.toList a0 == ByteArray.toList (⟨#[112, 105, 99, 107]⟩)) then (k 3) else (k 0))) else (bif (ByteArray.toList a0 == ByteArray.toList (⟨#[108, 116]⟩)) then (bif (ByteArray.toList a0 == ByteArray.toList (⟨#[108, 116]⟩)) then (k 2) else (bif (ByteArray.toList a0 == ByteArray.toList (⟨#[112, 105, 99, 107]⟩)) then (k 3) else (k 0))) else (bif (ByteArray.toList a0 == ByteArray.toList (⟨#[108, 101]⟩)) then (bif (ByteArray.toList a0 == ByteArray.toList (⟨#[108, 101]⟩)) then (k 2) else (bif (ByteArray.toList a0 == ByteArray.toList (⟨#[112, 105, 99, 107]⟩)) then (k 3) else (k 0))) else (bif (ByteArray.toList a0 == ByteArray.toList (⟨#[101, 113]⟩)) then (bif (ByteArray.toList a0 == ByteArray.toList (⟨#[101, 113]⟩)) then (k 2) else (bif (ByteArray.toList a0 == ByteArray.toList (⟨#[112, 105, 99, 107]⟩)) then (k 3) else (k 0))) else (bif (ByteArray.toList a0 == ByteArray.toList (⟨#[110, 101]⟩)) then (bif (ByteArray.toList a0 == ByteArray.toList (⟨#[110, 101]⟩)) then (k 2) else (bif (ByteArray.toList a0 == ByteArray.toList (⟨#[112, 105, 99, 107]⟩)) then (k 3) else (k 0))) else (bif (ByteArray.toList a0 == ByteArray.toList (⟨#[97, 110, 100]⟩)) then (bif (ByteArray.toList a0 == ByteArray.toList (⟨#[97, 110, 100]⟩)) then (k 2) else (bif (ByteArray.toList a0 == ByteArray.toList (⟨#[112, 105, 99, 107]⟩)) then (k 3) else (k 0))) else (bif (ByteArray.toList a0 == ByteArray.toList (⟨#[111, 114]⟩)) then (bif (ByteArray.toList a0 == ByteArray.toList (⟨#[111, 114]⟩)) then (k 2) else (bif (ByteArray.toList a0 == ByteArray.toList (⟨#[112, 105, 99, 107]⟩)) then (k 3) else (k 0))) else (bif (ByteArray.toList a0 == ByteArray.toList (⟨#[120, 111, 114]⟩)) then (bif (ByteArray.toList a0 == ByteArray.toList (⟨#[120, 111, 114]⟩)) then (k 2) else (bif (ByteArray.toList a0 == ByteArray.toList (⟨#[112, 105, 99, 107]⟩)) then (k 3) else (k 0))) else (bif (ByteArray.toList a0 == ByteArray.toList (⟨#[115, 104, 108]⟩)) then (bif (ByteArray.toList a0 == ByteArray.toList (⟨#[115, 104, 108]⟩)) then (k 2) else (bif (ByteArray.toList a0 == ByteArray.toList (⟨#[112, 105, 99, 107]⟩)) then (k 3) else (k 0))) else (bif (ByteArray.toList a0 == ByteArray.toList (⟨#[115, 104, 114]⟩)) then (k 2) else (bif (ByteArray.toList a0 == ByteArray.toList (⟨#[112, 105, 99, 107]⟩)) then (k 3) else (k 0))))))))))))))))))) else (bif (ByteArray.toList a0 == ByteArray.toList (⟨#[102, 108, 111, 111, 114]⟩)) then (bif (ByteArray.toList a0 == ByteArray.toList (⟨#[102, 108, 111, 111, 114]⟩)) then (k 1) else (bif (ByteArray.toList a0 == ByteArray.toList (⟨#[97, 100, 100]⟩)) then (bif (ByteArray.toList a0 == ByteArray.toList (⟨#[97, 100, 100]⟩)) then (k 2) else (bif (ByteArray.toList a0 == ByteArray.toList (⟨#[112, 105, 99, 107]⟩)) then (k 3) else (k 0))) else (bif (ByteArray.toList a0 == ByteArray.toList (⟨#[115, 117, 98]⟩)) then (bif (ByteArray.toList a0 == ByteArray.toList (⟨#[115, 117, 98]⟩)) then (k 2) else (bif (ByteArray.toList a0 == ByteArray.toList (⟨#[112, 105, 99, 107]⟩)) then (k 3) else (k 0))) else (bif (ByteArray.toList a0 == ByteArray.toList (⟨#[109, 117, 108]⟩)) then (bif (ByteArray.toList a0 == ByteArray.toList (⟨#[109, 117, 108]⟩)) then (k 2) else (bif (ByteArray.toList a0 == ByteArray.toList (⟨#[112, 105, 99, 107]⟩)) then (k 3) else (k 0))) else (bif (ByteArray.toList a0 == ByteArray.toList (⟨#[100, 105, 118]⟩)) then (bif (ByteArray.toList a0 == ByteArray.toList (⟨#[100, 105, 118]⟩)) then (k 2) else (bif (ByteArray.toList a0 == ByteArray.toList (⟨#[112, 105, 99, 107]⟩)) then (k 3) else (k 0))) else (bif (ByteArray.toList a0 == ByteArray.toList (⟨#[109, 111, 100]⟩)) then (bif (ByteArray.toList a0 == ByteArray.toList (⟨#[109, 111, 100]⟩)) then (k 2) else (bif (ByteArray.toList a0 == ByteArray.toList (⟨#[112, 105, 99, 107]⟩)) then (k 3) else (k 0))) else (bif (ByteArray.toList a0 == ByteArray.toList (⟨#[109, 105, 110]⟩)) then (bif (ByteArray.toList a0 == ByteArray.toList (⟨#[109, 105, 110]⟩)) then (k 2) else (bif (ByteArray.toList a0 == ByteArray.toList (⟨#[112, 105, 99, 107]⟩)) then (k 3) else (k 0))) else (bif (ByteArray.toList a0 == ByteArray.toList (⟨#[109, 97, 120]⟩)) then (bif (ByteArray.toList a0 == ByteArray.toList (⟨#[109, 97, 120]⟩)) then (k 2) else (bif (ByteArray.toList a0 == ByteArray.toList (⟨#[112, 105, 99, 107]⟩)) then (k 3) else (k 0))) else (bif (ByteArray.toList a0 == ByteArray.toList (⟨#[108, 116]⟩)) then (bif (ByteArray.toList a0 == ByteArray.toList (⟨#[108, 116]⟩)) then (k 2) else (bif (ByteArray.toList a0 == ByteArray.toList (⟨#[112, 105, 99, 107]⟩)) then (k 3) else (k 0))) else (bif (ByteArray.toList a0 == ByteArray.toList (⟨#[108, 101]⟩)) then (bif (ByteArray.toList a0 == ByteArray.toList (⟨#[108, 101]⟩)) then (k 2) else (bif (ByteArray.toList a0 == ByteArray.toList (⟨#[112, 105, 99, 107]⟩)) then (k 3) else (k 0))) else (bif (ByteArray.toList a0 == ByteArray.toList (⟨#[101, 113]⟩)) then (bif (ByteArray.toList a0 == ByteArray.toList (⟨#[101, 113]⟩)) then (k 2) else (bif (ByteArray.toList a0 == ByteArray.toList (⟨#[112, 105, 99, 107]⟩)) then (k 3) else (k 0))) else (bif (ByteArray.toList a0 == ByteArray.toList (⟨#[110, 101]⟩)) then (bif (ByteArray.toList a0 == ByteArray.toList (⟨#[110, 101]⟩)) then (k 2) else (bif (ByteArray.toList a0 == ByteArray.toList (⟨#[112, 105, 99, 107]⟩)) then (k 3) else (k 0))) else (bif (ByteArray.toList a0 == ByteArray.toList (⟨#[97, 110, 100]⟩)) then (bif (ByteArray.toList a0 == ByteArray.toList (⟨#[97, 110, 100]⟩)) then (k 2) else (bif (ByteArray.toList a0 == ByteArray.toList (⟨#[112, 105, 99, 107]⟩)) then (k 3) else (k 0))) else (bif (ByteArray.toList a0 == ByteArray.toList (⟨#[111, 114]⟩)) then (bif (ByteArray.toList a0 == ByteArray.toList (⟨#[111, 114]⟩)) then (k 2) else (bif (ByteArray.toList a0 == ByteArray.toList (⟨#[112, 105, 99, 107]⟩)) then (k 3) else (k 0))) else (bif (ByteArray.toList a0 == ByteArray.toList (⟨#[120, 111, 114]⟩)) then (bif (ByteArray.toList a0 == ByteArray.toList (⟨#[120, 111, 114]⟩)) then (k 2) else (bif (ByteArray.toList a0 == ByteArray.toList (⟨#[112, 105, 99, 107]⟩)) then (k 3) else (k 0))) else (bif (ByteArray.toList a0 == ByteArray.toList (⟨#[115, 104, 108]⟩)) then (bif (ByteArray.toList a0 == ByteArray.toList (⟨#[115, 104, 108]⟩)) then (k 2) else (bif (ByteArray.toList a0 == ByteArray.toList (⟨#[112, 105, 99, 107]⟩)) then (k 3) else (k 0))) else (bif (ByteArray.toList a0 == ByteArray.toList (⟨#[115, 104, 114]⟩)) then (k 2) else (bif (ByteArray.toList a0 == ByteArray.toList (⟨#[112, 105, 99, 107]⟩)) then (k 3) else (k 0))))))))))))))))))) else (bif (ByteArray.toList a0 == ByteArray.toList (⟨#[114, 111, 117, 110, 100]⟩)) then (bif (ByteArray.toList a0 == ByteArray.toList (⟨#[114, 111, 117, 110, 100]⟩)) then (k 1) else (bif (ByteArray.toList a0 == ByteArray.toList (⟨#[97, 100, 100]⟩)) then (bif (ByteArray.toList a0 == ByteArray.toList (⟨#[97, 100, 100]⟩)) then (k 2) else (bif (ByteArray.toList a0 == ByteArray.toList (⟨#[112, 105, 99, 107]⟩)) then (k 3) else (k 0))) else (bif (ByteArray.toList a0 == ByteArray.toList (⟨#[115, 117, 98]⟩)) then (bif (ByteArray.toList a0 == ByteArray.toList (⟨#[115, 117, 98]⟩)) then (k 2) else (bif (ByteArray.toList a0 == ByteArray.toList (⟨#[112, 105, 99, 107]⟩)) then (k 3) else (k 0))) else (bif (ByteArray.toList a0 == ByteArray.toList (⟨#[109, 117, 108]⟩)) then (bif (ByteArray.toList a0 == ByteArray.toList (⟨#[109, 117, 108]⟩)) then (k 2) else (bif (ByteArray.toList a0 == ByteArray.toList (⟨#[112, 105, 99, 107]⟩)) then (k 3) else (k 0))) else (bif (ByteArray.toList a0 == ByteArray.toList (⟨#[100, 105, 118]⟩)) then (bif (ByteArray.toList a0 == ByteArray.toList (⟨#[100, 105, 118]⟩)) then (k 2) else (bif (ByteArray.toList a0 == ByteArray.toList (⟨#[112, 105, 99, 107]⟩)) then (k 3) else (k 0))) else (bif (ByteArray.toList a0 == ByteArray.toList (⟨#[109, 111, 100]⟩)) then (bif (ByteArray.toList a0 == ByteArray.toList (⟨#[109, 111, 100]⟩)) then (k 2) else (bif (ByteArray.toList a0 == ByteArray.toList (⟨#[112, 105, 99, 107]⟩)) then (k 3) else (k 0))) else (bif (ByteArray.toList a0 == ByteArray.toList (⟨#[109, 105, 110]⟩)) then (bif (ByteArray.toList a0 == ByteArray.toList (⟨#[109, 105, 110]⟩)) then (k 2) else (bif (ByteArray.toList a0 == ByteArray.toList (⟨#[112, 105, 99, 107]⟩)) then (k 3) else (k 0))) else (bif (ByteArray.toList a0 == ByteArray.toList (⟨#[109, 97, 120]⟩)) then (bif (ByteArray.toList a0 == ByteArray.toList (⟨#[109, 97, 120]⟩)) then (k 2) else (bif (ByteArray.toList a0 == ByteArray.toList (⟨#[112, 105, 99, 107]⟩)) then (k 3) else (k 0))) else (bif (ByteArray.toList a0 == ByteArray.toList (⟨#[108, 116]⟩)) then (bif (ByteArray.toList a0 == ByteArray.toList (⟨#[108, 116]⟩)) then (k 2) else (bif (ByteArray.toList a0 == ByteArray.toList (⟨#[112, 105, 99, 107]⟩)) then (k 3) else (k 0))) else (bif (ByteArray.toList a0 == ByteArray.toList (⟨#[108, 101]⟩)) then (bif (ByteArray.toList a0 == ByteArray.toList (⟨#[108, 101]⟩)) then (k 2) else (bif (ByteArray.toList a0 == ByteArray.toList (⟨#[112, 105, 99, 107]⟩)) then (k 3) else (k 0))) else (bif (ByteArray.toList a0 == ByteArray.toList (⟨#[101, 113]⟩)) then (bif (ByteArray.toList a0 == ByteArray.toList (⟨#[101, 113]⟩)) then (k 2) else (bif (ByteArray.toList a0 == ByteArray.toList (⟨#[112, 105, 99, 107]⟩)) then (k 3) else (k 0))) else (bif (ByteArray.toList a0 == ByteArray.toList (⟨#[110, 101]⟩)) then (bif (ByteArray.toList a0 == ByteArray.toList (⟨#[110, 101]⟩)) then (k 2) else (bif (ByteArray.toList a0 == ByteArray.toList (⟨#[112, 105, 99, 107]⟩)) then (k 3) else (k 0))) else (bif (ByteArray.toList a0 == ByteArray.toList (⟨#[97, 110, 100]⟩)) then (bif (ByteArray.toList a0 == ByteArray.toList (⟨#[97, 110, 100]⟩)) then (k 2) else (bif (ByteArray.toList a0 == ByteArray.toList (⟨#[112, 105, 99, 107]⟩)) then (k 3) else (k 0))) else (bif (ByteArray.toList a0 == ByteArray.toList (⟨#[111, 114]⟩)) then (bif (ByteArray.toList a0 == ByteArray.toList (⟨#[111, 114]⟩)) then (k 2) else (bif (ByteArray.toList a0 == ByteArray.toList (⟨#[112, 105, 99, 107]⟩)) then (k 3) else (k 0))) else (bif (ByteArray.toList a0 == ByteArray.toList (⟨#[120, 111, 114]⟩)) then (bif (ByteArray.toList a0 == ByteArray.toList (⟨#[120, 111, 114]⟩)) then (k 2) else (bif (ByteArray.toList a0 == ByteArray.toList (⟨#[112, 105, 99, 107]⟩)) then (k 3) else (k 0))) else (bif (ByteArray.toList a0 == ByteArray.toList (⟨#[115, 104, 108]⟩)) then (bif (ByteArray.toList a0 == ByteArray.toList (⟨#[115, 104, 108]⟩)) then (k 2) else (bif (ByteArray.toList a0 == ByteArray.toList (⟨#[112, 105, 99, 107]⟩)) then (k 3) else (k 0))) else (bif (ByteArray.toList a0 == ByteArray.toList (⟨#[115, 104, 114]⟩)) then (k 2) else (bif (ByteArray.toList a0 == ByteArray.toList (⟨#[112, 105, 99, 107]⟩)) then (k 3) else (k 0))))))))))))))))))) else (bif (ByteArray.toList a0 == ByteArray.toList (⟨#[102, 114, 97, 99]⟩)) then (bif (ByteArray.toList a0 == ByteArray.toList (⟨#[102, 114, 97, 99]⟩)) then (k 1) else (bif (ByteArray.toList a0 == ByteArray.toList (⟨#[97, 100, 100]⟩)) then (bif (ByteArray.toList a0 == ByteArray.toList (⟨#[97, 100, 100]⟩)) then (k 2) else (bif (ByteArray.toList a0 == ByteArray.toList (⟨#[112, 105, 99, 107]⟩)) then (k 3) else (k 0))) else (bif (ByteArray.toList a0 == ByteArray.toList (⟨#[115, 117, 98]⟩)) then (bif (ByteArray.toList a0 == ByteArray.toList (⟨#[115, 117, 98]⟩)) then (k 2) else (bif (ByteArray.toList a0 == ByteArray.toList (⟨#[112, 105, 99, 107]⟩)) then (k 3) else (k 0))) else (bif (ByteArray.toList a0 == ByteArray.toList (⟨#[109, 117, 108]⟩)) then (bif (ByteArray.toList a0 == ByteArray.toList (⟨#[109, 117, 108]⟩)) then (k 2) else (bif (ByteArray.toList a0 == ByteArray.toList (⟨#[112, 105, 99, 107]⟩)) then (k 3) else (k 0))) else (bif (ByteArray.toList a0 == ByteArray.toList (⟨#[100, 105, 118]⟩)) then (bif (ByteArray.toList a0 == ByteArray.toList (⟨#[100, 105, 118]⟩)) then (k 2) else (bif (ByteArray.toList a0 == ByteArray.toList (⟨#[112, 105, 99, 107]⟩)) then (k 3) else (k 0))) else (bif (ByteArray.toList a0 == ByteArray.toList (⟨#[109, 111, 100]⟩)) then (bif (ByteArray.toList a0 == ByteArray.toList (⟨#[109, 111, 100]⟩)) then (k 2) else (bif (ByteArray.toList a0 == ByteArray.toList (⟨#[112, 105, 99, 107]⟩)) then (k 3) else (k 0))) else (bif (ByteArray.toList a0 == ByteArray.toList (⟨#[109, 105, 110]⟩)) then (bif (ByteArray.toList a0 == ByteArray.toList (⟨#[109, 105, 110]⟩)) then (k 2) else (bif (ByteArray.toList a0 == ByteArray.toList (⟨#[112, 105, 99, 107]⟩)) then (k 3) else (k 0))) else (bif (ByteArray.toList a0 == ByteArray.toList (⟨#[109, 97, 120]⟩)) then (bif (ByteArray.toList a0 == ByteArray.toList (⟨#[109, 97, 120]⟩)) then (k 2) else (bif (ByteArray.toList a0 == ByteArray.toList (⟨#[112, 105, 99, 107]⟩)) then (k 3) else (k 0))) else (bif (ByteArray.toList a0 == ByteArray.toList (⟨#[108, 116]⟩)) then (bif (ByteArray.toList a0 == ByteArray.toList (⟨#[108, 116]⟩)) then (k 2) else (bif (ByteArray.toList a0 == ByteArray.toList (⟨#[112, 105, 99, 107]⟩)) then (k 3) else (k 0))) else (bif (ByteArray.toList a0 == ByteArray.toList (⟨#[108, 101]⟩)) then (bif (ByteArray.toList a0 == ByteArray.toList (⟨#[108, 101]⟩)) then (k 2) else (bif (ByteArray.toList a0 == ByteArray.toList (⟨#[112, 105, 99, 107]⟩)) then (k 3) else (k 0))) else (bif (ByteArray.toList a0 == ByteArray.toList (⟨#[101, 113]⟩)) then (bif (ByteArray.toList a0 == ByteArray.toList (⟨#[101, 113]⟩)) then (k 2) else (bif (ByteArray.toList a0 == ByteArray.toList (⟨#[112, 105, 99, 107]⟩)) then (k 3) else (k 0))) else (bif (ByteArray.toList a0 == ByteArray.toList (⟨#[110, 101]⟩)) then (bif (ByteArray.toList a0 == ByteArray.toList (⟨#[110, 101]⟩)) then (k 2) else (bif (ByteArray.toList a0 == ByteArray.toList (⟨#[112, 105, 99, 107]⟩)) then (k 3) else (k 0))) else (bif (ByteArray.toList a0 == ByteArray.toList (⟨#[97, 110, 100]⟩)) then (bif (ByteArray.toList a0 == ByteArray.toList (⟨#[97, 110, 100]⟩)) then (k 2) else (bif (ByteArray.toList a0 == ByteArray.toList (⟨#[112, 105, 99, 107]⟩)) then (k 3) else (k 0))) else (bif (ByteArray.toList a0 == ByteArray.toList (⟨#[111, 114]⟩)) then (bif (ByteArray.toList a0 == ByteArray.toList (⟨#[111, 114]⟩)) then (k 2) else (bif (ByteArray.toList a0 == ByteArray.toList (⟨#[112, 105, 99, 107]⟩)) then (k 3) else (k 0))) else (bif (ByteArray.toList a0 == ByteArray.toList (⟨#[120, 111, 114]⟩)) then (bif (ByteArray.toList a0 == ByteArray.toList (⟨#[120, 111, 114]⟩)) then (k 2) else (bif (ByteArray.toList a0 == ByteArray.toList (⟨#[112, 105, 99, 107]⟩)) then (k 3) else (k 0))) else (bif (ByteArray.toList a0 == ByteArray.toList (⟨#[115, 104, 108]⟩)) then (bif (ByteArray.toList a0 == ByteArray.toList (⟨#[115, 104, 108]⟩)) then (k 2) else (bif (ByteArray.toList a0 == ByteArray.toList (⟨#[112, 105, 99, 107]⟩)) then (k 3) else (k 0))) else (bif (ByteArray.toList a0 == ByteArray.toList (⟨#[115, 104, 114]⟩)) then (k 2) else (bif (ByteArray.toList a0 == ByteArray.toList (⟨#[112, 105, 99, 107]⟩)) then (k 3) else (k 0))))))))))))))))))) else (bif (ByteArray.toList a0 == ByteArray.toList (⟨#[110, 111, 116]⟩)) then (k 1) else (bif (ByteArray.toList a0 == ByteArray.toList (⟨#[97, 100, 100]⟩)) then (bif (ByteArray.toList a0 == ByteArray.toList (⟨#[97, 100, 100]⟩)) then (k 2) else (bif (ByteArray.toList a0 == ByteArray.toList (⟨#[112, 105, 99, 107]⟩)) then (k 3) else (k 0))) else (bif (ByteArray.toList a0 == ByteArray.toList (⟨#[115, 117, 98]⟩)) then (bif (ByteArray.toList a0 == ByteArray.toList (⟨#[115, 117, 98]⟩)) then (k 2) else (bif (ByteArray.toList a0 == ByteArray.toList (⟨#[112, 105, 99, 107]⟩)) then (k 3) else (k 0))) else (bif (ByteArray.toList a0 == ByteArray.toList (⟨#[109, 117, 108]⟩)) then (bif (ByteArray.toList a0 == ByteArray.toList (⟨#[109, 117, 108]⟩)) then (k 2) else (bif (ByteArray.toList a0 == ByteArray.toList (⟨#[112, 105, 99, 107]⟩)) then (k 3) else (k 0))) else (bif (ByteArray.toList a0 == ByteArray.toList (⟨#[100, 105, 118]⟩)) then (bif (ByteArray.toList a0 == ByteArray.toList (⟨#[100, 105, 118]⟩)) then (k 2) else (bif (ByteArray.toList a0 == ByteArray.toList (⟨#[112, 105, 99, 107]⟩)) then (k 3) else (k 0))) else (bif (ByteArray.toList a0 == ByteArray.toList (⟨#[109, 111, 100]⟩)) then (bif (ByteArray.toList a0 == ByteArray.toList (⟨#[109, 111, 100]⟩)) then (k 2) else (bif (ByteArray.toList a0 == ByteArray.toList (⟨#[112, 105, 99, 107]⟩)) then (k 3) else (k 0))) else (bif (ByteArray.toList a0 == ByteArray.toList (⟨#[109, 105, 110]⟩)) then (bif (ByteArray.toList a0 == ByteArray.toList (⟨#[109, 105, 110]⟩)) then (k 2) else (bif (ByteArray.toList a0 == ByteArray.toList (⟨#[112, 105, 99, 107]⟩)) then (k 3) else (k 0))) else (bif (ByteArray.toList a0 == ByteArray.toList (⟨#[109, 97, 120]⟩)) then (bif (ByteArray.toList a0 == ByteArray.toList (⟨#[109, 97, 120]⟩)) then (k 2) else (bif (ByteArray.toList a0 == ByteArray.toList (⟨#[112, 105, 99, 107]⟩)) then (k 3) else (k 0))) else (bif (ByteArray.toList a0 == ByteArray.toList (⟨#[108, 116]⟩)) then (bif (ByteArray.toList a0 == ByteArray.toList (⟨#[108, 116]⟩)) then (k 2) else (bif (ByteArray.toList a0 == ByteArray.toList (⟨#[112, 105, 99, 107]⟩)) then (k 3) else (k 0))) else (bif (ByteArray.toList a0 == ByteArray.toList (⟨#[108, 101]⟩)) then (bif (ByteArray.toList a0 == ByteArray.toList (⟨#[108, 101]⟩)) then (k 2) else (bif (ByteArray.toList a0 == ByteArray.toList (⟨#[112, 105, 99, 107]⟩)) then (k 3) else (k 0))) else (bif (ByteArray.toList a0 == ByteArray.toList (⟨#[101, 113]⟩)) then (bif (ByteArray.toList a0 == ByteArray.toList (⟨#[101, 113]⟩)) then (k 2) else (bif (ByteArray.toList a0 == ByteArray.toList (⟨#[112, 105, 99, 107]⟩)) then (k 3) else (k 0))) else (bif (ByteArray.toList a0 == ByteArray.toList (⟨#[110, 101]⟩)) then (bif (ByteArray.toList a0 == ByteArray.toList (⟨#[110, 101]⟩)) then (k 2) else (bif (ByteArray.toList a0 == ByteArray.toList (⟨#[112, 105, 99, 107]⟩)) then (k 3) else (k 0))) else (bif (ByteArray.toList a0 == ByteArray.toList (⟨#[97, 110, 100]⟩)) then (bif (ByteArray.toList a0 == ByteArray.toList (⟨#[97, 110, 100]⟩)) then (k 2) else (bif (ByteArray.toList a0 == ByteArray.toList (⟨#[112, 105, 99, 107]⟩)) then (k 3) else (k 0))) else (bif (ByteArray.toList a0 == ByteArray.toList (⟨#[111, 114]⟩)) then (bif (ByteArray.toList a0 == ByteArray.toList (⟨#[111, 114]⟩)) then (k 2) else (bif (ByteArray.toList a0 == ByteArray.toList (⟨#[112, 105, 99, 107]⟩)) then (k 3) else (k 0))) else (bif (ByteArray.toList a0 == ByteArray.toList (⟨#[120, 111, 114]⟩)) then (bif (ByteArray.toList a0 == ByteArray.toList (⟨#[120, 111, 114]⟩)) then (k 2) else (bif (ByteArray.toList a0 == ByteArray.toList (⟨#[112, 105, 99, 107]⟩)) then (k 3) else (k 0))) else (bif (ByteArray.toList a0 == ByteArray.toList (⟨#[115, 104, 108]⟩)) then (bif (ByteArray.toList a0 == ByteArray.toList (⟨#[115, 104, 108]⟩)) then (k 2) else (bif (ByteArray.toList a0 == ByteArray.toList (⟨#[112, 105, 99, 107]⟩)) then (k 3) else (k 0))) else (bif (ByteArray.toList a0 == ByteArray.toList (⟨#[115, 104, 114]⟩)) then (k 2) else (bif (ByteArray.toList a0 == ByteArray.toList (⟨#[112, 105, 99, 107]⟩)) then (k 3) else (k 0)))))))))))))))))))))))
noncomputable def serinetteref03_Takes (a0 : ByteArray) (k : KI) : Option DV := B_serinetteref03_Takes  a0 k

noncomputable def KK_serinetteref03_Takes (f0 : ByteArray → KI → Option DV) (ds : List DV) (k : DV → Option DV) : Option DV :=
  match ds with
  | [.val (.string a0)] => f0 a0 (fun r0_0 => k (.val (.int .i64 r0_0)))
  | _ => none

theorem r_serinetteref03_Takes  (a0 : ByteArray) (k : DV → Option DV) : B_serinetteref03_Takes  a0 (fun r0_0 => k (.val (.int .i64 r0_0))) = pevF Tryz.prog (tab []) [] 64 Tryz.f5 (bodyOf Tryz.f5) [.val (.string a0)] k := by kernel_rfl

theorem m_serinetteref03_Takes : Meets Tryz.prog Inv 5 (KK_serinetteref03_Takes serinetteref03_Takes) :=
  meets_of_pev mixed stab (tab_nil _ _) Tryz.func5 (by kernel_rfl) (by kernel_rfl) (by
    intro ds; unfold KK_serinetteref03_Takes; split
    · exact .inr ⟨[], 64, fun k => r_serinetteref03_Takes  _ k⟩
    · exact .inl (fun _ => rfl))

noncomputable def B_span_nothing  (a0 : Bool) (k : KS) : Option DV :=
  k 0 0 0 0 0 a0 true
noncomputable def span_nothing (a0 : Bool) (k : KS) : Option DV := B_span_nothing  a0 k

noncomputable def KK_span_nothing (f0 : Bool → KS → Option DV) (ds : List DV) (k : DV → Option DV) : Option DV :=
  match ds with
  | [.val (.bool a0)] => f0 a0 (fun r0_0 r0_1 r0_2 r0_3 r0_4 r0_5 r0_6 => k (.val (.agg ⟨[.int .i64 r0_0, .int .i64 r0_1, .int .i64 r0_2, .int .i64 r0_3, .int .i64 r0_4, .bool r0_5, .bool r0_6]⟩)))
  | _ => none

theorem r_span_nothing  (a0 : Bool) (k : DV → Option DV) : B_span_nothing  a0 (fun r0_0 r0_1 r0_2 r0_3 r0_4 r0_5 r0_6 => k (.val (.agg ⟨[.int .i64 r0_0, .int .i64 r0_1, .int .i64 r0_2, .int .i64 r0_3, .int .i64 r0_4, .bool r0_5, .bool r0_6]⟩))) = pevF Tryz.prog (tab []) [] 64 Tryz.f25 (bodyOf Tryz.f25) [.val (.bool a0)] k := by kernel_rfl

theorem m_span_nothing : Meets Tryz.prog Inv 25 (KK_span_nothing span_nothing) :=
  meets_of_pev mixed stab (tab_nil _ _) Tryz.func25 (by kernel_rfl) (by kernel_rfl) (by
    intro ds; unfold KK_span_nothing; split
    · exact .inr ⟨[], 64, fun k => r_span_nothing  _ k⟩
    · exact .inl (fun _ => rfl))

noncomputable def B_span_isOutOfOrder (f0 : Int → Int → Int → Int → KI → Option DV) (f1 : Int → Int → KB → Option DV) (a0_0 a0_1 a1_0 a1_1 : Int) (k : KB) : Option DV :=
  f1 a1_0 a1_1 (fun r1 => bif r1 then (f0 a0_0 a0_1 a1_0 a1_1 (fun r2 => k (decide (r2 > 0)))) else (k false))
noncomputable def span_isOutOfOrder (a0_0 a0_1 a1_0 a1_1 : Int) (k : KB) : Option DV := B_span_isOutOfOrder ratio_Cmp ratio_Is a0_0 a0_1 a1_0 a1_1 k

noncomputable def KK_span_isOutOfOrder (f0 : Int → Int → Int → Int → KB → Option DV) (ds : List DV) (k : DV → Option DV) : Option DV :=
  match ds with
  | [.val (.agg ⟨[.int .i64 a0_0, .int .i64 a0_1]⟩), .val (.agg ⟨[.int .i64 a1_0, .int .i64 a1_1]⟩)] => f0 a0_0 a0_1 a1_0 a1_1 (fun r0_0 => k (.val (.bool r0_0)))
  | _ => none

theorem r_span_isOutOfOrder (f0 : Int → Int → Int → Int → KI → Option DV) (f1 : Int → Int → KB → Option DV) (a0_0 a0_1 a1_0 a1_1 : Int) (k : DV → Option DV) : B_span_isOutOfOrder f0 f1 a0_0 a0_1 a1_0 a1_1 (fun r0_0 => k (.val (.bool r0_0))) = pevF Tryz.prog (tab [(36, (KK_ratio_Is f1)), (78, (KK_ratio_Cmp f0))]) [] 64 Tryz.f59 (bodyOf Tryz.f59) [.val (.agg ⟨[.int .i64 a0_0, .int .i64 a0_1]⟩), .val (.agg ⟨[.int .i64 a1_0, .int .i64 a1_1]⟩)] k := by kernel_rfl

theorem m_span_isOutOfOrder : Meets Tryz.prog Inv 59 (KK_span_isOutOfOrder span_isOutOfOrder) :=
  meets_of_pev mixed stab (tab_cons m_ratio_Is (tab_cons m_ratio_Cmp (tab_nil _ _))) Tryz.func59 (by kernel_rfl) (by kernel_rfl) (by
    intro ds; unfold KK_span_isOutOfOrder; split
    · exact .inr ⟨[], 64, fun k => r_span_isOutOfOrder ratio_Cmp ratio_Is _ _ _ _ k⟩
    · exact .inl (fun _ => rfl))

noncomputable def B_span_isDen  (a0 : Int) (k : KB) : Option DV :=
  bif decide (a0 ≥ 0) then (k (decide (a0 ≤ 1073741824))) else (k false)
noncomputable def span_isDen (a0 : Int) (k : KB) : Option DV := B_span_isDen  a0 k

noncomputable def KK_span_isDen (f0 : Int → KB → Option DV) (ds : List DV) (k : DV → Option DV) : Option DV :=
  match ds with
  | [.val (.int .i64 a0)] => f0 a0 (fun r0_0 => k (.val (.bool r0_0)))
  | _ => none

theorem r_span_isDen  (a0 : Int) (k : DV → Option DV) : B_span_isDen  a0 (fun r0_0 => k (.val (.bool r0_0))) = pevF Tryz.prog (tab []) [] 64 Tryz.f60 (bodyOf Tryz.f60) [.val (.int .i64 a0)] k := by kernel_rfl

theorem m_span_isDen : Meets Tryz.prog Inv 60 (KK_span_isDen span_isDen) :=
  meets_of_pev mixed stab (tab_nil _ _) Tryz.func60 (by kernel_rfl) (by kernel_rfl) (by
    intro ds; unfold KK_span_isDen; split
    · exact .inr ⟨[], 64, fun k => r_span_isDen  _ k⟩
    · exact .inl (fun _ => rfl))

noncomputable def B_span_Valid (f0 : Bool → KS → Option DV) (f1 : Int → KB → Option DV) (f2 : Int → Int → Int → Int → KB → Option DV) (f3 : Int → Int → KB → Option DV) (a0_0 a0_1 a0_2 a0_3 a0_4 : Int) (a0_5 a0_6 : Bool) (k : KB) : Option DV :=
  bif a0_6 then (f0 a0_5 (fun r1 r2 r3 r4 r5 r6 r7 => k (((a0_0 == r1) && ((a0_1 == r2) && true)) && (((a0_2 == r3) && ((a0_3 == r4) && true)) && ((a0_4 == r5) && ((a0_5 == r6) && ((a0_6 == r7) && true))))))) else (f3 a0_0 a0_1 (fun r8 => bif !(!r8) then (f3 a0_2 a0_3 (fun r9 => bif !(!r9) then (f2 a0_0 a0_1 a0_2 a0_3 (fun r10 => bif r10 then (k false) else (f1 a0_4 (fun r11 => k r11)))) else (k false))) else (k false)))
noncomputable def span_Valid (a0_0 a0_1 a0_2 a0_3 a0_4 : Int) (a0_5 a0_6 : Bool) (k : KB) : Option DV := B_span_Valid span_nothing span_isDen span_isOutOfOrder ratio_Valid a0_0 a0_1 a0_2 a0_3 a0_4 a0_5 a0_6 k

noncomputable def KK_span_Valid (f0 : Int → Int → Int → Int → Int → Bool → Bool → KB → Option DV) (ds : List DV) (k : DV → Option DV) : Option DV :=
  match ds with
  | [.val (.agg ⟨[.int .i64 a0_0, .int .i64 a0_1, .int .i64 a0_2, .int .i64 a0_3, .int .i64 a0_4, .bool a0_5, .bool a0_6]⟩)] => f0 a0_0 a0_1 a0_2 a0_3 a0_4 a0_5 a0_6 (fun r0_0 => k (.val (.bool r0_0)))
  | _ => none

theorem r_span_Valid (f0 : Bool → KS → Option DV) (f1 : Int → KB → Option DV) (f2 : Int → Int → Int → Int → KB → Option DV) (f3 : Int → Int → KB → Option DV) (a0_0 a0_1 a0_2 a0_3 a0_4 : Int) (a0_5 a0_6 : Bool) (k : DV → Option DV) : B_span_Valid f0 f1 f2 f3 a0_0 a0_1 a0_2 a0_3 a0_4 a0_5 a0_6 (fun r0_0 => k (.val (.bool r0_0))) = pevF Tryz.prog (tab [(25, (KK_span_nothing f0)), (59, (KK_span_isOutOfOrder f2)), (60, (KK_span_isDen f1)), (99, (KK_ratio_Valid f3))]) [] 64 Tryz.f71 (bodyOf Tryz.f71) [.val (.agg ⟨[.int .i64 a0_0, .int .i64 a0_1, .int .i64 a0_2, .int .i64 a0_3, .int .i64 a0_4, .bool a0_5, .bool a0_6]⟩)] k := by kernel_rfl

theorem m_span_Valid : Meets Tryz.prog Inv 71 (KK_span_Valid span_Valid) :=
  meets_of_pev mixed stab (tab_cons m_span_nothing (tab_cons m_span_isOutOfOrder (tab_cons m_span_isDen (tab_cons m_ratio_Valid (tab_nil _ _))))) Tryz.func71 (by kernel_rfl) (by kernel_rfl) (by
    intro ds; unfold KK_span_Valid; split
    · exact .inr ⟨[], 64, fun k => r_span_Valid span_nothing span_isDen span_isOutOfOrder ratio_Valid _ _ _ _ _ _ _ k⟩
    · exact .inl (fun _ => rfl))

noncomputable def B_span_All   (k : KS) : Option DV :=
  k 0 0 0 0 0 true false
noncomputable def span_All  (k : KS) : Option DV := B_span_All   k

noncomputable def KK_span_All (f0 : KS → Option DV) (ds : List DV) (k : DV → Option DV) : Option DV :=
  match ds with
  | [] => f0  (fun r0_0 r0_1 r0_2 r0_3 r0_4 r0_5 r0_6 => k (.val (.agg ⟨[.int .i64 r0_0, .int .i64 r0_1, .int .i64 r0_2, .int .i64 r0_3, .int .i64 r0_4, .bool r0_5, .bool r0_6]⟩)))
  | _ => none

theorem r_span_All   (k : DV → Option DV) : B_span_All   (fun r0_0 r0_1 r0_2 r0_3 r0_4 r0_5 r0_6 => k (.val (.agg ⟨[.int .i64 r0_0, .int .i64 r0_1, .int .i64 r0_2, .int .i64 r0_3, .int .i64 r0_4, .bool r0_5, .bool r0_6]⟩))) = pevF Tryz.prog (tab []) [] 64 Tryz.f72 (bodyOf Tryz.f72) [] k := by kernel_rfl

theorem m_span_All : Meets Tryz.prog Inv 72 (KK_span_All span_All) :=
  meets_of_pev mixed stab (tab_nil _ _) Tryz.func72 (by kernel_rfl) (by kernel_rfl) (by
    intro ds; unfold KK_span_All; split
    · exact .inr ⟨[], 64, fun k => r_span_All   k⟩
    · exact .inl (fun _ => rfl))

noncomputable def B_span_known (f0 : KS → Option DV) (f1 : Int → Int → Int → Int → Int → Bool → Bool → KB → Option DV) (a0_0 a0_1 a0_2 a0_3 a0_4 : Int) (a0_5 a0_6 : Bool) (k : KS) : Option DV :=
  f1 a0_0 a0_1 a0_2 a0_3 a0_4 a0_5 a0_6 (fun r1 => bif !r1 then (f0  (fun r2 r3 r4 r5 r6 r7 r8 => k r2 r3 r4 r5 r6 r7 r8)) else (k a0_0 a0_1 a0_2 a0_3 a0_4 a0_5 a0_6))
noncomputable def span_known (a0_0 a0_1 a0_2 a0_3 a0_4 : Int) (a0_5 a0_6 : Bool) (k : KS) : Option DV := B_span_known span_All span_Valid a0_0 a0_1 a0_2 a0_3 a0_4 a0_5 a0_6 k

noncomputable def KK_span_known (f0 : Int → Int → Int → Int → Int → Bool → Bool → KS → Option DV) (ds : List DV) (k : DV → Option DV) : Option DV :=
  match ds with
  | [.val (.agg ⟨[.int .i64 a0_0, .int .i64 a0_1, .int .i64 a0_2, .int .i64 a0_3, .int .i64 a0_4, .bool a0_5, .bool a0_6]⟩)] => f0 a0_0 a0_1 a0_2 a0_3 a0_4 a0_5 a0_6 (fun r0_0 r0_1 r0_2 r0_3 r0_4 r0_5 r0_6 => k (.val (.agg ⟨[.int .i64 r0_0, .int .i64 r0_1, .int .i64 r0_2, .int .i64 r0_3, .int .i64 r0_4, .bool r0_5, .bool r0_6]⟩)))
  | _ => none

theorem r_span_known (f0 : KS → Option DV) (f1 : Int → Int → Int → Int → Int → Bool → Bool → KB → Option DV) (a0_0 a0_1 a0_2 a0_3 a0_4 : Int) (a0_5 a0_6 : Bool) (k : DV → Option DV) : B_span_known f0 f1 a0_0 a0_1 a0_2 a0_3 a0_4 a0_5 a0_6 (fun r0_0 r0_1 r0_2 r0_3 r0_4 r0_5 r0_6 => k (.val (.agg ⟨[.int .i64 r0_0, .int .i64 r0_1, .int .i64 r0_2, .int .i64 r0_3, .int .i64 r0_4, .bool r0_5, .bool r0_6]⟩))) = pevF Tryz.prog (tab [(71, (KK_span_Valid f1)), (72, (KK_span_All f0))]) [] 64 Tryz.f26 (bodyOf Tryz.f26) [.val (.agg ⟨[.int .i64 a0_0, .int .i64 a0_1, .int .i64 a0_2, .int .i64 a0_3, .int .i64 a0_4, .bool a0_5, .bool a0_6]⟩)] k := by kernel_rfl

theorem m_span_known : Meets Tryz.prog Inv 26 (KK_span_known span_known) :=
  meets_of_pev mixed stab (tab_cons m_span_Valid (tab_cons m_span_All (tab_nil _ _))) Tryz.func26 (by kernel_rfl) (by kernel_rfl) (by
    intro ds; unfold KK_span_known; split
    · exact .inr ⟨[], 64, fun k => r_span_known span_All span_Valid _ _ _ _ _ _ _ k⟩
    · exact .inl (fun _ => rfl))

noncomputable def B_span_ins  (a0 : ByteArray) (k : KI) : Option DV :=
  bif (ByteArray.toList a0 == ByteArray.toList (⟨#[110, 101, 103]⟩)) then (bif (ByteArray.toList a0 == ByteArray.toList (⟨#[110, 101, 103]⟩)) then (k 1) else (bif (ByteArray.toList a0 == ByteArray.toList (⟨#[97, 100, 100]⟩)) then (bif (ByteArray.toList a0 == ByteArray.toList (⟨#[97, 100, 100]⟩)) then (k 2) else (bif (ByteArray.toList a0 == ByteArray.toList (⟨#[112, 105, 99, 107]⟩)) then (k 3) else (k 0))) else (bif (ByteArray.toList a0 == ByteArray.toList (⟨#[115, 117, 98]⟩)) then (bif (ByteArray.toList a0 == ByteArray.toList (⟨#[115, 117, 98]⟩)) then (k 2) else (bif (ByteArray.toList a0 == ByteArray.toList (⟨#[112, 105, 99, 107]⟩)) then (k 3) else (k 0))) else (bif (ByteArray.toList a0 == ByteArray.toList (⟨#[109, 117, 108]⟩)) then (bif (ByteArray.toList a0 == ByteArray.toList (⟨#[109, 117, 108]⟩)) then (k 2) else (bif (ByteArray.toList a0 == ByteArray.toList (⟨#[112, 105, 99, 107]⟩)) then (k 3) else (k 0))) else (bif (ByteArray.toList a0 == ByteArray.toList (⟨#[100, 105, 118]⟩)) then (bif (ByteArray.toList a0 == ByteArray.toList (⟨#[100, 105, 118]⟩)) then (k 2) else (bif (ByteArray.toList a0 == ByteArray.toList (⟨#[112, 105, 99, 107]⟩)) then (k 3) else (k 0))) else (bif (ByteArray.toList a0 == ByteArray.toList (⟨#[109, 111, 100]⟩)) then (bif (ByteArray.toList a0 == ByteArray.toList (⟨#[109, 111, 100]⟩)) then (k 2) else (bif (ByteArray.toList a0 == ByteArray.toList (⟨#[112, 105, 99, 107]⟩)) then (k 3) else (k 0))) else (bif (ByteArray.toList a0 == ByteArray.toList (⟨#[109, 105, 110]⟩)) then (bif (ByteArray.toList a0 == ByteArray.toList (⟨#[109, 105, 110]⟩)) then (k 2) else (bif (ByteArray.toList a0 == ByteArray.toList (⟨#[112, 105, 99, 107]⟩)) then (k 3) else (k 0))) else (bif (ByteArray.toList a0 == ByteArray.toList (⟨#[109, 97, 120]⟩)) then (bif (ByteArray.toList a0 == ByteArray.toList (⟨#[109, 97, 120]⟩)) then (k 2) else (bif (ByteArray.toList a0 == ByteArray.toList (⟨#[112, 105, 99, 107]⟩)) then (k 3) else (k 0))) else (bif (ByteArray.toList a0 == ByteArray.toList (⟨#[108, 116]⟩)) then (bif (ByteArray.toList a0 == ByteArray.toList (⟨#[108, 116]⟩)) then (k 2) else (bif (ByteArray.toList a0 == ByteArray.toList (⟨#[112, 105, 99, 107]⟩)) then (k 3) else (k 0))) else (bif (ByteArray.toList a0 == ByteArray.toList (⟨#[108, 101]⟩)) then (bif (ByteArray.toList a0 == ByteArray.toList (⟨#[108, 101]⟩)) then (k 2) else (bif (ByteArray.toList a0 == ByteArray.toList (⟨#[112, 105, 99, 107]⟩)) then (k 3) else (k 0))) else (bif (ByteArray.toList a0 == ByteArray.toList (⟨#[101, 113]⟩)) then (bif (ByteArray.toList a0 == ByteArray.toList (⟨#[101, 113]⟩)) then (k 2) else (bif (ByteArray.toList a0 == ByteArray.toList (⟨#[112, 105, 99, 107]⟩)) then (k 3) else (k 0))) else (bif (ByteArray.toList a0 == ByteArray.toList (⟨#[110, 101]⟩)) then (bif (ByteArray.toList a0 == ByteArray.toList (⟨#[110, 101]⟩)) then (k 2) else (bif (ByteArray.toList a0 == ByteArray.toList (⟨#[112, 105, 99, 107]⟩)) then (k 3) else (k 0))) else (bif (ByteArray.toList a0 == ByteArray.toList (⟨#[97, 110, 100]⟩)) then (bif (ByteArray.toList a0 == ByteArray.toList (⟨#[97, 110, 100]⟩)) then (k 2) else (bif (ByteArray.toList a0 == ByteArray.toList (⟨#[112, 105, 99, 107]⟩)) then (k 3) else (k 0))) else (bif (ByteArray.toList a0 == ByteArray.toList (⟨#[111, 114]⟩)) then (bif (ByteArray.toList a0 == ByteArray.toList (⟨#[111, 114]⟩)) then (k 2) else (bif (ByteArray.toList a0 == ByteArray.toList (⟨#[112, 105, 99, 107]⟩)) then (k 3) else (k 0))) else (bif (ByteArray.toList a0 == ByteArray.toList (⟨#[120, 111, 114]⟩)) then (bif (ByteArray.toList a0 == ByteArray.toList (⟨#[120, 111, 114]⟩)) then (k 2) else (bif (ByteArray.toList a0 == ByteArray.toList (⟨#[112, 105, 99, 107]⟩)) then (k 3) else (k 0))) else (bif (ByteArray.toList a0 == ByteArray.toList (⟨#[115, 104, 108]⟩)) then (bif (ByteArray.toList a0 == ByteArray.toList (⟨#[115, 104, 108]⟩)) then (k 2) else (bif (ByteArray.toList a0 == ByteArray.toList (⟨#[112, 105, 99, 107]⟩)) then (k 3) else (k 0))) else (bif (ByteArray.toList a0 == ByteArray.toList (⟨#[115, 104, 114]⟩)) then (k 2) else (bif (ByteArray.toList a0 == ByteArray.toList (⟨#[112, 105, 99, 107]⟩)) then (k 3) else (k 0))))))))))))))))))) else (bif (ByteArray.toList a0 == ByteArray.toList (⟨#[97, 98, 115]⟩)) then (bif (ByteArray.toList a0 == ByteArray.toList (⟨#[97, 98, 115]⟩)) then (k 1) else (bif (ByteArray.toList a0 == ByteArray.toList (⟨#[97, 100, 100]⟩)) then (bif (ByteArray.toList a0 == ByteArray.toList (⟨#[97, 100, 100]⟩)) then (k 2) else (bif (ByteArray.toList a0 == ByteArray.toList (⟨#[112, 105, 99, 107]⟩)) then (k 3) else (k 0))) else (bif (ByteArray.toList a0 == ByteArray.toList (⟨#[115, 117, 98]⟩)) then (bif (ByteArray.toList a0 == ByteArray.toList (⟨#[115, 117, 98]⟩)) then (k 2) else (bif (ByteArray.toList a0 == ByteArray.toList (⟨#[112, 105, 99, 107]⟩)) then (k 3) else (k 0))) else (bif (ByteArray.toList a0 == ByteArray.toList (⟨#[109, 117, 108]⟩)) then (bif (ByteArray.toList a0 == ByteArray.toList (⟨#[109, 117, 108]⟩)) then (k 2) else (bif (ByteArray.toList a0 == ByteArray.toList (⟨#[112, 105, 99, 107]⟩)) then (k 3) else (k 0))) else (bif (ByteArray.toList a0 == ByteArray.toList (⟨#[100, 105, 118]⟩)) then (bif (ByteArray.toList a0 == ByteArray.toList (⟨#[100, 105, 118]⟩)) then (k 2) else (bif (ByteArray.toList a0 == ByteArray.toList (⟨#[112, 105, 99, 107]⟩)) then (k 3) else (k 0))) else (bif (ByteArray.toList a0 == ByteArray.toList (⟨#[109, 111, 100]⟩)) then (bif (ByteArray.toList a0 == ByteArray.toList (⟨#[109, 111, 100]⟩)) then (k 2) else (bif (ByteArray.toList a0 == ByteArray.toList (⟨#[112, 105, 99, 107]⟩)) then (k 3) else (k 0))) else (bif (ByteArray.toList a0 == ByteArray.toList (⟨#[109, 105, 110]⟩)) then (bif (ByteArray.toList a0 == ByteArray.toList (⟨#[109, 105, 110]⟩)) then (k 2) else (bif (ByteArray.toList a0 == ByteArray.toList (⟨#[112, 105, 99, 107]⟩)) then (k 3) else (k 0))) else (bif (ByteArray.toList a0 == ByteArray.toList (⟨#[109, 97, 120]⟩)) then (bif (ByteArray.toList a0 == ByteArray.toList (⟨#[109, 97, 120]⟩)) then (k 2) else (bif (ByteArray.toList a0 == ByteArray.toList (⟨#[112, 105, 99, 107]⟩)) then (k 3) else (k 0))) else (bif (ByteArray.toList a0 == ByteArray.toList (⟨#[108, 116]⟩)) then (bif (ByteArray.toList a0 == ByteArray.toList (⟨#[108, 116]⟩)) then (k 2) else (bif (ByteArray.toList a0 == ByteArray.toList (⟨#[112, 105, 99, 107]⟩)) then (k 3) else (k 0))) else (bif (ByteArray.toList a0 == ByteArray.toList (⟨#[108, 101]⟩)) then (bif (ByteArray.toList a0 == ByteArray.toList (⟨#[108, 101]⟩)) then (k 2) else (bif (ByteArray.toList a0 == ByteArray.toList (⟨#[112, 105, 99, 107]⟩)) then (k 3) else (k 0))) else (bif (ByteArray.toList a0 == ByteArray.toList (⟨#[101, 113]⟩)) then (bif (ByteArray.toList a0 == ByteArray.toList (⟨#[101, 113]⟩)) then (k 2) else (bif (ByteArray.toList a0 == ByteArray.toList (⟨#[112, 105, 99, 107]⟩)) then (k 3) else (k 0))) else (bif (ByteArray.toList a0 == ByteArray.toList (⟨#[110, 101]⟩)) then (bif (ByteArray.toList a0 == ByteArray.toList (⟨#[110, 101]⟩)) then (k 2) else (bif (ByteArray.toList a0 == ByteArray.toList (⟨#[112, 105, 99, 107]⟩)) then (k 3) else (k 0))) else (bif (ByteArray.toList a0 == ByteArray.toList (⟨#[97, 110, 100]⟩)) then (bif (ByteArray.toList a0 == ByteArray.toList (⟨#[97, 110, 100]⟩)) then (k 2) else (bif (ByteArray.toList a0 == ByteArray.toList (⟨#[112, 105, 99, 107]⟩)) then (k 3) else (k 0))) else (bif (ByteArray.toList a0 == ByteArray.toList (⟨#[111, 114]⟩)) then (bif (ByteArray.toList a0 == ByteArray.toList (⟨#[111, 114]⟩)) then (k 2) else (bif (ByteArray.toList a0 == ByteArray.toList (⟨#[112, 105, 99, 107]⟩)) then (k 3) else (k 0))) else (bif (ByteArray.toList a0 == ByteArray.toList (⟨#[120, 111, 114]⟩)) then (bif (ByteArray.toList a0 == ByteArray.toList (⟨#[120, 111, 114]⟩)) then (k 2) else (bif (ByteArray.toList a0 == ByteArray.toList (⟨#[112, 105, 99, 107]⟩)) then (k 3) else (k 0))) else (bif (ByteArray.toList a0 == ByteArray.toList (⟨#[115, 104, 108]⟩)) then (bif (ByteArray.toList a0 == ByteArray.toList (⟨#[115, 104, 108]⟩)) then (k 2) else (bif (ByteArray.toList a0 == ByteArray.toList (⟨#[112, 105, 99, 107]⟩)) then (k 3) else (k 0))) else (bif (ByteArray.toList a0 == ByteArray.toList (⟨#[115, 104, 114]⟩)) then (k 2) else (bif (ByteArray.toList a0 == ByteArray.toList (⟨#[112, 105, 99, 107]⟩)) then (k 3) else (k 0))))))))))))))))))) else (bif (ByteArray.toList a0 == ByteArray.toList (⟨#[102, 108, 111, 111, 114]⟩)) then (bif (ByteArray.toList a0 == ByteArray.toList (⟨#[102, 108, 111, 111, 114]⟩)) then (k 1) else (bif (ByteArray.toList a0 == ByteArray.toList (⟨#[97, 100, 100]⟩)) then (bif (ByteArray.toList a0 == ByteArray.toList (⟨#[97, 100, 100]⟩)) then (k 2) else (bif (ByteArray.toList a0 == ByteArray.toList (⟨#[112, 105, 99, 107]⟩)) then (k 3) else (k 0))) else (bif (ByteArray.toList a0 == ByteArray.toList (⟨#[115, 117, 98]⟩)) then (bif (ByteArray.toList a0 == ByteArray.toList (⟨#[115, 117, 98]⟩)) then (k 2) else (bif (ByteArray.toList a0 == ByteArray.toList (⟨#[112, 105, 99, 107]⟩)) then (k 3) else (k 0))) else (bif (ByteArray.toList a0 == ByteArray.toList (⟨#[109, 117, 108]⟩)) then (bif (ByteArray.toList a0 == ByteArray.toList (⟨#[109, 117, 108]⟩)) then (k 2) else (bif (ByteArray.toList a0 == ByteArray.toList (⟨#[112, 105, 99, 107]⟩)) then (k 3) else (k 0))) else (bif (ByteArray.toList a0 == ByteArray.toList (⟨#[100, 105, 118]⟩)) then (bif (ByteArray.toList a0 == ByteArray.toList (⟨#[100, 105, 118]⟩)) then (k 2) else (bif (ByteArray.toList a0 == ByteArray.toList (⟨#[112, 105, 99, 107]⟩)) then (k 3) else (k 0))) else (bif (ByteArray.toList a0 == ByteArray.toList (⟨#[109, 111, 100]⟩)) then (bif (ByteArray.toList a0 == ByteArray.toList (⟨#[109, 111, 100]⟩)) then (k 2) else (bif (ByteArray.toList a0 == ByteArray.toList (⟨#[112, 105, 99, 107]⟩)) then (k 3) else (k 0))) else (bif (ByteArray.toList a0 == ByteArray.toList (⟨#[109, 105, 110]⟩)) then (bif (ByteArray.toList a0 == ByteArray.toList (⟨#[109, 105, 110]⟩)) then (k 2) else (bif (ByteArray.toList a0 == ByteArray.toList (⟨#[112, 105, 99, 107]⟩)) then (k 3) else (k 0))) else (bif (ByteArray.toList a0 == ByteArray.toList (⟨#[109, 97, 120]⟩)) then (bif (ByteArray.toList a0 == ByteArray.toList (⟨#[109, 97, 120]⟩)) then (k 2) else (bif (ByteArray.toList a0 == ByteArray.toList (⟨#[112, 105, 99, 107]⟩)) then (k 3) else (k 0))) else (bif (ByteArray.toList a0 == ByteArray.toList (⟨#[108, 116]⟩)) then (bif (ByteArray.toList a0 == ByteArray.toList (⟨#[108, 116]⟩)) then (k 2) else (bif (ByteArray.toList a0 == ByteArray.toList (⟨#[112, 105, 99, 107]⟩)) then (k 3) else (k 0))) else (bif (ByteArray.toList a0 == ByteArray.toList (⟨#[108, 101]⟩)) then (bif (ByteArray.toList a0 == ByteArray.toList (⟨#[108, 101]⟩)) then (k 2) else (bif (ByteArray.toList a0 == ByteArray.toList (⟨#[112, 105, 99, 107]⟩)) then (k 3) else (k 0))) else (bif (ByteArray.toList a0 == ByteArray.toList (⟨#[101, 113]⟩)) then (bif (ByteArray.toList a0 == ByteArray.toList (⟨#[101, 113]⟩)) then (k 2) else (bif (ByteArray.toList a0 == ByteArray.toList (⟨#[112, 105, 99, 107]⟩)) then (k 3) else (k 0))) else (bif (ByteArray.toList a0 == ByteArray.toList (⟨#[110, 101]⟩)) then (bif (ByteArray.toList a0 == ByteArray.toList (⟨#[110, 101]⟩)) then (k 2) else (bif (ByteArray.toList a0 == ByteArray.toList (⟨#[112, 105, 99, 107]⟩)) then (k 3) else (k 0))) else (bif (ByteArray.toList a0 == ByteArray.toList (⟨#[97, 110, 100]⟩)) then (bif (ByteArray.toList a0 == ByteArray.toList (⟨#[97, 110, 100]⟩)) then (k 2) else (bif (ByteArray.toList a0 == ByteArray.toList (⟨#[112, 105, 99, 107]⟩)) then (k 3) else (k 0))) else (bif (ByteArray.toList a0 == ByteArray.toList (⟨#[111, 114]⟩)) then (bif (ByteArray.toList a0 == ByteArray.toList (⟨#[111, 114]⟩)) then (k 2) else (bif (ByteArray.toList a0 == ByteArray.toList (⟨#[112, 105, 99, 107]⟩)) then (k 3) else (k 0))) else (bif (ByteArray.toList a0 == ByteArray.toList (⟨#[120, 111, 114]⟩)) then (bif (ByteArray.toList a0 == ByteArray.toList (⟨#[120, 111, 114]⟩)) then (k 2) else (bif (ByteArray.toList a0 == ByteArray.toList (⟨#[112, 105, 99, 107]⟩)) then (k 3) else (k 0))) else (bif (ByteArray.toList a0 == ByteArray.toList (⟨#[115, 104, 108]⟩)) then (bif (ByteArray.toList a0 == ByteArray.toList (⟨#[115, 104, 108]⟩)) then (k 2) else (bif (ByteArray.toList a0 == ByteArray.toList (⟨#[112, 105, 99, 107]⟩)) then (k 3) else (k 0))) else (bif (ByteArray.toList a0 == ByteArray.toList (⟨#[115, 104, 114]⟩)) then (k 2) else (bif (ByteArray.toList a0 == ByteArray.toList (⟨#[112, 105, 99, 107]⟩)) then (k 3) else (k 0))))))))))))))))))) else (bif (ByteArray.toList a0 == ByteArray.toList (⟨#[114, 111, 117, 110, 100]⟩)) then (bif (ByteArray.toList a0 == ByteArray.toList (⟨#[114, 111, 117, 110, 100]⟩)) then (k 1) else (bif (ByteArray.toList a0 == ByteArray.toList (⟨#[97, 100, 100]⟩)) then (bif (ByteArray.toList a0 == ByteArray.toList (⟨#[97, 100, 100]⟩)) then (k 2) else (bif (ByteArray.toList a0 == ByteArray.toList (⟨#[112, 105, 99, 107]⟩)) then (k 3) else (k 0))) else (bif (ByteArray.toList a0 == ByteArray.toList (⟨#[115, 117, 98]⟩)) then (bif (ByteArray.toList a0 == ByteArray.toList (⟨#[115, 117, 98]⟩)) then (k 2) else (bif (ByteArray.toList a0 == ByteArray.toList (⟨#[112, 105, 99, 107]⟩)) then (k 3) else (k 0))) else (bif (ByteArray.toList a0 == ByteArray.toList (⟨#[109, 117, 108]⟩)) then (bif (ByteArray.toList a0 == ByteArray.toList (⟨#[109, 117, 108]⟩)) then (k 2) else (bif (ByteArray.toList a0 == ByteArray.toList (⟨#[112, 105, 99, 107]⟩)) then (k 3) else (k 0))) else (bif (ByteArray.toList a0 == ByteArray.toList (⟨#[100, 105, 118]⟩)) then (bif (ByteArray.toList a0 == ByteArray.toList (⟨#[100, 105, 118]⟩)) then (k 2) else (bif (ByteArray.toList a0 == ByteArray.toList (⟨#[112, 105, 99, 107]⟩)) then (k 3) else (k 0))) else (bif (ByteArray.toList a0 == ByteArray.toList (⟨#[109, 111, 100]⟩)) then (bif (ByteArray.toList a0 == ByteArray.toList (⟨#[109, 111, 100]⟩)) then (k 2) else (bif (ByteArray.toList a0 == ByteArray.toList (⟨#[112, 105, 99, 107]⟩)) then (k 3) else (k 0))) else (bif (ByteArray.toList a0 == ByteArray.toList (⟨#[109, 105, 110]⟩)) then (bif (ByteArray.toList a0 == ByteArray.toList (⟨#[109, 105, 110]⟩)) then (k 2) else (bif (ByteArray.toList a0 == ByteArray.toList (⟨#[112, 105, 99, 107]⟩)) then (k 3) else (k 0))) else (bif (ByteArray.toList a0 == ByteArray.toList (⟨#[109, 97, 120]⟩)) then (bif (ByteArray.toList a0 == ByteArray.toList (⟨#[109, 97, 120]⟩)) then (k 2) else (bif (ByteArray.toList a0 == ByteArray.toList (⟨#[112, 105, 99, 107]⟩)) then (k 3) else (k 0))) else (bif (ByteArray.toList a0 == ByteArray.toList (⟨#[108, 116]⟩)) then (bif (ByteArray.toList a0 == ByteArray.toList (⟨#[108, 116]⟩)) then (k 2) else (bif (ByteArray.toList a0 == ByteArray.toList (⟨#[112, 105, 99, 107]⟩)) then (k 3) else (k 0))) else (bif (ByteArray.toList a0 == ByteArray.toList (⟨#[108, 101]⟩)) then (bif (ByteArray.toList a0 == ByteArray.toList (⟨#[108, 101]⟩)) then (k 2) else (bif (ByteArray.toList a0 == ByteArray.toList (⟨#[112, 105, 99, 107]⟩)) then (k 3) else (k 0))) else (bif (ByteArray.toList a0 == ByteArray.toList (⟨#[101, 113]⟩)) then (bif (ByteArray.toList a0 == ByteArray.toList (⟨#[101, 113]⟩)) then (k 2) else (bif (ByteArray.toList a0 == ByteArray.toList (⟨#[112, 105, 99, 107]⟩)) then (k 3) else (k 0))) else (bif (ByteArray.toList a0 == ByteArray.toList (⟨#[110, 101]⟩)) then (bif (ByteArray.toList a0 == ByteArray.toList (⟨#[110, 101]⟩)) then (k 2) else (bif (ByteArray.toList a0 == ByteArray.toList (⟨#[112, 105, 99, 107]⟩)) then (k 3) else (k 0))) else (bif (ByteArray.toList a0 == ByteArray.toList (⟨#[97, 110, 100]⟩)) then (bif (ByteArray.toList a0 == ByteArray.toList (⟨#[97, 110, 100]⟩)) then (k 2) else (bif (ByteArray.toList a0 == ByteArray.toList (⟨#[112, 105, 99, 107]⟩)) then (k 3) else (k 0))) else (bif (ByteArray.toList a0 == ByteArray.toList (⟨#[111, 114]⟩)) then (bif (ByteArray.toList a0 == ByteArray.toList (⟨#[111, 114]⟩)) then (k 2) else (bif (ByteArray.toList a0 == ByteArray.toList (⟨#[112, 105, 99, 107]⟩)) then (k 3) else (k 0))) else (bif (ByteArray.toList a0 == ByteArray.toList (⟨#[120, 111, 114]⟩)) then (bif (ByteArray.toList a0 == ByteArray.toList (⟨#[120, 111, 114]⟩)) then (k 2) else (bif (ByteArray.toList a0 == ByteArray.toList (⟨#[112, 105, 99, 107]⟩)) then (k 3) else (k 0))) else (bif (ByteArray.toList a0 == ByteArray.toList (⟨#[115, 104, 108]⟩)) then (bif (ByteArray.toList a0 == ByteArray.toList (⟨#[115, 104, 108]⟩)) then (k 2) else (bif (ByteArray.toList a0 == ByteArray.toList (⟨#[112, 105, 99, 107]⟩)) then (k 3) else (k 0))) else (bif (ByteArray.toList a0 == ByteArray.toList (⟨#[115, 104, 114]⟩)) then (k 2) else (bif (ByteArray.toList a0 == ByteArray.toList (⟨#[112, 105, 99, 107]⟩)) then (k 3) else (k 0))))))))))))))))))) else (bif (ByteArray.toList a0 == ByteArray.toList (⟨#[102, 114, 97, 99]⟩)) then (bif (ByteArray.toList a0 == ByteArray.toList (⟨#[102, 114, 97, 99]⟩)) then (k 1) else (bif (ByteArray.toList a0 == ByteArray.toList (⟨#[97, 100, 100]⟩)) then (bif (ByteArray.toList a0 == ByteArray.toList (⟨#[97, 100, 100]⟩)) then (k 2) else (bif (ByteArray.toList a0 == ByteArray.toList (⟨#[112, 105, 99, 107]⟩)) then (k 3) else (k 0))) else (bif (ByteArray.toList a0 == ByteArray.toList (⟨#[115, 117, 98]⟩)) then (bif (ByteArray.toList a0 == ByteArray.toList (⟨#[115, 117, 98]⟩)) then (k 2) else (bif (ByteArray.toList a0 == ByteArray.toList (⟨#[112, 105, 99, 107]⟩)) then (k 3) else (k 0))) else (bif (ByteArray.toList a0 == ByteArray.toList (⟨#[109, 117, 108]⟩)) then (bif (ByteArray.toList a0 == ByteArray.toList (⟨#[109, 117, 108]⟩)) then (k 2) else (bif (ByteArray.toList a0 == ByteArray.toList (⟨#[112, 105, 99, 107]⟩)) then (k 3) else (k 0))) else (bif (ByteArray.toList a0 == ByteArray.toList (⟨#[100, 105, 118]⟩)) then (bif (ByteArray.toList a0 == ByteArray.toList (⟨#[100, 105, 118]⟩)) then (k 2) else (bif (ByteArray.toList a0 == ByteArray.toList (⟨#[112, 105, 99, 107]⟩)) then (k 3) else (k 0))) else (bif (ByteArray.toList a0 == ByteArray.toList (⟨#[109, 111, 100]⟩)) then (bif (ByteArray.toList a0 == ByteArray.toList (⟨#[109, 111, 100]⟩)) then (k 2) else (bif (ByteArray.toList a0 == ByteArray.toList (⟨#[112, 105, 99, 107]⟩)) then (k 3) else (k 0))) else (bif (ByteArray.toList a0 == ByteArray.toList (⟨#[109, 105, 110]⟩)) then (bif (ByteArray.toList a0 == ByteArray.toList (⟨#[109, 105, 110]⟩)) then (k 2) else (bif (ByteArray.toList a0 == ByteArray.toList (⟨#[112, 105, 99, 107]⟩)) then (k 3) else (k 0))) else (bif (ByteArray.toList a0 == ByteArray.toList (⟨#[109, 97, 120]⟩)) then (bif (ByteArray.toList a0 == ByteArray.toList (⟨#[109, 97, 120]⟩)) then (k 2) else (bif (ByteArray.toList a0 == ByteArray.toList (⟨#[112, 105, 99, 107]⟩)) then (k 3) else (k 0))) else (bif (ByteArray.toList a0 == ByteArray.toList (⟨#[108, 116]⟩)) then (bif (ByteArray.toList a0 == ByteArray.toList (⟨#[108, 116]⟩)) then (k 2) else (bif (ByteArray.toList a0 == ByteArray.toList (⟨#[112, 105, 99, 107]⟩)) then (k 3) else (k 0))) else (bif (ByteArray.toList a0 == ByteArray.toList (⟨#[108, 101]⟩)) then (bif (ByteArray.toList a0 == ByteArray.toList (⟨#[108, 101]⟩)) then (k 2) else (bif (ByteArray.toList a0 == ByteArray.toList (⟨#[112, 105, 99, 107]⟩)) then (k 3) else (k 0))) else (bif (ByteArray.toList a0 == ByteArray.toList (⟨#[101, 113]⟩)) then (bif (ByteArray.toList a0 == ByteArray.toList (⟨#[101, 113]⟩)) then (k 2) else (bif (ByteArray.toList a0 == ByteArray.toList (⟨#[112, 105, 99, 107]⟩)) then (k 3) else (k 0))) else (bif (ByteArray.toList a0 == ByteArray.toList (⟨#[110, 101]⟩)) then (bif (ByteArray.toList a0 == ByteArray.toList (⟨#[110, 101]⟩)) then (k 2) else (bif (ByteArray.toList a0 == ByteArray.toList (⟨#[112, 105, 99, 107]⟩)) then (k 3) else (k 0))) else (bif (ByteArray.toList a0 == ByteArray.toList (⟨#[97, 110, 100]⟩)) then (bif (ByteArray.toList a0 == ByteArray.toList (⟨#[97, 110, 100]⟩)) then (k 2) else (bif (ByteArray.toList a0 == ByteArray.toList (⟨#[112, 105, 99, 107]⟩)) then (k 3) else (k 0))) else (bif (ByteArray.toList a0 == ByteArray.toList (⟨#[111, 114]⟩)) then (bif (ByteArray.toList a0 == ByteArray.toList (⟨#[111, 114]⟩)) then (k 2) else (bif (ByteArray.toList a0 == ByteArray.toList (⟨#[112, 105, 99, 107]⟩)) then (k 3) else (k 0))) else (bif (ByteArray.toList a0 == ByteArray.toList (⟨#[120, 111, 114]⟩)) then (bif (ByteArray.toList a0 == ByteArray.toList (⟨#[120, 111, 114]⟩)) then (k 2) else (bif (ByteArray.toList a0 == ByteArray.toList (⟨#[112, 105, 99, 107]⟩)) then (k 3) else (k 0))) else (bif (ByteArray.toList a0 == ByteArray.toList (⟨#[115, 104, 108]⟩)) then (bif (ByteArray.toList a0 == ByteArray.toList (⟨#[115, 104, 108]⟩)) then (k 2) else (bif (ByteArray.toList a0 == ByteArray.toList (⟨#[112, 105, 99, 107]⟩)) then (k 3) else (k 0))) else (bif (ByteArray.toList a0 == ByteArray.toList (⟨#[115, 104, 114]⟩)) then (k 2) else (bif (ByteArray.toList a0 == ByteArray.toList (⟨#[112, 105, 99, 107]⟩)) then (k 3) else (k 0))))))))))))))))))) else (bif (ByteArray.toList a0 == ByteArray.toList (⟨#[110, 111, 116]⟩)) then (k 1) else (bif (ByteArray.toList a0 == ByteArray.toList (⟨#[97, 100, 100]⟩)) then (bif (ByteArray.toList a0 == ByteArray.toList (⟨#[97, 100, 100]⟩)) then (k 2) else (bif (ByteArray.toList a0 == ByteArray.toList (⟨#[112, 105, 99, 107]⟩)) then (k 3) else (k 0))) else (bif (ByteArray.toList a0 == ByteArray.toList (⟨#[115, 117, 98]⟩)) then (bif (ByteArray.toList a0 == ByteArray.toList (⟨#[115, 117, 98]⟩)) then (k 2) else (bif (ByteArray.toList a0 == ByteArray.toList (⟨#[112, 105, 99, 107]⟩)) then (k 3) else (k 0))) else (bif (ByteArray.toList a0 == ByteArray.toList (⟨#[109, 117, 108]⟩)) then (bif (ByteArray.toList a0 == ByteArray.toList (⟨#[109, 117, 108]⟩)) then (k 2) else (bif (ByteArray.toList a0 == ByteArray.toList (⟨#[112, 105, 99, 107]⟩)) then (k 3) else (k 0))) else (bif (ByteArray.toList a0 == ByteArray.toList (⟨#[100, 105, 118]⟩)) then (bif (ByteArray.toList a0 == ByteArray.toList (⟨#[100, 105, 118]⟩)) then (k 2) else (bif (ByteArray.toList a0 == ByteArray.toList (⟨#[112, 105, 99, 107]⟩)) then (k 3) else (k 0))) else (bif (ByteArray.toList a0 == ByteArray.toList (⟨#[109, 111, 100]⟩)) then (bif (ByteArray.toList a0 == ByteArray.toList (⟨#[109, 111, 100]⟩)) then (k 2) else (bif (ByteArray.toList a0 == ByteArray.toList (⟨#[112, 105, 99, 107]⟩)) then (k 3) else (k 0))) else (bif (ByteArray.toList a0 == ByteArray.toList (⟨#[109, 105, 110]⟩)) then (bif (ByteArray.toList a0 == ByteArray.toList (⟨#[109, 105, 110]⟩)) then (k 2) else (bif (ByteArray.toList a0 == ByteArray.toList (⟨#[112, 105, 99, 107]⟩)) then (k 3) else (k 0))) else (bif (ByteArray.toList a0 == ByteArray.toList (⟨#[109, 97, 120]⟩)) then (bif (ByteArray.toList a0 == ByteArray.toList (⟨#[109, 97, 120]⟩)) then (k 2) else (bif (ByteArray.toList a0 == ByteArray.toList (⟨#[112, 105, 99, 107]⟩)) then (k 3) else (k 0))) else (bif (ByteArray.toList a0 == ByteArray.toList (⟨#[108, 116]⟩)) then (bif (ByteArray.toList a0 == ByteArray.toList (⟨#[108, 116]⟩)) then (k 2) else (bif (ByteArray.toList a0 == ByteArray.toList (⟨#[112, 105, 99, 107]⟩)) then (k 3) else (k 0))) else (bif (ByteArray.toList a0 == ByteArray.toList (⟨#[108, 101]⟩)) then (bif (ByteArray.toList a0 == ByteArray.toList (⟨#[108, 101]⟩)) then (k 2) else (bif (ByteArray.toList a0 == ByteArray.toList (⟨#[112, 105, 99, 107]⟩)) then (k 3) else (k 0))) else (bif (ByteArray.toList a0 == ByteArray.toList (⟨#[101, 113]⟩)) then (bif (ByteArray.toList a0 == ByteArray.toList (⟨#[101, 113]⟩)) then (k 2) else (bif (ByteArray.toList a0 == ByteArray.toList (⟨#[112, 105, 99, 107]⟩)) then (k 3) else (k 0))) else (bif (ByteArray.toList a0 == ByteArray.toList (⟨#[110, 101]⟩)) then (bif (ByteArray.toList a0 == ByteArray.toList (⟨#[110, 101]⟩)) then (k 2) else (bif (ByteArray.toList a0 == ByteArray.toList (⟨#[112, 105, 99, 107]⟩)) then (k 3) else (k 0))) else (bif (ByteArray.toList a0 == ByteArray.toList (⟨#[97, 110, 100]⟩)) then (bif (ByteArray.toList a0 == ByteArray.toList (⟨#[97, 110, 100]⟩)) then (k 2) else (bif (ByteArray.toList a0 == ByteArray.toList (⟨#[112, 105, 99, 107]⟩)) then (k 3) else (k 0))) else (bif (ByteArray.toList a0 == ByteArray.toList (⟨#[111, 114]⟩)) then (bif (ByteArray.toList a0 == ByteArray.toList (⟨#[111, 114]⟩)) then (k 2) else (bif (ByteArray.toList a0 == ByteArray.toList (⟨#[112, 105, 99, 107]⟩)) then (k 3) else (k 0))) else (bif (ByteArray.toList a0 == ByteArray.toList (⟨#[120, 111, 114]⟩)) then (bif (ByteArray.toList a0 == ByteArray.toList (⟨#[120, 111, 114]⟩)) then (k 2) else (bif (ByteArray.toList a0 == ByteArray.toList (⟨#[112, 105, 99, 107]⟩)) then (k 3) else (k 0))) else (bif (ByteArray.toList a0 == ByteArray.toList (⟨#[115, 104, 108]⟩)) then (bif (ByteArray.toList a0 == ByteArray.toList (⟨#[115, 104, 108]⟩)) then (k 2) else (bif (ByteArray.toList a0 == ByteArray.toList (⟨#[112, 105, 99, 107]⟩)) then (k 3) else (k 0))) else (bif (ByteArray.toList a0 == ByteArray.toList (⟨#[115, 104, 114]⟩)) then (k 2) else (bif (ByteArray.toList a0 == ByteArray.toList (⟨#[112, 105, 99, 107]⟩)) then (k 3) else (k 0)))))))))))))))))))))))
noncomputable def span_ins (a0 : ByteArray) (k : KI) : Option DV := B_span_ins  a0 k

noncomputable def KK_span_ins (f0 : ByteArray → KI → Option DV) (ds : List DV) (k : DV → Option DV) : Option DV :=
  match ds with
  | [.val (.string a0)] => f0 a0 (fun r0_0 => k (.val (.int .i64 r0_0)))
  | _ => none

theorem r_span_ins  (a0 : ByteArray) (k : DV → Option DV) : B_span_ins  a0 (fun r0_0 => k (.val (.int .i64 r0_0))) = pevF Tryz.prog (tab []) [] 64 Tryz.f33 (bodyOf Tryz.f33) [.val (.string a0)] k := by kernel_rfl

theorem m_span_ins : Meets Tryz.prog Inv 33 (KK_span_ins span_ins) :=
  meets_of_pev mixed stab (tab_nil _ _) Tryz.func33 (by kernel_rfl) (by kernel_rfl) (by
    intro ds; unfold KK_span_ins; split
    · exact .inr ⟨[], 64, fun k => r_span_ins  _ k⟩
    · exact .inl (fun _ => rfl))

noncomputable def B_span_isOpen  (a0_0 a0_1 : Int) (k : KB) : Option DV :=
  k ((a0_0 == 0) && ((a0_1 == 0) && true))
noncomputable def span_isOpen (a0_0 a0_1 : Int) (k : KB) : Option DV := B_span_isOpen  a0_0 a0_1 k

noncomputable def KK_span_isOpen (f0 : Int → Int → KB → Option DV) (ds : List DV) (k : DV → Option DV) : Option DV :=
  match ds with
  | [.val (.agg ⟨[.int .i64 a0_0, .int .i64 a0_1]⟩)] => f0 a0_0 a0_1 (fun r0_0 => k (.val (.bool r0_0)))
  | _ => none

theorem r_span_isOpen  (a0_0 a0_1 : Int) (k : DV → Option DV) : B_span_isOpen  a0_0 a0_1 (fun r0_0 => k (.val (.bool r0_0))) = pevF Tryz.prog (tab []) [] 64 Tryz.f31 (bodyOf Tryz.f31) [.val (.agg ⟨[.int .i64 a0_0, .int .i64 a0_1]⟩)] k := by kernel_rfl

theorem m_span_isOpen : Meets Tryz.prog Inv 31 (KK_span_isOpen span_isOpen) :=
  meets_of_pev mixed stab (tab_nil _ _) Tryz.func31 (by kernel_rfl) (by kernel_rfl) (by
    intro ds; unfold KK_span_isOpen; split
    · exact .inr ⟨[], 64, fun k => r_span_isOpen  _ _ k⟩
    · exact .inl (fun _ => rfl))

noncomputable def B_span_isAmong (f0 : Int → Int → Int → Int → KI → Option DV) (f1 : Int → Int → KB → Option DV) (a0_0 a0_1 a1_0 a1_1 a2_0 a2_1 a2_2 a2_3 a2_4 : Int) (a2_5 a2_6 : Bool) (k : KB) : Option DV :=
  f1 a2_0 a2_1 (fun r1 => bif !r1 then (f0 a0_0 a0_1 a2_0 a2_1 (fun r2 => bif decide (r2 ≥ 0) then (f1 a2_2 a2_3 (fun r3 => bif !r3 then (f1 a1_0 a1_1 (fun r4 => bif !r4 then (f0 a1_0 a1_1 a2_2 a2_3 (fun r5 => k (decide (r5 ≤ 0)))) else (k false))) else (k true))) else (k false))) else (f1 a2_2 a2_3 (fun r6 => bif !r6 then (f1 a1_0 a1_1 (fun r7 => bif !r7 then (f0 a1_0 a1_1 a2_2 a2_3 (fun r8 => k (decide (r8 ≤ 0)))) else (k false))) else (k true))))
noncomputable def span_isAmong (a0_0 a0_1 a1_0 a1_1 a2_0 a2_1 a2_2 a2_3 a2_4 : Int) (a2_5 a2_6 : Bool) (k : KB) : Option DV := B_span_isAmong ratio_Cmp span_isOpen a0_0 a0_1 a1_0 a1_1 a2_0 a2_1 a2_2 a2_3 a2_4 a2_5 a2_6 k

noncomputable def KK_span_isAmong (f0 : Int → Int → Int → Int → Int → Int → Int → Int → Int → Bool → Bool → KB → Option DV) (ds : List DV) (k : DV → Option DV) : Option DV :=
  match ds with
  | [.val (.agg ⟨[.int .i64 a0_0, .int .i64 a0_1]⟩), .val (.agg ⟨[.int .i64 a1_0, .int .i64 a1_1]⟩), .val (.agg ⟨[.int .i64 a2_0, .int .i64 a2_1, .int .i64 a2_2, .int .i64 a2_3, .int .i64 a2_4, .bool a2_5, .bool a2_6]⟩)] => f0 a0_0 a0_1 a1_0 a1_1 a2_0 a2_1 a2_2 a2_3 a2_4 a2_5 a2_6 (fun r0_0 => k (.val (.bool r0_0)))
  | _ => none

theorem r_span_isAmong (f0 : Int → Int → Int → Int → KI → Option DV) (f1 : Int → Int → KB → Option DV) (a0_0 a0_1 a1_0 a1_1 a2_0 a2_1 a2_2 a2_3 a2_4 : Int) (a2_5 a2_6 : Bool) (k : DV → Option DV) : B_span_isAmong f0 f1 a0_0 a0_1 a1_0 a1_1 a2_0 a2_1 a2_2 a2_3 a2_4 a2_5 a2_6 (fun r0_0 => k (.val (.bool r0_0))) = pevF Tryz.prog (tab [(31, (KK_span_isOpen f1)), (78, (KK_ratio_Cmp f0))]) [] 64 Tryz.f32 (bodyOf Tryz.f32) [.val (.agg ⟨[.int .i64 a0_0, .int .i64 a0_1]⟩), .val (.agg ⟨[.int .i64 a1_0, .int .i64 a1_1]⟩), .val (.agg ⟨[.int .i64 a2_0, .int .i64 a2_1, .int .i64 a2_2, .int .i64 a2_3, .int .i64 a2_4, .bool a2_5, .bool a2_6]⟩)] k := by kernel_rfl

theorem m_span_isAmong : Meets Tryz.prog Inv 32 (KK_span_isAmong span_isAmong) :=
  meets_of_pev mixed stab (tab_cons m_span_isOpen (tab_cons m_ratio_Cmp (tab_nil _ _))) Tryz.func32 (by kernel_rfl) (by kernel_rfl) (by
    intro ds; unfold KK_span_isAmong; split
    · exact .inr ⟨[], 64, fun k => r_span_isAmong ratio_Cmp span_isOpen _ _ _ _ _ _ _ _ _ _ _ k⟩
    · exact .inl (fun _ => rfl))

noncomputable def B_span_Has (f0 : Int → Int → Int → Int → Int → Int → Int → Int → Int → Bool → Bool → KB → Option DV) (f1 : Int → Int → KB → Option DV) (f2 : Int → Int → Int → Int → Int → Bool → Bool → KS → Option DV) (a0_0 a0_1 a0_2 a0_3 a0_4 : Int) (a0_5 a0_6 : Bool) (a1_0 a1_1 : Int) (k : KB) : Option DV :=
  f2 a0_0 a0_1 a0_2 a0_3 a0_4 a0_5 a0_6 (fun r1 r2 r3 r4 r5 r6 r7 => f1 a1_0 a1_1 (fun r8 => bif !r8 then (k r6) else (bif !r7 then (f0 a1_0 a1_1 a1_0 a1_1 r1 r2 r3 r4 r5 r6 r7 (fun r9 => bif r9 then (bif !(r5 == 0) then (bif a1_1 == 0 then none else (k ((Int.tmod r5 a1_1) == 0))) else (k true)) else (k false))) else (k false))))
noncomputable def span_Has (a0_0 a0_1 a0_2 a0_3 a0_4 : Int) (a0_5 a0_6 : Bool) (a1_0 a1_1 : Int) (k : KB) : Option DV := B_span_Has span_isAmong ratio_Is span_known a0_0 a0_1 a0_2 a0_3 a0_4 a0_5 a0_6 a1_0 a1_1 k

noncomputable def KK_span_Has (f0 : Int → Int → Int → Int → Int → Bool → Bool → Int → Int → KB → Option DV) (ds : List DV) (k : DV → Option DV) : Option DV :=
  match ds with
  | [.val (.agg ⟨[.int .i64 a0_0, .int .i64 a0_1, .int .i64 a0_2, .int .i64 a0_3, .int .i64 a0_4, .bool a0_5, .bool a0_6]⟩), .val (.agg ⟨[.int .i64 a1_0, .int .i64 a1_1]⟩)] => f0 a0_0 a0_1 a0_2 a0_3 a0_4 a0_5 a0_6 a1_0 a1_1 (fun r0_0 => k (.val (.bool r0_0)))
  | _ => none

theorem r_span_Has (f0 : Int → Int → Int → Int → Int → Int → Int → Int → Int → Bool → Bool → KB → Option DV) (f1 : Int → Int → KB → Option DV) (f2 : Int → Int → Int → Int → Int → Bool → Bool → KS → Option DV) (a0_0 a0_1 a0_2 a0_3 a0_4 : Int) (a0_5 a0_6 : Bool) (a1_0 a1_1 : Int) (k : DV → Option DV) : B_span_Has f0 f1 f2 a0_0 a0_1 a0_2 a0_3 a0_4 a0_5 a0_6 a1_0 a1_1 (fun r0_0 => k (.val (.bool r0_0))) = pevF Tryz.prog (tab [(26, (KK_span_known f2)), (32, (KK_span_isAmong f0)), (36, (KK_ratio_Is f1))]) [] 64 Tryz.f11 (bodyOf Tryz.f11) [.val (.agg ⟨[.int .i64 a0_0, .int .i64 a0_1, .int .i64 a0_2, .int .i64 a0_3, .int .i64 a0_4, .bool a0_5, .bool a0_6]⟩), .val (.agg ⟨[.int .i64 a1_0, .int .i64 a1_1]⟩)] k := by kernel_rfl

theorem m_span_Has : Meets Tryz.prog Inv 11 (KK_span_Has span_Has) :=
  meets_of_pev mixed stab (tab_cons m_span_known (tab_cons m_span_isAmong (tab_cons m_ratio_Is (tab_nil _ _)))) Tryz.func11 (by kernel_rfl) (by kernel_rfl) (by
    intro ds; unfold KK_span_Has; split
    · exact .inr ⟨[], 64, fun k => r_span_Has span_isAmong ratio_Is span_known _ _ _ _ _ _ _ _ _ k⟩
    · exact .inl (fun _ => rfl))

noncomputable def B_span_bounded (f0 : Int → KB → Option DV) (a0 : Int) (k : KI) : Option DV :=
  f0 a0 (fun r1 => bif !r1 then (k 0) else (k a0))
noncomputable def span_bounded (a0 : Int) (k : KI) : Option DV := B_span_bounded span_isDen a0 k

noncomputable def KK_span_bounded (f0 : Int → KI → Option DV) (ds : List DV) (k : DV → Option DV) : Option DV :=
  match ds with
  | [.val (.int .i64 a0)] => f0 a0 (fun r0_0 => k (.val (.int .i64 r0_0)))
  | _ => none

theorem r_span_bounded (f0 : Int → KB → Option DV) (a0 : Int) (k : DV → Option DV) : B_span_bounded f0 a0 (fun r0_0 => k (.val (.int .i64 r0_0))) = pevF Tryz.prog (tab [(60, (KK_span_isDen f0))]) [] 64 Tryz.f93 (bodyOf Tryz.f93) [.val (.int .i64 a0)] k := by kernel_rfl

theorem m_span_bounded : Meets Tryz.prog Inv 93 (KK_span_bounded span_bounded) :=
  meets_of_pev mixed stab (tab_cons m_span_isDen (tab_nil _ _)) Tryz.func93 (by kernel_rfl) (by kernel_rfl) (by
    intro ds; unfold KK_span_bounded; split
    · exact .inr ⟨[], 64, fun k => r_span_bounded span_isDen _ k⟩
    · exact .inl (fun _ => rfl))

noncomputable def B_span_lowestCommon (f0 : Int → KI → Option DV) (f1 : Int → Int → KQ → Option DV) (a0 a1 : Int) (k : KI) : Option DV :=
  f1 a0 a1 (fun r1 r2 => f0 (IntKind.wrap .i64 (a0 * r2)) (fun r3 => k r3))
noncomputable def span_lowestCommon (a0 a1 : Int) (k : KI) : Option DV := B_span_lowestCommon span_bounded ratio_Make a0 a1 k

noncomputable def KK_span_lowestCommon (f0 : Int → Int → KI → Option DV) (ds : List DV) (k : DV → Option DV) : Option DV :=
  match ds with
  | [.val (.int .i64 a0), .val (.int .i64 a1)] => f0 a0 a1 (fun r0_0 => k (.val (.int .i64 r0_0)))
  | _ => none

theorem r_span_lowestCommon (f0 : Int → KI → Option DV) (f1 : Int → Int → KQ → Option DV) (a0 a1 : Int) (k : DV → Option DV) : B_span_lowestCommon f0 f1 a0 a1 (fun r0_0 => k (.val (.int .i64 r0_0))) = pevF Tryz.prog (tab [(93, (KK_span_bounded f0)), (94, (KK_ratio_Make f1))]) [] 64 Tryz.f56 (bodyOf Tryz.f56) [.val (.int .i64 a0), .val (.int .i64 a1)] k := by kernel_rfl

theorem m_span_lowestCommon : Meets Tryz.prog Inv 56 (KK_span_lowestCommon span_lowestCommon) :=
  meets_of_pev mixed stab (tab_cons m_span_bounded (tab_cons m_ratio_Make (tab_nil _ _))) Tryz.func56 (by kernel_rfl) (by kernel_rfl) (by
    intro ds; unfold KK_span_lowestCommon; split
    · exact .inr ⟨[], 64, fun k => r_span_lowestCommon span_bounded ratio_Make _ _ k⟩
    · exact .inl (fun _ => rfl))

noncomputable def B_span_Join (f0 : Int → Int → KI → Option DV) (f1 : Int → Int → Int → Int → KQ → Option DV) (f2 : Int → Int → Int → Int → KQ → Option DV) (f3 : Int → Int → Int → Int → Int → Bool → Bool → KS → Option DV) (a0_0 a0_1 a0_2 a0_3 a0_4 : Int) (a0_5 a0_6 : Bool) (a1_0 a1_1 a1_2 a1_3 a1_4 : Int) (a1_5 a1_6 : Bool) (k : KS) : Option DV :=
  f3 a0_0 a0_1 a0_2 a0_3 a0_4 a0_5 a0_6 (fun r1 r2 r3 r4 r5 r6 r7 => f3 a1_0 a1_1 a1_2 a1_3 a1_4 a1_5 a1_6 (fun r8 r9 r10 r11 r12 r13 r14 => f2 r1 r2 r8 r9 (fun r15 r16 => f1 r3 r4 r10 r11 (fun r17 r18 => f0 r5 r12 (fun r19 => bif r7 then (bif !r6 then (k r8 r9 r10 r11 r12 r13 r14) else (k r8 r9 r10 r11 r12 true r14)) else (bif r14 then (bif !r6 then (k r1 r2 r3 r4 r5 r13 r7) else (k r1 r2 r3 r4 r5 true r7)) else (bif !r6 then (k r15 r16 r17 r18 r19 r13 false) else (k r15 r16 r17 r18 r19 true false))))))))
noncomputable def span_Join (a0_0 a0_1 a0_2 a0_3 a0_4 : Int) (a0_5 a0_6 : Bool) (a1_0 a1_1 a1_2 a1_3 a1_4 : Int) (a1_5 a1_6 : Bool) (k : KS) : Option DV := B_span_Join span_lowestCommon ratio_Max ratio_Min span_known a0_0 a0_1 a0_2 a0_3 a0_4 a0_5 a0_6 a1_0 a1_1 a1_2 a1_3 a1_4 a1_5 a1_6 k

noncomputable def KK_span_Join (f0 : Int → Int → Int → Int → Int → Bool → Bool → Int → Int → Int → Int → Int → Bool → Bool → KS → Option DV) (ds : List DV) (k : DV → Option DV) : Option DV :=
  match ds with
  | [.val (.agg ⟨[.int .i64 a0_0, .int .i64 a0_1, .int .i64 a0_2, .int .i64 a0_3, .int .i64 a0_4, .bool a0_5, .bool a0_6]⟩), .val (.agg ⟨[.int .i64 a1_0, .int .i64 a1_1, .int .i64 a1_2, .int .i64 a1_3, .int .i64 a1_4, .bool a1_5, .bool a1_6]⟩)] => f0 a0_0 a0_1 a0_2 a0_3 a0_4 a0_5 a0_6 a1_0 a1_1 a1_2 a1_3 a1_4 a1_5 a1_6 (fun r0_0 r0_1 r0_2 r0_3 r0_4 r0_5 r0_6 => k (.val (.agg ⟨[.int .i64 r0_0, .int .i64 r0_1, .int .i64 r0_2, .int .i64 r0_3, .int .i64 r0_4, .bool r0_5, .bool r0_6]⟩)))
  | _ => none

theorem r_span_Join (f0 : Int → Int → KI → Option DV) (f1 : Int → Int → Int → Int → KQ → Option DV) (f2 : Int → Int → Int → Int → KQ → Option DV) (f3 : Int → Int → Int → Int → Int → Bool → Bool → KS → Option DV) (a0_0 a0_1 a0_2 a0_3 a0_4 : Int) (a0_5 a0_6 : Bool) (a1_0 a1_1 a1_2 a1_3 a1_4 : Int) (a1_5 a1_6 : Bool) (k : DV → Option DV) : B_span_Join f0 f1 f2 f3 a0_0 a0_1 a0_2 a0_3 a0_4 a0_5 a0_6 a1_0 a1_1 a1_2 a1_3 a1_4 a1_5 a1_6 (fun r0_0 r0_1 r0_2 r0_3 r0_4 r0_5 r0_6 => k (.val (.agg ⟨[.int .i64 r0_0, .int .i64 r0_1, .int .i64 r0_2, .int .i64 r0_3, .int .i64 r0_4, .bool r0_5, .bool r0_6]⟩))) = pevF Tryz.prog (tab [(26, (KK_span_known f3)), (54, (KK_ratio_Min f2)), (55, (KK_ratio_Max f1)), (56, (KK_span_lowestCommon f0))]) [] 64 Tryz.f13 (bodyOf Tryz.f13) [.val (.agg ⟨[.int .i64 a0_0, .int .i64 a0_1, .int .i64 a0_2, .int .i64 a0_3, .int .i64 a0_4, .bool a0_5, .bool a0_6]⟩), .val (.agg ⟨[.int .i64 a1_0, .int .i64 a1_1, .int .i64 a1_2, .int .i64 a1_3, .int .i64 a1_4, .bool a1_5, .bool a1_6]⟩)] k := by kernel_rfl

theorem m_span_Join : Meets Tryz.prog Inv 13 (KK_span_Join span_Join) :=
  meets_of_pev mixed stab (tab_cons m_span_known (tab_cons m_ratio_Min (tab_cons m_ratio_Max (tab_cons m_span_lowestCommon (tab_nil _ _))))) Tryz.func13 (by kernel_rfl) (by kernel_rfl) (by
    intro ds; unfold KK_span_Join; split
    · exact .inr ⟨[], 64, fun k => r_span_Join span_lowestCommon ratio_Max ratio_Min span_known _ _ _ _ _ _ _ _ _ _ _ _ _ _ k⟩
    · exact .inl (fun _ => rfl))

noncomputable def B_span_zero (f0 : Int → Int → KQ → Option DV)  (k : KQ) : Option DV :=
  f0 0 1 (fun r1 r2 => k r1 r2)
noncomputable def span_zero  (k : KQ) : Option DV := B_span_zero ratio_Make  k

noncomputable def KK_span_zero (f0 : KQ → Option DV) (ds : List DV) (k : DV → Option DV) : Option DV :=
  match ds with
  | [] => f0  (fun r0_0 r0_1 => k (.val (.agg ⟨[.int .i64 r0_0, .int .i64 r0_1]⟩)))
  | _ => none

theorem r_span_zero (f0 : Int → Int → KQ → Option DV)  (k : DV → Option DV) : B_span_zero f0  (fun r0_0 r0_1 => k (.val (.agg ⟨[.int .i64 r0_0, .int .i64 r0_1]⟩))) = pevF Tryz.prog (tab [(94, (KK_ratio_Make f0))]) [] 64 Tryz.f79 (bodyOf Tryz.f79) [] k := by kernel_rfl

theorem m_span_zero : Meets Tryz.prog Inv 79 (KK_span_zero span_zero) :=
  meets_of_pev mixed stab (tab_cons m_ratio_Make (tab_nil _ _)) Tryz.func79 (by kernel_rfl) (by kernel_rfl) (by
    intro ds; unfold KK_span_zero; split
    · exact .inr ⟨[], 64, fun k => r_span_zero ratio_Make  k⟩
    · exact .inl (fun _ => rfl))

noncomputable def B_span_isPoint (f0 : Int → Int → KB → Option DV) (a0_0 a0_1 a0_2 a0_3 a0_4 : Int) (a0_5 a0_6 : Bool) (k : KB) : Option DV :=
  f0 a0_0 a0_1 (fun r1 => bif !r1 then (k ((a0_0 == a0_2) && ((a0_1 == a0_3) && true))) else (k false))
noncomputable def span_isPoint (a0_0 a0_1 a0_2 a0_3 a0_4 : Int) (a0_5 a0_6 : Bool) (k : KB) : Option DV := B_span_isPoint span_isOpen a0_0 a0_1 a0_2 a0_3 a0_4 a0_5 a0_6 k

noncomputable def KK_span_isPoint (f0 : Int → Int → Int → Int → Int → Bool → Bool → KB → Option DV) (ds : List DV) (k : DV → Option DV) : Option DV :=
  match ds with
  | [.val (.agg ⟨[.int .i64 a0_0, .int .i64 a0_1, .int .i64 a0_2, .int .i64 a0_3, .int .i64 a0_4, .bool a0_5, .bool a0_6]⟩)] => f0 a0_0 a0_1 a0_2 a0_3 a0_4 a0_5 a0_6 (fun r0_0 => k (.val (.bool r0_0)))
  | _ => none

theorem r_span_isPoint (f0 : Int → Int → KB → Option DV) (a0_0 a0_1 a0_2 a0_3 a0_4 : Int) (a0_5 a0_6 : Bool) (k : DV → Option DV) : B_span_isPoint f0 a0_0 a0_1 a0_2 a0_3 a0_4 a0_5 a0_6 (fun r0_0 => k (.val (.bool r0_0))) = pevF Tryz.prog (tab [(31, (KK_span_isOpen f0))]) [] 64 Tryz.f105 (bodyOf Tryz.f105) [.val (.agg ⟨[.int .i64 a0_0, .int .i64 a0_1, .int .i64 a0_2, .int .i64 a0_3, .int .i64 a0_4, .bool a0_5, .bool a0_6]⟩)] k := by kernel_rfl

theorem m_span_isPoint : Meets Tryz.prog Inv 105 (KK_span_isPoint span_isPoint) :=
  meets_of_pev mixed stab (tab_cons m_span_isOpen (tab_nil _ _)) Tryz.func105 (by kernel_rfl) (by kernel_rfl) (by
    intro ds; unfold KK_span_isPoint; split
    · exact .inr ⟨[], 64, fun k => r_span_isPoint span_isOpen _ _ _ _ _ _ _ k⟩
    · exact .inl (fun _ => rfl))

noncomputable def B_span_isZero (f0 : Int → Int → Int → Int → Int → Bool → Bool → KB → Option DV) (a0_0 a0_1 a0_2 a0_3 a0_4 : Int) (a0_5 a0_6 : Bool) (k : KB) : Option DV :=
  f0 a0_0 a0_1 a0_2 a0_3 a0_4 a0_5 a0_6 (fun r1 => bif r1 then (k (a0_0 == 0)) else (k false))
noncomputable def span_isZero (a0_0 a0_1 a0_2 a0_3 a0_4 : Int) (a0_5 a0_6 : Bool) (k : KB) : Option DV := B_span_isZero span_isPoint a0_0 a0_1 a0_2 a0_3 a0_4 a0_5 a0_6 k

noncomputable def KK_span_isZero (f0 : Int → Int → Int → Int → Int → Bool → Bool → KB → Option DV) (ds : List DV) (k : DV → Option DV) : Option DV :=
  match ds with
  | [.val (.agg ⟨[.int .i64 a0_0, .int .i64 a0_1, .int .i64 a0_2, .int .i64 a0_3, .int .i64 a0_4, .bool a0_5, .bool a0_6]⟩)] => f0 a0_0 a0_1 a0_2 a0_3 a0_4 a0_5 a0_6 (fun r0_0 => k (.val (.bool r0_0)))
  | _ => none

theorem r_span_isZero (f0 : Int → Int → Int → Int → Int → Bool → Bool → KB → Option DV) (a0_0 a0_1 a0_2 a0_3 a0_4 : Int) (a0_5 a0_6 : Bool) (k : DV → Option DV) : B_span_isZero f0 a0_0 a0_1 a0_2 a0_3 a0_4 a0_5 a0_6 (fun r0_0 => k (.val (.bool r0_0))) = pevF Tryz.prog (tab [(105, (KK_span_isPoint f0))]) [] 64 Tryz.f80 (bodyOf Tryz.f80) [.val (.agg ⟨[.int .i64 a0_0, .int .i64 a0_1, .int .i64 a0_2, .int .i64 a0_3, .int .i64 a0_4, .bool a0_5, .bool a0_6]⟩)] k := by kernel_rfl

theorem m_span_isZero : Meets Tryz.prog Inv 80 (KK_span_isZero span_isZero) :=
  meets_of_pev mixed stab (tab_cons m_span_isPoint (tab_nil _ _)) Tryz.func80 (by kernel_rfl) (by kernel_rfl) (by
    intro ds; unfold KK_span_isZero; split
    · exact .inr ⟨[], 64, fun k => r_span_isZero span_isPoint _ _ _ _ _ _ _ k⟩
    · exact .inl (fun _ => rfl))

noncomputable def B_span_pick (f0 : Int → Int → Int → Int → Int → Bool → Bool → Int → Int → Int → Int → Int → Bool → Bool → KS → Option DV) (f1 : Int → Int → Int → Int → Int → Bool → Bool → KB → Option DV) (f2 : Int → Int → Int → Int → Int → Bool → Bool → Int → Int → KB → Option DV) (f3 : KQ → Option DV) (a0_0 a0_1 a0_2 a0_3 a0_4 : Int) (a0_5 a0_6 : Bool) (a1_0 a1_1 a1_2 a1_3 a1_4 : Int) (a1_5 a1_6 : Bool) (a2_0 a2_1 a2_2 a2_3 a2_4 : Int) (a2_5 a2_6 : Bool) (k : KS) : Option DV :=
  bif a0_6 then (k a0_0 a0_1 a0_2 a0_3 a0_4 a0_5 a0_6) else (f3  (fun r1 r2 => f2 a0_0 a0_1 a0_2 a0_3 a0_4 a0_5 a0_6 r1 r2 (fun r3 => bif !r3 then (bif !a2_5 then (k a2_0 a2_1 a2_2 a2_3 a2_4 a0_5 a2_6) else (k a2_0 a2_1 a2_2 a2_3 a2_4 true a2_6)) else (f1 a0_0 a0_1 a0_2 a0_3 a0_4 a0_5 a0_6 (fun r4 => bif r4 then (bif !a1_5 then (k a1_0 a1_1 a1_2 a1_3 a1_4 a0_5 a1_6) else (k a1_0 a1_1 a1_2 a1_3 a1_4 true a1_6)) else (f0 a1_0 a1_1 a1_2 a1_3 a1_4 a1_5 a1_6 a2_0 a2_1 a2_2 a2_3 a2_4 a2_5 a2_6 (fun r5 r6 r7 r8 r9 r10 r11 => bif !r10 then (k r5 r6 r7 r8 r9 a0_5 r11) else (k r5 r6 r7 r8 r9 true r11))))))))
noncomputable def span_pick (a0_0 a0_1 a0_2 a0_3 a0_4 : Int) (a0_5 a0_6 : Bool) (a1_0 a1_1 a1_2 a1_3 a1_4 : Int) (a1_5 a1_6 : Bool) (a2_0 a2_1 a2_2 a2_3 a2_4 : Int) (a2_5 a2_6 : Bool) (k : KS) : Option DV := B_span_pick span_Join span_isZero span_Has span_zero a0_0 a0_1 a0_2 a0_3 a0_4 a0_5 a0_6 a1_0 a1_1 a1_2 a1_3 a1_4 a1_5 a1_6 a2_0 a2_1 a2_2 a2_3 a2_4 a2_5 a2_6 k

noncomputable def KK_span_pick (f0 : Int → Int → Int → Int → Int → Bool → Bool → Int → Int → Int → Int → Int → Bool → Bool → Int → Int → Int → Int → Int → Bool → Bool → KS → Option DV) (ds : List DV) (k : DV → Option DV) : Option DV :=
  match ds with
  | [.val (.agg ⟨[.int .i64 a0_0, .int .i64 a0_1, .int .i64 a0_2, .int .i64 a0_3, .int .i64 a0_4, .bool a0_5, .bool a0_6]⟩), .val (.agg ⟨[.int .i64 a1_0, .int .i64 a1_1, .int .i64 a1_2, .int .i64 a1_3, .int .i64 a1_4, .bool a1_5, .bool a1_6]⟩), .val (.agg ⟨[.int .i64 a2_0, .int .i64 a2_1, .int .i64 a2_2, .int .i64 a2_3, .int .i64 a2_4, .bool a2_5, .bool a2_6]⟩)] => f0 a0_0 a0_1 a0_2 a0_3 a0_4 a0_5 a0_6 a1_0 a1_1 a1_2 a1_3 a1_4 a1_5 a1_6 a2_0 a2_1 a2_2 a2_3 a2_4 a2_5 a2_6 (fun r0_0 r0_1 r0_2 r0_3 r0_4 r0_5 r0_6 => k (.val (.agg ⟨[.int .i64 r0_0, .int .i64 r0_1, .int .i64 r0_2, .int .i64 r0_3, .int .i64 r0_4, .bool r0_5, .bool r0_6]⟩)))
  | _ => none

theorem r_span_pick (f0 : Int → Int → Int → Int → Int → Bool → Bool → Int → Int → Int → Int → Int → Bool → Bool → KS → Option DV) (f1 : Int → Int → Int → Int → Int → Bool → Bool → KB → Option DV) (f2 : Int → Int → Int → Int → Int → Bool → Bool → Int → Int → KB → Option DV) (f3 : KQ → Option DV) (a0_0 a0_1 a0_2 a0_3 a0_4 : Int) (a0_5 a0_6 : Bool) (a1_0 a1_1 a1_2 a1_3 a1_4 : Int) (a1_5 a1_6 : Bool) (a2_0 a2_1 a2_2 a2_3 a2_4 : Int) (a2_5 a2_6 : Bool) (k : DV → Option DV) : B_span_pick f0 f1 f2 f3 a0_0 a0_1 a0_2 a0_3 a0_4 a0_5 a0_6 a1_0 a1_1 a1_2 a1_3 a1_4 a1_5 a1_6 a2_0 a2_1 a2_2 a2_3 a2_4 a2_5 a2_6 (fun r0_0 r0_1 r0_2 r0_3 r0_4 r0_5 r0_6 => k (.val (.agg ⟨[.int .i64 r0_0, .int .i64 r0_1, .int .i64 r0_2, .int .i64 r0_3, .int .i64 r0_4, .bool r0_5, .bool r0_6]⟩))) = pevF Tryz.prog (tab [(11, (KK_span_Has f2)), (13, (KK_span_Join f0)), (79, (KK_span_zero f3)), (80, (KK_span_isZero f1))]) [] 64 Tryz.f34 (bodyOf Tryz.f34) [.val (.agg ⟨[.int .i64 a0_0, .int .i64 a0_1, .int .i64 a0_2, .int .i64 a0_3, .int .i64 a0_4, .bool a0_5, .bool a0_6]⟩), .val (.agg ⟨[.int .i64 a1_0, .int .i64 a1_1, .int .i64 a1_2, .int .i64 a1_3, .int .i64 a1_4, .bool a1_5, .bool a1_6]⟩), .val (.agg ⟨[.int .i64 a2_0, .int .i64 a2_1, .int .i64 a2_2, .int .i64 a2_3, .int .i64 a2_4, .bool a2_5, .bool a2_6]⟩)] k := by kernel_rfl

theorem m_span_pick : Meets Tryz.prog Inv 34 (KK_span_pick span_pick) :=
  meets_of_pev mixed stab (tab_cons m_span_Has (tab_cons m_span_Join (tab_cons m_span_zero (tab_cons m_span_isZero (tab_nil _ _))))) Tryz.func34 (by kernel_rfl) (by kernel_rfl) (by
    intro ds; unfold KK_span_pick; split
    · exact .inr ⟨[], 64, fun k => r_span_pick span_Join span_isZero span_Has span_zero _ _ _ _ _ _ _ _ _ _ _ _ _ _ _ _ _ _ _ _ _ k⟩
    · exact .inl (fun _ => rfl))

noncomputable def B_span_counted (f0 : Int → Int → KB → Option DV) (a0_0 a0_1 : Int) (k : KQ) : Option DV :=
  f0 a0_0 a0_1 (fun r1 => bif !r1 then (k 0 0) else (k a0_0 a0_1))
noncomputable def span_counted (a0_0 a0_1 : Int) (k : KQ) : Option DV := B_span_counted ratio_Is a0_0 a0_1 k

noncomputable def KK_span_counted (f0 : Int → Int → KQ → Option DV) (ds : List DV) (k : DV → Option DV) : Option DV :=
  match ds with
  | [.val (.agg ⟨[.int .i64 a0_0, .int .i64 a0_1]⟩)] => f0 a0_0 a0_1 (fun r0_0 r0_1 => k (.val (.agg ⟨[.int .i64 r0_0, .int .i64 r0_1]⟩)))
  | _ => none

theorem r_span_counted (f0 : Int → Int → KB → Option DV) (a0_0 a0_1 : Int) (k : DV → Option DV) : B_span_counted f0 a0_0 a0_1 (fun r0_0 r0_1 => k (.val (.agg ⟨[.int .i64 r0_0, .int .i64 r0_1]⟩))) = pevF Tryz.prog (tab [(36, (KK_ratio_Is f0))]) [] 64 Tryz.f61 (bodyOf Tryz.f61) [.val (.agg ⟨[.int .i64 a0_0, .int .i64 a0_1]⟩)] k := by kernel_rfl

theorem m_span_counted : Meets Tryz.prog Inv 61 (KK_span_counted span_counted) :=
  meets_of_pev mixed stab (tab_cons m_ratio_Is (tab_nil _ _)) Tryz.func61 (by kernel_rfl) (by kernel_rfl) (by
    intro ds; unfold KK_span_counted; split
    · exact .inr ⟨[], 64, fun k => r_span_counted ratio_Is _ _ k⟩
    · exact .inl (fun _ => rfl))

noncomputable def B_span_Make (f0 : Bool → KS → Option DV) (f1 : Int → Int → KQ → Option DV) (f2 : Int → KB → Option DV) (f3 : Int → Int → Int → Int → KB → Option DV) (a0_0 a0_1 a1_0 a1_1 a2 : Int) (k : KS) : Option DV :=
  f3 a0_0 a0_1 a1_0 a1_1 (fun r1 => bif r1 then (f0 false (fun r2 r3 r4 r5 r6 r7 r8 => k r2 r3 r4 r5 r6 r7 r8)) else (f2 a2 (fun r9 => bif !r9 then (f1 a0_0 a0_1 (fun r10 r11 => f1 a1_0 a1_1 (fun r12 r13 => k r10 r11 r12 r13 0 false false))) else (f1 a0_0 a0_1 (fun r14 r15 => f1 a1_0 a1_1 (fun r16 r17 => k r14 r15 r16 r17 a2 false false))))))
noncomputable def span_Make (a0_0 a0_1 a1_0 a1_1 a2 : Int) (k : KS) : Option DV := B_span_Make span_nothing span_counted span_isDen span_isOutOfOrder a0_0 a0_1 a1_0 a1_1 a2 k

noncomputable def KK_span_Make (f0 : Int → Int → Int → Int → Int → KS → Option DV) (ds : List DV) (k : DV → Option DV) : Option DV :=
  match ds with
  | [.val (.agg ⟨[.int .i64 a0_0, .int .i64 a0_1]⟩), .val (.agg ⟨[.int .i64 a1_0, .int .i64 a1_1]⟩), .val (.int .i64 a2)] => f0 a0_0 a0_1 a1_0 a1_1 a2 (fun r0_0 r0_1 r0_2 r0_3 r0_4 r0_5 r0_6 => k (.val (.agg ⟨[.int .i64 r0_0, .int .i64 r0_1, .int .i64 r0_2, .int .i64 r0_3, .int .i64 r0_4, .bool r0_5, .bool r0_6]⟩)))
  | _ => none

theorem r_span_Make (f0 : Bool → KS → Option DV) (f1 : Int → Int → KQ → Option DV) (f2 : Int → KB → Option DV) (f3 : Int → Int → Int → Int → KB → Option DV) (a0_0 a0_1 a1_0 a1_1 a2 : Int) (k : DV → Option DV) : B_span_Make f0 f1 f2 f3 a0_0 a0_1 a1_0 a1_1 a2 (fun r0_0 r0_1 r0_2 r0_3 r0_4 r0_5 r0_6 => k (.val (.agg ⟨[.int .i64 r0_0, .int .i64 r0_1, .int .i64 r0_2, .int .i64 r0_3, .int .i64 r0_4, .bool r0_5, .bool r0_6]⟩))) = pevF Tryz.prog (tab [(25, (KK_span_nothing f0)), (59, (KK_span_isOutOfOrder f3)), (60, (KK_span_isDen f2)), (61, (KK_span_counted f1))]) [] 64 Tryz.f17 (bodyOf Tryz.f17) [.val (.agg ⟨[.int .i64 a0_0, .int .i64 a0_1]⟩), .val (.agg ⟨[.int .i64 a1_0, .int .i64 a1_1]⟩), .val (.int .i64 a2)] k := by kernel_rfl

theorem m_span_Make : Meets Tryz.prog Inv 17 (KK_span_Make span_Make) :=
  meets_of_pev mixed stab (tab_cons m_span_nothing (tab_cons m_span_isOutOfOrder (tab_cons m_span_isDen (tab_cons m_span_counted (tab_nil _ _))))) Tryz.func17 (by kernel_rfl) (by kernel_rfl) (by
    intro ds; unfold KK_span_Make; split
    · exact .inr ⟨[], 64, fun k => r_span_Make span_nothing span_counted span_isDen span_isOutOfOrder _ _ _ _ _ k⟩
    · exact .inl (fun _ => rfl))

noncomputable def B_span_turned (f0 : Int → Int → Int → Int → Int → KS → Option DV) (f1 : Int → Int → KQ → Option DV) (a0_0 a0_1 a0_2 a0_3 a0_4 : Int) (a0_5 a0_6 : Bool) (k : KS) : Option DV :=
  f1 a0_2 a0_3 (fun r1 r2 => f1 a0_0 a0_1 (fun r3 r4 => f0 r1 r2 r3 r4 a0_4 (fun r5 r6 r7 r8 r9 r10 r11 => k r5 r6 r7 r8 r9 r10 r11)))
noncomputable def span_turned (a0_0 a0_1 a0_2 a0_3 a0_4 : Int) (a0_5 a0_6 : Bool) (k : KS) : Option DV := B_span_turned span_Make ratio_Neg a0_0 a0_1 a0_2 a0_3 a0_4 a0_5 a0_6 k

noncomputable def KK_span_turned (f0 : Int → Int → Int → Int → Int → Bool → Bool → KS → Option DV) (ds : List DV) (k : DV → Option DV) : Option DV :=
  match ds with
  | [.val (.agg ⟨[.int .i64 a0_0, .int .i64 a0_1, .int .i64 a0_2, .int .i64 a0_3, .int .i64 a0_4, .bool a0_5, .bool a0_6]⟩)] => f0 a0_0 a0_1 a0_2 a0_3 a0_4 a0_5 a0_6 (fun r0_0 r0_1 r0_2 r0_3 r0_4 r0_5 r0_6 => k (.val (.agg ⟨[.int .i64 r0_0, .int .i64 r0_1, .int .i64 r0_2, .int .i64 r0_3, .int .i64 r0_4, .bool r0_5, .bool r0_6]⟩)))
  | _ => none

theorem r_span_turned (f0 : Int → Int → Int → Int → Int → KS → Option DV) (f1 : Int → Int → KQ → Option DV) (a0_0 a0_1 a0_2 a0_3 a0_4 : Int) (a0_5 a0_6 : Bool) (k : DV → Option DV) : B_span_turned f0 f1 a0_0 a0_1 a0_2 a0_3 a0_4 a0_5 a0_6 (fun r0_0 r0_1 r0_2 r0_3 r0_4 r0_5 r0_6 => k (.val (.agg ⟨[.int .i64 r0_0, .int .i64 r0_1, .int .i64 r0_2, .int .i64 r0_3, .int .i64 r0_4, .bool r0_5, .bool r0_6]⟩))) = pevF Tryz.prog (tab [(17, (KK_span_Make f0)), (74, (KK_ratio_Neg f1))]) [] 64 Tryz.f106 (bodyOf Tryz.f106) [.val (.agg ⟨[.int .i64 a0_0, .int .i64 a0_1, .int .i64 a0_2, .int .i64 a0_3, .int .i64 a0_4, .bool a0_5, .bool a0_6]⟩)] k := by kernel_rfl

theorem m_span_turned : Meets Tryz.prog Inv 106 (KK_span_turned span_turned) :=
  meets_of_pev mixed stab (tab_cons m_span_Make (tab_cons m_ratio_Neg (tab_nil _ _))) Tryz.func106 (by kernel_rfl) (by kernel_rfl) (by
    intro ds; unfold KK_span_turned; split
    · exact .inr ⟨[], 64, fun k => r_span_turned span_Make ratio_Neg _ _ _ _ _ _ _ k⟩
    · exact .inl (fun _ => rfl))

noncomputable def B_span_givingWay_ratio_Min (f0 : Int → Int → Int → Int → KQ → Option DV) (f1 : Int → Int → KB → Option DV) (a1_0 a1_1 a2_0 a2_1 : Int) (k : KQ) : Option DV :=
  f1 a1_0 a1_1 (fun r1 => bif r1 then (k a2_0 a2_1) else (f1 a2_0 a2_1 (fun r2 => bif r2 then (k a1_0 a1_1) else (f0 a1_0 a1_1 a2_0 a2_1 (fun r3 r4 => k r3 r4)))))
noncomputable def span_givingWay_ratio_Min (a1_0 a1_1 a2_0 a2_1 : Int) (k : KQ) : Option DV := B_span_givingWay_ratio_Min ratio_Min span_isOpen a1_0 a1_1 a2_0 a2_1 k

noncomputable def B_span_givingWay_ratio_Max (f0 : Int → Int → Int → Int → KQ → Option DV) (f1 : Int → Int → KB → Option DV) (a1_0 a1_1 a2_0 a2_1 : Int) (k : KQ) : Option DV :=
  f1 a1_0 a1_1 (fun r1 => bif r1 then (k a2_0 a2_1) else (f1 a2_0 a2_1 (fun r2 => bif r2 then (k a1_0 a1_1) else (f0 a1_0 a1_1 a2_0 a2_1 (fun r3 r4 => k r3 r4)))))
noncomputable def span_givingWay_ratio_Max (a1_0 a1_1 a2_0 a2_1 : Int) (k : KQ) : Option DV := B_span_givingWay_ratio_Max ratio_Max span_isOpen a1_0 a1_1 a2_0 a2_1 k

noncomputable def KK_span_givingWay_at1 (f1 : Int → Int → Int → Int → KQ → Option DV) (ds : List DV) (k : DV → Option DV) : Option DV :=
  match ds with
  | [.val (.func (.func 55) ⟨[]⟩ ⟨[]⟩), .val (.agg ⟨[.int .i64 a1_0, .int .i64 a1_1]⟩), .val (.agg ⟨[.int .i64 a2_0, .int .i64 a2_1]⟩)] => f1 a1_0 a1_1 a2_0 a2_1 (fun r0_0 r0_1 => k (.val (.agg ⟨[.int .i64 r0_0, .int .i64 r0_1]⟩)))
  | _ => none
noncomputable def KK_span_givingWay (f0 : Int → Int → Int → Int → KQ → Option DV) (f1 : Int → Int → Int → Int → KQ → Option DV) (ds : List DV) (k : DV → Option DV) : Option DV :=
  match ds with
  | [.val (.func (.func 54) ⟨[]⟩ ⟨[]⟩), .val (.agg ⟨[.int .i64 a1_0, .int .i64 a1_1]⟩), .val (.agg ⟨[.int .i64 a2_0, .int .i64 a2_1]⟩)] => f0 a1_0 a1_1 a2_0 a2_1 (fun r0_0 r0_1 => k (.val (.agg ⟨[.int .i64 r0_0, .int .i64 r0_1]⟩)))
  | _ => KK_span_givingWay_at1 f1 ds k

theorem r_span_givingWay_ratio_Min (f0 : Int → Int → Int → Int → KQ → Option DV) (f1 : Int → Int → KB → Option DV) (a1_0 a1_1 a2_0 a2_1 : Int) (k : DV → Option DV) : B_span_givingWay_ratio_Min f0 f1 a1_0 a1_1 a2_0 a2_1 (fun r0_0 r0_1 => k (.val (.agg ⟨[.int .i64 r0_0, .int .i64 r0_1]⟩))) = pevF Tryz.prog (tab [(31, (KK_span_isOpen f1)), (54, (KK_ratio_Min f0)), (55, (KK_ratio_Max ratio_Max))]) [] 64 Tryz.f57 (bodyOf Tryz.f57) [.val (.func (.func 54) ⟨[]⟩ ⟨[]⟩), .val (.agg ⟨[.int .i64 a1_0, .int .i64 a1_1]⟩), .val (.agg ⟨[.int .i64 a2_0, .int .i64 a2_1]⟩)] k := by kernel_rfl

theorem r_span_givingWay_ratio_Max (f0 : Int → Int → Int → Int → KQ → Option DV) (f1 : Int → Int → KB → Option DV) (a1_0 a1_1 a2_0 a2_1 : Int) (k : DV → Option DV) : B_span_givingWay_ratio_Max f0 f1 a1_0 a1_1 a2_0 a2_1 (fun r0_0 r0_1 => k (.val (.agg ⟨[.int .i64 r0_0, .int .i64 r0_1]⟩))) = pevF Tryz.prog (tab [(31, (KK_span_isOpen f1)), (54, (KK_ratio_Min ratio_Min)), (55, (KK_ratio_Max f0))]) [] 64 Tryz.f57 (bodyOf Tryz.f57) [.val (.func (.func 55) ⟨[]⟩ ⟨[]⟩), .val (.agg ⟨[.int .i64 a1_0, .int .i64 a1_1]⟩), .val (.agg ⟨[.int .i64 a2_0, .int .i64 a2_1]⟩)] k := by kernel_rfl

theorem m_span_givingWay : Meets Tryz.prog Inv 57 (KK_span_givingWay span_givingWay_ratio_Min span_givingWay_ratio_Max) :=
  meets_of_pev mixed stab (tab_cons m_span_isOpen (tab_cons m_ratio_Min (tab_cons m_ratio_Max (tab_nil _ _)))) Tryz.func57 (by kernel_rfl) (by kernel_rfl) (by
    intro ds; unfold KK_span_givingWay; split
    · exact .inr ⟨[], 64, fun k => r_span_givingWay_ratio_Min ratio_Min span_isOpen _ _ _ _ k⟩
    unfold KK_span_givingWay_at1; split
    · exact .inr ⟨[], 64, fun k => r_span_givingWay_ratio_Max ratio_Max span_isOpen _ _ _ _ k⟩
    · exact .inl (fun _ => rfl))

noncomputable def B_span_sizes (f0 : Int → Int → Int → Int → Int → KS → Option DV) (f1 : Int → Int → Int → Int → KQ → Option DV) (f2 : KQ → Option DV) (f3 : Int → Int → Int → Int → Int → Bool → Bool → Int → Int → KB → Option DV) (f4 : Int → Int → Int → Int → KQ → Option DV) (f5 : Int → Int → KQ → Option DV) (a0_0 a0_1 a0_2 a0_3 a0_4 : Int) (a0_5 a0_6 : Bool) (k : KS) : Option DV :=
  f5 a0_0 a0_1 (fun r1 r2 => f5 a0_2 a0_3 (fun r3 r4 => f4 r1 r2 r3 r4 (fun r5 r6 => f2  (fun r7 r8 => f3 a0_0 a0_1 a0_2 a0_3 a0_4 a0_5 a0_6 r7 r8 (fun r9 => bif r9 then (f2  (fun r10 r11 => f1 r1 r2 r3 r4 (fun r12 r13 => f0 r10 r11 r12 r13 a0_4 (fun r14 r15 r16 r17 r18 r19 r20 => k r14 r15 r16 r17 r18 r19 r20)))) else (f1 r1 r2 r3 r4 (fun r21 r22 => f0 r5 r6 r21 r22 a0_4 (fun r23 r24 r25 r26 r27 r28 r29 => k r23 r24 r25 r26 r27 r28 r29))))))))
noncomputable def span_sizes (a0_0 a0_1 a0_2 a0_3 a0_4 : Int) (a0_5 a0_6 : Bool) (k : KS) : Option DV := B_span_sizes span_Make ratio_Max span_zero span_Has span_givingWay_ratio_Min ratio_Abs a0_0 a0_1 a0_2 a0_3 a0_4 a0_5 a0_6 k

noncomputable def KK_span_sizes (f0 : Int → Int → Int → Int → Int → Bool → Bool → KS → Option DV) (ds : List DV) (k : DV → Option DV) : Option DV :=
  match ds with
  | [.val (.agg ⟨[.int .i64 a0_0, .int .i64 a0_1, .int .i64 a0_2, .int .i64 a0_3, .int .i64 a0_4, .bool a0_5, .bool a0_6]⟩)] => f0 a0_0 a0_1 a0_2 a0_3 a0_4 a0_5 a0_6 (fun r0_0 r0_1 r0_2 r0_3 r0_4 r0_5 r0_6 => k (.val (.agg ⟨[.int .i64 r0_0, .int .i64 r0_1, .int .i64 r0_2, .int .i64 r0_3, .int .i64 r0_4, .bool r0_5, .bool r0_6]⟩)))
  | _ => none

theorem r_span_sizes (f0 : Int → Int → Int → Int → Int → KS → Option DV) (f1 : Int → Int → Int → Int → KQ → Option DV) (f2 : KQ → Option DV) (f3 : Int → Int → Int → Int → Int → Bool → Bool → Int → Int → KB → Option DV) (f4 : Int → Int → Int → Int → KQ → Option DV) (f5 : Int → Int → KQ → Option DV) (a0_0 a0_1 a0_2 a0_3 a0_4 : Int) (a0_5 a0_6 : Bool) (k : DV → Option DV) : B_span_sizes f0 f1 f2 f3 f4 f5 a0_0 a0_1 a0_2 a0_3 a0_4 a0_5 a0_6 (fun r0_0 r0_1 r0_2 r0_3 r0_4 r0_5 r0_6 => k (.val (.agg ⟨[.int .i64 r0_0, .int .i64 r0_1, .int .i64 r0_2, .int .i64 r0_3, .int .i64 r0_4, .bool r0_5, .bool r0_6]⟩))) = pevF Tryz.prog (tab [(11, (KK_span_Has f3)), (17, (KK_span_Make f0)), (55, (KK_ratio_Max f1)), (57, (KK_span_givingWay f4 span_givingWay_ratio_Max)), (79, (KK_span_zero f2)), (131, (KK_ratio_Abs f5))]) [] 64 Tryz.f107 (bodyOf Tryz.f107) [.val (.agg ⟨[.int .i64 a0_0, .int .i64 a0_1, .int .i64 a0_2, .int .i64 a0_3, .int .i64 a0_4, .bool a0_5, .bool a0_6]⟩)] k := by kernel_rfl

theorem m_span_sizes : Meets Tryz.prog Inv 107 (KK_span_sizes span_sizes) :=
  meets_of_pev mixed stab (tab_cons m_span_Has (tab_cons m_span_Make (tab_cons m_ratio_Max (tab_cons m_span_givingWay (tab_cons m_span_zero (tab_cons m_ratio_Abs (tab_nil _ _))))))) Tryz.func107 (by kernel_rfl) (by kernel_rfl) (by
    intro ds; unfold KK_span_sizes; split
    · exact .inr ⟨[], 64, fun k => r_span_sizes span_Make ratio_Max span_zero span_Has span_givingWay_ratio_Min ratio_Abs _ _ _ _ _ _ _ k⟩
    · exact .inl (fun _ => rfl))

noncomputable def B_span_Point (f0 : Bool → KS → Option DV) (f1 : Int → Int → KB → Option DV) (a0_0 a0_1 : Int) (k : KS) : Option DV :=
  f1 a0_0 a0_1 (fun r1 => bif !r1 then (f0 true (fun r2 r3 r4 r5 r6 r7 r8 => k r2 r3 r4 r5 r6 r7 r8)) else (k a0_0 a0_1 a0_0 a0_1 a0_1 false false))
noncomputable def span_Point (a0_0 a0_1 : Int) (k : KS) : Option DV := B_span_Point span_nothing ratio_Is a0_0 a0_1 k

noncomputable def KK_span_Point (f0 : Int → Int → KS → Option DV) (ds : List DV) (k : DV → Option DV) : Option DV :=
  match ds with
  | [.val (.agg ⟨[.int .i64 a0_0, .int .i64 a0_1]⟩)] => f0 a0_0 a0_1 (fun r0_0 r0_1 r0_2 r0_3 r0_4 r0_5 r0_6 => k (.val (.agg ⟨[.int .i64 r0_0, .int .i64 r0_1, .int .i64 r0_2, .int .i64 r0_3, .int .i64 r0_4, .bool r0_5, .bool r0_6]⟩)))
  | _ => none

theorem r_span_Point (f0 : Bool → KS → Option DV) (f1 : Int → Int → KB → Option DV) (a0_0 a0_1 : Int) (k : DV → Option DV) : B_span_Point f0 f1 a0_0 a0_1 (fun r0_0 r0_1 r0_2 r0_3 r0_4 r0_5 r0_6 => k (.val (.agg ⟨[.int .i64 r0_0, .int .i64 r0_1, .int .i64 r0_2, .int .i64 r0_3, .int .i64 r0_4, .bool r0_5, .bool r0_6]⟩))) = pevF Tryz.prog (tab [(25, (KK_span_nothing f0)), (36, (KK_ratio_Is f1))]) [] 64 Tryz.f134 (bodyOf Tryz.f134) [.val (.agg ⟨[.int .i64 a0_0, .int .i64 a0_1]⟩)] k := by kernel_rfl

theorem m_span_Point : Meets Tryz.prog Inv 134 (KK_span_Point span_Point) :=
  meets_of_pev mixed stab (tab_cons m_span_nothing (tab_cons m_ratio_Is (tab_nil _ _))) Tryz.func134 (by kernel_rfl) (by kernel_rfl) (by
    intro ds; unfold KK_span_Point; split
    · exact .inr ⟨[], 64, fun k => r_span_Point span_nothing ratio_Is _ _ k⟩
    · exact .inl (fun _ => rfl))

noncomputable def B_span_one (f0 : Int → Int → KQ → Option DV)  (k : KQ) : Option DV :=
  f0 1 1 (fun r1 r2 => k r1 r2)
noncomputable def span_one  (k : KQ) : Option DV := B_span_one ratio_Make  k

noncomputable def KK_span_one (f0 : KQ → Option DV) (ds : List DV) (k : DV → Option DV) : Option DV :=
  match ds with
  | [] => f0  (fun r0_0 r0_1 => k (.val (.agg ⟨[.int .i64 r0_0, .int .i64 r0_1]⟩)))
  | _ => none

theorem r_span_one (f0 : Int → Int → KQ → Option DV)  (k : DV → Option DV) : B_span_one f0  (fun r0_0 r0_1 => k (.val (.agg ⟨[.int .i64 r0_0, .int .i64 r0_1]⟩))) = pevF Tryz.prog (tab [(94, (KK_ratio_Make f0))]) [] 64 Tryz.f135 (bodyOf Tryz.f135) [] k := by kernel_rfl

theorem m_span_one : Meets Tryz.prog Inv 135 (KK_span_one span_one) :=
  meets_of_pev mixed stab (tab_cons m_ratio_Make (tab_nil _ _)) Tryz.func135 (by kernel_rfl) (by kernel_rfl) (by
    intro ds; unfold KK_span_one; split
    · exact .inr ⟨[], 64, fun k => r_span_one ratio_Make  k⟩
    · exact .inl (fun _ => rfl))

noncomputable def B_span_rests (f0 : Int → Int → KS → Option DV) (f1 : KQ → Option DV) (f2 : Int → Int → Int → Int → Int → KS → Option DV) (f3 : KQ → Option DV) (a0_0 a0_1 a0_2 a0_3 a0_4 : Int) (a0_5 a0_6 : Bool) (k : KS) : Option DV :=
  bif a0_4 == 1 then (f1  (fun r1 r2 => f0 r1 r2 (fun r3 r4 r5 r6 r7 r8 r9 => k r3 r4 r5 r6 r7 r8 r9))) else (f1  (fun r10 r11 => f3  (fun r12 r13 => f2 r10 r11 r12 r13 a0_4 (fun r14 r15 r16 r17 r18 r19 r20 => k r14 r15 r16 r17 r18 r19 r20))))
noncomputable def span_rests (a0_0 a0_1 a0_2 a0_3 a0_4 : Int) (a0_5 a0_6 : Bool) (k : KS) : Option DV := B_span_rests span_Point span_zero span_Make span_one a0_0 a0_1 a0_2 a0_3 a0_4 a0_5 a0_6 k

noncomputable def KK_span_rests (f0 : Int → Int → Int → Int → Int → Bool → Bool → KS → Option DV) (ds : List DV) (k : DV → Option DV) : Option DV :=
  match ds with
  | [.val (.agg ⟨[.int .i64 a0_0, .int .i64 a0_1, .int .i64 a0_2, .int .i64 a0_3, .int .i64 a0_4, .bool a0_5, .bool a0_6]⟩)] => f0 a0_0 a0_1 a0_2 a0_3 a0_4 a0_5 a0_6 (fun r0_0 r0_1 r0_2 r0_3 r0_4 r0_5 r0_6 => k (.val (.agg ⟨[.int .i64 r0_0, .int .i64 r0_1, .int .i64 r0_2, .int .i64 r0_3, .int .i64 r0_4, .bool r0_5, .bool r0_6]⟩)))
  | _ => none

theorem r_span_rests (f0 : Int → Int → KS → Option DV) (f1 : KQ → Option DV) (f2 : Int → Int → Int → Int → Int → KS → Option DV) (f3 : KQ → Option DV) (a0_0 a0_1 a0_2 a0_3 a0_4 : Int) (a0_5 a0_6 : Bool) (k : DV → Option DV) : B_span_rests f0 f1 f2 f3 a0_0 a0_1 a0_2 a0_3 a0_4 a0_5 a0_6 (fun r0_0 r0_1 r0_2 r0_3 r0_4 r0_5 r0_6 => k (.val (.agg ⟨[.int .i64 r0_0, .int .i64 r0_1, .int .i64 r0_2, .int .i64 r0_3, .int .i64 r0_4, .bool r0_5, .bool r0_6]⟩))) = pevF Tryz.prog (tab [(17, (KK_span_Make f2)), (79, (KK_span_zero f1)), (134, (KK_span_Point f0)), (135, (KK_span_one f3))]) [] 64 Tryz.f110 (bodyOf Tryz.f110) [.val (.agg ⟨[.int .i64 a0_0, .int .i64 a0_1, .int .i64 a0_2, .int .i64 a0_3, .int .i64 a0_4, .bool a0_5, .bool a0_6]⟩)] k := by kernel_rfl

theorem m_span_rests : Meets Tryz.prog Inv 110 (KK_span_rests span_rests) :=
  meets_of_pev mixed stab (tab_cons m_span_Make (tab_cons m_span_zero (tab_cons m_span_Point (tab_cons m_span_one (tab_nil _ _))))) Tryz.func110 (by kernel_rfl) (by kernel_rfl) (by
    intro ds; unfold KK_span_rests; split
    · exact .inr ⟨[], 64, fun k => r_span_rests span_Point span_zero span_Make span_one _ _ _ _ _ _ _ k⟩
    · exact .inl (fun _ => rfl))

noncomputable def B_span_either (f0 : Int → Int → Int → Int → Int → KS → Option DV) (f1 : KQ → Option DV) (f2 : KQ → Option DV)  (k : KS) : Option DV :=
  f2  (fun r1 r2 => f1  (fun r3 r4 => f0 r1 r2 r3 r4 1 (fun r5 r6 r7 r8 r9 r10 r11 => k r5 r6 r7 r8 r9 r10 r11)))
noncomputable def span_either  (k : KS) : Option DV := B_span_either span_Make span_one span_zero  k

noncomputable def KK_span_either (f0 : KS → Option DV) (ds : List DV) (k : DV → Option DV) : Option DV :=
  match ds with
  | [] => f0  (fun r0_0 r0_1 r0_2 r0_3 r0_4 r0_5 r0_6 => k (.val (.agg ⟨[.int .i64 r0_0, .int .i64 r0_1, .int .i64 r0_2, .int .i64 r0_3, .int .i64 r0_4, .bool r0_5, .bool r0_6]⟩)))
  | _ => none

theorem r_span_either (f0 : Int → Int → Int → Int → Int → KS → Option DV) (f1 : KQ → Option DV) (f2 : KQ → Option DV)  (k : DV → Option DV) : B_span_either f0 f1 f2  (fun r0_0 r0_1 r0_2 r0_3 r0_4 r0_5 r0_6 => k (.val (.agg ⟨[.int .i64 r0_0, .int .i64 r0_1, .int .i64 r0_2, .int .i64 r0_3, .int .i64 r0_4, .bool r0_5, .bool r0_6]⟩))) = pevF Tryz.prog (tab [(17, (KK_span_Make f0)), (79, (KK_span_zero f2)), (135, (KK_span_one f1))]) [] 64 Tryz.f136 (bodyOf Tryz.f136) [] k := by kernel_rfl

theorem m_span_either : Meets Tryz.prog Inv 136 (KK_span_either span_either) :=
  meets_of_pev mixed stab (tab_cons m_span_Make (tab_cons m_span_zero (tab_cons m_span_one (tab_nil _ _)))) Tryz.func136 (by kernel_rfl) (by kernel_rfl) (by
    intro ds; unfold KK_span_either; split
    · exact .inr ⟨[], 64, fun k => r_span_either span_Make span_one span_zero  k⟩
    · exact .inl (fun _ => rfl))

noncomputable def B_span_opposites (f0 : Int → Int → KS → Option DV) (f1 : KQ → Option DV) (f2 : KQ → Option DV) (f3 : KS → Option DV) (f4 : Int → Int → Int → Int → Int → Bool → Bool → Int → Int → KB → Option DV) (f5 : Int → Int → Int → Int → Int → Bool → Bool → KB → Option DV) (a0_0 a0_1 a0_2 a0_3 a0_4 : Int) (a0_5 a0_6 : Bool) (k : KS) : Option DV :=
  f5 a0_0 a0_1 a0_2 a0_3 a0_4 a0_5 a0_6 (fun r1 => bif r1 then (f1  (fun r2 r3 => f0 r2 r3 (fun r4 r5 r6 r7 r8 r9 r10 => k r4 r5 r6 r7 r8 r9 r10))) else (f2  (fun r11 r12 => f4 a0_0 a0_1 a0_2 a0_3 a0_4 a0_5 a0_6 r11 r12 (fun r13 => bif !r13 then (f2  (fun r14 r15 => f0 r14 r15 (fun r16 r17 r18 r19 r20 r21 r22 => k r16 r17 r18 r19 r20 r21 r22))) else (f3  (fun r23 r24 r25 r26 r27 r28 r29 => k r23 r24 r25 r26 r27 r28 r29))))))
noncomputable def span_opposites (a0_0 a0_1 a0_2 a0_3 a0_4 : Int) (a0_5 a0_6 : Bool) (k : KS) : Option DV := B_span_opposites span_Point span_one span_zero span_either span_Has span_isZero a0_0 a0_1 a0_2 a0_3 a0_4 a0_5 a0_6 k

noncomputable def KK_span_opposites (f0 : Int → Int → Int → Int → Int → Bool → Bool → KS → Option DV) (ds : List DV) (k : DV → Option DV) : Option DV :=
  match ds with
  | [.val (.agg ⟨[.int .i64 a0_0, .int .i64 a0_1, .int .i64 a0_2, .int .i64 a0_3, .int .i64 a0_4, .bool a0_5, .bool a0_6]⟩)] => f0 a0_0 a0_1 a0_2 a0_3 a0_4 a0_5 a0_6 (fun r0_0 r0_1 r0_2 r0_3 r0_4 r0_5 r0_6 => k (.val (.agg ⟨[.int .i64 r0_0, .int .i64 r0_1, .int .i64 r0_2, .int .i64 r0_3, .int .i64 r0_4, .bool r0_5, .bool r0_6]⟩)))
  | _ => none

theorem r_span_opposites (f0 : Int → Int → KS → Option DV) (f1 : KQ → Option DV) (f2 : KQ → Option DV) (f3 : KS → Option DV) (f4 : Int → Int → Int → Int → Int → Bool → Bool → Int → Int → KB → Option DV) (f5 : Int → Int → Int → Int → Int → Bool → Bool → KB → Option DV) (a0_0 a0_1 a0_2 a0_3 a0_4 : Int) (a0_5 a0_6 : Bool) (k : DV → Option DV) : B_span_opposites f0 f1 f2 f3 f4 f5 a0_0 a0_1 a0_2 a0_3 a0_4 a0_5 a0_6 (fun r0_0 r0_1 r0_2 r0_3 r0_4 r0_5 r0_6 => k (.val (.agg ⟨[.int .i64 r0_0, .int .i64 r0_1, .int .i64 r0_2, .int .i64 r0_3, .int .i64 r0_4, .bool r0_5, .bool r0_6]⟩))) = pevF Tryz.prog (tab [(11, (KK_span_Has f4)), (79, (KK_span_zero f2)), (80, (KK_span_isZero f5)), (134, (KK_span_Point f0)), (135, (KK_span_one f1)), (136, (KK_span_either f3))]) [] 64 Tryz.f111 (bodyOf Tryz.f111) [.val (.agg ⟨[.int .i64 a0_0, .int .i64 a0_1, .int .i64 a0_2, .int .i64 a0_3, .int .i64 a0_4, .bool a0_5, .bool a0_6]⟩)] k := by kernel_rfl

theorem m_span_opposites : Meets Tryz.prog Inv 111 (KK_span_opposites span_opposites) :=
  meets_of_pev mixed stab (tab_cons m_span_Has (tab_cons m_span_zero (tab_cons m_span_isZero (tab_cons m_span_Point (tab_cons m_span_one (tab_cons m_span_either (tab_nil _ _))))))) Tryz.func111 (by kernel_rfl) (by kernel_rfl) (by
    intro ds; unfold KK_span_opposites; split
    · exact .inr ⟨[], 64, fun k => r_span_opposites span_Point span_one span_zero span_either span_Has span_isZero _ _ _ _ _ _ _ k⟩
    · exact .inl (fun _ => rfl))

noncomputable def B_span_ofOne (f0 : Int → Int → Int → Int → Int → Bool → Bool → KS → Option DV) (f1 : Int → Int → Int → Int → Int → Bool → Bool → KS → Option DV) (f2 : Int → Int → Int → Int → Int → KS → Option DV) (f3 : Int → Int → KQ → Option DV) (f4 : Int → Int → KQ → Option DV) (f5 : Int → Int → Int → Int → Int → Bool → Bool → KS → Option DV) (f6 : Int → Int → Int → Int → Int → Bool → Bool → KS → Option DV) (a0 : ByteArray) (a1_0 a1_1 a1_2 a1_3 a1_4 : Int) (a1_5 a1_6 : Bool) (k : KS) : Option DV :=
  bif (ByteArray.toList a0 == ByteArray.toList (⟨#[110, 101, 103]⟩)) then (f0 a1_0 a1_1 a1_2 a1_3 a1_4 a1_5 a1_6 (fun r1 r2 r3 r4 r5 r6 r7 => k r1 r2 r3 r4 r5 r6 r7)) else (bif (ByteArray.toList a0 == ByteArray.toList (⟨#[97, 98, 115]⟩)) then (f1 a1_0 a1_1 a1_2 a1_3 a1_4 a1_5 a1_6 (fun r8 r9 r10 r11 r12 r13 r14 => k r8 r9 r10 r11 r12 r13 r14)) else (bif (ByteArray.toList a0 == ByteArray.toList (⟨#[102, 108, 111, 111, 114]⟩)) then (f3 a1_0 a1_1 (fun r15 r16 => f3 a1_2 a1_3 (fun r17 r18 => f2 r15 r16 r17 r18 1 (fun r19 r20 r21 r22 r23 r24 r25 => k r19 r20 r21 r22 r23 r24 r25)))) else (bif (ByteArray.toList a0 == ByteArray.toList (⟨#[114, 111, 117, 110, 100]⟩)) then (f4 a1_0 a1_1 (fun r26 r27 => f4 a1_2 a1_3 (fun r28 r29 => f2 r26 r27 r28 r29 1 (fun r30 r31 r32 r33 r34 r35 r36 => k r30 r31 r32 r33 r34 r35 r36)))) else (bif (ByteArray.toList a0 == ByteArray.toList (⟨#[102, 114, 97, 99]⟩)) then (f5 a1_0 a1_1 a1_2 a1_3 a1_4 a1_5 a1_6 (fun r37 r38 r39 r40 r41 r42 r43 => k r37 r38 r39 r40 r41 r42 r43)) else (f6 a1_0 a1_1 a1_2 a1_3 a1_4 a1_5 a1_6 (fun r44 r45 r46 r47 r48 r49 r50 => k r44 r45 r46 r47 r48 r49 r50))))))
noncomputable def span_ofOne (a0 : ByteArray) (a1_0 a1_1 a1_2 a1_3 a1_4 : Int) (a1_5 a1_6 : Bool) (k : KS) : Option DV := B_span_ofOne span_turned span_sizes span_Make ratio_Floor ratio_Round span_rests span_opposites a0 a1_0 a1_1 a1_2 a1_3 a1_4 a1_5 a1_6 k

noncomputable def KK_span_ofOne (f0 : ByteArray → Int → Int → Int → Int → Int → Bool → Bool → KS → Option DV) (ds : List DV) (k : DV → Option DV) : Option DV :=
  match ds with
  | [.val (.string a0), .val (.agg ⟨[.int .i64 a1_0, .int .i64 a1_1, .int .i64 a1_2, .int .i64 a1_3, .int .i64 a1_4, .bool a1_5, .bool a1_6]⟩)] => f0 a0 a1_0 a1_1 a1_2 a1_3 a1_4 a1_5 a1_6 (fun r0_0 r0_1 r0_2 r0_3 r0_4 r0_5 r0_6 => k (.val (.agg ⟨[.int .i64 r0_0, .int .i64 r0_1, .int .i64 r0_2, .int .i64 r0_3, .int .i64 r0_4, .bool r0_5, .bool r0_6]⟩)))
  | _ => none

theorem r_span_ofOne (f0 : Int → Int → Int → Int → Int → Bool → Bool → KS → Option DV) (f1 : Int → Int → Int → Int → Int → Bool → Bool → KS → Option DV) (f2 : Int → Int → Int → Int → Int → KS → Option DV) (f3 : Int → Int → KQ → Option DV) (f4 : Int → Int → KQ → Option DV) (f5 : Int → Int → Int → Int → Int → Bool → Bool → KS → Option DV) (f6 : Int → Int → Int → Int → Int → Bool → Bool → KS → Option DV) (a0 : ByteArray) (a1_0 a1_1 a1_2 a1_3 a1_4 : Int) (a1_5 a1_6 : Bool) (k : DV → Option DV) : B_span_ofOne f0 f1 f2 f3 f4 f5 f6 a0 a1_0 a1_1 a1_2 a1_3 a1_4 a1_5 a1_6 (fun r0_0 r0_1 r0_2 r0_3 r0_4 r0_5 r0_6 => k (.val (.agg ⟨[.int .i64 r0_0, .int .i64 r0_1, .int .i64 r0_2, .int .i64 r0_3, .int .i64 r0_4, .bool r0_5, .bool r0_6]⟩))) = pevF Tryz.prog (tab [(17, (KK_span_Make f2)), (106, (KK_span_turned f0)), (107, (KK_span_sizes f1)), (108, (KK_ratio_Floor f3)), (109, (KK_ratio_Round f4)), (110, (KK_span_rests f5)), (111, (KK_span_opposites f6))]) [] 64 Tryz.f81 (bodyOf Tryz.f81) [.val (.string a0), .val (.agg ⟨[.int .i64 a1_0, .int .i64 a1_1, .int .i64 a1_2, .int .i64 a1_3, .int .i64 a1_4, .bool a1_5, .bool a1_6]⟩)] k := by kernel_rfl

theorem m_span_ofOne : Meets Tryz.prog Inv 81 (KK_span_ofOne span_ofOne) :=
  meets_of_pev mixed stab (tab_cons m_span_Make (tab_cons m_span_turned (tab_cons m_span_sizes (tab_cons m_ratio_Floor (tab_cons m_ratio_Round (tab_cons m_span_rests (tab_cons m_span_opposites (tab_nil _ _)))))))) Tryz.func81 (by kernel_rfl) (by kernel_rfl) (by
    intro ds; unfold KK_span_ofOne; split
    · exact .inr ⟨[], 64, fun k => r_span_ofOne span_turned span_sizes span_Make ratio_Floor ratio_Round span_rests span_opposites _ _ _ _ _ _ _ _ k⟩
    · exact .inl (fun _ => rfl))

noncomputable def B_span_end_isOpen  (a0_0 a0_1 : Int) (k : KB) : Option DV :=
  k (a0_1 == 0)
noncomputable def span_end_isOpen (a0_0 a0_1 : Int) (k : KB) : Option DV := B_span_end_isOpen  a0_0 a0_1 k

noncomputable def KK_span_end_isOpen (f0 : Int → Int → KB → Option DV) (ds : List DV) (k : DV → Option DV) : Option DV :=
  match ds with
  | [.val (.agg ⟨[.int .i64 a0_0, .int .i64 a0_1]⟩)] => f0 a0_0 a0_1 (fun r0_0 => k (.val (.bool r0_0)))
  | _ => none

theorem r_span_end_isOpen  (a0_0 a0_1 : Int) (k : DV → Option DV) : B_span_end_isOpen  a0_0 a0_1 (fun r0_0 => k (.val (.bool r0_0))) = pevF Tryz.prog (tab []) [] 64 Tryz.f164 (bodyOf Tryz.f164) [.val (.agg ⟨[.int .i64 a0_0, .int .i64 a0_1]⟩)] k := by kernel_rfl

theorem m_span_end_isOpen : Meets Tryz.prog Inv 164 (KK_span_end_isOpen span_end_isOpen) :=
  meets_of_pev mixed stab (tab_nil _ _) Tryz.func164 (by kernel_rfl) (by kernel_rfl) (by
    intro ds; unfold KK_span_end_isOpen; split
    · exact .inr ⟨[], 64, fun k => r_span_end_isOpen  _ _ k⟩
    · exact .inl (fun _ => rfl))

noncomputable def B_span_end_lower (f0 : Int → Int → KQ → Option DV) (f1 : Int → Int → KB → Option DV) (f2 : Int → Int → KB → Option DV) (a0_0 a0_1 : Int) (k : KQ) : Option DV :=
  f0 a0_0 a0_1 (fun r1 r2 => f2 r1 r2 (fun r3 => bif !r3 then (f1 a0_0 a0_1 (fun r4 => bif r4 then (k r1 r2) else (bif a0_1 == 0 then none else (bif decide (a0_0 < 0) then (bif decide (IntKind.wrap .i64 ((IntKind.wrap .i64 (Int.tdiv a0_0 a0_1)) - 1) ≥ 1073741824) then (k 0 0) else (f0 (IntKind.wrap .i64 ((IntKind.wrap .i64 (Int.tdiv a0_0 a0_1)) - 1)) 1 (fun r5 r6 => k r5 r6))) else (bif decide (IntKind.wrap .i64 (Int.tdiv a0_0 a0_1) ≥ 1073741824) then (k 0 0) else (f0 (IntKind.wrap .i64 (Int.tdiv a0_0 a0_1)) 1 (fun r7 r8 => k r7 r8))))))) else (k r1 r2)))
noncomputable def span_end_lower (a0_0 a0_1 : Int) (k : KQ) : Option DV := B_span_end_lower ratio_Make span_end_isOpen ratio_Is a0_0 a0_1 k

noncomputable def KK_span_end_lower (f0 : Int → Int → KQ → Option DV) (ds : List DV) (k : DV → Option DV) : Option DV :=
  match ds with
  | [.val (.agg ⟨[.int .i64 a0_0, .int .i64 a0_1]⟩)] => f0 a0_0 a0_1 (fun r0_0 r0_1 => k (.val (.agg ⟨[.int .i64 r0_0, .int .i64 r0_1]⟩)))
  | _ => none

theorem r_span_end_lower (f0 : Int → Int → KQ → Option DV) (f1 : Int → Int → KB → Option DV) (f2 : Int → Int → KB → Option DV) (a0_0 a0_1 : Int) (k : DV → Option DV) : B_span_end_lower f0 f1 f2 a0_0 a0_1 (fun r0_0 r0_1 => k (.val (.agg ⟨[.int .i64 r0_0, .int .i64 r0_1]⟩))) = pevF Tryz.prog (tab [(36, (KK_ratio_Is f2)), (94, (KK_ratio_Make f0)), (164, (KK_span_end_isOpen f1))]) [] 64 Tryz.f159 (bodyOf Tryz.f159) [.val (.agg ⟨[.int .i64 a0_0, .int .i64 a0_1]⟩)] k := by kernel_rfl

theorem m_span_end_lower : Meets Tryz.prog Inv 159 (KK_span_end_lower span_end_lower) :=
  meets_of_pev mixed stab (tab_cons m_ratio_Is (tab_cons m_ratio_Make (tab_cons m_span_end_isOpen (tab_nil _ _)))) Tryz.func159 (by kernel_rfl) (by kernel_rfl) (by
    intro ds; unfold KK_span_end_lower; split
    · exact .inr ⟨[], 64, fun k => r_span_end_lower ratio_Make span_end_isOpen ratio_Is _ _ k⟩
    · exact .inl (fun _ => rfl))

noncomputable def B_span_end_upper (f0 : Int → Int → KQ → Option DV) (f1 : Int → Int → KQ → Option DV) (a0_0 a0_1 : Int) (k : KQ) : Option DV :=
  f1 (IntKind.wrap .i64 (0 - a0_0)) a0_1 (fun r1 r2 => f0 r1 r2 (fun r3 r4 => k r3 r4))
noncomputable def span_end_upper (a0_0 a0_1 : Int) (k : KQ) : Option DV := B_span_end_upper ratio_Neg span_end_lower a0_0 a0_1 k

noncomputable def KK_span_end_upper (f0 : Int → Int → KQ → Option DV) (ds : List DV) (k : DV → Option DV) : Option DV :=
  match ds with
  | [.val (.agg ⟨[.int .i64 a0_0, .int .i64 a0_1]⟩)] => f0 a0_0 a0_1 (fun r0_0 r0_1 => k (.val (.agg ⟨[.int .i64 r0_0, .int .i64 r0_1]⟩)))
  | _ => none

theorem r_span_end_upper (f0 : Int → Int → KQ → Option DV) (f1 : Int → Int → KQ → Option DV) (a0_0 a0_1 : Int) (k : DV → Option DV) : B_span_end_upper f0 f1 a0_0 a0_1 (fun r0_0 r0_1 => k (.val (.agg ⟨[.int .i64 r0_0, .int .i64 r0_1]⟩))) = pevF Tryz.prog (tab [(74, (KK_ratio_Neg f0)), (159, (KK_span_end_lower f1))]) [] 64 Tryz.f160 (bodyOf Tryz.f160) [.val (.agg ⟨[.int .i64 a0_0, .int .i64 a0_1]⟩)] k := by kernel_rfl

theorem m_span_end_upper : Meets Tryz.prog Inv 160 (KK_span_end_upper span_end_upper) :=
  meets_of_pev mixed stab (tab_cons m_ratio_Neg (tab_cons m_span_end_lower (tab_nil _ _))) Tryz.func160 (by kernel_rfl) (by kernel_rfl) (by
    intro ds; unfold KK_span_end_upper; split
    · exact .inr ⟨[], 64, fun k => r_span_end_upper ratio_Neg span_end_lower _ _ k⟩
    · exact .inl (fun _ => rfl))

noncomputable def B_span_size  (a0 : Int) (k : KI) : Option DV :=
  k (IntKind.wrap .u64 (if IntKind.wrap .i64 (0 - a0) > a0 then IntKind.wrap .i64 (0 - a0) else a0))
noncomputable def span_size (a0 : Int) (k : KI) : Option DV := B_span_size  a0 k

noncomputable def KK_span_size (f0 : Int → KI → Option DV) (ds : List DV) (k : DV → Option DV) : Option DV :=
  match ds with
  | [.val (.int .i64 a0)] => f0 a0 (fun r0_0 => k (.val (.int .u64 r0_0)))
  | _ => none

theorem r_span_size  (a0 : Int) (k : DV → Option DV) : B_span_size  a0 (fun r0_0 => k (.val (.int .u64 r0_0))) = pevF Tryz.prog (tab []) [] 64 Tryz.f173 (bodyOf Tryz.f173) [.val (.int .i64 a0)] k := by kernel_rfl

theorem m_span_size : Meets Tryz.prog Inv 173 (KK_span_size span_size) :=
  meets_of_pev mixed stab (tab_nil _ _) Tryz.func173 (by kernel_rfl) (by kernel_rfl) (by
    intro ds; unfold KK_span_size; split
    · exact .inr ⟨[], 64, fun k => r_span_size  _ k⟩
    · exact .inl (fun _ => rfl))

noncomputable def B_span_holds (f0 : Int → KI → Option DV) (a0_0 a0_1 a1 : Int) (k : KB) : Option DV :=
  f0 a0_0 (fun r1 => k (decide (IntKind.wrap .u64 (r1 * (IntKind.wrap .u64 (a1))) ≤ IntKind.wrap .u64 (1073741824 * (IntKind.wrap .u64 (a0_1))))))
noncomputable def span_holds (a0_0 a0_1 a1 : Int) (k : KB) : Option DV := B_span_holds span_size a0_0 a0_1 a1 k

noncomputable def KK_span_holds (f0 : Int → Int → Int → KB → Option DV) (ds : List DV) (k : DV → Option DV) : Option DV :=
  match ds with
  | [.val (.agg ⟨[.int .i64 a0_0, .int .i64 a0_1]⟩), .val (.int .i64 a1)] => f0 a0_0 a0_1 a1 (fun r0_0 => k (.val (.bool r0_0)))
  | _ => none

theorem r_span_holds (f0 : Int → KI → Option DV) (a0_0 a0_1 a1 : Int) (k : DV → Option DV) : B_span_holds f0 a0_0 a0_1 a1 (fun r0_0 => k (.val (.bool r0_0))) = pevF Tryz.prog (tab [(173, (KK_span_size f0))]) [] 64 Tryz.f161 (bodyOf Tryz.f161) [.val (.agg ⟨[.int .i64 a0_0, .int .i64 a0_1]⟩), .val (.int .i64 a1)] k := by kernel_rfl

theorem m_span_holds : Meets Tryz.prog Inv 161 (KK_span_holds span_holds) :=
  meets_of_pev mixed stab (tab_cons m_span_size (tab_nil _ _)) Tryz.func161 (by kernel_rfl) (by kernel_rfl) (by
    intro ds; unfold KK_span_holds; split
    · exact .inr ⟨[], 64, fun k => r_span_holds span_size _ _ _ k⟩
    · exact .inl (fun _ => rfl))

noncomputable def B_span_closed (f0 : Int → Int → Int → KB → Option DV) (f1 : Int → Int → KB → Option DV) (f2 : Int → Int → KQ → Option DV) (f3 : Int → Int → KQ → Option DV) (a0_0 a0_1 a1_0 a1_1 a2 : Int) (k : KS) : Option DV :=
  f3 a0_0 a0_1 (fun r1 r2 => f2 a1_0 a1_1 (fun r3 r4 => bif !(a2 == 0) then (f1 r1 r2 (fun r5 => bif !r5 then (f1 r3 r4 (fun r6 => bif !r6 then (f0 r1 r2 a2 (fun r7 => bif !(!r7) then (f0 r3 r4 a2 (fun r8 => k r1 r2 r3 r4 a2 (!r8) false)) else (k r1 r2 r3 r4 a2 true false))) else (k r1 r2 r3 r4 a2 true false))) else (k r1 r2 r3 r4 a2 true false))) else (k r1 r2 r3 r4 a2 true false)))
noncomputable def span_closed (a0_0 a0_1 a1_0 a1_1 a2 : Int) (k : KS) : Option DV := B_span_closed span_holds span_isOpen span_end_upper span_end_lower a0_0 a0_1 a1_0 a1_1 a2 k

noncomputable def KK_span_closed (f0 : Int → Int → Int → Int → Int → KS → Option DV) (ds : List DV) (k : DV → Option DV) : Option DV :=
  match ds with
  | [.val (.agg ⟨[.int .i64 a0_0, .int .i64 a0_1]⟩), .val (.agg ⟨[.int .i64 a1_0, .int .i64 a1_1]⟩), .val (.int .i64 a2)] => f0 a0_0 a0_1 a1_0 a1_1 a2 (fun r0_0 r0_1 r0_2 r0_3 r0_4 r0_5 r0_6 => k (.val (.agg ⟨[.int .i64 r0_0, .int .i64 r0_1, .int .i64 r0_2, .int .i64 r0_3, .int .i64 r0_4, .bool r0_5, .bool r0_6]⟩)))
  | _ => none

theorem r_span_closed (f0 : Int → Int → Int → KB → Option DV) (f1 : Int → Int → KB → Option DV) (f2 : Int → Int → KQ → Option DV) (f3 : Int → Int → KQ → Option DV) (a0_0 a0_1 a1_0 a1_1 a2 : Int) (k : DV → Option DV) : B_span_closed f0 f1 f2 f3 a0_0 a0_1 a1_0 a1_1 a2 (fun r0_0 r0_1 r0_2 r0_3 r0_4 r0_5 r0_6 => k (.val (.agg ⟨[.int .i64 r0_0, .int .i64 r0_1, .int .i64 r0_2, .int .i64 r0_3, .int .i64 r0_4, .bool r0_5, .bool r0_6]⟩))) = pevF Tryz.prog (tab [(31, (KK_span_isOpen f1)), (159, (KK_span_end_lower f3)), (160, (KK_span_end_upper f2)), (161, (KK_span_holds f0))]) [] 64 Tryz.f137 (bodyOf Tryz.f137) [.val (.agg ⟨[.int .i64 a0_0, .int .i64 a0_1]⟩), .val (.agg ⟨[.int .i64 a1_0, .int .i64 a1_1]⟩), .val (.int .i64 a2)] k := by kernel_rfl

theorem m_span_closed : Meets Tryz.prog Inv 137 (KK_span_closed span_closed) :=
  meets_of_pev mixed stab (tab_cons m_span_isOpen (tab_cons m_span_end_lower (tab_cons m_span_end_upper (tab_cons m_span_holds (tab_nil _ _))))) Tryz.func137 (by kernel_rfl) (by kernel_rfl) (by
    intro ds; unfold KK_span_closed; split
    · exact .inr ⟨[], 64, fun k => r_span_closed span_holds span_isOpen span_end_upper span_end_lower _ _ _ _ _ k⟩
    · exact .inl (fun _ => rfl))

noncomputable def B_span_plus  (a0_0 a0_1 a1_0 a1_1 : Int) (k : KQ) : Option DV :=
  k (IntKind.wrap .i64 ((IntKind.wrap .i64 (a0_0 * a1_1)) + (IntKind.wrap .i64 (a1_0 * a0_1)))) (IntKind.wrap .i64 (a0_1 * a1_1))
noncomputable def span_plus (a0_0 a0_1 a1_0 a1_1 : Int) (k : KQ) : Option DV := B_span_plus  a0_0 a0_1 a1_0 a1_1 k

noncomputable def KK_span_plus (f0 : Int → Int → Int → Int → KQ → Option DV) (ds : List DV) (k : DV → Option DV) : Option DV :=
  match ds with
  | [.val (.agg ⟨[.int .i64 a0_0, .int .i64 a0_1]⟩), .val (.agg ⟨[.int .i64 a1_0, .int .i64 a1_1]⟩)] => f0 a0_0 a0_1 a1_0 a1_1 (fun r0_0 r0_1 => k (.val (.agg ⟨[.int .i64 r0_0, .int .i64 r0_1]⟩)))
  | _ => none

theorem r_span_plus  (a0_0 a0_1 a1_0 a1_1 : Int) (k : DV → Option DV) : B_span_plus  a0_0 a0_1 a1_0 a1_1 (fun r0_0 r0_1 => k (.val (.agg ⟨[.int .i64 r0_0, .int .i64 r0_1]⟩))) = pevF Tryz.prog (tab []) [] 64 Tryz.f138 (bodyOf Tryz.f138) [.val (.agg ⟨[.int .i64 a0_0, .int .i64 a0_1]⟩), .val (.agg ⟨[.int .i64 a1_0, .int .i64 a1_1]⟩)] k := by kernel_rfl

theorem m_span_plus : Meets Tryz.prog Inv 138 (KK_span_plus span_plus) :=
  meets_of_pev mixed stab (tab_nil _ _) Tryz.func138 (by kernel_rfl) (by kernel_rfl) (by
    intro ds; unfold KK_span_plus; split
    · exact .inr ⟨[], 64, fun k => r_span_plus  _ _ _ _ k⟩
    · exact .inl (fun _ => rfl))

noncomputable def B_span_sum (f0 : Int → Int → Int → Int → Int → KS → Option DV) (f1 : Int → Int → KI → Option DV) (f2 : Int → Int → Int → Int → KQ → Option DV) (a0_0 a0_1 a0_2 a0_3 a0_4 : Int) (a0_5 a0_6 : Bool) (a1_0 a1_1 a1_2 a1_3 a1_4 : Int) (a1_5 a1_6 : Bool) (k : KS) : Option DV :=
  f2 a0_0 a0_1 a1_0 a1_1 (fun r1 r2 => f2 a0_2 a0_3 a1_2 a1_3 (fun r3 r4 => f1 a0_4 a1_4 (fun r5 => f0 r1 r2 r3 r4 r5 (fun r6 r7 r8 r9 r10 r11 r12 => k r6 r7 r8 r9 r10 r11 r12))))
noncomputable def span_sum (a0_0 a0_1 a0_2 a0_3 a0_4 : Int) (a0_5 a0_6 : Bool) (a1_0 a1_1 a1_2 a1_3 a1_4 : Int) (a1_5 a1_6 : Bool) (k : KS) : Option DV := B_span_sum span_closed span_lowestCommon span_plus a0_0 a0_1 a0_2 a0_3 a0_4 a0_5 a0_6 a1_0 a1_1 a1_2 a1_3 a1_4 a1_5 a1_6 k

noncomputable def KK_span_sum (f0 : Int → Int → Int → Int → Int → Bool → Bool → Int → Int → Int → Int → Int → Bool → Bool → KS → Option DV) (ds : List DV) (k : DV → Option DV) : Option DV :=
  match ds with
  | [.val (.agg ⟨[.int .i64 a0_0, .int .i64 a0_1, .int .i64 a0_2, .int .i64 a0_3, .int .i64 a0_4, .bool a0_5, .bool a0_6]⟩), .val (.agg ⟨[.int .i64 a1_0, .int .i64 a1_1, .int .i64 a1_2, .int .i64 a1_3, .int .i64 a1_4, .bool a1_5, .bool a1_6]⟩)] => f0 a0_0 a0_1 a0_2 a0_3 a0_4 a0_5 a0_6 a1_0 a1_1 a1_2 a1_3 a1_4 a1_5 a1_6 (fun r0_0 r0_1 r0_2 r0_3 r0_4 r0_5 r0_6 => k (.val (.agg ⟨[.int .i64 r0_0, .int .i64 r0_1, .int .i64 r0_2, .int .i64 r0_3, .int .i64 r0_4, .bool r0_5, .bool r0_6]⟩)))
  | _ => none

theorem r_span_sum (f0 : Int → Int → Int → Int → Int → KS → Option DV) (f1 : Int → Int → KI → Option DV) (f2 : Int → Int → Int → Int → KQ → Option DV) (a0_0 a0_1 a0_2 a0_3 a0_4 : Int) (a0_5 a0_6 : Bool) (a1_0 a1_1 a1_2 a1_3 a1_4 : Int) (a1_5 a1_6 : Bool) (k : DV → Option DV) : B_span_sum f0 f1 f2 a0_0 a0_1 a0_2 a0_3 a0_4 a0_5 a0_6 a1_0 a1_1 a1_2 a1_3 a1_4 a1_5 a1_6 (fun r0_0 r0_1 r0_2 r0_3 r0_4 r0_5 r0_6 => k (.val (.agg ⟨[.int .i64 r0_0, .int .i64 r0_1, .int .i64 r0_2, .int .i64 r0_3, .int .i64 r0_4, .bool r0_5, .bool r0_6]⟩))) = pevF Tryz.prog (tab [(56, (KK_span_lowestCommon f1)), (137, (KK_span_closed f0)), (138, (KK_span_plus f2))]) [] 64 Tryz.f112 (bodyOf Tryz.f112) [.val (.agg ⟨[.int .i64 a0_0, .int .i64 a0_1, .int .i64 a0_2, .int .i64 a0_3, .int .i64 a0_4, .bool a0_5, .bool a0_6]⟩), .val (.agg ⟨[.int .i64 a1_0, .int .i64 a1_1, .int .i64 a1_2, .int .i64 a1_3, .int .i64 a1_4, .bool a1_5, .bool a1_6]⟩)] k := by kernel_rfl

theorem m_span_sum : Meets Tryz.prog Inv 112 (KK_span_sum span_sum) :=
  meets_of_pev mixed stab (tab_cons m_span_lowestCommon (tab_cons m_span_closed (tab_cons m_span_plus (tab_nil _ _)))) Tryz.func112 (by kernel_rfl) (by kernel_rfl) (by
    intro ds; unfold KK_span_sum; split
    · exact .inr ⟨[], 64, fun k => r_span_sum span_closed span_lowestCommon span_plus _ _ _ _ _ _ _ _ _ _ _ _ _ _ k⟩
    · exact .inl (fun _ => rfl))

noncomputable def B_span_times  (a0_0 a0_1 a1_0 a1_1 : Int) (k : KQ) : Option DV :=
  k (IntKind.wrap .i64 (a0_0 * a1_0)) (IntKind.wrap .i64 (a0_1 * a1_1))
noncomputable def span_times (a0_0 a0_1 a1_0 a1_1 : Int) (k : KQ) : Option DV := B_span_times  a0_0 a0_1 a1_0 a1_1 k

noncomputable def KK_span_times (f0 : Int → Int → Int → Int → KQ → Option DV) (ds : List DV) (k : DV → Option DV) : Option DV :=
  match ds with
  | [.val (.agg ⟨[.int .i64 a0_0, .int .i64 a0_1]⟩), .val (.agg ⟨[.int .i64 a1_0, .int .i64 a1_1]⟩)] => f0 a0_0 a0_1 a1_0 a1_1 (fun r0_0 r0_1 => k (.val (.agg ⟨[.int .i64 r0_0, .int .i64 r0_1]⟩)))
  | _ => none

theorem r_span_times  (a0_0 a0_1 a1_0 a1_1 : Int) (k : DV → Option DV) : B_span_times  a0_0 a0_1 a1_0 a1_1 (fun r0_0 r0_1 => k (.val (.agg ⟨[.int .i64 r0_0, .int .i64 r0_1]⟩))) = pevF Tryz.prog (tab []) [] 64 Tryz.f162 (bodyOf Tryz.f162) [.val (.agg ⟨[.int .i64 a0_0, .int .i64 a0_1]⟩), .val (.agg ⟨[.int .i64 a1_0, .int .i64 a1_1]⟩)] k := by kernel_rfl

theorem m_span_times : Meets Tryz.prog Inv 162 (KK_span_times span_times) :=
  meets_of_pev mixed stab (tab_nil _ _) Tryz.func162 (by kernel_rfl) (by kernel_rfl) (by
    intro ds; unfold KK_span_times; split
    · exact .inr ⟨[], 64, fun k => r_span_times  _ _ _ _ k⟩
    · exact .inl (fun _ => rfl))

noncomputable def B_slices_IndexFunc_serinette_span_end_n4_span_end_isOpen (f0 : Int → Int → KB → Option DV) (a0_0_0 a0_0_1 a0_1_0 a0_1_1 a0_2_0 a0_2_1 a0_3_0 a0_3_1 : Int) (k : KI) : Option DV :=
  f0 a0_0_0 a0_0_1 (fun r1 => bif r1 then (k 0) else (f0 a0_1_0 a0_1_1 (fun r2 => bif r2 then (k 1) else (f0 a0_2_0 a0_2_1 (fun r3 => bif r3 then (k 2) else (f0 a0_3_0 a0_3_1 (fun r4 => bif r4 then (k 3) else (k (-1)))))))))
noncomputable def slices_IndexFunc_serinette_span_end_n4_span_end_isOpen (a0_0_0 a0_0_1 a0_1_0 a0_1_1 a0_2_0 a0_2_1 a0_3_0 a0_3_1 : Int) (k : KI) : Option DV := B_slices_IndexFunc_serinette_span_end_n4_span_end_isOpen span_end_isOpen a0_0_0 a0_0_1 a0_1_0 a0_1_1 a0_2_0 a0_2_1 a0_3_0 a0_3_1 k

noncomputable def KK_slices_IndexFunc_serinette_span_end (f0 : Int → Int → Int → Int → Int → Int → Int → Int → KI → Option DV) (ds : List DV) (k : DV → Option DV) : Option DV :=
  match ds with
  | [.lst 2 [[.val (.int .i64 a0_0_0), .val (.int .i64 a0_0_1)], [.val (.int .i64 a0_1_0), .val (.int .i64 a0_1_1)], [.val (.int .i64 a0_2_0), .val (.int .i64 a0_2_1)], [.val (.int .i64 a0_3_0), .val (.int .i64 a0_3_1)]], .val (.func (.func 164) ⟨[]⟩ ⟨[]⟩)] => f0 a0_0_0 a0_0_1 a0_1_0 a0_1_1 a0_2_0 a0_2_1 a0_3_0 a0_3_1 (fun r0_0 => k (.val (.int .i64 r0_0)))
  | _ => none

theorem r_slices_IndexFunc_serinette_span_end_n4_span_end_isOpen (f0 : Int → Int → KB → Option DV) (a0_0_0 a0_0_1 a0_1_0 a0_1_1 a0_2_0 a0_2_1 a0_3_0 a0_3_1 : Int) (k : DV → Option DV) : B_slices_IndexFunc_serinette_span_end_n4_span_end_isOpen f0 a0_0_0 a0_0_1 a0_1_0 a0_1_1 a0_2_0 a0_2_1 a0_3_0 a0_3_1 (fun r0_0 => k (.val (.int .i64 r0_0))) = pevF Tryz.prog (tab [(164, (KK_span_end_isOpen f0))]) [] 64 Tryz.f174 (bodyOf Tryz.f174) [.lst 2 [[.val (.int .i64 a0_0_0), .val (.int .i64 a0_0_1)], [.val (.int .i64 a0_1_0), .val (.int .i64 a0_1_1)], [.val (.int .i64 a0_2_0), .val (.int .i64 a0_2_1)], [.val (.int .i64 a0_3_0), .val (.int .i64 a0_3_1)]], .val (.func (.func 164) ⟨[]⟩ ⟨[]⟩)] k := by kernel_rfl

theorem m_slices_IndexFunc_serinette_span_end : Meets Tryz.prog Inv 174 (KK_slices_IndexFunc_serinette_span_end slices_IndexFunc_serinette_span_end_n4_span_end_isOpen) :=
  meets_of_pev mixed stab (tab_cons m_span_end_isOpen (tab_nil _ _)) Tryz.func174 (by kernel_rfl) (by kernel_rfl) (by
    intro ds; unfold KK_slices_IndexFunc_serinette_span_end; split
    · exact .inr ⟨[], 64, fun k => r_slices_IndexFunc_serinette_span_end_n4_span_end_isOpen span_end_isOpen _ _ _ _ _ _ _ _ k⟩
    · exact .inl (fun _ => rfl))

noncomputable def B_slices_ContainsFunc_serinette_span_end_n4_span_end_isOpen (f0 : Int → Int → Int → Int → Int → Int → Int → Int → KI → Option DV) (a0_0_0 a0_0_1 a0_1_0 a0_1_1 a0_2_0 a0_2_1 a0_3_0 a0_3_1 : Int) (k : KB) : Option DV :=
  f0 a0_0_0 a0_0_1 a0_1_0 a0_1_1 a0_2_0 a0_2_1 a0_3_0 a0_3_1 (fun r1 => k (decide (r1 ≥ 0)))
noncomputable def slices_ContainsFunc_serinette_span_end_n4_span_end_isOpen (a0_0_0 a0_0_1 a0_1_0 a0_1_1 a0_2_0 a0_2_1 a0_3_0 a0_3_1 : Int) (k : KB) : Option DV := B_slices_ContainsFunc_serinette_span_end_n4_span_end_isOpen slices_IndexFunc_serinette_span_end_n4_span_end_isOpen a0_0_0 a0_0_1 a0_1_0 a0_1_1 a0_2_0 a0_2_1 a0_3_0 a0_3_1 k

noncomputable def KK_slices_ContainsFunc_serinette_span_end (f0 : Int → Int → Int → Int → Int → Int → Int → Int → KB → Option DV) (ds : List DV) (k : DV → Option DV) : Option DV :=
  match ds with
  | [.lst 2 [[.val (.int .i64 a0_0_0), .val (.int .i64 a0_0_1)], [.val (.int .i64 a0_1_0), .val (.int .i64 a0_1_1)], [.val (.int .i64 a0_2_0), .val (.int .i64 a0_2_1)], [.val (.int .i64 a0_3_0), .val (.int .i64 a0_3_1)]], .val (.func (.func 164) ⟨[]⟩ ⟨[]⟩)] => f0 a0_0_0 a0_0_1 a0_1_0 a0_1_1 a0_2_0 a0_2_1 a0_3_0 a0_3_1 (fun r0_0 => k (.val (.bool r0_0)))
  | _ => none

theorem r_slices_ContainsFunc_serinette_span_end_n4_span_end_isOpen (f0 : Int → Int → Int → Int → Int → Int → Int → Int → KI → Option DV) (a0_0_0 a0_0_1 a0_1_0 a0_1_1 a0_2_0 a0_2_1 a0_3_0 a0_3_1 : Int) (k : DV → Option DV) : B_slices_ContainsFunc_serinette_span_end_n4_span_end_isOpen f0 a0_0_0 a0_0_1 a0_1_0 a0_1_1 a0_2_0 a0_2_1 a0_3_0 a0_3_1 (fun r0_0 => k (.val (.bool r0_0))) = pevF Tryz.prog (tab [(174, (KK_slices_IndexFunc_serinette_span_end f0))]) [] 64 Tryz.f163 (bodyOf Tryz.f163) [.lst 2 [[.val (.int .i64 a0_0_0), .val (.int .i64 a0_0_1)], [.val (.int .i64 a0_1_0), .val (.int .i64 a0_1_1)], [.val (.int .i64 a0_2_0), .val (.int .i64 a0_2_1)], [.val (.int .i64 a0_3_0), .val (.int .i64 a0_3_1)]], .val (.func (.func 164) ⟨[]⟩ ⟨[]⟩)] k := by kernel_rfl

theorem m_slices_ContainsFunc_serinette_span_end : Meets Tryz.prog Inv 163 (KK_slices_ContainsFunc_serinette_span_end slices_ContainsFunc_serinette_span_end_n4_span_end_isOpen) :=
  meets_of_pev mixed stab (tab_cons m_slices_IndexFunc_serinette_span_end (tab_nil _ _)) Tryz.func163 (by kernel_rfl) (by kernel_rfl) (by
    intro ds; unfold KK_slices_ContainsFunc_serinette_span_end; split
    · exact .inr ⟨[], 64, fun k => r_slices_ContainsFunc_serinette_span_end_n4_span_end_isOpen slices_IndexFunc_serinette_span_end_n4_span_end_isOpen _ _ _ _ _ _ _ _ k⟩
    · exact .inl (fun _ => rfl))

noncomputable def B_bits_Mul64  (a0 a1 : Int) (k : KQ) : Option DV :=
  k (IntKind.wrap .u64 ((IntKind.wrap .u64 ((IntKind.wrap .u64 ((Int.fdiv a0 (2 ^ (min (Int.toNat 32) (IntKind.bits .u64)))) * (Int.fdiv a1 (2 ^ (min (Int.toNat 32) (IntKind.bits .u64)))))) + (Int.fdiv (IntKind.wrap .u64 ((IntKind.wrap .u64 ((Int.fdiv a0 (2 ^ (min (Int.toNat 32) (IntKind.bits .u64)))) * (IntKind.wrap .u64 ((BitVec.toNat (BitVec.ofInt (IntKind.bits .u64) a1 &&& BitVec.ofInt (IntKind.bits .u64) 4294967295) : Nat))))) + (Int.fdiv (IntKind.wrap .u64 ((IntKind.wrap .u64 ((BitVec.toNat (BitVec.ofInt (IntKind.bits .u64) a0 &&& BitVec.ofInt (IntKind.bits .u64) 4294967295) : Nat))) * (IntKind.wrap .u64 ((BitVec.toNat (BitVec.ofInt (IntKind.bits .u64) a1 &&& BitVec.ofInt (IntKind.bits .u64) 4294967295) : Nat))))) (2 ^ (min (Int.toNat 32) (IntKind.bits .u64)))))) (2 ^ (min (Int.toNat 32) (IntKind.bits .u64)))))) + (Int.fdiv (IntKind.wrap .u64 ((IntKind.wrap .u64 ((BitVec.toNat (BitVec.ofInt (IntKind.bits .u64) (IntKind.wrap .u64 ((IntKind.wrap .u64 ((Int.fdiv a0 (2 ^ (min (Int.toNat 32) (IntKind.bits .u64)))) * (IntKind.wrap .u64 ((BitVec.toNat (BitVec.ofInt (IntKind.bits .u64) a1 &&& BitVec.ofInt (IntKind.bits .u64) 4294967295) : Nat))))) + (Int.fdiv (IntKind.wrap .u64 ((IntKind.wrap .u64 ((BitVec.toNat (BitVec.ofInt (IntKind.bits .u64) a0 &&& BitVec.ofInt (IntKind.bits .u64) 4294967295) : Nat))) * (IntKind.wrap .u64 ((BitVec.toNat (BitVec.ofInt (IntKind.bits .u64) a1 &&& BitVec.ofInt (IntKind.bits .u64) 4294967295) : Nat))))) (2 ^ (min (Int.toNat 32) (IntKind.bits .u64)))))) &&& BitVec.ofInt (IntKind.bits .u64) 4294967295) : Nat))) + (IntKind.wrap .u64 ((IntKind.wrap .u64 ((BitVec.toNat (BitVec.ofInt (IntKind.bits .u64) a0 &&& BitVec.ofInt (IntKind.bits .u64) 4294967295) : Nat))) * (Int.fdiv a1 (2 ^ (min (Int.toNat 32) (IntKind.bits .u64)))))))) (2 ^ (min (Int.toNat 32) (IntKind.bits .u64)))))) (IntKind.wrap .u64 (a0 * a1))
noncomputable def bits_Mul64 (a0 a1 : Int) (k : KQ) : Option DV := B_bits_Mul64  a0 a1 k

noncomputable def KK_bits_Mul64 (f0 : Int → Int → KQ → Option DV) (ds : List DV) (k : DV → Option DV) : Option DV :=
  match ds with
  | [.val (.int .u64 a0), .val (.int .u64 a1)] => f0 a0 a1 (fun r0_0 r1_0 => k (.val (.tuple ⟨[.int .u64 r0_0, .int .u64 r1_0]⟩)))
  | _ => none

theorem r_bits_Mul64  (a0 a1 : Int) (k : DV → Option DV) : B_bits_Mul64  a0 a1 (fun r0_0 r1_0 => k (.val (.tuple ⟨[.int .u64 r0_0, .int .u64 r1_0]⟩))) = pevF Tryz.prog (tab []) [] 64 Tryz.f157 (bodyOf Tryz.f157) [.val (.int .u64 a0), .val (.int .u64 a1)] k := by kernel_rfl

theorem m_bits_Mul64 : Meets Tryz.prog Inv 157 (KK_bits_Mul64 bits_Mul64) :=
  meets_of_pev mixed stab (tab_nil _ _) Tryz.func157 (by kernel_rfl) (by kernel_rfl) (by
    intro ds; unfold KK_bits_Mul64; split
    · exact .inr ⟨[], 64, fun k => r_bits_Mul64  _ _ k⟩
    · exact .inl (fun _ => rfl))

noncomputable def B_cmp_Or_int_n2  (a0_0_0 a0_1_0 : Int) (k : KI) : Option DV :=
  bif a0_0_0 != 0 then (k a0_0_0) else (bif a0_1_0 != 0 then (k a0_1_0) else (k 0))
noncomputable def cmp_Or_int_n2 (a0_0_0 a0_1_0 : Int) (k : KI) : Option DV := B_cmp_Or_int_n2  a0_0_0 a0_1_0 k

noncomputable def KK_cmp_Or_int (f0 : Int → Int → KI → Option DV) (ds : List DV) (k : DV → Option DV) : Option DV :=
  match ds with
  | [.lst 1 [[.val (.int .i64 a0_0_0)], [.val (.int .i64 a0_1_0)]]] => f0 a0_0_0 a0_1_0 (fun r0_0 => k (.val (.int .i64 r0_0)))
  | _ => none

theorem r_cmp_Or_int_n2  (a0_0_0 a0_1_0 : Int) (k : DV → Option DV) : B_cmp_Or_int_n2  a0_0_0 a0_1_0 (fun r0_0 => k (.val (.int .i64 r0_0))) = pevF Tryz.prog (tab []) [] 64 Tryz.f175 (bodyOf Tryz.f175) [.lst 1 [[.val (.int .i64 a0_0_0)], [.val (.int .i64 a0_1_0)]]] k := by kernel_rfl

theorem m_cmp_Or_int : Meets Tryz.prog Inv 175 (KK_cmp_Or_int cmp_Or_int_n2) :=
  meets_of_pev mixed stab (tab_nil _ _) Tryz.func175 (by kernel_rfl) (by kernel_rfl) (by
    intro ds; unfold KK_cmp_Or_int; split
    · exact .inr ⟨[], 64, fun k => r_cmp_Or_int_n2  _ _ k⟩
    · exact .inl (fun _ => rfl))

noncomputable def B_cmp_isNaN_uint64  (a0 : Int) (k : KB) : Option DV :=
  k (a0 != a0)
noncomputable def cmp_isNaN_uint64 (a0 : Int) (k : KB) : Option DV := B_cmp_isNaN_uint64  a0 k

noncomputable def KK_cmp_isNaN_uint64 (f0 : Int → KB → Option DV) (ds : List DV) (k : DV → Option DV) : Option DV :=
  match ds with
  | [.val (.int .u64 a0)] => f0 a0 (fun r0_0 => k (.val (.bool r0_0)))
  | _ => none

theorem r_cmp_isNaN_uint64  (a0 : Int) (k : DV → Option DV) : B_cmp_isNaN_uint64  a0 (fun r0_0 => k (.val (.bool r0_0))) = pevF Tryz.prog (tab []) [] 64 Tryz.f177 (bodyOf Tryz.f177) [.val (.int .u64 a0)] k := by kernel_rfl

theorem m_cmp_isNaN_uint64 : Meets Tryz.prog Inv 177 (KK_cmp_isNaN_uint64 cmp_isNaN_uint64) :=
  meets_of_pev mixed stab (tab_nil _ _) Tryz.func177 (by kernel_rfl) (by kernel_rfl) (by
    intro ds; unfold KK_cmp_isNaN_uint64; split
    · exact .inr ⟨[], 64, fun k => r_cmp_isNaN_uint64  _ k⟩
    · exact .inl (fun _ => rfl))

noncomputable def B_cmp_Compare_uint64 (f0 : Int → KB → Option DV) (a0 a1 : Int) (k : KI) : Option DV :=
  f0 a0 (fun r1 => f0 a1 (fun r2 => bif r1 then (bif r2 then (k 0) else (k (-1))) else (bif r2 then (k 1) else (bif decide (a0 < a1) then (k (-1)) else (bif decide (a0 > a1) then (k 1) else (k 0))))))
noncomputable def cmp_Compare_uint64 (a0 a1 : Int) (k : KI) : Option DV := B_cmp_Compare_uint64 cmp_isNaN_uint64 a0 a1 k

noncomputable def KK_cmp_Compare_uint64 (f0 : Int → Int → KI → Option DV) (ds : List DV) (k : DV → Option DV) : Option DV :=
  match ds with
  | [.val (.int .u64 a0), .val (.int .u64 a1)] => f0 a0 a1 (fun r0_0 => k (.val (.int .i64 r0_0)))
  | _ => none

theorem r_cmp_Compare_uint64 (f0 : Int → KB → Option DV) (a0 a1 : Int) (k : DV → Option DV) : B_cmp_Compare_uint64 f0 a0 a1 (fun r0_0 => k (.val (.int .i64 r0_0))) = pevF Tryz.prog (tab [(177, (KK_cmp_isNaN_uint64 f0))]) [] 64 Tryz.f176 (bodyOf Tryz.f176) [.val (.int .u64 a0), .val (.int .u64 a1)] k := by kernel_rfl

theorem m_cmp_Compare_uint64 : Meets Tryz.prog Inv 176 (KK_cmp_Compare_uint64 cmp_Compare_uint64) :=
  meets_of_pev mixed stab (tab_cons m_cmp_isNaN_uint64 (tab_nil _ _)) Tryz.func176 (by kernel_rfl) (by kernel_rfl) (by
    intro ds; unfold KK_cmp_Compare_uint64; split
    · exact .inr ⟨[], 64, fun k => r_cmp_Compare_uint64 cmp_isNaN_uint64 _ _ k⟩
    · exact .inl (fun _ => rfl))

noncomputable def B_span_compare (f0 : Int → Int → KI → Option DV) (f1 : Int → Int → KI → Option DV) (f2 : Int → Int → KI → Option DV) (f3 : Int → Int → KQ → Option DV) (f4 : Int → KI → Option DV) (a0_0 a0_1 a1_0 a1_1 : Int) (k : KI) : Option DV :=
  bif !(decide (a0_0 < 0) == decide (a1_0 < 0)) then (f0 a0_0 a1_0 (fun r1 => k r1)) else (f4 a0_0 (fun r2 => f3 r2 (IntKind.wrap .u64 (a1_1)) (fun r3 r4 => f4 a1_0 (fun r5 => f3 r5 (IntKind.wrap .u64 (a0_1)) (fun r6 r7 => f2 r3 r6 (fun r8 => f2 r4 r7 (fun r9 => f1 r8 r9 (fun r10 => bif decide (a0_0 < 0) then (k (IntKind.wrap .i64 (0 - r10))) else (k r10)))))))))
noncomputable def span_compare (a0_0 a0_1 a1_0 a1_1 : Int) (k : KI) : Option DV := B_span_compare cmp_Compare_int64 cmp_Or_int_n2 cmp_Compare_uint64 bits_Mul64 span_size a0_0 a0_1 a1_0 a1_1 k

noncomputable def KK_span_compare (f0 : Int → Int → Int → Int → KI → Option DV) (ds : List DV) (k : DV → Option DV) : Option DV :=
  match ds with
  | [.val (.agg ⟨[.int .i64 a0_0, .int .i64 a0_1]⟩), .val (.agg ⟨[.int .i64 a1_0, .int .i64 a1_1]⟩)] => f0 a0_0 a0_1 a1_0 a1_1 (fun r0_0 => k (.val (.int .i64 r0_0)))
  | _ => none

theorem r_span_compare (f0 : Int → Int → KI → Option DV) (f1 : Int → Int → KI → Option DV) (f2 : Int → Int → KI → Option DV) (f3 : Int → Int → KQ → Option DV) (f4 : Int → KI → Option DV) (a0_0 a0_1 a1_0 a1_1 : Int) (k : DV → Option DV) : B_span_compare f0 f1 f2 f3 f4 a0_0 a0_1 a1_0 a1_1 (fun r0_0 => k (.val (.int .i64 r0_0))) = pevF Tryz.prog (tab [(104, (KK_cmp_Compare_int64 f0)), (157, (KK_bits_Mul64 f3)), (173, (KK_span_size f4)), (175, (KK_cmp_Or_int f1)), (176, (KK_cmp_Compare_uint64 f2))]) [] 64 Tryz.f166 (bodyOf Tryz.f166) [.val (.agg ⟨[.int .i64 a0_0, .int .i64 a0_1]⟩), .val (.agg ⟨[.int .i64 a1_0, .int .i64 a1_1]⟩)] k := by kernel_rfl

theorem m_span_compare : Meets Tryz.prog Inv 166 (KK_span_compare span_compare) :=
  meets_of_pev mixed stab (tab_cons m_cmp_Compare_int64 (tab_cons m_bits_Mul64 (tab_cons m_span_size (tab_cons m_cmp_Or_int (tab_cons m_cmp_Compare_uint64 (tab_nil _ _)))))) Tryz.func166 (by kernel_rfl) (by kernel_rfl) (by
    intro ds; unfold KK_span_compare; split
    · exact .inr ⟨[], 64, fun k => r_span_compare cmp_Compare_int64 cmp_Or_int_n2 cmp_Compare_uint64 bits_Mul64 span_size _ _ _ _ k⟩
    · exact .inl (fun _ => rfl))

end Go.Proofs.YtpdklolfkigefaaGreatDoor
