/- Faults of selectors: the model. -/
import Derived.Test.YtfldgeokigcokaaSelE
import Derived.Deep.RegionWith
namespace Go.Proofs.Ytfldgeokigcokaa
open Go.RowKit

theorem sfC_model (x : S9) :
    (rngB x.a x.b 4294967295 = false ∧ Hid (sfC x = 3)) ∨
    (rngB x.a x.b 4294967295 = true ∧ rngB x.c x.d 4294967295 = false ∧ Hid (sfC x = 3)) ∨
    (rngB x.a x.b 4294967295 = true ∧ rngB x.c x.d 4294967295 = true ∧ rngB x.e x.f 65535 = false ∧ Hid (sfC x = 3)) ∨
    (rngB x.a x.b 4294967295 = true ∧ rngB x.c x.d 4294967295 = true ∧ rngB x.e x.f 65535 = true ∧ rngB x.g x.h 65535 = false ∧ Hid (sfC x = 3)) ∨
    (rngB x.a x.b 4294967295 = true ∧ rngB x.c x.d 4294967295 = true ∧ rngB x.e x.f 65535 = true ∧ rngB x.g x.h 65535 = true ∧ btw x.r 0 255 = false ∧ Hid (sfC x = 3)) ∨
    (rngB x.a x.b 4294967295 = true ∧ rngB x.c x.d 4294967295 = true ∧ rngB x.e x.f 65535 = true ∧ rngB x.g x.h 65535 = true ∧ btw x.r 0 255 = true ∧ Hid (fitS x = true)) := by
  unfold Hid sfC fitS
  cases rngB x.a x.b 4294967295 <;> cases rngB x.c x.d 4294967295 <;> cases rngB x.e x.f 65535 <;> cases rngB x.g x.h 65535 <;> cases btw x.r 0 255 <;> simp

theorem sfC_right (x : S9) (h : fitS x = true) :
    ((x.r != 0) = false ∧ Hid (sfC x = 0)) ∨
    ((x.r != 0) = true ∧ portsP x.r = true ∧ Hid (sfC x = 0)) ∨
    ((x.r != 0) = true ∧ portsP x.r = false ∧ Hid (((x.e == 0) && (x.f == 65535)) = false) ∧ Hid (sfC x = 1)) ∨
    ((x.r != 0) = true ∧ portsP x.r = false ∧ Hid (((x.e == 0) && (x.f == 65535)) = true) ∧ Hid (((x.g == 0) && (x.h == 65535)) = false) ∧ Hid (sfC x = 1)) ∨
    ((x.r != 0) = true ∧ portsP x.r = false ∧ Hid (((x.e == 0) && (x.f == 65535)) = true) ∧ Hid (((x.g == 0) && (x.h == 65535)) = true) ∧ Hid (sfC x = 0)) := by
  unfold Hid sfC bareP wholeP
  rw [h]
  generalize ((x.e == 0) && (x.f == 65535)) = p
  generalize ((x.g == 0) && (x.h == 65535)) = q
  generalize (x.r != 0) = r
  cases r <;> cases portsP x.r <;> cases p <;> cases q <;> simp

end Go.Proofs.Ytfldgeokigcokaa
