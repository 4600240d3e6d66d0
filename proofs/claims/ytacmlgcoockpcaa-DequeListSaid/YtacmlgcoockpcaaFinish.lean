/-
  soughlaw27: finish: seven Steps of a machine behind the interface, from any world.
-/
import Derived.Test.YtacmlgcoockpcaaDeqNone
import Derived.Test.YtacmlgcoockpcaaStealAll
import Derived.Test.YtacmlgcoockpcaaPopAll
import Derived.Test.YtacmlgcoockpcaaDeqP
namespace Go.Proofs.Ytacmlgcoockpcaa
open Go.RowKit

set_option maxHeartbeats 1600000 in
set_option maxRecDepth 100000 in
theorem finish_any (T T' : TypeId) (F : FuncId) (f : DS → List Int → DS) (g : DS → List Int → List Int) (a mb mg : Nat) (s : DS) (zs : List Int) (w : World)
    (el : ∀ args w, (callFunc F args).run Try.prog w = .ok (.enter F args) w)
    (_hn : ∀ w, (nilAhead 228 T' (.pointer (some ⟨a, 0, none⟩)) "Step").run Try.prog w = .ok (some false) w)
    (hm : ∀ w, (method 228 T' (.pointer (some ⟨a, 0, none⟩)) "Step").run Try.prog w = .ok (F, .pointer (some ⟨a, 0, none⟩)) w)
    (step : ∀ s zs w, Dq T w a s → Pm w mb mg zs → Calls Try.prog F #[.pointer (some ⟨a, 0, none⟩), .iface 24 (.pointer (some ⟨mb, 0, none⟩)), .int .i64 0] w fun e w' => e = .returned (.bool (f s zs).ended) ∧ Dq T w' a (f s zs) ∧ Pm w' mb mg (g s zs) ∧ Fr [a, mb, mg] w w')
    (hD : Dq T w a s) (hP : Pm w mb mg zs) :
    Calls Try.prog 28 #[.iface T' (.pointer (some ⟨a, 0, none⟩)), .pointer (some ⟨mb, 0, none⟩)] w fun e w' => e = .returned (.tuple #[]) ∧ Dq T w' a (it f g 7 (s, zs)).1 ∧ Pm w' mb mg (it f g 7 (s, zs)).2 ∧ Fr [a, mb, mg] w w' := by
  have HD := Lib.hid hD
  have HP := Lib.hid hP
  have HS := Lib.hid step
  clear hD hP step
  go_enter Try.func28, Try.ntmps28
  go_wp2_with fail
  go_loopw [4] (fun nv wr => ∃ k : Nat, k ≤ 7 ∧ nv = .int .i64 k ∧ Dq T wr a (it f g k (s, zs)).1 ∧ Pm wr mb mg (it f g k (s, zs)).2 ∧ Fr [a, mb, mg] w wr)
    (fun nv _ => 7 - (intOf nv).toNat)
  case atStart => exact ⟨0, by omega, rfl, HD.out, HP.out, Fr.refl _ _⟩
  case round =>
    obtain ⟨k, hk, rfl, hD, hP, hF⟩ := hrel
    have HDk := Lib.hid hD
    have HPk := Lib.hid hP
    have HFk := Lib.hid hF
    clear hD hP hF
    by_cases hlt : k < 7
    · go_wp2_with fail
      refine (HS.out _ _ _ HDk.out HPk.out).mono ?_
      rintro e w1 ⟨rfl, hD, hP, hF⟩
      have HD1 := Lib.hid (show Dq T w1 a (it f g (k + 1) (s, zs)).1 by rw [it_last]; exact hD)
      have HP1 := Lib.hid (show Pm w1 mb mg (it f g (k + 1) (s, zs)).2 by rw [it_last]; exact hP)
      have HF1 := Lib.hid (HFk.out.trans hF)
      clear hD hP hF
      go_wp2_with fail
      go_roundw
      case rel => exact ⟨k + 1, by omega, by go_num, HD1.out, HP1.out, HF1.out⟩
      case measure => simp [intOf]; omega
    · obtain rfl : k = 7 := by omega
      go_wp2_with fail
      go_end0
      exact ⟨rfl, HDk.out, HPk.out, HFk.out⟩

section
variable (a mb mg : Nat) (s : DS) (zs : List Int) (w : World) (ha : a ≠ mb ∧ a ≠ mg)
theorem notin {a mb mg : Nat} (ha : a ≠ mb ∧ a ≠ mg) : a ∉ [mb, mg] := by simp; omega
include ha
theorem fin_push (hD : Dq 66 w a s) (hP : Pm w mb mg zs) :
    Calls Try.prog 28 #[.iface 50 (.pointer (some ⟨a, 0, none⟩)), .pointer (some ⟨mb, 0, none⟩)] w fun e w' => e = .returned (.tuple #[]) ∧ Dq 66 w' a (it pushS pushZ 7 (s, zs)).1 ∧ Pm w' mb mg (it pushS pushZ 7 (s, zs)).2 ∧ Fr [a, mb, mg] w w' :=
  finish_any _ _ 30 pushS pushZ a mb mg s zs w (enters_of Try.func30 (by kernel_rfl) rfl) (fun w => by kernel_rfl) (fun w => by kernel_rfl)
    (fun s zs w h k => (push_any (plainI mb mg) a s zs 0 0 w h k (notin ha)).mono fun e w' ⟨h1, h2, ⟨_, _, h3⟩, h4⟩ => ⟨h1, h2, h3, h4⟩) hD hP
theorem fin_pop (hD : Dq 68 w a s) (hP : Pm w mb mg zs) :
    Calls Try.prog 28 #[.iface 51 (.pointer (some ⟨a, 0, none⟩)), .pointer (some ⟨mb, 0, none⟩)] w fun e w' => e = .returned (.tuple #[]) ∧ Dq 68 w' a (it popS popZ 7 (s, zs)).1 ∧ Pm w' mb mg (it popS popZ 7 (s, zs)).2 ∧ Fr [a, mb, mg] w w' :=
  finish_any _ _ 31 popS popZ a mb mg s zs w (enters_of Try.func31 (by kernel_rfl) rfl) (fun w => by kernel_rfl) (fun w => by kernel_rfl)
    (fun s zs w h k => (pop_any (plainI mb mg) a s zs 0 0 w h k (notin ha)).mono fun e w' ⟨h1, h2, ⟨_, _, h3⟩, h4⟩ => ⟨h1, h2, h3, h4⟩) hD hP
theorem fin_steal (hD : Dq 69 w a s) (hP : Pm w mb mg zs) :
    Calls Try.prog 28 #[.iface 52 (.pointer (some ⟨a, 0, none⟩)), .pointer (some ⟨mb, 0, none⟩)] w fun e w' => e = .returned (.tuple #[]) ∧ Dq 69 w' a (it stealS stealZ 7 (s, zs)).1 ∧ Pm w' mb mg (it stealS stealZ 7 (s, zs)).2 ∧ Fr [a, mb, mg] w w' :=
  finish_any _ _ 32 stealS stealZ a mb mg s zs w (enters_of Try.func32 (by kernel_rfl) rfl) (fun w => by kernel_rfl) (fun w => by kernel_rfl)
    (fun s zs w h k => (steal_any (plainI mb mg) a s zs 0 0 w h k (notin ha)).mono fun e w' ⟨h1, h2, ⟨_, _, h3⟩, h4⟩ => ⟨h1, h2, h3, h4⟩) hD hP
end

end Go.Proofs.Ytacmlgcoockpcaa
