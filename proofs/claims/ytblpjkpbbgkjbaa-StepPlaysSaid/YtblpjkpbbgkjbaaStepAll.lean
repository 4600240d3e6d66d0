/-
  step.Prog: what an instruction does.
-/
import Derived.Test.YtblpjkpbbgkjbaaStepA
import Derived.Test.YtblpjkpbbgkjbaaStepB
import Derived.Test.YtblpjkpbbgkjbaaStepC
import Derived.Test.YtblpjkpbbgkjbaaStepD
namespace Go.Proofs.Ytblpjkpbbgkjbaa
open Go.RowKit
section
variable {t : TypeId} {p : Value} {S : List Nat} {I : World → List Int → Nat → Prop} {fl fs fc fa fn : FuncId} {rl rs' rc ra rn : Value}

theorem pdo_any (M : MemI t p S I fl fs fc fa fn rl rs' rc ra rn) (b : Nat) (sl : Value) (rs zs : List Int) (nn : Nat) (x : InsT) (at' d : Int) (w : World) (h : Pg w b sl rs at') (hI : I w zs nn) (hbS : b ∉ S) (hat : 0 ≤ at' ∧ at' ≤ 1000000000) :
    Calls Try.prog 44 #[.pointer (some ⟨b, 0, none⟩), .agg #[.int .i64 x.op, .int .i64 x.r, .int .i64 x.a, .int .u64 x.n], .iface t p, .int .i64 d] w fun e w' => e = .returned (.tuple #[]) ∧ Pg w' b sl (doR x d rs zs) (doA x rs at') ∧ I w' (doZ x rs zs) (doN x nn) ∧ Fr (b :: S) w w' := by
  rcases (show x.op = 1 ∨ x.op = 2 ∨ x.op = 3 ∨ x.op = 4 ∨ x.op = 5 ∨ x.op = 6 ∨ x.op = 7 ∨ x.op = 8 ∨ x.op = 9 ∨ (x.op < 1 ∨ 9 < x.op) by omega) with ho | ho | ho | ho | ho | ho | ho | ho | ho | ho
  · exact do1_any M b sl rs zs nn x at' d w h hI hbS hat ho
  · exact do2_any M b sl rs zs nn x at' d w h hI hbS hat ho
  · cases hc : casb zs x.a (wd rs (rix x.r))
    · exact do3f_any M b sl rs zs nn x at' d w h hI hbS hat ho hc
    · exact do3t_any M b sl rs zs nn x at' d w h hI hbS hat ho hc
  · exact do4_any M b sl rs zs nn x at' d w h hI hbS hat ho
  · exact do5_any M b sl rs zs nn x at' d w h hI hbS hat ho
  · exact do6_any M b sl rs zs nn x at' d w h hI hbS hat ho
  · exact do7_any M b sl rs zs nn x at' d w h hI hbS hat ho
  · by_cases hz : wd rs (rix x.r) = 0
    · exact do8t_any M b sl rs zs nn x at' d w h hI hbS hat ho hz
    · exact do8f_any M b sl rs zs nn x at' d w h hI hbS hat ho hz
  · exact do9_any M b sl rs zs nn x at' d w h hI hbS hat ho
  · exact doo_any M b sl rs zs nn x at' d w h hI hbS hat ho

end

end Go.Proofs.Ytblpjkpbbgkjbaa
