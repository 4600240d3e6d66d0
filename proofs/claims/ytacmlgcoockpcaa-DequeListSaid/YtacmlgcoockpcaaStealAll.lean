/-
  (*deque.Steal).Step: the contract.
-/
import Derived.Test.YtacmlgcoockpcaaStealA
import Derived.Test.YtacmlgcoockpcaaStealB
import Derived.Test.YtacmlgcoockpcaaStealC
namespace Go.Proofs.Ytacmlgcoockpcaa
open Go.RowKit
section
variable {t : TypeId} {p : Value} {S : List Nat} {I : World → List Int → Nat → Prop} {fl fs fc fa fn : FuncId} {rl rs' rc ra rn : Value}
theorem steal_any (M : MemI t p S I fl fs fc fa fn rl rs' rc ra rn) (a : Nat) (s : DS) (zs : List Int) (nn : Nat) (d : Int) (w : World) (h : Dq 69 w a s) (hI : I w zs nn) (haS : a ∉ S) :
    Calls Try.prog 32 #[.pointer (some ⟨a, 0, none⟩), .iface t p, .int .i64 d] w fun e w' => e = .returned (.bool (stealS s zs).ended) ∧ Dq 69 w' a (stealS s zs) ∧ (∃ m, m ≤ nn + 1 ∧ I w' (stealZ s zs) m) ∧ Fr (a :: S) w w' := by
  cases he : s.ended with
  | true => exact steal_ended M a s zs nn d w h hI haS he
  | false =>
    by_cases h0 : s.did = 0
    · exact steal_0 M a s zs nn d w h hI haS he h0
    by_cases h1 : s.did = 1
    · cases hx : abv (ldv zs (wrap64 (s.base + 1))) s.t with
      | true => exact steal_1n M a s zs nn d w h hI haS he h1 hx
      | false => exact steal_1e M a s zs nn d w h hI haS he h1 hx
    by_cases h2 : s.did = 2
    · exact steal_2 M a s zs nn d w h hI haS he h2
    · exact steal_3 M a s zs nn d w h hI haS he ⟨h0, h1, h2⟩
end

end Go.Proofs.Ytacmlgcoockpcaa
