/-
  (*deque.Pop).Step: the contract.
-/
import Derived.Test.YtacmlgcoockpcaaPopA
import Derived.Test.YtacmlgcoockpcaaPopB
import Derived.Test.YtacmlgcoockpcaaPopC
import Derived.Test.YtacmlgcoockpcaaPopD
import Derived.Test.YtacmlgcoockpcaaPopE
namespace Go.Proofs.Ytacmlgcoockpcaa
open Go.RowKit
section
variable {t : TypeId} {p : Value} {S : List Nat} {I : World → List Int → Nat → Prop} {fl fs fc fa fn : FuncId} {rl rs' rc ra rn : Value}
theorem pop_any (M : MemI t p S I fl fs fc fa fn rl rs' rc ra rn) (a : Nat) (s : DS) (zs : List Int) (nn : Nat) (d : Int) (w : World) (h : Dq 68 w a s) (hI : I w zs nn) (haS : a ∉ S) :
    Calls Try.prog 31 #[.pointer (some ⟨a, 0, none⟩), .iface t p, .int .i64 d] w fun e w' => e = .returned (.bool (popS s zs).ended) ∧ Dq 68 w' a (popS s zs) ∧ (∃ m, m ≤ nn + 1 ∧ I w' (popZ s zs) m) ∧ Fr (a :: S) w w' := by
  cases he : s.ended with
  | true => exact pop_ended M a s zs nn d w h hI haS he
  | false =>
    by_cases h0 : s.did = 0
    · exact pop_0 M a s zs nn d w h hI haS he h0
    by_cases h1 : s.did = 1
    · exact pop_1 M a s zs nn d w h hI haS he h1
    by_cases h2 : s.did = 2
    · exact pop_2 M a s zs nn d w h hI haS he h2
    by_cases h3 : s.did = 3
    · cases hx : abv s.t s.b with
      | true => exact pop_3e M a s zs nn d w h hI haS he h3 hx
      | false =>
        cases hy : abv s.b s.t with
        | true => exact pop_3t M a s zs nn d w h hI haS he h3 hx hy
        | false => exact pop_3n M a s zs nn d w h hI haS he h3 hx hy
    by_cases h4 : s.did = 4
    · exact pop_4 M a s zs nn d w h hI haS he h4
    · exact pop_5 M a s zs nn d w h hI haS he ⟨h0, h1, h2, h3, h4⟩
end

end Go.Proofs.Ytacmlgcoockpcaa
