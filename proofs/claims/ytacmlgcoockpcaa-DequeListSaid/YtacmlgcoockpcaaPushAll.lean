/-
  (*deque.Push).Step: the contract.
-/
import Derived.Test.YtacmlgcoockpcaaPushA
import Derived.Test.YtacmlgcoockpcaaPushB
import Derived.Test.YtacmlgcoockpcaaPushC
import Derived.Test.YtacmlgcoockpcaaPushD
namespace Go.Proofs.Ytacmlgcoockpcaa
open Go.RowKit
section
variable {t : TypeId} {p : Value} {S : List Nat} {I : World → List Int → Nat → Prop} {fl fs fc fa fn : FuncId} {rl rs' rc ra rn : Value}

theorem push_any (M : MemI t p S I fl fs fc fa fn rl rs' rc ra rn) (a : Nat) (s : DS) (zs : List Int) (nn : Nat) (d : Int) (w : World) (h : Dq 66 w a s) (hI : I w zs nn) (haS : a ∉ S) :
    Calls Try.prog 30 #[.pointer (some ⟨a, 0, none⟩), .iface t p, .int .i64 d] w fun e w' => e = .returned (.bool (pushS s zs).ended) ∧ Dq 66 w' a (pushS s zs) ∧ (∃ m, m ≤ nn + 1 ∧ I w' (pushZ s zs) m) ∧ Fr (a :: S) w w' := by
  cases he : s.ended with
  | true => exact push_ended M a s zs nn d w h hI haS he
  | false =>
    by_cases h0 : s.did = 0
    · exact push_0 M a s zs nn d w h hI haS he h0
    by_cases h1 : s.did = 1
    · by_cases hx : roomv s.cap ≤ wrap64 (IntKind.u64.wrap (s.b - ldv zs s.base))
      · exact push_1f M a s zs nn d w h hI haS he h1 hx
      · exact push_1n M a s zs nn d w h hI haS he h1 hx
    by_cases h2 : s.did = 2
    · exact push_2 M a s zs nn d w h hI haS he h2
    · exact push_3 M a s zs nn d w h hI haS he ⟨h0, h1, h2⟩
end

end Go.Proofs.Ytacmlgcoockpcaa
