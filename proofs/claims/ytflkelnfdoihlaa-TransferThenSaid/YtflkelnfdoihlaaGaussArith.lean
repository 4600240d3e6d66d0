/-
  gauss.sure, Add, Sub, Mul, Conj, Is: contracts.
-/
import Derived.Test.YtflkelnfdoihlaaGaussOp
import Derived.Test.YtflkelnfdoihlaaWord
import Derived.Test.YtflkelnfdoihlaaNumEq
namespace Go.Proofs.Ytflkelnfdoihlaa
open Go.RowKit






/-- Are both parts such as Wrap tells? -/
def isw (a b : Int) : Bool := decide (a = wr a ∧ b = wr b)
set_option maxHeartbeats 1600000 in
set_option maxRecDepth 100000 in
theorem isw_any (a b : Int) (w : World) :
    Calls Try.prog 100 #[.agg #[.int .i64 a, .int .i64 b]] w fun e w' => e = .returned (.bool (isw a b)) ∧ Below w.heap.size w w' := by
  have hr : Ending.returned (.bool (isw a b)) = .returned (.bool (a == wr a && b == wr b)) := ret_bool (by unfold isw; rw [Bool.eq_iff_iff]; simp)
  have Hr := Lib.hid hr
  clear hr
  have heq := num_eql a b (wr a) (wr b)
  go_enter Try.func100, Try.ntmps100
  go_wp2_with fail
  go_region_held3 (fun w' => w'.cell? ⟨w.heap.size, 0, none⟩ = some (.int .i64 a) ∧ w'.cell? ⟨w.heap.size, 1, none⟩ = some (.int .i64 b) ∧ Below w.heap.size w w')
    (first
      | exact ⟨(P2.new _ _ _ _).1, (P2.new _ _ _ _).2.1, ((Below.refl w.heap.size w).alloc (Nat.le_refl _) _).drew⟩
      | (go_split_ands; exact ⟨keepc (by assumption) hB, keepc (by assumption) hB, bel_then (by assumption) hB⟩))
    (first
      | (go_at_call 102; refine (of_any _ _ _).mono ?_; rintro e w' ⟨rfl, hB⟩))
  all_goals
    go_split_ands
    go_wp2_with fail
    go_ret
    exact ⟨Hr.out.symm, by assumption⟩

end Go.Proofs.Ytflkelnfdoihlaa
