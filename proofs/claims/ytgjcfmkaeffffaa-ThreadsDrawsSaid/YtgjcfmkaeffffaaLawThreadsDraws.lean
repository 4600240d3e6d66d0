/-
  THE LAW soughlaw37.ThreadsDraws RETURNS TRUE AT EVERY INPUT, and its arguments read as they did.
-/
import Derived.Test.YtgjcfmkaeffffaaRows
import Derived.WalkKit
import Derived.Test.YtgjcfmkaeffffaaDraws
import Derived.ProofKit
import Derived.Below
import Derived.OpenShut
namespace Go.Proofs.Ytgjcfmkaeffffaa.threadsDraws
open Go.ChangeShapes Go.WideShapes Go.ChangeAt Go.RowKit
set_option linter.unusedVariables false      -- a walk need not use every 'w<i>' (that an integer argument fits its kind)

theorem own : ownKnob Try.prog.godebug = none := by kernel_rfl

/-! ### STEP 1: THE WALK: the Go text returns true. 'Grown w w'': the world has at most new blocks (Derived/RowKit3.lean). Part the cases AHEAD of 'go_enter' where a test parts the walk; take each callee by a contract of your own. -/
theorem walk (a0 : Int) (a1 : Int) (w0 : (Lit.int .i64 a0).wf = true) (w1 : (Lit.int .i64 a1).wf = true) (w : World) :
    Calls Try.prog 6 #[.int .i64 a0, .int .i64 a1] w fun e w' => e = .returned (.bool true) ∧ Below w.heap.size w w' := by
  obtain ⟨n, hn⟩ : ∃ n : Nat, n = (min (max a1 0) 4096).toNat := ⟨_, rfl⟩
  have hn1 : a1 < 0 → (n : Int) ≤ 0 := by omega
  have hn2 : 0 ≤ a1 → a1 ≤ 4096 → a1 ≤ n ∧ n ≤ a1 := by omega
  have hn3 : 4096 < a1 → 4096 ≤ n ∧ n ≤ 4096 := by omega
  have hn4 : n ≤ 9223372036854775807 := by omega
  have Hn := Lib.hid (And.intro hn1 (And.intro hn2 (And.intro hn3 hn4)))
  clear hn hn1 hn2 hn3 hn4
  rcases (show (300 < a1 ∧ a1 ≤ 4096) ∨ a1 ≤ 300 ∨ (300 < a1 ∧ 4096 < a1) from by omega) with ⟨h1, h2⟩ | h1 | ⟨h1, h2⟩
  · go_enter Try.func6, Try.ntmps6
    go_wp2_with fail
    refine (Dr.awake_any _).mono ?_
    rintro e w1 ⟨rfl, hB⟩
    go_wp2_with fail
    go_ret
    exact ⟨rfl, hB⟩
  all_goals
    have hd : decide (a1 ≤ 4096) = decide (a1 ≤ 4096) := rfl
    go_enter Try.func6, Try.ntmps6
    go_wp2_with fail
    refine (Dr.awake_any _).mono ?_
    rintro e w1 ⟨rfl, hB⟩
    go_wp2_with fail
    refine (Dr.draws_any a0 a1 w1 n Hn.out.1 Hn.out.2.1 Hn.out.2.2.1).mono ?_
    rintro e w2 ⟨v1, rfl, ho1, hB1⟩
    have i1 := IntsAt.of_owns ho1
    clear ho1
    have Hi1 := Lib.hid i1
    clear i1
    go_wp2_with fail
    refine (Dr.ref_any a0 a1 w2 n Hn.out.1 Hn.out.2.1 Hn.out.2.2.1).mono ?_
    rintro e w3 ⟨v2, rfl, ho2, hB2⟩
    have i2 := IntsAt.of_owns ho2
    clear ho2
    have Hi2 := Lib.hid i2
    clear i2
    go_wp2_with fail
    refine (ints_any v1 v2 _ _ w3 (Hi1.out.below hB2) Hi2.out (by rw [Dr.out_len]; exact Hn.out.2.2.2) (by rw [Dr.out_len]; exact Hn.out.2.2.2)).mono ?_
    rintro e w4 ⟨rfl, nq, rfl⟩
    go_wp2_with fail
    go_ret
    exact ⟨by simp, bel_drewN ((hB.trans (hB1.mono hB.size)).trans (hB2.mono (Nat.le_trans hB.size hB1.size))) nq⟩

/-! ### THE ROW's STEP: WRITTEN OUT: LEAVE IT -/
set_option maxRecDepth 100000 in
theorem lifted (os : Os) (started : os.Started) (H : Type) (enc : TypeId × Value → H) :
    ReturnsInHanded {} Try.checked os 6 .any (Rows.threadsDrawsSpec.pre6 enc Try.prog Try.f6 Rows.threadsDrawsRow.domain false) (Rows.threadsDrawsSpec.post enc Try.prog Try.f6 false true false false) := by
  refine returnsInHanded_of_change (C := Try.checked) own started (by kernel_rfl) Try.func6
    (ChangeSpec.witness6 (enc := enc) (C := Try.checked) false ⟨#[], #[.int .i64 0, .int .i64 0], []⟩ 8 (by kernel_rfl) (by kernel_rfl) (by kernel_rfl) (by kernel_rfl)) ?_
  intro W base args ds gs before hval0 hW hcnd _
  have hval : ∀ (j : Nat) t v, Try.f6.params[j]? = some t → args[j]? = some v → Value.okWide Try.prog W .any base t v := hval0
  have hW' := hW
  obtain ⟨p, q, hA0, hV, rfl, hfz, hnd⟩ := hW
  have hA : DataW.TrodAll enc Try.prog W 0 (fun _ => true) true Try.f6.params.toList args.toList ds p := hA0
  rw [Try.params6] at hA hval
  obtain ⟨v0, vs0, d0, ds0, p0, q0, hargs, rfl, rfl, h0, r0⟩ := trodAll_cons hA
  obtain ⟨v1, vs1, d1, ds1, p1, q1, rfl, rfl, rfl, h1, r1⟩ := trodAll_cons r0
  obtain ⟨rfl, rfl, rfl⟩ := trodAll_nil r1
  obtain rfl : args = #[v0, v1] := by cases args; simp_all
  obtain ⟨rfl, rfl⟩ := trodVars_none hV
  obtain ⟨a0, rfl, rfl, rfl, w0⟩ := open_int Try.underlying3 (hval 0 3 v0 rfl rfl) h0
  obtain ⟨a1, rfl, rfl, rfl, w1⟩ := open_int Try.underlying3 (hval 1 3 v1 rfl rfl) h1
  clear hA0 hval0
  simp only [List.append_nil] at hW'
  refine (walk a0 a1 w0 w1 W).mono fun e W' ⟨he, hg⟩ => ?_
  subst he
  exact ⟨_, rfl, _, _, _, [], _, [], hW', trodAll_mk1 (shut_bool Try.underlying4 _), (trodAll_cons_mk (shut_int Try.underlying3 w0) (trodAll_cons_mk (shut_int Try.underlying3 w1) trodAll_mk0)), rfl, hg.frame _, fun h => by cases h⟩

theorem over : Rows.threadsDrawsRow.holds Try.pinned (OpenSpec.ofChange Rows.threadsDrawsSpec) :=
  OpenClaim.holds_of_wide 6 Try.f6 rfl rfl rfl rfl rfl rfl rfl ⟨rfl, rfl, rfl, rfl, rfl⟩ rfl rfl rfl rfl rfl (by kernel_rfl) Try.func6 (by kernel_rfl)
    (of_decide_eq_true (by kernel_rfl)) (by unfold Func.isWrapper; first | (rw [if_pos (by decide +kernel)]; kernel_rfl) | (rw [if_neg (by decide +kernel)]; exact ⟨rfl, rfl⟩))
    (fun os started H enc _ => lifted os started H enc)

/-- ████ THE STATEMENT ████ -/
theorem proved : Rows.ThreadsDrawsSaid :=
  over
#print axioms proved
end Go.Proofs.Ytgjcfmkaeffffaa.threadsDraws
