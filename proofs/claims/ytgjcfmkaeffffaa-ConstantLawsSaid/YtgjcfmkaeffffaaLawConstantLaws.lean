/-
  THE LAW soughlaw11.ConstantLaws RETURNS TRUE AT EVERY INPUT, and its arguments read as they did.
-/
import Derived.Test.YtgjcfmkaeffffaaRows
import Derived.WalkKit
import Derived.Test.YtgjcfmkaeffffaaConstLaws
import Derived.Deep.DeepCutAuto
import Derived.ProofKit
import Derived.Below
import Derived.OpenShut
namespace Go.Proofs.Ytgjcfmkaeffffaa.constantLaws
open Go.ChangeShapes Go.WideShapes Go.ChangeAt Go.RowKit
set_option linter.unusedVariables false      -- a walk need not use every 'w<i>' (that an integer argument fits its kind)

theorem own : ownKnob Try.prog.godebug = none := by kernel_rfl

/-! ### STEP 1: THE WALK: the Go text returns true. 'Grown w w'': the world has at most new blocks (Derived/RowKit3.lean). Part the cases AHEAD of 'go_enter' where a test parts the walk; take each callee by a contract of your own. -/
set_option maxHeartbeats 6400000 in
set_option maxRecDepth 100000 in
theorem walk (a0 : Int) (a1 : Int) (a2 : Int) (a3 : Int) (a4 : Int) (w0 : (Lit.int .i64 a0).wf = true) (w1 : (Lit.int .u64 a1).wf = true) (w2 : (Lit.int .u64 a2).wf = true) (w3 : (Lit.int .u64 a3).wf = true) (w4 : (Lit.int .u64 a4).wf = true) (w : World) :
    Calls Try.prog 5 #[.int .i64 a0, .int .u64 a1, .int .u64 a2, .int .u64 a3, .int .u64 a4] w fun e w' => e = .returned (.bool true) ∧ Below w.heap.size w w' := by
  have b1 := bounds_u64 w1
  have b2 := bounds_u64 w2
  have b3 := bounds_u64 w3
  have b4 := bounds_u64 w4
  have bj := cjoin_bd b1 b2
  have bp := cop_bd a0 a1 a3
  have bq := cop_bd a0 a2 a4
  clear w0 w1 w2 w3 w4
  go_enter Try.func5, Try.ntmps5
  go_upto_region 4 with (first
    | (go_at_call 7; refine (awake11_any _).mono ?_; rintro e w' ⟨rfl, hB⟩)
    | (go_at_call 8; refine (join_any _ _ _ (by assumption) (by assumption)).mono ?_; rintro e w' ⟨rfl, hB⟩)
    | (go_at_call 10; refine (below_any _ _ _ (by assumption) (by assumption)).mono ?_; rintro e w' ⟨rfl, hB⟩)
    | (go_at_call 11; refine (norm_any _ _ (by assumption)).mono ?_; rintro e w' ⟨rfl, hB⟩)
    | (go_at_call 14; refine (cop_any _ _ _ _ (by assumption) (by assumption)).mono ?_; rintro e w' ⟨rfl, hB⟩)
    | (go_at_call 12; refine (rank_any _ _ (by assumption)).mono ?_; rintro e w' ⟨rfl, hB⟩))
  go_cut [42] (fun s wx => s = .bool false ∧ Below w.heap.size w wx)
  case first =>
    have l1 := law1 a1 a2
    have l2 := law2 a1 a2
    cases h1 : (cjoin a1 a3 == sou a3)
    · go_wp2_with (first
          | (go_at_call 7; refine (awake11_any _).mono ?_; rintro e w' ⟨rfl, hB⟩)
          | (go_at_call 8; refine (join_any _ _ _ (by assumption) (by assumption)).mono ?_; rintro e w' ⟨rfl, hB⟩)
          | (go_at_call 10; refine (below_any _ _ _ (by assumption) (by assumption)).mono ?_; rintro e w' ⟨rfl, hB⟩)
          | (go_at_call 11; refine (norm_any _ _ (by assumption)).mono ?_; rintro e w' ⟨rfl, hB⟩)
          | (go_at_call 14; refine (cop_any _ _ _ _ (by assumption) (by assumption)).mono ?_; rintro e w' ⟨rfl, hB⟩)
          | (go_at_call 12; refine (rank_any _ _ (by assumption)).mono ?_; rintro e w' ⟨rfl, hB⟩))
      go_meet
      refine ⟨rfl, ?_⟩
      repeat (first | exact Below.refl _ _ | assumption | refine bel_then ?_ (by assumption))
    · cases h2 : (cjoin a2 a3 == sou a3)
      · go_wp2_with (first
            | (go_at_call 7; refine (awake11_any _).mono ?_; rintro e w' ⟨rfl, hB⟩)
            | (go_at_call 8; refine (join_any _ _ _ (by assumption) (by assumption)).mono ?_; rintro e w' ⟨rfl, hB⟩)
            | (go_at_call 10; refine (below_any _ _ _ (by assumption) (by assumption)).mono ?_; rintro e w' ⟨rfl, hB⟩)
            | (go_at_call 11; refine (norm_any _ _ (by assumption)).mono ?_; rintro e w' ⟨rfl, hB⟩)
            | (go_at_call 14; refine (cop_any _ _ _ _ (by assumption) (by assumption)).mono ?_; rintro e w' ⟨rfl, hB⟩)
            | (go_at_call 12; refine (rank_any _ _ (by assumption)).mono ?_; rintro e w' ⟨rfl, hB⟩))
        go_meet
        refine ⟨rfl, ?_⟩
        repeat (first | exact Below.refl _ _ | assumption | refine bel_then ?_ (by assumption))
      · have l3 := law3 h1 h2
        go_wp2_with (first
            | (go_at_call 7; refine (awake11_any _).mono ?_; rintro e w' ⟨rfl, hB⟩)
            | (go_at_call 8; refine (join_any _ _ _ (by assumption) (by assumption)).mono ?_; rintro e w' ⟨rfl, hB⟩)
            | (go_at_call 10; refine (below_any _ _ _ (by assumption) (by assumption)).mono ?_; rintro e w' ⟨rfl, hB⟩)
            | (go_at_call 11; refine (norm_any _ _ (by assumption)).mono ?_; rintro e w' ⟨rfl, hB⟩)
            | (go_at_call 14; refine (cop_any _ _ _ _ (by assumption) (by assumption)).mono ?_; rintro e w' ⟨rfl, hB⟩)
            | (go_at_call 12; refine (rank_any _ _ (by assumption)).mono ?_; rintro e w' ⟨rfl, hB⟩))
        go_meet
        refine ⟨rfl, ?_⟩
        repeat (first | exact Below.refl _ _ | assumption | refine bel_then ?_ (by assumption))
  case rest =>
    obtain ⟨rfl, hBc⟩ := hcut
    go_upto_region 6 with (first
      | (go_at_call 7; refine (awake11_any _).mono ?_; rintro e w' ⟨rfl, hB⟩)
      | (go_at_call 8; refine (join_any _ _ _ (by assumption) (by assumption)).mono ?_; rintro e w' ⟨rfl, hB⟩)
      | (go_at_call 10; refine (below_any _ _ _ (by assumption) (by assumption)).mono ?_; rintro e w' ⟨rfl, hB⟩)
      | (go_at_call 11; refine (norm_any _ _ (by assumption)).mono ?_; rintro e w' ⟨rfl, hB⟩)
      | (go_at_call 14; refine (cop_any _ _ _ _ (by assumption) (by assumption)).mono ?_; rintro e w' ⟨rfl, hB⟩)
      | (go_at_call 12; refine (rank_any _ _ (by assumption)).mono ?_; rintro e w' ⟨rfl, hB⟩))
    go_cut [59] (fun s wx => s = .bool false ∧ Below w.heap.size w wx)
    case first =>
      cases h1 : (cjoin a1 a2 == sou a2)
      · go_wp2_with (first
            | (go_at_call 7; refine (awake11_any _).mono ?_; rintro e w' ⟨rfl, hB⟩)
            | (go_at_call 8; refine (join_any _ _ _ (by assumption) (by assumption)).mono ?_; rintro e w' ⟨rfl, hB⟩)
            | (go_at_call 10; refine (below_any _ _ _ (by assumption) (by assumption)).mono ?_; rintro e w' ⟨rfl, hB⟩)
            | (go_at_call 11; refine (norm_any _ _ (by assumption)).mono ?_; rintro e w' ⟨rfl, hB⟩)
            | (go_at_call 14; refine (cop_any _ _ _ _ (by assumption) (by assumption)).mono ?_; rintro e w' ⟨rfl, hB⟩)
            | (go_at_call 12; refine (rank_any _ _ (by assumption)).mono ?_; rintro e w' ⟨rfl, hB⟩))
        go_meet
        refine ⟨rfl, ?_⟩
        repeat (first | exact Below.refl _ _ | assumption | refine bel_then ?_ (by assumption))
      · cases h2 : (sou a1 != sou a2)
        · go_wp2_with (first
              | (go_at_call 7; refine (awake11_any _).mono ?_; rintro e w' ⟨rfl, hB⟩)
              | (go_at_call 8; refine (join_any _ _ _ (by assumption) (by assumption)).mono ?_; rintro e w' ⟨rfl, hB⟩)
              | (go_at_call 10; refine (below_any _ _ _ (by assumption) (by assumption)).mono ?_; rintro e w' ⟨rfl, hB⟩)
              | (go_at_call 11; refine (norm_any _ _ (by assumption)).mono ?_; rintro e w' ⟨rfl, hB⟩)
              | (go_at_call 14; refine (cop_any _ _ _ _ (by assumption) (by assumption)).mono ?_; rintro e w' ⟨rfl, hB⟩)
              | (go_at_call 12; refine (rank_any _ _ (by assumption)).mono ?_; rintro e w' ⟨rfl, hB⟩))
          go_meet
          refine ⟨rfl, ?_⟩
          repeat (first | exact Below.refl _ _ | assumption | refine bel_then ?_ (by assumption))
        · have l4 := law4 h1 h2
          have l4d : decide (crank a2 ≤ crank a1) = false := by simp; omega
          go_wp2_with (first
              | (go_at_call 7; refine (awake11_any _).mono ?_; rintro e w' ⟨rfl, hB⟩)
              | (go_at_call 8; refine (join_any _ _ _ (by assumption) (by assumption)).mono ?_; rintro e w' ⟨rfl, hB⟩)
              | (go_at_call 10; refine (below_any _ _ _ (by assumption) (by assumption)).mono ?_; rintro e w' ⟨rfl, hB⟩)
              | (go_at_call 11; refine (norm_any _ _ (by assumption)).mono ?_; rintro e w' ⟨rfl, hB⟩)
              | (go_at_call 14; refine (cop_any _ _ _ _ (by assumption) (by assumption)).mono ?_; rintro e w' ⟨rfl, hB⟩)
              | (go_at_call 12; refine (rank_any _ _ (by assumption)).mono ?_; rintro e w' ⟨rfl, hB⟩))
          go_meet
          refine ⟨rfl, ?_⟩
          repeat (first | exact Below.refl _ _ | assumption | refine bel_then ?_ (by assumption))
    case rest =>
      obtain ⟨rfl, hBd⟩ := hcut
      clear hBc
      cases h1 : (cjoin a1 a2 == sou a2)
      · go_wp2_with (first
            | (go_at_call 7; refine (awake11_any _).mono ?_; rintro e w' ⟨rfl, hB⟩)
            | (go_at_call 8; refine (join_any _ _ _ (by assumption) (by assumption)).mono ?_; rintro e w' ⟨rfl, hB⟩)
            | (go_at_call 10; refine (below_any _ _ _ (by assumption) (by assumption)).mono ?_; rintro e w' ⟨rfl, hB⟩)
            | (go_at_call 11; refine (norm_any _ _ (by assumption)).mono ?_; rintro e w' ⟨rfl, hB⟩)
            | (go_at_call 14; refine (cop_any _ _ _ _ (by assumption) (by assumption)).mono ?_; rintro e w' ⟨rfl, hB⟩)
            | (go_at_call 12; refine (rank_any _ _ (by assumption)).mono ?_; rintro e w' ⟨rfl, hB⟩))
        go_ret
        refine ⟨by simp, ?_⟩
        repeat (first | exact Below.refl _ _ | assumption | refine bel_then ?_ (by assumption))
      · cases h2 : (cjoin a3 a4 == sou a4)
        · go_wp2_with (first
              | (go_at_call 7; refine (awake11_any _).mono ?_; rintro e w' ⟨rfl, hB⟩)
              | (go_at_call 8; refine (join_any _ _ _ (by assumption) (by assumption)).mono ?_; rintro e w' ⟨rfl, hB⟩)
              | (go_at_call 10; refine (below_any _ _ _ (by assumption) (by assumption)).mono ?_; rintro e w' ⟨rfl, hB⟩)
              | (go_at_call 11; refine (norm_any _ _ (by assumption)).mono ?_; rintro e w' ⟨rfl, hB⟩)
              | (go_at_call 14; refine (cop_any _ _ _ _ (by assumption) (by assumption)).mono ?_; rintro e w' ⟨rfl, hB⟩)
              | (go_at_call 12; refine (rank_any _ _ (by assumption)).mono ?_; rintro e w' ⟨rfl, hB⟩))
          go_ret
          refine ⟨by simp, ?_⟩
          repeat (first | exact Below.refl _ _ | assumption | refine bel_then ?_ (by assumption))
        · have l5 := law5 (op := a0) h1 h2
          go_wp2_with (first
              | (go_at_call 7; refine (awake11_any _).mono ?_; rintro e w' ⟨rfl, hB⟩)
              | (go_at_call 8; refine (join_any _ _ _ (by assumption) (by assumption)).mono ?_; rintro e w' ⟨rfl, hB⟩)
              | (go_at_call 10; refine (below_any _ _ _ (by assumption) (by assumption)).mono ?_; rintro e w' ⟨rfl, hB⟩)
              | (go_at_call 11; refine (norm_any _ _ (by assumption)).mono ?_; rintro e w' ⟨rfl, hB⟩)
              | (go_at_call 14; refine (cop_any _ _ _ _ (by assumption) (by assumption)).mono ?_; rintro e w' ⟨rfl, hB⟩)
              | (go_at_call 12; refine (rank_any _ _ (by assumption)).mono ?_; rintro e w' ⟨rfl, hB⟩))
          go_ret
          refine ⟨by simp, ?_⟩
          repeat (first | exact Below.refl _ _ | assumption | refine bel_then ?_ (by assumption))

/-! ### THE ROW's STEP: WRITTEN OUT: LEAVE IT -/
set_option maxRecDepth 100000 in
theorem lifted (os : Os) (started : os.Started) (H : Type) (enc : TypeId × Value → H) :
    ReturnsInHanded {} Try.checked os 5 .any (Rows.constantLawsSpec.pre6 enc Try.prog Try.f5 Rows.constantLawsRow.domain false) (Rows.constantLawsSpec.post enc Try.prog Try.f5 false true false false) := by
  refine returnsInHanded_of_change (C := Try.checked) own started (by kernel_rfl) Try.func5
    (ChangeSpec.witness6 (enc := enc) (C := Try.checked) false ⟨#[], #[.int .i64 0, .int .u64 0, .int .u64 0, .int .u64 0, .int .u64 0], []⟩ 8 (by kernel_rfl) (by kernel_rfl) (by kernel_rfl) (by kernel_rfl)) ?_
  intro W base args ds gs before hval0 hW hcnd _
  have hval : ∀ (j : Nat) t v, Try.f5.params[j]? = some t → args[j]? = some v → Value.okWide Try.prog W .any base t v := hval0
  have hW' := hW
  obtain ⟨p, q, hA0, hV, rfl, hfz, hnd⟩ := hW
  have hA : DataW.TrodAll enc Try.prog W 0 (fun _ => true) true Try.f5.params.toList args.toList ds p := hA0
  rw [Try.params5] at hA hval
  obtain ⟨v0, vs0, d0, ds0, p0, q0, hargs, rfl, rfl, h0, r0⟩ := trodAll_cons hA
  obtain ⟨v1, vs1, d1, ds1, p1, q1, rfl, rfl, rfl, h1, r1⟩ := trodAll_cons r0
  obtain ⟨v2, vs2, d2, ds2, p2, q2, rfl, rfl, rfl, h2, r2⟩ := trodAll_cons r1
  obtain ⟨v3, vs3, d3, ds3, p3, q3, rfl, rfl, rfl, h3, r3⟩ := trodAll_cons r2
  obtain ⟨v4, vs4, d4, ds4, p4, q4, rfl, rfl, rfl, h4, r4⟩ := trodAll_cons r3
  obtain ⟨rfl, rfl, rfl⟩ := trodAll_nil r4
  obtain rfl : args = #[v0, v1, v2, v3, v4] := by cases args; simp_all
  obtain ⟨rfl, rfl⟩ := trodVars_none hV
  obtain ⟨a0, rfl, rfl, rfl, w0⟩ := open_int Try.underlying3 (hval 0 3 v0 rfl rfl) h0
  obtain ⟨a1, rfl, rfl, rfl, w1⟩ := open_int Try.underlying22 (hval 1 22 v1 rfl rfl) h1
  obtain ⟨a2, rfl, rfl, rfl, w2⟩ := open_int Try.underlying22 (hval 2 22 v2 rfl rfl) h2
  obtain ⟨a3, rfl, rfl, rfl, w3⟩ := open_int Try.underlying22 (hval 3 22 v3 rfl rfl) h3
  obtain ⟨a4, rfl, rfl, rfl, w4⟩ := open_int Try.underlying22 (hval 4 22 v4 rfl rfl) h4
  clear hA0 hval0
  simp only [List.append_nil] at hW'
  refine (walk a0 a1 a2 a3 a4 w0 w1 w2 w3 w4 W).mono fun e W' ⟨he, hg⟩ => ?_
  subst he
  exact ⟨_, rfl, _, _, _, [], _, [], hW', trodAll_mk1 (shut_bool Try.underlying4 _), (trodAll_cons_mk (shut_int Try.underlying3 w0) (trodAll_cons_mk (shut_int Try.underlying22 w1) (trodAll_cons_mk (shut_int Try.underlying22 w2) (trodAll_cons_mk (shut_int Try.underlying22 w3) (trodAll_cons_mk (shut_int Try.underlying22 w4) trodAll_mk0))))), rfl, hg.frame _, fun h => by cases h⟩

theorem over : Rows.constantLawsRow.holds Try.pinned (OpenSpec.ofChange Rows.constantLawsSpec) :=
  OpenClaim.holds_of_wide 5 Try.f5 rfl rfl rfl rfl rfl rfl rfl ⟨rfl, rfl, rfl, rfl, rfl⟩ rfl rfl rfl rfl rfl (by kernel_rfl) Try.func5 (by kernel_rfl)
    (of_decide_eq_true (by kernel_rfl)) (by unfold Func.isWrapper; first | (rw [if_pos (by decide +kernel)]; kernel_rfl) | (rw [if_neg (by decide +kernel)]; exact ⟨rfl, rfl⟩))
    (fun os started H enc _ => lifted os started H enc)

/-- ████ THE STATEMENT ████ -/
theorem proved : Rows.ConstantLawsSaid :=
  over
#print axioms proved
end Go.Proofs.Ytgjcfmkaeffffaa.constantLaws
