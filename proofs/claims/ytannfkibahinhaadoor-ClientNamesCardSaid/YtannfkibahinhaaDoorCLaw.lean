/-
  soughlaw42.ClientNames: the walk.
-/
import Derived.Test.YtannfkibahinhaaDoorSmall
namespace Go.Proofs.YtannfkibahinhaaDoor
open Go.RowKit

theorem below_same {w w' : World} (h : w' = w) : Below w.heap.size w w' := by subst h; exact Below.refl _ _
def wantE (l : List UInt8) (k : Nat) : Int := if kindE l < k then (kindE l : Int) else 0

set_option maxHeartbeats 12800000 in
set_option maxRecDepth 100000 in
theorem clientNames_walk (kind : Int) (l : List UInt8) (ka kb : Int) (va vb : Value) (R S : List RowT) (w : World) (hR : Reps w va R) (hS : Reps w vb S) (hx : R.length ≤ 9223372036854775807) (hy : S.length ≤ 9223372036854775807) (hc : CN w) :
    Calls Tryd.prog 4 #[.int .i64 kind, .string ⟨l.toArray⟩, .agg #[.int .i64 ka, va], .agg #[.int .i64 kb, vb]] w fun e w' => e = .returned (.bool true) ∧ Below w.heap.size w w' := by
  have HR := Lib.hid hR
  have HS := Lib.hid hS
  obtain ⟨o1, c1, rfl, _, _⟩ := hR
  obtain ⟨o2, c2, rfl, _, _⟩ := hS
  have HB0 := Lib.hid (((Below.refl w.heap.size w).alloc (Nat.le_refl _) (.cells #[.int .i64 ka, .slice o1 R.length c1] 31)).alloc (by simp) (.cells #[.int .i64 kb, .slice o2 S.length c2] 31))
  have HA := Lib.hid ((Bk.new w 31 [.int .i64 ka, .slice o1 R.length c1]).alloc (.cells #[.int .i64 kb, .slice o2 S.length c2] 31))
  have HD := Lib.hid (Bk.new' (w.alloc (.cells #[.int .i64 ka, .slice o1 R.length c1] 31)) 31 [.int .i64 kb, .slice o2 S.length c2] (g := w.heap.size + 1) (by simp))
  have HC := Lib.hid hc
  have HX := Lib.hid (And.intro hx hy)
  clear hc hx hy
  by_cases h1 : 60 < l.length
  · have d1 : decide ((60 : Int) < l.length) = true := by simp; omega
    clear h1
    go_enter Tryd.func4, Tryd.ntmps4
    go_wp2_with fail
    refine (awake42_any _ (HC.out.below HB0.out)).mono ?_
    rintro e w1 ⟨rfl, rfl⟩
    go_wp2_with fail
    go_ret
    exact ⟨rfl, HB0.out⟩
  have d1 : decide ((60 : Int) < l.length) = false := by simp; omega
  clear h1
  go_enter Tryd.func4, Tryd.ntmps4
  go_wp2_with fail
  refine (awake42_any _ (HC.out.below HB0.out)).mono ?_
  rintro e w1 ⟨rfl, rfl⟩
  go_wp2_with fail
  refine (small_any ka _ R _ (HR.out.below HB0.out) HX.out.1).mono ?_
  rintro e w1 ⟨b1, rfl, hB⟩
  have HB1 := Lib.hid (bel_then HB0.out hB)
  have HA1 := Lib.hid (HA.out.below hB)
  have HD1 := Lib.hid (HD.out.below hB)
  have a0 := HA1.out.cell 0
  have a1 := HA1.out.cell 1
  have a2 := HD1.out.cell 0
  have a3 := HD1.out.cell 1
  simp only [List.getElem?_cons_zero, List.getElem?_cons_succ] at a0 a1 a2 a3
  clear hB
  cases b1 with
  | false =>
    go_wp2_with fail
    go_ret
    exact ⟨rfl, HB1.out⟩
  | true =>
    go_wp2_with fail
    refine (small_any kb _ S _ (HS.out.below HB1.out) HX.out.2).mono ?_
    rintro e w2 ⟨b2, rfl, hB⟩
    have HB2 := Lib.hid (bel_then HB1.out hB)
    have HA2 := Lib.hid (HA1.out.below hB)
    have HD2 := Lib.hid (HD1.out.below hB)
    clear hB a0 a1 a2 a3
    cases b2 with
    | false =>
      go_wp2_with fail
      go_ret
      exact ⟨rfl, HB2.out⟩
    | true =>
      go_wp2_with fail
      go_loopw [9, 10] (fun wa z wr => ∃ k : Nat, 1 ≤ k ∧ k ≤ 5 ∧ z = .int .i64 k ∧ wa = .int .i64 (wantE l k) ∧ Below w.heap.size w wr ∧ Bk wr w.heap.size 31 [.int .i64 ka, .slice o1 R.length c1] ∧ Bk wr (w.heap.size + 1) 31 [.int .i64 kb, .slice o2 S.length c2])
        (fun _ z _ => 5 - (intOf z).toNat)
      case atStart => exact ⟨1, by omega, by omega, rfl, by congr 1; unfold wantE; split <;> omega, HB2.out, HA2.out, HD2.out⟩
      case round =>
        obtain ⟨k, hk1, hk5, rfl, rfl, hB, hA, hD⟩ := hrel
        have HB := Lib.hid hB
        have HA3 := Lib.hid hA
        have HD3 := Lib.hid hD
        clear hB hA hD
        by_cases hk : k ≤ 4
        · have HI := Lib.hid (kind_iff l k hk1 hk)
          have HN := Lib.hid (show nmE k = nm k by unfold nmE; rw [if_pos (by omega)]; rfl)
          have hk2 : (k : Int) ≤ 4 := by omega
          go_wp2_with fail
          refine (rname_any _ _).mono ?_
          rintro e w3 ⟨rfl, hB⟩
          have HB3 := Lib.hid (bel_then HB.out hB)
          have HA4 := Lib.hid (HA3.out.below hB)
          have HD4 := Lib.hid (HD3.out.below hB)
          clear hB
          rw [HN.out]
          by_cases he : nm k = l
          · have HE := Lib.hid (show wantE l (k + 1) = k by have := HI.out.1 he; unfold wantE; rw [this, if_pos (by omega)])
            rw [he]
            clear he
            go_wp2_with fail
            go_roundw
            case rel => exact ⟨k + 1, by omega, by omega, by go_num, by rw [HE.out], HB3.out, HA4.out, HD4.out⟩
            case measure => simp [intOf]; omega
          · have HE := Lib.hid (show wantE l (k + 1) = wantE l k by
              have : ¬ kindE l = k := fun h => he (HI.out.2 h)
              unfold wantE
              by_cases h : kindE l < k
              · rw [if_pos h, if_pos (by omega)]
              · rw [if_neg h, if_neg (by omega)])
            generalize nm k = x at *
            have q1 : decide (x = l) = false := by simpa using he
            have q2 : (x == l) = false := by simpa using he
            clear he
            go_wp2_with fail
            go_roundw
            case rel => exact ⟨k + 1, by omega, by omega, by go_num, by rw [HE.out], HB3.out, HA4.out, HD4.out⟩
            case measure => simp [intOf]; omega
        · obtain rfl : k = 5 := by omega
          have HE := Lib.hid (show wantE l 5 = kindE l by have := kind_le l; unfold wantE; rw [if_pos (by omega)])
          rw [HE.out]
          go_wp2_with fail
          go_region_held3 (fun w' => w'.cell? ⟨w.heap.size, 0, none⟩ = some (.int .i64 ka) ∧ w'.cell? ⟨w.heap.size, 1, none⟩ = some (.slice o1 R.length c1) ∧ w'.cell? ⟨w.heap.size + 1, 0, none⟩ = some (.int .i64 kb) ∧ w'.cell? ⟨w.heap.size + 1, 1, none⟩ = some (.slice o2 S.length c2) ∧ Below w.heap.size w w')
            (first
              | exact ⟨HA3.out.cell 0, HA3.out.cell 1, HD3.out.cell 0, HD3.out.cell 1, HB.out.drew⟩
              | (go_split_ands; exact ⟨keepc (by assumption) hB, keepc (by assumption) hB, keepc (by assumption) hB, keepc (by assumption) hB, bel_then (by assumption) hB⟩))
            (first
              | (go_at_call 13; go_split_ands; refine (name_any _ _ (HC.out.below (by assumption))).mono ?_; rintro e w' ⟨rfl, hw⟩; have hB := below_same hw; clear hw)
              | (go_at_call 12; go_split_ands; refine (rname_any _ _).mono ?_; rintro e w' ⟨rfl, hB⟩)
              | (go_at_call 14; go_split_ands; refine (kind_any _ _ (HC.out.below (by assumption))).mono ?_; rintro e w' ⟨rfl, hw⟩; have hB := below_same hw; clear hw)
              | (go_at_call 15; go_split_ands; refine (csame_any ka kb _ _ R S _ (HR.out.below (by assumption)) (HS.out.below (by assumption)) HX.out.1 HX.out.2).mono ?_; rintro e w' ⟨rfl, hB⟩)
              | (go_at_call 16; go_split_ands; refine (rsame42_any ka kb _ _ R S _ (HR.out.below (by assumption)) (HS.out.below (by assumption)) HX.out.1 HX.out.2).mono ?_; rintro e w' ⟨rfl, hB⟩))
          all_goals
            go_split_ands
            go_wp2_with fail
            go_ret
            exact ⟨rfl, by assumption⟩

end Go.Proofs.YtannfkibahinhaaDoor
