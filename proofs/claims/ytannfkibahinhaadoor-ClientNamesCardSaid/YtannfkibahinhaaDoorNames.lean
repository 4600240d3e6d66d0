/-
  client.Name, client.Kind, soughref42.Name; soughlaw42.awake: contracts.
-/
import Derived.Test.YtannfkibahinhaaDoorStrs
namespace Go.Proofs.YtannfkibahinhaaDoor
open Go.RowKit

/-- The clients' names. -/
def nm (k : Nat) : List UInt8 := match k with
  | 1 => [108, 105, 118, 101]
  | 2 => [114, 101, 97, 99, 104]
  | 3 => [97, 118, 97, 105, 108]
  | 4 => [99, 111, 110, 115, 116]
  | _ => []
def nmE (k : Int) : List UInt8 := if 1 ≤ k ∧ k ≤ 4 then nm k.toNat else []
/-- The program's table of them. -/
def CN (w : World) : Prop := ∀ j, 1 ≤ j → j ≤ 4 → w.cell? ⟨0, j, none⟩ = some (.string ⟨(nm j).toArray⟩)
theorem CN.below {w w' : World} (h : CN w) (k : Below w.heap.size w w') : CN w' := fun j h1 h2 => keepc (h j h1 h2) k
def kindE (l : List UInt8) : Nat := if nm 1 = l then 1 else if nm 2 = l then 2 else if nm 3 = l then 3 else if nm 4 = l then 4 else 0
theorem kind_le (l : List UInt8) : kindE l ≤ 4 := by unfold kindE; (repeat' split) <;> omega
theorem kind_iff (l : List UInt8) (k : Nat) (h1 : 1 ≤ k) (h2 : k ≤ 4) : nm k = l ↔ kindE l = k := by
  have d : nm 1 ≠ nm 2 ∧ nm 1 ≠ nm 3 ∧ nm 1 ≠ nm 4 ∧ nm 2 ≠ nm 3 ∧ nm 2 ≠ nm 4 ∧ nm 3 ≠ nm 4 := by decide
  obtain ⟨d1, d2, d3, d4, d5, d6⟩ := d
  unfold kindE
  rcases (show k = 1 ∨ k = 2 ∨ k = 3 ∨ k = 4 by omega) with rfl | rfl | rfl | rfl
  all_goals
    constructor
    · intro h
      subst h
      simp [d1, d2, d3, d4, d5, d6]
    · intro h
      repeat' split at h
      all_goals first | assumption | omega

set_option maxHeartbeats 1600000 in
set_option maxRecDepth 100000 in
theorem name_any (k : Int) (w : World) (hc : CN w) :
    Calls Tryd.prog 13 #[.int .i64 k] w fun e w' => e = .returned (.string ⟨(nmE k).toArray⟩) ∧ w' = w := by
  have is_any : ∀ w, Calls Tryd.prog 25 #[.int .i64 k] w fun e w' => e = .returned (.bool (decide (1 ≤ k) && decide (k ≤ 4))) ∧ w' = w := by
    intro w
    by_cases h1 : k = 1
    · subst h1; go_enter Tryd.func25, Tryd.ntmps25; go_wp2_with fail; go_ret; exact ⟨rfl, rfl⟩
    by_cases h2 : k = 2
    · subst h2; go_enter Tryd.func25, Tryd.ntmps25; go_wp2_with fail; go_ret; exact ⟨rfl, rfl⟩
    by_cases h3 : k = 3
    · subst h3; go_enter Tryd.func25, Tryd.ntmps25; go_wp2_with fail; go_ret; exact ⟨rfl, rfl⟩
    by_cases h4 : k = 4
    · subst h4; go_enter Tryd.func25, Tryd.ntmps25; go_wp2_with fail; go_ret; exact ⟨rfl, rfl⟩
    have e1 : (k == 1) = false := by simpa using h1
    have e2 : (k == 2) = false := by simpa using h2
    have e3 : (k == 3) = false := by simpa using h3
    have e4 : (k == 4) = false := by simpa using h4
    have HR := Lib.hid (show (decide (1 ≤ k) && decide (k ≤ 4)) = false by rw [Bool.and_eq_false_iff]; simp; omega)
    clear h1 h2 h3 h4
    go_enter Tryd.func25, Tryd.ntmps25
    go_wp2_with fail
    go_ret
    exact ⟨ret_bool HR.out.symm, rfl⟩
  by_cases hk : 1 ≤ k ∧ k ≤ 4
  · obtain ⟨n, rfl⟩ : ∃ n : Nat, k = n := ⟨k.toNat, by omega⟩
    have e0 := hc n (by omega) (by omega)
    have HN := Lib.hid (show nmE n = nm n by unfold nmE; rw [if_pos hk]; rfl)
    have hb : (decide (1 ≤ (n : Int)) && decide ((n : Int) ≤ 4)) = true := by simp; omega
    have HI := Lib.hid (hb ▸ is_any w)
    have hlt : (n : Int) < 5 := by omega
    have hlt2 : n < 5 := by omega
    clear is_any hb
    go_enter Tryd.func13, Tryd.ntmps13
    go_wp2_with fail
    refine HI.out.mono ?_
    rintro e w1 ⟨rfl, rfl⟩
    go_wp2_with fail
    go_ret
    exact ⟨ret_str HN.out.symm, rfl⟩
  · have HN := Lib.hid (show nmE k = [] by unfold nmE; rw [if_neg hk])
    have hb : (decide (1 ≤ k) && decide (k ≤ 4)) = false := by rw [Bool.and_eq_false_iff]; simp; omega
    have HI := Lib.hid (hb ▸ is_any w)
    clear is_any hb hk
    go_enter Tryd.func13, Tryd.ntmps13
    go_wp2_with fail
    refine HI.out.mono ?_
    rintro e w1 ⟨rfl, rfl⟩
    go_wp2_with fail
    go_ret
    exact ⟨ret_str HN.out.symm, rfl⟩

set_option maxHeartbeats 1600000 in
set_option maxRecDepth 100000 in
theorem rname_any (k : Int) (w : World) :
    Calls Tryd.prog 12 #[.int .i64 k] w fun e w' => e = .returned (.string ⟨(nmE k).toArray⟩) ∧ Below w.heap.size w w' := by
  by_cases hk : 1 ≤ k ∧ k ≤ 4
  · rcases (show k = 1 ∨ k = 2 ∨ k = 3 ∨ k = 4 by omega) with rfl | rfl | rfl | rfl
    all_goals
      go_enter Tryd.func12, Tryd.ntmps12
      go_wp2_with fail
      go_ret
      exact ⟨rfl, (Below.refl w.heap.size w).alloc (Nat.le_refl _) _⟩
  · have HN := Lib.hid (show nmE k = [] by unfold nmE; rw [if_neg hk])
    by_cases h1 : k < 1
    · have d1 : decide (k < 1) = true := by simpa using h1
      clear hk
      go_enter Tryd.func12, Tryd.ntmps12
      go_wp2_with fail
      go_ret
      exact ⟨ret_str HN.out.symm, (Below.refl w.heap.size w).alloc (Nat.le_refl _) _⟩
    · have d1 : decide (k < 1) = false := by simpa using h1
      have h2 : 4 < k := by omega
      have d2 : decide (4 < k) = true := by simpa using h2
      clear hk
      go_enter Tryd.func12, Tryd.ntmps12
      go_wp2_with fail
      go_ret
      exact ⟨ret_str HN.out.symm, (Below.refl w.heap.size w).alloc (Nat.le_refl _) _⟩

set_option maxHeartbeats 1600000 in
set_option maxRecDepth 100000 in
theorem kind_any (l : List UInt8) (w : World) (hc : CN w) :
    Calls Tryd.prog 14 #[.string ⟨l.toArray⟩] w fun e w' => e = .returned (.int .i64 (kindE l)) ∧ w' = w := by
  have HC := Lib.hid hc
  clear hc
  go_enter Tryd.func14, Tryd.ntmps14
  go_wp2_with fail
  go_loopw [3] (fun c wr => ∃ k : Nat, 1 ≤ k ∧ k ≤ 5 ∧ c = .int .i64 k ∧ wr = w ∧ (kindE l = 0 ∨ k ≤ kindE l))
    (fun c _ => 5 - (intOf c).toNat)
  case atStart => exact ⟨1, by omega, by omega, rfl, rfl, by omega⟩
  case round =>
    obtain ⟨k, h1, h5, rfl, rfl, hj⟩ := hrel
    have HJ := Lib.hid hj
    clear hj
    by_cases hlt : k ≤ 4
    · have HI := Lib.hid (kind_iff l k h1 hlt)
      have HN := Lib.hid (show nmE k = nm k by unfold nmE; rw [if_pos (by omega)]; rfl)
      have hlt2 : (k : Int) ≤ 4 := by omega
      go_wp2_with fail
      refine (name_any _ _ HC.out).mono ?_
      rintro e w1 ⟨rfl, rfl⟩
      rw [HN.out]
      by_cases he : nm k = l
      · have HE := Lib.hid (HI.out.1 he)
        rw [he]
        clear he
        go_wp2_with fail
        go_ret
        exact ⟨by rw [HE.out]; rfl, rfl⟩
      · have HE := Lib.hid (show ¬ kindE l = k from fun h => he (HI.out.2 h))
        generalize nm k = x at *
        have q1 : decide (x = l) = false := by simpa using he
        have q2 : (x == l) = false := by simpa using he
        go_wp2_with fail
        go_roundw
        case rel => exact ⟨k + 1, by omega, by omega, by go_num, by first | trivial | rfl, by have := HJ.out; have := HE.out; omega⟩
        case measure => simp [intOf]; omega
    · obtain rfl : k = 5 := by omega
      have HK := Lib.hid (show kindE l = 0 by have := kind_le l; have := HJ.out; omega)
      go_wp2_with fail
      go_ret
      exact ⟨by rw [HK.out]; rfl, rfl⟩

set_option maxHeartbeats 1600000 in
set_option maxRecDepth 100000 in
theorem awake42_any (w : World) (hc : CN w) : Calls Tryd.prog 10 #[] w fun e w' => e = .returned (.bool true) ∧ w' = w := by
  have HC := Lib.hid hc
  clear hc
  go_enter Tryd.func10, Tryd.ntmps10
  go_wp2_with fail
  refine (name_any _ _ HC.out).mono ?_
  rintro e w1 ⟨rfl, rfl⟩
  rw [show nmE 4 = [99, 111, 110, 115, 116] from rfl]
  go_wp2_with fail
  refine (kind_any [114, 101, 97, 99, 104] _ HC.out).mono ?_
  rintro e w1 ⟨rfl, rfl⟩
  rw [show kindE [114, 101, 97, 99, 104] = 2 from by decide]
  go_wp2_with fail
  go_ret
  exact ⟨rfl, rfl⟩

end Go.Proofs.YtannfkibahinhaaDoor
