/-
  Slices of strings as lists; soughref04.Texts, slices.Equal at strings: contracts.
-/
import Derived.Test.YtannfkibahinhaaDoorBlk
namespace Go.Proofs.YtannfkibahinhaaDoor
open Go.RowKit

def strAt (xs : List (List UInt8)) (j : Nat) : List UInt8 := xs[j]?.getD []
/-- A slice reads as a list of strings. -/
def Strs (w : World) (v : Value) (xs : List (List UInt8)) : Prop :=
  ∃ o c, v = .slice o xs.length c ∧ xs.length ≤ c ∧ (0 < xs.length → ∃ b off, o = some ⟨b, off, none⟩ ∧ ∀ j, j < xs.length → w.cell? ⟨b, off + j, none⟩ = some (.string ⟨(strAt xs j).toArray⟩))
theorem Strs.drewN {w : World} {v : Value} {xs : List (List UInt8)} (h : Strs w v xs) (n : Nat) : Strs (w.drewN n) v xs := h
theorem Strs.below {w w' : World} {v : Value} {xs : List (List UInt8)} (h : Strs w v xs) (hB : Below w.heap.size w w') : Strs w' v xs := by
  obtain ⟨o, c, rfl, hle, hc⟩ := h
  refine ⟨o, c, rfl, hle, fun h0 => ?_⟩
  obtain ⟨b, f, rfl, hd⟩ := hc h0
  exact ⟨b, f, rfl, fun j hj => keepc (hd j hj) hB⟩
theorem strs_ne {xs ys : List (List UInt8)} {k : Nat} (h : ¬ strAt xs k = strAt ys k) : decide (xs = ys) = false := by
  simp; rintro rfl; exact h rfl
theorem strs_eq {xs ys : List (List UInt8)} (hl : xs.length = ys.length) (h : ∀ j, j < xs.length → strAt xs j = strAt ys j) : decide (xs = ys) = true := by
  simp
  refine List.ext_getElem hl fun j h1 h2 => ?_
  have := h j h1
  unfold strAt at this
  rw [List.getElem?_eq_getElem h1, List.getElem?_eq_getElem h2] at this
  exact this

set_option maxHeartbeats 1600000 in
set_option maxRecDepth 100000 in
theorem texts_any (v1 v2 : Value) (xs ys : List (List UInt8)) (w : World) (h1 : Strs w v1 xs) (h2 : Strs w v2 ys) (hx : xs.length ≤ 9223372036854775807) (hy : ys.length ≤ 9223372036854775807) :
    Calls Tryd.prog 29 #[v1, v2] w fun e w' => e = .returned (.bool (decide (xs = ys))) ∧ ∃ n, w' = w.drewN n := by
  obtain ⟨o1, c1, rfl, _, hc1⟩ := h1
  obtain ⟨o2, c2, rfl, _, hc2⟩ := h2
  have H1 := Lib.hid hc1
  have H2 := Lib.hid hc2
  clear hc1 hc2
  go_enter Tryd.func29, Tryd.ntmps29
  by_cases hl : xs.length = ys.length
  · have d1 : ((xs.length : Int) == (ys.length : Int)) = true := by simp; omega
    have HL := Lib.hid hl
    clear hl
    go_wp2_with fail
    go_loopw [13] (fun i wr => ∃ k nq : Nat, k ≤ xs.length ∧ i = .int .i64 k ∧ wr = w.drewN nq ∧ ∀ j, j < k → strAt xs j = strAt ys j)
      (fun i _ => xs.length - (intOf i).toNat)
    case atStart => exact ⟨0, 0, Nat.zero_le _, rfl, rfl, fun j hj => by omega⟩
    case round =>
      obtain ⟨k, nq, hk, rfl, rfl, hj⟩ := hrel
      have HJ := Lib.hid hj
      clear hj
      by_cases hlt : k < xs.length
      · have hlt2 : k < ys.length := by have := HL.out; omega
        obtain ⟨b1, f1, rfl, hd1⟩ := H1.out (by omega)
        obtain ⟨b2, f2, rfl, hd2⟩ := H2.out (by omega)
        have e1 := hd1 k hlt
        have e2 := hd2 k hlt2
        clear hd1 hd2
        by_cases he : strAt xs k = strAt ys k
        · have HE := Lib.hid he
          rw [← he] at e2
          generalize strAt xs k = x at e1 e2
          clear he
          go_wp2_with fail
          go_quiet (fail)
          go_wp2_with fail
          go_roundw
          case rel =>
            refine ⟨k + 1, _, by omega, by go_num, rfl, fun j hj => ?_⟩
            rcases Nat.lt_or_ge j k with h | h
            · exact HJ.out j h
            · obtain rfl : j = k := by omega
              exact HE.out
          case measure => simp [intOf]; omega
        · have HN := Lib.hid (strs_ne he)
          obtain ⟨x, hgx⟩ : ∃ x, x = strAt xs k := ⟨_, rfl⟩
          obtain ⟨y, hgy⟩ : ∃ y, y = strAt ys k := ⟨_, rfl⟩
          rw [← hgx] at e1 he
          rw [← hgy] at e2 he
          clear hgx hgy
          have q1 : decide (x = y) = false := by simpa using he
          have q2 : (x == y) = false := by simpa using he
          go_wp2_with fail
          go_quiet (fail)
          go_wp2_with fail
          go_ret
          exact ⟨ret_bool HN.out.symm, _, World.drewN_drewN ..⟩
      · obtain rfl : k = xs.length := by omega
        go_wp2_with fail
        go_ret
        exact ⟨ret_bool (strs_eq HL.out HJ.out).symm, _, rfl⟩
  · have d1 : ((xs.length : Int) == (ys.length : Int)) = false := by simp; omega
    have HN := Lib.hid (show decide (xs = ys) = false by simp; rintro rfl; exact hl rfl)
    clear hl
    go_wp2_with fail
    go_ret
    exact ⟨ret_bool HN.out.symm, 0, rfl⟩
set_option maxHeartbeats 1600000 in
set_option maxRecDepth 100000 in
theorem equals_any (v1 v2 : Value) (xs ys : List (List UInt8)) (w : World) (h1 : Strs w v1 xs) (h2 : Strs w v2 ys) (hx : xs.length ≤ 9223372036854775807) (hy : ys.length ≤ 9223372036854775807) :
    Calls Tryd.prog 28 #[v1, v2] w fun e w' => e = .returned (.bool (decide (xs = ys))) ∧ ∃ n, w' = w.drewN n := by
  obtain ⟨o1, c1, rfl, _, hc1⟩ := h1
  obtain ⟨o2, c2, rfl, _, hc2⟩ := h2
  have H1 := Lib.hid hc1
  have H2 := Lib.hid hc2
  clear hc1 hc2
  go_enter Tryd.func28, Tryd.ntmps28
  by_cases hl : xs.length = ys.length
  · have d1 : ((xs.length : Int) == (ys.length : Int)) = true := by simp; omega
    have HL := Lib.hid hl
    clear hl
    go_wp2_with fail
    go_loopw [13] (fun i wr => ∃ k nq : Nat, k ≤ xs.length ∧ i = .int .i64 k ∧ wr = w.drewN nq ∧ ∀ j, j < k → strAt xs j = strAt ys j)
      (fun i _ => xs.length - (intOf i).toNat)
    case atStart => exact ⟨0, 0, Nat.zero_le _, rfl, rfl, fun j hj => by omega⟩
    case round =>
      obtain ⟨k, nq, hk, rfl, rfl, hj⟩ := hrel
      have HJ := Lib.hid hj
      clear hj
      by_cases hlt : k < xs.length
      · have hlt2 : k < ys.length := by have := HL.out; omega
        obtain ⟨b1, f1, rfl, hd1⟩ := H1.out (by omega)
        obtain ⟨b2, f2, rfl, hd2⟩ := H2.out (by omega)
        have e1 := hd1 k hlt
        have e2 := hd2 k hlt2
        clear hd1 hd2
        by_cases he : strAt xs k = strAt ys k
        · have HE := Lib.hid he
          rw [← he] at e2
          generalize strAt xs k = x at e1 e2
          clear he
          go_wp2_with fail
          go_quiet (fail)
          go_wp2_with fail
          go_roundw
          case rel =>
            refine ⟨k + 1, _, by omega, by go_num, rfl, fun j hj => ?_⟩
            rcases Nat.lt_or_ge j k with h | h
            · exact HJ.out j h
            · obtain rfl : j = k := by omega
              exact HE.out
          case measure => simp [intOf]; omega
        · have HN := Lib.hid (strs_ne he)
          obtain ⟨x, hgx⟩ : ∃ x, x = strAt xs k := ⟨_, rfl⟩
          obtain ⟨y, hgy⟩ : ∃ y, y = strAt ys k := ⟨_, rfl⟩
          rw [← hgx] at e1 he
          rw [← hgy] at e2 he
          clear hgx hgy
          have q1 : decide (x = y) = false := by simpa using he
          have q2 : (x == y) = false := by simpa using he
          go_wp2_with fail
          go_quiet (fail)
          go_wp2_with fail
          go_ret
          exact ⟨ret_bool HN.out.symm, _, World.drewN_drewN ..⟩
      · obtain rfl : k = xs.length := by omega
        go_wp2_with fail
        go_ret
        exact ⟨ret_bool (strs_eq HL.out HJ.out).symm, _, rfl⟩
  · have d1 : ((xs.length : Int) == (ys.length : Int)) = false := by simp; omega
    have HN := Lib.hid (show decide (xs = ys) = false by simp; rintro rfl; exact hl rfl)
    clear hl
    go_wp2_with fail
    go_ret
    exact ⟨ret_bool HN.out.symm, 0, rfl⟩

end Go.Proofs.YtannfkibahinhaaDoor
