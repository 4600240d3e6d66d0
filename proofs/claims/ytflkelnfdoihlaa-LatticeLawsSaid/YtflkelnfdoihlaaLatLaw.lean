/-
  soughlaw12.awake, few: contracts; what its laws ask of Below and check.
-/
import Derived.Test.YtflkelnfdoihlaaLat7
import Derived.Test.YtflkelnfdoihlaaWIn
namespace Go.Proofs.Ytflkelnfdoihlaa
open Go.RowKit

theorem bel_of_drewN {w w' : World} {n : Nat} (h : w' = w.drewN n) : Below w.heap.size w w' := by
  subst h
  exact bel_drewN (Below.refl _ _) n
theorem words_same (v1 v2 : Value) (xs ys : List Nat) (w : World) (h1 : Ws w v1 xs) (h2 : Ws w v2 ys) (hx : xs.length ≤ 100000) (e : xs = ys) :
    Calls Try.prog 13 #[v1, v2] w fun e w' => e = .returned (.bool true) ∧ ∃ n, w' = w.drewN n := by
  subst e
  exact (same_any v1 v2 xs xs w h1 h2 (by omega) (by omega)).mono fun _ _ ⟨he, hn⟩ => ⟨by rw [he]; simp, hn⟩
theorem Sets.three {w : World} {u v x : Value} {a b c : List Nat} (t : TypeId) (hu : Ws w u a) (hv : Ws w v b) (hx : Ws w x c) : Sets (w.alloc (.cells #[u, v, x] t)) (.slice (some ⟨w.heap.size, 0, none⟩) 3 3) [a, b, c] := by
  have hB : Below w.heap.size w (w.alloc (.cells #[u, v, x] t)) := (Below.refl _ _).alloc (Nat.le_refl _) _
  have h : Bk (w.alloc (.cells #[u, v, x] t)) w.heap.size t [u, v, x] := Bk.new _ _ _
  refine ⟨_, _, rfl, fun j hj => ?_⟩
  rcases j with _ | _ | _ | j
  · exact ⟨u, by rw [h.cell]; rfl, hu.below hB⟩
  · exact ⟨v, by rw [h.cell]; rfl, hv.below hB⟩
  · exact ⟨x, by rw [h.cell]; rfl, hx.below hB⟩
  · simp at hj; omega

/-- Below, as the program tells it. -/
def lb (what width : Int) (a b : List Nat) : Bool := decide (checkE what width [a, b] = 0) && belowE what a b
theorem lbelow_s (what width : Int) (v1 v2 : Value) (a b : List Nat) (w : World) (h1 : Ws w v1 a) (h2 : Ws w v2 b) (hn : a.length ≤ 100000) (hm : b.length ≤ 100000) :
    Calls Try.prog 27 #[.int .i64 what, .int .i64 width, v1, v2] w fun e w' => e = .returned (.bool (lb what width a b)) ∧ Below w.heap.size w w' := lbelow_any what width v1 v2 a b w h1 h2 hn hm
section
variable {what width : Int} {a b : List Nat}
theorem check_one (hL : isL what width = true) (va : valueE what width a = true) : checkE what width [a] = 0 := by
  unfold checkE; rw [if_pos hL, if_pos (by simp [va])]
theorem check_one_bad (hL : isL what width = true) (va : valueE what width a = false) : checkE what width [a] = 2 := by
  unfold checkE; rw [if_pos hL, if_neg (by simp [va])]
theorem check_both (hL : isL what width = true) (va : valueE what width a = true) (vb : valueE what width b = true) : checkE what width [a, b] = 0 := by
  unfold checkE; rw [if_pos hL, if_pos (by simp [va, vb])]
theorem check_two (hL : isL what width = true) (h : (valueE what width a && valueE what width b) = false) : checkE what width [a, b] = 2 := by
  unfold checkE; rw [if_pos hL, if_neg]
  simp only [List.all_cons, List.all_nil, Bool.and_true]
  rw [h]; decide
theorem check_none {ls : List (List Nat)} (hL : isL what width = false) : checkE what width ls = 10 := by
  unfold checkE; rw [hL, if_neg (by decide)]
theorem lb_none (hL : isL what width = false) : lb what width a b = false := by
  unfold lb checkE; rw [hL, if_neg (by decide)]; rfl
theorem lb_bad (hL : isL what width = true) (h : (valueE what width a && valueE what width b) = false) : lb what width a b = false := by
  unfold lb; rw [check_two hL h]; rfl
theorem lb_good (hL : isL what width = true) (va : valueE what width a = true) (vb : valueE what width b = true) : lb what width a b = belowE what a b := by
  unfold lb; rw [check_both hL va vb]; rfl
theorem lb_true (va : valueE what width a = true) (vb : valueE what width b = true) (h : belowE what a b = true) : lb what width a b = true := by
  rw [lb_good (value_is va) va vb, h]
theorem lb_below (h : lb what width a b = true) : belowE what a b = true := by
  unfold lb at h; rw [Bool.and_eq_true] at h; exact h.2
end

/-- Whether values are short enough to look at. -/
def fewE (width : Int) (ls : List (List Nat)) : Bool := ls.all (fun a => decide (a.length ≤ 70)) && (decide (width ≤ 70) || decide (1024 < width))
theorem few_iff {width : Int} {ls : List (List Nat)} (h : fewE width ls = true) : (∀ a ∈ ls, a.length ≤ 70) ∧ (width ≤ 70 ∨ 1024 < width) := by
  unfold fewE at h
  rw [Bool.and_eq_true, List.all_eq_true, Bool.or_eq_true, decide_eq_true_eq, decide_eq_true_eq] at h
  exact ⟨fun a ha => of_decide_eq_true (h.1 a ha), h.2⟩

set_option maxHeartbeats 3200000 in
set_option maxRecDepth 100000 in
theorem lfew_any (width : Int) (v : Value) (ls : List (List Nat)) (w : World) (hw : Sets w v ls) (hx : ∀ a ∈ ls, a.length ≤ 9223372036854775807) (hn : ls.length ≤ 1000) :
    Calls Try.prog 10 #[.int .i64 width, v] w fun e w' => e = .returned (.bool (fewE width ls)) ∧ w' = w := by
  obtain ⟨b, c, rfl, hc⟩ := hw
  have HX := Lib.hid hx
  have HC := Lib.hid hc
  have H1 := Lib.hid (show (∀ j, j < ls.length → (lsAt ls j).length ≤ 70) → fewE width ls = (decide (width ≤ 70) || decide (1024 < width)) from fun h => by
    unfold fewE
    rw [List.all_eq_true.2, Bool.true_and]
    intro z hz
    obtain ⟨i, hi, rfl⟩ := List.getElem_of_mem hz
    have := h i hi
    unfold lsAt at this
    rw [List.getElem?_eq_getElem hi] at this
    exact decide_eq_true this)
  have H0 := Lib.hid (show ∀ j, j < ls.length → 70 < (lsAt ls j).length → fewE width ls = false from fun j hj h => by
    unfold fewE
    rw [Bool.and_eq_false_iff]
    refine .inl (Bool.eq_false_iff.2 fun h2 => ?_)
    rw [List.all_eq_true] at h2
    have := of_decide_eq_true (h2 _ (List.getElem_mem hj))
    unfold lsAt at h
    rw [List.getElem?_eq_getElem hj] at h
    have h : 70 < ls[j].length := h
    omega)
  clear hc hx
  go_enter Try.func10, Try.ntmps10
  go_wp2_with fail
  go_loopw [9] (fun i wr => ∃ k : Nat, k ≤ ls.length ∧ i = .int .i64 k ∧ Hid (∀ i, i < k → (lsAt ls i).length ≤ 70) ∧ wr = w)
    (fun i _ => ls.length - (intOf i).toNat)
  case atStart => exact ⟨0, Nat.zero_le _, rfl, Lib.hid (fun i h => by omega), rfl⟩
  case round =>
    obtain ⟨k, hk, rfl, HA, rfl⟩ := hrel
    by_cases hlt : k < ls.length
    · obtain ⟨u, hu, hW⟩ := HC.out k hlt
      have HXk := Lib.hid (show (lsAt ls k).length ≤ 9223372036854775807 by
        have := HX.out _ (List.getElem_mem hlt)
        unfold lsAt; rw [List.getElem?_eq_getElem hlt]; exact this)
      have H0k := Lib.hid (H0.out k hlt)
      have HS := Lib.hid (show (lsAt ls k).length ≤ 70 → ∀ i, i < k + 1 → (lsAt ls i).length ≤ 70 from fun e i hi => by
        rcases (show i < k ∨ i = k by omega) with h | rfl
        · exact HA.out i h
        · exact e)
      obtain ⟨p3, c3, rfl⟩ := ws_len hW
      have hxk := HXk.out
      clear hW
      generalize lsAt ls k = a at *
      by_cases h70 : a.length ≤ 70
      · have HS2 := Lib.hid (HS.out h70)
        go_wp2_with fail
        go_roundw
        case rel => exact ⟨k + 1, by omega, by go_num, HS2, trivial⟩
        case measure => simp [intOf]; omega
      · have HV := Lib.hid (H0k.out (by omega))
        have h71 : 70 < a.length := by omega
        clear h70
        go_wp2_with fail
        go_ret
        exact ⟨ret_bool HV.out.symm, rfl⟩
    · obtain rfl : k = ls.length := by omega
      have HV := Lib.hid (H1.out HA.out)
      by_cases h7 : width ≤ 70
      · have HV2 := Lib.hid (show fewE width ls = true by rw [HV.out, decide_eq_true h7]; rfl)
        go_wp2_with fail
        go_ret
        exact ⟨ret_bool HV2.out.symm, rfl⟩
      · have h8 : 70 < width := by omega
        clear h7
        go_wp2_with fail
        go_ret
        exact ⟨ret_bool HV.out.symm, rfl⟩

theorem aw_top : topE 1 3 = [7] := by decide +kernel
theorem aw_height : heightE 3 3 = 6 := by decide +kernel

set_option maxHeartbeats 1600000 in
set_option maxRecDepth 100000 in
theorem lawake_any (w : World) :
    Calls Try.prog 9 #[] w fun e w' => e = .returned (.bool true) ∧ Below w.heap.size w w' := by
  go_enter Try.func9, Try.ntmps9
  go_wp2_with fail
  refine (lheight_any 3 3 _).mono ?_
  rintro e w1 ⟨rfl, hww⟩
  subst w1
  rw [aw_height]
  go_wp2_with fail
  refine (top_any 1 3 _).mono ?_
  rintro e w1 ⟨u, rfl, hW, hB⟩
  rw [aw_top] at hW
  have HB := Lib.hid hB
  obtain ⟨p, c, rfl⟩ := ws_len hW
  clear hW hB
  go_wp2_with fail
  refine (top_any 1 3 _).mono ?_
  rintro e w2 ⟨u, rfl, hW, hB⟩
  rw [aw_top] at hW
  have HB2 := Lib.hid (HB.out.trans (hB.mono HB.out.size))
  obtain ⟨p2, c2, rfl, q⟩ := ws_row hW
  obtain ⟨ad, rfl, r⟩ := q (by decide)
  have hcell : w2.cell? ad = some (.int .u64 7) := by
    have h := r 0 (by decide)
    rw [show ad.add 0 = ad by cases ad with | mk b o s => cases s <;> rfl] at h
    exact h
  clear hW hB q r
  go_wp2_with fail
  go_ret
  exact ⟨ret_bool (by first | rfl | simp), HB2.out⟩

end Go.Proofs.Ytflkelnfdoihlaa
