/-
  lattice.Is, check, Join, Below, Rank: contracts.
-/
import Derived.Test.YtflkelnfdoihlaaLat2
import Derived.Deep.RegionHeld3
namespace Go.Proofs.Ytflkelnfdoihlaa
open Go.RowKit

theorem souN_is (x : Nat) : (isn (x : Int) || decide ((x : Int) = 0 ∨ (x : Int) = 1)) = souN x := by
  unfold souN sou
  by_cases h : isn (x : Int) = true
  · rw [h, if_pos rfl]; simp
  · rw [if_neg h, Bool.eq_false_iff.2 h, Bool.false_or]
    rw [Bool.eq_iff_iff, decide_eq_true_eq, beq_iff_eq]
    split <;> omega
theorem all_at {p : Nat → Bool} {a : List Nat} (h : ∀ i, i < a.length → p (wAt a i) = true) : a.all p = true := by
  rw [List.all_eq_true]
  intro z hz
  obtain ⟨i, hi, rfl⟩ := List.getElem_of_mem hz
  have := h i hi
  unfold wAt at this
  rwa [List.getElem?_eq_getElem hi] at this
theorem all_not {p : Nat → Bool} {a : List Nat} {i : Nat} (hi : i < a.length) (h : p (wAt a i) = false) : a.all p = false := by
  rw [Bool.eq_false_iff]
  intro h2
  rw [List.all_eq_true] at h2
  have := h2 _ (List.getElem_mem hi)
  unfold wAt at h
  rw [List.getElem?_eq_getElem hi] at h
  rw [show (some a[i]).getD 0 = a[i] from rfl] at h
  rw [h] at this; cases this

set_option maxHeartbeats 3200000 in
set_option maxRecDepth 100000 in
theorem lval_any (what width : Int) (v : Value) (a : List Nat) (w : World) (hw : Ws w v a) (hx : a.length ≤ 100000) :
    Calls Try.prog 18 #[.int .i64 what, .int .i64 width, v] w fun e w' => e = .returned (.bool (valueE what width a)) ∧ Below w.heap.size w w' := by
  have hn := wordsN_le what width
  have HZ := Lib.hid hw.1
  have HW := Lib.hid hw
  obtain ⟨p, c, rfl, hc⟩ := ws_row hw
  have HC := Lib.hid hc
  have B0 := Lib.hid (Below.refl w.heap.size w)
  clear hw hc
  go_enter Try.func18, Try.ntmps18
  go_wp2_with fail
  refine (lis_any _ _ _).mono ?_
  rintro e w1 ⟨rfl, hww⟩
  subst w1
  cases hL : isL what width with
  | false =>
    have H := Lib.hid (show valueE what width a = false by unfold valueE; rw [hL]; rfl)
    clear hL
    go_wp2_with fail
    go_ret
    exact ⟨ret_bool H.out.symm, B0.out⟩
  | true =>
    have HL := Lib.hid hL
    clear hL
    go_wp2_with fail
    refine (lwords_any _ _ _).mono ?_
    rintro e w1 ⟨rfl, hww⟩
    subst w1
    by_cases hl : a.length = wordsN what width
    · have hb : ((a.length : Int) != ((wordsN what width : Nat) : Int)) = false := by simp; omega
      have Hl := Lib.hid hl
      clear hl
      by_cases h3 : what = 3
      · subst h3
        have H1 := Lib.hid (show (∀ i, i < a.length → souN (wAt a i) = true) → valueE 3 width a = true from fun h => by
          unfold valueE; rw [HL.out, decide_eq_true Hl.out, if_pos rfl, all_at h]; rfl)
        have H0 := Lib.hid (show ∀ i, i < a.length → souN (wAt a i) = false → valueE 3 width a = false from fun i hi h => by
          unfold valueE; rw [if_pos rfl, all_not hi h]; simp)
        go_wp2_with fail
        go_loopw [28] (fun i wr => ∃ k : Nat, k ≤ a.length ∧ i = .int .i64 k ∧ Hid (∀ i, i < k → souN (wAt a i) = true) ∧ Below w.heap.size w wr)
          (fun i _ => a.length - (intOf i).toNat)
        case atStart => exact ⟨0, Nat.zero_le _, rfl, Lib.hid (fun i h => by omega), B0.out⟩
        case round =>
          obtain ⟨k, hk, rfl, HA, hB⟩ := hrel
          have HB := Lib.hid hB
          clear hB
          by_cases hlt : k < a.length
          · obtain ⟨ad, rfl, q⟩ := HC.out (by omega)
            have hck := keepc (q k hlt) HB.out
            rw [show a[k]?.getD 0 = wAt a k from rfl] at hck
            have H0k := Lib.hid (H0.out k hlt)
            have HS := Lib.hid (show souN (wAt a k) = true → ∀ i, i < k + 1 → souN (wAt a i) = true from fun e i hi => by
              rcases (show i < k ∨ i = k by omega) with h | rfl
              · exact HA.out i h
              · exact e)
            have hz := wAt_lt HZ.out k
            clear q
            generalize wAt a k = z at *
            go_wp2_with fail
            refine (is_any z _ (by omega)).mono ?_
            rintro e w2 ⟨rfl, hB2⟩
            have HB2 := Lib.hid (HB.out.trans (hB2.mono HB.out.size))
            clear hB2
            rw [souN_is]
            cases hs : souN z with
            | true =>
              have HS2 := Lib.hid (HS.out hs)
              clear hs
              go_wp2_with fail
              go_roundw
              case rel => exact ⟨k + 1, by omega, by go_num, HS2, HB2.out⟩
              case measure => simp [intOf]; omega
            | false =>
              have HV := Lib.hid (H0k.out hs)
              clear hs
              go_wp2_with fail
              go_ret
              exact ⟨ret_bool HV.out.symm, HB2.out⟩
          · obtain rfl : k = a.length := by omega
            have HV := Lib.hid (H1.out HA.out)
            go_wp2_with fail
            go_ret
            exact ⟨ret_bool HV.out.symm, HB.out⟩
      · have hne : (what != 3) = true := by simp; omega
        have HV := Lib.hid (show valueE what width a = fitsE a width by
          unfold valueE; rw [HL.out, decide_eq_true Hl.out, if_neg h3]; rfl)
        have hl16 : a.length ≤ 1000 := by
          have h1 := Hl.out
          have h2 : wordsN what width = sizeE width := by unfold wordsN; rw [if_pos HL.out, if_neg h3]
          have := sizeE_le width
          omega
        clear h3
        go_wp2_with fail
        refine (fits_any _ _ _ _ HW.out hl16).mono ?_
        rintro e w2 ⟨rfl, hB2⟩
        have HB2 := Lib.hid hB2
        clear hB2
        rw [← HV.out]
        go_wp2_with fail
        go_ret
        exact ⟨rfl, HB2.out⟩
    · have hb : ((a.length : Int) != ((wordsN what width : Nat) : Int)) = true := by simp; omega
      have HV := Lib.hid (show valueE what width a = false by unfold valueE; rw [decide_eq_false hl]; simp)
      clear hl
      go_wp2_with fail
      go_ret
      exact ⟨ret_bool HV.out.symm, B0.out⟩

/-! ### Lists of values -/
def lsAt (ls : List (List Nat)) (j : Nat) : List Nat := ls[j]?.getD []
/-- A slice of slices of words that reads as these lists. -/
def Sets (w : World) (v : Value) (ls : List (List Nat)) : Prop :=
  ∃ b c, v = .slice (some ⟨b, 0, none⟩) ls.length c ∧ ∀ j, j < ls.length → ∃ u, w.cell? ⟨b, j, none⟩ = some u ∧ Ws w u (lsAt ls j)
theorem Sets.below {w w' : World} {v : Value} {ls : List (List Nat)} (h : Sets w v ls) (k : Below w.heap.size w w') : Sets w' v ls := by
  obtain ⟨b, c, rfl, hc⟩ := h
  refine ⟨b, c, rfl, fun j hj => ?_⟩
  obtain ⟨u, h1, h2⟩ := hc j hj
  exact ⟨u, keepc h1 k, h2.below k⟩
theorem Sets.two {w : World} {u v : Value} {a b : List Nat} (t : TypeId) (hu : Ws w u a) (hv : Ws w v b) : Sets (w.alloc (.cells #[u, v] t)) (.slice (some ⟨w.heap.size, 0, none⟩) 2 2) [a, b] := by
  have hB : Below w.heap.size w (w.alloc (.cells #[u, v] t)) := (Below.refl _ _).alloc (Nat.le_refl _) _
  have h : Bk (w.alloc (.cells #[u, v] t)) w.heap.size t [u, v] := Bk.new _ _ _
  refine ⟨_, _, rfl, fun j hj => ?_⟩
  rcases j with _ | _ | j
  · exact ⟨u, by rw [h.cell]; rfl, hu.below hB⟩
  · exact ⟨v, by rw [h.cell]; rfl, hv.below hB⟩
  · simp at hj; omega
theorem Sets.one {w : World} {u : Value} {a : List Nat} (t : TypeId) (hu : Ws w u a) : Sets (w.alloc (.cells #[u] t)) (.slice (some ⟨w.heap.size, 0, none⟩) 1 1) [a] := by
  have hB : Below w.heap.size w (w.alloc (.cells #[u] t)) := (Below.refl _ _).alloc (Nat.le_refl _) _
  have h : Bk (w.alloc (.cells #[u] t)) w.heap.size t [u] := Bk.new _ _ _
  refine ⟨_, _, rfl, fun j hj => ?_⟩
  rcases j with _ | j
  · exact ⟨u, by rw [h.cell]; rfl, hu.below hB⟩
  · simp at hj
def checkE (what width : Int) (ls : List (List Nat)) : Int := if isL what width = true then (if ls.all (valueE what width) = true then 0 else 2) else 10

set_option maxHeartbeats 3200000 in
set_option maxRecDepth 100000 in
theorem check_any (what width : Int) (v : Value) (ls : List (List Nat)) (w : World) (hw : Sets w v ls) (hx : ∀ a ∈ ls, a.length ≤ 100000) (hn : ls.length ≤ 1000) :
    Calls Try.prog 52 #[.int .i64 what, .int .i64 width, v] w fun e w' => e = .returned (.int .i64 (checkE what width ls)) ∧ Below w.heap.size w w' := by
  obtain ⟨b, c, rfl, hc⟩ := hw
  have HX := Lib.hid hx
  have HC := Lib.hid hc
  have B0 := Lib.hid (Below.refl w.heap.size w)
  clear hc hx
  go_enter Try.func52, Try.ntmps52
  go_wp2_with fail
  refine (lis_any _ _ _).mono ?_
  rintro e w1 ⟨rfl, hww⟩
  subst w1
  cases hL : isL what width with
  | false =>
    have H := Lib.hid (show checkE what width ls = 10 by unfold checkE; rw [hL, if_neg (by decide)])
    clear hL
    go_wp2_with fail
    go_ret
    exact ⟨ret_int H.out.symm, B0.out⟩
  | true =>
    have H1 := Lib.hid (show (∀ j, j < ls.length → valueE what width (lsAt ls j) = true) → checkE what width ls = 0 from fun h => by
      unfold checkE; rw [hL, if_pos rfl, if_pos]
      rw [List.all_eq_true]
      intro z hz
      obtain ⟨i, hi, rfl⟩ := List.getElem_of_mem hz
      have := h i hi
      unfold lsAt at this
      rwa [List.getElem?_eq_getElem hi] at this)
    have H0 := Lib.hid (show ∀ j, j < ls.length → valueE what width (lsAt ls j) = false → checkE what width ls = 2 from fun j hj h => by
      unfold checkE; rw [hL, if_pos rfl, if_neg]
      rw [List.all_eq_true]
      intro h2
      have := h2 _ (List.getElem_mem hj)
      unfold lsAt at h
      rw [List.getElem?_eq_getElem hj] at h
      rw [show (some ls[j]).getD [] = ls[j] from rfl] at h
      rw [h] at this; cases this)
    clear hL
    go_wp2_with fail
    go_loopw [15] (fun i wr => ∃ k : Nat, k ≤ ls.length ∧ i = .int .i64 k ∧ Hid (∀ i, i < k → valueE what width (lsAt ls i) = true) ∧ Below w.heap.size w wr)
      (fun i _ => ls.length - (intOf i).toNat)
    case atStart => exact ⟨0, Nat.zero_le _, rfl, Lib.hid (fun i h => by omega), B0.out⟩
    case round =>
      obtain ⟨k, hk, rfl, HA, hB⟩ := hrel
      have HB := Lib.hid hB
      clear hB
      by_cases hlt : k < ls.length
      · obtain ⟨u, hu, hW⟩ := HC.out k hlt
        have hck := keepc hu HB.out
        have HW := Lib.hid (hW.below HB.out)
        have HXk := Lib.hid (show (lsAt ls k).length ≤ 100000 by
          have := HX.out _ (List.getElem_mem hlt)
          unfold lsAt; rw [List.getElem?_eq_getElem hlt]; exact this)
        have H0k := Lib.hid (H0.out k hlt)
        have HS := Lib.hid (show valueE what width (lsAt ls k) = true → ∀ i, i < k + 1 → valueE what width (lsAt ls i) = true from fun e i hi => by
          rcases (show i < k ∨ i = k by omega) with h | rfl
          · exact HA.out i h
          · exact e)
        obtain ⟨p3, c3, rfl⟩ := ws_len hW
        clear hu hW
        generalize lsAt ls k = a at *
        go_wp2_with fail
        refine (lval_any _ _ _ a _ HW.out HXk.out).mono ?_
        rintro e w2 ⟨rfl, hB2⟩
        have HB2 := Lib.hid (HB.out.trans (hB2.mono HB.out.size))
        clear hB2
        cases hs : valueE what width a with
        | true =>
          have HS2 := Lib.hid (HS.out hs)
          clear hs
          go_wp2_with fail
          go_roundw
          case rel => exact ⟨k + 1, by omega, by go_num, HS2, HB2.out⟩
          case measure => simp [intOf]; omega
        | false =>
          have HV := Lib.hid (H0k.out hs)
          clear hs
          go_wp2_with fail
          go_ret
          exact ⟨ret_int HV.out.symm, HB2.out⟩
      · obtain rfl : k = ls.length := by omega
        have HV := Lib.hid (H1.out HA.out)
        go_wp2_with fail
        go_ret
        exact ⟨ret_int HV.out.symm, HB.out⟩

end Go.Proofs.Ytflkelnfdoihlaa
