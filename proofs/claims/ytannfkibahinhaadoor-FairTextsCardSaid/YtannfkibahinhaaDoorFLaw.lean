/-
  soughlaw26.FairTexts: the walk; a script that came in, its numbers ints.
-/
import Derived.Test.YtannfkibahinhaaDoorFText
namespace Go.Proofs.YtannfkibahinhaaDoor
open Go.RowKit

theorem textS_len (L : List (Int × Int)) (h : I64s L) : (textS L).length ≤ 44 * L.length := textK_len L h L.length

set_option maxHeartbeats 6400000 in
set_option maxRecDepth 100000 in
theorem fairTexts_walk (v : Value) (L : List (Int × Int)) (s : List UInt8) (W : World) (hP : Picks W v L) (hI : I64s L) (ht : Tab W) (he : Errs W) :
    Calls Tryd.prog 3 #[v, .string ⟨s.toArray⟩] W fun e w' => e = .returned (.bool true) ∧ Below W.heap.size W w' := by
  have Ht := Lib.hid ht
  have He := Lib.hid he
  have HP := Lib.hid hP
  have HI := Lib.hid hI
  obtain ⟨o, c, rfl, _, _⟩ := hP
  clear ht he hI
  by_cases h1 : 40 < L.length
  · have d1 : decide ((40 : Int) < L.length) = true := by simp; omega
    have d2 : 40 < L.length := h1
    go_enter Tryd.func3, Tryd.ntmps3
    go_wp2_with fail
    refine (awake26_any _ Ht.out).mono ?_
    rintro e w1 ⟨rfl, hB⟩
    have HB := Lib.hid hB
    go_wp2_with fail
    go_ret
    exact ⟨rfl, HB.out⟩
  have d1 : decide ((40 : Int) < L.length) = false := by simp; omega
  by_cases h2 : 400 < s.length
  · have d2 : decide ((400 : Int) < s.length) = true := by simp; omega
    go_enter Tryd.func3, Tryd.ntmps3
    go_wp2_with fail
    refine (awake26_any _ Ht.out).mono ?_
    rintro e w1 ⟨rfl, hB⟩
    have HB := Lib.hid hB
    go_wp2_with fail
    go_ret
    exact ⟨rfl, HB.out⟩
  have d2 : decide ((400 : Int) < s.length) = false := by simp; omega
  go_enter Tryd.func3, Tryd.ntmps3
  go_wp2_with fail
  refine (awake26_any _ Ht.out).mono ?_
  rintro e w1 ⟨rfl, hB⟩
  have HB1 := Lib.hid hB
  clear hB
  go_wp2_with fail
  refine (ftext_any _ L _ (HP.out.below HB1.out) (by omega) HI.out (Ht.out.below HB1.out)).mono ?_
  rintro e w2 ⟨rfl, hB⟩
  have HB2 := Lib.hid (bel_then HB1.out hB)
  clear hB
  have htl := textS_len L HI.out
  obtain ⟨t, hte⟩ : ∃ t, t = textS L := ⟨_, rfl⟩
  have HT := Lib.hid hte
  rw [show textK L L.length = t from hte.symm]
  rw [← hte] at htl
  clear hte
  go_wp2_with fail
  refine (parse_any t _ (by omega) (Ht.out.below HB2.out) (He.out.below HB2.out)).mono ?_
  rintro e w3 ⟨hp, hB⟩
  have HB3 := Lib.hid (bel_then HB2.out hB)
  clear hB
  rcases hp with ⟨v3, L3, rfl, hP3, _, _, hT3, hU3⟩ | ⟨_, _, hno⟩
  case inr => exact absurd HT.out.symm (hno L HI.out)
  obtain rfl := hU3 L HI.out HT.out.symm
  have HP3 := Lib.hid hP3
  clear hP3 hT3 hU3
  go_wp2_with fail
  refine (parse_any s _ (by omega) (Ht.out.below HB3.out) (He.out.below HB3.out)).mono ?_
  rintro e w4 ⟨hp, hB⟩
  have HB4 := Lib.hid (bel_then HB3.out hB)
  have HP4 := Lib.hid (HP3.out.below hB)
  clear hB
  have HPW := Lib.hid (HP.out.below HB4.out)
  rcases hp with ⟨v5, L5, rfl, hP5, hI5, hl5, hT5, _⟩ | ⟨rfl, hne, _⟩
  · have HP5 := Lib.hid hP5
    have HI5 := Lib.hid hI5
    have HT5 := Lib.hid hT5
    clear hP5 hI5 hT5
    go_wp2_with fail
    refine (rtext6_any _ L w4 HPW.out (by omega) HI.out).mono ?_
    rintro e w5 ⟨rfl, hB⟩
    have HB5 := Lib.hid (bel_then HB4.out hB)
    have HP6 := Lib.hid (HP5.out.below hB)
    have HP7 := Lib.hid (HP4.out.below hB)
    have HP8 := Lib.hid (HPW.out.below hB)
    rw [← HT.out]
    clear hB
    go_wp2_with fail
    refine (psame_any _ _ L w5 HP7.out HP8.out (by omega)).mono ?_
    rintro e w6 ⟨rfl, nq, rfl⟩
    go_wp2_with fail
    refine (ftext_any _ L5 _ (HP6.out.drewN nq) (by omega) HI5.out (Ht.out.below (bel_drewN HB5.out nq))).mono ?_
    rintro e w7 ⟨rfl, hB⟩
    have HB7 := Lib.hid (bel_then (bel_drewN HB5.out nq) hB)
    rw [show textK L5 L5.length = s from HT5.out]
    clear hB
    go_wp2_with fail
    go_ret
    exact ⟨rfl, HB7.out⟩
  · have hem : s.isEmpty = false := by cases s; exact absurd rfl hne; rfl
    clear hne
    go_wp2_with fail
    refine (rtext6_any _ L w4 HPW.out (by omega) HI.out).mono ?_
    rintro e w5 ⟨rfl, hB⟩
    have HB5 := Lib.hid (bel_then HB4.out hB)
    have HP7 := Lib.hid (HP4.out.below hB)
    have HP8 := Lib.hid (HPW.out.below hB)
    rw [← HT.out]
    clear hB
    go_wp2_with fail
    refine (psame_any _ _ L w5 HP7.out HP8.out (by omega)).mono ?_
    rintro e w6 ⟨rfl, nq, rfl⟩
    go_wp2_with fail
    go_ret
    exact ⟨rfl, bel_drewN HB5.out nq⟩

theorem wf64 {n : Int} (h : (Lit.int .i64 n).wf = true) : I64 n := by
  simp only [Lit.wf, Bool.and_eq_true, decide_eq_true_eq] at h
  exact ⟨h.1, h.2⟩
theorem picks64_of {H : Type} {enc : TypeId × Value → H} {w : World} {base : Nat} {spare : Nat → Bool} {held : Bool} {fuel : Nat} {o : Option Addr} {n c : Nat} {x : DataW H × List MemPlace}
    (h : DataW.trod enc Tryd.prog w base spare held fuel 22 [.slice o n c] = some x) : ∃ L, (Picks w (.slice o n c) L ∧ I64s L) ∧ L.length ≤ maxLen := by
  rcases rows_ints Tryd.underlying22 Tryd.underlying38 (by kernel_rfl) (by kernel_rfl) (by decide) h with h | ⟨a, len, cap, h, hl, hm, hi⟩
  · simp only [List.cons.injEq, Value.slice.injEq, and_true] at h
    obtain ⟨rfl, rfl, rfl⟩ := h
    exact ⟨[], ⟨⟨none, 0, rfl, by simp, by simp⟩, i64s_nil⟩, by simp⟩
  · simp only [List.cons.injEq, Value.slice.injEq, and_true] at h
    obtain ⟨rfl, rfl, rfl⟩ := h
    have hx : ∀ i, ∃ t : Int × Int, i < n → a.spot = none ∧ w.cell? ⟨a.block, a.off + i * 2, none⟩ = some (.int .i64 t.1) ∧ w.cell? ⟨a.block, a.off + i * 2 + 1, none⟩ = some (.int .i64 t.2) ∧ I64 t.1 ∧ I64 t.2 := fun i => by
      by_cases hlt : i < n
      · obtain ⟨hs, hj⟩ := hi i hlt
        obtain ⟨k, hk, wk⟩ := hj 0 _ .i64 rfl Tryd.underlying3
        obtain ⟨b, hb, wb⟩ := hj 1 _ .i64 rfl Tryd.underlying3
        exact ⟨(k, b), fun _ => ⟨hs, hk, hb, wf64 wk, wf64 wb⟩⟩
      · exact ⟨(0, 0), fun h => absurd h hlt⟩
    have e : ∀ j, j < n → pickAt ((List.range n).map fun i => (hx i).choose) j = (hx j).choose := fun j hj' => by
      unfold pickAt
      rw [List.getElem?_map, List.getElem?_range hj']
      rfl
    refine ⟨(List.range n).map fun i => (hx i).choose, ⟨⟨some a, c, by simp, by simpa using hl, fun h0 => ?_⟩, fun j => ?_⟩, by simp; omega⟩
    rotate_left
    · by_cases hj : j < n
      · rw [e j hj]
        exact ((hx j).choose_spec hj).2.2.2
      · have : pickAt ((List.range n).map fun i => (hx i).choose) j = (0, 0) := by unfold pickAt; rw [List.getElem?_eq_none (by simp; omega)]; rfl
        rw [this]; constructor <;> simp [I64]
    have hsp : a.spot = none := ((hx 0).choose_spec (by simpa using h0)).1
    refine ⟨a.block, a.off, by cases a; simp at hsp; subst hsp; rfl, fun j hj => ?_⟩
    have hj' : j < n := by simpa using hj
    rw [e j hj']
    exact ⟨((hx j).choose_spec hj').2.1, ((hx j).choose_spec hj').2.2.1⟩

end Go.Proofs.YtannfkibahinhaaDoor
