/-
  Reports as lists of rows; client.Same, soughref42.Same: contracts.
-/
import Derived.Test.YtannfkibahinhaaDoorNames
namespace Go.Proofs.YtannfkibahinhaaDoor
open Go.RowKit

abbrev RowT := List UInt8 × List (List UInt8) × List (List UInt8)
def rowAt (R : List RowT) (j : Nat) : RowT := R[j]?.getD ([], [], [])
/-- A slice reads as a list of rows. -/
def Reps (w : World) (v : Value) (R : List RowT) : Prop :=
  ∃ o c, v = .slice o R.length c ∧ R.length ≤ c ∧ (0 < R.length → ∃ b off, o = some ⟨b, off, none⟩ ∧ ∀ j, j < R.length → ∃ vi vo,
    w.cell? ⟨b, off + j * 3, none⟩ = some (.string ⟨(rowAt R j).1.toArray⟩) ∧ w.cell? ⟨b, off + j * 3 + 1, none⟩ = some vi ∧ w.cell? ⟨b, off + j * 3 + 2, none⟩ = some vo ∧
    Strs w vi (rowAt R j).2.1 ∧ Strs w vo (rowAt R j).2.2 ∧ (rowAt R j).2.1.length ≤ 9223372036854775807 ∧ (rowAt R j).2.2.length ≤ 9223372036854775807)
theorem Reps.below {w w' : World} {v : Value} {R : List RowT} (h : Reps w v R) (hB : Below w.heap.size w w') : Reps w' v R := by
  obtain ⟨o, c, rfl, hle, hc⟩ := h
  refine ⟨o, c, rfl, hle, fun h0 => ?_⟩
  obtain ⟨b, f, rfl, hd⟩ := hc h0
  refine ⟨b, f, rfl, fun j hj => ?_⟩
  obtain ⟨vi, vo, h1, h2, h3, h4, h5, h6⟩ := hd j hj
  exact ⟨vi, vo, keepc h1 hB, keepc h2 hB, keepc h3 hB, h4.below hB, h5.below hB, h6⟩
theorem reps_ne {R S : List RowT} {k : Nat} (h : ¬ rowAt R k = rowAt S k) : decide (R = S) = false := by
  simp; rintro rfl; exact h rfl
theorem reps_eq {R S : List RowT} (hl : R.length = S.length) (h : ∀ j, j < R.length → rowAt R j = rowAt S j) : decide (R = S) = true := by
  simp
  refine List.ext_getElem hl fun j h1 h2 => ?_
  have := h j h1
  unfold rowAt at this
  rw [List.getElem?_eq_getElem h1, List.getElem?_eq_getElem h2] at this
  exact this

set_option maxHeartbeats 1600000 in
set_option maxRecDepth 100000 in
theorem same1_any (r s : RowT) (vi vo ui uo : Value) (w : World) (h1 : Strs w vi r.2.1) (h2 : Strs w vo r.2.2) (h3 : Strs w ui s.2.1) (h4 : Strs w uo s.2.2)
    (l1 : r.2.1.length ≤ 9223372036854775807) (l2 : r.2.2.length ≤ 9223372036854775807) (l3 : s.2.1.length ≤ 9223372036854775807) (l4 : s.2.2.length ≤ 9223372036854775807) :
    Calls Tryd.prog 27 #[.agg #[.string ⟨r.1.toArray⟩, vi, vo], .agg #[.string ⟨s.1.toArray⟩, ui, uo]] w fun e w' => e = .returned (.bool (decide (r = s))) ∧ Below w.heap.size w w' := by
  obtain ⟨n, i, o⟩ := r
  obtain ⟨m, a, b⟩ := s
  dsimp only at *
  have H1 := Lib.hid h1
  have H2 := Lib.hid h2
  have H3 := Lib.hid h3
  have H4 := Lib.hid h4
  obtain ⟨p1, c1, rfl, _⟩ := h1
  obtain ⟨p2, c2, rfl, _⟩ := h2
  obtain ⟨p3, c3, rfl, _⟩ := h3
  obtain ⟨p4, c4, rfl, _⟩ := h4
  have HB := Lib.hid (((Below.refl w.heap.size w).alloc (Nat.le_refl _) (.cells #[.string ⟨n.toArray⟩, .slice p1 i.length c1, .slice p2 o.length c2] 55)).alloc (by simp) (.cells #[.string ⟨m.toArray⟩, .slice p3 a.length c3, .slice p4 b.length c4] 55))
  by_cases hn : n = m
  · subst hn
    go_enter Tryd.func27, Tryd.ntmps27
    go_wp2_with fail
    refine (equals_any _ _ _ _ _ (H1.out.below HB.out) (H3.out.below HB.out) l1 l3).mono ?_
    rintro e w1 ⟨rfl, n1, rfl⟩
    by_cases hi : i = a
    · rw [show decide (i = a) = true from by simpa using hi]
      have HR := Lib.hid (show decide ((n, i, o) = (n, a, b)) = decide (o = b) by simp [hi])
      clear hi
      go_wp2_with fail
      refine (equals_any _ _ _ _ _ ((H2.out.below HB.out).drewN n1) ((H4.out.below HB.out).drewN n1) l2 l4).mono ?_
      rintro e w1 ⟨rfl, n2, rfl⟩
      go_wp2_with fail
      go_ret
      exact ⟨ret_bool HR.out.symm, bel_drewN HB.out _⟩
    · rw [show decide (i = a) = false from by simpa using hi]
      have HR := Lib.hid (show decide ((n, i, o) = (n, a, b)) = false by simp [hi])
      clear hi
      go_wp2_with fail
      go_ret
      exact ⟨ret_bool HR.out.symm, bel_drewN HB.out n1⟩
  · have HR := Lib.hid (show decide ((n, i, o) = (m, a, b)) = false by simp [hn])
    have q1 : decide (n = m) = false := by simpa using hn
    have q2 : (n == m) = false := by simpa using hn
    clear hn
    go_enter Tryd.func27, Tryd.ntmps27
    go_wp2_with fail
    go_ret
    exact ⟨ret_bool HR.out.symm, HB.out⟩

set_option maxHeartbeats 3200000 in
set_option maxRecDepth 100000 in
theorem eqfunc_any (v1 v2 : Value) (R S : List RowT) (w : World) (h1 : Reps w v1 R) (h2 : Reps w v2 S) (hx : R.length ≤ 9223372036854775807) (hy : S.length ≤ 9223372036854775807) :
    Calls Tryd.prog 26 #[v1, v2, .func (.func 27) #[] #[]] w fun e w' => e = .returned (.bool (decide (R = S))) ∧ Below w.heap.size w w' := by
  obtain ⟨o1, c1, rfl, _, hc1⟩ := h1
  obtain ⟨o2, c2, rfl, _, hc2⟩ := h2
  have H1 := Lib.hid hc1
  have H2 := Lib.hid hc2
  clear hc1 hc2
  go_enter Tryd.func26, Tryd.ntmps26
  by_cases hl : R.length = S.length
  · have d1 : ((R.length : Int) != (S.length : Int)) = false := by simp; omega
    have HL := Lib.hid hl
    clear hl
    go_wp2_with fail
    go_loopw [17] (fun i wr => ∃ k : Nat, k ≤ R.length ∧ i = .int .i64 k ∧ Below w.heap.size w wr ∧ ∀ j, j < k → rowAt R j = rowAt S j)
      (fun i _ => R.length - (intOf i).toNat)
    case atStart => exact ⟨0, Nat.zero_le _, rfl, Below.refl _ _, fun j hj => by omega⟩
    case round =>
      obtain ⟨k, hk, rfl, hB, hj⟩ := hrel
      have HJ := Lib.hid hj
      have HB := Lib.hid hB
      clear hj hB
      by_cases hlt : k < R.length
      · have hlt2 : k < S.length := by have := HL.out; omega
        obtain ⟨b1, f1, rfl, hd1⟩ := H1.out (by omega)
        obtain ⟨b2, f2, rfl, hd2⟩ := H2.out (by omega)
        obtain ⟨vi, vo, e1, e2, e3, s1, s2, m1, m2⟩ := hd1 k hlt
        obtain ⟨ui, uo, g1, g2, g3, s3, s4, m3, m4⟩ := hd2 k hlt2
        clear hd1 hd2
        have s1' := s1
        have s2' := s2
        have s3' := s3
        have s4' := s4
        obtain ⟨p1, k1, rfl, _⟩ := s1'
        obtain ⟨p2, k2, rfl, _⟩ := s2'
        obtain ⟨p3, k3, rfl, _⟩ := s3'
        obtain ⟨p4, k4, rfl, _⟩ := s4'
        replace e1 := keepc e1 HB.out
        replace e2 := keepc e2 HB.out
        replace e3 := keepc e3 HB.out
        replace g1 := keepc g1 HB.out
        replace g2 := keepc g2 HB.out
        replace g3 := keepc g3 HB.out
        have S1 := Lib.hid (s1.below HB.out)
        have S2 := Lib.hid (s2.below HB.out)
        have S3 := Lib.hid (s3.below HB.out)
        have S4 := Lib.hid (s4.below HB.out)
        have M := Lib.hid (And.intro (And.intro m1 m2) (And.intro m3 m4))
        clear s1 s2 s3 s4 m1 m2 m3 m4
        obtain ⟨r, hr⟩ : ∃ r, r = rowAt R k := ⟨_, rfl⟩
        obtain ⟨s, hs⟩ : ∃ r, r = rowAt S k := ⟨_, rfl⟩
        rw [← hr] at e1 e2 e3 S1 S2 M
        rw [← hs] at g1 g2 g3 S3 S4 M
        have hb1 : b1 < wr.heap.size := cell_lt e1
        have hb2 : b2 < wr.heap.size := cell_lt g1
        have HE := Lib.hid (And.intro hr hs)
        clear hr hs
        have HB2 := Lib.hid (((Below.refl wr.heap.size wr).alloc (Nat.le_refl _) (.cells #[.string ⟨r.1.toArray⟩, .slice p1 r.2.1.length k1, .slice p2 r.2.2.length k2] 55)).alloc (by simp) (.cells #[.string ⟨s.1.toArray⟩, .slice p3 s.2.1.length k3, .slice p4 s.2.2.length k4] 55))
        go_wp2_with fail
        refine (same1_any r s _ _ _ _ _ (S1.out.below HB2.out) (S2.out.below HB2.out) (S3.out.below HB2.out) (S4.out.below HB2.out) M.out.1.1 M.out.1.2 M.out.2.1 M.out.2.2).mono ?_
        rintro e w1 ⟨rfl, hB⟩
        have HB3 := Lib.hid (bel_then (bel_then HB.out HB2.out) hB)
        clear hB
        by_cases he : r = s
        · rw [show decide (r = s) = true from by simpa using he]
          have HK := Lib.hid (show rowAt R k = rowAt S k by rw [← HE.out.1, ← HE.out.2]; exact he)
          clear he
          go_wp2_with fail
          go_roundw
          case rel =>
            refine ⟨k + 1, by omega, by go_num, HB3.out, fun j hj => ?_⟩
            rcases Nat.lt_or_ge j k with h | h
            · exact HJ.out j h
            · obtain rfl : j = k := by omega
              exact HK.out
          case measure => simp [intOf]; omega
        · rw [show decide (r = s) = false from by simpa using he]
          have HN := Lib.hid (reps_ne (show ¬ rowAt R k = rowAt S k by rw [← HE.out.1, ← HE.out.2]; exact he))
          clear he
          go_wp2_with fail
          go_ret
          exact ⟨ret_bool HN.out.symm, HB3.out⟩
      · obtain rfl : k = R.length := by omega
        go_wp2_with fail
        go_ret
        exact ⟨ret_bool (reps_eq HL.out HJ.out).symm, HB.out⟩
  · have d1 : ((R.length : Int) == (S.length : Int)) = false := by simp; omega
    have HN := Lib.hid (show decide (R = S) = false by simp; rintro rfl; exact hl rfl)
    clear hl
    go_wp2_with fail
    go_ret
    exact ⟨ret_bool HN.out.symm, Below.refl _ _⟩

end Go.Proofs.YtannfkibahinhaaDoor
