/-
  client.Same, soughref42.Same: contracts.
-/
import Derived.Test.YtannfkibahinhaaDoorReps
namespace Go.Proofs.YtannfkibahinhaaDoor
open Go.RowKit

/-- Whether two reports are alike. -/
def sameE (k l : Int) (R S : List RowT) : Bool := (k == l) && decide (R = S)

set_option maxHeartbeats 1600000 in
set_option maxRecDepth 100000 in
theorem csame_any (k l : Int) (v1 v2 : Value) (R S : List RowT) (w : World) (h1 : Reps w v1 R) (h2 : Reps w v2 S) (hx : R.length ≤ 9223372036854775807) (hy : S.length ≤ 9223372036854775807) :
    Calls Tryd.prog 15 #[.agg #[.int .i64 k, v1], .agg #[.int .i64 l, v2]] w fun e w' => e = .returned (.bool (sameE k l R S)) ∧ Below w.heap.size w w' := by
  have H1 := Lib.hid h1
  have H2 := Lib.hid h2
  obtain ⟨o1, c1, rfl, _, _⟩ := h1
  obtain ⟨o2, c2, rfl, _, _⟩ := h2
  have HB := Lib.hid (((Below.refl w.heap.size w).alloc (Nat.le_refl _) (.cells #[.int .i64 k, .slice o1 R.length c1] 31)).alloc (by simp) (.cells #[.int .i64 l, .slice o2 S.length c2] 31))
  by_cases hk : k = l
  · subst hk
    have HR := Lib.hid (show sameE k k R S = decide (R = S) by simp [sameE])
    go_enter Tryd.func15, Tryd.ntmps15
    go_wp2_with fail
    refine (eqfunc_any _ _ R S _ (H1.out.below HB.out) (H2.out.below HB.out) hx hy).mono ?_
    rintro e w1 ⟨rfl, hB⟩
    have HB2 := Lib.hid (bel_then HB.out hB)
    clear hB
    go_wp2_with fail
    go_ret
    exact ⟨ret_bool HR.out.symm, HB2.out⟩
  · have HR := Lib.hid (show sameE k l R S = false by simp [sameE, hk])
    have q1 : (k == l) = false := by simpa using hk
    clear hk
    go_enter Tryd.func15, Tryd.ntmps15
    go_wp2_with fail
    go_ret
    exact ⟨ret_bool HR.out.symm, HB.out⟩

set_option maxHeartbeats 6400000 in
set_option maxRecDepth 100000 in
theorem rsame42_any (k l : Int) (v1 v2 : Value) (R S : List RowT) (w : World) (h1 : Reps w v1 R) (h2 : Reps w v2 S) (hx : R.length ≤ 9223372036854775807) (hy : S.length ≤ 9223372036854775807) :
    Calls Tryd.prog 16 #[.agg #[.int .i64 k, v1], .agg #[.int .i64 l, v2]] w fun e w' => e = .returned (.bool (sameE k l R S)) ∧ Below w.heap.size w w' := by
  obtain ⟨o1, c1, rfl, _, hc1⟩ := h1
  obtain ⟨o2, c2, rfl, _, hc2⟩ := h2
  have H1 := Lib.hid hc1
  have H2 := Lib.hid hc2
  clear hc1 hc2
  have HB0 := Lib.hid (((Below.refl w.heap.size w).alloc (Nat.le_refl _) (.cells #[.int .i64 k, .slice o1 R.length c1] 31)).alloc (by simp) (.cells #[.int .i64 l, .slice o2 S.length c2] 31))
  have HA1 := Lib.hid ((Bk.new w 31 [.int .i64 k, .slice o1 R.length c1]).alloc (.cells #[.int .i64 l, .slice o2 S.length c2] 31))
  have HA2 := Lib.hid (Bk.new' (w.alloc (.cells #[.int .i64 k, .slice o1 R.length c1] 31)) 31 [.int .i64 l, .slice o2 S.length c2] (g := w.heap.size + 1) (by simp))
  by_cases hk : k = l
  case neg =>
    have HR := Lib.hid (show sameE k l R S = false by simp [sameE, hk])
    have q1 : (k != l) = true := by simpa using hk
    have q2 : (k == l) = false := by simpa using hk
    clear hk
    go_enter Tryd.func16, Tryd.ntmps16
    go_wp2_with fail
    go_ret
    exact ⟨ret_bool HR.out.symm, HB0.out⟩
  subst hk
  have HS := Lib.hid (show sameE k k R S = decide (R = S) by simp [sameE])
  by_cases hl : R.length = S.length
  case neg =>
    have d1 : ((R.length : Int) != (S.length : Int)) = true := by simp; omega
    have HN := Lib.hid (show decide (R = S) = false by simp; rintro rfl; exact hl rfl)
    clear hl
    go_enter Tryd.func16, Tryd.ntmps16
    go_wp2_with fail
    go_ret
    exact ⟨ret_bool (by rw [HS.out, HN.out]), HB0.out⟩
  have d1 : ((R.length : Int) != (S.length : Int)) = false := by simp; omega
  have HL := Lib.hid hl
  clear hl
  go_enter Tryd.func16, Tryd.ntmps16
  go_wp2_with fail
  go_loopw [25] (fun i wr => ∃ kk : Nat, kk ≤ R.length ∧ i = .int .i64 kk ∧ Below w.heap.size w wr ∧ Bk wr (w.heap.size + 1) 31 [.int .i64 k, .slice o2 S.length c2] ∧ ∀ j, j < kk → rowAt R j = rowAt S j)
    (fun i _ => R.length - (intOf i).toNat)
  case atStart => exact ⟨0, Nat.zero_le _, rfl, HB0.out, HA2.out, fun j hj => by omega⟩
  case round =>
    obtain ⟨j, hk, rfl, hB, hA, hj⟩ := hrel
    have HJ := Lib.hid hj
    have HB := Lib.hid hB
    have HA := Lib.hid hA
    clear hj hB hA
    by_cases hlt : j < R.length
    · have hlt2 : j < S.length := by have := HL.out; omega
      obtain ⟨b1, f1, rfl, hd1⟩ := H1.out (by omega)
      obtain ⟨b2, f2, rfl, hd2⟩ := H2.out (by omega)
      obtain ⟨vi, vo, e1, e2, e3, s1, s2, m1, m2⟩ := hd1 j hlt
      obtain ⟨ui, uo, g1, g2, g3, s3, s4, m3, m4⟩ := hd2 j hlt2
      clear hd1 hd2
      have s1' := s1
      have s2' := s2
      have s3' := s3
      have s4' := s4
      obtain ⟨p1, k1, rfl, _⟩ := s1'
      obtain ⟨p2, k2, rfl, _⟩ := s2'
      obtain ⟨p3, k3, rfl, _⟩ := s3'
      obtain ⟨p4, k4, rfl, _⟩ := s4'
      replace e1 := keepc e1 HB.out
      replace e2 := keepc e2 HB.out
      replace e3 := keepc e3 HB.out
      replace g1 := keepc g1 HB.out
      replace g2 := keepc g2 HB.out
      replace g3 := keepc g3 HB.out
      have S1 := Lib.hid (s1.below HB.out)
      have S2 := Lib.hid (s2.below HB.out)
      have S3 := Lib.hid (s3.below HB.out)
      have S4 := Lib.hid (s4.below HB.out)
      have M := Lib.hid (And.intro (And.intro m1 m2) (And.intro m3 m4))
      clear s1 s2 s3 s4 m1 m2 m3 m4
      obtain ⟨r, hr⟩ : ∃ r, r = rowAt R j := ⟨_, rfl⟩
      obtain ⟨s, hs⟩ : ∃ r, r = rowAt S j := ⟨_, rfl⟩
      rw [← hr] at e1 e2 e3 S1 S2 M
      rw [← hs] at g1 g2 g3 S3 S4 M
      have hb1 : b1 < wr.heap.size := cell_lt e1
      have hb2 : b2 < wr.heap.size := cell_lt g1
      have a0 : wr.cell? ⟨w.heap.size + 1, 1, none⟩ = some (.slice (some ⟨b2, f2, none⟩) S.length c2) := HA.out.cell 1
      have hbA := HA.out.lt
      have HE := Lib.hid (And.intro hr hs)
      clear hr hs
      obtain ⟨n, i, o⟩ := r
      obtain ⟨m, a, b⟩ := s
      dsimp only at e1 e2 e3 g1 g2 g3 S1 S2 S3 S4 M
      have HB2 := Lib.hid (((Below.refl wr.heap.size wr).alloc (Nat.le_refl _) (.cells #[.string ⟨n.toArray⟩, .slice p1 i.length k1, .slice p2 o.length k2] 55)).alloc (by simp) (.cells #[.string ⟨m.toArray⟩, .slice p3 a.length k3, .slice p4 b.length k4] 55))
      have HB3 := Lib.hid (bel_then HB.out HB2.out)
      by_cases hn : n = m
      case neg =>
        have HN := Lib.hid (reps_ne (show ¬ rowAt R j = rowAt S j by rw [← HE.out.1, ← HE.out.2]; simp [hn]))
        have q1 : decide (n = m) = false := by simpa using hn
        have q2 : (n == m) = false := by simpa using hn
        clear hn
        go_wp2_with fail
        go_ret
        exact ⟨ret_bool (by rw [HS.out, HN.out]), HB3.out⟩
      subst hn
      go_wp2_with fail
      refine (texts_any _ _ _ _ _ (S1.out.below HB2.out) (S3.out.below HB2.out) M.out.1.1 M.out.2.1).mono ?_
      rintro e w1 ⟨rfl, n1, rfl⟩
      by_cases hi : i = a
      case neg =>
        rw [show decide (i = a) = false from by simpa using hi]
        have HN := Lib.hid (reps_ne (show ¬ rowAt R j = rowAt S j by rw [← HE.out.1, ← HE.out.2]; simp [hi]))
        clear hi
        go_wp2_with fail
        go_ret
        exact ⟨ret_bool (by rw [HS.out, HN.out]), bel_drewN HB3.out _⟩
      rw [show decide (i = a) = true from by simpa using hi]
      have HI := Lib.hid hi
      clear hi
      go_wp2_with fail
      refine (texts_any _ _ _ _ _ ((S2.out.below HB2.out).drewN n1) ((S4.out.below HB2.out).drewN n1) M.out.1.2 M.out.2.2).mono ?_
      rintro e w1 ⟨rfl, n2, rfl⟩
      by_cases ho : o = b
      case neg =>
        rw [show decide (o = b) = false from by simpa using ho]
        have HN := Lib.hid (reps_ne (show ¬ rowAt R j = rowAt S j by rw [← HE.out.1, ← HE.out.2]; simp [ho]))
        clear ho
        go_wp2_with fail
        go_ret
        exact ⟨ret_bool (by rw [HS.out, HN.out]), bel_drewN HB3.out _⟩
      rw [show decide (o = b) = true from by simpa using ho]
      have HK := Lib.hid (show rowAt R j = rowAt S j by rw [← HE.out.1, ← HE.out.2]; simp [HI.out, ho])
      clear ho
      have HA3 := Lib.hid (HA.out.below HB2.out)
      go_wp2_with fail
      go_roundw
      case rel =>
        refine ⟨j + 1, by omega, by go_num, bel_drewN HB3.out _, HA3.out.drewN _, fun i hi => ?_⟩
        rcases Nat.lt_or_ge i j with h | h
        · exact HJ.out i h
        · obtain rfl : i = j := by omega
          exact HK.out
      case measure => simp [intOf]; omega
    · obtain rfl : j = R.length := by omega
      go_wp2_with fail
      go_ret
      exact ⟨ret_bool (by rw [HS.out]; exact (reps_eq HL.out HJ.out).symm), HB.out⟩

end Go.Proofs.YtannfkibahinhaaDoor
