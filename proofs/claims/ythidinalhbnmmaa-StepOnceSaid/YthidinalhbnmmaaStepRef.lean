/-
  soughref24.Prog: contracts.
-/
import Derived.Test.YthidinalhbnmmaaIns
namespace Go.Proofs.Ythidinalhbnmmaa
open Go.RowKit

/-- The reference's machine at block b. -/
def Pq (w : World) (b : Nat) (sl : Value) (rs : List Int) (at' : Int) : Prop := Bk w b 50 (sl :: (rs.map (Value.int .u64) ++ [.int .i64 at'])) ∧ rs.length = 4
theorem Pq.reg {w : World} {b : Nat} {sl : Value} {rs : List Int} {at' : Int} (h : Pq w b sl rs at') (k : Nat) (hk : k < 4) : w.cell? ⟨b, 1 + k, none⟩ = some (.int .u64 (wd rs k)) := by
  rw [h.1.cell, Nat.add_comm, List.getElem?_cons_succ, List.getElem?_append_left (by simp [h.2]; exact hk)]
  simp [wd, h.2, hk]
theorem Pq.at' {w : World} {b : Nat} {sl : Value} {rs : List Int} {at' : Int} (h : Pq w b sl rs at') : w.cell? ⟨b, 5, none⟩ = some (.int .i64 at') := by
  rw [h.1.cell, List.getElem?_cons_succ, List.getElem?_append_right (by simp [h.2])]
  simp [h.2]
theorem Pq.setr {w : World} {b : Nat} {sl : Value} {rs : List Int} {at' : Int} (h : Pq w b sl rs at') (k : Nat) (hk : k < 4) (u : Int) : Pq (w.setCell ⟨b, 1 + k, none⟩ (.int .u64 u)) b sl (rs.set k u) at' := by
  have h1 := h.1.set (1 + k) (.int .u64 u)
  rw [Nat.add_comm 1 k, List.set_cons_succ, List.set_append_left _ _ (by simp [h.2]; exact hk), ← List.map_set] at h1
  rw [Nat.add_comm 1 k]
  exact ⟨h1, by simpa using h.2⟩
theorem Pq.seta {w : World} {b : Nat} {sl : Value} {rs : List Int} {at' : Int} (h : Pq w b sl rs at') (u : Int) : Pq (w.setCell ⟨b, 5, none⟩ (.int .i64 u)) b sl rs u := by
  have h1 := h.1.set 5 (.int .i64 u)
  rw [List.set_cons_succ, List.set_append_right _ _ (by simp [h.2])] at h1
  simp [h.2] at h1
  exact ⟨h1, h.2⟩
theorem Pq.fr {S : List Nat} {w w' : World} {b : Nat} {sl : Value} {rs : List Int} {at' : Int} (h : Pq w b sl rs at') (k : Fr S w w') (hb : b ∉ S) : Pq w' b sl rs at' := ⟨h.1.fr k hb, h.2⟩
theorem Rm.fr {S : List Nat} {w w' : World} {b g : Nat} {zs : List Int} (h : Rm w b g zs) (k : Fr S w w') (hb : b ∉ S) (hg : g ∉ S) : Rm w' b g zs := ⟨h.1.fr k hb, h.2.1.fr k hg, h.2.2⟩
theorem rix_go (i : Int) : -4 < i.tmod 4 ∧ i.tmod 4 < 4 ∧ (i.tmod 4 + 4) % 4 = (rix i : Int) := by
  have h1 := Int.tmod_lt_of_pos i (show (0 : Int) < 4 by omega)
  have h2 := Int.tmod_lt_of_pos (-i) (show (0 : Int) < 4 by omega)
  rw [Int.neg_tmod] at h2
  have hd : (4 : Int) * i.tdiv 4 + i.tmod 4 = i := Int.mul_tdiv_add_tmod i 4
  unfold rix
  generalize i.tmod 4 = r at *
  generalize i.tdiv 4 = q at *
  omega

theorem rix_next (r : Int) : rix (IntKind.i64.wrap ((IntKind.i64.wrap (r.tmod 4 + 4)).tmod 4 + 1)) = rix (r + 1) := by
  obtain ⟨h1, h2, h3⟩ := rix_go r
  have h4 := rix_lt r
  rw [show IntKind.i64.wrap (r.tmod 4 + 4) = r.tmod 4 + 4 by rw [IntKind.wrap_i64]; omega, Int.tmod_eq_emod_of_nonneg (by omega), h3, show IntKind.i64.wrap ((rix r : Int) + 1) = (rix r : Int) + 1 by rw [IntKind.wrap_i64]; omega]
  unfold rix
  omega

theorem rget_any (b : Nat) (sl : Value) (rs : List Int) (at' i : Int) (w : World) (h : Pq w b sl rs at') :
    Calls Try.prog 97 #[.pointer (some ⟨b, 0, none⟩), .int .i64 i] w fun e w' => e = .returned (.int .u64 (wd rs (rix i))) ∧ w' = w := by
  obtain ⟨h1, h2, h3⟩ := rix_go i
  have h4 := rix_lt i
  have g0 : w.cell? ⟨b, 1, none⟩ = some (.int .u64 (wd rs 0)) := h.reg 0 (by omega)
  have g1 : w.cell? ⟨b, 2, none⟩ = some (.int .u64 (wd rs 1)) := h.reg 1 (by omega)
  have g2 : w.cell? ⟨b, 3, none⟩ = some (.int .u64 (wd rs 2)) := h.reg 2 (by omega)
  have g3 : w.cell? ⟨b, 4, none⟩ = some (.int .u64 (wd rs 3)) := h.reg 3 (by omega)
  clear h
  obtain ⟨x, hx⟩ : ∃ x, i.tmod 4 = x := ⟨_, rfl⟩
  rw [hx] at h1 h2 h3
  generalize rix i = k at *
  rcases (show k = 0 ∨ k = 1 ∨ k = 2 ∨ k = 3 by omega) with rfl | rfl | rfl | rfl
  all_goals
    clear h4
    simp only [Int.cast_ofNat_Int] at h3
    go_enter Try.func97, Try.ntmps97
    go_wp2
    go_ret
    exact ⟨rfl, rfl⟩

set_option maxHeartbeats 1600000 in
theorem rset_any (b : Nat) (sl : Value) (rs : List Int) (at' i u : Int) (w : World) (h : Pq w b sl rs at') :
    Calls Try.prog 98 #[.pointer (some ⟨b, 0, none⟩), .int .i64 i, .int .u64 u] w fun e w' => e = .returned (.tuple #[]) ∧ Pq w' b sl (rs.set (rix i) u) at' ∧ Fr [b] w w' := by
  obtain ⟨h1, h2, h3⟩ := rix_go i
  have h4 := rix_lt i
  have g0 : w.cell? ⟨b, 1, none⟩ = some (.int .u64 (wd rs 0)) := h.reg 0 (by omega)
  have g1 : w.cell? ⟨b, 2, none⟩ = some (.int .u64 (wd rs 1)) := h.reg 1 (by omega)
  have g2 : w.cell? ⟨b, 3, none⟩ = some (.int .u64 (wd rs 2)) := h.reg 2 (by omega)
  have g3 : w.cell? ⟨b, 4, none⟩ = some (.int .u64 (wd rs 3)) := h.reg 3 (by omega)
  have f0 := h.1.free 1
  have f1 := h.1.free 2
  have f2 := h.1.free 3
  have f3 := h.1.free 4
  have H := Lib.hid h
  clear h
  obtain ⟨x, hx⟩ : ∃ x, i.tmod 4 = x := ⟨_, rfl⟩
  rw [hx] at h1 h2 h3
  generalize rix i = k at *
  rcases (show k = 0 ∨ k = 1 ∨ k = 2 ∨ k = 3 by omega) with rfl | rfl | rfl | rfl
  all_goals
    clear h4
    simp only [Int.cast_ofNat_Int] at h3
    go_enter Try.func98, Try.ntmps98
    go_wp2
    go_end0
    first
      | exact ⟨rfl, H.out.setr 0 (by omega) _, (Fr.refl _ _).set (by simp) _⟩
      | exact ⟨rfl, H.out.setr 1 (by omega) _, (Fr.refl _ _).set (by simp) _⟩
      | exact ⟨rfl, H.out.setr 2 (by omega) _, (Fr.refl _ _).set (by simp) _⟩
      | exact ⟨rfl, H.out.setr 3 (by omega) _, (Fr.refl _ _).set (by simp) _⟩

set_option maxHeartbeats 1600000 in
set_option maxRecDepth 100000 in
theorem rdone_any (b gi : Nat) (sl : Value) (rs : List Int) (L : List InsT) (at' : Int) (w : World) (h : Pq w b sl rs at') (hL : Ins w sl L gi) :
    Calls Try.prog 96 #[.pointer (some ⟨b, 0, none⟩)] w fun e w' => e = .returned (.bool (dn L at')) ∧ ∃ n, w' = w.drewN n := by
  have g0 := h.at'
  obtain ⟨o, c, rfl, hle, hc⟩ := hL
  have g1 : w.cell? ⟨b, 0, none⟩ = some (.slice o L.length c) := h.1.cell 0
  clear h
  by_cases h1 : at' < 0
  · have d1 : decide (at' < 0) = true := by simpa using h1
    have Hr := Lib.hid (show dn L at' = true by unfold dn; simp [h1])
    clear hc h1
    go_enter Try.func96, Try.ntmps96
    go_wp2
    go_quiet (fail)
    go_wp2
    go_ret
    exact ⟨ret_bool Hr.out.symm, _, rfl⟩
  have d1 : decide (at' < 0) = false := by simpa using h1
  by_cases h2 : (L.length : Int) ≤ at'
  · have d2 : decide ((L.length : Int) ≤ at') = true := by simpa using h2
    have Hr := Lib.hid (show dn L at' = true by unfold dn; simp [h2])
    clear hc
    go_enter Try.func96, Try.ntmps96
    go_wp2
    go_quiet (fail)
    go_wp2
    go_ret
    exact ⟨ret_bool Hr.out.symm, _, rfl⟩
  have d2 : decide ((L.length : Int) ≤ at') = false := by simpa using h2
  obtain ⟨k, rfl⟩ : ∃ k : Nat, at' = k := ⟨at'.toNat, by omega⟩
  obtain ⟨off, rfl, hd⟩ := hc (by omega)
  have c0 := (hd k (by omega)).1
  have hk : k < L.length := by omega
  have d3 : decide (L.length ≤ k) = false := by simp; omega
  clear hd hc h1 h2
  have Hr := Lib.hid (show dn L k = ((insAt L k).op == 0) by unfold dn; rw [d1, d2]; simp)
  generalize (insAt L k).op = op at *
  go_enter Try.func96, Try.ntmps96
  go_wp2
  go_quiet (fail)
  go_wp2
  go_ret
  exact ⟨ret_bool Hr.out.symm, _, rfl⟩

end Go.Proofs.Ythidinalhbnmmaa
