/-
  One Step of a machine and of the reference's, kind by kind. Written by wip/gen/mktp3.py.
-/
import Derived.Test.YteheckcflnogbaaTp1
import Derived.Test.YteheckcflnogbaaTp2
namespace Go.Proofs.Yteheckcflnogbaa
open Go.RowKit

/-- A machine as the reference's state says. -/
def pb1 (w : World) (pb : Nat) (x : OpS) : Prop := Tk w pb 1 6 x.v ⟨x.new, x.ended, if x.at' = 0 then 0 else 6, x.new⟩
def pb2 (w : World) (pb : Nat) (x : OpS) : Prop := Cl w pb 1 6 x.v x.ended
def pb3 (w : World) (pb : Nat) (x : OpS) : Prop := Rt w pb 1 6 x.left x.ended
def pb4 (w : World) (pb : Nat) (x : OpS) : Prop := Qt w pb 1 6 x.is x.ended
def OkS (x : OpS) : Prop := x.ended = false → (x.at' = 0 ∧ x.new = false) ∨ (x.k = 1 ∧ x.at' = 1 ∧ x.new = true)
def adr (v : Int) : Int := IntKind.i64.wrap (1 + v)
def w64 (zs : List Int) : Prop := ∀ z ∈ zs, 0 ≤ z ∧ z < 18446744073709551616
theorem w64_ld {zs : List Int} (h : w64 zs) (a : Int) : 0 ≤ ldv zs a ∧ ldv zs a < 18446744073709551616 := by
  unfold ldv wd
  split
  · rcases Nat.lt_or_ge a.toNat zs.length with hi | hi
    · rw [List.getElem?_eq_getElem hi]; exact h _ (List.getElem_mem hi)
    · rw [List.getElem?_eq_none hi]; decide
  · decide
theorem w64_st {zs : List Int} (h : w64 zs) (a u : Int) (hu : 0 ≤ u ∧ u < 18446744073709551616) : w64 (stv zs a u) := by
  unfold stv
  split
  · intro z hz
    rcases List.mem_or_eq_of_mem_set hz with hz | rfl
    · exact h z hz
    · exact hu
  · exact h
theorem w64_add {zs : List Int} (h : w64 zs) (a d : Int) : w64 (addv zs a d) := by
  unfold addv
  refine w64_st h _ _ ?_
  unfold addw
  split
  · rw [IntKind.wrap_u64]; omega
  · decide
theorem w64_op {zs : List Int} (h : w64 zs) (a c : Int) (x : OpS) : w64 (opZ a c x zs) := by
  unfold opZ casv
  repeat' split
  all_goals first | exact h | exact w64_add h _ _ | exact w64_st h _ _ (by decide)
theorem st_len (zs : List Int) (a u : Int) : (stv zs a u).length = zs.length := by unfold stv; split <;> simp
theorem op_len (zs : List Int) (a c : Int) (x : OpS) : (opZ a c x zs).length = zs.length := by
  unfold opZ casv addv
  repeat' split
  all_goals first | rfl | exact st_len _ _ _
theorem wrap_zero {x : Int} (h : 0 ≤ x ∧ x < 18446744073709551616) : (IntKind.i64.wrap x == 0) = (x == 0) := by
  rw [IntKind.wrap_i64]
  by_cases h0 : x = 0
  · subst h0; decide
  · rw [show (x == 0) = false by simpa using h0]
    simp only [beq_eq_false_iff_ne, ne_eq]
    omega
theorem opX_ok {a c : Int} {x : OpS} {zs : List Int} (h : OkS x) : OkS (opX a c x zs) := by
  obtain ⟨k, v, at1, new, ended, is, left⟩ := x
  unfold opX
  cases ended with
  | true => simpa using h
  | false =>
    intro he
    simp only [Bool.false_eq_true, if_false] at he ⊢
    by_cases h1 : k = 1
    · subst h1
      by_cases h2 : at1 = 1
      · subst h2; simp at he
      · by_cases h3 : 0 ≤ v
        · simp [h2, h3] at he ⊢; exact he
        · simp [h2, h3] at he
    · by_cases h2 : k = 2
      · simp [h2] at he
      · by_cases h3 : k = 3
        · simp [h3] at he
        · simp [h1, h2, h3] at he
theorem opX_kv (a c : Int) (x : OpS) (zs : List Int) : (opX a c x zs).k = x.k ∧ (opX a c x zs).v = x.v := by
  unfold opX
  repeat' split
  all_goals exact ⟨rfl, rfl⟩

set_option maxHeartbeats 3200000 in
set_option maxRecDepth 100000 in
theorem p1_any (x : OpS) (pb b g : Nat) (zs : List Int) (w : World) (hk : x.k = 1) (hok : OkS x) (_hz : w64 zs) (h : pb1 w pb x) (hm : Pm w b g zs) :
    Calls Try.prog 150 #[.pointer (some ⟨pb, 0, none⟩), .iface 64 (.pointer (some ⟨b, 0, none⟩)), .int .i64 0] w fun e w' => e = .returned (.bool (opX (adr x.v) 6 x zs).ended) ∧ pb1 w' pb (opX (adr x.v) 6 x zs) ∧ Pm w' b g (opZ (adr x.v) 6 x zs) ∧ Fr [pb, g] w w' := by
  obtain ⟨k, v, at1, new, ended, is, left⟩ := x
  dsimp only at hk hok ⊢
  subst hk
  unfold pb1 at h ⊢
  dsimp only at h ⊢
  cases ended with
  | true =>
    refine (tkstep_end 0 1 6 v pb b g _ zs w h hm rfl).mono ?_
    rintro e w' ⟨rfl, h1, h2, h3⟩
    exact ⟨rfl, h1, h2, h3⟩
  | false =>
    rcases hok rfl with ⟨rfl, rfl⟩ | ⟨_, rfl, rfl⟩
    · by_cases hv : 0 ≤ v
      · refine (tkstep_at 0 1 6 v pb b g _ zs w h hm (adr v) rfl hv rfl rfl).mono ?_
        rintro e w' ⟨rfl, h1, h2, h3⟩
        have e1 : opX (adr v) 6 ⟨1, v, 0, false, false, is, left⟩ zs = ⟨1, v, 1, casb zs (adr v) 0, !(casb zs (adr v) 0), is, left⟩ := by unfold opX; simp [hv]
        have e2 : opZ (adr v) 6 ⟨1, v, 0, false, false, is, left⟩ zs = casv zs (adr v) 0 1 := by unfold opZ; simp [hv]
        rw [e1, e2]
        exact ⟨rfl, h1, h2, h3⟩
      · refine (tkstep_neg 0 1 6 v pb b g _ zs w h hm (by omega) rfl rfl).mono ?_
        rintro e w' ⟨rfl, h1, h2, h3⟩
        have e1 : opX (adr v) 6 ⟨1, v, 0, false, false, is, left⟩ zs = ⟨1, v, 1, false, true, is, left⟩ := by unfold opX; simp [hv]
        have e2 : opZ (adr v) 6 ⟨1, v, 0, false, false, is, left⟩ zs = zs := by unfold opZ; simp [hv]
        rw [e1, e2]
        exact ⟨rfl, h1, h2, h3⟩
    · refine (tkstep_waits 0 1 6 v pb b g _ zs w h hm rfl rfl).mono ?_
      rintro e w' ⟨rfl, h1, h2, h3⟩
      exact ⟨rfl, h1, h2, h3⟩

set_option maxHeartbeats 3200000 in
set_option maxRecDepth 100000 in
theorem p2_any (x : OpS) (pb b g : Nat) (zs : List Int) (w : World) (hk : x.k = 2) (hok : OkS x) (_hz : w64 zs) (h : pb2 w pb x) (hm : Pm w b g zs) :
    Calls Try.prog 152 #[.pointer (some ⟨pb, 0, none⟩), .iface 64 (.pointer (some ⟨b, 0, none⟩)), .int .i64 0] w fun e w' => e = .returned (.bool (opX (adr x.v) 6 x zs).ended) ∧ pb2 w' pb (opX (adr x.v) 6 x zs) ∧ Pm w' b g (opZ (adr x.v) 6 x zs) ∧ Fr [pb, g] w w' := by
  obtain ⟨k, v, at1, new, ended, is, left⟩ := x
  dsimp only at hk hok ⊢
  subst hk
  unfold pb2 at h ⊢
  dsimp only at h ⊢
  cases ended with
  | true =>
    refine (cl_end 0 1 6 v pb _ w h).mono ?_
    rintro e w' ⟨rfl, rfl⟩
    exact ⟨rfl, h, hm, Fr.refl _ _⟩
  | false =>
    by_cases hv : 0 ≤ v
    · refine (cl_yes 0 1 6 v (adr v) pb b g zs w h hm rfl hv).mono ?_
      rintro e w' ⟨rfl, h1, h2, h3⟩
      have e1 : opX (adr v) 6 ⟨2, v, at1, new, false, is, left⟩ zs = ⟨2, v, 1, new, true, is, left⟩ := by unfold opX; simp
      have e2 : opZ (adr v) 6 ⟨2, v, at1, new, false, is, left⟩ zs = stv zs (adr v) 0 := by unfold opZ; simp [hv]
      rw [e1, e2]
      exact ⟨rfl, h1, h2, h3⟩
    · refine (cl_neg 0 1 6 v pb b g zs w h hm (by omega)).mono ?_
      rintro e w' ⟨rfl, h1, h2, h3⟩
      have e1 : opX (adr v) 6 ⟨2, v, at1, new, false, is, left⟩ zs = ⟨2, v, 1, new, true, is, left⟩ := by unfold opX; simp
      have e2 : opZ (adr v) 6 ⟨2, v, at1, new, false, is, left⟩ zs = zs := by unfold opZ; simp [hv]
      rw [e1, e2]
      exact ⟨rfl, h1, h2, h3⟩

set_option maxHeartbeats 3200000 in
set_option maxRecDepth 100000 in
theorem p3_any (x : OpS) (pb b g : Nat) (zs : List Int) (w : World) (hk : x.k = 3) (hok : OkS x) (_hz : w64 zs) (h : pb3 w pb x) (hm : Pm w b g zs) :
    Calls Try.prog 153 #[.pointer (some ⟨pb, 0, none⟩), .iface 64 (.pointer (some ⟨b, 0, none⟩)), .int .i64 0] w fun e w' => e = .returned (.bool (opX (adr x.v) 6 x zs).ended) ∧ pb3 w' pb (opX (adr x.v) 6 x zs) ∧ Pm w' b g (opZ (adr x.v) 6 x zs) ∧ Fr [pb, g] w w' := by
  obtain ⟨k, v, at1, new, ended, is, left⟩ := x
  dsimp only at hk hok ⊢
  subst hk
  unfold pb3 at h ⊢
  dsimp only at h ⊢
  cases ended with
  | true =>
    refine (rt_end 0 1 6 left pb _ w h).mono ?_
    rintro e w' ⟨rfl, rfl⟩
    exact ⟨rfl, h, hm, Fr.refl _ _⟩
  | false =>
    refine (rt_any 0 1 6 left pb b g zs w h hm).mono ?_
    rintro e w' ⟨rfl, h1, h2, h3⟩
    have e1 : opX (adr v) 6 ⟨3, v, at1, new, false, is, left⟩ zs = ⟨3, v, 1, new, true, is, wrap64 (addw zs 6 18446744073709551615)⟩ := by unfold opX; simp
    have e2 : opZ (adr v) 6 ⟨3, v, at1, new, false, is, left⟩ zs = addv zs 6 18446744073709551615 := by unfold opZ; simp
    rw [e1, e2, ← IntWalk.i64_left]
    exact ⟨rfl, h1, h2, h3⟩

set_option maxHeartbeats 3200000 in
set_option maxRecDepth 100000 in
theorem p4_any (x : OpS) (pb b g : Nat) (zs : List Int) (w : World) (hk : x.k ≠ 1 ∧ x.k ≠ 2 ∧ x.k ≠ 3) (hok : OkS x) (_hz : w64 zs) (h : pb4 w pb x) (hm : Pm w b g zs) :
    Calls Try.prog 154 #[.pointer (some ⟨pb, 0, none⟩), .iface 64 (.pointer (some ⟨b, 0, none⟩)), .int .i64 0] w fun e w' => e = .returned (.bool (opX (adr x.v) 6 x zs).ended) ∧ pb4 w' pb (opX (adr x.v) 6 x zs) ∧ Pm w' b g (opZ (adr x.v) 6 x zs) ∧ Fr [pb, g] w w' := by
  obtain ⟨k, v, at1, new, ended, is, left⟩ := x
  dsimp only at hk hok ⊢
  obtain ⟨k1, k2, k3⟩ := hk
  unfold pb4 at h ⊢
  dsimp only at h ⊢
  cases ended with
  | true =>
    refine (qt_end 0 1 6 is pb _ w h).mono ?_
    rintro e w' ⟨rfl, rfl⟩
    exact ⟨rfl, h, hm, Fr.refl _ _⟩
  | false =>
    refine (qt_any 0 1 6 is pb b g zs w h hm).mono ?_
    rintro e w' ⟨rfl, h1, h2, h3⟩
    have e1 : opX (adr v) 6 ⟨k, v, at1, new, false, is, left⟩ zs = ⟨k, v, 1, new, true, ldv zs 6 == 0, left⟩ := by unfold opX; simp [k1, k2, k3]
    have e2 : opZ (adr v) 6 ⟨k, v, at1, new, false, is, left⟩ zs = zs := by unfold opZ; simp [k1, k2, k3]
    rw [e1, e2, ← wrap_zero (w64_ld _hz 6)]
    exact ⟨rfl, h1, h2, h3⟩

set_option maxHeartbeats 3200000 in
set_option maxRecDepth 100000 in
theorem r_any (x : OpS) (rb b g : Nat) (zs : List Int) (w : World) (hok : OkS x) (h : RB w rb 1 6 x) (hm : Rm w b g zs) :
    Calls Try.prog 151 #[.pointer (some ⟨rb, 0, none⟩), .pointer (some ⟨b, 0, none⟩)] w fun e w' => e = .returned (.bool (opX (adr x.v) 6 x zs).ended) ∧ RB w' rb 1 6 (opX (adr x.v) 6 x zs) ∧ Rm w' b g (opZ (adr x.v) 6 x zs) ∧ Fr [rb, g] w w' := by
  obtain ⟨k, v, at1, new, ended, is, left⟩ := x
  dsimp only at hok ⊢
  cases ended with
  | true =>
    refine (ref_end k v 1 6 at1 left new is rb _ w h).mono ?_
    rintro e w' ⟨rfl, rfl⟩
    exact ⟨rfl, h, hm, Fr.refl _ _⟩
  | false =>
    by_cases hv : 0 ≤ v
    case pos =>
      by_cases k1 : k = 1
      · subst k1
        rcases hok rfl with ⟨rfl, rfl⟩ | ⟨_, rfl, rfl⟩
        · refine (ref_try v 1 6 (adr v) left false is rb b g zs w rfl hv h hm).mono ?_
          rintro e w' ⟨rfl, h1, h2, h3⟩
          have e1 : opX (adr v) 6 ⟨1, v, 0, false, false, is, left⟩ zs = ⟨1, v, 1, casb zs (adr v) 0, !(casb zs (adr v) 0), is, left⟩ := by unfold opX; simp [hv]
          have e2 : opZ (adr v) 6 ⟨1, v, 0, false, false, is, left⟩ zs = casv zs (adr v) 0 1 := by unfold opZ; simp [hv]
          rw [e1, e2]
          exact ⟨rfl, h1, h2, h3⟩
        · refine (ref_waits v 1 6 left true is rb b g zs w h hm).mono ?_
          rintro e w' ⟨rfl, h1, h2, h3⟩
          exact ⟨rfl, h1, h2, h3⟩
      obtain ⟨rfl, rfl⟩ : at1 = 0 ∧ new = false := by
        rcases hok rfl with h | ⟨h, _⟩
        · exact h
        · exact absurd h k1
      by_cases k2 : k = 2
      · subst k2
        refine (ref_clear v 1 6 (adr v) left false is rb b g zs w rfl hv h hm).mono ?_
        rintro e w' ⟨rfl, h1, h2, h3⟩
        have e1 : opX (adr v) 6 ⟨2, v, 0, false, false, is, left⟩ zs = ⟨2, v, 1, false, true, is, left⟩ := by unfold opX; simp
        have e2 : opZ (adr v) 6 ⟨2, v, 0, false, false, is, left⟩ zs = stv zs (adr v) 0 := by unfold opZ; simp [hv]
        rw [e1, e2]
        exact ⟨rfl, h1, h2, h3⟩
      by_cases k3 : k = 3
      · subst k3
        refine (ref_retire v 1 6 left false is rb b g zs w h hm).mono ?_
        rintro e w' ⟨rfl, h1, h2, h3⟩
        have e1 : opX (adr v) 6 ⟨3, v, 0, false, false, is, left⟩ zs = ⟨3, v, 1, false, true, is, wrap64 (addw zs 6 18446744073709551615)⟩ := by unfold opX; simp
        have e2 : opZ (adr v) 6 ⟨3, v, 0, false, false, is, left⟩ zs = addv zs 6 18446744073709551615 := by unfold opZ; simp
        rw [e1, e2]
        exact ⟨rfl, h1, h2, h3⟩
      refine (ref_quiet k v 1 6 left false is rb b g zs w k1 k2 k3 h hm).mono ?_
      rintro e w' ⟨rfl, h1, h2, h3⟩
      have e1 : opX (adr v) 6 ⟨k, v, 0, false, false, is, left⟩ zs = ⟨k, v, 1, false, true, ldv zs 6 == 0, left⟩ := by unfold opX; simp [k1, k2, k3]
      have e2 : opZ (adr v) 6 ⟨k, v, 0, false, false, is, left⟩ zs = zs := by unfold opZ; simp [k1, k2, k3]
      rw [e1, e2]
      exact ⟨rfl, h1, h2, h3⟩
    case neg =>
      by_cases k1 : k = 1
      · subst k1
        rcases hok rfl with ⟨rfl, rfl⟩ | ⟨_, rfl, rfl⟩
        · refine (ref_neg v 1 6 left false is rb b g zs w (by omega) h hm).mono ?_
          rintro e w' ⟨rfl, h1, h2, h3⟩
          have e1 : opX (adr v) 6 ⟨1, v, 0, false, false, is, left⟩ zs = ⟨1, v, 1, false, true, is, left⟩ := by unfold opX; simp [hv]
          have e2 : opZ (adr v) 6 ⟨1, v, 0, false, false, is, left⟩ zs = zs := by unfold opZ; simp [hv]
          rw [e1, e2]
          exact ⟨rfl, h1, h2, h3⟩
        · refine (ref_waits v 1 6 left true is rb b g zs w h hm).mono ?_
          rintro e w' ⟨rfl, h1, h2, h3⟩
          exact ⟨rfl, h1, h2, h3⟩
      obtain ⟨rfl, rfl⟩ : at1 = 0 ∧ new = false := by
        rcases hok rfl with h | ⟨h, _⟩
        · exact h
        · exact absurd h k1
      by_cases k2 : k = 2
      · subst k2
        refine (ref_clneg v 1 6 left false is rb b g zs w (by omega) h hm).mono ?_
        rintro e w' ⟨rfl, h1, h2, h3⟩
        have e1 : opX (adr v) 6 ⟨2, v, 0, false, false, is, left⟩ zs = ⟨2, v, 1, false, true, is, left⟩ := by unfold opX; simp
        have e2 : opZ (adr v) 6 ⟨2, v, 0, false, false, is, left⟩ zs = zs := by unfold opZ; simp [hv]
        rw [e1, e2]
        exact ⟨rfl, h1, h2, h3⟩
      by_cases k3 : k = 3
      · subst k3
        refine (ref_retire v 1 6 left false is rb b g zs w h hm).mono ?_
        rintro e w' ⟨rfl, h1, h2, h3⟩
        have e1 : opX (adr v) 6 ⟨3, v, 0, false, false, is, left⟩ zs = ⟨3, v, 1, false, true, is, wrap64 (addw zs 6 18446744073709551615)⟩ := by unfold opX; simp
        have e2 : opZ (adr v) 6 ⟨3, v, 0, false, false, is, left⟩ zs = addv zs 6 18446744073709551615 := by unfold opZ; simp
        rw [e1, e2]
        exact ⟨rfl, h1, h2, h3⟩
      refine (ref_quiet k v 1 6 left false is rb b g zs w k1 k2 k3 h hm).mono ?_
      rintro e w' ⟨rfl, h1, h2, h3⟩
      have e1 : opX (adr v) 6 ⟨k, v, 0, false, false, is, left⟩ zs = ⟨k, v, 1, false, true, ldv zs 6 == 0, left⟩ := by unfold opX; simp [k1, k2, k3]
      have e2 : opZ (adr v) 6 ⟨k, v, 0, false, false, is, left⟩ zs = zs := by unfold opZ; simp [k1, k2, k3]
      rw [e1, e2]
      exact ⟨rfl, h1, h2, h3⟩


end Go.Proofs.Yteheckcflnogbaa
