/-
  least.Solve: contract; soughlaw18.LeastIs: its walk. Written by wip/gen/mksysB.py.
-/
import Derived.Test.YtfeipfemknnhhaaSysA
namespace Go.Proofs.Ytfeipfemknnhhaa
open Go.RowKit

theorem below_same' {w w' : World} (h : w' = w) : Below w.heap.size w w' := by subst h; exact Below.refl _ _
theorem height_bd {what width : Int} (h : isL what width = true) : 0 ≤ heightE what width ∧ heightE what width ≤ 2048 := by
  have hw := isL_width h
  unfold heightE
  rw [if_pos h]
  split <;> omega
theorem prod_bd {s : SysT} (h : OkS s) : 0 ≤ s.nodes * heightE s.what s.width ∧ s.nodes * heightE s.what s.width ≤ 524288 := by
  obtain ⟨h1, h2⟩ := height_bd h.is
  have n1 := h.n1
  have n2 := h.n2
  refine ⟨Int.mul_nonneg (by omega) h1, ?_⟩
  have := Int.mul_le_mul n2 h2 h1 (by omega)
  omega
theorem solve_stops {s : SysT} (h : OkS s) (hs : LtS s) (hw : s.width ≤ 200) : ∃ N, N ≤ 1000000 ∧ iterE s N = iterE s (N + 1) := by
  obtain ⟨p1, p2⟩ := prod_bd h
  by_cases hx : ∃ N, N ≤ 1000000 ∧ iterE s N = iterE s (N + 1)
  · exact hx
  · exfalso
    have hk := steps_bound h hs hw ((s.nodes * heightE s.what s.width).toNat + 1) (fun j hj e => hx ⟨j, by omega, e⟩)
    omega
/-- Whether two are not alike. -/
def neP (a b : List (List Nat)) (_ : Nat) : Bool := !(decide (a = b))
theorem neP_off {a b : List (List Nat)} {k : Nat} (h : neP a b k = false) : a = b := by
  unfold neP at h
  rw [Bool.not_eq_false', decide_eq_true_eq] at h
  exact h
theorem neP_on {a b : List (List Nat)} {k : Nat} (h : neP a b k = true) : a ≠ b := by
  unfold neP at h
  rw [Bool.not_eq_true', decide_eq_false_iff_not] at h
  exact h
theorem neP_same {a b : List (List Nat)} {k : Nat} (h : a = b) : neP a b k = false := by unfold neP; rw [decide_eq_true h]; rfl

set_option maxHeartbeats 3200000 in
set_option maxRecDepth 100000 in
theorem lsolve_any (s : SysT) (ve vn vi vt : Value) (w : World) (hL : SysL w ve vn vi vt s) (hb : SysF s) (hw : OkS s → s.width ≤ 200) :
    Calls Try.prog 11 #[.agg #[.int .i64 s.what, .int .i64 s.width, .int .i64 s.nodes, ve, vn, vi, vt]] w fun e w' => ClimbR s neP w e w' := by
  have HS := Lib.hid hL
  obtain ⟨pe, ce, rfl⟩ := hL.1.len
  obtain ⟨pn, cn, rfl⟩ := hL.2.1.len
  obtain ⟨pi, ci, rfl⟩ := ws_len hL.2.2.1
  obtain ⟨pt, ct, rfl⟩ := hL.2.2.2.len
  have KS := Lib.hid (Bk.new w 27 [.int .i64 s.what, .int .i64 s.width, .int .i64 s.nodes, .slice pe s.E.length ce, .slice pn s.N.length cn, .slice pi s.I.length ci, .slice pt s.T.length ct])
  have B0 := Lib.hid ((Below.refl w.heap.size w).alloc (Nat.le_refl _) (.cells #[.int .i64 s.what, .int .i64 s.width, .int .i64 s.nodes, .slice pe s.E.length ce, .slice pn s.N.length cn, .slice pi s.I.length ci, .slice pt s.T.length ct] 27))
  have HS0 := Lib.hid (HS.out.below B0.out)
  clear hL
  have HF := Lib.hid hb
  clear hb

  have HLT := Lib.hid (ltS_of HS.out)
  obtain ⟨N, hN1, hN2⟩ : ∃ N, N ≤ 1000000 ∧ (checkS s = 0 → neP (iterE s N) (iterE s (N + 1)) N = false) := by
    by_cases h0 : checkS s = 0
    · obtain ⟨N, h1, h2⟩ := solve_stops (okS_of h0) HLT.out (hw (okS_of h0))
      exact ⟨N, h1, fun _ => neP_same h2⟩
    · exact ⟨0, by omega, fun h => absurd h h0⟩
  have HN := Lib.hid hN2
  clear hN2 hw
  go_enter Try.func11, Try.ntmps11
  go_wp2_with fail
  refine (climb_any 30 #[] neP N s _ _ _ _ _ (enters_of Try.func30 (by kernel_rfl) rfl) HS0.out HF.out (fun a b k va vb w1 h1 h2 h3 h4 h5 h6 _ => solve1_any va vb a b (k : Int) w1 h1 h2 h3 h4 h5 h6) HN.out hN1).mono ?_
  rintro e w1 (⟨h1, rfl, hB⟩ | ⟨h1, k, u, rfl, hV, hA, hB⟩)
  · have HNZ := Lib.hid h1
    have B1 := Lib.hid (B0.out.trans (hB.mono B0.out.size))
    clear h1 hB
    go_wp2_with fail
    go_ret3
    exact .inl ⟨HNZ.out, rfl, B1.out⟩
  · have HZ := Lib.hid h1
    have HV := Lib.hid hV
    have HA := Lib.hid hA
    have B1 := Lib.hid (B0.out.trans (hB.mono B0.out.size))
    obtain ⟨pu, cu, rfl⟩ := hV.len
    clear h1 hB hV hA
    go_wp2_with fail
    go_ret3
    exact .inr ⟨HZ.out, k, _, rfl, HV.out, HA.out, B1.out⟩


theorem aw_iter (k : Nat) (h : ClimbAt awS neP k) : k = 1 ∧ iterE awS k = [[2]] := by
  have h0 : iterE awS 0 ≠ iterE awS (0 + 1) := by decide +kernel
  have h1 : iterE awS 1 = iterE awS (1 + 1) := by decide +kernel
  have e : k = 1 := by
    rcases (show k = 0 ∨ k = 1 ∨ 1 < k by omega) with rfl | rfl | hk
    · exact absurd (neP_off h.off) h0
    · rfl
    · exact absurd h1 (neP_on (h.on 1 hk))
  subst e
  exact ⟨rfl, by decide +kernel⟩


theorem aw_sys (w : World) : SysL ((((((w.alloc (.cells #[.int .i64 0] 3)).alloc (.cells #[.int .u64 2] 41)).alloc (.cells #[.int .u64 0] 41)).alloc (.cells #[.int .u64 0] 41)).alloc (.cells #[.slice (some ⟨w.heap.size + 1 + 1, 0, none⟩) 1 1, .slice (some ⟨w.heap.size + 1 + 1 + 1, 0, none⟩) 1 1, .slice none 0 0] 44)).alloc (.cells #[.int .i64 1, .int .i64 2, .int .i64 1, .slice none 0 0, .slice (some ⟨w.heap.size, 0, none⟩) 1 1, .slice (some ⟨w.heap.size + 1, 0, none⟩) 1 1, .slice (some ⟨w.heap.size + 1 + 1 + 1 + 1, 0, none⟩) 1 1] 27)) (.slice none 0 0) (.slice (some ⟨w.heap.size, 0, none⟩) 1 1) (.slice (some ⟨w.heap.size + 1, 0, none⟩) 1 1) (.slice (some ⟨w.heap.size + 1 + 1 + 1 + 1, 0, none⟩) 1 1) awS ∧ Below w.heap.size w ((((((w.alloc (.cells #[.int .i64 0] 3)).alloc (.cells #[.int .u64 2] 41)).alloc (.cells #[.int .u64 0] 41)).alloc (.cells #[.int .u64 0] 41)).alloc (.cells #[.slice (some ⟨w.heap.size + 1 + 1, 0, none⟩) 1 1, .slice (some ⟨w.heap.size + 1 + 1 + 1, 0, none⟩) 1 1, .slice none 0 0] 44)).alloc (.cells #[.int .i64 1, .int .i64 2, .int .i64 1, .slice none 0 0, .slice (some ⟨w.heap.size, 0, none⟩) 1 1, .slice (some ⟨w.heap.size + 1, 0, none⟩) 1 1, .slice (some ⟨w.heap.size + 1 + 1 + 1 + 1, 0, none⟩) 1 1] 27)) := by
  have k0 : Bk ((((((w.alloc (.cells #[.int .i64 0] 3)).alloc (.cells #[.int .u64 2] 41)).alloc (.cells #[.int .u64 0] 41)).alloc (.cells #[.int .u64 0] 41)).alloc (.cells #[.slice (some ⟨w.heap.size + 1 + 1, 0, none⟩) 1 1, .slice (some ⟨w.heap.size + 1 + 1 + 1, 0, none⟩) 1 1, .slice none 0 0] 44)).alloc (.cells #[.int .i64 1, .int .i64 2, .int .i64 1, .slice none 0 0, .slice (some ⟨w.heap.size, 0, none⟩) 1 1, .slice (some ⟨w.heap.size + 1, 0, none⟩) 1 1, .slice (some ⟨w.heap.size + 1 + 1 + 1 + 1, 0, none⟩) 1 1] 27)) (w.heap.size) 3 [.int .i64 0] := ((((((Bk.new' w 3 [.int .i64 0] (g := w.heap.size) (by simp)).alloc _).alloc _).alloc _).alloc _).alloc _)
  have k1 : Bk ((((((w.alloc (.cells #[.int .i64 0] 3)).alloc (.cells #[.int .u64 2] 41)).alloc (.cells #[.int .u64 0] 41)).alloc (.cells #[.int .u64 0] 41)).alloc (.cells #[.slice (some ⟨w.heap.size + 1 + 1, 0, none⟩) 1 1, .slice (some ⟨w.heap.size + 1 + 1 + 1, 0, none⟩) 1 1, .slice none 0 0] 44)).alloc (.cells #[.int .i64 1, .int .i64 2, .int .i64 1, .slice none 0 0, .slice (some ⟨w.heap.size, 0, none⟩) 1 1, .slice (some ⟨w.heap.size + 1, 0, none⟩) 1 1, .slice (some ⟨w.heap.size + 1 + 1 + 1 + 1, 0, none⟩) 1 1] 27)) (w.heap.size + 1) 41 [.int .u64 2] := (((((Bk.new' (w.alloc (.cells #[.int .i64 0] 3)) 41 [.int .u64 2] (g := w.heap.size + 1) (by simp)).alloc _).alloc _).alloc _).alloc _)
  have k2 : Bk ((((((w.alloc (.cells #[.int .i64 0] 3)).alloc (.cells #[.int .u64 2] 41)).alloc (.cells #[.int .u64 0] 41)).alloc (.cells #[.int .u64 0] 41)).alloc (.cells #[.slice (some ⟨w.heap.size + 1 + 1, 0, none⟩) 1 1, .slice (some ⟨w.heap.size + 1 + 1 + 1, 0, none⟩) 1 1, .slice none 0 0] 44)).alloc (.cells #[.int .i64 1, .int .i64 2, .int .i64 1, .slice none 0 0, .slice (some ⟨w.heap.size, 0, none⟩) 1 1, .slice (some ⟨w.heap.size + 1, 0, none⟩) 1 1, .slice (some ⟨w.heap.size + 1 + 1 + 1 + 1, 0, none⟩) 1 1] 27)) (w.heap.size + 1 + 1) 41 [.int .u64 0] := ((((Bk.new' ((w.alloc (.cells #[.int .i64 0] 3)).alloc (.cells #[.int .u64 2] 41)) 41 [.int .u64 0] (g := w.heap.size + 1 + 1) (by simp)).alloc _).alloc _).alloc _)
  have k3 : Bk ((((((w.alloc (.cells #[.int .i64 0] 3)).alloc (.cells #[.int .u64 2] 41)).alloc (.cells #[.int .u64 0] 41)).alloc (.cells #[.int .u64 0] 41)).alloc (.cells #[.slice (some ⟨w.heap.size + 1 + 1, 0, none⟩) 1 1, .slice (some ⟨w.heap.size + 1 + 1 + 1, 0, none⟩) 1 1, .slice none 0 0] 44)).alloc (.cells #[.int .i64 1, .int .i64 2, .int .i64 1, .slice none 0 0, .slice (some ⟨w.heap.size, 0, none⟩) 1 1, .slice (some ⟨w.heap.size + 1, 0, none⟩) 1 1, .slice (some ⟨w.heap.size + 1 + 1 + 1 + 1, 0, none⟩) 1 1] 27)) (w.heap.size + 1 + 1 + 1) 41 [.int .u64 0] := (((Bk.new' (((w.alloc (.cells #[.int .i64 0] 3)).alloc (.cells #[.int .u64 2] 41)).alloc (.cells #[.int .u64 0] 41)) 41 [.int .u64 0] (g := w.heap.size + 1 + 1 + 1) (by simp)).alloc _).alloc _)
  have k4 : Bk ((((((w.alloc (.cells #[.int .i64 0] 3)).alloc (.cells #[.int .u64 2] 41)).alloc (.cells #[.int .u64 0] 41)).alloc (.cells #[.int .u64 0] 41)).alloc (.cells #[.slice (some ⟨w.heap.size + 1 + 1, 0, none⟩) 1 1, .slice (some ⟨w.heap.size + 1 + 1 + 1, 0, none⟩) 1 1, .slice none 0 0] 44)).alloc (.cells #[.int .i64 1, .int .i64 2, .int .i64 1, .slice none 0 0, .slice (some ⟨w.heap.size, 0, none⟩) 1 1, .slice (some ⟨w.heap.size + 1, 0, none⟩) 1 1, .slice (some ⟨w.heap.size + 1 + 1 + 1 + 1, 0, none⟩) 1 1] 27)) (w.heap.size + 1 + 1 + 1 + 1) 44 [.slice (some ⟨w.heap.size + 1 + 1, 0, none⟩) 1 1, .slice (some ⟨w.heap.size + 1 + 1 + 1, 0, none⟩) 1 1, .slice none 0 0] := ((Bk.new' ((((w.alloc (.cells #[.int .i64 0] 3)).alloc (.cells #[.int .u64 2] 41)).alloc (.cells #[.int .u64 0] 41)).alloc (.cells #[.int .u64 0] 41)) 44 [.slice (some ⟨w.heap.size + 1 + 1, 0, none⟩) 1 1, .slice (some ⟨w.heap.size + 1 + 1 + 1, 0, none⟩) 1 1, .slice none 0 0] (g := w.heap.size + 1 + 1 + 1 + 1) (by simp)).alloc _)
  have k5 : Bk ((((((w.alloc (.cells #[.int .i64 0] 3)).alloc (.cells #[.int .u64 2] 41)).alloc (.cells #[.int .u64 0] 41)).alloc (.cells #[.int .u64 0] 41)).alloc (.cells #[.slice (some ⟨w.heap.size + 1 + 1, 0, none⟩) 1 1, .slice (some ⟨w.heap.size + 1 + 1 + 1, 0, none⟩) 1 1, .slice none 0 0] 44)).alloc (.cells #[.int .i64 1, .int .i64 2, .int .i64 1, .slice none 0 0, .slice (some ⟨w.heap.size, 0, none⟩) 1 1, .slice (some ⟨w.heap.size + 1, 0, none⟩) 1 1, .slice (some ⟨w.heap.size + 1 + 1 + 1 + 1, 0, none⟩) 1 1] 27)) (w.heap.size + 1 + 1 + 1 + 1 + 1) 27 [.int .i64 1, .int .i64 2, .int .i64 1, .slice none 0 0, .slice (some ⟨w.heap.size, 0, none⟩) 1 1, .slice (some ⟨w.heap.size + 1, 0, none⟩) 1 1, .slice (some ⟨w.heap.size + 1 + 1 + 1 + 1, 0, none⟩) 1 1] := (Bk.new' (((((w.alloc (.cells #[.int .i64 0] 3)).alloc (.cells #[.int .u64 2] 41)).alloc (.cells #[.int .u64 0] 41)).alloc (.cells #[.int .u64 0] 41)).alloc (.cells #[.slice (some ⟨w.heap.size + 1 + 1, 0, none⟩) 1 1, .slice (some ⟨w.heap.size + 1 + 1 + 1, 0, none⟩) 1 1, .slice none 0 0] 44)) 27 [.int .i64 1, .int .i64 2, .int .i64 1, .slice none 0 0, .slice (some ⟨w.heap.size, 0, none⟩) 1 1, .slice (some ⟨w.heap.size + 1, 0, none⟩) 1 1, .slice (some ⟨w.heap.size + 1 + 1 + 1 + 1, 0, none⟩) 1 1] (g := w.heap.size + 1 + 1 + 1 + 1 + 1) (by simp))
  have one : ∀ (g z : Nat), z < 18446744073709551616 → Bk ((((((w.alloc (.cells #[.int .i64 0] 3)).alloc (.cells #[.int .u64 2] 41)).alloc (.cells #[.int .u64 0] 41)).alloc (.cells #[.int .u64 0] 41)).alloc (.cells #[.slice (some ⟨w.heap.size + 1 + 1, 0, none⟩) 1 1, .slice (some ⟨w.heap.size + 1 + 1 + 1, 0, none⟩) 1 1, .slice none 0 0] 44)).alloc (.cells #[.int .i64 1, .int .i64 2, .int .i64 1, .slice none 0 0, .slice (some ⟨w.heap.size, 0, none⟩) 1 1, .slice (some ⟨w.heap.size + 1, 0, none⟩) 1 1, .slice (some ⟨w.heap.size + 1 + 1 + 1 + 1, 0, none⟩) 1 1] 27)) g 41 [.int .u64 (z : Nat)] → Ws ((((((w.alloc (.cells #[.int .i64 0] 3)).alloc (.cells #[.int .u64 2] 41)).alloc (.cells #[.int .u64 0] 41)).alloc (.cells #[.int .u64 0] 41)).alloc (.cells #[.slice (some ⟨w.heap.size + 1 + 1, 0, none⟩) 1 1, .slice (some ⟨w.heap.size + 1 + 1 + 1, 0, none⟩) 1 1, .slice none 0 0] 44)).alloc (.cells #[.int .i64 1, .int .i64 2, .int .i64 1, .slice none 0 0, .slice (some ⟨w.heap.size, 0, none⟩) 1 1, .slice (some ⟨w.heap.size + 1, 0, none⟩) 1 1, .slice (some ⟨w.heap.size + 1 + 1 + 1 + 1, 0, none⟩) 1 1] 27)) (.slice (some ⟨g, 0, none⟩) 1 1) [z] := fun g z hz h =>
    Bk.ws (a := [z]) h rfl (by intro y hy; rw [List.mem_singleton.1 hy]; exact hz)
  refine ⟨⟨⟨none, 0, rfl, by simp [awS]⟩, ⟨_, _, rfl, fun _ => ⟨_, 0, rfl, fun j hj => ?_⟩⟩, one _ 2 (by decide) k1, ⟨_, _, rfl, fun _ => ⟨_, 0, rfl, fun j hj => ?_⟩⟩⟩, ?_⟩
  · have h0 : j = 0 := by have h : j < 1 := hj; omega
    subst h0
    exact k0.cell 0
  · have h0 : j = 0 := by have h : j < 1 := hj; omega
    subst h0
    exact ⟨_, _, _, k4.cell 0, k4.cell 1, k4.cell 2, one _ 0 (by decide) k2, one _ 0 (by decide) k3, ⟨none, 0, rfl, by simp [trAt, awS]⟩⟩
  · exact ((((((Below.refl w.heap.size w).alloc (Nat.le_refl _) _).alloc (by simp <;> omega) _).alloc (by simp <;> omega) _).alloc (by simp <;> omega) _).alloc (by simp <;> omega) _).alloc (by simp <;> omega) _




end Go.Proofs.Ytfeipfemknnhhaa
