/-
  least.Solve: contract; soughlaw18.LeastIs: its walk. Written by wip/gen/mksysB.py.
-/
import Derived.Test.YtmidbfnmkfncgaaSysA
namespace Go.Proofs.Ytmidbfnmkfncgaa
open Go.RowKit

theorem below_same' {w w' : World} (h : w' = w) : Below w.heap.size w w' := by subst h; exact Below.refl _ _
theorem height_bd {what width : Int} (h : isL what width = true) : 0 ≤ heightE what width ∧ heightE what width ≤ 2048 := by
  have hw := isL_width h
  unfold heightE
  rw [if_pos h]
  split <;> omega
theorem prod_bd {s : SysT} (h : OkS s) : 0 ≤ s.nodes * heightE s.what s.width ∧ s.nodes * heightE s.what s.width ≤ 524288 := by
  obtain ⟨h1, h2⟩ := height_bd h.is
  have n1 := h.n1
  have n2 := h.n2
  refine ⟨Int.mul_nonneg (by omega) h1, ?_⟩
  have := Int.mul_le_mul n2 h2 h1 (by omega)
  omega
theorem solve_stops {s : SysT} (h : OkS s) (hs : LtS s) (hw : s.width ≤ 200) : ∃ N, N ≤ 1000000 ∧ iterE s N = iterE s (N + 1) := by
  obtain ⟨p1, p2⟩ := prod_bd h
  by_cases hx : ∃ N, N ≤ 1000000 ∧ iterE s N = iterE s (N + 1)
  · exact hx
  · exfalso
    have hk := steps_bound h hs hw ((s.nodes * heightE s.what s.width).toNat + 1) (fun j hj e => hx ⟨j, by omega, e⟩)
    omega
/-- Whether two are not alike. -/
def neP (a b : List (List Nat)) (_ : Nat) : Bool := !(decide (a = b))
theorem neP_off {a b : List (List Nat)} {k : Nat} (h : neP a b k = false) : a = b := by
  unfold neP at h
  rw [Bool.not_eq_false', decide_eq_true_eq] at h
  exact h
theorem neP_on {a b : List (List Nat)} {k : Nat} (h : neP a b k = true) : a ≠ b := by
  unfold neP at h
  rw [Bool.not_eq_true', decide_eq_false_iff_not] at h
  exact h
theorem neP_same {a b : List (List Nat)} {k : Nat} (h : a = b) : neP a b k = false := by unfold neP; rw [decide_eq_true h]; rfl

set_option maxHeartbeats 3200000 in
set_option maxRecDepth 100000 in
theorem lsolve_any (s : SysT) (ve vn vi vt : Value) (w : World) (hL : SysL w ve vn vi vt s) (hb : SysF s) (hw : OkS s → s.width ≤ 200) :
    Calls Try.prog 27 #[.agg #[.int .i64 s.what, .int .i64 s.width, .int .i64 s.nodes, ve, vn, vi, vt]] w fun e w' => ClimbR s neP w e w' := by
  have HS := Lib.hid hL
  obtain ⟨pe, ce, rfl⟩ := hL.1.len
  obtain ⟨pn, cn, rfl⟩ := hL.2.1.len
  obtain ⟨pi, ci, rfl⟩ := ws_len hL.2.2.1
  obtain ⟨pt, ct, rfl⟩ := hL.2.2.2.len
  have KS := Lib.hid (Bk.new w 27 [.int .i64 s.what, .int .i64 s.width, .int .i64 s.nodes, .slice pe s.E.length ce, .slice pn s.N.length cn, .slice pi s.I.length ci, .slice pt s.T.length ct])
  have B0 := Lib.hid ((Below.refl w.heap.size w).alloc (Nat.le_refl _) (.cells #[.int .i64 s.what, .int .i64 s.width, .int .i64 s.nodes, .slice pe s.E.length ce, .slice pn s.N.length cn, .slice pi s.I.length ci, .slice pt s.T.length ct] 27))
  have HS0 := Lib.hid (HS.out.below B0.out)
  clear hL
  have HF := Lib.hid hb
  clear hb

  have HLT := Lib.hid (ltS_of HS.out)
  obtain ⟨N, hN1, hN2⟩ : ∃ N, N ≤ 1000000 ∧ (checkS s = 0 → neP (iterE s N) (iterE s (N + 1)) N = false) := by
    by_cases h0 : checkS s = 0
    · obtain ⟨N, h1, h2⟩ := solve_stops (okS_of h0) HLT.out (hw (okS_of h0))
      exact ⟨N, h1, fun _ => neP_same h2⟩
    · exact ⟨0, by omega, fun h => absurd h h0⟩
  have HN := Lib.hid hN2
  clear hN2 hw
  go_enter Try.func27, Try.ntmps27
  go_wp2_with fail
  refine (climb_any 75 #[] neP N s _ _ _ _ _ (enters_of Try.func75 (by kernel_rfl) rfl) HS0.out HF.out (fun a b k va vb w1 h1 h2 h3 h4 h5 h6 _ => solve1_any va vb a b (k : Int) w1 h1 h2 h3 h4 h5 h6) HN.out hN1).mono ?_
  rintro e w1 (⟨h1, rfl, hB⟩ | ⟨h1, k, u, rfl, hV, hA, hB⟩)
  · have HNZ := Lib.hid h1
    have B1 := Lib.hid (B0.out.trans (hB.mono B0.out.size))
    clear h1 hB
    go_wp2_with fail
    go_ret3
    exact .inl ⟨HNZ.out, rfl, B1.out⟩
  · have HZ := Lib.hid h1
    have HV := Lib.hid hV
    have HA := Lib.hid hA
    have B1 := Lib.hid (B0.out.trans (hB.mono B0.out.size))
    obtain ⟨pu, cu, rfl⟩ := hV.len
    clear h1 hB hV hA
    go_wp2_with fail
    go_ret3
    exact .inr ⟨HZ.out, k, _, rfl, HV.out, HA.out, B1.out⟩


theorem aw_iter (k : Nat) (h : ClimbAt awS neP k) : k = 1 ∧ iterE awS k = [[2]] := by
  have h0 : iterE awS 0 ≠ iterE awS (0 + 1) := by decide +kernel
  have h1 : iterE awS 1 = iterE awS (1 + 1) := by decide +kernel
  have e : k = 1 := by
    rcases (show k = 0 ∨ k = 1 ∨ 1 < k by omega) with rfl | rfl | hk
    · exact absurd (neP_off h.off) h0
    · rfl
    · exact absurd h1 (neP_on (h.on 1 hk))
  subst e
  exact ⟨rfl, by decide +kernel⟩


theorem aw_sys (w : World) : SysL ((((((w.alloc (.cells #[.int .i64 0] 3)).alloc (.cells #[.int .u64 2] 85)).alloc (.cells #[.int .u64 0] 85)).alloc (.cells #[.int .u64 0] 85)).alloc (.cells #[.slice (some ⟨w.heap.size + 1 + 1, 0, none⟩) 1 1, .slice (some ⟨w.heap.size + 1 + 1 + 1, 0, none⟩) 1 1, .slice none 0 0] 88)).alloc (.cells #[.int .i64 1, .int .i64 2, .int .i64 1, .slice none 0 0, .slice (some ⟨w.heap.size, 0, none⟩) 1 1, .slice (some ⟨w.heap.size + 1, 0, none⟩) 1 1, .slice (some ⟨w.heap.size + 1 + 1 + 1 + 1, 0, none⟩) 1 1] 27)) (.slice none 0 0) (.slice (some ⟨w.heap.size, 0, none⟩) 1 1) (.slice (some ⟨w.heap.size + 1, 0, none⟩) 1 1) (.slice (some ⟨w.heap.size + 1 + 1 + 1 + 1, 0, none⟩) 1 1) awS ∧ Below w.heap.size w ((((((w.alloc (.cells #[.int .i64 0] 3)).alloc (.cells #[.int .u64 2] 85)).alloc (.cells #[.int .u64 0] 85)).alloc (.cells #[.int .u64 0] 85)).alloc (.cells #[.slice (some ⟨w.heap.size + 1 + 1, 0, none⟩) 1 1, .slice (some ⟨w.heap.size + 1 + 1 + 1, 0, none⟩) 1 1, .slice none 0 0] 88)).alloc (.cells #[.int .i64 1, .int .i64 2, .int .i64 1, .slice none 0 0, .slice (some ⟨w.heap.size, 0, none⟩) 1 1, .slice (some ⟨w.heap.size + 1, 0, none⟩) 1 1, .slice (some ⟨w.heap.size + 1 + 1 + 1 + 1, 0, none⟩) 1 1] 27)) := by
  have k0 : Bk ((((((w.alloc (.cells #[.int .i64 0] 3)).alloc (.cells #[.int .u64 2] 85)).alloc (.cells #[.int .u64 0] 85)).alloc (.cells #[.int .u64 0] 85)).alloc (.cells #[.slice (some ⟨w.heap.size + 1 + 1, 0, none⟩) 1 1, .slice (some ⟨w.heap.size + 1 + 1 + 1, 0, none⟩) 1 1, .slice none 0 0] 88)).alloc (.cells #[.int .i64 1, .int .i64 2, .int .i64 1, .slice none 0 0, .slice (some ⟨w.heap.size, 0, none⟩) 1 1, .slice (some ⟨w.heap.size + 1, 0, none⟩) 1 1, .slice (some ⟨w.heap.size + 1 + 1 + 1 + 1, 0, none⟩) 1 1] 27)) (w.heap.size) 3 [.int .i64 0] := ((((((Bk.new' w 3 [.int .i64 0] (g := w.heap.size) (by simp)).alloc _).alloc _).alloc _).alloc _).alloc _)
  have k1 : Bk ((((((w.alloc (.cells #[.int .i64 0] 3)).alloc (.cells #[.int .u64 2] 85)).alloc (.cells #[.int .u64 0] 85)).alloc (.cells #[.int .u64 0] 85)).alloc (.cells #[.slice (some ⟨w.heap.size + 1 + 1, 0, none⟩) 1 1, .slice (some ⟨w.heap.size + 1 + 1 + 1, 0, none⟩) 1 1, .slice none 0 0] 88)).alloc (.cells #[.int .i64 1, .int .i64 2, .int .i64 1, .slice none 0 0, .slice (some ⟨w.heap.size, 0, none⟩) 1 1, .slice (some ⟨w.heap.size + 1, 0, none⟩) 1 1, .slice (some ⟨w.heap.size + 1 + 1 + 1 + 1, 0, none⟩) 1 1] 27)) (w.heap.size + 1) 85 [.int .u64 2] := (((((Bk.new' (w.alloc (.cells #[.int .i64 0] 3)) 85 [.int .u64 2] (g := w.heap.size + 1) (by simp)).alloc _).alloc _).alloc _).alloc _)
  have k2 : Bk ((((((w.alloc (.cells #[.int .i64 0] 3)).alloc (.cells #[.int .u64 2] 85)).alloc (.cells #[.int .u64 0] 85)).alloc (.cells #[.int .u64 0] 85)).alloc (.cells #[.slice (some ⟨w.heap.size + 1 + 1, 0, none⟩) 1 1, .slice (some ⟨w.heap.size + 1 + 1 + 1, 0, none⟩) 1 1, .slice none 0 0] 88)).alloc (.cells #[.int .i64 1, .int .i64 2, .int .i64 1, .slice none 0 0, .slice (some ⟨w.heap.size, 0, none⟩) 1 1, .slice (some ⟨w.heap.size + 1, 0, none⟩) 1 1, .slice (some ⟨w.heap.size + 1 + 1 + 1 + 1, 0, none⟩) 1 1] 27)) (w.heap.size + 1 + 1) 85 [.int .u64 0] := ((((Bk.new' ((w.alloc (.cells #[.int .i64 0] 3)).alloc (.cells #[.int .u64 2] 85)) 85 [.int .u64 0] (g := w.heap.size + 1 + 1) (by simp)).alloc _).alloc _).alloc _)
  have k3 : Bk ((((((w.alloc (.cells #[.int .i64 0] 3)).alloc (.cells #[.int .u64 2] 85)).alloc (.cells #[.int .u64 0] 85)).alloc (.cells #[.int .u64 0] 85)).alloc (.cells #[.slice (some ⟨w.heap.size + 1 + 1, 0, none⟩) 1 1, .slice (some ⟨w.heap.size + 1 + 1 + 1, 0, none⟩) 1 1, .slice none 0 0] 88)).alloc (.cells #[.int .i64 1, .int .i64 2, .int .i64 1, .slice none 0 0, .slice (some ⟨w.heap.size, 0, none⟩) 1 1, .slice (some ⟨w.heap.size + 1, 0, none⟩) 1 1, .slice (some ⟨w.heap.size + 1 + 1 + 1 + 1, 0, none⟩) 1 1] 27)) (w.heap.size + 1 + 1 + 1) 85 [.int .u64 0] := (((Bk.new' (((w.alloc (.cells #[.int .i64 0] 3)).alloc (.cells #[.int .u64 2] 85)).alloc (.cells #[.int .u64 0] 85)) 85 [.int .u64 0] (g := w.heap.size + 1 + 1 + 1) (by simp)).alloc _).alloc _)
  have k4 : Bk ((((((w.alloc (.cells #[.int .i64 0] 3)).alloc (.cells #[.int .u64 2] 85)).alloc (.cells #[.int .u64 0] 85)).alloc (.cells #[.int .u64 0] 85)).alloc (.cells #[.slice (some ⟨w.heap.size + 1 + 1, 0, none⟩) 1 1, .slice (some ⟨w.heap.size + 1 + 1 + 1, 0, none⟩) 1 1, .slice none 0 0] 88)).alloc (.cells #[.int .i64 1, .int .i64 2, .int .i64 1, .slice none 0 0, .slice (some ⟨w.heap.size, 0, none⟩) 1 1, .slice (some ⟨w.heap.size + 1, 0, none⟩) 1 1, .slice (some ⟨w.heap.size + 1 + 1 + 1 + 1, 0, none⟩) 1 1] 27)) (w.heap.size + 1 + 1 + 1 + 1) 88 [.slice (some ⟨w.heap.size + 1 + 1, 0, none⟩) 1 1, .slice (some ⟨w.heap.size + 1 + 1 + 1, 0, none⟩) 1 1, .slice none 0 0] := ((Bk.new' ((((w.alloc (.cells #[.int .i64 0] 3)).alloc (.cells #[.int .u64 2] 85)).alloc (.cells #[.int .u64 0] 85)).alloc (.cells #[.int .u64 0] 85)) 88 [.slice (some ⟨w.heap.size + 1 + 1, 0, none⟩) 1 1, .slice (some ⟨w.heap.size + 1 + 1 + 1, 0, none⟩) 1 1, .slice none 0 0] (g := w.heap.size + 1 + 1 + 1 + 1) (by simp)).alloc _)
  have k5 : Bk ((((((w.alloc (.cells #[.int .i64 0] 3)).alloc (.cells #[.int .u64 2] 85)).alloc (.cells #[.int .u64 0] 85)).alloc (.cells #[.int .u64 0] 85)).alloc (.cells #[.slice (some ⟨w.heap.size + 1 + 1, 0, none⟩) 1 1, .slice (some ⟨w.heap.size + 1 + 1 + 1, 0, none⟩) 1 1, .slice none 0 0] 88)).alloc (.cells #[.int .i64 1, .int .i64 2, .int .i64 1, .slice none 0 0, .slice (some ⟨w.heap.size, 0, none⟩) 1 1, .slice (some ⟨w.heap.size + 1, 0, none⟩) 1 1, .slice (some ⟨w.heap.size + 1 + 1 + 1 + 1, 0, none⟩) 1 1] 27)) (w.heap.size + 1 + 1 + 1 + 1 + 1) 27 [.int .i64 1, .int .i64 2, .int .i64 1, .slice none 0 0, .slice (some ⟨w.heap.size, 0, none⟩) 1 1, .slice (some ⟨w.heap.size + 1, 0, none⟩) 1 1, .slice (some ⟨w.heap.size + 1 + 1 + 1 + 1, 0, none⟩) 1 1] := (Bk.new' (((((w.alloc (.cells #[.int .i64 0] 3)).alloc (.cells #[.int .u64 2] 85)).alloc (.cells #[.int .u64 0] 85)).alloc (.cells #[.int .u64 0] 85)).alloc (.cells #[.slice (some ⟨w.heap.size + 1 + 1, 0, none⟩) 1 1, .slice (some ⟨w.heap.size + 1 + 1 + 1, 0, none⟩) 1 1, .slice none 0 0] 88)) 27 [.int .i64 1, .int .i64 2, .int .i64 1, .slice none 0 0, .slice (some ⟨w.heap.size, 0, none⟩) 1 1, .slice (some ⟨w.heap.size + 1, 0, none⟩) 1 1, .slice (some ⟨w.heap.size + 1 + 1 + 1 + 1, 0, none⟩) 1 1] (g := w.heap.size + 1 + 1 + 1 + 1 + 1) (by simp))
  have one : ∀ (g z : Nat), z < 18446744073709551616 → Bk ((((((w.alloc (.cells #[.int .i64 0] 3)).alloc (.cells #[.int .u64 2] 85)).alloc (.cells #[.int .u64 0] 85)).alloc (.cells #[.int .u64 0] 85)).alloc (.cells #[.slice (some ⟨w.heap.size + 1 + 1, 0, none⟩) 1 1, .slice (some ⟨w.heap.size + 1 + 1 + 1, 0, none⟩) 1 1, .slice none 0 0] 88)).alloc (.cells #[.int .i64 1, .int .i64 2, .int .i64 1, .slice none 0 0, .slice (some ⟨w.heap.size, 0, none⟩) 1 1, .slice (some ⟨w.heap.size + 1, 0, none⟩) 1 1, .slice (some ⟨w.heap.size + 1 + 1 + 1 + 1, 0, none⟩) 1 1] 27)) g 85 [.int .u64 (z : Nat)] → Ws ((((((w.alloc (.cells #[.int .i64 0] 3)).alloc (.cells #[.int .u64 2] 85)).alloc (.cells #[.int .u64 0] 85)).alloc (.cells #[.int .u64 0] 85)).alloc (.cells #[.slice (some ⟨w.heap.size + 1 + 1, 0, none⟩) 1 1, .slice (some ⟨w.heap.size + 1 + 1 + 1, 0, none⟩) 1 1, .slice none 0 0] 88)).alloc (.cells #[.int .i64 1, .int .i64 2, .int .i64 1, .slice none 0 0, .slice (some ⟨w.heap.size, 0, none⟩) 1 1, .slice (some ⟨w.heap.size + 1, 0, none⟩) 1 1, .slice (some ⟨w.heap.size + 1 + 1 + 1 + 1, 0, none⟩) 1 1] 27)) (.slice (some ⟨g, 0, none⟩) 1 1) [z] := fun g z hz h =>
    Bk.ws (a := [z]) h rfl (by intro y hy; rw [List.mem_singleton.1 hy]; exact hz)
  refine ⟨⟨⟨none, 0, rfl, by simp [awS]⟩, ⟨_, _, rfl, fun _ => ⟨_, 0, rfl, fun j hj => ?_⟩⟩, one _ 2 (by decide) k1, ⟨_, _, rfl, fun _ => ⟨_, 0, rfl, fun j hj => ?_⟩⟩⟩, ?_⟩
  · have h0 : j = 0 := by have h : j < 1 := hj; omega
    subst h0
    exact k0.cell 0
  · have h0 : j = 0 := by have h : j < 1 := hj; omega
    subst h0
    exact ⟨_, _, _, k4.cell 0, k4.cell 1, k4.cell 2, one _ 0 (by decide) k2, one _ 0 (by decide) k3, ⟨none, 0, rfl, by simp [trAt, awS]⟩⟩
  · exact ((((((Below.refl w.heap.size w).alloc (Nat.le_refl _) _).alloc (by simp <;> omega) _).alloc (by simp <;> omega) _).alloc (by simp <;> omega) _).alloc (by simp <;> omega) _).alloc (by simp <;> omega) _

set_option maxHeartbeats 3200000 in
set_option maxRecDepth 100000 in
theorem law_any (w : World) :
    Calls Try.prog 26 #[] w fun e w' => e = .returned (.bool true) ∧ Below w.heap.size w w' := by
  obtain ⟨f1, f3⟩ := aw_sys w
  have F1 := Lib.hid f1
  have F3 := Lib.hid f3
  clear f1 f3
  go_enter Try.func26, Try.ntmps26
  go_wp2_with fail
  refine (lsolve_any awS _ _ _ _ _ F1.out awS_f (fun _ => by decide)).mono ?_
  rintro e w1 (⟨h1, rfl, hB⟩ | ⟨h1, k, u, rfl, hV, hA, hB⟩)
  · exact absurd (show checkS awS = 0 by decide +kernel) h1
  obtain ⟨rfl, hi⟩ := aw_iter k hA
  rw [hi] at hV
  have BB := Lib.hid (F3.out.trans (hB.mono F3.out.size))
  obtain ⟨o, c, rfl, hd⟩ := hV
  obtain ⟨b, off, rfl, hd2⟩ := hd (by decide)
  obtain ⟨u, e0, hW⟩ := hd2 0 (by decide)
  obtain ⟨p, c2, rfl, q⟩ := ws_row hW
  obtain ⟨ad, rfl, r⟩ := q (by decide)
  have e1 : w1.cell? ad = some (.int .u64 2) := by
    have h := r 0 (by decide)
    rw [show ad.add 0 = ad by cases ad with | mk b o s => cases s <;> rfl] at h
    exact h
  have e0 : w1.cell? ⟨b, off, none⟩ = some (.slice (some ad) 1 c2) := e0
  clear hB q r hW hd hd2 h1 hA hi
  go_wp2_with fail
  go_ret
  exact ⟨ret_bool (by first | rfl | simp), BB.out⟩

set_option maxHeartbeats 3200000 in
set_option maxRecDepth 100000 in
theorem leastIs_walk (s : SysT) (ve vn vi vt : Value) (va vb : Value) (a b : List (List Nat)) (w : World) (hL : SysL w ve vn vi vt s) (hb : SysB s) (ha : Vals w va a) (hb2 : Vals w vb b) (hna : a.length ≤ 9223372036854775807) (hnb : b.length ≤ 9223372036854775807) (hma : ValsB 9223372036854775807 a) (hmb : ValsB 9223372036854775807 b) :
    Calls Try.prog 5 #[.agg #[.int .i64 s.what, .int .i64 s.width, .int .i64 s.nodes, ve, vn, vi, vt], va, vb] w fun e w' => e = .returned (.bool true) ∧ Below w.heap.size w w' := by
  have HS := Lib.hid hL
  obtain ⟨pe, ce, rfl⟩ := hL.1.len
  obtain ⟨pn, cn, rfl⟩ := hL.2.1.len
  obtain ⟨pi, ci, rfl⟩ := ws_len hL.2.2.1
  obtain ⟨pt, ct, rfl⟩ := hL.2.2.2.len
  have KB := Lib.hid (Bk.new w 27 [.int .i64 s.what, .int .i64 s.width, .int .i64 s.nodes, .slice pe s.E.length ce, .slice pn s.N.length cn, .slice pi s.I.length ci, .slice pt s.T.length ct])
  have BB := Lib.hid ((Below.refl w.heap.size w).alloc (Nat.le_refl _) (.cells #[.int .i64 s.what, .int .i64 s.width, .int .i64 s.nodes, .slice pe s.E.length ce, .slice pn s.N.length cn, .slice pi s.I.length ci, .slice pt s.T.length ct] 27))
  have HY := Lib.hid (HS.out.below BB.out)
  clear hL
  have HF := Lib.hid hb
  have HMA := Lib.hid hma
  have HMB := Lib.hid hmb
  have HA := Lib.hid (ha.below BB.out)
  have HB := Lib.hid (hb2.below BB.out)
  obtain ⟨pa, ca, rfl⟩ := ha.len
  obtain ⟨pb, cb, rfl⟩ := hb2.len
  have HVL := Lib.hid (And.intro (ltA_of ha) (And.intro (ltA_of hb2) (ltS_of HS.out)))
  clear ha hb2 hma hmb hb HS
  go_enter Try.func5, Try.ntmps5
  go_wp2_with fail
  refine (law_any _).mono ?_
  rintro e w1 ⟨rfl, hB⟩
  have BB := Lib.hid (BB.out.trans (hB.mono BB.out.size))
  have HY := Lib.hid (HY.out.below hB)
  have HA := Lib.hid (HA.out.below hB)
  have HB := Lib.hid (HB.out.below hB)
  have KB := Lib.hid (KB.out.below hB)
  obtain ⟨c0, c1, c2, c3, c4, c5, c6⟩ := KB.out.seven
  clear hB
  go_wp2_with fail
  refine (rsmall_any s _ _ _ _ _ HY.out HF.out).mono ?_
  rintro e w2 ⟨⟨b, rfl, hbT⟩, hB⟩
  have BB := Lib.hid (BB.out.trans (hB.mono BB.out.size))
  have HY := Lib.hid (HY.out.below hB)
  have HA := Lib.hid (HA.out.below hB)
  have HB := Lib.hid (HB.out.below hB)
  have KB := Lib.hid (KB.out.below hB)
  clear c0 c1 c2 c3 c4 c5 c6
  obtain ⟨c0, c1, c2, c3, c4, c5, c6⟩ := KB.out.seven
  clear hB
  cases b with
  | false =>
    clear hbT
    go_wp2_with fail
    go_ret
    exact ⟨rfl, BB.out⟩
  | true =>
    have SM := Lib.hid (hbT rfl)
    clear hbT
    have SF := Lib.hid SM.out.f
    go_wp2_with fail
    refine (rfew_any _ a _ HA.out hna HMA.out).mono ?_
    rintro e w3 ⟨⟨b, rfl, hbT⟩, hww⟩
    subst w3
    cases b with
    | false =>
      clear hbT
      go_wp2_with fail
      go_ret
      exact ⟨rfl, BB.out⟩
    | true =>
      have FA := Lib.hid (hbT rfl)
      clear hbT
      go_wp2_with fail
      refine (rfew_any _ b _ HB.out hnb HMB.out).mono ?_
      rintro e w4 ⟨⟨b, rfl, hbT⟩, hww⟩
      subst w4
      cases b with
      | false =>
        clear hbT
        go_wp2_with fail
        go_ret
        exact ⟨rfl, BB.out⟩
      | true =>
        have FB := Lib.hid (hbT rfl)
        clear hbT
        have la : a.length ≤ 12 := FA.out.1
        have lb : b.length ≤ 12 := FB.out.1
        have VA := Lib.hid (show ValsB 100000 a from fun j hj => by have := FA.out.2 j hj; omega)
        have VB := Lib.hid (show ValsB 100000 b from fun j hj => by have := FB.out.2 j hj; omega)
        obtain ⟨ce, hce⟩ : ∃ z, z = checkS s := ⟨_, rfl⟩
        have NC := Lib.hid hce
        clear hce
        go_wp2_with fail
        refine (scheck_any s _ _ _ _ _ HY.out SF.out).mono ?_
        rintro e w5 ⟨rfl, hB⟩
        have BB := Lib.hid (BB.out.trans (hB.mono BB.out.size))
        have HY := Lib.hid (HY.out.below hB)
        have HA := Lib.hid (HA.out.below hB)
        have HB := Lib.hid (HB.out.below hB)
        have KB := Lib.hid (KB.out.below hB)
        clear c0 c1 c2 c3 c4 c5 c6
        obtain ⟨c0, c1, c2, c3, c4, c5, c6⟩ := KB.out.seven
        clear hB
        rw [← NC.out]
        by_cases h0 : ce = 0
        case neg =>
          have hnb : (ce != 0) = true := by simpa using h0
          clear h0
          go_wp2_with fail
          go_ret
          exact ⟨rfl, BB.out⟩
        have OK := Lib.hid (okS_of (NC.out.symm.trans h0))
        have HC0 := Lib.hid (NC.out.symm.trans h0)
        subst h0
        have HW := Lib.hid (SM.out.ok OK.out)
        go_wp2_with fail
        refine (lsolve_any s _ _ _ _ _ HY.out SF.out (fun _ => by have := HW.out.2; omega)).mono ?_
        rintro e w6 (⟨h1, _, _⟩ | ⟨_, k, u, rfl, hV, hAT, hB⟩)
        · exact absurd HC0.out h1
        have BB := Lib.hid (BB.out.trans (hB.mono BB.out.size))
        have HY := Lib.hid (HY.out.below hB)
        have HA := Lib.hid (HA.out.below hB)
        have HB := Lib.hid (HB.out.below hB)
        have KB := Lib.hid (KB.out.below hB)
        clear c0 c1 c2 c3 c4 c5 c6
        obtain ⟨c0, c1, c2, c3, c4, c5, c6⟩ := KB.out.seven
        have HX := Lib.hid hV
        have HAT := Lib.hid hAT
        obtain ⟨pu, cu, rfl⟩ := hV.len
        clear hB hV hAT
        have LX := Lib.hid (iter_lens OK.out HVL.out.2.2 k)
        have VX := Lib.hid (iter_ok OK.out HVL.out.2.2 k)
        have SX := Lib.hid (show solvesE s (iterE s k) = true by
          unfold solvesE
          rw [sc_ok HC0.out VX.out.1, decide_eq_true rfl, Bool.true_and, decide_eq_true_eq]
          exact neP_off HAT.out.off)
        have hkb : (k : Int) ≤ s.nodes * heightE s.what s.width := steps_bound OK.out HVL.out.2.2 (by have := HW.out.2; omega) k (fun j hj => neP_on (HAT.out.on j hj))
        obtain ⟨pb1, pb2⟩ := prod_bd OK.out
        obtain ⟨ph, hph⟩ : ∃ z, z = s.nodes * heightE s.what s.width := ⟨_, rfl⟩
        have HPH := Lib.hid hph
        rw [← hph] at hkb pb1 pb2
        have hwr : IntKind.i64.wrap (s.nodes * heightE s.what s.width) = ph := by rw [← hph]; exact IntWalk.i64_in _ (by omega)
        have hwr2 : wrap64 (s.nodes * heightE s.what s.width) = ph := by rw [← hwr, IntWalk.i64_left]
        clear hph
        go_wp2_with fail
        go_region_held3 (fun w' => w'.cell? ⟨w.heap.size, 0, none⟩ = some (.int .i64 s.what) ∧ w'.cell? ⟨w.heap.size, 1, none⟩ = some (.int .i64 s.width) ∧ w'.cell? ⟨w.heap.size, 2, none⟩ = some (.int .i64 s.nodes) ∧ w'.cell? ⟨w.heap.size, 3, none⟩ = some (.slice pe s.E.length ce) ∧ w'.cell? ⟨w.heap.size, 4, none⟩ = some (.slice pn s.N.length cn) ∧ w'.cell? ⟨w.heap.size, 5, none⟩ = some (.slice pi s.I.length ci) ∧ w'.cell? ⟨w.heap.size, 6, none⟩ = some (.slice pt s.T.length ct) ∧ Below w6.heap.size w6 w')
          (first
            | exact ⟨c0, c1, c2, c3, c4, c5, c6, (Below.refl _ _).drew⟩
            | (go_split_ands; exact ⟨keepc (by assumption) hB, keepc (by assumption) hB, keepc (by assumption) hB, keepc (by assumption) hB, keepc (by assumption) hB, keepc (by assumption) hB, keepc (by assumption) hB, bel_then (by assumption) hB⟩))
          (first
            | (go_at_call 28; go_split_ands; refine (ssolves_any s _ _ _ _ _ (iterE s k) _ (HY.out.below (by assumption)) SF.out (HX.out.below (by assumption)) (by have := LX.out.1; omega) LX.out.2).mono ?_; rintro e w' ⟨rfl, hB⟩; rw [SX.out])
            | (go_at_call 29; refine (rlheight_any s.what s.width _).mono ?_; rintro e w' ⟨rfl, hww⟩; have hB := below_same' hww; clear hww))
        all_goals
          go_split_ands
          have hB := (show Below w6.heap.size w6 _ from by assumption)
          have BB := Lib.hid (BB.out.trans (hB.mono BB.out.size))
          have HY := Lib.hid (HY.out.below hB)
          have HA := Lib.hid (HA.out.below hB)
          have HB := Lib.hid (HB.out.below hB)
          have HX := Lib.hid (HX.out.below hB)
          have KB := Lib.hid (KB.out.below hB)
          have KQ := Lib.hid (Bk.new w' 35 [.slice pa a.length ca, .slice pb b.length cb])
          have ba := (Below.refl w'.heap.size w').alloc (Nat.le_refl _) (.cells #[.slice pa a.length ca, .slice pb b.length cb] 35)
          have BA := Lib.hid ba
          clear c0 c1 c2 c3 c4 c5 c6
          clear ba
          go_wp2_with fail
          clear hwr hwr2 hkb pb1 pb2
          go_loopw [64] (fun i wr => ∃ j : Nat, j ≤ 2 ∧ i = .int .i64 j ∧ Below w'.heap.size w' wr ∧ Bk wr w'.heap.size 35 [.slice pa a.length ca, .slice pb b.length cb])
            (fun i _ => 2 - (intOf i).toNat)
          case atStart => exact ⟨0, by omega, rfl, BA.out, KQ.out⟩
          case round =>
            obtain ⟨j, hj, rfl, hW, hK⟩ := hrel
            have BW := Lib.hid hW
            have KW := Lib.hid hK
            have KS3 := Lib.hid (KB.out.below hW)
            clear hW hK
            obtain ⟨c0, c1, c2, c3, c4, c5, c6⟩ := KS3.out.seven
            by_cases hlt : j < 2
            · obtain ⟨y, py, cy, hcell, hV, hl, hby, hlt64⟩ : ∃ (y : List (List Nat)) (py : Option Addr) (cy : Nat), wr.cell? ⟨w'.heap.size, j, none⟩ = some (.slice py y.length cy) ∧ Vals wr (.slice py y.length cy) y ∧ y.length ≤ 12 ∧ ValsB 20 y ∧ LtA y := by
                rcases (show j = 0 ∨ j = 1 by omega) with rfl | rfl
                · exact ⟨a, pa, ca, KW.out.cell 0, HA.out.below BW.out, la, FA.out.2, HVL.out.1⟩
                · exact ⟨b, pb, cb, KW.out.cell 1, HB.out.below BW.out, lb, FB.out.2, HVL.out.2.1⟩
              have HYV := Lib.hid hV
              have HYB := Lib.hid (show ValsB 100000 y from fun i hi => by have := hby i hi; omega)
              have HYL := Lib.hid hlt64
              have hji : (j : Int) < 2 := by omega
              clear hV hby hlt64
              go_wp2_with fail
              refine (sStep_any s _ _ _ _ _ y _ (HY.out.below BW.out) SF.out HYV.out (by omega) HYB.out).mono ?_
              rintro e v1 ⟨u1, rfl, hV1, hB⟩
              have V1 := Lib.hid (BW.out.trans (hB.mono BW.out.size))
              have KW1 := Lib.hid (KW.out.below hB)
              have KS1 := Lib.hid (KS3.out.below hB)
              have HYV1 := Lib.hid (HYV.out.below hB)
              obtain ⟨se, hse⟩ : ∃ z, z = stepC s y := ⟨_, rfl⟩
              have NS := Lib.hid hse
              rw [← hse] at hV1 ⊢
              clear hse hB c0 c1 c2 c3 c4 c5 c6 hcell
              obtain ⟨c0, c1, c2, c3, c4, c5, c6⟩ := KS1.out.seven
              by_cases h0 : se = 0
              · subst h0
                rw [okV_yes] at hV1
                have hvy : valuesE s y = true := by
                  have h := NS.out
                  unfold stepC at h
                  rw [if_pos HC0.out] at h
                  split at h
                  · assumption
                  · exact absurd h (by decide)
                have HVY := Lib.hid hvy
                have HZ := Lib.hid hV1
                have hsv := step_values OK.out HVL.out.2.2 HYL.out hvy
                have HSV := Lib.hid hsv
                obtain ⟨p1, k1, rfl⟩ := hV1.len
                clear hV1 hvy hsv
                go_wp2_with fail
                refine (sBelow_any s _ _ _ _ _ _ (stepE s y) y _ (HY.out.below V1.out) SF.out HZ.out HYV1.out (by rw [step_len]; have := OK.out.n2; omega) (vals_small HSV.out.1) (by omega) HYB.out).mono ?_
                rintro e v2 ⟨rfl, hB⟩
                have V2 := Lib.hid (V1.out.trans (hB.mono V1.out.size))
                have KW2 := Lib.hid (KW1.out.below hB)
                have KS2 := Lib.hid (KS1.out.below hB)
                have HYV2 := Lib.hid (HYV1.out.below hB)
                clear hB c0 c1 c2 c3 c4 c5 c6
                obtain ⟨c0, c1, c2, c3, c4, c5, c6⟩ := KS2.out.seven
                cases hbz : sbelowE s (stepE s y) y with
                | false =>
                  clear hbz
                  go_wp2_with fail
                  go_roundw
                  case rel => exact ⟨j + 1, by omega, by go_num, V2.out, KW2.out⟩
                  case measure => simp [intOf]; omega
                | true =>
                  have HFIN := Lib.hid (show sbelowE s (iterE s k) y = true from below_mk HC0.out VX.out.1 HVY.out (iter_below OK.out HVL.out.2.2 HYL.out HVY.out (below_yes hbz).2.2.2 k))
                  clear hbz
                  go_wp2_with fail
                  refine (sBelow_any s _ _ _ _ _ _ (iterE s k) y _ (HY.out.below V2.out) SF.out (HX.out.below V2.out) HYV2.out (by have := LX.out.1; omega) LX.out.2 (by omega) HYB.out).mono ?_
                  rintro e v3 ⟨rfl, hB⟩
                  have V3 := Lib.hid (V2.out.trans (hB.mono V2.out.size))
                  have KW3 := Lib.hid (KW2.out.below hB)
                  clear hB c0 c1 c2 c3 c4 c5 c6
                  rw [HFIN.out]
                  go_wp2_with fail
                  go_roundw
                  case rel => exact ⟨j + 1, by omega, by go_num, V3.out, KW3.out⟩
                  case measure => simp [intOf]; omega
              · have hnb : (se == 0) = false := by simpa using h0
                obtain ⟨p1, k1, rfl⟩ := hV1.len
                clear h0 hV1
                go_wp2_with fail
                go_roundw
                case rel => exact ⟨j + 1, by omega, by go_num, V1.out, KW1.out⟩
                case measure => simp [intOf]; omega
            · obtain rfl : j = 2 := by omega
              have BZ := Lib.hid (BB.out.trans (BW.out.mono BB.out.size))
              go_wp2_with fail
              go_ret
              exact ⟨rfl, BZ.out⟩


end Go.Proofs.Ytmidbfnmkfncgaa
