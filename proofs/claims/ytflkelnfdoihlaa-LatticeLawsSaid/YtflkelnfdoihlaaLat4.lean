/-
  lattice.Join, Below, Rank: contracts.
-/
import Derived.Test.YtflkelnfdoihlaaLat3
import Derived.Deep.CutRange
import Derived.Deep.DeepCutAuto
import Derived.Outline
namespace Go.Proofs.Ytflkelnfdoihlaa
open Go.RowKit

set_option maxHeartbeats 3200000 in
set_option maxRecDepth 100000 in
theorem join1_any (what : Int) (i : Nat) (g1 g2 g3 : Nat) (v1 v2 : Value) (a b : List Nat) (w : World) (hw : w.cell? ⟨g1, 0, none⟩ = some (.int .i64 what)) (ha : w.cell? ⟨g2, 0, none⟩ = some v1) (hb : w.cell? ⟨g3, 0, none⟩ = some v2)
    (h1 : Ws w v1 a) (h2 : Ws w v2 b) (hi : i < a.length) (hj : i < b.length) (hn : a.length ≤ 100000) (hm : b.length ≤ 100000) :
    Calls Try.prog 53 #[.int .i64 (i : Nat), .pointer (some ⟨g1, 0, none⟩), .pointer (some ⟨g2, 0, none⟩), .pointer (some ⟨g3, 0, none⟩)] w fun e w' => e = .returned (.int .u64 (wordE what (wAt a i) (wAt b i) : Nat)) ∧ Below w.heap.size w w' := by
  have hx := wAt_lt h1.1 i
  have hy := wAt_lt h2.1 i
  obtain ⟨p1, c1, rfl, q1⟩ := ws_row h1
  obtain ⟨p2, c2, rfl, q2⟩ := ws_row h2
  obtain ⟨a1, rfl, r1⟩ := q1 (by omega)
  obtain ⟨a2, rfl, r2⟩ := q2 (by omega)
  have e1 : w.cell? (a1.add i) = some (.int .u64 (wAt a i : Nat)) := r1 i hi
  have e2 : w.cell? (a2.add i) = some (.int .u64 (wAt b i : Nat)) := r2 i hj
  have H := Lib.hid (And.intro hw (And.intro ha (And.intro hb (And.intro e1 e2))))
  have hii : (i : Int) < a.length := by omega
  have hij : (i : Int) < b.length := by omega
  clear hw ha hb e1 e2 q1 q2 r1 r2 h1 h2
  generalize wAt a i = x at *
  generalize wAt b i = y at *
  go_enter Try.func53, Try.ntmps53
  go_wp2_with fail
  go_region_held3 (fun w' => w'.cell? ⟨g1, 0, none⟩ = some (.int .i64 what) ∧ w'.cell? ⟨g2, 0, none⟩ = some (.slice (some a1) a.length c1) ∧ w'.cell? ⟨g3, 0, none⟩ = some (.slice (some a2) b.length c2) ∧ w'.cell? (a1.add i) = some (.int .u64 (x : Nat)) ∧ w'.cell? (a2.add i) = some (.int .u64 (y : Nat)) ∧ Below w.heap.size w w')
    (first
      | exact ⟨H.out.1, H.out.2.1, H.out.2.2.1, H.out.2.2.2.1, H.out.2.2.2.2, (Below.refl _ _).drew⟩
      | (go_split_ands; exact ⟨keepc (by assumption) hB, keepc (by assumption) hB, keepc (by assumption) hB, keepc (by assumption) hB, keepc (by assumption) hB, bel_then (by assumption) hB⟩))
    (first
      | (go_at_call 24; refine (lword_any what x y _ hx hy).mono ?_; rintro e w' ⟨rfl, hB⟩))
  all_goals
    go_split_ands
    go_wp2_with fail
    go_ret
    exact ⟨rfl, by assumption⟩

theorem check_zero {what width : Int} {ls : List (List Nat)} (h : checkE what width ls = 0) : isL what width = true ∧ ∀ a ∈ ls, valueE what width a = true := by
  unfold checkE at h
  split at h
  · next hL =>
    split at h
    · next ha => exact ⟨hL, List.all_eq_true.1 ha⟩
    · omega
  · omega
theorem range_both (what : Int) {a b : List Nat} {n : Nat} (ha : a.length = n) (hb : b.length = n) : (List.range n).map (fun i => wordE what (wAt a i) (wAt b i)) = joinE what a b := by
  unfold joinE bothE
  rw [show max a.length b.length = n by omega]

set_option maxHeartbeats 3200000 in
set_option maxRecDepth 100000 in
theorem ljoin_any (what width : Int) (v1 v2 : Value) (a b : List Nat) (w : World) (h1 : Ws w v1 a) (h2 : Ws w v2 b) (hn : a.length ≤ 100000) (hm : b.length ≤ 100000) :
    Calls Try.prog 22 #[.int .i64 what, .int .i64 width, v1, v2] w fun e w' =>
      ∃ u, e = .returned (.tuple #[u, .int .i64 (checkE what width [a, b])]) ∧ Ws w' u (if checkE what width [a, b] = 0 then joinE what a b else []) ∧ Below w.heap.size w w' := by
  have H1 := Lib.hid h1
  have H2 := Lib.hid h2
  obtain ⟨p1, c1, rfl⟩ := ws_len h1
  obtain ⟨p2, c2, rfl⟩ := ws_len h2
  clear h1 h2
  go_enter Try.func22, Try.ntmps22
  go_wp2_with fail
  have K1 := Lib.hid ((((Bk.new w 3 [.int .i64 what]).alloc (.cells #[.slice p1 a.length c1] 22)).alloc (.cells #[.slice p2 b.length c2] 22)).alloc (.cells #[.slice p1 a.length c1, .slice p2 b.length c2] 22))
  have K2 := Lib.hid (((Bk.new' (w.alloc (.cells #[.int .i64 what] 3)) 22 [.slice p1 a.length c1] (g := w.heap.size + 1) (by simp)).alloc (.cells #[.slice p2 b.length c2] 22)).alloc (.cells #[.slice p1 a.length c1, .slice p2 b.length c2] 22))
  have K3 := Lib.hid ((Bk.new' ((w.alloc (.cells #[.int .i64 what] 3)).alloc (.cells #[.slice p1 a.length c1] 22)) 22 [.slice p2 b.length c2] (g := w.heap.size + 1 + 1) (by simp)).alloc (.cells #[.slice p1 a.length c1, .slice p2 b.length c2] 22))
  have B3 : Below w.heap.size w (((w.alloc (.cells #[.int .i64 what] 3)).alloc (.cells #[.slice p1 a.length c1] 22)).alloc (.cells #[.slice p2 b.length c2] 22)) :=
    (((Below.refl _ w).alloc (Nat.le_refl _) _).alloc (by simp) _).alloc (by simp; omega) _
  have hS := Sets.two 22 (H1.out.below B3) (H2.out.below B3)
  have B4 := Lib.hid (B3.alloc (by simp; omega) (.cells #[.slice p1 a.length c1, .slice p2 b.length c2] 22))
  simp only [World.size_alloc] at hS
  refine (check_any what width _ [a, b] _ hS (by simp; omega) (by simp)).mono ?_
  rintro e w5 ⟨rfl, hB⟩
  have B5 := Lib.hid (B4.out.trans (hB.mono B4.out.size))
  have K1 := Lib.hid (K1.out.below hB)
  have K2 := Lib.hid (K2.out.below hB)
  have K3 := Lib.hid (K3.out.below hB)
  have H1' := Lib.hid (H1.out.below B5.out)
  have H2' := Lib.hid (H2.out.below B5.out)
  clear hS hB B3 B4
  have HCE := Lib.hid (@check_zero what width [a, b])
  have hc1 := K1.out.cell 0
  have hc2 := K2.out.cell 0
  have hc3 := K3.out.cell 0
  by_cases h0 : checkE what width [a, b] = 0
  · have HZ0 := Lib.hid h0
    rw [h0]
    obtain ⟨hL, hv⟩ := HCE.out h0
    have va := value_len (hv a (by simp))
    have vb := value_len (hv b (by simp))
    have HR := Lib.hid (range_both what va vb)
    have la := Lib.hid va
    have lb := Lib.hid vb
    clear HCE hv hL h0 va vb
    go_wp2_with fail
    refine (mkwords_any 53 #[.pointer (some ⟨w.heap.size, 0, none⟩), .pointer (some ⟨w.heap.size + 1, 0, none⟩), .pointer (some ⟨w.heap.size + 1 + 1, 0, none⟩)] (fun i => wordE what (wAt a i) (wAt b i)) what width _ (enters_of Try.func53 (by kernel_rfl) rfl)
      (fun i w1 hi hB => by
        have := la.out
        have := lb.out
        exact join1_any what i _ _ _ _ _ a b w1 ((K1.out.below hB).cell 0) ((K2.out.below hB).cell 0) ((K3.out.below hB).cell 0) (H1'.out.below hB) (H2'.out.below hB) (by omega) (by omega) hn hm)
      (fun i _ => wordE_lt what _ _ (wAt_lt H1'.out.1 i) (wAt_lt H2'.out.1 i))).mono ?_
    rintro e w6 ⟨u, rfl, hW, hB⟩
    rw [HR.out] at hW
    have HW := Lib.hid hW
    have B6 := Lib.hid (B5.out.trans (hB.mono B5.out.size))
    obtain ⟨p3, c3, rfl⟩ := ws_len hW
    clear hW hB
    go_wp2_with fail
    go_ret2
    exact ⟨_, rfl, HW.out, B6.out⟩
  · have HZ0 := Lib.hid h0
    have hb : (checkE what width [a, b] != 0) = true := by simp; omega
    obtain ⟨ce, hce⟩ : ∃ ce, ce = checkE what width [a, b] := ⟨_, rfl⟩
    have HCe := Lib.hid hce
    rw [← hce] at hb ⊢
    clear HCE h0 hce
    go_wp2_with fail
    go_ret2
    exact ⟨.slice none 0 0, by rw [HCe.out]; rfl, ⟨by simp, .inl ⟨rfl, rfl⟩⟩, B5.out⟩

theorem lbelow_val {what width : Int} {a b : List Nat} (va : valueE what width a = true) (vb : valueE what width b = true) (h : ∀ i, i < a.length → wordE what (wAt a i) (wAt b i) = wAt b i) : belowE what a b = true := by
  rw [belowE_iff what (by rw [value_len va, value_len vb])]
  intro i
  by_cases hi : i < a.length
  · exact h i hi
  · have e1 : wAt a i = 0 := by unfold wAt; rw [List.getElem?_eq_none (by omega)]; rfl
    have e2 : wAt b i = 0 := by unfold wAt; rw [List.getElem?_eq_none (by have := value_len va; have := value_len vb; omega)]; rfl
    rw [e1, e2]; exact wordE_zero what
theorem lbelow_not {what width : Int} {a b : List Nat} (va : valueE what width a = true) (vb : valueE what width b = true) (i : Nat) (h : wordE what (wAt a i) (wAt b i) ≠ wAt b i) : belowE what a b = false := by
  rw [Bool.eq_false_iff]
  intro h2
  rw [belowE_iff what (by rw [value_len va, value_len vb])] at h2
  exact h (h2 i)

set_option maxHeartbeats 6400000 in
set_option maxRecDepth 100000 in
theorem lbelow_any (what width : Int) (v1 v2 : Value) (a b : List Nat) (w : World) (h1 : Ws w v1 a) (h2 : Ws w v2 b) (hn : a.length ≤ 100000) (hm : b.length ≤ 100000) :
    Calls Try.prog 27 #[.int .i64 what, .int .i64 width, v1, v2] w fun e w' => e = .returned (.bool (decide (checkE what width [a, b] = 0) && belowE what a b)) ∧ Below w.heap.size w w' := by
  have H1 := Lib.hid h1
  have H2 := Lib.hid h2
  have hS := Sets.two 22 h1 h2
  obtain ⟨p1, c1, rfl, q1⟩ := ws_row h1
  obtain ⟨p2, c2, rfl, q2⟩ := ws_row h2
  have C1 := Lib.hid q1
  have C2 := Lib.hid q2
  have HS := Lib.hid hS
  have B0 := Lib.hid ((Below.refl w.heap.size w).alloc (Nat.le_refl _) (.cells #[.slice p1 a.length c1, .slice p2 b.length c2] 22))
  clear h1 h2 hS q1 q2
  go_enter Try.func27, Try.ntmps27
  go_wp2_with fail
  refine (check_any what width _ [a, b] _ HS.out (by simp; omega) (by simp)).mono ?_
  rintro e w1 ⟨rfl, hB⟩
  have B1 := Lib.hid (B0.out.trans (hB.mono B0.out.size))
  clear hB HS B0
  by_cases h0 : checkE what width [a, b] = 0
  · have HZ0 := Lib.hid h0
    obtain ⟨hL, hv⟩ := check_zero h0
    have va := hv a (by simp)
    have vb := hv b (by simp)
    have hab : a.length = b.length := by rw [value_len va, value_len vb]
    have HT := Lib.hid (fun h => lbelow_val va vb h)
    have HF := Lib.hid (fun i h => lbelow_not va vb i h)
    have HAB := Lib.hid hab
    rw [h0]
    clear hv hL h0 va vb hab
    go_wp2_with fail
    go_loopw [19] (fun i wr => ∃ k : Nat, k ≤ a.length ∧ i = .int .i64 k ∧ Hid (∀ i, i < k → wordE what (wAt a i) (wAt b i) = wAt b i) ∧ Below w.heap.size w wr)
      (fun i _ => a.length - (intOf i).toNat)
    case atStart => exact ⟨0, Nat.zero_le _, rfl, Lib.hid (fun i h => by omega), B1.out⟩
    case round =>
      obtain ⟨k, hk, rfl, HA, hB⟩ := hrel
      have HB := Lib.hid hB
      clear hB
      by_cases hlt : k < a.length
      · obtain ⟨a1, rfl, r1⟩ := C1.out (by omega)
        have hltb : k < b.length := by have := HAB.out; omega
        obtain ⟨a2, rfl, r2⟩ := C2.out (by omega)
        have e1 : wr.cell? (a1.add k) = some (.int .u64 (wAt a k : Nat)) := keepc (r1 k hlt) HB.out
        have e2 : wr.cell? (a2.add k) = some (.int .u64 (wAt b k : Nat)) := keepc (r2 k hltb) HB.out
        have HE := Lib.hid (And.intro e1 e2)
        have hii : (k : Int) < a.length := by omega
        have hij : (k : Int) < b.length := by omega
        have HFk := Lib.hid (HF.out k)
        have HSn := Lib.hid (show wordE what (wAt a k) (wAt b k) = wAt b k → ∀ i, i < k + 1 → wordE what (wAt a i) (wAt b i) = wAt b i from fun e i hi => by
          rcases (show i < k ∨ i = k by omega) with h | rfl
          · exact HA.out i h
          · exact e)
        have hx := wAt_lt H1.out.1 k
        have hy := wAt_lt H2.out.1 k
        clear r1 r2 e1 e2
        generalize wAt a k = x at *
        generalize wAt b k = y at *
        go_upto_if 36 with (fail)
        go_cut [36] from 22 to 36 (fun v wx => v = .bool (((wordE what x y : Nat) : Int) != ((y : Nat) : Int)) ∧ Below w.heap.size w wx)
        case first =>
          go_region_held3 (fun w' => w'.cell? (a1.add k) = some (.int .u64 (x : Nat)) ∧ w'.cell? (a2.add k) = some (.int .u64 (y : Nat)) ∧ Below w.heap.size w w')
            (first
              | exact ⟨HE.out.1, HE.out.2, HB.out.drew⟩
              | (go_split_ands; exact ⟨keepc (by assumption) hB, keepc (by assumption) hB, bel_then (by assumption) hB⟩))
            (first
              | (go_at_call 24; refine (lword_any what x y _ hx hy).mono ?_; rintro e w' ⟨rfl, hB⟩))
          all_goals
            go_split_ands
            go_wp2_with fail
            go_meet
            case rel => exact ⟨rfl, by assumption⟩
        case rest =>
          obtain ⟨rfl, hB2⟩ := hcut
          have HB2 := Lib.hid hB2
          clear hB2
          by_cases hxy : wordE what x y = y
          · have HS2 := Lib.hid (HSn.out hxy)
            have hbb : (((wordE what x y : Nat) : Int) != ((y : Nat) : Int)) = false := by rw [hxy]; simp
            rw [hbb]
            clear hxy hbb
            go_wp2_with fail
            go_roundw
            case rel => exact ⟨k + 1, by omega, by go_num, HS2, HB2.out⟩
            case measure => simp [intOf]; omega
          · have HV := Lib.hid (HFk.out hxy)
            have hbb : (((wordE what x y : Nat) : Int) != ((y : Nat) : Int)) = true := by simp; omega
            rw [hbb]
            clear hxy hbb
            go_wp2_with fail
            go_ret
            exact ⟨ret_bool (by rw [HV.out, Bool.and_false]), HB2.out⟩
      · obtain rfl : k = a.length := by omega
        have HV := Lib.hid (HT.out HA.out)
        go_wp2_with fail
        go_ret
        exact ⟨ret_bool (by rw [HZ0.out, HV.out]; rfl), HB.out⟩
  · have hb : (checkE what width [a, b] != 0) = true := by simp; omega
    have HZ0 := Lib.hid h0
    obtain ⟨ce, hce⟩ : ∃ ce, ce = checkE what width [a, b] := ⟨_, rfl⟩
    rw [← hce] at hb ⊢
    clear h0 hce
    go_wp2_with fail
    go_ret
    exact ⟨ret_bool (by rw [decide_eq_false HZ0.out]; rfl), B1.out⟩

end Go.Proofs.Ytflkelnfdoihlaa
