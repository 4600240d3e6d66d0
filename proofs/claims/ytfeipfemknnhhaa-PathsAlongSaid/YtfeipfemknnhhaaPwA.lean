/-
  soughref07.has, Next; soughref20.Is, Along: contracts. Written by wip/gen/mkpwA.py.
-/
import Derived.Test.YtfeipfemknnhhaaSysQ
import Derived.Test.YtfeipfemknnhhaaSys8
namespace Go.Proofs.Ytfeipfemknnhhaa
open Go.RowKit

/-! ### Mathematics -/
def nextK (E : List (Int × Int)) (a : Int) (k : Nat) : List Int := ((List.range k).filter fun b : Nat => inEd E a (b : Int)).map Int.ofNat
theorem nextK_yes {E : List (Int × Int)} {a : Int} {k : Nat} (h : inEd E a (k : Int) = true) : nextK E a (k + 1) = nextK E a k ++ [(k : Int)] := by
  unfold nextK
  rw [List.range_succ, List.filter_append, List.filter_cons, if_pos h, List.filter_nil, List.map_append]
  rfl
theorem nextK_no {E : List (Int × Int)} {a : Int} {k : Nat} (h : inEd E a (k : Int) = false) : nextK E a (k + 1) = nextK E a k := by
  unfold nextK
  rw [List.range_succ, List.filter_append, List.filter_cons, if_neg (by rw [h]; decide), List.filter_nil, List.append_nil]
theorem nextK_len (E : List (Int × Int)) (a : Int) (k : Nat) : (nextK E a k).length ≤ k := by
  unfold nextK
  rw [List.length_map]
  have := List.length_filter_le (fun b : Nat => inEd E a (b : Int)) (List.range k)
  rw [List.length_range] at this
  exact this
theorem inE_next {E : List (Int × Int)} {a : Int} {k : Nat} {x : Int} (h0 : 0 ≤ x) (h1 : x < k) : inE (nextK E a k) x = inEd E a x := by
  obtain ⟨n, rfl⟩ := Int.eq_ofNat_of_zero_le h0
  rw [Bool.eq_iff_iff]
  unfold inE nextK
  rw [List.any_eq_true]
  constructor
  · rintro ⟨z, hz, he⟩
    obtain ⟨m, hm, rfl⟩ := List.mem_map.1 hz
    have hf := (List.mem_filter.1 hm).2
    have : (m : Int) = (n : Int) := by simpa using he
    rw [← this]
    exact hf
  · intro h
    exact ⟨_, List.mem_map.2 ⟨n, List.mem_filter.2 ⟨List.mem_range.2 (by omega), h⟩, rfl⟩, by simp⟩
/-- What soughref20.Is asks of one place of a list. -/
def okW (s : SysT) (l : List Int) (i : Nat) : Bool := nodeE s.nodes (wAtI l i) && (decide (i = 0) || inEd s.E (wAtI l (i - 1)) (wAtI l i))
theorem way_of {s : SysT} {l : List Int} (h0 : checkS s = 0) (hl : 0 < l.length) (h : ∀ i, i < l.length → okW s l i = true) : isWay s l = true := by
  unfold isWay linked
  rw [decide_eq_true h0, decide_eq_true hl]
  have h1 := h 0 hl
  unfold okW at h1
  rw [Bool.and_eq_true] at h1
  rw [h1.1]
  simp only [Bool.true_and]
  rw [List.all_eq_true]
  intro i hi
  have hi := List.mem_range.1 hi
  have h2 := h (i + 1) (by omega)
  unfold okW at h2
  simpa using (Bool.and_eq_true _ _ ▸ h2).2
theorem way_not {s : SysT} {l : List Int} (i : Nat) (hi : i < l.length) (h : okW s l i = false) : isWay s l = false := by
  rw [Bool.eq_false_iff]
  intro hw
  have hn := way_node hw i hi
  have hy := way_yes hw
  unfold okW at h
  rw [nodeE_iff.2 hn, Bool.true_and, Bool.or_eq_false_iff] at h
  have h1 : i ≠ 0 := of_decide_eq_false h.1
  have h2 := hy.2.2.2 (i - 1) (by omega)
  rw [show i - 1 + 1 = i by omega] at h2
  rw [h2] at h
  exact Bool.noConfusion h.2
theorem way_none {s : SysT} : isWay s [] = false := by unfold isWay; simp

set_option maxHeartbeats 3200000 in
set_option maxRecDepth 100000 in
theorem r7has_any (v : Value) (E : List (Int × Int)) (x y : Int) (w : World) (h : Edges w v E) (hn : E.length ≤ 1000000) :
    Calls Try.prog 69 #[v, .int .i64 x, .int .i64 y] w fun e w' => e = .returned (.bool (inEd E x y)) ∧ Below w.heap.size w w' := by
  have B0 := Lib.hid (Below.refl w.heap.size w)
  obtain ⟨o, c, rfl, hc⟩ := h
  have HC := Lib.hid hc
  clear hc
  go_enter Try.func69, Try.ntmps69
  go_wp2_with fail
  go_loopw [11] (fun i wr => ∃ k : Nat, k ≤ E.length ∧ i = .int .i64 k ∧ Hid (∀ i, i < k → ((edAt E i).1 == x && (edAt E i).2 == y) = false) ∧ Below w.heap.size w wr)
    (fun i _ => E.length - (intOf i).toNat)
  case atStart => exact ⟨0, Nat.zero_le _, rfl, Lib.hid (fun i h => by omega), B0.out⟩
  case round =>
    obtain ⟨k, hk, rfl, HA, hB⟩ := hrel
    have BW := Lib.hid hB
    clear hB
    by_cases hlt : k < E.length
    · obtain ⟨b, off, rfl, hd⟩ := HC.out (by omega)
      obtain ⟨d0, d1⟩ := hd k hlt
      have hki : (k : Int) < E.length := by omega
      have H0k := Lib.hid (show ((edAt E k).1 == x && (edAt E k).2 == y) = true → inEd E x y = true from fun e => by
        unfold inEd
        rw [List.any_eq_true]
        refine ⟨E[k], List.getElem_mem hlt, ?_⟩
        unfold edAt at e
        rw [List.getElem?_eq_getElem hlt] at e
        exact e)
      have HSk := Lib.hid (show ((edAt E k).1 == x && (edAt E k).2 == y) = false → ∀ i, i < k + 1 → ((edAt E i).1 == x && (edAt E i).2 == y) = false from fun e i hi => by
        rcases (show i < k ∨ i = k by omega) with h | rfl
        · exact HA.out i h
        · exact e)
      generalize edAt E k = ed at *
      obtain ⟨p, q⟩ := ed
      dsimp only at *
      have e0 : wr.cell? ⟨b, off + k * 2, none⟩ = some (.int .i64 p) := keepc d0 BW.out
      have e1 : wr.cell? ⟨b, off + k * 2 + 1, none⟩ = some (.int .i64 q) := keepc d1 BW.out
      clear hd d0 d1
      have HB1 := Lib.hid (BW.out.alloc BW.out.size (.cells #[.int .i64 p, .int .i64 q] 46))
      by_cases h1 : p = x
      · by_cases h2 : q = y
        · have HV := Lib.hid (H0k.out (by rw [h1, h2]; simp))
          subst h1 h2
          clear H0k HSk
          go_wp2_with fail
          go_ret
          exact ⟨ret_bool HV.out.symm, HB1.out⟩
        · have HS2 := Lib.hid (HSk.out (by rw [show (q == y) = false by simpa using h2]; simp))
          have b1 : (p == x) = true := by simpa using h1
          have b2 : (q == y) = false := by simpa using h2
          subst h1
          clear H0k HSk h2 b1
          go_wp2_with fail
          go_roundw
          case rel => exact ⟨k + 1, by omega, by go_num, HS2, HB1.out⟩
          case measure => simp [intOf]; omega
      · have HS2 := Lib.hid (HSk.out (by rw [show (p == x) = false by simpa using h1]; simp))
        have b1 : (p == x) = false := by simpa using h1
        clear H0k HSk h1
        go_wp2_with fail
        go_roundw
        case rel => exact ⟨k + 1, by omega, by go_num, HS2, HB1.out⟩
        case measure => simp [intOf]; omega
    · obtain rfl : k = E.length := by omega
      have HV := Lib.hid (show inEd E x y = false by
        unfold inEd
        rw [Bool.eq_false_iff]
        intro h2
        obtain ⟨z, hz, he⟩ := List.any_eq_true.1 h2
        obtain ⟨i, hi, rfl⟩ := List.getElem_of_mem hz
        have := HA.out i hi
        unfold edAt at this
        rw [List.getElem?_eq_getElem hi] at this
        exact Bool.noConfusion (this.symm.trans he))
      go_wp2_with fail
      go_ret
      exact ⟨ret_bool HV.out.symm, BW.out⟩

set_option maxHeartbeats 3200000 in
set_option maxRecDepth 100000 in
theorem r7next_any (n : Int) (v : Value) (E : List (Int × Int)) (a : Int) (w : World) (h : Edges w v E) (hn : E.length ≤ 1000000) (h0 : 0 ≤ a) (h1 : a < n) (h2 : n ≤ 1000) :
    Calls Try.prog 39 #[.int .i64 n, v, .int .i64 a] w fun e w' => ∃ u, e = .returned u ∧ IntsAt w' u (nextK E a n.toNat) ∧ Below w.heap.size w w' := by
  obtain ⟨i0, hi, hz0, hz1, hz2⟩ := info_parts int_info
  have HE := Lib.hid h
  obtain ⟨pe, ce, rfl⟩ := h.len
  clear h
  go_enter Try.func39, Try.ntmps39
  go_wp2_with fail
  go_loopw [7, 8] (fun l i wr => ∃ k : Nat, k ≤ n.toNat ∧ i = .int .i64 k ∧ wr.ownsRow w.heap.size 3 1 l (nextK E a k).length ((nextK E a k).map (Value.int .i64)) ∧ Below w.heap.size w wr)
    (fun _ i _ => n.toNat - (intOf i).toNat)
  case atStart => exact ⟨0, Nat.zero_le _, rfl, World.ownsRow_nil _ _ _ _, Below.refl _ _⟩
  case round =>
    obtain ⟨k, hk, rfl, hl, hB⟩ := hrel
    have HL := Lib.hid hl
    have BW := Lib.hid hB
    clear hl hB
    have HKL := Lib.hid (nextK_len E a k)
    by_cases hlt : (k : Int) < n
    · go_wp2_with fail
      refine (r7has_any _ E a k _ (HE.out.below BW.out) hn).mono ?_
      rintro e w1 ⟨rfl, hB⟩
      have B1 := Lib.hid (BW.out.trans (hB.mono BW.out.size))
      have HL1 := Lib.hid (own_below HL.out hB)
      clear hB
      cases hb : inEd E a (k : Int) with
      | false =>
        have HK3 := Lib.hid (nextK_no hb)
        rw [← HK3.out] at HL1
        clear hb
        go_wp2_with fail
        go_roundw
        case rel => exact ⟨k + 1, by omega, by go_num, HL1.out, B1.out⟩
        case measure => simp [intOf]; omega
      | true =>
        have HK3 := Lib.hid (nextK_yes hb)
        clear hb
        go_wp2_with (at_builtin; refine wpList_append_own _ rfl _ _ 23 rfl w.heap.size 3 i0 (.int .i64 0) 1 8 Try.underlying23 hi hz0 hz1 hz2 rfl (by decide) _ _ _ rfl (HL1.out.alloc _) ⟨w1.heap.size, 0, none⟩ 1 1 [.int .i64 k] rfl rfl ?c1 ?c2 ?c3 ?c4 ?c5 ?_)
        case c1 => exact cell_one_new _ _ _
        case c2 => simp [Value.oneCell']
        case c3 => have := HKL.out; unfold maxLen; omega
        case c4 => have := HKL.out; omega
        case c5 => have := B1.out.size; simp; omega
        intro v' w3 hown' hgrow _
        have HL' := Lib.hid (show w3.ownsRow w.heap.size 3 1 v' (nextK E a (k + 1)).length ((nextK E a (k + 1)).map (Value.int .i64)) by rw [HK3.out, List.map_append, List.length_append]; exact hown')
        have HB' := Lib.hid ((B1.out.alloc (by have := B1.out.size; omega) _).grown hgrow (by have := B1.out.size; simp; omega) (fun k hk => (HL1.out.lt k hk).1))
        clear hown' hgrow
        go_wp2_with fail
        go_roundw
        case rel => exact ⟨k + 1, by omega, by go_num, HL'.out, HB'.out⟩
        case measure => simp [intOf]; omega
    · obtain rfl : k = n.toNat := by omega
      go_wp2_with fail
      go_ret
      exact ⟨_, rfl, .of_owns HL.out, BW.out⟩

set_option maxHeartbeats 3200000 in
set_option maxRecDepth 100000 in
theorem r20is_any (s : SysT) (ve vn vi vt : Value) (vw : Value) (l : List Int) (w : World) (hL : SysL w ve vn vi vt s) (hb : SysF s) (hw : IntsAt w vw l) (hm : l.length ≤ 1000000) (h0 : checkS s = 0) :
    Calls Try.prog 14 #[.agg #[.int .i64 s.what, .int .i64 s.width, .int .i64 s.nodes, ve, vn, vi, vt], vw] w fun e w' => e = .returned (.bool (isWay s l)) ∧ Below w.heap.size w w' := by
  have HS := Lib.hid hL
  obtain ⟨pe, ce, rfl⟩ := hL.1.len
  obtain ⟨pn, cn, rfl⟩ := hL.2.1.len
  obtain ⟨pi, ci, rfl⟩ := ws_len hL.2.2.1
  obtain ⟨pt, ct, rfl⟩ := hL.2.2.2.len
  have KS := Lib.hid (Bk.new w 27 [.int .i64 s.what, .int .i64 s.width, .int .i64 s.nodes, .slice pe s.E.length ce, .slice pn s.N.length cn, .slice pi s.I.length ci, .slice pt s.T.length ct])
  have B0 := Lib.hid ((Below.refl w.heap.size w).alloc (Nat.le_refl _) (.cells #[.int .i64 s.what, .int .i64 s.width, .int .i64 s.nodes, .slice pe s.E.length ce, .slice pn s.N.length cn, .slice pi s.I.length ci, .slice pt s.T.length ct] 27))
  have HS0 := Lib.hid (HS.out.below B0.out)
  clear hL
  have HF := Lib.hid hb
  clear hb

  have HW := Lib.hid hw
  obtain ⟨pw, cw, rfl, hwd⟩ := hw
  have HC0 := Lib.hid h0
  have OK := Lib.hid (okS_of h0)
  have n1 := OK.out.n1
  have n2 := OK.out.n2
  have hel := HF.out.el
  obtain ⟨q, hq⟩ : ∃ z, z = isWay s l := ⟨_, rfl⟩
  have HQ := Lib.hid hq
  rw [← hq]
  clear hq h0
  by_cases h1 : 0 < l.length
  case neg =>
    have HL0 : l = [] := List.eq_nil_of_length_eq_zero (by omega)
    subst HL0
    have HV := Lib.hid (show q = false by rw [HQ.out]; exact way_none)
    clear h1 hwd
    go_enter Try.func14, Try.ntmps14
    go_wp2_with fail
    go_ret
    exact ⟨ret_bool HV.out.symm, B0.out⟩
  obtain ⟨bw, ow, rfl, hwe⟩ := hwd h1
  have HWD := Lib.hid (show ∀ j, j < l.length → w.cell? ⟨bw, ow + j, none⟩ = some (.int .i64 (wAtI l j)) from hwe)
  have hl0 : ((l.length : Int) == 0) = false := by simp; intro h; subst h; simp at h1
  clear hwd hwe
  go_enter Try.func14, Try.ntmps14
  go_wp2_with fail
  go_loopw [12] (fun i wr => ∃ k : Nat, k ≤ l.length ∧ i = .int .i64 k ∧ Hid (∀ i, i < k → okW s l i = true) ∧ Below w.heap.size w wr ∧ Bk wr w.heap.size 27 [.int .i64 s.what, .int .i64 s.width, .int .i64 s.nodes, .slice pe s.E.length ce, .slice pn s.N.length cn, .slice pi s.I.length ci, .slice pt s.T.length ct])
    (fun i _ => l.length - (intOf i).toNat)
  case atStart => exact ⟨0, Nat.zero_le _, rfl, Lib.hid (fun i h => by omega), B0.out, KS.out⟩
  case round =>
    obtain ⟨k, hk, rfl, HI, hB, hK⟩ := hrel
    have BW := Lib.hid hB
    have KW := Lib.hid hK
    obtain ⟨c0, c1, c2, c3, c4, c5, c6⟩ := hK.seven
    clear hB hK
    by_cases hlt : k < l.length
    · have hki : (k : Int) < l.length := by omega
      have d1 := keepc (HWD.out k hlt) BW.out
      obtain ⟨y, hy⟩ : ∃ z, z = wAtI l k := ⟨_, rfl⟩
      have HYY := Lib.hid hy
      rw [← hy] at d1
      clear hy
      by_cases b0 : y < 0
      · have hz := decide_eq_true b0
        have HV := Lib.hid (show q = false by rw [HQ.out]; exact way_not k hlt (by unfold okW nodeE; rw [← HYY.out, decide_eq_false (show ¬ (0 ≤ y) by omega)]; rfl))
        go_wp2_with fail
        go_quiet (fail)
        go_wp2_with fail
        go_ret
        exact ⟨ret_bool HV.out.symm, bel_drewN BW.out _⟩
      have hz0 := decide_eq_false b0
      have a0 : 0 ≤ y := by omega
      clear b0
      by_cases b1 : s.nodes ≤ y
      · have hz := decide_eq_true b1
        have HV := Lib.hid (show q = false by rw [HQ.out]; exact way_not k hlt (by unfold okW nodeE; rw [← HYY.out, decide_eq_false (show ¬ (y < s.nodes) by omega), Bool.and_false]; rfl))
        go_wp2_with fail
        go_quiet (fail)
        go_wp2_with fail
        go_ret
        exact ⟨ret_bool HV.out.symm, bel_drewN BW.out _⟩
      have hz1 := decide_eq_false b1
      have a1 : y < s.nodes := by omega
      clear b1
      by_cases b2 : k = 0
      · subst b2
        rw [Nat.add_zero] at d1
        have HS2 := Lib.hid (show ∀ i, i < 0 + 1 → okW s l i = true from fun i hi => by
          obtain rfl : i = 0 := by omega
          unfold okW
          rw [← HYY.out, nodeE_iff.2 ⟨a0, a1⟩]
          rfl)
        go_wp2_with fail
        go_quiet (fail)
        go_wp2_with fail
        go_roundw
        case rel => exact ⟨0 + 1, by omega, by go_num, HS2, bel_drewN BW.out _, KW.out.drewN _⟩
        case measure => simp [intOf]; omega
      obtain ⟨j, rfl⟩ : ∃ j, k = j + 1 := ⟨k - 1, by omega⟩
      obtain ⟨ki, hki2⟩ : ∃ z : Int, z = ((j + 1 : Nat) : Int) := ⟨_, rfl⟩
      have HKI := Lib.hid hki2
      obtain ⟨ji, hji⟩ : ∃ z : Int, z = (j : Int) := ⟨_, rfl⟩
      have hk0 : 0 ≤ ki := by omega
      have hkp : 0 < ki := by omega
      have hkl : ki < l.length := by omega
      have hj0 : 0 ≤ ji := by omega
      have hjl : ji < l.length := by omega
      have hsub : IntKind.i64.wrap (ki - 1) = ji := by rw [show ki - 1 = ji by omega]; exact IntWalk.i64_in _ (by omega)
      have d0 := keepc (HWD.out j (by omega)) BW.out
      rw [show j = ji.toNat by omega] at d0
      rw [show wAtI l ji.toNat = wAtI l j by rw [show ji.toNat = j by omega]] at d0
      rw [show j + 1 = ki.toNat by omega] at d1
      rw [← hki2]
      clear hki2 hji hki
      obtain ⟨x, hx⟩ : ∃ z, z = wAtI l j := ⟨_, rfl⟩
      have HX := Lib.hid hx
      rw [← hx] at d0
      have hnx := HI.out j (by omega)
      unfold okW at hnx
      rw [Bool.and_eq_true] at hnx
      have hnx := nodeE_iff.1 hnx.1
      rw [← hx] at hnx
      have hx0 := hnx.1
      have hx1 := hnx.2
      clear hx hnx
      have HNX := Lib.hid (show inE (nextK s.E x s.nodes.toNat) y = inEd s.E x y from inE_next a0 (by omega))
      have hOK : okW s l (j + 1) = inEd s.E x y := by
        unfold okW
        rw [← HYY.out, nodeE_iff.2 ⟨a0, a1⟩, show j + 1 - 1 = j by omega, ← HX.out, decide_eq_false (show ¬ (j + 1 = 0) by omega)]
        simp
      have HOK := Lib.hid hOK
      have hgk : decide ((0 : Int) < ki) = true := decide_eq_true hkp
      clear hOK b2
      go_wp2_with fail
      refine wp_region_held_drew (S := (fun w' => w'.cell? ⟨w.heap.size, 2, none⟩ = some (.int .i64 s.nodes) ∧ w'.cell? ⟨w.heap.size, 3, none⟩ = some (.slice pe s.E.length ce) ∧ w'.cell? ⟨bw, ow + ji.toNat, none⟩ = some (.int .i64 x) ∧ Bk w' w.heap.size 27 [.int .i64 s.what, .int .i64 s.width, .int .i64 s.nodes, .slice pe s.E.length ce, .slice pn s.N.length cn, .slice pi s.I.length ci, .slice pt s.T.length ct] ∧ Below w.heap.size w w')) (by kernel_rfl) ?_ (fun hHeld => ?_)
      · exact ⟨c2, c3, d0, KW.out.drew, BW.out.drew⟩
      refine take_at 0 (v := ?_) (some 17) rfl rfl (by kernel_rfl) (by kernel_rfl) (by kernel_rfl) (fun _ _ _ h => h) (Or.inl ⟨by rfl, ?_⟩) hHeld ?_
      rotate_left
      · (intro w hSw; (try dsimp only at hSw); go_simp; (try with_reducible rfl))
      simp only [Act.put, List.setIfInBounds_toArray, List.set_cons_zero, List.set_cons_succ]
      refine take_at 1 (v := ?_) (some 18) rfl rfl (by kernel_rfl) (by kernel_rfl) (by kernel_rfl) (fun _ _ _ h => h) (Or.inl ⟨by rfl, ?_⟩) hHeld ?_
      rotate_left
      · (intro w hSw; (try dsimp only at hSw); go_simp; (try with_reducible rfl))
      simp only [Act.put, List.setIfInBounds_toArray, List.set_cons_zero, List.set_cons_succ]
      refine take_at 2 (v := ?_) (some 19) rfl rfl (by kernel_rfl) (by kernel_rfl) (by kernel_rfl) (fun _ _ _ h => h) (Or.inl ⟨by rfl, ?_⟩) hHeld ?_
      rotate_left
      · (intro w hSw; (try dsimp only at hSw); go_simp; (try with_reducible rfl))
      simp only [Act.put, List.setIfInBounds_toArray, List.set_cons_zero, List.set_cons_succ]
      refine take_at 3 (v := ?_) (some 20) rfl rfl (by kernel_rfl) (by kernel_rfl) (by kernel_rfl) (fun _ _ _ h => h) (Or.inl ⟨by rfl, ?_⟩) hHeld ?_
      rotate_left
      · (intro w hSw; (try dsimp only at hSw); go_simp; (try with_reducible rfl))
      simp only [Act.put, List.setIfInBounds_toArray, List.set_cons_zero, List.set_cons_succ]
      refine take_at 4 (v := ?_) (some 21) rfl rfl (by kernel_rfl) (by kernel_rfl) (by kernel_rfl) (fun _ _ _ h => h) (Or.inl ⟨by rfl, ?_⟩) hHeld ?_
      rotate_left
      · (intro w hSw; (try dsimp only at hSw); go_simp; (try with_reducible rfl))
      simp only [Act.put, List.setIfInBounds_toArray, List.set_cons_zero, List.set_cons_succ]
      refine take_at 5 (v := ?_) (some 22) rfl rfl (by kernel_rfl) (by kernel_rfl) (by kernel_rfl) (fun _ _ _ h => h) (Or.inl ⟨by rfl, ?_⟩) hHeld ?_
      rotate_left
      · (intro w hSw; (try dsimp only at hSw); go_simp; (try with_reducible rfl))
      simp only [Act.put, List.setIfInBounds_toArray, List.set_cons_zero, List.set_cons_succ]
      refine take_at 6 (v := ?_) (some 23) rfl rfl (by kernel_rfl) (by kernel_rfl) (by kernel_rfl) (fun _ _ _ h => h) (Or.inl ⟨by rfl, ?_⟩) hHeld ?_
      rotate_left
      · (intro w hSw; (try dsimp only at hSw); go_simp; (try with_reducible rfl))
      simp only [Act.put, List.setIfInBounds_toArray, List.set_cons_zero, List.set_cons_succ]
      refine take_at 7 (v := ?_) (some 24) rfl rfl (by kernel_rfl) (by kernel_rfl) (by kernel_rfl) (fun _ _ _ h => h) (Or.inl ⟨by rfl, ?_⟩) hHeld ?_
      rotate_left
      · (intro w hSw; (try dsimp only at hSw); go_simp; (try with_reducible rfl))
      simp only [Act.put, List.setIfInBounds_toArray, List.set_cons_zero, List.set_cons_succ]
      refine take_at 8 (v := ?_) (some 25) rfl rfl (by kernel_rfl) (by kernel_rfl) (by kernel_rfl) (fun _ _ _ h => h) (Or.inl ⟨by rfl, ?_⟩) hHeld ?_
      rotate_left
      · (intro w hSw; (try dsimp only at hSw); go_simp; (try with_reducible rfl))
      simp only [Act.put, List.setIfInBounds_toArray, List.set_cons_zero, List.set_cons_succ]
      refine take_at 9 (v := ?_) (some 26) rfl rfl (by kernel_rfl) (by kernel_rfl) (by kernel_rfl) (fun _ _ _ h => h) (Or.inl ⟨by rfl, ?_⟩) hHeld ?_
      rotate_left
      · (intro w hSw; (try dsimp only at hSw); go_simp; (try with_reducible rfl))
      simp only [Act.put, List.setIfInBounds_toArray, List.set_cons_zero, List.set_cons_succ]
      refine take_at 10 (v := ?_) (some 27) rfl rfl (by kernel_rfl) (by kernel_rfl) (by kernel_rfl) (fun _ _ _ h => h) (Or.inl ⟨by rfl, ?_⟩) hHeld ?_
      rotate_left
      · (intro w hSw; (try dsimp only at hSw); go_simp; (try with_reducible rfl))
      simp only [Act.put, List.setIfInBounds_toArray, List.set_cons_zero, List.set_cons_succ]
      refine take_at 11 (v := ?_) (some 28) rfl rfl (by kernel_rfl) (by kernel_rfl) (by kernel_rfl) (fun _ _ _ h => h) (Or.inl ⟨by rfl, ?_⟩) hHeld ?_
      rotate_left
      · (intro w hSw; (try dsimp only at hSw); go_simp; (try with_reducible rfl))
      simp only [Act.put, List.setIfInBounds_toArray, List.set_cons_zero, List.set_cons_succ]
      refine take_at 12 (v := ?_) (some 29) rfl rfl (by kernel_rfl) (by kernel_rfl) (by kernel_rfl) (fun _ _ _ h => h) (Or.inl ⟨by rfl, ?_⟩) hHeld ?_
      rotate_left
      · (intro w hSw; (try dsimp only at hSw); go_simp; (try with_reducible rfl))
      simp only [Act.put, List.setIfInBounds_toArray, List.set_cons_zero, List.set_cons_succ]
      refine take_at 13 (v := ?_) (some 30) rfl rfl (by kernel_rfl) (by kernel_rfl) (by kernel_rfl) (fun _ _ _ h => h) (Or.inl ⟨by rfl, ?_⟩) hHeld ?_
      rotate_left
      · (intro w hSw; (try dsimp only at hSw); go_simp; (try with_reducible rfl))
      simp only [Act.put, List.setIfInBounds_toArray, List.set_cons_zero, List.set_cons_succ]
      refine take_at 14 (v := ?_) (some 31) rfl rfl (by kernel_rfl) (by kernel_rfl) (by kernel_rfl) (fun _ _ _ h => h) (Or.inl ⟨by rfl, ?_⟩) hHeld ?_
      rotate_left
      · (intro w hSw; (try dsimp only at hSw); go_simp; (try with_reducible rfl))
      simp only [Act.put, List.setIfInBounds_toArray, List.set_cons_zero, List.set_cons_succ]
      refine take_at 15 (v := ?_) (some 32) rfl rfl (by kernel_rfl) (by kernel_rfl) (by kernel_rfl) (fun _ _ _ h => h) (Or.inl ⟨by rfl, ?_⟩) hHeld ?_
      rotate_left
      · (intro w hSw; (try dsimp only at hSw); go_simp; (try with_reducible rfl))
      simp only [Act.put, List.setIfInBounds_toArray, List.set_cons_zero, List.set_cons_succ]
      refine take_at 16 (v := ?_) (some 33) rfl rfl (by kernel_rfl) (by kernel_rfl) (by kernel_rfl) (fun _ _ _ h => h) (Or.inl ⟨by rfl, ?_⟩) hHeld ?_
      rotate_left
      · (intro w hSw; (try dsimp only at hSw); go_simp; (try with_reducible rfl))
      simp only [Act.put, List.setIfInBounds_toArray, List.set_cons_zero, List.set_cons_succ]
      refine take_at 17 (v := ?_) (some 34) rfl rfl (by kernel_rfl) (by kernel_rfl) (by kernel_rfl) (fun _ _ _ h => h) (Or.inl ⟨by rfl, ?_⟩) hHeld ?_
      rotate_left
      · (intro w hSw; (try dsimp only at hSw); go_simp; (try with_reducible rfl))
      simp only [Act.put, List.setIfInBounds_toArray, List.set_cons_zero, List.set_cons_succ]
      refine take_at 18 (v := ?_) (some 35) rfl rfl (by kernel_rfl) (by kernel_rfl) (by kernel_rfl) (fun _ _ _ h => h) (Or.inl ⟨by rfl, ?_⟩) hHeld ?_
      rotate_left
      · (intro w hSw; (try dsimp only at hSw); go_simp; (try with_reducible rfl))
      simp only [Act.put, List.setIfInBounds_toArray, List.set_cons_zero, List.set_cons_succ]
      refine take_at 19 (v := ?_) (some 36) rfl rfl (by kernel_rfl) (by kernel_rfl) (by kernel_rfl) (fun _ _ _ h => h) (Or.inl ⟨by rfl, ?_⟩) hHeld ?_
      rotate_left
      · (intro w hSw; (try dsimp only at hSw); go_simp; (try with_reducible rfl))
      simp only [Act.put, List.setIfInBounds_toArray, List.set_cons_zero, List.set_cons_succ]
      refine take_at 20 (v := ?_) (some 37) rfl rfl (by kernel_rfl) (by kernel_rfl) (by kernel_rfl) (fun _ _ _ h => h) (Or.inl ⟨by rfl, ?_⟩) hHeld ?_
      rotate_left
      · (intro w hSw; (try dsimp only at hSw); go_simp; (try with_reducible rfl))
      simp only [Act.put, List.setIfInBounds_toArray, List.set_cons_zero, List.set_cons_succ]
      refine take_at 22 (v := ?_) (some 39) rfl rfl (by kernel_rfl) (by kernel_rfl) (by kernel_rfl) (fun _ _ _ h => h) (Or.inl ⟨by rfl, ?_⟩) hHeld ?_
      rotate_left
      · (intro w hSw; (try dsimp only at hSw); go_simp; (try with_reducible rfl))
      simp only [Act.put, List.setIfInBounds_toArray, List.set_cons_zero, List.set_cons_succ]
      refine wpAnyH_ready (rs := [21]) (by kernel_rfl) (by simp) ?_
      refine AllReadyH.cons rfl (fun K hK => ?_) AllReadyH.nil
      go_simp
      go_at_call 39; go_split_ands; refine (r7next_any _ _ s.E x _ (HS.out.1.below (by assumption)) (by omega) hx0 hx1 (by omega)).mono ?_; rintro e v1 ⟨un, rfl, hN, hB⟩; have HN1 := Lib.hid hN; clear hN
      go_wp2_with fail
      refine hK.out _ _ ?_ (fun hHeld => ?_)
      · (try dsimp only at hHeld ⊢)
        go_split_ands
        exact ⟨keepc (by assumption) hB, keepc (by assumption) hB, keepc (by assumption) hB, Bk.below (by assumption) hB, (show Below w.heap.size w _ by assumption).trans (hB.mono (show Below w.heap.size w _ by assumption).size)⟩
      clear hK K hB
      try simp only [Act.put, List.setIfInBounds_toArray, List.set_cons_zero, List.set_cons_succ]
      refine wpAnyH_ready (rs := [23]) (by kernel_rfl) (by simp) ?_
      refine AllReadyH.cons rfl (fun K hK => ?_) AllReadyH.nil
      go_simp
      go_at_call 38; go_split_ands; refine (in7_any _ _ y _ HN1.out (by have := nextK_len s.E x s.nodes.toNat; omega)).mono ?_; rintro e v2 ⟨rfl, hww⟩; subst v2; have hB := Below.refl v1.heap.size v1; rw [HNX.out]
      go_wp2_with fail
      refine hK.out _ _ ?_ (fun hHeld => ?_)
      · (try dsimp only at hHeld ⊢)
        go_split_ands
        exact ⟨keepc (by assumption) hB, keepc (by assumption) hB, keepc (by assumption) hB, Bk.below (by assumption) hB, (show Below w.heap.size w _ by assumption).trans (hB.mono (show Below w.heap.size w _ by assumption).size)⟩
      clear hK K hB
      try simp only [Act.put, List.setIfInBounds_toArray, List.set_cons_zero, List.set_cons_succ]
      refine take_at 24 (v := ?_) (some 41) rfl rfl (by kernel_rfl) (by kernel_rfl) (by kernel_rfl) (fun _ _ _ h => h) (Or.inl ⟨by rfl, ?_⟩) hHeld ?_
      rotate_left
      · (intro w hSw; (try dsimp only at hSw); go_simp; (try with_reducible rfl))
      simp only [Act.put, List.setIfInBounds_toArray, List.set_cons_zero, List.set_cons_succ]
      refine take_at 25 (v := ?_) (some 42) rfl rfl (by kernel_rfl) (by kernel_rfl) (by kernel_rfl) (fun _ _ _ h => h) (Or.inl ⟨by rfl, ?_⟩) hHeld ?_
      rotate_left
      · (intro w hSw; (try dsimp only at hSw); go_simp; (try with_reducible rfl))
      simp only [Act.put, List.setIfInBounds_toArray, List.set_cons_zero, List.set_cons_succ]
      refine take_at 26 (v := ?_) (some 43) rfl rfl (by kernel_rfl) (by kernel_rfl) (by kernel_rfl) (fun _ _ _ h => h) (Or.inl ⟨by rfl, ?_⟩) hHeld ?_
      rotate_left
      · (intro w hSw; (try dsimp only at hSw); go_simp; (try with_reducible rfl))
      simp only [Act.put, List.setIfInBounds_toArray, List.set_cons_zero, List.set_cons_succ]
      refine wpAnyH_done (by kernel_rfl) ?_ _
      go_split_ands
      have B5 := Lib.hid (show Below w.heap.size w _ from by assumption)
      have K5 := Lib.hid (show Bk _ w.heap.size 27 [.int .i64 s.what, .int .i64 s.width, .int .i64 s.nodes, .slice pe s.E.length ce, .slice pn s.N.length cn, .slice pi s.I.length ci, .slice pt s.T.length ct] from by assumption)
      cases hs : inEd s.E x y with
      | true =>
        have HS2 := Lib.hid (show ∀ i, i < j + 1 + 1 → okW s l i = true from fun i hi => by
          rcases (show i < j + 1 ∨ i = j + 1 by omega) with h | rfl
          · exact HI.out i h
          · rw [HOK.out]; exact hs)
        clear hs
        go_wp2_with fail
        obtain rfl := HKI.out
        go_roundw
        case rel => exact ⟨j + 1 + 1, by omega, by go_num, HS2, B5.out, K5.out⟩
        case measure => simp [intOf]; omega
      | false =>
        have HV := Lib.hid (show q = false by rw [HQ.out]; exact way_not (j + 1) hlt (by rw [HOK.out]; exact hs))
        clear hs
        go_wp2_with fail
        go_ret
        exact ⟨ret_bool HV.out.symm, B5.out⟩
    · obtain rfl : k = l.length := by omega
      have HV := Lib.hid (show q = true by rw [HQ.out]; exact way_of HC0.out h1 HI.out)
      go_wp2_with fail
      go_ret
      exact ⟨ret_bool HV.out.symm, BW.out⟩


end Go.Proofs.Ytfeipfemknnhhaa
