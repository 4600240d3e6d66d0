/-
  lattice.Rank; soughref12.Full, Bottom, Top, Value: contracts.
-/
import Derived.Test.YtflkelnfdoihlaaLat4
namespace Go.Proofs.Ytflkelnfdoihlaa
open Go.RowKit

/-- The ranks of the first k words. -/
def crK (a : List Nat) (k : Nat) : Nat := ((List.range k).map fun i => crankN (wAt a i)).sum
theorem crK_succ (a : List Nat) (k : Nat) : crK a (k + 1) = crK a k + crankN (wAt a k) := by
  unfold crK; rw [List.range_succ, List.map_append, List.sum_append]; simp
theorem crK_all (a : List Nat) : crK a a.length = (a.map crankN).sum := (sum_at crankN a).symm
theorem crankN_le (z : Nat) : crankN z ≤ 2 := by have := crank_bd (z : Int); unfold crankN; omega
theorem crankN_int (z : Nat) : crank (z : Int) = (crankN z : Int) := by have := crank_bd (z : Int); unfold crankN; omega
theorem crK_le (a : List Nat) (k : Nat) : crK a k ≤ 2 * k := by
  induction k with
  | zero => exact Nat.le_refl _
  | succ k ih => rw [crK_succ]; have := crankN_le (wAt a k); omega

/-- What Rank tells. -/
def rankR (what width : Int) (a : List Nat) : Int := if checkE what width [a] = 0 then rankE what width a else 0
set_option maxHeartbeats 6400000 in
set_option maxRecDepth 100000 in
theorem lrank_any (what width : Int) (v : Value) (a : List Nat) (w : World) (h1 : Ws w v a) (hn : a.length ≤ 100000) :
    Calls Try.prog 23 #[.int .i64 what, .int .i64 width, v] w fun e w' =>
      e = .returned (.tuple #[.int .i64 (rankR what width a), .int .i64 (checkE what width [a])]) ∧ Below w.heap.size w w' := by
  have H1 := Lib.hid h1
  have hS := Sets.one 22 h1
  obtain ⟨p1, c1, rfl, q1⟩ := ws_row h1
  have C1 := Lib.hid q1
  have HS := Lib.hid hS
  have B0 := Lib.hid ((Below.refl w.heap.size w).alloc (Nat.le_refl _) (.cells #[.slice p1 a.length c1] 22))
  clear h1 hS q1
  go_enter Try.func23, Try.ntmps23
  go_wp2_with fail
  refine (check_any what width _ [a] _ HS.out (by simp; omega) (by simp)).mono ?_
  rintro e w1 ⟨rfl, hB⟩
  have B1 := Lib.hid (B0.out.trans (hB.mono B0.out.size))
  clear hB HS B0
  obtain ⟨ce, hce⟩ : ∃ ce, ce = checkE what width [a] := ⟨_, rfl⟩
  have HCe := Lib.hid hce
  rw [← hce]
  by_cases h0 : ce = 0
  · have HZ0 := Lib.hid (show checkE what width [a] = 0 by rw [← hce]; exact h0)
    obtain ⟨hL, hv⟩ := check_zero HZ0.out
    have HR := Lib.hid (show ∀ r, rankE what width a = r → Ending.returned (.tuple #[.int .i64 (rankR what width a), .int .i64 (checkE what width [a])]) = .returned (.tuple #[.int .i64 r, .int .i64 0]) from fun r h => by
      unfold rankR; rw [HZ0.out, if_pos rfl, h])
    have hwd : 0 ≤ width ∧ width ≤ 1024 := by simp only [isL, decide_eq_true_eq] at hL; omega
    have hk := isL_what hL
    have H1w := Lib.hid (H1.out.below B1.out)
    have hle := lenE_le a
    subst h0
    clear hce hL hv
    go_wp2_with fail
    refine (len_any _ _ _ H1w.out (by omega)).mono ?_
    rintro e w2 ⟨rfl, hww⟩
    subst w2
    obtain ⟨nl, hnl⟩ : ∃ n, n = lenE a := ⟨_, rfl⟩
    have HN := Lib.hid hnl
    rw [← hnl] at hle ⊢
    clear hnl
    rcases hk with rfl | rfl | rfl
    · go_wp2_with fail
      go_ret2
      exact ⟨(HR.out _ (by rw [HN.out]; rfl)).symm, B1.out⟩
    · go_wp2_with fail
      go_ret2
      exact ⟨(HR.out _ (by rw [HN.out]; rfl)).symm, B1.out⟩
    · go_wp2_with fail
      go_loopw [9, 32] (fun n i wr => ∃ k : Nat, k ≤ a.length ∧ i = .int .i64 k ∧ n = .int .i64 (crK a k : Nat) ∧ Below w.heap.size w wr)
        (fun _ i _ => a.length - (intOf i).toNat)
      case atStart => exact ⟨0, Nat.zero_le _, rfl, rfl, B1.out⟩
      case round =>
        obtain ⟨k, hk, rfl, rfl, hB⟩ := hrel
        have HB := Lib.hid hB
        clear hB
        by_cases hlt : k < a.length
        · obtain ⟨ad, rfl, q⟩ := C1.out (by omega)
          have hck := keepc (q k hlt) HB.out
          rw [show a[k]?.getD 0 = wAt a k from rfl] at hck
          have HS := Lib.hid (crK_succ a k)
          have hkl := crK_le a k
          have hz := wAt_lt H1.out.1 k
          have HCI := Lib.hid (crankN_int (wAt a k))
          have hc2 := crankN_le (wAt a k)
          have HRk := Lib.hid (show ((crK a k : Nat) : Int) + (crankN (wAt a k) : Nat) = ((crK a (k + 1) : Nat) : Int) by rw [HS.out]; omega)
          clear q
          obtain ⟨nx, hnx⟩ : ∃ n, n = crK a (k + 1) := ⟨_, rfl⟩
          have HNX := Lib.hid hnx
          rw [← hnx] at HRk
          clear hnx HS
          generalize crankN (wAt a k) = cr at *
          generalize wAt a k = z at *
          generalize crK a k = s at *
          go_wp2_with fail
          refine (rank_any z _ (by omega)).mono ?_
          rintro e w2 ⟨rfl, hB2⟩
          have HB2 := Lib.hid (HB.out.trans (hB2.mono HB.out.size))
          clear hB2
          rw [HCI.out]
          go_wp2_with fail
          go_roundw
          case rel => exact ⟨k + 1, by omega, by go_num, by rw [← HNX.out, ← HRk.out], HB2.out⟩
          case measure => simp [intOf]; omega
        · obtain rfl : k = a.length := by omega
          have HF := Lib.hid (show rankE 3 width a = (crK a a.length : Nat) by unfold rankE; rw [if_pos rfl, crK_all])
          go_wp2_with fail
          go_ret2
          exact ⟨(HR.out _ HF.out).symm, HB.out⟩
  · have hb : (ce != 0) = true := by simp; omega
    have HR := Lib.hid (show Ending.returned (.tuple #[.int .i64 (rankR what width a), .int .i64 (checkE what width [a])]) = .returned (.tuple #[.int .i64 0, .int .i64 ce]) by
      unfold rankR; rw [← hce, if_neg h0])
    clear h0 hce
    go_wp2_with fail
    go_ret2
    exact ⟨HR.out.symm, B1.out⟩

/-! ### The document's -/
theorem ofK_bit (width : Int) (l : List Int) (k : Nat) (hk : k ≤ l.length) : ∀ i j, i < sizeE width → j < 64 → (wAt (ofK width l k) i).testBit j = decide (((64 * i + j : Nat) : Int) ∈ l.take k ∧ ((64 * i + j : Nat) : Int) < near width) := by
  have hs := sizeE_int width
  induction k with
  | zero =>
    intro i j hi hj
    have : wAt (ofK width l 0) i = 0 := by
      show wAt (List.replicate (sizeE width) 0) i = 0
      rw [wAt_rep, ite_self]
    rw [this]
    simp
  | succ k ih =>
    intro i j hi hj
    have h := ih (by omega) i j hi hj
    rw [ofK_succ width l k (by omega), List.take_add_one, List.getElem?_eq_getElem (by omega : k < l.length)]
    generalize l[k] = n
    rw [show (some n).getD 0 = n from rfl]
    unfold ofStep
    by_cases hn : 0 ≤ n ∧ n < near width
    · rw [if_pos hn, withE_at _ _ _ (by rw [ofK_len]; omega)]
      by_cases hq : ((64 * i + j : Nat) : Int) = n
      · have h1 : i = n.toNat / 64 := by omega
        rw [if_pos h1, Nat.testBit_or, show n.toNat % 64 = j by omega, Nat.testBit_two_pow_self, Bool.or_true]
        symm
        rw [decide_eq_true_eq]
        exact ⟨by simp [hq], by omega⟩
      · have e : (decide (((64 * i + j : Nat) : Int) ∈ l.take k ++ (some n).toList ∧ ((64 * i + j : Nat) : Int) < near width)) = decide (((64 * i + j : Nat) : Int) ∈ l.take k ∧ ((64 * i + j : Nat) : Int) < near width) := by
          rw [decide_eq_decide]
          simp only [Option.toList_some, List.mem_append, List.mem_singleton, hq, or_false]
        rw [e]
        split
        · rw [Nat.testBit_or, h, Nat.testBit_two_pow_of_ne (by omega), Bool.or_false]
        · exact h
    · rw [if_neg hn, h, decide_eq_decide]
      simp only [Option.toList_some, List.mem_append, List.mem_singleton]
      constructor
      · exact fun h => ⟨.inl h.1, h.2⟩
      · rintro ⟨h1 | h1, h2⟩
        · exact ⟨h1, h2⟩
        · exact absurd ⟨by omega, by omega⟩ hn
theorem of_range (width : Int) : ofE width ((List.range width.toNat).map Int.ofNat) = fullE width := by
  have e : ofE width ((List.range width.toNat).map Int.ofNat) = ofK width ((List.range width.toNat).map Int.ofNat) ((List.range width.toNat).map Int.ofNat).length := by unfold ofK ofE; rw [List.take_length]
  rw [e]
  refine ext_words (by rw [ofK_len, fullE_len]) (ofK_lt _ _ _) (fullE_lt _) fun i hi j hj => ?_
  rw [ofK_len] at hi
  rw [ofK_bit width _ _ (Nat.le_refl _) i j hi hj, fullE_bit width i j hi hj, decide_eq_decide, List.take_length]
  have hn := near_bd width
  constructor
  · exact fun h => h.2
  · intro h
    refine ⟨List.mem_map.2 ⟨64 * i + j, List.mem_range.2 ?_, rfl⟩, h⟩
    unfold near at h
    omega

set_option maxHeartbeats 3200000 in
set_option maxRecDepth 100000 in
theorem rlfull_any (width : Int) (w : World) (h0 : 0 ≤ width ∧ width ≤ 1024) :
    Calls Try.prog 45 #[.int .i64 width] w fun e w' => ∃ v, e = .returned v ∧ Ws w' v (fullE width) ∧ Below w.heap.size w w' := by
  obtain ⟨i0, hi, hz0, hz1, hz2⟩ := info_parts int_info
  obtain ⟨n, rfl⟩ : ∃ n : Nat, width = n := ⟨width.toNat, by omega⟩
  have hn : n ≤ 1024 := by omega
  go_enter Try.func45, Try.ntmps45
  go_wp2_with fail
  go_loopw [3, 4] (fun l i wr => ∃ k : Nat, k ≤ n ∧ i = .int .i64 k ∧ wr.ownsRow w.heap.size 3 1 l k (natVs (List.range k)) ∧ Below w.heap.size w wr)
    (fun _ i _ => n - (intOf i).toNat)
  case atStart => exact ⟨0, Nat.zero_le _, rfl, World.ownsRow_nil _ _ _ _, Below.refl _ _⟩
  case round =>
    obtain ⟨k, hk, rfl, hl, hB⟩ := hrel
    have HL := Lib.hid hl
    have HB := Lib.hid hB
    clear hl hB
    by_cases hlt : k < n
    · go_wp2_with (at_builtin; refine wpList_append_own _ rfl _ _ 70 rfl w.heap.size 3 i0 (.int .i64 0) 1 8 Try.underlying70 hi hz0 hz1 hz2 rfl (by decide) _ _ _ rfl (HL.out.alloc _) ⟨wr.heap.size, 0, none⟩ 1 1 [.int .i64 k] rfl rfl ?c1 ?c2 ?c3 ?c4 ?c5 ?_)
      case c1 => exact cell_one_new _ _ _
      case c2 => simp [Value.oneCell']
      case c3 => unfold maxLen; omega
      case c4 => omega
      case c5 => have := HB.out.size; simp; omega
      intro v' w3 hown' hgrow _
      have HL' := Lib.hid (show w3.ownsRow w.heap.size 3 1 v' (k + 1) (natVs (List.range (k + 1))) by rw [List.range_succ, natVs_snoc]; exact hown')
      have HB' := Lib.hid ((HB.out.alloc (by have := HB.out.size; omega) _).grown hgrow (by have := HB.out.size; simp; omega) (fun k hk => (HL.out.lt k hk).1))
      clear hown' hgrow
      go_wp2_with fail
      go_roundw
      case rel => exact ⟨k + 1, by omega, by go_num, HL'.out, HB'.out⟩
      case measure => simp [intOf]; omega
    · obtain rfl : k = n := by omega
      have HI := Lib.hid (show IntsAt wr _ ((List.range k).map Int.ofNat) from .of_owns (by have h7 := HL.out; rw [natVs_ints] at h7; exact h7))
      have HF := Lib.hid (show ofE (k : Nat) ((List.range k).map Int.ofNat) = fullE (k : Nat) from of_range (k : Nat))
      go_wp2_with fail
      refine (rsetof_any _ _ _ _ HI.out (by simp; omega)).mono ?_
      rintro e w4 ⟨u, rfl, hW, hB⟩
      rw [HF.out] at hW
      have HW := Lib.hid hW
      have HB4 := Lib.hid (HB.out.trans (hB.mono HB.out.size))
      obtain ⟨p3, c3, rfl⟩ := ws_len hW
      clear hW hB
      go_wp2_with fail
      go_ret
      exact ⟨_, rfl, HW.out, HB4.out⟩

end Go.Proofs.Ytflkelnfdoihlaa
