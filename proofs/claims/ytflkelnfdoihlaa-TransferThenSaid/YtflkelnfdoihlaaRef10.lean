/-
  soughref10.Both, List, Of, Fits; wordset.Fits: contracts.
-/
import Derived.Test.YtflkelnfdoihlaaWith
import Derived.Test.YtflkelnfdoihlaaRefM
import Derived.Test.YtflkelnfdoihlaaNat
import Derived.Laws.AppendOwn
import Derived.OwnWalk
namespace Go.Proofs.Ytflkelnfdoihlaa
open Go.RowKit

/-- What the number 'how' asks for. -/
def howIs (how : Int) (c : Bool → Bool → Bool) : Prop := (how = 1 ∧ c = fun x y => x || y) ∨ (how = 2 ∧ c = fun x y => x && y) ∨ (how = 3 ∧ c = fun x y => x && !y)

set_option maxHeartbeats 6400000 in
set_option maxRecDepth 100000 in
theorem rboth_any (how : Int) (c : Bool → Bool → Bool) (hh : howIs how c) (v1 v2 : Value) (xs ys : List Nat) (w : World) (h1 : Ws w v1 xs) (h2 : Ws w v2 ys) (hx : xs.length ≤ 1000) (hy : ys.length ≤ 1000) :
    Calls Try.prog 68 #[v1, v2, .int .i64 how] w fun e w' => ∃ v, e = .returned v ∧ Ws w' v (bothF c xs ys (64 * max xs.length ys.length)) ∧ Below w.heap.size w w' := by
  have H1 := Lib.hid h1
  have H2 := Lib.hid h2
  have HH := Lib.hid hh
  obtain ⟨p1, c1, rfl⟩ := ws_len h1
  obtain ⟨p2, c2, rfl⟩ := ws_len h2
  have hmk := make_u64 (max xs.length ys.length) (max (xs.length : Int) ys.length) (by omega) (by omega)
  have hmk1 := make_u64 xs.length xs.length rfl (by omega)
  have hmk2 := make_u64 ys.length ys.length rfl (by omega)
  clear h1 h2 hh
  go_enter Try.func68, Try.ntmps68
  rcases (show (ys.length : Int) ≤ xs.length ∨ (xs.length : Int) < ys.length by omega) with hle | hle
  · go_wp2_with fail
    have HN := Lib.hid (show max xs.length ys.length = xs.length by omega)
    clear hmk hmk1 hmk2
    go_loopw [7, 8] (fun u i wr => ∃ k : Nat, k ≤ 64 * xs.length ∧ i = .int .i64 k ∧ Ws wr u (bothF c xs ys k) ∧ Below w.heap.size w wr)
      (fun _ i _ => 64 * xs.length - (intOf i).toNat)
    case atStart => exact ⟨0, Nat.zero_le _, rfl, by unfold bothF; rw [HN.out, ← Array.toArray_toList (xs := Array.replicate xs.length (Value.int IntKind.u64 0)), Array.toList_replicate, ← u64s_zero]; exact (Bk.new _ _ _).ws (by simp) (fun z hz => by rw [List.eq_of_mem_replicate hz]; decide), (Below.refl _ _).alloc (Nat.le_refl _) _⟩
    case round =>
      obtain ⟨k, hk, rfl, hl, hB⟩ := hrel
      have HL := Lib.hid hl
      have HB := Lib.hid hB
      obtain ⟨p3, c3, rfl⟩ := ws_len hl
      have hlen : (bothF c xs ys k).length = xs.length := by rw [bothF_len]; exact HN.out
      have HLo := Lib.hid (show Ws wr (Value.slice p3 xs.length c3) (bothF c xs ys k) by rw [← hlen]; exact HL.out)
      rw [hlen]
      clear hl hB
      by_cases hlt : k < 64 * xs.length
      · have H1r := Lib.hid (H1.out.below HB.out)
        have H2r := Lib.hid (H2.out.below HB.out)
        have HS := Lib.hid (show bothF c xs ys (k + 1) = if c (hasE xs (k : Nat)) (hasE ys (k : Nat)) = true then withE (bothF c xs ys k) k else bothF c xs ys k from rfl)
        have HW := Lib.hid (with_any k _ (bothF c xs ys k) wr HLo.out (by rw [hlen]; omega) (by rw [hlen]; omega))
        have HLen := Lib.hid hlen
        clear hlen
        generalize bothF c xs ys k = zs at *
        go_wp2_with fail
        refine (rhas_any k _ _ _ H1r.out (by omega)).mono ?_
        rintro e w1 ⟨rfl, hww⟩
        subst w1
        generalize hasE xs (k : Nat) = bx at *
        go_wp2_with fail
        refine (rhas_any k _ _ _ H2r.out (by omega)).mono ?_
        rintro e w1 ⟨rfl, hww⟩
        subst w1
        generalize hasE ys (k : Nat) = by_ at *
        rcases HH.out with ⟨rfl, rfl⟩ | ⟨rfl, rfl⟩ | ⟨rfl, rfl⟩
        · cases bx <;> cases by_
          · go_wp2_with fail
            go_roundw
            case rel => exact ⟨k + 1, by omega, by go_num, by rw [HS.out]; exact HLo.out, HB.out⟩
            case measure => simp [intOf]; omega
          · go_wp2_with fail
            refine HW.out.mono ?_
            rintro e w2 ⟨u2, rfl, hW2, hB2⟩
            have HB2 := Lib.hid (HB.out.trans (hB2.mono HB.out.size))
            have HW2 := Lib.hid hW2
            obtain ⟨p4, c4, rfl⟩ := ws_len hW2
            clear hW2 hB2
            go_wp2_with fail
            go_roundw
            case rel => exact ⟨k + 1, by omega, by go_num, by rw [HS.out]; exact HW2.out, HB2.out⟩
            case measure => simp [intOf]; omega
          · go_wp2_with fail
            refine HW.out.mono ?_
            rintro e w2 ⟨u2, rfl, hW2, hB2⟩
            have HB2 := Lib.hid (HB.out.trans (hB2.mono HB.out.size))
            have HW2 := Lib.hid hW2
            obtain ⟨p4, c4, rfl⟩ := ws_len hW2
            clear hW2 hB2
            go_wp2_with fail
            go_roundw
            case rel => exact ⟨k + 1, by omega, by go_num, by rw [HS.out]; exact HW2.out, HB2.out⟩
            case measure => simp [intOf]; omega
          · go_wp2_with fail
            refine HW.out.mono ?_
            rintro e w2 ⟨u2, rfl, hW2, hB2⟩
            have HB2 := Lib.hid (HB.out.trans (hB2.mono HB.out.size))
            have HW2 := Lib.hid hW2
            obtain ⟨p4, c4, rfl⟩ := ws_len hW2
            clear hW2 hB2
            go_wp2_with fail
            go_roundw
            case rel => exact ⟨k + 1, by omega, by go_num, by rw [HS.out]; exact HW2.out, HB2.out⟩
            case measure => simp [intOf]; omega
        · cases bx <;> cases by_
          · go_wp2_with fail
            go_roundw
            case rel => exact ⟨k + 1, by omega, by go_num, by rw [HS.out]; exact HLo.out, HB.out⟩
            case measure => simp [intOf]; omega
          · go_wp2_with fail
            go_roundw
            case rel => exact ⟨k + 1, by omega, by go_num, by rw [HS.out]; exact HLo.out, HB.out⟩
            case measure => simp [intOf]; omega
          · go_wp2_with fail
            go_roundw
            case rel => exact ⟨k + 1, by omega, by go_num, by rw [HS.out]; exact HLo.out, HB.out⟩
            case measure => simp [intOf]; omega
          · go_wp2_with fail
            refine HW.out.mono ?_
            rintro e w2 ⟨u2, rfl, hW2, hB2⟩
            have HB2 := Lib.hid (HB.out.trans (hB2.mono HB.out.size))
            have HW2 := Lib.hid hW2
            obtain ⟨p4, c4, rfl⟩ := ws_len hW2
            clear hW2 hB2
            go_wp2_with fail
            go_roundw
            case rel => exact ⟨k + 1, by omega, by go_num, by rw [HS.out]; exact HW2.out, HB2.out⟩
            case measure => simp [intOf]; omega
        · cases bx <;> cases by_
          · go_wp2_with fail
            go_roundw
            case rel => exact ⟨k + 1, by omega, by go_num, by rw [HS.out]; exact HLo.out, HB.out⟩
            case measure => simp [intOf]; omega
          · go_wp2_with fail
            go_roundw
            case rel => exact ⟨k + 1, by omega, by go_num, by rw [HS.out]; exact HLo.out, HB.out⟩
            case measure => simp [intOf]; omega
          · go_wp2_with fail
            refine HW.out.mono ?_
            rintro e w2 ⟨u2, rfl, hW2, hB2⟩
            have HB2 := Lib.hid (HB.out.trans (hB2.mono HB.out.size))
            have HW2 := Lib.hid hW2
            obtain ⟨p4, c4, rfl⟩ := ws_len hW2
            clear hW2 hB2
            go_wp2_with fail
            go_roundw
            case rel => exact ⟨k + 1, by omega, by go_num, by rw [HS.out]; exact HW2.out, HB2.out⟩
            case measure => simp [intOf]; omega
          · go_wp2_with fail
            go_roundw
            case rel => exact ⟨k + 1, by omega, by go_num, by rw [HS.out]; exact HLo.out, HB.out⟩
            case measure => simp [intOf]; omega
      · obtain rfl : k = 64 * xs.length := by omega
        have HLo2 := Lib.hid (show Ws wr (Value.slice p3 xs.length c3) (bothF c xs ys (64 * max xs.length ys.length)) by rw [HN.out]; exact HLo.out)
        go_wp2_with fail
        go_ret
        exact ⟨_, rfl, HLo2.out, HB.out⟩
  · go_wp2_with fail
    have HN := Lib.hid (show max xs.length ys.length = ys.length by omega)
    clear hmk hmk1 hmk2
    go_loopw [7, 8] (fun u i wr => ∃ k : Nat, k ≤ 64 * ys.length ∧ i = .int .i64 k ∧ Ws wr u (bothF c xs ys k) ∧ Below w.heap.size w wr)
      (fun _ i _ => 64 * ys.length - (intOf i).toNat)
    case atStart => exact ⟨0, Nat.zero_le _, rfl, by unfold bothF; rw [HN.out, ← Array.toArray_toList (xs := Array.replicate ys.length (Value.int IntKind.u64 0)), Array.toList_replicate, ← u64s_zero]; exact (Bk.new _ _ _).ws (by simp) (fun z hz => by rw [List.eq_of_mem_replicate hz]; decide), (Below.refl _ _).alloc (Nat.le_refl _) _⟩
    case round =>
      obtain ⟨k, hk, rfl, hl, hB⟩ := hrel
      have HL := Lib.hid hl
      have HB := Lib.hid hB
      obtain ⟨p3, c3, rfl⟩ := ws_len hl
      have hlen : (bothF c xs ys k).length = ys.length := by rw [bothF_len]; exact HN.out
      have HLo := Lib.hid (show Ws wr (Value.slice p3 ys.length c3) (bothF c xs ys k) by rw [← hlen]; exact HL.out)
      rw [hlen]
      clear hl hB
      by_cases hlt : k < 64 * ys.length
      · have H1r := Lib.hid (H1.out.below HB.out)
        have H2r := Lib.hid (H2.out.below HB.out)
        have HS := Lib.hid (show bothF c xs ys (k + 1) = if c (hasE xs (k : Nat)) (hasE ys (k : Nat)) = true then withE (bothF c xs ys k) k else bothF c xs ys k from rfl)
        have HW := Lib.hid (with_any k _ (bothF c xs ys k) wr HLo.out (by rw [hlen]; omega) (by rw [hlen]; omega))
        have HLen := Lib.hid hlen
        clear hlen
        generalize bothF c xs ys k = zs at *
        go_wp2_with fail
        refine (rhas_any k _ _ _ H1r.out (by omega)).mono ?_
        rintro e w1 ⟨rfl, hww⟩
        subst w1
        generalize hasE xs (k : Nat) = bx at *
        go_wp2_with fail
        refine (rhas_any k _ _ _ H2r.out (by omega)).mono ?_
        rintro e w1 ⟨rfl, hww⟩
        subst w1
        generalize hasE ys (k : Nat) = by_ at *
        rcases HH.out with ⟨rfl, rfl⟩ | ⟨rfl, rfl⟩ | ⟨rfl, rfl⟩
        · cases bx <;> cases by_
          · go_wp2_with fail
            go_roundw
            case rel => exact ⟨k + 1, by omega, by go_num, by rw [HS.out]; exact HLo.out, HB.out⟩
            case measure => simp [intOf]; omega
          · go_wp2_with fail
            refine HW.out.mono ?_
            rintro e w2 ⟨u2, rfl, hW2, hB2⟩
            have HB2 := Lib.hid (HB.out.trans (hB2.mono HB.out.size))
            have HW2 := Lib.hid hW2
            obtain ⟨p4, c4, rfl⟩ := ws_len hW2
            clear hW2 hB2
            go_wp2_with fail
            go_roundw
            case rel => exact ⟨k + 1, by omega, by go_num, by rw [HS.out]; exact HW2.out, HB2.out⟩
            case measure => simp [intOf]; omega
          · go_wp2_with fail
            refine HW.out.mono ?_
            rintro e w2 ⟨u2, rfl, hW2, hB2⟩
            have HB2 := Lib.hid (HB.out.trans (hB2.mono HB.out.size))
            have HW2 := Lib.hid hW2
            obtain ⟨p4, c4, rfl⟩ := ws_len hW2
            clear hW2 hB2
            go_wp2_with fail
            go_roundw
            case rel => exact ⟨k + 1, by omega, by go_num, by rw [HS.out]; exact HW2.out, HB2.out⟩
            case measure => simp [intOf]; omega
          · go_wp2_with fail
            refine HW.out.mono ?_
            rintro e w2 ⟨u2, rfl, hW2, hB2⟩
            have HB2 := Lib.hid (HB.out.trans (hB2.mono HB.out.size))
            have HW2 := Lib.hid hW2
            obtain ⟨p4, c4, rfl⟩ := ws_len hW2
            clear hW2 hB2
            go_wp2_with fail
            go_roundw
            case rel => exact ⟨k + 1, by omega, by go_num, by rw [HS.out]; exact HW2.out, HB2.out⟩
            case measure => simp [intOf]; omega
        · cases bx <;> cases by_
          · go_wp2_with fail
            go_roundw
            case rel => exact ⟨k + 1, by omega, by go_num, by rw [HS.out]; exact HLo.out, HB.out⟩
            case measure => simp [intOf]; omega
          · go_wp2_with fail
            go_roundw
            case rel => exact ⟨k + 1, by omega, by go_num, by rw [HS.out]; exact HLo.out, HB.out⟩
            case measure => simp [intOf]; omega
          · go_wp2_with fail
            go_roundw
            case rel => exact ⟨k + 1, by omega, by go_num, by rw [HS.out]; exact HLo.out, HB.out⟩
            case measure => simp [intOf]; omega
          · go_wp2_with fail
            refine HW.out.mono ?_
            rintro e w2 ⟨u2, rfl, hW2, hB2⟩
            have HB2 := Lib.hid (HB.out.trans (hB2.mono HB.out.size))
            have HW2 := Lib.hid hW2
            obtain ⟨p4, c4, rfl⟩ := ws_len hW2
            clear hW2 hB2
            go_wp2_with fail
            go_roundw
            case rel => exact ⟨k + 1, by omega, by go_num, by rw [HS.out]; exact HW2.out, HB2.out⟩
            case measure => simp [intOf]; omega
        · cases bx <;> cases by_
          · go_wp2_with fail
            go_roundw
            case rel => exact ⟨k + 1, by omega, by go_num, by rw [HS.out]; exact HLo.out, HB.out⟩
            case measure => simp [intOf]; omega
          · go_wp2_with fail
            go_roundw
            case rel => exact ⟨k + 1, by omega, by go_num, by rw [HS.out]; exact HLo.out, HB.out⟩
            case measure => simp [intOf]; omega
          · go_wp2_with fail
            refine HW.out.mono ?_
            rintro e w2 ⟨u2, rfl, hW2, hB2⟩
            have HB2 := Lib.hid (HB.out.trans (hB2.mono HB.out.size))
            have HW2 := Lib.hid hW2
            obtain ⟨p4, c4, rfl⟩ := ws_len hW2
            clear hW2 hB2
            go_wp2_with fail
            go_roundw
            case rel => exact ⟨k + 1, by omega, by go_num, by rw [HS.out]; exact HW2.out, HB2.out⟩
            case measure => simp [intOf]; omega
          · go_wp2_with fail
            go_roundw
            case rel => exact ⟨k + 1, by omega, by go_num, by rw [HS.out]; exact HLo.out, HB.out⟩
            case measure => simp [intOf]; omega
      · obtain rfl : k = 64 * ys.length := by omega
        have HLo2 := Lib.hid (show Ws wr (Value.slice p3 ys.length c3) (bothF c xs ys (64 * max xs.length ys.length)) by rw [HN.out]; exact HLo.out)
        go_wp2_with fail
        go_ret
        exact ⟨_, rfl, HLo2.out, HB.out⟩

set_option maxHeartbeats 3200000 in
set_option maxRecDepth 100000 in
theorem rlist_any (v : Value) (zs : List Nat) (w : World) (h : Ws w v zs) (hx : zs.length ≤ 1000) :
    Calls Try.prog 59 #[v] w fun e w' => ∃ u, e = .returned u ∧ IntsAt w' u ((setE zs).map Int.ofNat) ∧ Below w.heap.size w w' := by
  obtain ⟨i0, hi, hz0, hz1, hz2⟩ := info_parts int_info
  have H1 := Lib.hid h
  obtain ⟨p1, c1, rfl⟩ := ws_len h
  clear h
  go_enter Try.func59, Try.ntmps59
  go_wp2_with fail
  go_loopw [3, 4] (fun l i wr => ∃ k : Nat, k ≤ 64 * zs.length ∧ i = .int .i64 k ∧ wr.ownsRow w.heap.size 3 1 l (refK zs k).length (natVs (refK zs k)) ∧ Below w.heap.size w wr)
    (fun _ i _ => 64 * zs.length - (intOf i).toNat)
  case atStart => exact ⟨0, Nat.zero_le _, rfl, World.ownsRow_nil _ _ _ _, Below.refl _ _⟩
  case round =>
    obtain ⟨k, hk, rfl, hl, hB⟩ := hrel
    have HL := Lib.hid hl
    have HB := Lib.hid hB
    clear hl hB
    by_cases hlt : k < 64 * zs.length
    · have HK := Lib.hid (refK_succ zs k)
      have hkl := refK_len zs k
      have H1r := Lib.hid (H1.out.below HB.out)
      go_wp2_with fail
      refine (rhas_any k _ _ _ H1r.out (by omega)).mono ?_
      rintro e w1 ⟨rfl, hww⟩
      subst w1
      cases hb : hasE zs (k : Nat) with
      | false =>
        have HK2 := HK
        rw [hb] at HK2
        have HK3 := Lib.hid (show refK zs (k + 1) = refK zs k from HK2.out)
        rw [← HK3.out] at HL
        clear hb
        go_wp2_with fail
        go_roundw
        case rel => exact ⟨k + 1, by omega, by go_num, HL.out, HB.out⟩
        case measure => simp [intOf]; omega
      | true =>
        have HK2 := HK
        rw [hb] at HK2
        have HK3 := Lib.hid (show refK zs (k + 1) = refK zs k ++ [k] from HK2.out)
        clear hb
        go_wp2_with (at_builtin; refine wpList_append_own _ rfl _ _ 70 rfl w.heap.size 3 i0 (.int .i64 0) 1 8 Try.underlying70 hi hz0 hz1 hz2 rfl (by decide) _ _ _ rfl (HL.out.alloc _) ⟨wr.heap.size, 0, none⟩ 1 1 [.int .i64 k] rfl rfl ?c1 ?c2 ?c3 ?c4 ?c5 ?_)
        case c1 => exact cell_one_new _ _ _
        case c2 => simp [Value.oneCell']
        case c3 => unfold maxLen; omega
        case c4 => omega
        case c5 => have := HB.out.size; simp; omega
        intro v' w3 hown' hgrow _
        have HL' := Lib.hid (show w3.ownsRow w.heap.size 3 1 v' (refK zs (k + 1)).length (natVs (refK zs (k + 1))) by rw [HK3.out, natVs_snoc, List.length_append]; exact hown')
        have HB' := Lib.hid ((HB.out.alloc (by have := HB.out.size; omega) _).grown hgrow (by have := HB.out.size; simp; omega) (fun k hk => (HL.out.lt k hk).1))
        clear hown' hgrow
        go_wp2_with fail
        go_roundw
        case rel => exact ⟨k + 1, by omega, by go_num, HL'.out, HB'.out⟩
        case measure => simp [intOf]; omega
    · obtain rfl : k = 64 * zs.length := by omega
      have HE := Lib.hid (show refK zs (64 * zs.length) = setE zs from refK_word zs zs.length)
      go_wp2_with fail
      go_ret
      refine ⟨_, rfl, ?_, HB.out⟩
      have h7 := HL.out
      rw [HE.out, natVs_ints] at h7
      exact .of_owns (by simpa using h7)

end Go.Proofs.Ytflkelnfdoihlaa
