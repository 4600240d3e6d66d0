/-
  soughref10.With: its contract.
-/
import Derived.Test.YteheckcflnogbaaLatPk0
import Derived.Deep.AppendLies
import Derived.Test.YteheckcflnogbaaInts
import Derived.Maps.AppendAt
import Derived.Laws.AppendOwn
import Derived.OwnWalk
import Derived.Deep.RegionHeld3
import Derived.Deep.CutRange
import Derived.Deep.DeepCutAuto
import Derived.Outline
import Derived.Test.YteheckcflnogbaaTake
import Derived.Deep.RegionLaw
namespace Go.Proofs.Yteheckcflnogbaa
open Go.RowKit

theorem Ws.of_bk {w : World} {g : Nat} {cs : List Value} {a : List Nat} {n cap : Nat} (h : Bk w g 29 cs) (hl : a.length = n) (ht : cs.take n = u64s a) (hz : ∀ z ∈ a, z < 18446744073709551616) : Ws w (.slice (some ⟨g, 0, none⟩) n cap) a := by
  subst hl
  refine ⟨hz, .inr ⟨⟨g, 0, none⟩, cap, rfl, fun i hi => ?_⟩⟩
  have e : cs[i]? = (u64s a)[i]? := by rw [← ht, List.getElem?_take, if_pos hi]
  rw [show (⟨g, 0, none⟩ : Addr).add i = ⟨g, i, none⟩ from by unfold Addr.add; split <;> simp_all, h.cell, e, u64s_at _ _ hi]
  rfl
theorem own_bare64 (w : World) (base : Nat) (hb : base ≤ w.heap.size) : (w.alloc (.cells #[] 29)).ownsRow base 29 1 (.slice (some ⟨w.heap.size, 0, none⟩) 0 0) 0 [] :=
  ⟨by simp, .inr ⟨w.heap.size, 0, #[], rfl, hb, heap_alloc_new w _, Nat.le_refl _, by unfold maxLen; omega, by simp, by simp⟩⟩

set_option maxHeartbeats 3200000 in
set_option maxRecDepth 100000 in
theorem with_any (m : Nat) (v : Value) (zs : List Nat) (w : World) (hw : Ws w v zs) (hm : m / 64 < zs.length) (hn : zs.length ≤ 100000) :
    Calls Try.prog 178 #[v, .int .i64 (m : Nat)] w fun e w' => ∃ u, e = .returned u ∧ Ws w' u (withE zs m) ∧ Below w.heap.size w w' := by
  obtain ⟨i0, hi, hz0, hz1, hz2⟩ := info_parts u64_info
  have HZ := Lib.hid hw.1
  obtain ⟨p, c, rfl, hc⟩ := ws_row hw
  obtain ⟨a, rfl, q⟩ := hc (by omega)
  have HQ := Lib.hid (show ∀ j u, (u64s zs)[j]? = some u → w.cell? (a.add j) = some u from fun j u hj => by
    have hlt : j < zs.length := by
      rcases Nat.lt_or_ge j zs.length with h | h
      · exact h
      · rw [List.getElem?_eq_none (by simpa [u64s] using h)] at hj; cases hj
    rw [u64s_at zs j hlt] at hj
    injection hj with hj
    subst hj
    exact q j hlt)
  have HB0 := Lib.hid ((Below.refl w.heap.size w).alloc (Nat.le_refl _) (.cells #[] 29))
  have HU := Lib.hid (own_bare64 w w.heap.size (Nat.le_refl _))
  clear q hc hw
  go_enter Try.func178, Try.ntmps178
  go_wp2_with (at_builtin; refine wpList_append_own _ rfl _ _ 22 rfl w.heap.size 29 i0 (.int .u64 0) 1 8 Try.underlying22 hi hz0 hz1 hz2 rfl (by decide) _ 0 [] rfl HU.out a zs.length c (u64s zs) rfl ?c1 ?c2 ?c3 ?c4 ?c5 ?c6 ?_)
  case c1 => simp [u64s]
  case c2 => exact fun j u hj => keepc (HQ.out j u hj) HB0.out
  case c3 => exact fun u hu => by obtain ⟨_, _, rfl⟩ := List.mem_map.1 hu; rfl
  case c4 => unfold maxLen; omega
  case c5 => omega
  case c6 => simp
  intro v' w1 hown hgrow _
  obtain ⟨hl, ⟨rfl, h0⟩ | ⟨g, cap, cur, rfl, hg, hb, hnc, hmx, hsz, hct⟩⟩ := hown
  · exfalso; omega
  have HK := Lib.hid (show Bk w1 g 29 cur.toList from hb)
  have HTk := Lib.hid (show cur.toList.take zs.length = u64s zs by rw [← List.nil_append (u64s zs), ← hct]; simp)
  have HB1 := Lib.hid (HB0.out.grown hgrow (by simp) (fun k hk => (HU.out.lt k hk).1))
  clear hb hct hgrow hl hsz
  have hq : m / 64 < zs.length := hm
  have hr : m % 64 < 64 := by omega
  have hdiv : ((m : Int)).tdiv 64 = ((m / 64 : Nat) : Int) := by rw [Int.tdiv_eq_ediv_of_nonneg (by omega)]; omega
  have hmod : ((m : Int)).tmod 64 = ((m % 64 : Nat) : Int) := by rw [Int.tmod_eq_emod_of_nonneg (by omega)]; omega
  have hcell : w1.cell? ⟨g, m / 64, none⟩ = some (.int .u64 (wAt zs (m / 64) : Nat)) := by
    rw [HK.out.cell, ← u64s_at zs _ hq, ← HTk.out, List.getElem?_take, if_pos hq]
  have hfree := HK.out.free (m / 64)
  have HWL := Lib.hid (withE_lt HZ.out m)
  have HBs := Lib.hid (HK.out.set (m / 64) (.int .u64 ((wAt zs (m / 64) ||| 2 ^ (m % 64) : Nat) : Int)))
  have HTs := Lib.hid (show (cur.toList.set (m / 64) (.int .u64 ((wAt zs (m / 64) ||| 2 ^ (m % 64) : Nat) : Int))).take zs.length = u64s (withE zs m) by
    rw [List.take_set, HTk.out]; unfold withE; rw [u64s_set])
  have HZ1 := Lib.hid (wAt_lt HZ.out (m / 64))
  generalize wAt zs (m / 64) = z at *
  go_wp2_with fail
  go_region
  have hor := or_bit z (m % 64) HZ1.out hr
  rw [hor]
  go_wp2_with fail
  go_ret
  exact ⟨_, rfl, Ws.of_bk HBs.out.drew (withE_len zs m) HTs.out HWL.out, (HB1.out.setCell (p := ⟨g, m / 64, none⟩) hg _).drew⟩

end Go.Proofs.Yteheckcflnogbaa

/-
  Lists of natural numbers as cells of ints.
-/
namespace Go.Proofs.Yteheckcflnogbaa
open Go.RowKit

theorem int_info : (Try.prog.info? 3).map (fun i => (i.zero, i.size, i.bytes)) = some (some (.int .i64 0), 1, 8) := by kernel_rfl
def natVs (l : List Nat) : List Value := l.map fun x => Value.int .i64 ((x : Nat) : Int)
theorem natVs_snoc (l : List Nat) (x : Nat) : natVs (l ++ [x]) = natVs l ++ [Value.int .i64 ((x : Nat) : Int)] := by simp [natVs]
theorem natVs_ints (l : List Nat) : natVs l = (l.map Int.ofNat).map (Value.int .i64) := by simp [natVs]

end Go.Proofs.Yteheckcflnogbaa

/-
  soughref10.Both, List, Of, Fits; wordset.Fits: contracts.
-/
namespace Go.Proofs.Yteheckcflnogbaa
open Go.RowKit

/-- What the number 'how' asks for. -/
def howIs (how : Int) (c : Bool → Bool → Bool) : Prop := (how = 1 ∧ c = fun x y => x || y) ∨ (how = 2 ∧ c = fun x y => x && y) ∨ (how = 3 ∧ c = fun x y => x && !y)


set_option maxHeartbeats 3200000 in
set_option maxRecDepth 100000 in
theorem rlist_any (v : Value) (zs : List Nat) (w : World) (h : Ws w v zs) (hx : zs.length ≤ 1000) :
    Calls Try.prog 112 #[v] w fun e w' => ∃ u, e = .returned u ∧ IntsAt w' u ((setE zs).map Int.ofNat) ∧ Below w.heap.size w w' := by
  obtain ⟨i0, hi, hz0, hz1, hz2⟩ := info_parts int_info
  have H1 := Lib.hid h
  obtain ⟨p1, c1, rfl⟩ := ws_len h
  clear h
  go_enter Try.func112, Try.ntmps112
  go_wp2_with fail
  go_loopw [3, 4] (fun l i wr => ∃ k : Nat, k ≤ 64 * zs.length ∧ i = .int .i64 k ∧ wr.ownsRow w.heap.size 3 1 l (refK zs k).length (natVs (refK zs k)) ∧ Below w.heap.size w wr)
    (fun _ i _ => 64 * zs.length - (intOf i).toNat)
  case atStart => exact ⟨0, Nat.zero_le _, rfl, World.ownsRow_nil _ _ _ _, Below.refl _ _⟩
  case round =>
    obtain ⟨k, hk, rfl, hl, hB⟩ := hrel
    have HL := Lib.hid hl
    have HB := Lib.hid hB
    clear hl hB
    by_cases hlt : k < 64 * zs.length
    · have HK := Lib.hid (refK_succ zs k)
      have hkl := refK_len zs k
      have H1r := Lib.hid (H1.out.below HB.out)
      go_wp2_with fail
      refine (rhas10_any k _ _ _ H1r.out (by omega)).mono ?_
      rintro e w1 ⟨rfl, hww⟩
      subst w1
      cases hb : hasE zs (k : Nat) with
      | false =>
        have HK2 := HK
        rw [hb] at HK2
        have HK3 := Lib.hid (show refK zs (k + 1) = refK zs k from HK2.out)
        rw [← HK3.out] at HL
        clear hb
        go_wp2_with fail
        go_roundw
        case rel => exact ⟨k + 1, by omega, by go_num, HL.out, HB.out⟩
        case measure => simp [intOf]; omega
      | true =>
        have HK2 := HK
        rw [hb] at HK2
        have HK3 := Lib.hid (show refK zs (k + 1) = refK zs k ++ [k] from HK2.out)
        clear hb
        go_wp2_with (at_builtin; refine wpList_append_own _ rfl _ _ 46 rfl w.heap.size 3 i0 (.int .i64 0) 1 8 Try.underlying46 hi hz0 hz1 hz2 rfl (by decide) _ _ _ rfl (HL.out.alloc _) ⟨wr.heap.size, 0, none⟩ 1 1 [.int .i64 k] rfl rfl ?c1 ?c2 ?c3 ?c4 ?c5 ?_)
        case c1 => exact cell_one_new _ _ _
        case c2 => simp [Value.oneCell']
        case c3 => unfold maxLen; omega
        case c4 => omega
        case c5 => have := HB.out.size; simp; omega
        intro v' w3 hown' hgrow _
        have HL' := Lib.hid (show w3.ownsRow w.heap.size 3 1 v' (refK zs (k + 1)).length (natVs (refK zs (k + 1))) by rw [HK3.out, natVs_snoc, List.length_append]; exact hown')
        have HB' := Lib.hid ((HB.out.alloc (by have := HB.out.size; omega) _).grown hgrow (by have := HB.out.size; simp; omega) (fun k hk => (HL.out.lt k hk).1))
        clear hown' hgrow
        go_wp2_with fail
        go_roundw
        case rel => exact ⟨k + 1, by omega, by go_num, HL'.out, HB'.out⟩
        case measure => simp [intOf]; omega
    · obtain rfl : k = 64 * zs.length := by omega
      have HE := Lib.hid (show refK zs (64 * zs.length) = setE zs from refK_word zs zs.length)
      go_wp2_with fail
      go_ret
      refine ⟨_, rfl, ?_, HB.out⟩
      have h7 := HL.out
      rw [HE.out, natVs_ints] at h7
      exact .of_owns (by simpa using h7)

end Go.Proofs.Yteheckcflnogbaa

/-
  soughref10.Of, Fits; wordset.Fits: contracts.
-/
namespace Go.Proofs.Yteheckcflnogbaa
open Go.RowKit

set_option maxHeartbeats 3200000 in
set_option maxRecDepth 100000 in
theorem rsetof_any (width : Int) (v : Value) (l : List Int) (w : World) (hl : IntsAt w v l) (hn : l.length ≤ 1000000) :
    Calls Try.prog 157 #[.int .i64 width, v] w fun e w' => ∃ u, e = .returned u ∧ Ws w' u (ofE width l) ∧ Below w.heap.size w w' := by
  have hs := sizeE_le width
  have hmk := make_u64 (sizeE width) ((near width + 63) / 64) (by rw [sizeE_int]) (by omega)
  obtain ⟨o, c, rfl, hc⟩ := hl
  have H1 := Lib.hid hc
  clear hc
  go_enter Try.func157, Try.ntmps157
  go_wp2_with (go_at_call 96; refine (rsize_any _ _).mono ?_; rintro e w1 ⟨rfl, hw1⟩; subst w1)
  clear hmk
  go_loopw [5, 13] (fun u i wr => ∃ k : Nat, k ≤ l.length ∧ i = .int .i64 k ∧ Ws wr u (ofK width l k) ∧ Below w.heap.size w wr)
    (fun _ i _ => l.length - (intOf i).toNat)
  case atStart =>
    refine ⟨0, Nat.zero_le _, rfl, ?_, (Below.refl _ _).alloc (Nat.le_refl _) _⟩
    rw [show ofK width l 0 = List.replicate (sizeE width) 0 from rfl, ← Array.toArray_toList (xs := Array.replicate (sizeE width) (Value.int IntKind.u64 0)), Array.toList_replicate, ← u64s_zero]
    exact (Bk.new _ _ _).ws (by simp) (fun z hz => by rw [List.eq_of_mem_replicate hz]; decide)
  case round =>
    obtain ⟨k, hk, rfl, hl, hB⟩ := hrel
    have HB := Lib.hid hB
    obtain ⟨p3, c3, rfl⟩ := ws_len hl
    have hlen := ofK_len width l k
    have HL := Lib.hid (show Ws wr (Value.slice p3 (sizeE width) c3) (ofK width l k) by rw [← hlen]; exact hl)
    rw [hlen]
    clear hl hB hlen
    by_cases hlt : k < l.length
    · obtain ⟨bb, off, rfl, q⟩ := H1.out (by omega)
      have hck := keepc (q k hlt) HB.out
      have HE := Lib.hid (ofK_succ width l k hlt)
      clear q
      generalize l[k]?.getD 0 = n at *
      by_cases h0 : 0 ≤ n
      · obtain ⟨m, rfl⟩ : ∃ m : Nat, n = m := ⟨n.toNat, by omega⟩
        go_wp2_with fail
        refine (width_any width _).mono ?_
        rintro e w1 ⟨rfl, hww⟩
        subst w1
        have HN := Lib.hid (near_bd width)
        by_cases h1 : (m : Int) < near width
        · have HS := Lib.hid (show ofK width l (k + 1) = withE (ofK width l k) m by rw [HE.out]; unfold ofStep; rw [if_pos ⟨by omega, h1⟩, Int.toNat_natCast])
          have hq : m / 64 < (ofK width l k).length := by have := sizeE_int width; rw [ofK_len]; omega
          have HWi := Lib.hid (with_any m _ (ofK width l k) wr HL.out hq (by rw [ofK_len]; omega))
          clear hq
          go_wp2_with fail
          refine HWi.out.mono ?_
          rintro e w2 ⟨u2, rfl, hW2, hB2⟩
          have HB2 := Lib.hid (HB.out.trans (hB2.mono HB.out.size))
          have HW2 := Lib.hid hW2
          rw [← HS.out] at HW2
          obtain ⟨p4, c4, rfl⟩ := ws_len hW2
          clear hW2 hB2
          go_wp2_with fail
          go_roundw
          case rel => exact ⟨k + 1, by omega, by go_num, HW2.out, HB2.out⟩
          case measure => simp [intOf]; omega
        · have HS := Lib.hid (show ofK width l (k + 1) = ofK width l k by rw [HE.out]; unfold ofStep; rw [if_neg (by omega)])
          have HK2 := HL
          rw [← HS.out] at HK2
          go_wp2_with fail
          go_roundw
          case rel => exact ⟨k + 1, by omega, by go_num, HK2.out, HB.out⟩
          case measure => simp [intOf]; omega
      · have HS := Lib.hid (show ofK width l (k + 1) = ofK width l k by rw [HE.out]; unfold ofStep; rw [if_neg (by omega)])
        have HK2 := HL
        rw [← HS.out] at HK2
        go_wp2_with fail
        go_roundw
        case rel => exact ⟨k + 1, by omega, by go_num, HK2.out, HB.out⟩
        case measure => simp [intOf]; omega
    · obtain rfl : k = l.length := by omega
      have HL2 := HL
      rw [show ofK width l l.length = ofE width l by unfold ofK ofE; rw [List.take_length]] at HL2
      go_wp2_with fail
      go_ret
      exact ⟨_, rfl, HL2.out, HB.out⟩

set_option maxHeartbeats 1600000 in
set_option maxRecDepth 100000 in
theorem fits_any (width : Int) (v : Value) (zs : List Nat) (w : World) (hw : Ws w v zs) (hx : zs.length ≤ 1000) :
    Calls Try.prog 101 #[v, .int .i64 width] w fun e w' => e = .returned (.bool (fitsE zs width)) ∧ Below w.heap.size w w' := by
  have hs := sizeE_le width
  have HZ := Lib.hid hw.1
  have H1 := Lib.hid hw
  obtain ⟨p, c, rfl⟩ := ws_len hw
  have B0 := Lib.hid (Below.refl w.heap.size w)
  clear hw
  by_cases hl : zs.length = sizeE width
  · have HR := Lib.hid (show fitsE zs width = subE zs (fullE width) by unfold fitsE; rw [fits_eq zs width HZ.out hl, decide_eq_true hl, Bool.true_and])
    have hb : ((zs.length : Int) == (near width + 63) / 64) = true := by rw [sizeE_int]; simp; omega
    clear hl
    go_enter Try.func101, Try.ntmps101
    go_wp2_with fail
    refine (size_any _ _).mono ?_
    rintro e w1 ⟨rfl, hww⟩
    subst w1
    go_wp2_with fail
    refine (full_any width w).mono ?_
    rintro e w3 ⟨u, rfl, hW, hB⟩
    have HW3 := Lib.hid hW
    have H3 := Lib.hid (H1.out.below hB)
    have B3 := Lib.hid hB
    obtain ⟨p3, c3, rfl⟩ := ws_len hW
    have hfl : (fullE width).length ≤ 16 := by rw [fullE_len]; exact hs
    clear hW hB
    go_wp2_with fail
    refine (within_any _ _ zs (fullE width) _ H3.out HW3.out (by omega) (by omega)).mono ?_
    rintro e w4 ⟨rfl, hB⟩
    have B4 := Lib.hid (B3.out.trans (hB.mono B3.out.size))
    clear hB
    have HR2 := Lib.hid (show (lenE (bothE minN zs (fullE width)) == 0) = fitsE zs width from HR.out.symm)
    rw [HR2.out]
    go_wp2_with fail
    go_ret
    exact ⟨rfl, B4.out⟩
  · have HR := Lib.hid (show fitsE zs width = false by unfold fitsE; rw [decide_eq_false hl, Bool.false_and])
    have hb : ((zs.length : Int) == (near width + 63) / 64) = false := by rw [sizeE_int]; simp; omega
    go_enter Try.func101, Try.ntmps101
    go_wp2_with fail
    refine (size_any _ _).mono ?_
    rintro e w1 ⟨rfl, hww⟩
    subst w1
    go_wp2_with fail
    go_ret
    exact ⟨ret_bool HR.out.symm, B0.out⟩

set_option maxHeartbeats 1600000 in
set_option maxRecDepth 100000 in
theorem rfits_any (width : Int) (v : Value) (zs : List Nat) (w : World) (hw : Ws w v zs) (hx : zs.length ≤ 1000) :
    Calls Try.prog 103 #[v, .int .i64 width] w fun e w' => e = .returned (.bool (fitsE zs width)) ∧ Below w.heap.size w w' := by
  have hs := sizeE_le width
  have H1 := Lib.hid hw
  obtain ⟨p, c, rfl⟩ := ws_len hw
  have B0 := Lib.hid (Below.refl w.heap.size w)
  clear hw
  by_cases hl : zs.length = sizeE width
  · have hb : ((zs.length : Int) != (near width + 63) / 64) = false := by rw [sizeE_int]; simp; omega
    have HF := Lib.hid (show (∀ n, n < 64 * zs.length → near width ≤ (n : Int) → hasE zs (n : Nat) = false) → fitsE zs width = true from fun h => by unfold fitsE; rw [decide_eq_true hl, Bool.true_and]; exact decide_eq_true h)
    have HG := Lib.hid (show ∀ n, n < 64 * zs.length → near width ≤ (n : Int) → hasE zs (n : Nat) = true → fitsE zs width = false from fun n h1 h2 h3 => by
      unfold fitsE; rw [decide_eq_true hl, Bool.true_and]; refine decide_eq_false fun h => ?_
      have := h n h1 h2
      rw [h3] at this; cases this)
    have HLn := Lib.hid hl
    clear hl
    go_enter Try.func103, Try.ntmps103
    go_wp2_with fail
    refine (rsize_any _ _).mono ?_
    rintro e w1 ⟨rfl, hww⟩
    subst w1
    go_wp2_with fail
    refine (width_any _ _).mono ?_
    rintro e w1 ⟨rfl, hww⟩
    subst w1
    obtain ⟨W, hW⟩ : ∃ W : Nat, near width = W := ⟨(near width).toNat, by have := near_bd width; omega⟩
    have HW := Lib.hid hW
    have hwb : W ≤ 64 * zs.length := by have := sizeE_int width; have := HLn.out; omega
    rw [hW] at HF HG
    clear hb hW
    go_wp2_with fail
    go_loopw [5] (fun i wr => ∃ k : Nat, W ≤ k ∧ k ≤ 64 * zs.length ∧ i = .int .i64 k ∧ Hid (∀ n, n < k → (W : Int) ≤ (n : Int) → hasE zs (n : Nat) = false) ∧ wr = w)
      (fun i _ => 64 * zs.length - (intOf i).toNat)
    case atStart => exact ⟨W, Nat.le_refl _, hwb, by rw [HW.out], Lib.hid (fun n h1 h2 => by omega), rfl⟩
    case round =>
      obtain ⟨k, hWk, hk, rfl, HA, rfl⟩ := hrel
      by_cases hlt : k < 64 * zs.length
      · have HS := Lib.hid (show hasE zs (k : Nat) = false → ∀ n, n < k + 1 → (W : Int) ≤ (n : Int) → hasE zs (n : Nat) = false from fun e n h1 h2 => by
          rcases (show n < k ∨ n = k by omega) with h | rfl
          · exact HA.out n h h2
          · exact e)
        have HG2 := Lib.hid (HG.out k hlt (by omega))
        go_wp2_with fail
        refine (rhas10_any k _ _ _ H1.out (by omega)).mono ?_
        rintro e w1 ⟨rfl, hww⟩
        subst w1
        cases hb : hasE zs (k : Nat) with
        | false =>
          have HS2 := Lib.hid (HS.out hb)
          clear hb
          go_wp2_with fail
          go_roundw
          case rel => exact ⟨k + 1, by omega, by omega, by go_num, HS2, trivial⟩
          case measure => simp [intOf]; omega
        | true =>
          have HG3 := Lib.hid (HG2.out hb)
          clear hb
          go_wp2_with fail
          go_ret
          exact ⟨ret_bool HG3.out.symm, B0.out⟩
      · obtain rfl : k = 64 * zs.length := by omega
        have HF2 := Lib.hid (HF.out HA.out)
        go_wp2_with fail
        go_ret
        exact ⟨ret_bool HF2.out.symm, B0.out⟩
  · have HR := Lib.hid (show fitsE zs width = false by unfold fitsE; rw [decide_eq_false hl, Bool.false_and])
    have hb : ((zs.length : Int) != (near width + 63) / 64) = true := by rw [sizeE_int]; simp; omega
    go_enter Try.func103, Try.ntmps103
    go_wp2_with fail
    refine (rsize_any _ _).mono ?_
    rintro e w1 ⟨rfl, hww⟩
    subst w1
    go_wp2_with fail
    go_ret
    exact ⟨ret_bool HR.out.symm, B0.out⟩

end Go.Proofs.Yteheckcflnogbaa

/-
  lattice.words, Bottom, Top, Is: contracts.
-/
namespace Go.Proofs.Yteheckcflnogbaa
open Go.RowKit

/-- The first k words made, and nothing behind. -/
def madeK (f : Nat → Nat) (n k : Nat) : List Nat := (List.range n).map fun i => if i < k then f i else 0
theorem madeK_zero (f : Nat → Nat) (n : Nat) : madeK f n 0 = List.replicate n 0 := by
  refine List.ext_getElem (by simp [madeK]) fun i h1 h2 => ?_
  simp [madeK]
theorem madeK_len (f : Nat → Nat) (n k : Nat) : (madeK f n k).length = n := by simp [madeK]
theorem madeK_step (f : Nat → Nat) (n k : Nat) : (madeK f n k).set k (f k) = madeK f n (k + 1) := by
  refine List.ext_getElem (by simp [madeK]) fun i h1 h2 => ?_
  rw [List.getElem_set]
  by_cases hk : k = i
  · subst hk; simp [madeK]
  · rw [if_neg hk]
    simp only [madeK, List.getElem_map, List.getElem_range]
    by_cases hik : i < k
    · rw [if_pos hik, if_pos (by omega)]
    · rw [if_neg hik, if_neg (by omega)]
theorem madeK_all (f : Nat → Nat) (n : Nat) : madeK f n n = (List.range n).map f := by
  unfold madeK
  exact List.map_congr_left fun i hi => if_pos (List.mem_range.1 hi)
theorem made_lt {f : Nat → Nat} {n : Nat} (h : ∀ i, i < n → f i < 18446744073709551616) : ∀ z ∈ (List.range n).map f, z < 18446744073709551616 := fun z hz => by
  obtain ⟨i, hi, rfl⟩ := List.mem_map.1 hz
  exact h i (List.mem_range.1 hi)
theorem zeros_bk (w : World) (n : Nat) : Bk (w.alloc (.cells (List.replicate n (Value.int .u64 0)).toArray 29)) w.heap.size 29 (u64s (List.replicate n 0)) := by
  rw [u64s_zero]; exact Bk.new _ _ _
theorem zeros_bk' (w : World) (n : Nat) : Bk (w.alloc (.cells (Array.replicate n (Value.int .u64 0)) 29)) w.heap.size 29 (u64s (List.replicate n 0)) := by
  have := zeros_bk w n
  rwa [List.toArray_replicate] at this
theorem zeros_lt (n : Nat) : ∀ z ∈ List.replicate n 0, z < 18446744073709551616 := fun z hz => by rw [List.eq_of_mem_replicate hz]; decide

set_option maxHeartbeats 3200000 in
set_option maxRecDepth 100000 in
theorem mkwords_any (F : FuncId) (lb : Array Value) (f : Nat → Nat) (what width : Int) (w : World)
    (el : ∀ args w, (callFunc F args).run Try.prog w = .ok (.enter F args) w)
    (hf : ∀ i w1, i < wordsN what width → Below w.heap.size w w1 → Calls Try.prog F (#[.int .i64 (i : Nat)] ++ lb) w1 fun e w' => e = .returned (.int .u64 (f i : Nat)) ∧ Below w1.heap.size w1 w')
    (hb : ∀ i, i < wordsN what width → f i < 18446744073709551616) :
    Calls Try.prog 99 #[.int .i64 what, .int .i64 width, .func (.func F) #[] lb] w fun e w' => ∃ v, e = .returned v ∧ Ws w' v ((List.range (wordsN what width)).map f) ∧ Below w.heap.size w w' := by
  have hn := wordsN_le what width
  have hmk := make_u64 (wordsN what width) (wordsN what width) rfl (by omega)
  have HF := Lib.hid hf
  have HBd := Lib.hid hb
  clear hf hb
  go_enter Try.func99, Try.ntmps99
  go_wp2_with fail
  refine (lwords_any _ _ _).mono ?_
  rintro e w1 ⟨rfl, hww⟩
  subst w1
  go_wp2_with fail
  clear hmk
  obtain ⟨n, hne⟩ : ∃ n, n = wordsN what width := ⟨_, rfl⟩
  have HNE := Lib.hid hne
  rw [← hne] at hn HF HBd ⊢
  clear hne
  go_loopw [15] (fun i wr => ∃ k : Nat, k ≤ n ∧ i = .int .i64 k ∧ Bk wr w.heap.size 29 (u64s (madeK f n k)) ∧ Below w.heap.size w wr)
    (fun i _ => n - (intOf i).toNat)
  case atStart => exact ⟨0, Nat.zero_le _, rfl, by rw [madeK_zero]; first | exact zeros_bk' _ _ | exact zeros_bk _ _, (Below.refl _ _).alloc (Nat.le_refl _) _⟩
  case round =>
    obtain ⟨k, hk, rfl, hbk, hB⟩ := hrel
    have HK := Lib.hid hbk
    have HB := Lib.hid hB
    clear hbk hB
    by_cases hlt : k < n
    · have HC := Lib.hid (HF.out k wr hlt HB.out)
      go_wp2_with fail
      refine HC.out.mono ?_
      rintro e w2 ⟨rfl, hB2⟩
      have HB2 := Lib.hid (HB.out.trans (hB2.mono HB.out.size))
      have HK2 := Lib.hid (HK.out.below hB2)
      have hcell : w2.cell? ⟨w.heap.size, k, none⟩ = some (.int .u64 (wAt (madeK f n k) k : Nat)) := by
        rw [HK2.out.cell, u64s_at _ _ (by rw [madeK_len]; exact hlt)]
      have hfree := HK2.out.free k
      have HBk := Lib.hid (HK2.out.set k (.int .u64 (f k : Nat)))
      rw [← u64s_set, madeK_step] at HBk
      generalize wAt (madeK f n k) k = z at *
      clear hB2
      go_wp2_with fail
      go_roundw
      case rel => exact ⟨k + 1, by omega, by go_num, HBk.out, HB2.out.setCell (p := ⟨w.heap.size, k, none⟩) (Nat.le_refl _) _⟩
      case measure => simp [intOf]; omega
    · obtain rfl : k = n := by omega
      have HK2 := HK
      rw [madeK_all] at HK2
      go_wp2_with fail
      go_ret
      exact ⟨_, rfl, by rw [← HNE.out]; exact HK2.out.ws (by simp) (made_lt HBd.out), HB.out⟩

set_option maxHeartbeats 1600000 in
set_option maxRecDepth 100000 in
theorem bottom_any (what width : Int) (w : World) :
    Calls Try.prog 20 #[.int .i64 what, .int .i64 width] w fun e w' => ∃ v, e = .returned v ∧ Ws w' v (bottomE what width) ∧ Below w.heap.size w w' := by
  have hn := wordsN_le what width
  have hmk := make_u64 (wordsN what width) (wordsN what width) rfl (by omega)
  have rest : ∀ h : bottomE what width = List.replicate (wordsN what width) 0, Ws (w.alloc (.cells (Array.replicate (wordsN what width) (Value.int .u64 0)) 29)) (.slice (some ⟨w.heap.size, 0, none⟩) (wordsN what width) (wordsN what width)) (bottomE what width) := fun h => by
    rw [h]; exact (zeros_bk' w _).ws List.length_replicate (zeros_lt _)
  have HR := Lib.hid rest
  have HB0 := Lib.hid ((Below.refl w.heap.size w).alloc (Nat.le_refl _) (.cells (Array.replicate (wordsN what width) (Value.int .u64 0)) 29))
  clear rest
  by_cases h2 : what = 2
  · subst h2
    go_enter Try.func20, Try.ntmps20
    go_wp2_with fail
    refine (lis_any _ _ _).mono ?_
    rintro e w1 ⟨rfl, hww⟩
    subst w1
    cases hL : isL 2 width with
    | true =>
      have H := Lib.hid (show bottomE 2 width = fullE width by unfold bottomE; rw [if_pos ⟨rfl, hL⟩])
      clear hL
      go_wp2_with fail
      refine (full_any _ _).mono ?_
      rintro e w3 ⟨u, rfl, hW, hB⟩
      have HW := Lib.hid hW
      have HB := Lib.hid hB
      obtain ⟨p3, c3, rfl⟩ := ws_len hW
      clear hW hB
      go_wp2_with fail
      go_ret
      exact ⟨_, rfl, by rw [H.out]; exact HW.out, HB.out⟩
    | false =>
      have H := Lib.hid (show bottomE 2 width = List.replicate (wordsN 2 width) 0 by unfold bottomE; rw [hL, if_neg (by simp)])
      clear hL
      go_wp2_with fail
      refine (lwords_any _ _ _).mono ?_
      rintro e w1 ⟨rfl, hww⟩
      subst w1
      go_wp2_with fail
      go_ret
      exact ⟨_, rfl, HR.out H.out, HB0.out⟩
  · have H := Lib.hid (show bottomE what width = List.replicate (wordsN what width) 0 by unfold bottomE; rw [if_neg (by omega)])
    have e2 : (what == 2) = false := by simpa using h2
    clear h2
    go_enter Try.func20, Try.ntmps20
    go_wp2_with fail
    refine (lwords_any _ _ _).mono ?_
    rintro e w1 ⟨rfl, hww⟩
    subst w1
    go_wp2_with fail
    go_ret
    exact ⟨_, rfl, HR.out H.out, HB0.out⟩

theorem top1_any (i : Int) (w : World) :
    Calls Try.prog 100 #[.int .i64 i] w fun e w' => e = .returned (.int .u64 ((1 : Nat) : Int)) ∧ Below w.heap.size w w' := by
  go_enter Try.func100, Try.ntmps100
  go_wp2
  go_ret
  exact ⟨rfl, Below.refl _ _⟩

set_option maxHeartbeats 1600000 in
set_option maxRecDepth 100000 in
theorem top_any (what width : Int) (w : World) :
    Calls Try.prog 22 #[.int .i64 what, .int .i64 width] w fun e w' => ∃ v, e = .returned v ∧ Ws w' v (topE what width) ∧ Below w.heap.size w w' := by
  have hn := wordsN_le what width
  have hmk := make_u64 (wordsN what width) (wordsN what width) rfl (by omega)
  have rest : ∀ h : topE what width = List.replicate (wordsN what width) 0, Ws (w.alloc (.cells (Array.replicate (wordsN what width) (Value.int .u64 0)) 29)) (.slice (some ⟨w.heap.size, 0, none⟩) (wordsN what width) (wordsN what width)) (topE what width) := fun h => by
    rw [h]; exact (zeros_bk' w _).ws List.length_replicate (zeros_lt _)
  have HR := Lib.hid rest
  have HB0 := Lib.hid ((Below.refl w.heap.size w).alloc (Nat.le_refl _) (.cells (Array.replicate (wordsN what width) (Value.int .u64 0)) 29))
  clear rest
  by_cases h1 : what = 1
  · subst h1
    go_enter Try.func22, Try.ntmps22
    go_wp2_with fail
    refine (lis_any _ _ _).mono ?_
    rintro e w1 ⟨rfl, hww⟩
    subst w1
    cases hL : isL 1 width with
    | true =>
      have H := Lib.hid (show topE 1 width = fullE width by unfold topE; rw [if_pos ⟨rfl, hL⟩])
      clear hL
      go_wp2_with fail
      refine (full_any _ _).mono ?_
      rintro e w3 ⟨u, rfl, hW, hB⟩
      have HW := Lib.hid hW
      have HB := Lib.hid hB
      obtain ⟨p3, c3, rfl⟩ := ws_len hW
      clear hW hB
      go_wp2_with fail
      go_ret
      exact ⟨_, rfl, by rw [H.out]; exact HW.out, HB.out⟩
    | false =>
      have H := Lib.hid (show topE 1 width = List.replicate (wordsN 1 width) 0 by unfold topE; rw [hL, if_neg (by simp), if_neg (by decide)])
      clear hL
      go_wp2_with fail
      refine (lwords_any _ _ _).mono ?_
      rintro e w1 ⟨rfl, hww⟩
      subst w1
      go_wp2_with fail
      go_ret
      exact ⟨_, rfl, HR.out H.out, HB0.out⟩
  · by_cases h3 : what = 3
    · subst h3
      have H := Lib.hid (show topE 3 width = (List.range (wordsN 3 width)).map fun _ => 1 by
        unfold topE; rw [if_neg (by omega), if_pos rfl]
        refine List.ext_getElem (by simp) fun i h1 h2 => by simp)
      clear h1
      go_enter Try.func22, Try.ntmps22
      go_wp2_with fail
      refine (mkwords_any 100 #[] (fun _ => 1) _ _ _ (enters_of Try.func100 (by kernel_rfl) rfl) (fun i w1 _ _ => top1_any i w1) (fun _ _ => by decide)).mono ?_
      rintro e w3 ⟨u, rfl, hW, hB⟩
      rw [← H.out] at hW
      have HW := Lib.hid hW
      have HB := Lib.hid hB
      obtain ⟨p3, c3, rfl⟩ := ws_len hW
      clear hW hB
      go_wp2_with fail
      go_ret
      exact ⟨_, rfl, HW.out, HB.out⟩
    · have H := Lib.hid (show topE what width = List.replicate (wordsN what width) 0 by unfold topE; rw [if_neg (by omega), if_neg h3])
      have e1 : (what == 1) = false := by simpa using h1
      have e3 : (what == 3) = false := by simpa using h3
      clear h1 h3
      go_enter Try.func22, Try.ntmps22
      go_wp2_with fail
      refine (lwords_any _ _ _).mono ?_
      rintro e w1 ⟨rfl, hww⟩
      subst w1
      go_wp2_with fail
      go_ret
      exact ⟨_, rfl, HR.out H.out, HB0.out⟩

end Go.Proofs.Yteheckcflnogbaa

/-
  lattice.Is, check, Join, Below, Rank: contracts.
-/
namespace Go.Proofs.Yteheckcflnogbaa
open Go.RowKit

theorem souN_is (x : Nat) : (isn (x : Int) || decide ((x : Int) = 0 ∨ (x : Int) = 1)) = souN x := by
  unfold souN sou
  by_cases h : isn (x : Int) = true
  · rw [h, if_pos rfl]; simp
  · rw [if_neg h, Bool.eq_false_iff.2 h, Bool.false_or]
    rw [Bool.eq_iff_iff, decide_eq_true_eq, beq_iff_eq]
    split <;> omega
theorem all_at {p : Nat → Bool} {a : List Nat} (h : ∀ i, i < a.length → p (wAt a i) = true) : a.all p = true := by
  rw [List.all_eq_true]
  intro z hz
  obtain ⟨i, hi, rfl⟩ := List.getElem_of_mem hz
  have := h i hi
  unfold wAt at this
  rwa [List.getElem?_eq_getElem hi] at this
theorem all_not {p : Nat → Bool} {a : List Nat} {i : Nat} (hi : i < a.length) (h : p (wAt a i) = false) : a.all p = false := by
  rw [Bool.eq_false_iff]
  intro h2
  rw [List.all_eq_true] at h2
  have := h2 _ (List.getElem_mem hi)
  unfold wAt at h
  rw [List.getElem?_eq_getElem hi] at h
  rw [show (some a[i]).getD 0 = a[i] from rfl] at h
  rw [h] at this; cases this

set_option maxHeartbeats 3200000 in
set_option maxRecDepth 100000 in
theorem lval_any (what width : Int) (v : Value) (a : List Nat) (w : World) (hw : Ws w v a) (hx : a.length ≤ 100000) :
    Calls Try.prog 24 #[.int .i64 what, .int .i64 width, v] w fun e w' => e = .returned (.bool (valueE what width a)) ∧ Below w.heap.size w w' := by
  have hn := wordsN_le what width
  have HZ := Lib.hid hw.1
  have HW := Lib.hid hw
  obtain ⟨p, c, rfl, hc⟩ := ws_row hw
  have HC := Lib.hid hc
  have B0 := Lib.hid (Below.refl w.heap.size w)
  clear hw hc
  go_enter Try.func24, Try.ntmps24
  go_wp2_with fail
  refine (lis_any _ _ _).mono ?_
  rintro e w1 ⟨rfl, hww⟩
  subst w1
  cases hL : isL what width with
  | false =>
    have H := Lib.hid (show valueE what width a = false by unfold valueE; rw [hL]; rfl)
    clear hL
    go_wp2_with fail
    go_ret
    exact ⟨ret_bool H.out.symm, B0.out⟩
  | true =>
    have HL := Lib.hid hL
    clear hL
    go_wp2_with fail
    refine (lwords_any _ _ _).mono ?_
    rintro e w1 ⟨rfl, hww⟩
    subst w1
    by_cases hl : a.length = wordsN what width
    · have hb : ((a.length : Int) != ((wordsN what width : Nat) : Int)) = false := by simp; omega
      have Hl := Lib.hid hl
      clear hl
      by_cases h3 : what = 3
      · subst h3
        have H1 := Lib.hid (show (∀ i, i < a.length → souN (wAt a i) = true) → valueE 3 width a = true from fun h => by
          unfold valueE; rw [HL.out, decide_eq_true Hl.out, if_pos rfl, all_at h]; rfl)
        have H0 := Lib.hid (show ∀ i, i < a.length → souN (wAt a i) = false → valueE 3 width a = false from fun i hi h => by
          unfold valueE; rw [if_pos rfl, all_not hi h]; simp)
        go_wp2_with fail
        go_loopw [28] (fun i wr => ∃ k : Nat, k ≤ a.length ∧ i = .int .i64 k ∧ Hid (∀ i, i < k → souN (wAt a i) = true) ∧ Below w.heap.size w wr)
          (fun i _ => a.length - (intOf i).toNat)
        case atStart => exact ⟨0, Nat.zero_le _, rfl, Lib.hid (fun i h => by omega), B0.out⟩
        case round =>
          obtain ⟨k, hk, rfl, HA, hB⟩ := hrel
          have HB := Lib.hid hB
          clear hB
          by_cases hlt : k < a.length
          · obtain ⟨ad, rfl, q⟩ := HC.out (by omega)
            have hck := keepc (q k hlt) HB.out
            rw [show a[k]?.getD 0 = wAt a k from rfl] at hck
            have H0k := Lib.hid (H0.out k hlt)
            have HS := Lib.hid (show souN (wAt a k) = true → ∀ i, i < k + 1 → souN (wAt a i) = true from fun e i hi => by
              rcases (show i < k ∨ i = k by omega) with h | rfl
              · exact HA.out i h
              · exact e)
            have hz := wAt_lt HZ.out k
            clear q
            generalize wAt a k = z at *
            go_wp2_with fail
            refine (is_any z _ (by omega)).mono ?_
            rintro e w2 ⟨rfl, hB2⟩
            have HB2 := Lib.hid (HB.out.trans (hB2.mono HB.out.size))
            clear hB2
            rw [souN_is]
            cases hs : souN z with
            | true =>
              have HS2 := Lib.hid (HS.out hs)
              clear hs
              go_wp2_with fail
              go_roundw
              case rel => exact ⟨k + 1, by omega, by go_num, HS2, HB2.out⟩
              case measure => simp [intOf]; omega
            | false =>
              have HV := Lib.hid (H0k.out hs)
              clear hs
              go_wp2_with fail
              go_ret
              exact ⟨ret_bool HV.out.symm, HB2.out⟩
          · obtain rfl : k = a.length := by omega
            have HV := Lib.hid (H1.out HA.out)
            go_wp2_with fail
            go_ret
            exact ⟨ret_bool HV.out.symm, HB.out⟩
      · have hne : (what != 3) = true := by simp; omega
        have HV := Lib.hid (show valueE what width a = fitsE a width by
          unfold valueE; rw [HL.out, decide_eq_true Hl.out, if_neg h3]; rfl)
        have hl16 : a.length ≤ 1000 := by
          have h1 := Hl.out
          have h2 : wordsN what width = sizeE width := by unfold wordsN; rw [if_pos HL.out, if_neg h3]
          have := sizeE_le width
          omega
        clear h3
        go_wp2_with fail
        refine (fits_any _ _ _ _ HW.out hl16).mono ?_
        rintro e w2 ⟨rfl, hB2⟩
        have HB2 := Lib.hid hB2
        clear hB2
        rw [← HV.out]
        go_wp2_with fail
        go_ret
        exact ⟨rfl, HB2.out⟩
    · have hb : ((a.length : Int) != ((wordsN what width : Nat) : Int)) = true := by simp; omega
      have HV := Lib.hid (show valueE what width a = false by unfold valueE; rw [decide_eq_false hl]; simp)
      clear hl
      go_wp2_with fail
      go_ret
      exact ⟨ret_bool HV.out.symm, B0.out⟩

/-! ### Lists of values -/
def lsAt (ls : List (List Nat)) (j : Nat) : List Nat := ls[j]?.getD []
/-- A slice of slices of words that reads as these lists. -/
def Sets (w : World) (v : Value) (ls : List (List Nat)) : Prop :=
  ∃ b c, v = .slice (some ⟨b, 0, none⟩) ls.length c ∧ ∀ j, j < ls.length → ∃ u, w.cell? ⟨b, j, none⟩ = some u ∧ Ws w u (lsAt ls j)
theorem Sets.below {w w' : World} {v : Value} {ls : List (List Nat)} (h : Sets w v ls) (k : Below w.heap.size w w') : Sets w' v ls := by
  obtain ⟨b, c, rfl, hc⟩ := h
  refine ⟨b, c, rfl, fun j hj => ?_⟩
  obtain ⟨u, h1, h2⟩ := hc j hj
  exact ⟨u, keepc h1 k, h2.below k⟩
theorem Sets.two {w : World} {u v : Value} {a b : List Nat} (t : TypeId) (hu : Ws w u a) (hv : Ws w v b) : Sets (w.alloc (.cells #[u, v] t)) (.slice (some ⟨w.heap.size, 0, none⟩) 2 2) [a, b] := by
  have hB : Below w.heap.size w (w.alloc (.cells #[u, v] t)) := (Below.refl _ _).alloc (Nat.le_refl _) _
  have h : Bk (w.alloc (.cells #[u, v] t)) w.heap.size t [u, v] := Bk.new _ _ _
  refine ⟨_, _, rfl, fun j hj => ?_⟩
  rcases j with _ | _ | j
  · exact ⟨u, by rw [h.cell]; rfl, hu.below hB⟩
  · exact ⟨v, by rw [h.cell]; rfl, hv.below hB⟩
  · simp at hj; omega
theorem Sets.one {w : World} {u : Value} {a : List Nat} (t : TypeId) (hu : Ws w u a) : Sets (w.alloc (.cells #[u] t)) (.slice (some ⟨w.heap.size, 0, none⟩) 1 1) [a] := by
  have hB : Below w.heap.size w (w.alloc (.cells #[u] t)) := (Below.refl _ _).alloc (Nat.le_refl _) _
  have h : Bk (w.alloc (.cells #[u] t)) w.heap.size t [u] := Bk.new _ _ _
  refine ⟨_, _, rfl, fun j hj => ?_⟩
  rcases j with _ | j
  · exact ⟨u, by rw [h.cell]; rfl, hu.below hB⟩
  · simp at hj
def checkE (what width : Int) (ls : List (List Nat)) : Int := if isL what width = true then (if ls.all (valueE what width) = true then 0 else 2) else 10

set_option maxHeartbeats 3200000 in
set_option maxRecDepth 100000 in
theorem check_any (what width : Int) (v : Value) (ls : List (List Nat)) (w : World) (hw : Sets w v ls) (hx : ∀ a ∈ ls, a.length ≤ 100000) (hn : ls.length ≤ 1000) :
    Calls Try.prog 105 #[.int .i64 what, .int .i64 width, v] w fun e w' => e = .returned (.int .i64 (checkE what width ls)) ∧ Below w.heap.size w w' := by
  obtain ⟨b, c, rfl, hc⟩ := hw
  have HX := Lib.hid hx
  have HC := Lib.hid hc
  have B0 := Lib.hid (Below.refl w.heap.size w)
  clear hc hx
  go_enter Try.func105, Try.ntmps105
  go_wp2_with fail
  refine (lis_any _ _ _).mono ?_
  rintro e w1 ⟨rfl, hww⟩
  subst w1
  cases hL : isL what width with
  | false =>
    have H := Lib.hid (show checkE what width ls = 10 by unfold checkE; rw [hL, if_neg (by decide)])
    clear hL
    go_wp2_with fail
    go_ret
    exact ⟨ret_int H.out.symm, B0.out⟩
  | true =>
    have H1 := Lib.hid (show (∀ j, j < ls.length → valueE what width (lsAt ls j) = true) → checkE what width ls = 0 from fun h => by
      unfold checkE; rw [hL, if_pos rfl, if_pos]
      rw [List.all_eq_true]
      intro z hz
      obtain ⟨i, hi, rfl⟩ := List.getElem_of_mem hz
      have := h i hi
      unfold lsAt at this
      rwa [List.getElem?_eq_getElem hi] at this)
    have H0 := Lib.hid (show ∀ j, j < ls.length → valueE what width (lsAt ls j) = false → checkE what width ls = 2 from fun j hj h => by
      unfold checkE; rw [hL, if_pos rfl, if_neg]
      rw [List.all_eq_true]
      intro h2
      have := h2 _ (List.getElem_mem hj)
      unfold lsAt at h
      rw [List.getElem?_eq_getElem hj] at h
      rw [show (some ls[j]).getD [] = ls[j] from rfl] at h
      rw [h] at this; cases this)
    clear hL
    go_wp2_with fail
    go_loopw [15] (fun i wr => ∃ k : Nat, k ≤ ls.length ∧ i = .int .i64 k ∧ Hid (∀ i, i < k → valueE what width (lsAt ls i) = true) ∧ Below w.heap.size w wr)
      (fun i _ => ls.length - (intOf i).toNat)
    case atStart => exact ⟨0, Nat.zero_le _, rfl, Lib.hid (fun i h => by omega), B0.out⟩
    case round =>
      obtain ⟨k, hk, rfl, HA, hB⟩ := hrel
      have HB := Lib.hid hB
      clear hB
      by_cases hlt : k < ls.length
      · obtain ⟨u, hu, hW⟩ := HC.out k hlt
        have hck := keepc hu HB.out
        have HW := Lib.hid (hW.below HB.out)
        have HXk := Lib.hid (show (lsAt ls k).length ≤ 100000 by
          have := HX.out _ (List.getElem_mem hlt)
          unfold lsAt; rw [List.getElem?_eq_getElem hlt]; exact this)
        have H0k := Lib.hid (H0.out k hlt)
        have HS := Lib.hid (show valueE what width (lsAt ls k) = true → ∀ i, i < k + 1 → valueE what width (lsAt ls i) = true from fun e i hi => by
          rcases (show i < k ∨ i = k by omega) with h | rfl
          · exact HA.out i h
          · exact e)
        obtain ⟨p3, c3, rfl⟩ := ws_len hW
        clear hu hW
        generalize lsAt ls k = a at *
        go_wp2_with fail
        refine (lval_any _ _ _ a _ HW.out HXk.out).mono ?_
        rintro e w2 ⟨rfl, hB2⟩
        have HB2 := Lib.hid (HB.out.trans (hB2.mono HB.out.size))
        clear hB2
        cases hs : valueE what width a with
        | true =>
          have HS2 := Lib.hid (HS.out hs)
          clear hs
          go_wp2_with fail
          go_roundw
          case rel => exact ⟨k + 1, by omega, by go_num, HS2, HB2.out⟩
          case measure => simp [intOf]; omega
        | false =>
          have HV := Lib.hid (H0k.out hs)
          clear hs
          go_wp2_with fail
          go_ret
          exact ⟨ret_int HV.out.symm, HB2.out⟩
      · obtain rfl : k = ls.length := by omega
        have HV := Lib.hid (H1.out HA.out)
        go_wp2_with fail
        go_ret
        exact ⟨ret_int HV.out.symm, HB.out⟩

end Go.Proofs.Yteheckcflnogbaa

/-
  lattice.Join, Below, Rank: contracts.
-/
namespace Go.Proofs.Yteheckcflnogbaa
open Go.RowKit

set_option maxHeartbeats 3200000 in
set_option maxRecDepth 100000 in
theorem join1_any (what : Int) (i : Nat) (g1 g2 g3 : Nat) (v1 v2 : Value) (a b : List Nat) (w : World) (hw : w.cell? ⟨g1, 0, none⟩ = some (.int .i64 what)) (ha : w.cell? ⟨g2, 0, none⟩ = some v1) (hb : w.cell? ⟨g3, 0, none⟩ = some v2)
    (h1 : Ws w v1 a) (h2 : Ws w v2 b) (hi : i < a.length) (hj : i < b.length) (hn : a.length ≤ 100000) (hm : b.length ≤ 100000) :
    Calls Try.prog 106 #[.int .i64 (i : Nat), .pointer (some ⟨g1, 0, none⟩), .pointer (some ⟨g2, 0, none⟩), .pointer (some ⟨g3, 0, none⟩)] w fun e w' => e = .returned (.int .u64 (wordE what (wAt a i) (wAt b i) : Nat)) ∧ Below w.heap.size w w' := by
  have hx := wAt_lt h1.1 i
  have hy := wAt_lt h2.1 i
  obtain ⟨p1, c1, rfl, q1⟩ := ws_row h1
  obtain ⟨p2, c2, rfl, q2⟩ := ws_row h2
  obtain ⟨a1, rfl, r1⟩ := q1 (by omega)
  obtain ⟨a2, rfl, r2⟩ := q2 (by omega)
  have e1 : w.cell? (a1.add i) = some (.int .u64 (wAt a i : Nat)) := r1 i hi
  have e2 : w.cell? (a2.add i) = some (.int .u64 (wAt b i : Nat)) := r2 i hj
  have H := Lib.hid (And.intro hw (And.intro ha (And.intro hb (And.intro e1 e2))))
  have hii : (i : Int) < a.length := by omega
  have hij : (i : Int) < b.length := by omega
  clear hw ha hb e1 e2 q1 q2 r1 r2 h1 h2
  generalize wAt a i = x at *
  generalize wAt b i = y at *
  go_enter Try.func106, Try.ntmps106
  go_wp2_with fail
  go_region_held3 (fun w' => w'.cell? ⟨g1, 0, none⟩ = some (.int .i64 what) ∧ w'.cell? ⟨g2, 0, none⟩ = some (.slice (some a1) a.length c1) ∧ w'.cell? ⟨g3, 0, none⟩ = some (.slice (some a2) b.length c2) ∧ w'.cell? (a1.add i) = some (.int .u64 (x : Nat)) ∧ w'.cell? (a2.add i) = some (.int .u64 (y : Nat)) ∧ Below w.heap.size w w')
    (first
      | exact ⟨H.out.1, H.out.2.1, H.out.2.2.1, H.out.2.2.2.1, H.out.2.2.2.2, (Below.refl _ _).drew⟩
      | (go_split_ands; exact ⟨keepc (by assumption) hB, keepc (by assumption) hB, keepc (by assumption) hB, keepc (by assumption) hB, keepc (by assumption) hB, bel_then (by assumption) hB⟩))
    (first
      | (go_at_call 30; refine (lword_any what x y _ hx hy).mono ?_; rintro e w' ⟨rfl, hB⟩))
  all_goals
    go_split_ands
    go_wp2_with fail
    go_ret
    exact ⟨rfl, by assumption⟩

theorem check_zero {what width : Int} {ls : List (List Nat)} (h : checkE what width ls = 0) : isL what width = true ∧ ∀ a ∈ ls, valueE what width a = true := by
  unfold checkE at h
  split at h
  · next hL =>
    split at h
    · next ha => exact ⟨hL, List.all_eq_true.1 ha⟩
    · omega
  · omega
theorem range_both (what : Int) {a b : List Nat} {n : Nat} (ha : a.length = n) (hb : b.length = n) : (List.range n).map (fun i => wordE what (wAt a i) (wAt b i)) = joinE what a b := by
  unfold joinE bothE
  rw [show max a.length b.length = n by omega]

set_option maxHeartbeats 3200000 in
set_option maxRecDepth 100000 in
theorem ljoin_any (what width : Int) (v1 v2 : Value) (a b : List Nat) (w : World) (h1 : Ws w v1 a) (h2 : Ws w v2 b) (hn : a.length ≤ 100000) (hm : b.length ≤ 100000) :
    Calls Try.prog 28 #[.int .i64 what, .int .i64 width, v1, v2] w fun e w' =>
      ∃ u, e = .returned (.tuple #[u, .int .i64 (checkE what width [a, b])]) ∧ Ws w' u (if checkE what width [a, b] = 0 then joinE what a b else []) ∧ Below w.heap.size w w' := by
  have H1 := Lib.hid h1
  have H2 := Lib.hid h2
  obtain ⟨p1, c1, rfl⟩ := ws_len h1
  obtain ⟨p2, c2, rfl⟩ := ws_len h2
  clear h1 h2
  go_enter Try.func28, Try.ntmps28
  go_wp2_with fail
  have K1 := Lib.hid ((((Bk.new w 3 [.int .i64 what]).alloc (.cells #[.slice p1 a.length c1] 22)).alloc (.cells #[.slice p2 b.length c2] 22)).alloc (.cells #[.slice p1 a.length c1, .slice p2 b.length c2] 22))
  have K2 := Lib.hid (((Bk.new' (w.alloc (.cells #[.int .i64 what] 3)) 22 [.slice p1 a.length c1] (g := w.heap.size + 1) (by simp)).alloc (.cells #[.slice p2 b.length c2] 22)).alloc (.cells #[.slice p1 a.length c1, .slice p2 b.length c2] 22))
  have K3 := Lib.hid ((Bk.new' ((w.alloc (.cells #[.int .i64 what] 3)).alloc (.cells #[.slice p1 a.length c1] 22)) 22 [.slice p2 b.length c2] (g := w.heap.size + 1 + 1) (by simp)).alloc (.cells #[.slice p1 a.length c1, .slice p2 b.length c2] 22))
  have B3 : Below w.heap.size w (((w.alloc (.cells #[.int .i64 what] 3)).alloc (.cells #[.slice p1 a.length c1] 22)).alloc (.cells #[.slice p2 b.length c2] 22)) :=
    (((Below.refl _ w).alloc (Nat.le_refl _) _).alloc (by simp) _).alloc (by simp; omega) _
  have hS := Sets.two 22 (H1.out.below B3) (H2.out.below B3)
  have B4 := Lib.hid (B3.alloc (by simp; omega) (.cells #[.slice p1 a.length c1, .slice p2 b.length c2] 22))
  simp only [World.size_alloc] at hS
  refine (check_any what width _ [a, b] _ hS (by simp; omega) (by simp)).mono ?_
  rintro e w5 ⟨rfl, hB⟩
  have B5 := Lib.hid (B4.out.trans (hB.mono B4.out.size))
  have K1 := Lib.hid (K1.out.below hB)
  have K2 := Lib.hid (K2.out.below hB)
  have K3 := Lib.hid (K3.out.below hB)
  have H1' := Lib.hid (H1.out.below B5.out)
  have H2' := Lib.hid (H2.out.below B5.out)
  clear hS hB B3 B4
  have HCE := Lib.hid (@check_zero what width [a, b])
  have hc1 := K1.out.cell 0
  have hc2 := K2.out.cell 0
  have hc3 := K3.out.cell 0
  by_cases h0 : checkE what width [a, b] = 0
  · have HZ0 := Lib.hid h0
    rw [h0]
    obtain ⟨hL, hv⟩ := HCE.out h0
    have va := value_len (hv a (by simp))
    have vb := value_len (hv b (by simp))
    have HR := Lib.hid (range_both what va vb)
    have la := Lib.hid va
    have lb := Lib.hid vb
    clear HCE hv hL h0 va vb
    go_wp2_with fail
    refine (mkwords_any 106 #[.pointer (some ⟨w.heap.size, 0, none⟩), .pointer (some ⟨w.heap.size + 1, 0, none⟩), .pointer (some ⟨w.heap.size + 1 + 1, 0, none⟩)] (fun i => wordE what (wAt a i) (wAt b i)) what width _ (enters_of Try.func106 (by kernel_rfl) rfl)
      (fun i w1 hi hB => by
        have := la.out
        have := lb.out
        exact join1_any what i _ _ _ _ _ a b w1 ((K1.out.below hB).cell 0) ((K2.out.below hB).cell 0) ((K3.out.below hB).cell 0) (H1'.out.below hB) (H2'.out.below hB) (by omega) (by omega) hn hm)
      (fun i _ => wordE_lt what _ _ (wAt_lt H1'.out.1 i) (wAt_lt H2'.out.1 i))).mono ?_
    rintro e w6 ⟨u, rfl, hW, hB⟩
    rw [HR.out] at hW
    have HW := Lib.hid hW
    have B6 := Lib.hid (B5.out.trans (hB.mono B5.out.size))
    obtain ⟨p3, c3, rfl⟩ := ws_len hW
    clear hW hB
    go_wp2_with fail
    go_ret2
    exact ⟨_, rfl, HW.out, B6.out⟩
  · have HZ0 := Lib.hid h0
    have hb : (checkE what width [a, b] != 0) = true := by simp; omega
    obtain ⟨ce, hce⟩ : ∃ ce, ce = checkE what width [a, b] := ⟨_, rfl⟩
    have HCe := Lib.hid hce
    rw [← hce] at hb ⊢
    clear HCE h0 hce
    go_wp2_with fail
    go_ret2
    exact ⟨.slice none 0 0, by rw [HCe.out]; rfl, ⟨by simp, .inl ⟨rfl, rfl⟩⟩, B5.out⟩

theorem lbelow_val {what width : Int} {a b : List Nat} (va : valueE what width a = true) (vb : valueE what width b = true) (h : ∀ i, i < a.length → wordE what (wAt a i) (wAt b i) = wAt b i) : belowE what a b = true := by
  rw [belowE_iff what (by rw [value_len va, value_len vb])]
  intro i
  by_cases hi : i < a.length
  · exact h i hi
  · have e1 : wAt a i = 0 := by unfold wAt; rw [List.getElem?_eq_none (by omega)]; rfl
    have e2 : wAt b i = 0 := by unfold wAt; rw [List.getElem?_eq_none (by have := value_len va; have := value_len vb; omega)]; rfl
    rw [e1, e2]; exact wordE_zero what
theorem lbelow_not {what width : Int} {a b : List Nat} (va : valueE what width a = true) (vb : valueE what width b = true) (i : Nat) (h : wordE what (wAt a i) (wAt b i) ≠ wAt b i) : belowE what a b = false := by
  rw [Bool.eq_false_iff]
  intro h2
  rw [belowE_iff what (by rw [value_len va, value_len vb])] at h2
  exact h (h2 i)

set_option maxHeartbeats 6400000 in
set_option maxRecDepth 100000 in
theorem lbelow_any (what width : Int) (v1 v2 : Value) (a b : List Nat) (w : World) (h1 : Ws w v1 a) (h2 : Ws w v2 b) (hn : a.length ≤ 100000) (hm : b.length ≤ 100000) :
    Calls Try.prog 33 #[.int .i64 what, .int .i64 width, v1, v2] w fun e w' => e = .returned (.bool (decide (checkE what width [a, b] = 0) && belowE what a b)) ∧ Below w.heap.size w w' := by
  have H1 := Lib.hid h1
  have H2 := Lib.hid h2
  have hS := Sets.two 22 h1 h2
  obtain ⟨p1, c1, rfl, q1⟩ := ws_row h1
  obtain ⟨p2, c2, rfl, q2⟩ := ws_row h2
  have C1 := Lib.hid q1
  have C2 := Lib.hid q2
  have HS := Lib.hid hS
  have B0 := Lib.hid ((Below.refl w.heap.size w).alloc (Nat.le_refl _) (.cells #[.slice p1 a.length c1, .slice p2 b.length c2] 22))
  clear h1 h2 hS q1 q2
  go_enter Try.func33, Try.ntmps33
  go_wp2_with fail
  refine (check_any what width _ [a, b] _ HS.out (by simp; omega) (by simp)).mono ?_
  rintro e w1 ⟨rfl, hB⟩
  have B1 := Lib.hid (B0.out.trans (hB.mono B0.out.size))
  clear hB HS B0
  by_cases h0 : checkE what width [a, b] = 0
  · have HZ0 := Lib.hid h0
    obtain ⟨hL, hv⟩ := check_zero h0
    have va := hv a (by simp)
    have vb := hv b (by simp)
    have hab : a.length = b.length := by rw [value_len va, value_len vb]
    have HT := Lib.hid (fun h => lbelow_val va vb h)
    have HF := Lib.hid (fun i h => lbelow_not va vb i h)
    have HAB := Lib.hid hab
    rw [h0]
    clear hv hL h0 va vb hab
    go_wp2_with fail
    go_loopw [19] (fun i wr => ∃ k : Nat, k ≤ a.length ∧ i = .int .i64 k ∧ Hid (∀ i, i < k → wordE what (wAt a i) (wAt b i) = wAt b i) ∧ Below w.heap.size w wr)
      (fun i _ => a.length - (intOf i).toNat)
    case atStart => exact ⟨0, Nat.zero_le _, rfl, Lib.hid (fun i h => by omega), B1.out⟩
    case round =>
      obtain ⟨k, hk, rfl, HA, hB⟩ := hrel
      have HB := Lib.hid hB
      clear hB
      by_cases hlt : k < a.length
      · obtain ⟨a1, rfl, r1⟩ := C1.out (by omega)
        have hltb : k < b.length := by have := HAB.out; omega
        obtain ⟨a2, rfl, r2⟩ := C2.out (by omega)
        have e1 : wr.cell? (a1.add k) = some (.int .u64 (wAt a k : Nat)) := keepc (r1 k hlt) HB.out
        have e2 : wr.cell? (a2.add k) = some (.int .u64 (wAt b k : Nat)) := keepc (r2 k hltb) HB.out
        have HE := Lib.hid (And.intro e1 e2)
        have hii : (k : Int) < a.length := by omega
        have hij : (k : Int) < b.length := by omega
        have HFk := Lib.hid (HF.out k)
        have HSn := Lib.hid (show wordE what (wAt a k) (wAt b k) = wAt b k → ∀ i, i < k + 1 → wordE what (wAt a i) (wAt b i) = wAt b i from fun e i hi => by
          rcases (show i < k ∨ i = k by omega) with h | rfl
          · exact HA.out i h
          · exact e)
        have hx := wAt_lt H1.out.1 k
        have hy := wAt_lt H2.out.1 k
        clear r1 r2 e1 e2
        generalize wAt a k = x at *
        generalize wAt b k = y at *
        go_upto_if 36 with (fail)
        go_cut [36] from 22 to 36 (fun v wx => v = .bool (((wordE what x y : Nat) : Int) != ((y : Nat) : Int)) ∧ Below w.heap.size w wx)
        case first =>
          go_region_held3 (fun w' => w'.cell? (a1.add k) = some (.int .u64 (x : Nat)) ∧ w'.cell? (a2.add k) = some (.int .u64 (y : Nat)) ∧ Below w.heap.size w w')
            (first
              | exact ⟨HE.out.1, HE.out.2, HB.out.drew⟩
              | (go_split_ands; exact ⟨keepc (by assumption) hB, keepc (by assumption) hB, bel_then (by assumption) hB⟩))
            (first
              | (go_at_call 30; refine (lword_any what x y _ hx hy).mono ?_; rintro e w' ⟨rfl, hB⟩))
          all_goals
            go_split_ands
            go_wp2_with fail
            go_meet
            case rel => exact ⟨rfl, by assumption⟩
        case rest =>
          obtain ⟨rfl, hB2⟩ := hcut
          have HB2 := Lib.hid hB2
          clear hB2
          by_cases hxy : wordE what x y = y
          · have HS2 := Lib.hid (HSn.out hxy)
            have hbb : (((wordE what x y : Nat) : Int) != ((y : Nat) : Int)) = false := by rw [hxy]; simp
            rw [hbb]
            clear hxy hbb
            go_wp2_with fail
            go_roundw
            case rel => exact ⟨k + 1, by omega, by go_num, HS2, HB2.out⟩
            case measure => simp [intOf]; omega
          · have HV := Lib.hid (HFk.out hxy)
            have hbb : (((wordE what x y : Nat) : Int) != ((y : Nat) : Int)) = true := by simp; omega
            rw [hbb]
            clear hxy hbb
            go_wp2_with fail
            go_ret
            exact ⟨ret_bool (by rw [HV.out, Bool.and_false]), HB2.out⟩
      · obtain rfl : k = a.length := by omega
        have HV := Lib.hid (HT.out HA.out)
        go_wp2_with fail
        go_ret
        exact ⟨ret_bool (by rw [HZ0.out, HV.out]; rfl), HB.out⟩
  · have hb : (checkE what width [a, b] != 0) = true := by simp; omega
    have HZ0 := Lib.hid h0
    obtain ⟨ce, hce⟩ : ∃ ce, ce = checkE what width [a, b] := ⟨_, rfl⟩
    rw [← hce] at hb ⊢
    clear h0 hce
    go_wp2_with fail
    go_ret
    exact ⟨ret_bool (by rw [decide_eq_false HZ0.out]; rfl), B1.out⟩

end Go.Proofs.Yteheckcflnogbaa

/-
  lattice.Rank; soughref12.Full, Bottom, Top, Value: contracts.
-/
namespace Go.Proofs.Yteheckcflnogbaa
open Go.RowKit

/-- The ranks of the first k words. -/
def crK (a : List Nat) (k : Nat) : Nat := ((List.range k).map fun i => crankN (wAt a i)).sum
theorem crK_succ (a : List Nat) (k : Nat) : crK a (k + 1) = crK a k + crankN (wAt a k) := by
  unfold crK; rw [List.range_succ, List.map_append, List.sum_append]; simp
theorem crK_all (a : List Nat) : crK a a.length = (a.map crankN).sum := (sum_at crankN a).symm
theorem crankN_le (z : Nat) : crankN z ≤ 2 := by have := crank_bd (z : Int); unfold crankN; omega
theorem crankN_int (z : Nat) : crank (z : Int) = (crankN z : Int) := by have := crank_bd (z : Int); unfold crankN; omega
theorem crK_le (a : List Nat) (k : Nat) : crK a k ≤ 2 * k := by
  induction k with
  | zero => exact Nat.le_refl _
  | succ k ih => rw [crK_succ]; have := crankN_le (wAt a k); omega

/-- What Rank tells. -/
def rankR (what width : Int) (a : List Nat) : Int := if checkE what width [a] = 0 then rankE what width a else 0
set_option maxHeartbeats 6400000 in
set_option maxRecDepth 100000 in
theorem lrank_any (what width : Int) (v : Value) (a : List Nat) (w : World) (h1 : Ws w v a) (hn : a.length ≤ 100000) :
    Calls Try.prog 29 #[.int .i64 what, .int .i64 width, v] w fun e w' =>
      e = .returned (.tuple #[.int .i64 (rankR what width a), .int .i64 (checkE what width [a])]) ∧ Below w.heap.size w w' := by
  have H1 := Lib.hid h1
  have hS := Sets.one 22 h1
  obtain ⟨p1, c1, rfl, q1⟩ := ws_row h1
  have C1 := Lib.hid q1
  have HS := Lib.hid hS
  have B0 := Lib.hid ((Below.refl w.heap.size w).alloc (Nat.le_refl _) (.cells #[.slice p1 a.length c1] 22))
  clear h1 hS q1
  go_enter Try.func29, Try.ntmps29
  go_wp2_with fail
  refine (check_any what width _ [a] _ HS.out (by simp; omega) (by simp)).mono ?_
  rintro e w1 ⟨rfl, hB⟩
  have B1 := Lib.hid (B0.out.trans (hB.mono B0.out.size))
  clear hB HS B0
  obtain ⟨ce, hce⟩ : ∃ ce, ce = checkE what width [a] := ⟨_, rfl⟩
  have HCe := Lib.hid hce
  rw [← hce]
  by_cases h0 : ce = 0
  · have HZ0 := Lib.hid (show checkE what width [a] = 0 by rw [← hce]; exact h0)
    obtain ⟨hL, hv⟩ := check_zero HZ0.out
    have HR := Lib.hid (show ∀ r, rankE what width a = r → Ending.returned (.tuple #[.int .i64 (rankR what width a), .int .i64 (checkE what width [a])]) = .returned (.tuple #[.int .i64 r, .int .i64 0]) from fun r h => by
      unfold rankR; rw [HZ0.out, if_pos rfl, h])
    have hwd : 0 ≤ width ∧ width ≤ 1024 := by simp only [isL, decide_eq_true_eq] at hL; omega
    have hk := isL_what hL
    have H1w := Lib.hid (H1.out.below B1.out)
    have hle := lenE_le a
    subst h0
    clear hce hL hv
    go_wp2_with fail
    refine (len_any _ _ _ H1w.out (by omega)).mono ?_
    rintro e w2 ⟨rfl, hww⟩
    subst w2
    obtain ⟨nl, hnl⟩ : ∃ n, n = lenE a := ⟨_, rfl⟩
    have HN := Lib.hid hnl
    rw [← hnl] at hle ⊢
    clear hnl
    rcases hk with rfl | rfl | rfl
    · go_wp2_with fail
      go_ret2
      exact ⟨(HR.out _ (by rw [HN.out]; rfl)).symm, B1.out⟩
    · go_wp2_with fail
      go_ret2
      exact ⟨(HR.out _ (by rw [HN.out]; rfl)).symm, B1.out⟩
    · go_wp2_with fail
      go_loopw [9, 32] (fun n i wr => ∃ k : Nat, k ≤ a.length ∧ i = .int .i64 k ∧ n = .int .i64 (crK a k : Nat) ∧ Below w.heap.size w wr)
        (fun _ i _ => a.length - (intOf i).toNat)
      case atStart => exact ⟨0, Nat.zero_le _, rfl, rfl, B1.out⟩
      case round =>
        obtain ⟨k, hk, rfl, rfl, hB⟩ := hrel
        have HB := Lib.hid hB
        clear hB
        by_cases hlt : k < a.length
        · obtain ⟨ad, rfl, q⟩ := C1.out (by omega)
          have hck := keepc (q k hlt) HB.out
          rw [show a[k]?.getD 0 = wAt a k from rfl] at hck
          have HS := Lib.hid (crK_succ a k)
          have hkl := crK_le a k
          have hz := wAt_lt H1.out.1 k
          have HCI := Lib.hid (crankN_int (wAt a k))
          have hc2 := crankN_le (wAt a k)
          have HRk := Lib.hid (show ((crK a k : Nat) : Int) + (crankN (wAt a k) : Nat) = ((crK a (k + 1) : Nat) : Int) by rw [HS.out]; omega)
          clear q
          obtain ⟨nx, hnx⟩ : ∃ n, n = crK a (k + 1) := ⟨_, rfl⟩
          have HNX := Lib.hid hnx
          rw [← hnx] at HRk
          clear hnx HS
          generalize crankN (wAt a k) = cr at *
          generalize wAt a k = z at *
          generalize crK a k = s at *
          go_wp2_with fail
          refine (rank_any z _ (by omega)).mono ?_
          rintro e w2 ⟨rfl, hB2⟩
          have HB2 := Lib.hid (HB.out.trans (hB2.mono HB.out.size))
          clear hB2
          rw [HCI.out]
          go_wp2_with fail
          go_roundw
          case rel => exact ⟨k + 1, by omega, by go_num, by rw [← HNX.out, ← HRk.out], HB2.out⟩
          case measure => simp [intOf]; omega
        · obtain rfl : k = a.length := by omega
          have HF := Lib.hid (show rankE 3 width a = (crK a a.length : Nat) by unfold rankE; rw [if_pos rfl, crK_all])
          go_wp2_with fail
          go_ret2
          exact ⟨(HR.out _ HF.out).symm, HB.out⟩
  · have hb : (ce != 0) = true := by simp; omega
    have HR := Lib.hid (show Ending.returned (.tuple #[.int .i64 (rankR what width a), .int .i64 (checkE what width [a])]) = .returned (.tuple #[.int .i64 0, .int .i64 ce]) by
      unfold rankR; rw [← hce, if_neg h0])
    clear h0 hce
    go_wp2_with fail
    go_ret2
    exact ⟨HR.out.symm, B1.out⟩

/-! ### The document's -/
theorem ofK_bit (width : Int) (l : List Int) (k : Nat) (hk : k ≤ l.length) : ∀ i j, i < sizeE width → j < 64 → (wAt (ofK width l k) i).testBit j = decide (((64 * i + j : Nat) : Int) ∈ l.take k ∧ ((64 * i + j : Nat) : Int) < near width) := by
  have hs := sizeE_int width
  induction k with
  | zero =>
    intro i j hi hj
    have : wAt (ofK width l 0) i = 0 := by
      show wAt (List.replicate (sizeE width) 0) i = 0
      rw [wAt_rep, ite_self]
    rw [this]
    simp
  | succ k ih =>
    intro i j hi hj
    have h := ih (by omega) i j hi hj
    rw [ofK_succ width l k (by omega), List.take_add_one, List.getElem?_eq_getElem (by omega : k < l.length)]
    generalize l[k] = n
    rw [show (some n).getD 0 = n from rfl]
    unfold ofStep
    by_cases hn : 0 ≤ n ∧ n < near width
    · rw [if_pos hn, withE_at _ _ _ (by rw [ofK_len]; omega)]
      by_cases hq : ((64 * i + j : Nat) : Int) = n
      · have h1 : i = n.toNat / 64 := by omega
        rw [if_pos h1, Nat.testBit_or, show n.toNat % 64 = j by omega, Nat.testBit_two_pow_self, Bool.or_true]
        symm
        rw [decide_eq_true_eq]
        exact ⟨by simp [hq], by omega⟩
      · have e : (decide (((64 * i + j : Nat) : Int) ∈ l.take k ++ (some n).toList ∧ ((64 * i + j : Nat) : Int) < near width)) = decide (((64 * i + j : Nat) : Int) ∈ l.take k ∧ ((64 * i + j : Nat) : Int) < near width) := by
          rw [decide_eq_decide]
          simp only [Option.toList_some, List.mem_append, List.mem_singleton, hq, or_false]
        rw [e]
        split
        · rw [Nat.testBit_or, h, Nat.testBit_two_pow_of_ne (by omega), Bool.or_false]
        · exact h
    · rw [if_neg hn, h, decide_eq_decide]
      simp only [Option.toList_some, List.mem_append, List.mem_singleton]
      constructor
      · exact fun h => ⟨.inl h.1, h.2⟩
      · rintro ⟨h1 | h1, h2⟩
        · exact ⟨h1, h2⟩
        · exact absurd ⟨by omega, by omega⟩ hn
theorem of_range (width : Int) : ofE width ((List.range width.toNat).map Int.ofNat) = fullE width := by
  have e : ofE width ((List.range width.toNat).map Int.ofNat) = ofK width ((List.range width.toNat).map Int.ofNat) ((List.range width.toNat).map Int.ofNat).length := by unfold ofK ofE; rw [List.take_length]
  rw [e]
  refine ext_words (by rw [ofK_len, fullE_len]) (ofK_lt _ _ _) (fullE_lt _) fun i hi j hj => ?_
  rw [ofK_len] at hi
  rw [ofK_bit width _ _ (Nat.le_refl _) i j hi hj, fullE_bit width i j hi hj, decide_eq_decide, List.take_length]
  have hn := near_bd width
  constructor
  · exact fun h => h.2
  · intro h
    refine ⟨List.mem_map.2 ⟨64 * i + j, List.mem_range.2 ?_, rfl⟩, h⟩
    unfold near at h
    omega

set_option maxHeartbeats 3200000 in
set_option maxRecDepth 100000 in
theorem rlfull_any (width : Int) (w : World) (h0 : 0 ≤ width ∧ width ≤ 1024) :
    Calls Try.prog 98 #[.int .i64 width] w fun e w' => ∃ v, e = .returned v ∧ Ws w' v (fullE width) ∧ Below w.heap.size w w' := by
  obtain ⟨i0, hi, hz0, hz1, hz2⟩ := info_parts int_info
  obtain ⟨n, rfl⟩ : ∃ n : Nat, width = n := ⟨width.toNat, by omega⟩
  have hn : n ≤ 1024 := by omega
  go_enter Try.func98, Try.ntmps98
  go_wp2_with fail
  go_loopw [3, 4] (fun l i wr => ∃ k : Nat, k ≤ n ∧ i = .int .i64 k ∧ wr.ownsRow w.heap.size 3 1 l k (natVs (List.range k)) ∧ Below w.heap.size w wr)
    (fun _ i _ => n - (intOf i).toNat)
  case atStart => exact ⟨0, Nat.zero_le _, rfl, World.ownsRow_nil _ _ _ _, Below.refl _ _⟩
  case round =>
    obtain ⟨k, hk, rfl, hl, hB⟩ := hrel
    have HL := Lib.hid hl
    have HB := Lib.hid hB
    clear hl hB
    by_cases hlt : k < n
    · go_wp2_with (at_builtin; refine wpList_append_own _ rfl _ _ 46 rfl w.heap.size 3 i0 (.int .i64 0) 1 8 Try.underlying46 hi hz0 hz1 hz2 rfl (by decide) _ _ _ rfl (HL.out.alloc _) ⟨wr.heap.size, 0, none⟩ 1 1 [.int .i64 k] rfl rfl ?c1 ?c2 ?c3 ?c4 ?c5 ?_)
      case c1 => exact cell_one_new _ _ _
      case c2 => simp [Value.oneCell']
      case c3 => unfold maxLen; omega
      case c4 => omega
      case c5 => have := HB.out.size; simp; omega
      intro v' w3 hown' hgrow _
      have HL' := Lib.hid (show w3.ownsRow w.heap.size 3 1 v' (k + 1) (natVs (List.range (k + 1))) by rw [List.range_succ, natVs_snoc]; exact hown')
      have HB' := Lib.hid ((HB.out.alloc (by have := HB.out.size; omega) _).grown hgrow (by have := HB.out.size; simp; omega) (fun k hk => (HL.out.lt k hk).1))
      clear hown' hgrow
      go_wp2_with fail
      go_roundw
      case rel => exact ⟨k + 1, by omega, by go_num, HL'.out, HB'.out⟩
      case measure => simp [intOf]; omega
    · obtain rfl : k = n := by omega
      have HI := Lib.hid (show IntsAt wr _ ((List.range k).map Int.ofNat) from .of_owns (by have h7 := HL.out; rw [natVs_ints] at h7; exact h7))
      have HF := Lib.hid (show ofE (k : Nat) ((List.range k).map Int.ofNat) = fullE (k : Nat) from of_range (k : Nat))
      go_wp2_with fail
      refine (rsetof_any _ _ _ _ HI.out (by simp; omega)).mono ?_
      rintro e w4 ⟨u, rfl, hW, hB⟩
      rw [HF.out] at hW
      have HW := Lib.hid hW
      have HB4 := Lib.hid (HB.out.trans (hB.mono HB.out.size))
      obtain ⟨p3, c3, rfl⟩ := ws_len hW
      clear hW hB
      go_wp2_with fail
      go_ret
      exact ⟨_, rfl, HW.out, HB4.out⟩

end Go.Proofs.Yteheckcflnogbaa

/-
  soughref12.Bottom, Top, Value, Join, Below, Rank: contracts.
-/
namespace Go.Proofs.Yteheckcflnogbaa
open Go.RowKit

theorem isL_width {what width : Int} (h : isL what width = true) : 0 ≤ width ∧ width ≤ 1024 := by
  simp only [isL, decide_eq_true_eq] at h; omega

set_option maxHeartbeats 3200000 in
set_option maxRecDepth 100000 in
theorem rbottom_any (what width : Int) (w : World) :
    Calls Try.prog 21 #[.int .i64 what, .int .i64 width] w fun e w' => ∃ v, e = .returned v ∧ Ws w' v (bottomE what width) ∧ Below w.heap.size w w' := by
  have hn := wordsN_le what width
  have hmk := make_u64 (wordsN what width) (wordsN what width) rfl (by omega)
  have rest : ∀ h : bottomE what width = List.replicate (wordsN what width) 0, Ws (w.alloc (.cells (Array.replicate (wordsN what width) (Value.int .u64 0)) 29)) (.slice (some ⟨w.heap.size, 0, none⟩) (wordsN what width) (wordsN what width)) (bottomE what width) := fun h => by
    rw [h]; exact (zeros_bk' w _).ws List.length_replicate (zeros_lt _)
  have HR := Lib.hid rest
  have HB0 := Lib.hid ((Below.refl w.heap.size w).alloc (Nat.le_refl _) (.cells (Array.replicate (wordsN what width) (Value.int .u64 0)) 29))
  clear rest
  go_enter Try.func21, Try.ntmps21
  go_wp2_with fail
  refine (rlis_any _ _ _).mono ?_
  rintro e w1 ⟨rfl, hww⟩
  subst w1
  cases hL : isL what width with
  | false =>
    have H := Lib.hid (show bottomE what width = List.replicate (wordsN what width) 0 by unfold bottomE; rw [hL, if_neg (by simp)])
    clear hL
    go_wp2_with fail
    refine (rlwords_any _ _ _).mono ?_
    rintro e w1 ⟨rfl, hww⟩
    subst w1
    go_wp2_with fail
    go_ret
    exact ⟨_, rfl, HR.out H.out, HB0.out⟩
  | true =>
    by_cases h2 : what = 2
    · subst h2
      have H := Lib.hid (show bottomE 2 width = fullE width by unfold bottomE; rw [if_pos ⟨rfl, hL⟩])
      have hwd := isL_width hL
      clear hL
      go_wp2_with fail
      refine (rlfull_any _ _ hwd).mono ?_
      rintro e w3 ⟨u, rfl, hW, hB⟩
      have HW := Lib.hid hW
      have HB := Lib.hid hB
      obtain ⟨p3, c3, rfl⟩ := ws_len hW
      clear hW hB
      go_wp2_with fail
      go_ret
      exact ⟨_, rfl, by rw [H.out]; exact HW.out, HB.out⟩
    · have H := Lib.hid (show bottomE what width = List.replicate (wordsN what width) 0 by unfold bottomE; rw [if_neg (by omega)])
      have e2 : (what == 2) = false := by simpa using h2
      clear hL h2
      go_wp2_with fail
      refine (rlwords_any _ _ _).mono ?_
      rintro e w1 ⟨rfl, hww⟩
      subst w1
      go_wp2_with fail
      go_ret
      exact ⟨_, rfl, HR.out H.out, HB0.out⟩

/-- What the document's Top has written when k places are over. -/
def tpK (what : Int) (n k : Nat) : List Nat := madeK (fun _ => if what = 3 then 1 else 0) n k
theorem tpK_same {what : Int} (h : what ≠ 3) (n k : Nat) : tpK what n k = List.replicate n 0 := by
  unfold tpK madeK
  rw [if_neg h]
  refine List.ext_getElem (by simp) fun i h1 h2 => by simp

set_option maxHeartbeats 6400000 in
set_option maxRecDepth 100000 in
theorem rtop_any (what width : Int) (w : World) :
    Calls Try.prog 23 #[.int .i64 what, .int .i64 width] w fun e w' => ∃ v, e = .returned v ∧ Ws w' v (topE what width) ∧ Below w.heap.size w w' := by
  have hn := wordsN_le what width
  have hmk := make_u64 (wordsN what width) (wordsN what width) rfl (by omega)
  have hcase : (what = 1 ∧ isL what width = true) ∨ (topE what width = tpK what (wordsN what width) (wordsN what width) ∧ ((isL what width = true ∧ what ≠ 1) ∨ isL what width = false)) := by
    by_cases h : what = 1 ∧ isL what width = true
    · exact .inl h
    · refine .inr ⟨?_, ?_⟩
      · unfold topE tpK
        rw [if_neg h, madeK_all]
        refine List.ext_getElem (by simp) fun i h1 h2 => by simp
      · cases hL : isL what width with
        | false => exact .inr rfl
        | true => exact .inl ⟨rfl, fun e => h ⟨e, hL⟩⟩
  go_enter Try.func23, Try.ntmps23
  go_wp2_with fail
  refine (rlis_any _ _ _).mono ?_
  rintro e w1 ⟨rfl, hww⟩
  subst w1
  rcases hcase with ⟨rfl, hL⟩ | ⟨hT, hq⟩
  · have H := Lib.hid (show topE 1 width = fullE width by unfold topE; rw [if_pos ⟨rfl, hL⟩])
    have hwd := isL_width hL
    rw [hL]
    clear hL hmk
    go_wp2_with fail
    refine (rlfull_any _ _ hwd).mono ?_
    rintro e w3 ⟨u, rfl, hW, hB⟩
    have HW := Lib.hid hW
    have HB := Lib.hid hB
    obtain ⟨p3, c3, rfl⟩ := ws_len hW
    clear hW hB
    go_wp2_with fail
    go_ret
    exact ⟨_, rfl, by rw [H.out]; exact HW.out, HB.out⟩
  · have HT := Lib.hid hT
    clear hT
    have hgate : isL what width = false ∨ (isL what width = true ∧ (what == 1) = false) := by
      rcases hq with ⟨h1, h2⟩ | h
      · exact .inr ⟨h1, by simpa using h2⟩
      · exact .inl h
    clear hq
    obtain ⟨n, hne⟩ : ∃ n, n = wordsN what width := ⟨_, rfl⟩
    have HNE := Lib.hid hne
    obtain ⟨bl, hbl⟩ : ∃ b, b = isL what width := ⟨_, rfl⟩
    rw [← hbl] at hgate ⊢
    rw [← hne] at hn HT hmk
    clear hne hbl
    have H0 := Lib.hid (show (bl = false ∨ (bl = true ∧ (what == 1) = false)) from hgate)
    have HW1 : ∀ w0, Calls Try.prog 18 #[.int .i64 what, .int .i64 width] w0 fun e w' => e = .returned (.int .i64 (n : Nat)) ∧ w' = w0 := fun w0 => by rw [HNE.out]; exact rlwords_any what width w0
    rcases hgate with rfl | ⟨rfl, hne1⟩
    all_goals
      go_wp2_with fail
      refine (HW1 _).mono ?_
      rintro e w1 ⟨rfl, hww⟩
      subst w1
      go_wp2_with fail
      clear hmk HW1
      go_loopw [22] (fun i wr => ∃ k : Nat, k ≤ n ∧ i = .int .i64 k ∧ Bk wr w.heap.size 29 (u64s (tpK what n k)) ∧ Below w.heap.size w wr)
        (fun i _ => n - (intOf i).toNat)
      case atStart => exact ⟨0, Nat.zero_le _, rfl, by unfold tpK; rw [madeK_zero]; first | exact zeros_bk' _ _ | exact zeros_bk _ _, (Below.refl _ _).alloc (Nat.le_refl _) _⟩
      case round =>
        obtain ⟨k, hk, rfl, hbk, hB⟩ := hrel
        have HK := Lib.hid hbk
        have HB := Lib.hid hB
        clear hbk hB
        by_cases hlt : k < n
        · by_cases h3 : what = 3
          · subst h3
            have hcell : wr.cell? ⟨w.heap.size, k, none⟩ = some (.int .u64 (wAt (tpK 3 n k) k : Nat)) := by
              rw [HK.out.cell, u64s_at _ _ (by unfold tpK; rw [madeK_len]; exact hlt)]
            have hfree := HK.out.free k
            have HBk := Lib.hid (HK.out.set k (.int .u64 ((1 : Nat) : Int)))
            rw [← u64s_set, show (tpK 3 n k).set k 1 = tpK 3 n (k + 1) from madeK_step _ n k] at HBk
            generalize wAt (tpK 3 n k) k = z at *
            go_wp2_with fail
            go_roundw
            case rel => exact ⟨k + 1, by omega, by go_num, HBk.out, HB.out.setCell (p := ⟨w.heap.size, k, none⟩) (Nat.le_refl _) _⟩
            case measure => simp [intOf]; omega
          · have e3 : (what == 3) = false := by simpa using h3
            have HK2 := HK
            rw [tpK_same h3, ← tpK_same h3 n (k + 1)] at HK2
            clear h3
            go_wp2_with fail
            go_roundw
            case rel => exact ⟨k + 1, by omega, by go_num, HK2.out, HB.out⟩
            case measure => simp [intOf]; omega
        · obtain rfl : k = n := by omega
          go_wp2_with fail
          go_ret
          refine ⟨_, rfl, ?_, HB.out⟩
          rw [HT.out]
          exact HK.out.ws (by unfold tpK; rw [madeK_len]) (by unfold tpK; rw [madeK_all]; exact made_lt fun i _ => by split <;> decide)

set_option maxHeartbeats 3200000 in
set_option maxRecDepth 100000 in
theorem rval_any (what width : Int) (v : Value) (a : List Nat) (w : World) (hw : Ws w v a) (hx : a.length ≤ 100000) :
    Calls Try.prog 25 #[.int .i64 what, .int .i64 width, v] w fun e w' => e = .returned (.bool (valueE what width a)) ∧ Below w.heap.size w w' := by
  have hn := wordsN_le what width
  have HZ := Lib.hid hw.1
  have HW := Lib.hid hw
  obtain ⟨p, c, rfl, hc⟩ := ws_row hw
  have HC := Lib.hid hc
  have B0 := Lib.hid (Below.refl w.heap.size w)
  clear hw hc
  go_enter Try.func25, Try.ntmps25
  go_wp2_with fail
  refine (rlis_any _ _ _).mono ?_
  rintro e w1 ⟨rfl, hww⟩
  subst w1
  cases hL : isL what width with
  | false =>
    have H := Lib.hid (show valueE what width a = false by unfold valueE; rw [hL]; rfl)
    clear hL
    go_wp2_with fail
    go_ret
    exact ⟨ret_bool H.out.symm, B0.out⟩
  | true =>
    have HL := Lib.hid hL
    clear hL
    go_wp2_with fail
    refine (rlwords_any _ _ _).mono ?_
    rintro e w1 ⟨rfl, hww⟩
    subst w1
    by_cases hl : a.length = wordsN what width
    · have hb : ((a.length : Int) != ((wordsN what width : Nat) : Int)) = false := by simp; omega
      have Hl := Lib.hid hl
      clear hl
      by_cases h3 : what = 3
      · subst h3
        have H1 := Lib.hid (show (∀ i, i < a.length → souN (wAt a i) = true) → valueE 3 width a = true from fun h => by
          unfold valueE; rw [HL.out, decide_eq_true Hl.out, if_pos rfl, all_at h]; rfl)
        have H0 := Lib.hid (show ∀ i, i < a.length → souN (wAt a i) = false → valueE 3 width a = false from fun i hi h => by
          unfold valueE; rw [if_pos rfl, all_not hi h]; simp)
        go_wp2_with fail
        go_loopw [28] (fun i wr => ∃ k : Nat, k ≤ a.length ∧ i = .int .i64 k ∧ Hid (∀ i, i < k → souN (wAt a i) = true) ∧ Below w.heap.size w wr)
          (fun i _ => a.length - (intOf i).toNat)
        case atStart => exact ⟨0, Nat.zero_le _, rfl, Lib.hid (fun i h => by omega), B0.out⟩
        case round =>
          obtain ⟨k, hk, rfl, HA, hB⟩ := hrel
          have HB := Lib.hid hB
          clear hB
          by_cases hlt : k < a.length
          · obtain ⟨ad, rfl, q⟩ := HC.out (by omega)
            have hck := keepc (q k hlt) HB.out
            rw [show a[k]?.getD 0 = wAt a k from rfl] at hck
            have H0k := Lib.hid (H0.out k hlt)
            have HS := Lib.hid (show souN (wAt a k) = true → ∀ i, i < k + 1 → souN (wAt a i) = true from fun e i hi => by
              rcases (show i < k ∨ i = k by omega) with h | rfl
              · exact HA.out i h
              · exact e)
            have hz := wAt_lt HZ.out k
            clear q
            generalize wAt a k = z at *
            go_wp2_with fail
            refine (norm_any z _ (by omega)).mono ?_
            rintro e w2 ⟨rfl, hB2⟩
            have HB2 := Lib.hid (HB.out.trans (hB2.mono HB.out.size))
            clear hB2
            by_cases hs : sou (z : Int) = (z : Int)
            · have HS2 := Lib.hid (HS.out (by unfold souN; rw [beq_iff_eq]; exact hs))
              have hbb : (sou (z : Int) != (z : Int)) = false := by rw [hs]; simp
              clear hs
              generalize sou (z : Int) = sz at *
              go_wp2_with fail
              go_roundw
              case rel => exact ⟨k + 1, by omega, by go_num, HS2, HB2.out⟩
              case measure => simp [intOf]; omega
            · have HV := Lib.hid (H0k.out (by unfold souN; rw [beq_eq_false_iff_ne]; exact hs))
              have hbb : (sou (z : Int) != (z : Int)) = true := by simpa using hs
              clear hs
              generalize sou (z : Int) = sz at *
              go_wp2_with fail
              go_ret
              exact ⟨ret_bool HV.out.symm, HB2.out⟩
          · obtain rfl : k = a.length := by omega
            have HV := Lib.hid (H1.out HA.out)
            go_wp2_with fail
            go_ret
            exact ⟨ret_bool HV.out.symm, HB.out⟩
      · have hne : (what != 3) = true := by simp; omega
        have HV := Lib.hid (show valueE what width a = fitsE a width by
          unfold valueE; rw [HL.out, decide_eq_true Hl.out, if_neg h3]; rfl)
        have hl16 : a.length ≤ 1000 := by
          have h1 := Hl.out
          have h2 : wordsN what width = sizeE width := by unfold wordsN; rw [if_pos HL.out, if_neg h3]
          have := sizeE_le width
          omega
        clear h3
        go_wp2_with fail
        refine (rfits_any _ _ _ _ HW.out hl16).mono ?_
        rintro e w2 ⟨rfl, hB2⟩
        have HB2 := Lib.hid hB2
        clear hB2
        rw [← HV.out]
        go_wp2_with fail
        go_ret
        exact ⟨rfl, HB2.out⟩
    · have hb : ((a.length : Int) != ((wordsN what width : Nat) : Int)) = true := by simp; omega
      have HV := Lib.hid (show valueE what width a = false by unfold valueE; rw [decide_eq_false hl]; simp)
      clear hl
      go_wp2_with fail
      go_ret
      exact ⟨ret_bool HV.out.symm, B0.out⟩

end Go.Proofs.Yteheckcflnogbaa

/-
  soughref12.Join, Below, Rank: contracts.
-/
namespace Go.Proofs.Yteheckcflnogbaa
open Go.RowKit

/-- The first k words put together. -/
def jK (what : Int) (a b : List Nat) (k : Nat) : List Nat := (List.range k).map fun i => wordE what (wAt a i) (wAt b i)
theorem jK_succ (what : Int) (a b : List Nat) (k : Nat) : jK what a b (k + 1) = jK what a b k ++ [wordE what (wAt a k) (wAt b k)] := by
  unfold jK; rw [List.range_succ, List.map_append]; rfl
theorem u64s_snoc (l : List Nat) (z : Nat) : u64s (l ++ [z]) = u64s l ++ [.int .u64 (z : Nat)] := by simp [u64s]
theorem Ws.of_owns {w : World} {base : Nat} {v : Value} {n : Nat} {a : List Nat} (h : w.ownsRow base 29 1 v n (u64s a)) (hz : ∀ z ∈ a, z < 18446744073709551616) : Ws w v a := by
  obtain ⟨hl, ⟨rfl, h0⟩ | ⟨g, cap, cur, rfl, hg, hb, hnc, hmx, hsz, hct⟩⟩ := h
  · have : a = [] := List.eq_nil_of_length_eq_zero (by simp [u64s] at hl; omega)
    subst this
    exact ⟨by simp, .inl ⟨rfl, rfl⟩⟩
  · have e : a.length = n := by simpa [u64s] using hl
    exact Ws.of_bk (show Bk w g 29 cur.toList from hb) e (by simpa using hct) hz
theorem join_words (what : Int) {a b : List Nat} (h : a.length = b.length) : jK what a b a.length = joinE what a b := by
  unfold jK joinE bothE
  rw [show max a.length b.length = a.length by omega]

set_option maxHeartbeats 6400000 in
set_option maxRecDepth 100000 in
theorem rljoin_any (what : Int) (v1 v2 : Value) (a b : List Nat) (w : World) (h1 : Ws w v1 a) (h2 : Ws w v2 b) (hn : a.length ≤ 100000) (hab : a.length = b.length) :
    Calls Try.prog 35 #[.int .i64 what, v1, v2] w fun e w' => ∃ u, e = .returned u ∧ Ws w' u (joinE what a b) ∧ Below w.heap.size w w' := by
  obtain ⟨i0, hi, hz0, hz1, hz2⟩ := info_parts u64_info
  have H1 := Lib.hid h1
  have H2 := Lib.hid h2
  have HAB := Lib.hid hab
  obtain ⟨p1, c1, rfl, q1⟩ := ws_row h1
  obtain ⟨p2, c2, rfl, q2⟩ := ws_row h2
  have C1 := Lib.hid q1
  have C2 := Lib.hid q2
  have hm : b.length ≤ 100000 := by omega
  clear h1 h2 q1 q2 hab
  go_enter Try.func35, Try.ntmps35
  go_wp2_with fail
  go_loopw [7, 11] (fun o i wr => ∃ k : Nat, k ≤ a.length ∧ i = .int .i64 k ∧ wr.ownsRow w.heap.size 29 1 o k (u64s (jK what a b k)) ∧ Below w.heap.size w wr)
    (fun _ i _ => a.length - (intOf i).toNat)
  case atStart => exact ⟨0, Nat.zero_le _, rfl, World.ownsRow_nil _ _ _ _, Below.refl _ _⟩
  case round =>
    obtain ⟨k, hk, rfl, hl, hB⟩ := hrel
    have HO := Lib.hid hl
    have HB := Lib.hid hB
    clear hl hB
    by_cases hlt : k < a.length
    · obtain ⟨a1, rfl, r1⟩ := C1.out (by omega)
      have hltb : k < b.length := by have := HAB.out; omega
      obtain ⟨a2, rfl, r2⟩ := C2.out (by omega)
      have e1 : wr.cell? (a1.add k) = some (.int .u64 (wAt a k : Nat)) := keepc (r1 k hlt) HB.out
      have e2 : wr.cell? (a2.add k) = some (.int .u64 (wAt b k : Nat)) := keepc (r2 k hltb) HB.out
      have hii : (k : Int) < a.length := by omega
      have hij : (k : Int) < b.length := by omega
      have HE := Lib.hid (jK_succ what a b k)
      have hx := wAt_lt H1.out.1 k
      have hy := wAt_lt H2.out.1 k
      clear r1 r2
      generalize wAt a k = x at *
      generalize wAt b k = y at *
      have HBn := Lib.hid ((Below.refl wr.heap.size wr).drew)
      go_wp2_with fail
      go_region_law (first
        | (refine step_append_lies _ (by rfl) _ _ _ (by rfl) w.heap.size 29 i0 (.int .u64 0) 1 8 Try.underlying22 hi hz0 hz1 hz2 rfl (by decide) _ k _ (by rfl) (HO6.out.alloc _) ⟨w6.heap.size, 0, none⟩ 1 1 [.int .u64 (wordE what x y : Nat)] (by rfl) (by rfl) (cell_one_new _ _ _) (by simp [Value.oneCell']) (by decide) (by unfold maxLen; omega) (by omega) HS6.out (w6.heap.size + 1) (by simp) ?_; intro g8 cap8 w8 hown8 hgrow8 hat8 hlt8)
        | (go_simp; go_at_call 31; refine (rlword_any what x y _ hx hy).mono ?_; rintro e w6 ⟨rfl, hB6⟩; have HB6 := Lib.hid (bel_then HBn.out hB6); have HO6 := Lib.hid (own_below HO.out HB6.out); have HS6 := Lib.hid (show w.heap.size ≤ (w6.alloc (.cells #[.int .u64 (wordE what x y : Nat)] 29)).heap.size by have h1 := HB.out.size; have h2 := HB6.out.size; simp; omega); clear hB6; go_wp2_with fail))
      all_goals
        have hsz := HB.out.size
        have hsz6 := HB6.out.size
        have HO8 := Lib.hid (show w8.ownsRow w.heap.size 29 1 (.slice (some ⟨g8, 0, none⟩) (k + 1) cap8) (k + 1) (u64s (jK what a b (k + 1))) by rw [HE.out, u64s_snoc]; exact hown8)
        have HB8 := Lib.hid (((HB.out.trans (HB6.out.mono hsz)).alloc (by omega) _).grown hgrow8 (by simp; omega) (fun k hk => (HO.out.lt k hk).1))
        clear hown8 hgrow8 hat8 hlt8
        go_wp2_with fail
        go_roundw
        case rel => exact ⟨k + 1, by omega, by go_num, HO8.out, HB8.out⟩
        case measure => simp [intOf]; omega
    · obtain rfl : k = a.length := by omega
      have HJ := Lib.hid (join_words what HAB.out)
      go_wp2_with fail
      go_ret
      refine ⟨_, rfl, ?_, HB.out⟩
      have h7 := HO.out
      rw [HJ.out] at h7
      exact Ws.of_owns h7 (join_lt H1.out.1 H2.out.1)

set_option maxHeartbeats 3200000 in
set_option maxRecDepth 100000 in
theorem rlbelow_any (what : Int) (v1 v2 : Value) (a b : List Nat) (w : World) (h1 : Ws w v1 a) (h2 : Ws w v2 b) (hn : a.length ≤ 100000) (hab : a.length = b.length) :
    Calls Try.prog 36 #[.int .i64 what, v1, v2] w fun e w' => e = .returned (.bool (belowE what a b)) ∧ Below w.heap.size w w' := by
  have H1 := Lib.hid h1
  have H2 := Lib.hid h2
  obtain ⟨p1, c1, rfl⟩ := ws_len h1
  obtain ⟨p2, c2, rfl⟩ := ws_len h2
  have hb : ((a.length : Int) == (b.length : Int)) = true := by simp; omega
  have HAB := Lib.hid hab
  have hjl := joinE_len what hab
  clear h1 h2 hab
  go_enter Try.func36, Try.ntmps36
  go_wp2_with fail
  refine (rljoin_any what _ _ a b _ H1.out H2.out hn HAB.out).mono ?_
  rintro e w1 ⟨u, rfl, hW, hB⟩
  have HW := Lib.hid hW
  have H2' := Lib.hid (H2.out.below hB)
  have HB := Lib.hid hB
  obtain ⟨p3, c3, rfl⟩ := ws_len hW
  clear hW hB
  have HJL := Lib.hid hjl
  clear hjl
  go_wp2_with fail
  refine (same_any _ _ (joinE what a b) b _ HW.out H2'.out (by have := HJL.out; omega) (by have := HAB.out; omega)).mono ?_
  rintro e w2 ⟨rfl, nq, hww⟩
  have HB2 := Lib.hid (show Below w.heap.size w w2 by rw [hww]; exact bel_drewN HB.out nq)
  clear hww
  have HE := Lib.hid (show decide (joinE what a b = b) = belowE what a b from rfl)
  rw [HE.out]
  go_wp2_with fail
  go_ret
  exact ⟨rfl, HB2.out⟩

set_option maxHeartbeats 3200000 in
set_option maxRecDepth 100000 in
theorem rlrank_any (what width : Int) (v : Value) (a : List Nat) (w : World) (h1 : Ws w v a) (hn : a.length ≤ 1000) (hwd : 0 ≤ width ∧ width ≤ 1024) :
    Calls Try.prog 34 #[.int .i64 what, .int .i64 width, v] w fun e w' => e = .returned (.int .i64 (rankE what width a)) ∧ Below w.heap.size w w' := by
  have H1 := Lib.hid h1
  obtain ⟨p1, c1, rfl, q1⟩ := ws_row h1
  have C1 := Lib.hid q1
  have B0 := Lib.hid (Below.refl w.heap.size w)
  clear h1 q1
  by_cases h3 : what = 3
  · subst h3
    go_enter Try.func34, Try.ntmps34
    go_wp2_with fail
    go_loopw [7, 14] (fun n i wr => ∃ k : Nat, k ≤ a.length ∧ i = .int .i64 k ∧ n = .int .i64 (crK a k : Nat) ∧ Below w.heap.size w wr)
      (fun _ i _ => a.length - (intOf i).toNat)
    case atStart => exact ⟨0, Nat.zero_le _, rfl, rfl, B0.out⟩
    case round =>
      obtain ⟨k, hk, rfl, rfl, hB⟩ := hrel
      have HB := Lib.hid hB
      clear hB
      by_cases hlt : k < a.length
      · obtain ⟨ad, rfl, q⟩ := C1.out (by omega)
        have hck := keepc (q k hlt) HB.out
        rw [show a[k]?.getD 0 = wAt a k from rfl] at hck
        have HS := Lib.hid (crK_succ a k)
        have hkl := crK_le a k
        have hz := wAt_lt H1.out.1 k
        have HCI := Lib.hid (crankN_int (wAt a k))
        have hc2 := crankN_le (wAt a k)
        have HRk := Lib.hid (show ((crK a k : Nat) : Int) + (crankN (wAt a k) : Nat) = ((crK a (k + 1) : Nat) : Int) by rw [HS.out]; omega)
        clear q
        obtain ⟨nx, hnx⟩ : ∃ n, n = crK a (k + 1) := ⟨_, rfl⟩
        have HNX := Lib.hid hnx
        rw [← hnx] at HRk
        clear hnx HS
        generalize crankN (wAt a k) = cr at *
        generalize wAt a k = z at *
        generalize crK a k = s at *
        go_wp2_with fail
        refine (rrank_any z _ (by omega)).mono ?_
        rintro e w2 ⟨rfl, hB2⟩
        have HB2 := Lib.hid (HB.out.trans (hB2.mono HB.out.size))
        clear hB2
        rw [HCI.out]
        go_wp2_with fail
        go_roundw
        case rel => exact ⟨k + 1, by omega, by go_num, by rw [← HNX.out, ← HRk.out], HB2.out⟩
        case measure => simp [intOf]; omega
      · obtain rfl : k = a.length := by omega
        have HF := Lib.hid (show rankE 3 width a = (crK a a.length : Nat) by unfold rankE; rw [if_pos rfl, crK_all])
        go_wp2_with fail
        go_ret
        exact ⟨ret_int HF.out.symm, HB.out⟩
  · have e3 : (what == 3) = false := by simpa using h3
    have hle := lenE_le a
    have hq : what = 2 ∨ (what == 2) = false := by
      rcases (show what = 2 ∨ what ≠ 2 by omega) with h | h
      · exact .inl h
      · exact .inr (by simpa using h)
    have HR := Lib.hid (show rankE what width a = if what = 2 then width - (lenE a : Nat) else (lenE a : Nat) by unfold rankE; rw [if_neg h3])
    clear h3
    go_enter Try.func34, Try.ntmps34
    go_wp2_with fail
    refine (rlist_any _ _ _ H1.out (by omega)).mono ?_
    rintro e w2 ⟨u, rfl, hI, hB⟩
    have HB := Lib.hid hB
    obtain ⟨o, c, rfl, _⟩ := hI
    have HL := Lib.hid (show ((setE a).map Int.ofNat).length = lenE a by rw [List.length_map, setE_len])
    rw [HL.out]
    clear hB
    obtain ⟨nl, hnl⟩ : ∃ n, n = lenE a := ⟨_, rfl⟩
    rw [← hnl] at hle HR ⊢
    clear hnl HL
    rcases hq with rfl | h2
    · go_wp2_with fail
      go_ret
      exact ⟨ret_int (by rw [HR.out]; simp), HB.out⟩
    · have H2 := Lib.hid (show ¬ what = 2 by intro e; rw [e] at h2; cases h2)
      go_wp2_with fail
      go_ret
      exact ⟨ret_int (by rw [HR.out, if_neg H2.out]), HB.out⟩

end Go.Proofs.Yteheckcflnogbaa
