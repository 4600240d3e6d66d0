/-
  wordset.numbers: what its iterator hands to a loop's body.
-/
import Derived.RangeFuncNested
import Derived.RangeFuncBound
import Derived.RangeFuncCalls
import Derived.RangeFuncLeaves
import Derived.RangeFuncBox
import Derived.Shelf.Abstract
import Derived.Shelf.RegionOpen
import Derived.WalkKit
import Derived.OwnWalkIn
import Derived.TacticsInMore
import Derived.LoopNIn
import Derived.LoopIn
import Derived.Maps.AppendAt
import Derived.Test.YtdifegcpfpdngaaDoorTz
namespace Go.Proofs.YtdifegcpfpdngaaDoor
open Go.RowKit Go.Shelf

attribute [local go_sem] Oper.semAt_some

theorem cut_word (y : Nat) (hy : y < 18446744073709551616) (h0 : y ≠ 0) : bits .and .u64 (y : Int) ((y : Int) - 1) = ((y &&& (y - 1) : Nat) : Int) := by
  have e : (y : Int) - 1 = ((y - 1 : Nat) : Int) := by omega
  rw [e]
  exact band y (y - 1) hy (by omega)

set_option maxHeartbeats 3200000 in
set_option maxRecDepth 100000 in
theorem nums1_in (n : Nat) (hn : 2 ≤ n) (l Bs cap : Nat) (p : Option Addr) (zs : List Nat) (w0 : World) (hc : 0 < zs.length → ∃ a, p = some a ∧ ∀ i, i < zs.length → w0.cell? (a.add i) = some (.int .u64 (zs[i]?.getD 0 : Nat)))
    (hz : ∀ z ∈ zs, z < 18446744073709551616) (hlen : zs.length ≤ 100000) (ht : TabZ w0) (J Jx : List Nat → World → Prop)
    (hY : ∀ pre x W, J pre W → pre.length < lenE zs → YieldAt Fence.wide (n - 1) Tryd.prog l #[.int .i64 ((x : Nat) : Int)] W fun e W' =>
      (e = .returned (.bool true) ∧ J (pre ++ [x]) W' ∧ Below w0.heap.size W W') ∨ (e = .returned (.bool false) ∧ Jx (pre ++ [x]) W'))
    (W : World) (hW : Below w0.heap.size w0 W) (hBs : W.cell? ⟨Bs, 0, none⟩ = some (.slice p zs.length cap)) (h0 : J [] W) :
    CallsIn Fence.wide n Tryd.prog 64 #[.func (.yield l) #[] #[], .pointer (some ⟨Bs, 0, none⟩)] W fun e W' => (∃ v, e = .returned v) ∧
      ((∃ ys, ys = setE zs ∧ J ys W') ∨ (∃ pre, pre <+: setE zs ∧ Jx pre W')) := by
  have H1 := Lib.hid hc
  have HW := Lib.hid hW
  have HZ := Lib.hid hz
  have HT := Lib.hid ht
  clear hc hW hz ht
  refine callsIn_of_wp Tryd.func64 rfl trivial ?_ rfl
  simp only [Tryd.ntmps64, List.size_toArray, List.length_cons, List.length_nil, Nat.reduceAdd, Nat.reduceSub, Array.replicate_succ, Array.replicate_zero, List.push_toArray, List.append_toArray, List.nil_append, List.cons_append]
  gi_wp2
  gi_loopw [7] (fun i wr => ∃ k : Nat, k ≤ zs.length ∧ i = .int .i64 k ∧ J (setK zs k) wr ∧ Below w0.heap.size w0 wr)
    (fun i _ => zs.length - (intOf i).toNat)
  case atStart => exact ⟨0, Nat.zero_le _, rfl, h0, HW.out⟩
  case round =>
    obtain ⟨k, hk, rfl, hJ, hB⟩ := hrel
    have HJ := Lib.hid hJ
    have HB := Lib.hid hB
    clear hJ hB
    by_cases hlt : k < zs.length
    · obtain ⟨a, rfl, q⟩ := H1.out (by omega)
      have hck := keepc (q k hlt) HB.out
      have hzk := wAt_lt HZ.out k
      clear q
      have hwk : zs[k]?.getD 0 = wAt zs k := rfl
      rw [hwk] at hck
      have HE := Lib.hid (setK_succ zs k)
      clear hwk
      generalize wAt zs k = z at *
      gi_wp2
      gi_loopw [4] (fun v wr => ∃ (y : Nat) (pre : List Nat), y < 18446744073709551616 ∧ v = .int .u64 y ∧ pre ++ bl 64 (64 * k) y = setK zs (k + 1) ∧ J pre wr ∧ Below w0.heap.size w0 wr)
        (fun v _ => (intOf v).toNat)
      case atStart => exact ⟨z, _, hzk, rfl, HE.out.symm, HJ.out, HB.out⟩
      case round =>
        clear HJ HB HE hck hzk
        obtain ⟨y, pre, hy, rfl, hE, hJ, hB⟩ := hrel
        have HB := Lib.hid hB
        by_cases hy0 : y = 0
        · subst hy0
          rw [bl_zero, List.append_nil] at hE
          subst hE
          have HJ := Lib.hid hJ
          clear hJ hB
          gi_wp2
          go_roundw
          case rel => exact ⟨k + 1, by omega, by go_num, HJ.out, HB.out⟩
          case measure => simp [intOf]; omega
        · have hs := bl_step 64 (64 * k) y hy0 hy
          have hcut := cut_word y hy hy0
          have hlt2 : y &&& (y - 1) < y := Nat.lt_of_le_of_lt Nat.and_le_right (by omega)
          have htz := HT.out.below HB.out
          rw [hs] at hE
          have hpl : pre.length < lenE zs := by
            have h1 : (setK zs (k + 1)).length ≤ lenE zs := by rw [← setE_len]; exact (setK_prefix zs _ _ hlt).length_le
            rw [← hE, List.length_append, List.length_cons] at h1
            omega
          obtain ⟨fn, tmps, assign, body, hyy, hR⟩ := hY pre (64 * k + Lib.ctzFrom 64 y) _ hJ hpl
          have hyb : (y : Int) != 0 := by simp; omega
          have HE := Lib.hid hE
          have HS := Lib.hid hs
          have HC := Lib.hid (tz_any y hy hy0 wr htz)
          have hlz : Lib.ctzFrom 64 y < 64 := by
            obtain ⟨_, _, h⟩ := Lib.ctzFrom_spec 64 y (by omega) hy
            exact h
          generalize Lib.ctzFrom 64 y = c at *
          clear hE hs hJ htz
          have hmk : (k : Int) * 64 ≤ 6400000 := by omega
          rw [show (((64 * k + c : Nat) : Nat) : Int) = (k : Int) * 64 + c by omega] at hyy
          gi_wp2
          refine ⟨trivial, fun _ => by omega, (callsIn_wide.2 HC.out).mono ?_⟩
          rintro e w1 ⟨rfl, rfl⟩
          gi_wp2
          refine ⟨fun _ => by omega, hR.mono ?_⟩
          rintro e W3 (⟨rfl, hJ3, hk3⟩ | ⟨rfl, hJx3⟩)
          · have HJ3 := Lib.hid hJ3
            have HK3 := Lib.hid hk3
            clear hJ3 hk3
            gi_wp2
            go_roundw
            case rel => exact ⟨y &&& (y - 1), pre ++ [64 * k + c], by omega, rfl, by rw [List.append_assoc]; exact HE.out, HJ3.out, HB.out.trans HK3.out⟩
            case measure => simp [intOf]; omega
          · gi_wp2
            refine bodyPost_ret (results_none rfl _ _ _) rfl ?_
            refine ⟨⟨_, rfl⟩, .inr ⟨pre ++ [64 * k + c], ?_, hJx3⟩⟩
            refine List.IsPrefix.trans ?_ (setK_prefix zs (k + 1) _ hlt)
            rw [← HE.out]
            exact ⟨bl 64 (64 * k) (y &&& (y - 1)), by simp⟩
    · obtain rfl : k = zs.length := by omega
      gi_wp2
      go_end0
      exact ⟨⟨_, rfl⟩, .inl ⟨_, rfl, HJ.out⟩⟩

theorem numbers_any (p : Option Addr) (len cap : Nat) (w : World) :
    Calls Tryd.prog 57 #[.slice p len cap] w fun e w' => e = .returned (.func (.func 64) #[] #[.pointer (some ⟨w.heap.size, 0, none⟩)]) ∧ w' = w.alloc (.cells #[.slice p len cap] 47) := by
  go_enter Tryd.func57, Tryd.ntmps57
  go_wp2
  go_ret
  exact ⟨rfl, rfl⟩

theorem nums_stops (n : Nat) (hn : 2 ≤ n) (Bs cap : Nat) (p : Option Addr) (zs : List Nat) (w0 w : World) (hc : 0 < zs.length → ∃ a, p = some a ∧ ∀ i, i < zs.length → w0.cell? (a.add i) = some (.int .u64 (zs[i]?.getD 0 : Nat)))
    (hz : ∀ z ∈ zs, z < 18446744073709551616) (hlen : zs.length ≤ 100000) (ht : TabZ w0) (hw : Below w0.heap.size w0 w) (hBs : w.cell? ⟨Bs, 0, none⟩ = some (.slice p zs.length cap)) :
    SeqStopsK Fence.wide n Tryd.prog 64 #[.pointer (some ⟨Bs, 0, none⟩)] (fun x : Nat => #[Value.int .i64 (x : Int)]) (Below w0.heap.size) (fun ys => ys = setE zs) (fun pre => pre <+: setE zs) (lenE zs) w := fun l J Jx W hW _ _ hY h0 =>
  nums1_in n hn l Bs cap p zs w0 hc hz hlen ht J Jx hY W (hw.trans (hW.mono hw.size)) (keepc hBs hW) h0

theorem int_info : (Tryd.prog.info? 3).map (fun i => (i.zero, i.size, i.bytes)) = some (some (.int .i64 0), 1, 8) := by kernel_rfl
def natVs (l : List Nat) : List Value := l.map fun x => Value.int .i64 ((x : Nat) : Int)
theorem natVs_snoc (l : List Nat) (x : Nat) : natVs (l ++ [x]) = natVs l ++ [Value.int .i64 ((x : Nat) : Int)] := by simp [natVs]

set_option maxHeartbeats 3200000 in
set_option maxRecDepth 100000 in
theorem list_in (n : Nat) (hn : 4 ≤ n) (v : Value) (zs : List Nat) (w : World) (hw : Ws w v zs) (hlen : zs.length ≤ 10000) (ht : TabZ w) :
    CallsIn Fence.wide n Tryd.prog 41 #[v] w fun e w' => ∃ u, e = .returned u ∧ w'.ownsRow w.heap.size 3 1 u (setE zs).length (natVs (setE zs)) ∧ (u = .slice none 0 0 ↔ setE zs = []) ∧ Below w.heap.size w w' := by
  obtain ⟨i0, hi, hz0, hz1, hz2⟩ := info_parts int_info
  have hL := lenE_le zs
  have HZ := Lib.hid hw.1
  obtain ⟨p, cap, rfl, hc⟩ := ws_row hw
  have H1 := Lib.hid hc
  have HT := Lib.hid ht
  clear hw hc ht
  have h1 : 1 ≤ n := by omega
  refine callsIn_of_wp_marks Tryd.func41 rfl trivial ?_ rfl
  simp only [Tryd.ntmps41, List.size_toArray, List.length_cons, List.length_nil, Nat.reduceAdd, Nat.reduceSub, Array.replicate_succ, Array.replicate_zero, List.push_toArray, List.append_toArray, List.nil_append, List.cons_append]
  gi_wp2
  refine ⟨trivial, (callsIn_wide.2 (numbers_any _ _ _ _)).mono ?_⟩
  rintro e w1 ⟨rfl, rfl⟩
  gi_wp2
  have bO := Boxed.new w 46 (.slice none 0 0)
  have bN := Boxed.new (w.alloc (.cells #[.slice none 0 0] 46)) 47 (.slice p zs.length cap)
  rw [World.size_alloc] at bN
  have hB0 : Below w.heap.size w ((w.alloc (.cells #[.slice none 0 0] 46)).alloc (.cells #[.slice p zs.length cap] 47)) := ((Below.refl _ w).alloc (Nat.le_refl _) _).alloc (by simp) _
  refine wpIn_rangeFunc_ownG rfl h1 (gf := 64) (lb := #[.pointer (some ⟨w.heap.size + 1, 0, none⟩)]) rfl trivial (enters_of Tryd.func64 (by kernel_rfl) rfl)
    (nums_stops (n - 1) (by omega) (w.heap.size + 1) cap p zs w _ H1.out HZ.out (by omega) HT.out hB0 bN.cell) belowK_t (belowK_b (by simp; omega)) (Below.refl _ _) (fun _ => rfl)
    (fun pre W => (∃ v, Boxed W w.heap.size 46 v ∧ W.ownsRow w.heap.size 3 1 v pre.length (natVs pre) ∧ (v = .slice none 0 0 ↔ pre = [])) ∧ Below w.heap.size w W)
    (fun _ _ _ => False)
    (OwnFrom.and (Own.from (holdsRow_own w.heap.size w.heap.size 46 3 1 (fun pre : List Nat => pre.length) (fun pre => natVs pre) (fun pre v => v = .slice none 0 0 ↔ pre = [])) _) (ownFrom_below (Nat.le_refl _) (by simp; omega)))
    (fun _ _ _ _ _ hs _ _ => hs)
    ⟨⟨_, bO.alloc _, World.ownsRow_nil _ _ _ _, by simp⟩, hB0⟩
    (fun x => { tmps := #[.slice p zs.length cap, undef, .slice none 0 0, .pointer (some ⟨w.heap.size, 0, none⟩), .int .i64 (x : Int), .slice p zs.length cap, .func (.func 64) #[] #[.pointer (some ⟨w.heap.size + 1, 0, none⟩)], .int .i64 (x : Int), undef, undef, undef, undef, undef], defers := [] }) ?assign ?body ?done ?stop
  case assign =>
    intro l x W K hK
    gi_wp2
    exact hK
  case body =>
    rintro l pre x W ⟨⟨v, hv, hrow, hnil⟩, hB⟩ hlt
    have hc := hv.cell
    gi_wp2_with (gi_at_builtin; refine wpListIn_append_own _ rfl _ _ 46 rfl w.heap.size 3 i0 (.int .i64 0) 1 8 Tryd.underlying46 hi hz0 hz1 hz2 rfl (by decide) _ _ _ rfl (hrow.alloc _) ⟨W.heap.size, 0, none⟩ 1 1 [.int .i64 (x : Int)] rfl rfl (cell_one_new _ _ _) (by simp [Value.oneCell']) (by unfold maxLen; omega) (by omega) (by have := hB.size; simp; omega) ?_; intro v' w1 hown' hgrow _; obtain ⟨g', cap', rfl⟩ := ownsRow_succ hown'; obtain ⟨hv1, hv2, hr2, hk2, hb2⟩ := hv.appended (by decide) hrow hB.size (Nat.le_refl _) hown' hgrow; have hc1 := hv1.cell; have hf1 := hv1.frozen)
    exact ⟨hk2.from _, hb2, ⟨_, hv2, by rw [natVs_snoc, List.length_append]; exact hr2, by simp⟩, hB.trans hb2⟩
  case done =>
    rintro D ys W hD rfl ⟨⟨v, hv, hrow, hnil⟩, hB⟩ hK
    have hc := hv.cell
    gi_wp2
    refine ⟨by simp, .inl ⟨_, _, rfl, run_takeDeferred hK, ?_⟩⟩
    exact ⟨_, results_tmp rfl _ _ _, v, rfl, ownsRow_putObj hrow _ hK rfl, hnil, hB.trans (belowK_b (w := w) (Nat.le_refl _) W D _ _ (by simp at hD; omega) hK rfl rfl)⟩
  case stop =>
    rintro D c pre W _ _ h _
    exact h.elim

theorem natVs_ints (l : List Nat) : natVs l = (l.map Int.ofNat).map (Value.int .i64) := by simp [natVs]
theorem list_any (v : Value) (zs : List Nat) (w : World) (hw : Ws w v zs) (hlen : zs.length ≤ 10000) (ht : TabZ w) :
    Calls Tryd.prog 41 #[v] w fun e w' => ∃ u, e = .returned u ∧ IntsAt w' u ((setE zs).map Int.ofNat) ∧ Below w.heap.size w w' :=
  (callsIn_wide.1 (list_in 4 (Nat.le_refl _) v zs w hw hlen ht)).mono fun _ _ ⟨u, he, hr, _, hB⟩ => ⟨u, he, .of_owns (by rw [natVs_ints] at hr; simpa using hr), hB⟩

end Go.Proofs.YtdifegcpfpdngaaDoor
