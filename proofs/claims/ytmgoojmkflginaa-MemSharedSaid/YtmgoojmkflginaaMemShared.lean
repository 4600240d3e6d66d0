/-
  soughlaw22.MemShared: the walk.
-/
import Derived.Test.YtmgoojmkflginaaMemPlain
namespace Go.Proofs.Ytmgoojmkflginaa
open Go.RowKit

theorem ms_len (a : Addr) (w : World) : (method 249 42 (.pointer (some a)) "Len").run Try.prog w = .ok (19, .pointer (some a)) w := by kernel_rfl
theorem ms_load (a : Addr) (w : World) : (method 249 42 (.pointer (some a)) "Load").run Try.prog w = .ok (38, .pointer (some a)) w := by kernel_rfl

set_option maxHeartbeats 1600000 in
set_option maxRecDepth 100000 in
theorem sall_any (b g : Nat) (zs : List Int) (w : World) (h : Sm w b g zs) :
    Calls Try.prog 16 #[.iface 42 (.pointer (some ⟨b, 0, none⟩))] w fun e w' => ∃ v, e = .returned v ∧ Us w' v zs ∧ Below w.heap.size w w' := by
  have hl := ms_len ⟨b, 0, none⟩
  have hd := ms_load ⟨b, 0, none⟩
  have H := Lib.hid h
  have hz := h.2.2
  obtain ⟨i0, hi, hz0, hz1, hz2⟩ := info_parts u64_info
  clear h
  go_enter Try.func16, Try.ntmps16
  go_wp2_with fail
  refine (or_some _ _ _).mono ?_
  rintro e w1 ⟨rfl, rfl⟩
  go_wp2_with fail
  refine (slen_any _ _ _ _ H.out).mono ?_
  rintro e w2 ⟨rfl, rfl⟩
  go_wp2_with fail
  obtain ⟨w, rfl⟩ : ∃ w : World, w = w2 := ⟨_, rfl⟩
  go_loopw [3, 9] (fun v i wr => ∃ k : Nat, k ≤ zs.length ∧ i = .int .i64 k ∧ wr.ownsRow w.heap.size 28 1 v k ((zs.take k).map (Value.int .u64)) ∧ Below w.heap.size w wr)
    (fun _ i _ => zs.length - (intOf i).toNat)
  case atStart => exact ⟨0, Nat.zero_le _, rfl, World.ownsRow_nil _ _ _ _, Below.refl _ _⟩
  case round =>
    obtain ⟨k, hk, rfl, hown, hB⟩ := hrel
    have HB := Lib.hid hB
    have HO := Lib.hid hown
    clear hB hown
    by_cases hlt : k < zs.length
    · go_wp2_with fail
      refine (sload_any _ _ _ _ _ (H.out.below HB.out)).mono ?_
      rintro e w3 ⟨rfl, hB3⟩
      have HB3 := Lib.hid hB3
      clear hB3
      have hown3 := own_below HO.out HB3.out
      go_wp2_with (at_builtin; refine wpList_append_own _ rfl _ _ 36 rfl w.heap.size 28 i0 (.int .u64 0) 1 8 Try.underlying36 hi hz0 hz1 hz2 rfl (by decide) _ _ _ rfl (hown3.alloc _) ⟨w3.heap.size, 0, none⟩ 1 1 [.int .u64 (ldv zs k)] rfl rfl (cell_one_new _ _ _) (by simp [Value.oneCell']) (by unfold maxLen; omega) (by omega) (by have := HB.out.size; have := HB3.out.size; simp; omega) ?_; intro v' w4 hown' hgrow _)
      have R := all_step (HB.out.trans (HB3.out.mono HB.out.size)) _ hlt hown3 hown' hgrow
      clear hown' hgrow hown3
      go_wp2
      go_roundw
      case rel => exact ⟨k + 1, by omega, by go_num, R.1, R.2⟩
      case measure => simp [intOf]; omega
    · obtain rfl : k = zs.length := by omega
      go_wp2
      go_ret
      exact ⟨_, rfl, Us.of_owns (by have h := HO.out; rw [List.take_length] at h; exact h), HB.out⟩

set_option maxHeartbeats 6400000 in
set_option maxRecDepth 100000 in
theorem memShared_walk (n : Int) (v : Value) (L : List ActT) (W : World) (hA : Acts W v L) (hL : L.length ≤ 9223372036854775807) :
    Calls Try.prog 4 #[.int .i64 n, v] W fun e w' => e = .returned (.bool true) ∧ Below W.heap.size W w' := by
  obtain ⟨o, c, rfl, hc⟩ := hA
  have HC := Lib.hid hc
  clear hc
  by_cases h1 : 50 < n
  · have d1 : decide (50 < n) = true := by simpa using h1
    go_enter Try.func4, Try.ntmps4
    go_wp2_with fail
    refine (awake22_any _).mono ?_
    rintro e w1 ⟨rfl, hB⟩
    go_wp2_with fail
    go_ret
    exact ⟨rfl, hB⟩
  have d1 : decide (50 < n) = false := by simpa using h1
  by_cases h2 : 60 < L.length
  · have d2 : decide (60 < (L.length : Int)) = true := by simp; omega
    clear h1 h2
    go_enter Try.func4, Try.ntmps4
    go_wp2_with fail
    refine (awake22_any _).mono ?_
    rintro e w1 ⟨rfl, hB⟩
    go_wp2_with fail
    go_ret
    exact ⟨rfl, hB⟩
  have d2 : decide (60 < (L.length : Int)) = false := by simp; omega
  clear h1
  go_enter Try.func4, Try.ntmps4
  go_wp2_with fail
  refine (awake22_any _).mono ?_
  rintro e w1 ⟨rfl, hB1⟩
  have HB1 := Lib.hid hB1
  clear hB1
  go_wp2_with fail
  refine (newShared_any _ _).mono ?_
  rintro e w2 ⟨b, g, rfl, hP, hB2, hb, hg⟩
  have HP2 := Lib.hid hP
  have HB2 := Lib.hid (HB1.out.trans (hB2.mono HB1.out.size))
  have hb1 : b < w2.heap.size := hP.1.lt
  have hg1 : g < w2.heap.size := hP.2.1.lt
  clear hP hB2
  go_wp2_with fail
  refine (newPlain_any _ _).mono ?_
  rintro e w3 ⟨b2, g2, rfl, hR, hB3, hb2, hg2⟩
  have HR3 := Lib.hid hR
  have HP3 := Lib.hid (HP2.out.below hB3)
  have HB3 := Lib.hid (HB2.out.trans (hB3.mono HB2.out.size))
  have hW1 := HB1.out.size
  have hbg := HP2.out.ne
  have hbg2 := hR.ne
  clear hR hB3
  have HN := Lib.hid (And.intro hbg hbg2)
  clear hbg hbg2
  go_wp2_with fail
  obtain ⟨zs0, hz0⟩ : ∃ zs, zs = List.replicate (memn n) (0 : Int) := ⟨_, rfl⟩
  rw [← hz0] at HP3 HR3
  clear hz0
  go_loopw [28] (fun i wr => ∃ (k : Nat) (zs : List Int), k ≤ L.length ∧ i = .int .i64 k ∧ Sm wr b g zs ∧ Pm wr b2 g2 zs ∧ Below W.heap.size W wr)
    (fun i _ => L.length - (intOf i).toNat)
  case atStart => exact ⟨0, zs0, Nat.zero_le _, rfl, HP3.out, HR3.out, HB3.out⟩
  case round =>
    obtain ⟨k, zs, hk, rfl, hP, hR, hB⟩ := hrel
    have hzl := hP.2.2
    have HP := Lib.hid hP
    have HR := Lib.hid hR
    have HB := Lib.hid hB
    clear hP hR hB
    by_cases hlt : k < L.length
    · obtain ⟨bl, off, rfl, hc⟩ := HC.out (by omega)
      obtain ⟨c0, c1, c2, c3⟩ := hc k hlt
      replace c0 := keepc c0 HB.out
      replace c1 := keepc c1 HB.out
      replace c2 := keepc c2 HB.out
      replace c3 := keepc c3 HB.out
      clear hc
      generalize actAt L k = t at *
      go_wp2_with fail
      refine (kind_any _ _).mono ?_
      rintro e w4 ⟨rfl, rfl⟩
      go_wp2_with fail
      have hal : Below wr.heap.size wr (wr.alloc (.cells #[.int .i64 (kindv t.k), .int .i64 t.a, .int .u64 t.x, .int .u64 t.y] 30)) := (Below.refl _ _).alloc (Nat.le_refl _) _
      have HAL := Lib.hid hal
      have HK := Lib.hid (Bk.new wr 30 [.int .i64 (kindv t.k), .int .i64 t.a, .int .u64 t.x, .int .u64 t.y])
      have hglt := HP.out.2.1.lt
      have hg2lt := HR.out.2.1.lt
      clear hal
      refine (shared_any _ _ _ _ _ _ _ _ (HP.out.below HAL.out)).mono ?_
      rintro e w5 ⟨rfl, hP5, hG5⟩
      have HK5 := Lib.hid (HK.out.keep hG5 (by simp; omega))
      have HR5 := Lib.hid ((HR.out.below HAL.out).keep hG5 (by omega) (by omega))
      have HP5 := Lib.hid hP5
      have HB5 := Lib.hid ((bel_then HB.out HAL.out).grown hG5 (Nat.le_trans HB.out.size HAL.out.size) (by intro k hk; cases hk; omega))
      clear hP5 hG5
      have q0 : w5.cell? ⟨wr.heap.size, 0, none⟩ = some (.int .i64 (kindv t.k)) := HK5.out.cell 0
      have q1 : w5.cell? ⟨wr.heap.size, 1, none⟩ = some (.int .i64 t.a) := HK5.out.cell 1
      have q2 : w5.cell? ⟨wr.heap.size, 2, none⟩ = some (.int .u64 t.x) := HK5.out.cell 2
      have q3 : w5.cell? ⟨wr.heap.size, 3, none⟩ = some (.int .u64 t.y) := HK5.out.cell 3
      go_wp2_with fail
      refine (plain_any _ _ _ _ _ _ _ _ HR5.out).mono ?_
      rintro e w6 ⟨rfl, hR6, hG6⟩
      have HP6 := Lib.hid (HP5.out.keep hG6 (by omega) (by omega))
      have HR6 := Lib.hid hR6
      have HB6 := Lib.hid (HB5.out.grown hG6 HB5.out.size (by intro k hk; cases hk; omega))
      clear hR6 hG6 q0 q1 q2 q3
      generalize actw zs (kindv t.k) t.a t.x = p at *
      generalize actb zs (kindv t.k) t.a t.x = q at *
      go_wp2_with fail
      go_roundw
      case rel => exact ⟨k + 1, _, by omega, by go_num, HP6.out, HR6.out, HB6.out⟩
      case measure => simp [intOf]; omega
    · obtain rfl : k = L.length := by omega
      go_wp2_with fail
      refine (slen_any _ _ _ _ HP.out).mono ?_
      rintro e w4 ⟨rfl, rfl⟩
      go_wp2_with fail
      refine (plen_any _ _ _ _ HR.out).mono ?_
      rintro e w4 ⟨rfl, rfl⟩
      go_wp2_with fail
      refine (sall_any _ _ _ _ HP.out).mono ?_
      rintro e w5 ⟨va, rfl, hu, hB5⟩
      have HU := Lib.hid hu
      have HB5 := Lib.hid hB5
      clear hu hB5
      go_wp2_with fail
      refine (all_any _ _ _ _ (HR.out.below HB5.out)).mono ?_
      rintro e w6 ⟨vb, rfl, hu, hB6⟩
      have HU2 := Lib.hid hu
      have HB6 := Lib.hid hB6
      clear hu hB6
      go_wp2_with fail
      refine (us_any _ _ _ _ _ (HU.out.keep HB6.out) HU2.out (by omega) (by omega)).mono ?_
      rintro e w7 ⟨rfl, nq, rfl⟩
      go_wp2_with fail
      go_ret
      exact ⟨by simp, bel_drewN (bel_then (bel_then HB.out HB5.out) HB6.out) nq⟩

end Go.Proofs.Ytmgoojmkflginaa
