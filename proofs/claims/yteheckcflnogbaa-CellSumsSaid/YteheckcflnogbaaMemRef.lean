/-
  soughref22.New, Do; soughlaw22.kind: contracts.
-/
import Derived.Test.YteheckcflnogbaaMemAct
namespace Go.Proofs.Yteheckcflnogbaa
open Go.RowKit

theorem make_u64 (n : Nat) (k : Int) (hk : (n : Int) = k) (hn : n ≤ 1048576) (w : World) :
    (Instr.makeSlice 22 (.int .i64 k) (.int .i64 k)).run Try.prog w = .ok (.slice (some ⟨w.heap.size, 0, none⟩) n n) (w.alloc (.cells (List.replicate n (Value.int .u64 0)).toArray 29)) := by
  subst hk
  rw [← madeCells_one]
  exact run_make_row' (P := Try.prog) 22 29 (.int .u64 0) 8 Try.underlying22 u64_info rfl .i64 .i64 n (by omega) (by omega) w

theorem rnew_any (n : Int) (w : World) :
    Calls Try.prog 50 #[.int .i64 n] w fun e w' => ∃ b g, e = .returned (.pointer (some ⟨b, 0, none⟩)) ∧ Rm w' b g (List.replicate (memn n) 0) ∧ Below w.heap.size w w' ∧ w.heap.size ≤ b ∧ w.heap.size ≤ g := by
  have hl := memn_le n
  rcases (show (n < 0 ∧ memn n = 0) ∨ (0 ≤ n ∧ n ≤ 1048576 ∧ (memn n : Int) = n) ∨ (1048576 < n ∧ memn n = 1048576) from by unfold memn; omega) with ⟨h, hr⟩ | ⟨h, h', hr⟩ | ⟨h, hr⟩
  · have hmk := make_u64 (memn n) 0 (by omega) hl
    clear hr
    go_enter Try.func50, Try.ntmps50
    go_wp2
    go_ret
    refine ⟨_, w.heap.size, rfl, ⟨?_, ?_, ?_⟩, (((Below.refl _ _).alloc (Nat.le_refl _) _).alloc (by simp) _), by omega, by omega⟩
    · rw [List.length_replicate]; exact Bk.new' _ _ [_] (by simp)
    · rw [List.map_replicate]; exact (Bk.new _ _ _).alloc _
    · rw [List.length_replicate]; exact hl
  · have hmk := make_u64 (memn n) n (by omega) hl
    clear hr
    go_enter Try.func50, Try.ntmps50
    go_wp2
    go_ret
    refine ⟨_, w.heap.size, rfl, ⟨?_, ?_, ?_⟩, (((Below.refl _ _).alloc (Nat.le_refl _) _).alloc (by simp) _), by omega, by omega⟩
    · rw [List.length_replicate]; exact Bk.new' _ _ [_] (by simp)
    · rw [List.map_replicate]; exact (Bk.new _ _ _).alloc _
    · rw [List.length_replicate]; exact hl
  · have hmk := make_u64 (memn n) 1048576 (by omega) hl
    clear hr
    go_enter Try.func50, Try.ntmps50
    go_wp2
    go_ret
    refine ⟨_, w.heap.size, rfl, ⟨?_, ?_, ?_⟩, (((Below.refl _ _).alloc (Nat.le_refl _) _).alloc (by simp) _), by omega, by omega⟩
    · rw [List.length_replicate]; exact Bk.new' _ _ [_] (by simp)
    · rw [List.map_replicate]; exact (Bk.new _ _ _).alloc _
    · rw [List.length_replicate]; exact hl

/-- An operation's kind. -/
def kindv (k : Int) : Int := if 1 ≤ k ∧ k ≤ 4 then k else 1
set_option maxHeartbeats 1600000 in
theorem do_any (k a x y : Int) (b g : Nat) (zs : List Int) (w : World) (h : Rm w b g zs) :
    Calls Try.prog 129 #[.pointer (some ⟨b, 0, none⟩), .agg #[.int .i64 k, .int .i64 a, .int .u64 x, .int .u64 y]] w fun e w' => e = .returned (.tuple #[.int .u64 (actw zs k a x), .bool (actb zs k a x)]) ∧ Rm w' b g (actv zs k a x y) ∧ w.grownBy w' (some g) := by
  have hg : w.grownBy (w.alloc (.cells #[.int .i64 k, .int .i64 a, .int .u64 x, .int .u64 y] 187)) (some g) := World.grownBy_alloc _ _ _
  have h1 : Rm (w.alloc (.cells #[.int .i64 k, .int .i64 a, .int .u64 x, .int .u64 y] 187)) b g zs := h.below ((Below.refl _ _).alloc (Nat.le_refl _) _)
  have hz := h.2.2
  have hb := h.1.lt
  have hgl := h.2.1.lt
  have hne := h.ne
  have H := Lib.hid h1
  have H0 := Lib.hid h
  have G := Lib.hid hg
  have hr := h.row
  have hf := h.free a.toNat
  rcases hasv_cases zs.length a with ⟨i0, i1, hh⟩ | ⟨ho, hh⟩
  · have hw := h.word a.toNat (by omega)
    have Hh := Lib.hid hh
    clear h h1 hg hh
    by_cases e1 : k = 1
    · have Hv := Lib.hid (show actv zs k a x y = zs by unfold actv; rw [if_pos e1])
      have Hw := Lib.hid (show actw zs k a x = wd zs a.toNat by unfold actw; rw [if_pos e1, ldv_in i0])
      have Hb := Lib.hid (show actb zs k a x = false by unfold actb; rw [if_neg (by omega)])
      have d1 : (k == 1) = true := by simp [e1]
      clear e1
      go_enter Try.func129, Try.ntmps129
      go_wp2_with fail
      refine (rhas_any _ _ _ _ _ H.out).mono ?_
      rintro e w1 ⟨rfl, rfl⟩
      rw [Hh.out]
      go_wp2_with fail
      go_region
      go_wp2_with fail
      go_ret2
      exact ⟨ret_act Hw.out.symm Hb.out.symm, by rw [Hv.out]; exact H.out.drewN 1, gb_drewN G.out 1⟩
    have d1 : (k == 1) = false := by simp [e1]
    by_cases e2 : k = 2
    · have Hv := Lib.hid (show actv zs k a x y = zs.set a.toNat x by unfold actv; rw [if_neg e1, if_pos e2, stv_in i0])
      have Hw := Lib.hid (show actw zs k a x = 0 by unfold actw; rw [if_neg e1, if_pos e2])
      have Hb := Lib.hid (show actb zs k a x = false by unfold actb; rw [if_neg (by omega)])
      have d2 : (k == 2) = true := by simp [e2]
      clear e1 e2
      go_enter Try.func129, Try.ntmps129
      go_wp2_with fail
      refine (rhas_any _ _ _ _ _ H.out).mono ?_
      rintro e w1 ⟨rfl, rfl⟩
      rw [Hh.out]
      go_wp2_with fail
      go_region
      go_wp2_with fail
      go_ret2
      exact ⟨ret_act Hw.out.symm Hb.out.symm, by rw [Hv.out]; exact ((H0.out.set _ _).below ((Below.refl _ _).alloc (Nat.le_refl _) _)).drewN 1, gb_drewN (gb_trans (gb_set (gb_refl w (some g)) _ _) (World.grownBy_alloc _ _ _)) 1⟩
    have d2 : (k == 2) = false := by simp [e2]
    by_cases e3 : k = 3
    · have d3 : (k == 3) = true := by simp [e3]
      by_cases hw' : wd zs a.toNat = x
      · have Hc := show casb zs a x = true by unfold casb; rw [Hh.out, ldv_in i0, hw']; simp
        have Hv := Lib.hid (show actv zs k a x y = zs.set a.toNat y by unfold actv casv; rw [if_neg e1, if_neg e2, if_pos e3, if_pos Hc, stv_in i0])
        have Hw := Lib.hid (show actw zs k a x = 0 by unfold actw; rw [if_neg e1, if_neg e2, if_pos e3])
        have Hb := Lib.hid (show actb zs k a x = true by unfold actb; rw [if_pos e3, Hc])
        have dc : (wd zs a.toNat == x) = true := by simp [hw']
        clear e1 e2 e3 Hc hw'
        go_enter Try.func129, Try.ntmps129
        go_wp2_with fail
        refine (rhas_any _ _ _ _ _ H.out).mono ?_
        rintro e w1 ⟨rfl, rfl⟩
        rw [Hh.out]
        go_wp2_with fail
        go_region
        go_wp2_with fail
        go_region
        go_wp2_with fail
        go_ret2
        exact ⟨ret_act Hw.out.symm Hb.out.symm, by rw [Hv.out]; exact ((H0.out.set _ _).below ((Below.refl _ _).alloc (Nat.le_refl _) _)).drewN 2, gb_drewN (gb_trans (gb_set (gb_refl w (some g)) _ _) (World.grownBy_alloc _ _ _)) 2⟩
      · have Hc := show casb zs a x = false by unfold casb; rw [Hh.out, ldv_in i0]; simp [hw']
        have Hv := Lib.hid (show actv zs k a x y = zs by unfold actv casv; rw [if_neg e1, if_neg e2, if_pos e3, Hc]; rfl)
        have Hw := Lib.hid (show actw zs k a x = 0 by unfold actw; rw [if_neg e1, if_neg e2, if_pos e3])
        have Hb := Lib.hid (show actb zs k a x = false by unfold actb; rw [if_pos e3, Hc])
        have dc : (wd zs a.toNat == x) = false := by simp [hw']
        clear e1 e2 e3 Hc hw'
        go_enter Try.func129, Try.ntmps129
        go_wp2_with fail
        refine (rhas_any _ _ _ _ _ H.out).mono ?_
        rintro e w1 ⟨rfl, rfl⟩
        rw [Hh.out]
        go_wp2_with fail
        go_region
        go_wp2_with fail
        go_ret2
        exact ⟨ret_act Hw.out.symm Hb.out.symm, by rw [Hv.out]; exact H.out.drewN 1, gb_drewN G.out 1⟩
    have d3 : (k == 3) = false := by simp [e3]
    have Hq := Lib.hid (show addw zs a x = IntKind.u64.wrap (wd zs a.toNat + x) by unfold addw; rw [if_pos Hh.out, ldv_in i0])
    have Hv := Lib.hid (show actv zs k a x y = zs.set a.toNat (IntKind.u64.wrap (wd zs a.toNat + x)) by unfold actv addv; rw [if_neg e1, if_neg e2, if_neg e3, Hq.out, stv_in i0])
    have Hw := Lib.hid (show actw zs k a x = IntKind.u64.wrap (wd zs a.toNat + x) by unfold actw; rw [if_neg e1, if_neg e2, if_neg e3, Hq.out])
    have Hb := Lib.hid (show actb zs k a x = false by unfold actb; rw [if_neg e3])
    have hbg : ¬ g = b := fun e => hne e.symm
    clear e1 e2 e3
    go_enter Try.func129, Try.ntmps129
    go_wp2_with fail
    refine (rhas_any _ _ _ _ _ H.out).mono ?_
    rintro e w1 ⟨rfl, rfl⟩
    rw [Hh.out]
    go_wp2_with fail
    go_region
    go_wp2_with fail
    go_region
    go_wp2_with fail
    go_ret2
    exact ⟨ret_act Hw.out.symm Hb.out.symm, by rw [Hv.out]; exact ((H0.out.set _ _).below ((Below.refl _ _).alloc (Nat.le_refl _) _)).drewN 2, gb_drewN (gb_trans (gb_set (gb_refl w (some g)) _ _) (World.grownBy_alloc _ _ _)) 2⟩
  · have Hv := Lib.hid (show actv zs k a x y = zs by unfold actv casv addv casb; simp [hh, stv_out ho])
    have Hw := Lib.hid (show actw zs k a x = 0 by unfold actw addw; rw [hh, ldv_out ho]; simp)
    have Hb := Lib.hid (show actb zs k a x = false by unfold actb casb; rw [hh]; simp)
    have Hh := Lib.hid hh
    clear h h1 hg hh
    go_enter Try.func129, Try.ntmps129
    go_wp2_with fail
    refine (rhas_any _ _ _ _ _ H.out).mono ?_
    rintro e w1 ⟨rfl, rfl⟩
    rw [Hh.out]
    go_wp2_with fail
    go_ret2
    exact ⟨ret_act Hw.out.symm Hb.out.symm, by rw [Hv.out]; exact H.out, G.out⟩

end Go.Proofs.Yteheckcflnogbaa
