/-
  mem.Shared: its contracts (one behind the other: one goroutine).
-/
import Derived.Test.YtmgoojmkflginaaMemAct
import Derived.Laws.LoneSync
namespace Go.Proofs.Ytmgoojmkflginaa
open Go.RowKit

theorem aload_any (a : Addr) (x : Int) (w : World) (h : w.cell? a = some (.int .u64 x)) :
    Calls Try.prog 55 #[.pointer (some a)] w fun e w' => e = .returned (.int .u64 x) ∧ w' = w := by
  obtain ⟨b, o, s⟩ := a
  have hs : s = none := (World.shape?_of_cell? h).choose_spec.choose_spec.2.2
  subst hs
  have hl := run_call_load (P := Try.prog) Try.func64 (by kernel_rfl) (by kernel_rfl) (by kernel_rfl) .u64 (by kernel_rfl) h
  go_enter Try.func55, Try.ntmps55
  go_wp2
  go_ret
  exact ⟨rfl, rfl⟩
theorem astore_any (a : Addr) (x y : Int) (w : World) (h : w.cell? a = some (.int .u64 x)) (hf : w.frozen? a = false) :
    Calls Try.prog 56 #[.pointer (some a), .int .u64 y] w fun e w' => e = .returned (.tuple #[]) ∧ w' = w.setCell a (.int .u64 y) := by
  obtain ⟨b, o, s⟩ := a
  have hs : s = none := (World.shape?_of_cell? h).choose_spec.choose_spec.2.2
  subst hs
  have hl := run_call_store (P := Try.prog) Try.func65 (by kernel_rfl) (by kernel_rfl) (by kernel_rfl) (by kernel_rfl) (k := .u64) (y := y) h hf
  go_enter Try.func56, Try.ntmps56
  go_wp2
  go_end0
  exact ⟨rfl, rfl⟩
theorem aadd_any (a : Addr) (x y : Int) (w : World) (h : w.cell? a = some (.int .u64 x)) (hf : w.frozen? a = false) :
    Calls Try.prog 54 #[.pointer (some a), .int .u64 y] w fun e w' => e = .returned (.int .u64 (IntKind.u64.wrap (x + y))) ∧ w' = w.setCell a (.int .u64 (IntKind.u64.wrap (x + y))) := by
  obtain ⟨b, o, s⟩ := a
  have hs : s = none := (World.shape?_of_cell? h).choose_spec.choose_spec.2.2
  subst hs
  have hl := run_call_add (P := Try.prog) Try.func63 (by kernel_rfl) (by kernel_rfl) (by kernel_rfl) .u64 (by kernel_rfl) (y := y) (s := IntKind.u64.wrap (x + y)) h hf (by go_simp)
  go_enter Try.func54, Try.ntmps54
  go_wp2
  go_ret
  exact ⟨rfl, rfl⟩
theorem acas_hit (a : Addr) (x y : Int) (w : World) (h : w.cell? a = some (.int .u64 x)) (hf : w.frozen? a = false) :
    Calls Try.prog 53 #[.pointer (some a), .int .u64 x, .int .u64 y] w fun e w' => e = .returned (.bool true) ∧ w' = w.setCell a (.int .u64 y) := by
  obtain ⟨b, o, s⟩ := a
  have hs : s = none := (World.shape?_of_cell? h).choose_spec.choose_spec.2.2
  subst hs
  have hl := run_call_cas_hit (P := Try.prog) Try.func62 (by kernel_rfl) (by kernel_rfl) (by kernel_rfl) .u64 (by kernel_rfl) (y := y) h hf
  go_enter Try.func53, Try.ntmps53
  go_wp2
  go_ret
  exact ⟨rfl, rfl⟩
theorem acas_miss (a : Addr) (x o y : Int) (w : World) (h : w.cell? a = some (.int .u64 x)) (hf : w.frozen? a = false) (hn : ¬ x = o) :
    Calls Try.prog 53 #[.pointer (some a), .int .u64 o, .int .u64 y] w fun e w' => e = .returned (.bool false) ∧ w' = w := by
  obtain ⟨b, off, s⟩ := a
  have hs : s = none := (World.shape?_of_cell? h).choose_spec.choose_spec.2.2
  subst hs
  have hl := run_call_cas_miss (P := Try.prog) Try.func62 (by kernel_rfl) (by kernel_rfl) (by kernel_rfl) .u64 (by kernel_rfl) (o := o) (y := y) h hf hn
  go_enter Try.func53, Try.ntmps53
  go_wp2
  go_ret
  exact ⟨rfl, rfl⟩

/-- A Shared at block b, its words in block g. -/
def Sm (w : World) (b g : Nat) (zs : List Int) : Prop :=
  Bk w b 51 [.int .i64 zs.length, .slice (some ⟨g, 0, none⟩) zs.length zs.length] ∧ Bk w g 93 (zs.map (Value.int .u64)) ∧ zs.length ≤ 1048576
theorem Sm.ne {w : World} {b g : Nat} {zs : List Int} (h : Sm w b g zs) : b ≠ g := h.1.ne h.2.1 (by decide)
theorem Sm.below {w w' : World} {b g : Nat} {zs : List Int} (h : Sm w b g zs) (k : Below w.heap.size w w') : Sm w' b g zs := ⟨h.1.below k, h.2.1.below k, h.2.2⟩
theorem Sm.drewN {w : World} {b g : Nat} {zs : List Int} (h : Sm w b g zs) (n : Nat) : Sm (w.drewN n) b g zs := h
theorem Sm.keep {w w' : World} {b g r : Nat} {zs : List Int} (h : Sm w b g zs) (k : w.grownBy w' (some r)) (hb : b ≠ r) (hg : g ≠ r) : Sm w' b g zs := ⟨h.1.keep k (by simpa using hb), h.2.1.keep k (by simpa using hg), h.2.2⟩
theorem Sm.len {w : World} {b g : Nat} {zs : List Int} (h : Sm w b g zs) : w.cell? ⟨b, 0, none⟩ = some (.int .i64 zs.length) := by rw [h.1.cell]; rfl
theorem Sm.row {w : World} {b g : Nat} {zs : List Int} (h : Sm w b g zs) : w.cell? ⟨b, 1, none⟩ = some (.slice (some ⟨g, 0, none⟩) zs.length zs.length) := by rw [h.1.cell]; rfl
theorem Sm.word {w : World} {b g : Nat} {zs : List Int} (h : Sm w b g zs) (i : Nat) (hi : i < zs.length) : w.cell? ⟨g, i, none⟩ = some (.int .u64 (wd zs i)) := by rw [h.2.1.cell]; simp [hi, wd]
theorem Sm.free {w : World} {b g : Nat} {zs : List Int} (h : Sm w b g zs) (i : Nat) : w.frozen? ⟨g, i, none⟩ = false := h.2.1.free i
theorem Sm.set {w : World} {b g : Nat} {zs : List Int} (h : Sm w b g zs) (i : Nat) (u : Int) : Sm (w.setCell ⟨g, i, none⟩ (.int .u64 u)) b g (zs.set i u) := by
  refine ⟨?_, ?_, by simpa using h.2.2⟩
  · have := h.1.far (p := ⟨g, i, none⟩) h.ne (.int .u64 u)
    simpa using this
  · have := h.2.1.set i (.int .u64 u)
    simpa [List.map_set] using this

theorem sload_any (a : Int) (b g : Nat) (zs : List Int) (w : World) (h : Sm w b g zs) :
    Calls Try.prog 38 #[.pointer (some ⟨b, 0, none⟩), .int .i64 a] w fun e w' => e = .returned (.int .u64 (ldv zs a)) ∧ Below w.heap.size w w' := by
  have h1 := h.len
  have h2 := h.row
  have H := Lib.hid h
  have hm := h.2.2
  clear h
  rcases hasv_cases zs.length a with ⟨i0, i1, hh⟩ | ⟨ho, hh⟩
  · have Hr := Lib.hid (ldv_in (zs := zs) i0)
    have Hh := Lib.hid hh
    clear hh
    go_enter Try.func38, Try.ntmps38
    go_wp2_with fail
    refine (has_any _ _ _).mono ?_
    rintro e w1 ⟨rfl, hB⟩
    rw [Hh.out]
    have g1 := (H.out.below hB).len
    have g2 := (H.out.below hB).row
    have g3 := (H.out.below hB).word a.toNat (by omega)
    have HB := Lib.hid hB
    clear hB h1 h2
    go_wp2_with fail
    refine (aload_any _ _ _ g3).mono ?_
    rintro e w2 ⟨rfl, rfl⟩
    go_wp2_with fail
    go_ret
    exact ⟨ret_int Hr.out.symm, HB.out⟩
  · have Hr := Lib.hid (ldv_out (zs := zs) ho)
    have Hh := Lib.hid hh
    clear hh
    go_enter Try.func38, Try.ntmps38
    go_wp2_with fail
    refine (has_any _ _ _).mono ?_
    rintro e w1 ⟨rfl, hB⟩
    rw [Hh.out]
    have HB := Lib.hid hB
    clear hB
    go_wp2_with fail
    go_ret
    exact ⟨ret_int Hr.out.symm, HB.out⟩


theorem sstore_any (a u : Int) (b g : Nat) (zs : List Int) (w : World) (h : Sm w b g zs) :
    Calls Try.prog 39 #[.pointer (some ⟨b, 0, none⟩), .int .i64 a, .int .u64 u] w fun e w' => e = .returned (.tuple #[]) ∧ Sm w' b g (stv zs a u) ∧ w.grownBy w' (some g) := by
  have h1 := h.len
  have h2 := h.row
  have H := Lib.hid h
  have hm := h.2.2
  clear h
  rcases hasv_cases zs.length a with ⟨i0, i1, hh⟩ | ⟨ho, hh⟩
  · have Hr := Lib.hid (stv_in (zs := zs) (u := u) i0)
    have Hh := Lib.hid hh
    clear hh
    go_enter Try.func39, Try.ntmps39
    go_wp2_with fail
    refine (has_any _ _ _).mono ?_
    rintro e w1 ⟨rfl, hB⟩
    rw [Hh.out]
    have g1 := (H.out.below hB).len
    have g2 := (H.out.below hB).row
    have g3 := (H.out.below hB).word a.toNat (by omega)
    have g4 := (H.out.below hB).free a.toNat
    have HB := Lib.hid hB
    clear hB h1 h2
    go_wp2_with fail
    refine (astore_any _ _ _ _ g3 g4).mono ?_
    rintro e w2 ⟨rfl, rfl⟩
    go_wp2_with fail
    go_end0
    exact ⟨rfl, by rw [Hr.out]; exact (H.out.below HB.out).set _ _, gb_set (gb_below HB.out _) _ _⟩
  · have Hr := Lib.hid (stv_out (zs := zs) (u := u) ho)
    have Hh := Lib.hid hh
    clear hh
    go_enter Try.func39, Try.ntmps39
    go_wp2_with fail
    refine (has_any _ _ _).mono ?_
    rintro e w1 ⟨rfl, hB⟩
    rw [Hh.out]
    have HB := Lib.hid hB
    clear hB
    go_wp2_with fail
    go_end0
    exact ⟨rfl, by rw [Hr.out]; exact H.out.below HB.out, gb_below HB.out _⟩

theorem scas_any (a o u : Int) (b g : Nat) (zs : List Int) (w : World) (h : Sm w b g zs) :
    Calls Try.prog 30 #[.pointer (some ⟨b, 0, none⟩), .int .i64 a, .int .u64 o, .int .u64 u] w fun e w' => e = .returned (.bool (casb zs a o)) ∧ Sm w' b g (casv zs a o u) ∧ w.grownBy w' (some g) := by
  have h1 := h.len
  have h2 := h.row
  have H := Lib.hid h
  have hm := h.2.2
  clear h
  rcases hasv_cases zs.length a with ⟨i0, i1, hh⟩ | ⟨ho, hh⟩
  · have Hl := Lib.hid (ldv_in (zs := zs) i0)
    have Hh := Lib.hid hh
    clear hh
    by_cases hw : wd zs a.toNat = o
    · have Hc := Lib.hid (show casb zs a o = true by unfold casb; rw [Hh.out, Hl.out, hw]; simp)
      have Hr := Lib.hid (show casv zs a o u = zs.set a.toNat u by unfold casv; rw [if_pos Hc.out, stv_in i0])
      obtain rfl := hw
      go_enter Try.func30, Try.ntmps30
      go_wp2_with fail
      refine (has_any _ _ _).mono ?_
      rintro e w1 ⟨rfl, hB⟩
      rw [Hh.out]
      have g1 := (H.out.below hB).len
      have g2 := (H.out.below hB).row
      have g3 := (H.out.below hB).word a.toNat (by omega)
      have g4 := (H.out.below hB).free a.toNat
      have HB := Lib.hid hB
      clear hB h1 h2
      go_wp2_with fail
      refine (acas_hit _ _ _ _ g3 g4).mono ?_
      rintro e w2 ⟨rfl, rfl⟩
      go_wp2_with fail
      go_ret
      exact ⟨ret_bool Hc.out.symm, by rw [Hr.out]; exact (H.out.below HB.out).set _ _, gb_set (gb_below HB.out _) _ _⟩
    · have Hc := Lib.hid (show casb zs a o = false by unfold casb; rw [Hh.out, Hl.out]; simp [hw])
      have Hr := Lib.hid (show casv zs a o u = zs by unfold casv; rw [Hc.out]; rfl)
      have Hn := Lib.hid hw
      clear hw
      go_enter Try.func30, Try.ntmps30
      go_wp2_with fail
      refine (has_any _ _ _).mono ?_
      rintro e w1 ⟨rfl, hB⟩
      rw [Hh.out]
      have g1 := (H.out.below hB).len
      have g2 := (H.out.below hB).row
      have g3 := (H.out.below hB).word a.toNat (by omega)
      have g4 := (H.out.below hB).free a.toNat
      have HB := Lib.hid hB
      clear hB h1 h2
      go_wp2_with fail
      refine (acas_miss _ _ _ _ _ g3 g4 Hn.out).mono ?_
      rintro e w2 ⟨rfl, rfl⟩
      go_wp2_with fail
      go_ret
      exact ⟨ret_bool Hc.out.symm, by rw [Hr.out]; exact H.out.below HB.out, gb_below HB.out _⟩
  · have Hh := Lib.hid hh
    have Hc := Lib.hid (show casb zs a o = false by unfold casb; rw [hh]; rfl)
    have Hr := Lib.hid (show casv zs a o u = zs by unfold casv; rw [Hc.out]; rfl)
    clear hh
    go_enter Try.func30, Try.ntmps30
    go_wp2_with fail
    refine (has_any _ _ _).mono ?_
    rintro e w1 ⟨rfl, hB⟩
    rw [Hh.out]
    have HB := Lib.hid hB
    clear hB
    go_wp2_with fail
    go_ret
    exact ⟨ret_bool Hc.out.symm, by rw [Hr.out]; exact H.out.below HB.out, gb_below HB.out _⟩

theorem sadd_any (a d : Int) (b g : Nat) (zs : List Int) (w : World) (h : Sm w b g zs) :
    Calls Try.prog 31 #[.pointer (some ⟨b, 0, none⟩), .int .i64 a, .int .u64 d] w fun e w' => e = .returned (.int .u64 (addw zs a d)) ∧ Sm w' b g (addv zs a d) ∧ w.grownBy w' (some g) := by
  have h1 := h.len
  have h2 := h.row
  have H := Lib.hid h
  have hm := h.2.2
  clear h
  rcases hasv_cases zs.length a with ⟨i0, i1, hh⟩ | ⟨ho, hh⟩
  · have Hl := Lib.hid (show addw zs a d = IntKind.u64.wrap (wd zs a.toNat + d) by unfold addw; rw [if_pos hh, ldv_in i0])
    have Hr := Lib.hid (show addv zs a d = zs.set a.toNat (IntKind.u64.wrap (wd zs a.toNat + d)) by unfold addv; rw [Hl.out, stv_in i0])
    have Hh := Lib.hid hh
    clear hh
    go_enter Try.func31, Try.ntmps31
    go_wp2_with fail
    refine (has_any _ _ _).mono ?_
    rintro e w1 ⟨rfl, hB⟩
    rw [Hh.out]
    have g1 := (H.out.below hB).len
    have g2 := (H.out.below hB).row
    have g3 := (H.out.below hB).word a.toNat (by omega)
    have g4 := (H.out.below hB).free a.toNat
    have gn : g ≠ b := (H.out.below hB).ne.symm
    have HB := Lib.hid hB
    clear hB h1 h2
    go_wp2_with fail
    refine (aadd_any _ _ _ _ g3 g4).mono ?_
    rintro e w2 ⟨rfl, rfl⟩
    go_wp2_with fail
    go_ret
    exact ⟨ret_int Hl.out.symm, by rw [Hr.out]; exact (H.out.below HB.out).set _ _, gb_set (gb_below HB.out _) _ _⟩
  · have Hh := Lib.hid hh
    have Hl := Lib.hid (show addw zs a d = 0 by unfold addw; rw [hh]; rfl)
    have Hr := Lib.hid (show addv zs a d = zs by unfold addv; rw [stv_out ho])
    clear hh
    go_enter Try.func31, Try.ntmps31
    go_wp2_with fail
    refine (has_any _ _ _).mono ?_
    rintro e w1 ⟨rfl, hB⟩
    rw [Hh.out]
    have HB := Lib.hid hB
    clear hB
    go_wp2_with fail
    go_ret
    exact ⟨ret_int Hl.out.symm, by rw [Hr.out]; exact H.out.below HB.out, gb_below HB.out _⟩

theorem a64_info : (Try.prog.info? 93).map (fun i => (i.zero, i.size, i.bytes)) = some (some (.agg #[.int .u64 0]), 1, 8) := by kernel_rfl
theorem make_a64 (n : Nat) (hn : n ≤ 1048576) (w : World) :
    (Instr.makeSlice 49 (.int .i64 n) (.int .i64 n)).run Try.prog w = .ok (.slice (some ⟨w.heap.size, 0, none⟩) n n) (w.alloc (.cells (madeCells #[.int .u64 0] n) 93)) := by
  obtain ⟨i, hi, hz, hs, hb⟩ := info_parts a64_info
  have hb' : (i.bytes : Int) * (n : Int) ≤ 281474976710656 := by rw [hb]; omega
  have hr := run_make (P := Try.prog) w 49 93 i (.agg #[.int .u64 0]) Try.underlying49 hi hz .i64 .i64 n n (by omega) (Int.le_refl _) hb' (by omega)
  simp only [Int.toNat_natCast, hs, Nat.mul_one] at hr
  exact hr

theorem newShared_any (n : Int) (w : World) :
    Calls Try.prog 17 #[.int .i64 n] w fun e w' => ∃ b g, e = .returned (.pointer (some ⟨b, 0, none⟩)) ∧ Sm w' b g (List.replicate (memn n) 0) ∧ Below w.heap.size w w' ∧ w.heap.size ≤ b ∧ w.heap.size ≤ g := by
  have hl := memn_le n
  have hmk := make_a64 (memn n) hl
  go_enter Try.func17, Try.ntmps17
  go_wp2_with fail
  refine (newSize_any _ _).mono ?_
  rintro e w1 ⟨rfl, hB⟩
  go_wp2_with fail
  go_region
  go_wp2
  go_ret
  refine ⟨_, w1.heap.size + 1, rfl, ⟨?_, ?_, ?_⟩, (((hB.alloc hB.size _).alloc (by have := hB.size; simp; omega) _).alloc (by have := hB.size; simp; omega) _).drew, ?_, ?_⟩
  · rw [List.length_replicate]
    exact (Bk.new' _ _ [_, _] (by simp)).drew
  · rw [List.map_replicate]
    have e := Bk.new' (w1.alloc (Obj.cells #[Value.int IntKind.i64 ↑(memn n)] 46)) 93 (List.replicate (memn n) (.int .u64 0)) (g := w1.heap.size + 1) (by simp)
    rw [madeCells_one]
    exact (e.alloc _).drew
  · rw [List.length_replicate]; exact hl
  · have := hB.size; omega
  · have := hB.size; omega

set_option maxHeartbeats 800000 in
theorem shared_any (k a x y : Int) (b g : Nat) (zs : List Int) (w : World) (h : Sm w b g zs) :
    Calls Try.prog 18 #[.pointer (some ⟨b, 0, none⟩), .agg #[.int .i64 k, .int .i64 a, .int .u64 x, .int .u64 y]] w fun e w' => e = .returned (.tuple #[.int .u64 (actw zs k a x), .bool (actb zs k a x)]) ∧ Sm w' b g (actv zs k a x y) ∧ w.grownBy w' (some g) := by
  have hg : w.grownBy (w.alloc (.cells #[.int .i64 k, .int .i64 a, .int .u64 x, .int .u64 y] 30)) (some g) := World.grownBy_alloc _ _ _
  have h1 : Sm (w.alloc (.cells #[.int .i64 k, .int .i64 a, .int .u64 x, .int .u64 y] 30)) b g zs := h.below ((Below.refl _ _).alloc (Nat.le_refl _) _)
  have H := Lib.hid h1
  have G := Lib.hid hg
  clear h h1 hg
  by_cases e1 : k = 1
  · have Hv := Lib.hid (show actv zs k a x y = zs by unfold actv; rw [if_pos e1])
    have Hw := Lib.hid (show actw zs k a x = ldv zs a by unfold actw; rw [if_pos e1])
    have Hb := Lib.hid (show actb zs k a x = false by unfold actb; rw [if_neg (by omega)])
    have d1 : (k == 1) = true := by simp [e1]
    clear e1
    go_enter Try.func18, Try.ntmps18
    go_wp2_with fail
    refine (sload_any _ _ _ _ _ H.out).mono ?_
    rintro e w1 ⟨rfl, hB⟩
    have HB := Lib.hid hB
    clear hB
    go_wp2_with fail
    go_ret2
    exact ⟨ret_act Hw.out.symm Hb.out.symm, by rw [Hv.out]; exact H.out.below HB.out, gb_trans G.out (gb_below HB.out _)⟩
  have d1 : (k == 1) = false := by simp [e1]
  by_cases e2 : k = 2
  · have Hv := Lib.hid (show actv zs k a x y = stv zs a x by unfold actv; rw [if_neg e1, if_pos e2])
    have Hw := Lib.hid (show actw zs k a x = 0 by unfold actw; rw [if_neg e1, if_pos e2])
    have Hb := Lib.hid (show actb zs k a x = false by unfold actb; rw [if_neg (by omega)])
    have d2 : (k == 2) = true := by simp [e2]
    clear e1 e2
    go_enter Try.func18, Try.ntmps18
    go_wp2_with fail
    refine (sstore_any _ _ _ _ _ _ H.out).mono ?_
    rintro e w1 ⟨rfl, hP, hB⟩
    have HB := Lib.hid hB
    have HP := Lib.hid hP
    clear hB hP
    go_wp2_with fail
    go_ret2
    exact ⟨ret_act Hw.out.symm Hb.out.symm, by rw [Hv.out]; exact HP.out, gb_trans G.out HB.out⟩
  have d2 : (k == 2) = false := by simp [e2]
  by_cases e3 : k = 3
  · have Hv := Lib.hid (show actv zs k a x y = casv zs a x y by unfold actv; rw [if_neg e1, if_neg e2, if_pos e3])
    have Hw := Lib.hid (show actw zs k a x = 0 by unfold actw; rw [if_neg e1, if_neg e2, if_pos e3])
    have Hb := Lib.hid (show actb zs k a x = casb zs a x by unfold actb; rw [if_pos e3])
    have d3 : (k == 3) = true := by simp [e3]
    clear e1 e2 e3
    go_enter Try.func18, Try.ntmps18
    go_wp2_with fail
    refine (scas_any _ _ _ _ _ _ _ H.out).mono ?_
    rintro e w1 ⟨rfl, hP, hB⟩
    have HB := Lib.hid hB
    have HP := Lib.hid hP
    clear hB hP
    go_wp2_with fail
    go_ret2
    exact ⟨ret_act Hw.out.symm Hb.out.symm, by rw [Hv.out]; exact HP.out, gb_trans G.out HB.out⟩
  have d3 : (k == 3) = false := by simp [e3]
  have Hv := Lib.hid (show actv zs k a x y = addv zs a x by unfold actv; rw [if_neg e1, if_neg e2, if_neg e3])
  have Hw := Lib.hid (show actw zs k a x = addw zs a x by unfold actw; rw [if_neg e1, if_neg e2, if_neg e3])
  have Hb := Lib.hid (show actb zs k a x = false by unfold actb; rw [if_neg e3])
  clear e1 e2 e3
  go_enter Try.func18, Try.ntmps18
  go_wp2_with fail
  refine (sadd_any _ _ _ _ _ _ H.out).mono ?_
  rintro e w1 ⟨rfl, hP, hB⟩
  have HB := Lib.hid hB
  have HP := Lib.hid hP
  clear hB hP
  go_wp2_with fail
  go_ret2
  exact ⟨ret_act Hw.out.symm Hb.out.symm, by rw [Hv.out]; exact HP.out, gb_trans G.out HB.out⟩

theorem slen_any (b g : Nat) (zs : List Int) (w : World) (h : Sm w b g zs) :
    Calls Try.prog 19 #[.pointer (some ⟨b, 0, none⟩)] w fun e w' => e = .returned (.int .i64 zs.length) ∧ w' = w := by
  have h1 := h.len
  clear h
  go_enter Try.func19, Try.ntmps19
  go_wp2
  go_ret
  exact ⟨rfl, rfl⟩


end Go.Proofs.Ytmgoojmkflginaa
