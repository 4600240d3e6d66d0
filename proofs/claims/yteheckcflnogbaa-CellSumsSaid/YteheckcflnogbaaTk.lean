/-
  ticket.Take.Step, Board.Waits, Number: contracts, over a Plain. Written by wip/gen/mktk1.py.
-/
import Derived.Test.YteheckcflnogbaaMemJ
import Derived.Test.YteheckcflnogbaaMemAll
import Derived.Test.YteheckcflnogbaaGoto
import Derived.Test.YteheckcflnogbaaTake
import Derived.RegionTactic
import Derived.BigRegion
import Derived.Outline
import Derived.Deep.CutRange
import Derived.Deep.DeepCutAuto
namespace Go.Proofs.Yteheckcflnogbaa
open Go.RowKit

/-- What a take has come to. -/
structure TkS where
  new : Bool
  ended : Bool
  at' : Int
  taken : Bool
def Tk (w : World) (tb : Nat) (f c v : Int) (x : TkS) : Prop := Bk w tb 225 [.int .i64 f, .int .i64 c, .int .i64 v, .bool x.new, .bool x.ended, .int .i64 x.at', .bool x.taken]
/-- Its next Step. -/
def tkX (f c v : Int) (x : TkS) (zs : List Int) : TkS := if x.ended = true then x else if x.taken = true then ⟨x.new, true, x.at', x.taken⟩ else ⟨casb zs (f + v) 0, !(casb zs (f + v) 0), c, casb zs (f + v) 0⟩
def tkZ (f v : Int) (x : TkS) (zs : List Int) : List Int := if x.ended = true then zs else if x.taken = true then addv zs x.at' 1 else casv zs (f + v) 0 1
def tkB (f v : Int) (x : TkS) (zs : List Int) : Bool := if x.ended = true then true else if x.taken = true then true else !(casb zs (f + v) 0)
theorem Tk.cells {w : World} {tb : Nat} {f c v : Int} {x : TkS} (h : Tk w tb f c v x) : w.cell? ⟨tb, 0, none⟩ = some (.int .i64 f) ∧ w.cell? ⟨tb, 1, none⟩ = some (.int .i64 c) ∧ w.cell? ⟨tb, 2, none⟩ = some (.int .i64 v) ∧ w.cell? ⟨tb, 3, none⟩ = some (.bool x.new) ∧ w.cell? ⟨tb, 4, none⟩ = some (.bool x.ended) ∧ w.cell? ⟨tb, 5, none⟩ = some (.int .i64 x.at') ∧ w.cell? ⟨tb, 6, none⟩ = some (.bool x.taken) :=
  ⟨h.cell 0, h.cell 1, h.cell 2, h.cell 3, h.cell 4, h.cell 5, h.cell 6⟩
theorem Tk.fr {S : List Nat} {w w' : World} {tb : Nat} {f c v : Int} {x : TkS} (h : Tk w tb f c v x) (k : Fr S w w') (hb : tb ∉ S) : Tk w' tb f c v x := Bk.fr h k hb
theorem m_cas (a : Addr) (w : World) : (method 394 64 (.pointer (some a)) "CAS").run Try.prog w = .ok (226, .pointer (some a)) w := by kernel_rfl
theorem n_cas (a : Addr) (w : World) : (nilAhead 394 64 (.pointer (some a)) "CAS").run Try.prog w = .ok (some false) w := by kernel_rfl
theorem m_add (a : Addr) (w : World) : (method 394 64 (.pointer (some a)) "Add").run Try.prog w = .ok (225, .pointer (some a)) w := by kernel_rfl

set_option maxHeartbeats 3200000 in
set_option maxRecDepth 100000 in
theorem tadd_any (a d : Int) (b g : Nat) (zs : List Int) (w : World) (h : Pm w b g zs) :
    Calls Try.prog 177 #[.agg #[.int .i64 a], .iface 64 (.pointer (some ⟨b, 0, none⟩)), .int .u64 d] w fun e w' => (∃ r : Value, e = .returned r) ∧ Pm w' b g (addv zs a d) ∧ w.grownBy w' (some g) := by
  have HM := Lib.hid (h.below ((Below.refl _ _).alloc (Nat.le_refl _) (.cells #[.int .i64 a] 223)))
  have hm := m_add
  have hgl := h.2.1.lt
  clear h
  go_enter Try.func177, Try.ntmps177
  go_wp2_with fail
  refine (add_any a d b g zs _ HM.out).mono ?_
  rintro e w1 ⟨rfl, hP, hK⟩
  have HP := Lib.hid hP
  have HK := Lib.hid (gb_trans (gb_below ((Below.refl w.heap.size w).alloc (Nat.le_refl _) (.cells #[.int .i64 a] 223)) (some g)) hK)
  clear hP hK
  go_wp2_with fail
  go_ret
  exact ⟨⟨_, rfl⟩, HP.out, HK.out⟩

set_option maxHeartbeats 3200000 in
set_option maxRecDepth 100000 in
theorem tkstep_end (d f c v : Int) (tb b g : Nat) (x : TkS) (zs : List Int) (w : World) (h : Tk w tb f c v x) (hm : Pm w b g zs) (he : x.ended = true) :
    Calls Try.prog 150 #[.pointer (some ⟨tb, 0, none⟩), .iface 64 (.pointer (some ⟨b, 0, none⟩)), .int .i64 d] w fun e w' => e = .returned (.bool (tkB f v x zs)) ∧ Tk w' tb f c v (tkX f c v x zs) ∧ Pm w' b g (tkZ f v x zs) ∧ Fr [tb, g] w w' := by
  have HT := Lib.hid h
  have HM := Lib.hid hm
  obtain ⟨c0, c1, c2, c3, c4, c5, c6⟩ := h.cells
  have hne1 : tb ≠ g := Bk.ne h hm.2.1 (by decide)
  have hne2 : tb ≠ b := Bk.ne h hm.1 (by decide)
  have f4 := Bk.free h 4
  clear h hm
  obtain ⟨xn, xe, xa, xt⟩ := x
  dsimp only at *

  subst he
  go_enter Try.func150, Try.ntmps150
  go_wp2_with fail
  refine wp_scope_via 1 ?_
  go_wp2_with fail
  first | rw [via_ret] | skip
  go_ret
  exact ⟨rfl, HT.out, HM.out, Fr.refl _ _⟩

set_option maxHeartbeats 3200000 in
set_option maxRecDepth 100000 in
theorem tkstep_waits (d f c v : Int) (tb b g : Nat) (x : TkS) (zs : List Int) (w : World) (h : Tk w tb f c v x) (hm : Pm w b g zs) (he : x.ended = false) (ht : x.taken = true) :
    Calls Try.prog 150 #[.pointer (some ⟨tb, 0, none⟩), .iface 64 (.pointer (some ⟨b, 0, none⟩)), .int .i64 d] w fun e w' => e = .returned (.bool (tkB f v x zs)) ∧ Tk w' tb f c v (tkX f c v x zs) ∧ Pm w' b g (tkZ f v x zs) ∧ Fr [tb, g] w w' := by
  have HT := Lib.hid h
  have HM := Lib.hid hm
  obtain ⟨c0, c1, c2, c3, c4, c5, c6⟩ := h.cells
  have hne1 : tb ≠ g := Bk.ne h hm.2.1 (by decide)
  have hne2 : tb ≠ b := Bk.ne h hm.1 (by decide)
  have f4 := Bk.free h 4
  clear h hm
  obtain ⟨xn, xe, xa, xt⟩ := x
  dsimp only at *

  subst he ht
  go_enter Try.func150, Try.ntmps150
  go_wp2_with fail
  refine wp_scope_via 1 ?_
  go_wp2_with fail
  refine (or_some _ _ _).mono ?_
  rintro e w1 ⟨rfl, hww⟩
  subst w1
  go_wp2_with fail
  go_step3
  refine ⟨_, rfl, ?_⟩
  go_wp2_with fail
  refine (tadd_any xa 1 b g zs _ HM.out).mono ?_
  rintro e w2 ⟨⟨r, rfl⟩, hP, hK⟩
  have HP := Lib.hid hP
  have HF := Lib.hid (show Fr [g] w w2 from .gb hK (by simp))
  have HT2 := Lib.hid (HT.out.fr HF.out (by simp; exact hne1))
  obtain ⟨b0, b1, b2, b3, b4, b5, b6⟩ := HT2.out.cells
  have g4 := Bk.free HT2.out 4
  clear hP hK c0 c1 c2 c3 c4 c5 c6 f4
  dsimp only at b4
  have HFIN := Lib.hid (show Tk (w2.setCell ⟨tb, 4, none⟩ (.bool true)) tb f c v ⟨xn, true, xa, true⟩ ∧ Pm (w2.setCell ⟨tb, 4, none⟩ (.bool true)) b g (addv zs xa 1) ∧ Fr [tb, g] w (w2.setCell ⟨tb, 4, none⟩ (.bool true)) from by
    have f2 : Fr [tb] w2 (w2.setCell ⟨tb, 4, none⟩ (.bool true)) := (Fr.refl _ _).set (by simp) _
    exact ⟨by simpa [Tk] using Bk.set HT2.out 4 (.bool true), ⟨HP.out.1.fr f2 (by simp; exact fun e => hne2 e.symm), HP.out.2.1.fr f2 (by simp; exact fun e => hne1 e.symm), HP.out.2.2⟩, (HF.out.mono (by simp)).trans (f2.mono (by simp))⟩)
  go_wp2_with fail
  go_step3
  refine (‹∀ (a : Act) (w : World), _ → _› _ _ ?_)
  go_wp2_with fail
  first | rw [via_ret] | skip
  go_ret
  exact ⟨rfl, HFIN.out⟩

set_option maxHeartbeats 3200000 in
set_option maxRecDepth 100000 in
theorem tkstep_try (d f c v : Int) (tb b g : Nat) (x : TkS) (zs : List Int) (w : World) (h : Tk w tb f c v x) (hm : Pm w b g zs) (he : x.ended = false) (ht : x.taken = false) (hf : 0 ≤ f ∧ f ≤ 1000) (hv : 0 ≤ v ∧ v ≤ 1000) :
    Calls Try.prog 150 #[.pointer (some ⟨tb, 0, none⟩), .iface 64 (.pointer (some ⟨b, 0, none⟩)), .int .i64 d] w fun e w' => e = .returned (.bool (tkB f v x zs)) ∧ Tk w' tb f c v (tkX f c v x zs) ∧ Pm w' b g (tkZ f v x zs) ∧ Fr [tb, g] w w' := by
  have HT := Lib.hid h
  have HM := Lib.hid hm
  obtain ⟨c0, c1, c2, c3, c4, c5, c6⟩ := h.cells
  have hne1 : tb ≠ g := Bk.ne h hm.2.1 (by decide)
  have hne2 : tb ≠ b := Bk.ne h hm.1 (by decide)
  have f4 := Bk.free h 4
  clear h hm
  obtain ⟨xn, xe, xa, xt⟩ := x
  dsimp only at *

  subst he ht
  have hm := m_cas
  have hnc := n_cas
  obtain ⟨hf0, hf1⟩ := hf
  obtain ⟨hv0, hv1⟩ := hv
  go_enter Try.func150, Try.ntmps150
  go_wp2_with fail
  refine wp_scope_via 1 ?_
  go_wp2_with fail
  refine (or_some _ _ _).mono ?_
  rintro e w1 ⟨rfl, hww⟩
  subst w1
  have hsum : IntKind.i64.wrap (f + v) = f + v := IntWalk.i64_in _ (by omega)
  go_wp2_with fail
  refine wp_region_held_drew (S := (fun w' => w'.cell? ⟨tb, 0, none⟩ = some (.int .i64 f) ∧ w'.cell? ⟨tb, 2, none⟩ = some (.int .i64 v))) (by kernel_rfl) ?_ (fun hHeld => ?_)
  · exact ⟨c0, c2⟩
  refine take_at 0 (v := ?_) (some 21) rfl rfl (by kernel_rfl) (by kernel_rfl) (by kernel_rfl) (fun _ _ _ h => h) (Or.inl ⟨by rfl, ?_⟩) hHeld ?_
  rotate_left
  · (intro w hSw; (try dsimp only at hSw); go_simp; (try with_reducible rfl))
  simp only [Act.put, List.setIfInBounds_toArray, List.set_cons_zero, List.set_cons_succ]
  refine take_at 1 (v := ?_) (some 22) rfl rfl (by kernel_rfl) (by kernel_rfl) (by kernel_rfl) (fun _ _ _ h => h) (Or.inl ⟨by rfl, ?_⟩) hHeld ?_
  rotate_left
  · (intro w hSw; (try dsimp only at hSw); go_simp; (try with_reducible rfl))
  simp only [Act.put, List.setIfInBounds_toArray, List.set_cons_zero, List.set_cons_succ]
  refine take_at 2 (v := ?_) (some 23) rfl rfl (by kernel_rfl) (by kernel_rfl) (by kernel_rfl) (fun _ _ _ h => h) (Or.inl ⟨by rfl, ?_⟩) hHeld ?_
  rotate_left
  · (intro w hSw; (try dsimp only at hSw); go_simp; (try with_reducible rfl))
  simp only [Act.put, List.setIfInBounds_toArray, List.set_cons_zero, List.set_cons_succ]
  refine take_at 3 (v := ?_) (some 24) rfl rfl (by kernel_rfl) (by kernel_rfl) (by kernel_rfl) (fun _ _ _ h => h) (Or.inl ⟨by rfl, ?_⟩) hHeld ?_
  rotate_left
  · (intro w hSw; (try dsimp only at hSw); go_simp; (try with_reducible rfl))
  simp only [Act.put, List.setIfInBounds_toArray, List.set_cons_zero, List.set_cons_succ]
  refine take_at 4 (v := ?_) (some 25) rfl rfl (by kernel_rfl) (by kernel_rfl) (by kernel_rfl) (fun _ _ _ h => h) (Or.inl ⟨by rfl, ?_⟩) hHeld ?_
  rotate_left
  · (intro w hSw; (try dsimp only at hSw); go_simp; (try with_reducible rfl))
  simp only [Act.put, List.setIfInBounds_toArray, List.set_cons_zero, List.set_cons_succ]
  refine take_at 5 (v := ?_) (some 26) rfl rfl (by kernel_rfl) (by kernel_rfl) (by kernel_rfl) (fun _ _ _ h => h) (Or.inl ⟨by rfl, ?_⟩) hHeld ?_
  rotate_left
  · (intro w hSw; (try dsimp only at hSw); go_simp; (try with_reducible rfl))
  simp only [Act.put, List.setIfInBounds_toArray, List.set_cons_zero, List.set_cons_succ]
  refine take_at 6 (v := ?_) (some 27) rfl rfl (by kernel_rfl) (by kernel_rfl) (by kernel_rfl) (fun _ _ _ h => h) (Or.inl ⟨by rfl, ?_⟩) hHeld ?_
  rotate_left
  · (intro w hSw; (try dsimp only at hSw); go_simp; (try with_reducible rfl))
  simp only [Act.put, List.setIfInBounds_toArray, List.set_cons_zero, List.set_cons_succ]
  refine take_at 7 (v := ?_) (some 28) rfl rfl (by kernel_rfl) (by kernel_rfl) (by kernel_rfl) (fun _ _ _ h => h) (Or.inl ⟨by rfl, ?_⟩) hHeld ?_
  rotate_left
  · (intro w hSw; (try dsimp only at hSw); go_simp; (try with_reducible rfl))
  simp only [Act.put, List.setIfInBounds_toArray, List.set_cons_zero, List.set_cons_succ]
  refine take_at 8 (v := ?_) (some 29) rfl rfl (by kernel_rfl) (by kernel_rfl) (by kernel_rfl) (fun _ _ _ h => h) (Or.inl ⟨by rfl, ?_⟩) hHeld ?_
  rotate_left
  · (intro w hSw; (try dsimp only at hSw); go_simp; (try with_reducible rfl))
  simp only [Act.put, List.setIfInBounds_toArray, List.set_cons_zero, List.set_cons_succ]
  refine take_at 9 (v := ?_) (some 30) rfl rfl (by kernel_rfl) (by kernel_rfl) (by kernel_rfl) (fun _ _ _ h => h) (Or.inl ⟨by rfl, ?_⟩) hHeld ?_
  rotate_left
  · (intro w hSw; (try dsimp only at hSw); go_simp; (try with_reducible rfl))
  simp only [Act.put, List.setIfInBounds_toArray, List.set_cons_zero, List.set_cons_succ]
  refine take_at 10 (v := ?_) (some 31) rfl rfl (by kernel_rfl) (by kernel_rfl) (by kernel_rfl) (fun _ _ _ h => h) (Or.inl ⟨by rfl, ?_⟩) hHeld ?_
  rotate_left
  · (intro w hSw; (try dsimp only at hSw); go_simp; (try with_reducible rfl))
  simp only [Act.put, List.setIfInBounds_toArray, List.set_cons_zero, List.set_cons_succ]
  refine take_at 11 (v := ?_) (some 32) rfl rfl (by kernel_rfl) (by kernel_rfl) (by kernel_rfl) (fun _ _ _ h => h) (Or.inl ⟨by rfl, ?_⟩) hHeld ?_
  rotate_left
  · (intro w hSw; (try dsimp only at hSw); go_simp; (try with_reducible rfl))
  simp only [Act.put, List.setIfInBounds_toArray, List.set_cons_zero, List.set_cons_succ]
  refine take_at 12 (v := ?_) (some 33) rfl rfl (by kernel_rfl) (by kernel_rfl) (by kernel_rfl) (fun _ _ _ h => h) (Or.inl ⟨by rfl, ?_⟩) hHeld ?_
  rotate_left
  · (intro w hSw; (try dsimp only at hSw); go_simp; (try with_reducible rfl))
  simp only [Act.put, List.setIfInBounds_toArray, List.set_cons_zero, List.set_cons_succ]
  refine take_at 13 (v := ?_) (some 34) rfl rfl (by kernel_rfl) (by kernel_rfl) (by kernel_rfl) (fun _ _ _ h => h) (Or.inl ⟨by rfl, ?_⟩) hHeld ?_
  rotate_left
  · (intro w hSw; (try dsimp only at hSw); go_simp; (try with_reducible rfl))
  simp only [Act.put, List.setIfInBounds_toArray, List.set_cons_zero, List.set_cons_succ]
  refine take_at 14 (v := ?_) (some 35) rfl rfl (by kernel_rfl) (by kernel_rfl) (by kernel_rfl) (fun _ _ _ h => h) (Or.inl ⟨by rfl, ?_⟩) hHeld ?_
  rotate_left
  · (intro w hSw; (try dsimp only at hSw); go_simp; (try with_reducible rfl))
  simp only [Act.put, List.setIfInBounds_toArray, List.set_cons_zero, List.set_cons_succ]
  refine take_at 15 (v := ?_) (some 36) rfl rfl (by kernel_rfl) (by kernel_rfl) (by kernel_rfl) (fun _ _ _ h => h) (Or.inl ⟨by rfl, ?_⟩) hHeld ?_
  rotate_left
  · (intro w hSw; (try dsimp only at hSw); go_simp; (try with_reducible rfl))
  simp only [Act.put, List.setIfInBounds_toArray, List.set_cons_zero, List.set_cons_succ]
  refine take_at 16 (v := ?_) (some 37) rfl rfl (by kernel_rfl) (by kernel_rfl) (by kernel_rfl) (fun _ _ _ h => h) (Or.inl ⟨by rfl, ?_⟩) hHeld ?_
  rotate_left
  · (intro w hSw; (try dsimp only at hSw); go_simp; (try with_reducible rfl))
  simp only [Act.put, List.setIfInBounds_toArray, List.set_cons_zero, List.set_cons_succ]
  refine take_at 17 (v := ?_) (some 38) rfl rfl (by kernel_rfl) (by kernel_rfl) (by kernel_rfl) (fun _ _ _ h => h) (Or.inl ⟨by rfl, ?_⟩) hHeld ?_
  rotate_left
  · (intro w hSw; (try dsimp only at hSw); go_simp; (try with_reducible rfl))
  simp only [Act.put, List.setIfInBounds_toArray, List.set_cons_zero, List.set_cons_succ]
  refine take_at 18 (v := ?_) (some 39) rfl rfl (by kernel_rfl) (by kernel_rfl) (by kernel_rfl) (fun _ _ _ h => h) (Or.inl ⟨by rfl, ?_⟩) hHeld ?_
  rotate_left
  · (intro w hSw; (try dsimp only at hSw); go_simp; (try with_reducible rfl))
  simp only [Act.put, List.setIfInBounds_toArray, List.set_cons_zero, List.set_cons_succ]
  refine take_at 19 (v := ?_) (some 40) rfl rfl (by kernel_rfl) (by kernel_rfl) (by kernel_rfl) (fun _ _ _ h => h) (Or.inl ⟨by rfl, ?_⟩) hHeld ?_
  rotate_left
  · (intro w hSw; (try dsimp only at hSw); go_simp; (try with_reducible rfl))
  simp only [Act.put, List.setIfInBounds_toArray, List.set_cons_zero, List.set_cons_succ]
  refine take_at 20 (v := ?_) (some 41) rfl rfl (by kernel_rfl) (by kernel_rfl) (by kernel_rfl) (fun _ _ _ h => h) (Or.inl ⟨by rfl, ?_⟩) hHeld ?_
  rotate_left
  · (intro w hSw; (try dsimp only at hSw); go_simp; (try with_reducible rfl))
  simp only [Act.put, List.setIfInBounds_toArray, List.set_cons_zero, List.set_cons_succ]
  refine wpAnyH_ready (rs := [21]) (by kernel_rfl) (by simp) ?_
  refine AllReadyH.cons rfl (fun K hK => ?_) AllReadyH.nil
  go_simp
  refine (cas_any (f + v) 0 1 b g zs _ (show Pm w.drew b g zs from HM.out)).mono ?_; rintro e v1 ⟨rfl, hP, hK⟩; have HP := Lib.hid hP; have HF1 := Lib.hid (show Fr [g] w.drew v1 from .gb hK (by simp)); clear hP hK
  go_wp2_with fail
  refine hK.out _ _ ?_ (fun hHeld => ?_)
  · (try dsimp only at hHeld ⊢)
    go_split_ands
    exact ⟨cell_fr (by assumption) HF1.out (by simp; exact hne1), cell_fr (by assumption) HF1.out (by simp; exact hne1)⟩
  clear hK K
  try simp only [Act.put, List.setIfInBounds_toArray, List.set_cons_zero, List.set_cons_succ]
  refine take_at 22 (v := ?_) (some 43) rfl rfl (by kernel_rfl) (by kernel_rfl) (by kernel_rfl) (fun _ _ _ h => h) (Or.inl ⟨by rfl, ?_⟩) hHeld ?_
  rotate_left
  · (intro w hSw; (try dsimp only at hSw); go_simp; (try with_reducible rfl))
  simp only [Act.put, List.setIfInBounds_toArray, List.set_cons_zero, List.set_cons_succ]
  refine take_at 23 (v := ?_) (some 44) rfl rfl (by kernel_rfl) (by kernel_rfl) (by kernel_rfl) (fun _ _ _ h => h) (Or.inl ⟨by rfl, ?_⟩) hHeld ?_
  rotate_left
  · (intro w hSw; (try dsimp only at hSw); go_simp; (try with_reducible rfl))
  simp only [Act.put, List.setIfInBounds_toArray, List.set_cons_zero, List.set_cons_succ]
  refine take_at 24 (v := ?_) (some 45) rfl rfl (by kernel_rfl) (by kernel_rfl) (by kernel_rfl) (fun _ _ _ h => h) (Or.inl ⟨by rfl, ?_⟩) hHeld ?_
  rotate_left
  · (intro w hSw; (try dsimp only at hSw); go_simp; (try with_reducible rfl))
  simp only [Act.put, List.setIfInBounds_toArray, List.set_cons_zero, List.set_cons_succ]

  clear hsum
  have F1 := Lib.hid (show Fr [g] w v1 from ((Fr.refl _ w).drew).trans HF1.out)
  have HT1 := Lib.hid (HT.out.fr F1.out (by simp; exact hne1))
  obtain ⟨b0, b1, b2, b3, b4, b5, b6⟩ := HT1.out.cells
  have g6 := Bk.free HT1.out 6
  dsimp only at b6
  obtain ⟨q, hq⟩ : ∃ q, q = casb zs (f + v) 0 := ⟨_, rfl⟩
  obtain ⟨zz, hzz⟩ : ∃ z, z = casv zs (f + v) 0 1 := ⟨_, rfl⟩
  have HQ := Lib.hid hq
  have HZZ := Lib.hid hzz
  rw [← hzz] at HP
  rw [← hq]
  clear hq hzz
  refine wpAnyH_ready (rs := [25]) (by kernel_rfl) (by simp) ?_
  refine AllReadyH.cons rfl (fun K hK => ?_) AllReadyH.nil
  go_simp
  refine hK.out _ _ ?_ (fun hHeld => ?_)
  · (try dsimp only at hHeld ⊢)
    exact ⟨set_other b0 (.inr (by simp)), set_other b2 (.inr (by simp))⟩
  clear hK K hHeld
  try simp only [Act.put, List.setIfInBounds_toArray, List.set_cons_zero, List.set_cons_succ]
  refine wpAnyH_done (by kernel_rfl) ?_ _
  go_wp2_with fail
  refine wp_gen (fun W => Tk W tb f c v ⟨xn, false, xa, q⟩ ∧ Pm W b g zz ∧ Fr [tb, g] w W) ?_ ?_
  · have f2 : Fr [tb] v1 (v1.setCell ⟨tb, 6, none⟩ (.bool q)) := (Fr.refl _ _).set (by simp) _
    exact ⟨by simpa [Tk] using Bk.set HT1.out 6 (.bool q), ⟨HP.out.1.fr f2 (by simp; exact fun e => hne2 e.symm), HP.out.2.1.fr f2 (by simp; exact fun e => hne1 e.symm), HP.out.2.2⟩, (F1.out.mono (by simp)).trans (f2.mono (by simp))⟩
  intro W ⟨hT, hP, hF⟩
  clear b0 b1 b2 b3 b4 b5 b6 g6 c0 c1 c2 c3 c4 c5 c6 f4 hHeld
  have HTW := Lib.hid hT
  have HPW := Lib.hid hP
  have HFW := Lib.hid hF
  obtain ⟨b0, b1, b2, b3, b4, b5, b6⟩ := hT.cells
  have g3 := Bk.free hT 3
  have g5 := Bk.free hT 5
  dsimp only at b3 b5 b6
  clear hT hP hF
  go_region
  all_goals
    go_upto_region 7 with (fail)
    refine wp_gen (fun W' => Tk W' tb f c v ⟨q, false, c, q⟩ ∧ Pm W' b g zz ∧ Fr [tb, g] w W') ?_ ?_
    · have k1 : Tk ((W.setCell ⟨tb, 3, none⟩ (.bool q)).setCell ⟨tb, 5, none⟩ (.int .i64 c)).drew tb f c v ⟨q, false, c, q⟩ := by simpa [Tk] using (Bk.set (Bk.set HTW.out 3 (.bool q)) 5 (.int .i64 c)).drew
      have k2 : Tk ((W.setCell ⟨tb, 5, none⟩ (.int .i64 c)).setCell ⟨tb, 3, none⟩ (.bool q)).drew tb f c v ⟨q, false, c, q⟩ := by simpa [Tk] using (Bk.set (Bk.set HTW.out 5 (.int .i64 c)) 3 (.bool q)).drew
      have f1 : Fr [tb] W ((W.setCell ⟨tb, 3, none⟩ (.bool q)).setCell ⟨tb, 5, none⟩ (.int .i64 c)).drew := (((Fr.refl _ _).set (by simp) _).set (by simp) _).drew
      have f2 : Fr [tb] W ((W.setCell ⟨tb, 5, none⟩ (.int .i64 c)).setCell ⟨tb, 3, none⟩ (.bool q)).drew := (((Fr.refl _ _).set (by simp) _).set (by simp) _).drew
      first
      | exact ⟨k1, ⟨HPW.out.1.fr f1 (by simp; exact fun e => hne2 e.symm), HPW.out.2.1.fr f1 (by simp; exact fun e => hne1 e.symm), HPW.out.2.2⟩, HFW.out.trans (f1.mono (by simp))⟩
      | exact ⟨k2, ⟨HPW.out.1.fr f2 (by simp; exact fun e => hne2 e.symm), HPW.out.2.1.fr f2 (by simp; exact fun e => hne1 e.symm), HPW.out.2.2⟩, HFW.out.trans (f2.mono (by simp))⟩
    intro W2 ⟨hT, hP, hF⟩
    clear b0 b1 b2 b3 b4 b5 b6 g3 g5
    have HT2 := Lib.hid hT
    have HP2 := Lib.hid hP
    have HF2 := Lib.hid hF
    obtain ⟨d0, d1, d2, d3, d4, d5, d6⟩ := hT.cells
    have g4 := Bk.free hT 4
    dsimp only at d4 d6
    clear hT hP hF
    have HFIN := Lib.hid (show Tk (W2.setCell ⟨tb, 4, none⟩ (.bool true)) tb f c v ⟨q, true, c, q⟩ ∧ Pm (W2.setCell ⟨tb, 4, none⟩ (.bool true)) b g zz ∧ Fr [tb, g] w (W2.setCell ⟨tb, 4, none⟩ (.bool true)) from by
      have f2 : Fr [tb] W2 (W2.setCell ⟨tb, 4, none⟩ (.bool true)) := (Fr.refl _ _).set (by simp) _
      exact ⟨by simpa [Tk] using Bk.set HT2.out 4 (.bool true), ⟨HP2.out.1.fr f2 (by simp; exact fun e => hne2 e.symm), HP2.out.2.1.fr f2 (by simp; exact fun e => hne1 e.symm), HP2.out.2.2⟩, HF2.out.trans (f2.mono (by simp))⟩)
    cases q with
    | true =>
      have HX := Lib.hid (show tkX f c v ⟨xn, false, xa, false⟩ zs = ⟨true, false, c, true⟩ by unfold tkX; simp [← HQ.out])
      have HB := Lib.hid (show tkB f v ⟨xn, false, xa, false⟩ zs = false by unfold tkB; simp [← HQ.out])
      have HZ := Lib.hid (show tkZ f v ⟨xn, false, xa, false⟩ zs = zz by unfold tkZ; simp [HZZ.out])
      go_wp2_with fail
      first | rw [via_ret] | skip
      exact bodyPost_ret (v := .bool false) (by simp [results, Try.results150, go_sem]) rfl ⟨by rw [HB.out], by rw [HX.out]; exact HT2.out, by rw [HZ.out]; exact HP2.out, HF2.out⟩
    | false =>
      go_wp2_with fail
      go_step3
      refine ⟨_, rfl, ?_⟩
      go_wp2_with fail
      first | rw [via_ret] | skip
      go_ret
      have hx : tkX f c v ⟨xn, false, xa, false⟩ zs = ⟨false, true, c, false⟩ := by unfold tkX; simp [← HQ.out]
      have hb : tkB f v ⟨xn, false, xa, false⟩ zs = true := by unfold tkB; simp [← HQ.out]
      have hz : tkZ f v ⟨xn, false, xa, false⟩ zs = zz := by unfold tkZ; simp [HZZ.out]
      exact ⟨by rw [hb]; rfl, by rw [hx]; exact HFIN.out.1, by rw [hz]; exact HFIN.out.2.1, HFIN.out.2.2⟩


end Go.Proofs.Yteheckcflnogbaa
