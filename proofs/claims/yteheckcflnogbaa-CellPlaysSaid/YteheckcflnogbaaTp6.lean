/-
  begin at any kind; move of a struct that was read; Waits below 0; many machines; a reader of []uint8. Written by wip/gen/mktp6.py.
-/
import Derived.Test.YteheckcflnogbaaTp5
import Derived.Test.YteheckcflnogbaaIntsIn
import Derived.Test.YteheckcflnogbaaRec5
import Derived.Test.YteheckcflnogbaaUs
import Derived.Test.YteheckcflnogbaaMemAll
namespace Go.Proofs.Yteheckcflnogbaa
open Go.RowKit

def ops0 (k v : Int) : OpS := ⟨k, v, 0, false, false, false, 0⟩

set_option maxHeartbeats 3200000 in
set_option maxRecDepth 100000 in
theorem begin_any (k v : Int) (w : World) :
    Calls Try.prog 90 #[.agg #[.int .i64 k, .int .i64 v], .agg #[.int .i64 1, .int .i64 6]] w fun e w' => ∃ u0 u1 u2 u3 u4, e = .returned (.agg #[u0, u1, u2, u3, u4]) ∧ Hid (opc k (w.heap.size + 5) (w.heap.size + 3) = [u0, u1, u2, u3, u4]) ∧ pbk w' (w.heap.size + 5) (ops0 k v) ∧ RB w' (w.heap.size + 3) 1 6 (ops0 k v) ∧ Below w.heap.size w w' := by
  unfold pbk ops0
  by_cases k1 : k = 1
  · subst k1
    refine (begin1 v w).mono ?_
    rintro e w' ⟨rfl, h1, h2, h3⟩
    exact ⟨_, _, _, _, _, rfl, Lib.hid rfl, h1, h2, h3⟩
  by_cases k2 : k = 2
  · subst k2
    refine (begin2 v w).mono ?_
    rintro e w' ⟨rfl, h1, h2, h3⟩
    exact ⟨_, _, _, _, _, rfl, Lib.hid rfl, h1, h2, h3⟩
  by_cases k3 : k = 3
  · subst k3
    refine (begin3 v w).mono ?_
    rintro e w' ⟨rfl, h1, h2, h3⟩
    exact ⟨_, _, _, _, _, rfl, Lib.hid rfl, h1, h2, h3⟩
  refine (begin4 k v w k1 k2 k3).mono ?_
  rintro e w' ⟨rfl, h1, h2, h3⟩
  refine ⟨_, _, _, _, _, rfl, Lib.hid ?_, ?_, h2, h3⟩
  · unfold opc ptr; rw [if_neg k1, if_neg k2, if_neg k3, if_neg (fun h => h.elim k1 (fun h => h.elim k2 k3))]
  · simp only [if_neg k1, if_neg k2, if_neg k3]; exact h1

set_option maxHeartbeats 3200000 in
set_option maxRecDepth 100000 in
theorem move_u (u0 u1 u2 u3 u4 : Value) (x : OpS) (pb rb b g bw gw : Nat) (zs : List Int) (w : World) (hu : opc x.k pb rb = [u0, u1, u2, u3, u4]) (hok : OkS x) (hz : w64 zs) (hp : pbk w pb x) (hr : RB w rb 1 6 x) (hm : Pm w b g zs) (hw : Rm w bw gw zs) (hgg : g ≠ gw) :
    Calls Try.prog 91 #[.agg #[u0, u1, u2, u3, u4], .pointer (some ⟨b, 0, none⟩), .pointer (some ⟨bw, 0, none⟩)] w fun e w' => e = .returned (.bool true) ∧ pbk w' pb (opX (adr x.v) 6 x zs) ∧ RB w' rb 1 6 (opX (adr x.v) 6 x zs) ∧ Pm w' b g (opZ (adr x.v) 6 x zs) ∧ Rm w' bw gw (opZ (adr x.v) 6 x zs) ∧ Fr [pb, rb, g, gw] w w' := by
  have := move_any x pb rb b g bw gw zs w hok hz hp hr hm hw hgg
  rw [hu] at this
  exact this

set_option maxHeartbeats 3200000 in
set_option maxRecDepth 100000 in
theorem waits_neg (f c v : Int) (m : Value) (w : World) (hv : v < 0) :
    Calls Try.prog 93 #[.agg #[.int .i64 f, .int .i64 c], m, .int .i64 v] w fun e w' => e = .returned (.bool false) ∧ Below w.heap.size w w' := by
  have hvd : decide (0 ≤ v) = false := by simp; omega
  have B0 := Lib.hid ((Below.refl w.heap.size w).alloc (Nat.le_refl _) (.cells #[.int .i64 f, .int .i64 c] 145))
  go_enter Try.func93, Try.ntmps93
  go_wp2_with fail
  go_quiet (fail)
  go_wp2_with fail
  go_ret
  exact ⟨rfl, by first | exact B0.out | exact bel_drewN B0.out _⟩

/-- A machine in the law's list: its state, its block, the reference's. -/
structure OpE where
  x : OpS
  pb : Nat
  rb : Nat
def ope0 : OpE := ⟨ops0 0 0, 0, 0⟩
def opAt (L : List OpE) (i : Nat) : OpE := L[i]?.getD ope0
theorem opAt_mem {L : List OpE} {i : Nat} (h : i < L.length) : opAt L i ∈ L := by unfold opAt; rw [List.getElem?_eq_getElem h]; exact List.getElem_mem h
def opsC (L : List OpE) : List Value := L.flatMap fun e => opc e.x.k e.pb e.rb
theorem opsC_len (L : List OpE) : (opsC L).length = L.length * 5 := by
  induction L with
  | nil => rfl
  | cons p L ih => simp only [opsC, List.flatMap_cons, List.length_append, List.length_cons, List.length_nil, opc] at ih ⊢; omega
theorem opsC_at (L : List OpE) : ∀ i, i < L.length → ∀ j, j < 5 → (opsC L)[i * 5 + j]? = (opc (opAt L i).x.k (opAt L i).pb (opAt L i).rb)[j]? := by
  induction L with
  | nil => intro i h; simp at h
  | cons p L ih =>
    intro i h j hj
    cases i with
    | zero =>
      show ((opc p.x.k p.pb p.rb) ++ opsC L)[0 * 5 + j]? = _
      rw [List.getElem?_append_left (by simp [opc]; omega)]
      simp [opAt]
    | succ i =>
      have := ih i (by simpa using h) j hj
      show ((opc p.x.k p.pb p.rb) ++ opsC L)[(i + 1) * 5 + j]? = _
      rw [List.getElem?_append_right (by simp [opc]; omega), show (i + 1) * 5 + j - (opc p.x.k p.pb p.rb).length = i * 5 + j by simp [opc]; omega, this]
      simp [opAt]
theorem opsC_snoc (L : List OpE) (e : OpE) : opsC (L ++ [e]) = opsC L ++ opc e.x.k e.pb e.rb := by unfold opsC; rw [List.flatMap_append]; simp
theorem opc_one (k : Int) (pb rb : Nat) : ∀ u ∈ opc k pb rb, u.oneCell' = true := by
  intro u hu
  simp only [opc, ptr, List.mem_cons, List.not_mem_nil, or_false] at hu
  rcases hu with rfl | rfl | rfl | rfl | rfl <;> (try split) <;> rfl
theorem opsC_set (L : List OpE) (i : Nat) (y : OpS) (h : i < L.length) (hy : y.k = (opAt L i).x.k) : opsC (L.set i ⟨y, (opAt L i).pb, (opAt L i).rb⟩) = opsC L := by
  induction L generalizing i with
  | nil => rfl
  | cons p L ih =>
    cases i with
    | zero => simp [opAt] at hy; simp [opsC, opAt, hy]
    | succ i =>
      have := ih i (by simpa using h) (by simpa [opAt] using hy)
      simp only [List.set_cons_succ]
      show opc p.x.k p.pb p.rb ++ opsC (L.set i ⟨y, (opAt L i).pb, (opAt L i).rb⟩) = opc p.x.k p.pb p.rb ++ opsC L
      rw [this]
theorem pbk_ne {w : World} {pb g : Nat} {x : OpS} {t : TypeId} {cs : List Value} (h : pbk w pb x) (hb : Bk w g t cs) (ht : t ∉ [225, 229, 231, 233]) : pb ≠ g := by
  obtain ⟨t', cs', h1, h2⟩ := pbk_bk h
  exact Bk.ne h1 hb (fun e => ht (e ▸ h2))
theorem own_pbk {w : World} {base : Nat} {v : Value} {n pb : Nat} {xs : List Value} {x : OpS} (h : w.ownsRow base 153 5 v n xs) (hb : pbk w pb x) : pb ∉ rowB v := by
  obtain ⟨t', cs', h1, h2⟩ := pbk_bk hb
  exact own_ne h h1 (fun e => by rw [e] at h2; exact absurd h2 (by decide))
/-- All of it. -/
structure TpI (W w : World) (b g bw gw : Nat) (zs : List Int) (L : List OpE) : Prop where
  pm : Pm w b g zs
  rm : Rm w bw gw zs
  big : w64 zs
  len : zs.length = 8
  ne : g ≠ gw
  at' : W.heap.size ≤ b ∧ W.heap.size ≤ g ∧ W.heap.size ≤ bw ∧ W.heap.size ≤ gw
  el : ∀ e ∈ L, OkS e.x ∧ pbk w e.pb e.x ∧ RB w e.rb 1 6 e.x ∧ W.heap.size ≤ e.pb ∧ W.heap.size ≤ e.rb
  np : (L.map (·.pb)).Nodup
  nr : (L.map (·.rb)).Nodup
  fr : Fr [] W w
theorem TpI.frm {S : List Nat} {W w w' : World} {b g bw gw : Nat} {zs : List Int} {L : List OpE} (h : TpI W w b g bw gw zs L) (k : Fr S w w') (hS : b ∉ S ∧ g ∉ S ∧ bw ∉ S ∧ gw ∉ S ∧ ∀ e ∈ L, e.pb ∉ S ∧ e.rb ∉ S) (hW : ∀ i ∈ S, W.heap.size ≤ i) : TpI W w' b g bw gw zs L :=
  ⟨⟨h.pm.1.fr k hS.1, h.pm.2.1.fr k hS.2.1, h.pm.2.2⟩, rmfr h.rm k hS.2.2.1 hS.2.2.2.1, h.big, h.len, h.ne, h.at', fun e he => by
    obtain ⟨h1, h2, h3, h4, h5⟩ := h.el e he
    exact ⟨h1, pbk_fr h2 k (hS.2.2.2.2 e he).1, h3.fr k (hS.2.2.2.2 e he).2, h4, h5⟩, h.np, h.nr, h.fr.from k (fun i hi hl => by have := hW i hi; omega)⟩
theorem TpI.below {W w w' : World} {b g bw gw : Nat} {zs : List Int} {L : List OpE} (h : TpI W w b g bw gw zs L) (k : Below w.heap.size w w') : TpI W w' b g bw gw zs L :=
  h.frm (S := []) (.of k) (by simp) (by simp)
theorem TpI.lt {W w : World} {b g bw gw : Nat} {zs : List Int} {L : List OpE} (h : TpI W w b g bw gw zs L) : ∀ e ∈ L, e.pb < w.heap.size ∧ e.rb < w.heap.size := fun e he => by
  obtain ⟨_, h2, h3, _, _⟩ := h.el e he
  obtain ⟨_, _, h1, _⟩ := pbk_bk h2
  exact ⟨h1.lt, Bk.lt h3⟩
theorem TpI.add {W w w' : World} {b g bw gw : Nat} {zs : List Int} {L : List OpE} {e : OpE} (h : TpI W w b g bw gw zs L) (k : Below w.heap.size w w') (hok : OkS e.x) (hp : pbk w' e.pb e.x) (hr : RB w' e.rb 1 6 e.x) (h1 : w.heap.size ≤ e.pb) (h2 : w.heap.size ≤ e.rb) : TpI W w' b g bw gw zs (L ++ [e]) := by
  have hs := h.fr.size
  have hb := h.below k
  refine ⟨hb.pm, hb.rm, hb.big, hb.len, hb.ne, hb.at', fun x hx => ?_, ?_, ?_, hb.fr⟩
  · rcases List.mem_append.1 hx with hx | hx
    · exact hb.el x hx
    · rw [List.mem_singleton.1 hx]; exact ⟨hok, hp, hr, by omega, by omega⟩
  · rw [List.map_append]
    refine List.nodup_append.2 ⟨h.np, by simp, fun x hx y hy he => ?_⟩
    obtain ⟨z, hz, rfl⟩ := List.mem_map.1 hx
    simp at hy
    have := (h.lt z hz).1
    omega
  · rw [List.map_append]
    refine List.nodup_append.2 ⟨h.nr, by simp, fun x hx y hy he => ?_⟩
    obtain ⟨z, hz, rfl⟩ := List.mem_map.1 hx
    simp at hy
    have := (h.lt z hz).2
    omega
theorem TpI.grow {W w w' : World} {b g bw gw n : Nat} {zs : List Int} {L : List OpE} {v : Value} {o : Obj} {xs : List Value} (h : TpI W w b g bw gw zs L) (hr : w.ownsRow W.heap.size 153 5 v n xs) (k : (w.alloc o).grownBy w' v.ownBlock) : TpI W w' b g bw gw zs L :=
  h.frm (fr_grown k) ⟨own_ne hr h.pm.1 (by decide), own_ne hr h.pm.2.1 (by decide), own_ne hr h.rm.1 (by decide), own_ne hr h.rm.2.1 (by decide), fun e he => ⟨own_pbk hr (h.el e he).2.1, own_ne hr (h.el e he).2.2.1 (by decide)⟩⟩ (fun i hi => (hr.lt i (rowB_mem.1 hi)).1)
theorem map_set_same {α : Type} (f : OpE → α) (L : List OpE) (i : Nat) (y : OpE) (h : i < L.length) (hy : f y = f (opAt L i)) : (L.set i y).map f = L.map f := by
  rw [List.map_set, hy]
  refine List.ext_getElem (by simp) fun j h1 h2 => ?_
  rw [List.getElem_set]
  split
  · next e => subst e; simp [opAt, h]
  · rfl
theorem nodup_at {f : OpE → Nat} {L : List OpE} (h : (L.map f).Nodup) {i j : Nat} (hi : i < L.length) (hj : j < L.length) (hne : j ≠ i) : f (opAt L j) ≠ f (opAt L i) := fun he => hne (by
  have := List.getElem_inj (h₀ := (by simpa using hj)) (h₁ := (by simpa using hi)) h |>.1 (by
    unfold opAt at he
    rw [List.getElem?_eq_getElem hi, List.getElem?_eq_getElem hj] at he
    simpa using he)
  exact this)
theorem TpI.move {W w w' : World} {b g bw gw i : Nat} {zs zz : List Int} {L : List OpE} {y : OpS} (h : TpI W w b g bw gw zs L) (hi : i < L.length) (hok : OkS y) (hz : w64 zz) (hl : zz.length = 8)
    (hp : pbk w' (opAt L i).pb y) (hr : RB w' (opAt L i).rb 1 6 y) (hm : Pm w' b g zz) (hw : Rm w' bw gw zz) (k : Fr [(opAt L i).pb, (opAt L i).rb, g, gw] w w') : TpI W w' b g bw gw zz (L.set i ⟨y, (opAt L i).pb, (opAt L i).rb⟩) := by
  have he := h.el _ (opAt_mem hi)
  refine ⟨hm, hw, hz, hl, h.ne, h.at', fun e hx => ?_, ?_, ?_, h.fr.from k (fun j hj hlt => ?_)⟩
  · obtain ⟨j, hj, rfl⟩ := List.getElem_of_mem hx
    rw [List.getElem_set]
    split
    · exact ⟨hok, hp, hr, he.2.2.2.1, he.2.2.2.2⟩
    · next hne =>
      have hj' : j < L.length := by simpa using hj
      obtain ⟨q1, q2, q3, q4, q5⟩ := h.el _ (List.getElem_mem hj')
      have ea : opAt L j = L[j] := by unfold opAt; rw [List.getElem?_eq_getElem hj']; rfl
      have n1 := nodup_at h.np hi hj' (fun e => hne e.symm)
      have n2 := nodup_at h.nr hi hj' (fun e => hne e.symm)
      rw [ea] at n1 n2
      refine ⟨q1, pbk_fr q2 k ?_, q3.fr k ?_, q4, q5⟩
      · simp only [List.mem_cons, List.not_mem_nil, or_false, not_or]
        exact ⟨n1, pbk_ne q2 he.2.2.1 (by decide), pbk_ne q2 h.pm.2.1 (by decide), pbk_ne q2 h.rm.2.1 (by decide)⟩
      · simp only [List.mem_cons, List.not_mem_nil, or_false, not_or]
        exact ⟨fun e => pbk_ne he.2.1 q3 (by decide) e.symm, n2, Bk.ne q3 h.pm.2.1 (by decide), Bk.ne q3 h.rm.2.1 (by decide)⟩
  · rw [map_set_same (fun e => e.pb) L i ⟨y, (opAt L i).pb, (opAt L i).rb⟩ hi rfl]; exact h.np
  · rw [map_set_same (fun e => e.rb) L i ⟨y, (opAt L i).pb, (opAt L i).rb⟩ hi rfl]; exact h.nr
  · simp only [List.mem_cons, List.not_mem_nil, or_false] at hj
    rcases hj with rfl | rfl | rfl | rfl
    · have := he.2.2.2.1; omega
    · have := he.2.2.2.2; omega
    · have := h.at'; omega
    · have := h.at'; omega

/-- A slice of bytes that came in. -/
def U8s (w : World) (v : Value) (L : List Int) : Prop :=
  ∃ o c, v = .slice o L.length c ∧ (0 < L.length → ∃ b off, o = some ⟨b, off, none⟩ ∧ ∀ j, j < L.length → w.cell? ⟨b, off + j, none⟩ = some (.int .u8 (intAt L j)) ∧ 0 ≤ intAt L j ∧ intAt L j ≤ 255)
set_option maxRecDepth 100000 in
theorem bytes_of {H : Type} {enc : TypeId × Value → H} {w : World} {base : Nat} {spare : Nat → Bool} {held : Bool} {fuel : Nat} {o : Option Addr} {n c : Nat} {x : DataW H × List MemPlace}
    (h : DataW.trod enc Try.prog w base spare held fuel 117 [.slice o n c] = some x) : ∃ L, U8s w (.slice o n c) L ∧ L.length ≤ maxLen := by
  rcases Go.Deep.open_slice Try.underlying117 h with h | ⟨a, len, cap, m, k, D, Pl, hcs, hb, hl, hm, hmm, hx, hi⟩
  · have h := h.1
    simp only [List.cons.injEq, Value.slice.injEq, and_true] at h
    obtain ⟨rfl, rfl, rfl⟩ := h
    exact ⟨[], ⟨none, 0, rfl, by simp⟩, by simp⟩
  · simp only [List.cons.injEq, Value.slice.injEq, and_true] at hcs
    obtain ⟨rfl, rfl, rfl⟩ := hcs
    have hC : Try.prog.cellsOf 5 = 1 := by kernel_rfl
    have hx : ∀ i, ∃ t : Int, i < n → a.spot = none ∧ w.cell? ⟨a.block, a.off + i, none⟩ = some (.int .u8 t) ∧ 0 ≤ t ∧ t ≤ 255 := fun i => by
      by_cases hlt : i < n
      · have hn : n ≤ m := by rw [hmm]; split <;> omega
        have hsp : a.spot = none := by
          obtain ⟨cs', hc, ht'⟩ := hi 0 (by omega)
          rw [hC] at hc
          obtain ⟨_, hcl, hat⟩ := World.cells?_some hc
          have hfirst := hat 0 (by omega)
          rw [List.getElem?_eq_getElem (by omega)] at hfirst
          have := spot_of hfirst
          simpa [Addr.add] using this
        obtain ⟨cs', hc, ht'⟩ := hi i (by omega)
        rw [hC] at hc
        obtain ⟨_, hcl, hat⟩ := World.cells?_some hc
        obtain ⟨z, hz, _, hwf⟩ := DataW.trod_int Try.underlying5 ht'
        have hfirst := hat 0 (by omega)
        rw [Go.Deep.add_add, add_plain _ _ hsp, hz] at hfirst
        simp only [Lit.wf, Bool.and_eq_true, decide_eq_true_eq] at hwf
        exact ⟨z, fun _ => ⟨hsp, by simpa using hfirst, hwf.1, hwf.2⟩⟩
      · exact ⟨0, fun h => absurd h hlt⟩
    refine ⟨(List.range n).map fun i => (hx i).choose, ⟨some a, c, by simp, fun h0 => ?_⟩, by simp; omega⟩
    have hsp : a.spot = none := ((hx 0).choose_spec (by simpa using h0)).1
    refine ⟨a.block, a.off, by cases a; simp at hsp; subst hsp; rfl, fun j hj => ?_⟩
    have hj' : j < n := by simpa using hj
    have e : intAt ((List.range n).map fun i => (hx i).choose) j = (hx j).choose := by
      unfold intAt
      rw [List.getElem?_map, List.getElem?_range hj']
      rfl
    rw [e]
    exact ((hx j).choose_spec hj').2


end Go.Proofs.Yteheckcflnogbaa
