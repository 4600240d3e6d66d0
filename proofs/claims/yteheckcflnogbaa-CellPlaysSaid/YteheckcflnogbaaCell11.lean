/-
  soughlaw30.CellPlays: its walk. Written by wip/gen/mkcell11.py.
-/
import Derived.Test.YteheckcflnogbaaCell10
import Derived.Test.YteheckcflnogbaaLatPk0
import Derived.Test.YteheckcflnogbaaTp6
import Derived.BigQuiet
namespace Go.Proofs.Yteheckcflnogbaa
open Go.RowKit

theorem pj_info : (Try.prog.info? 125).map (fun i => (i.zero, i.size, i.bytes)) = some (some (.pointer none), 1, 8) := by kernel_rfl
theorem prj_info : (Try.prog.info? 130).map (fun i => (i.zero, i.size, i.bytes)) = some (some (.pointer none), 1, 8) := by kernel_rfl
/-- A Join of the law's lists. -/
structure JnE where
  x : JnS
  A : List Nat
  av : Value
  pb : Nat
  rb : Nat
def jne0 : JnE := ⟨⟨false, false, 0, 0, 0, false⟩, [], .slice none 0 0, 0, 0⟩
def jeAt (L : List JnE) (i : Nat) : JnE := L[i]?.getD jne0
theorem jeAt_mem {L : List JnE} {i : Nat} (h : i < L.length) : jeAt L i ∈ L := by unfold jeAt; rw [List.getElem?_eq_getElem h]; exact List.getElem_mem h
def pjc (L : List JnE) : List Value := L.map fun e => .pointer (some ⟨e.pb, 0, none⟩)
def rjc (L : List JnE) : List Value := L.map fun e => .pointer (some ⟨e.rb, 0, none⟩)
theorem pjc_at (L : List JnE) (i : Nat) (h : i < L.length) : (pjc L)[i]? = some (.pointer (some ⟨(jeAt L i).pb, 0, none⟩)) := by unfold pjc jeAt; rw [List.getElem?_map, List.getElem?_eq_getElem h]; rfl
theorem rjc_at (L : List JnE) (i : Nat) (h : i < L.length) : (rjc L)[i]? = some (.pointer (some ⟨(jeAt L i).rb, 0, none⟩)) := by unfold rjc jeAt; rw [List.getElem?_map, List.getElem?_eq_getElem h]; rfl
theorem ws_lt {W : World} {v : Value} {A : List Nat} (h : Ws W v A) : ∀ a c, v = .slice (some a) A.length c → 0 < A.length → a.block < W.heap.size := fun a c e h0 => by
  obtain ⟨_, ⟨_, h1⟩ | ⟨a', c', h1, hc⟩⟩ := h
  · rw [h1] at h0; cases h0
  · rw [h1] at e
    injection e with e
    injection e with e
    subst e
    have := cell_lt (hc 0 h0)
    simpa [Addr.add] using this
/-- All of it. -/
structure CpI (W w : World) (wh words : Int) (q t b g bw gw : Nat) (zs : List Int) (L : List JnE) : Prop where
  pm : Pm w b g zs
  rm : Rm w bw gw zs
  big : w64 zs
  len : zs.length = 7
  ne : g ≠ gw
  at' : W.heap.size ≤ b ∧ W.heap.size ≤ g ∧ W.heap.size ≤ bw ∧ W.heap.size ≤ gw
  el : ∀ e ∈ L, OkJ q t e.x ∧ Jn w e.pb 1 wh words e.av e.x ∧ Rj w e.rb 1 wh words e.av e.x ∧ Ws W e.av e.A ∧ W.heap.size ≤ e.pb ∧ W.heap.size ≤ e.rb
  np : (L.map (·.pb)).Nodup
  nr : (L.map (·.rb)).Nodup
  fr : Fr [] W w
section
variable {W w w' : World} {wh words : Int} {q t b g bw gw : Nat} {zs : List Int} {L : List JnE}
theorem CpI.frm {S : List Nat} (h : CpI W w wh words q t b g bw gw zs L) (k : Fr S w w') (hS : b ∉ S ∧ g ∉ S ∧ bw ∉ S ∧ gw ∉ S ∧ ∀ e ∈ L, e.pb ∉ S ∧ e.rb ∉ S) (hW : ∀ i ∈ S, W.heap.size ≤ i) : CpI W w' wh words q t b g bw gw zs L :=
  ⟨⟨h.pm.1.fr k hS.1, h.pm.2.1.fr k hS.2.1, h.pm.2.2⟩, rmfr h.rm k hS.2.2.1 hS.2.2.2.1, h.big, h.len, h.ne, h.at', fun e he => by
    obtain ⟨h1, h2, h3, h4⟩ := h.el e he
    exact ⟨h1, h2.fr k (hS.2.2.2.2 e he).1, h3.fr k (hS.2.2.2.2 e he).2, h4⟩, h.np, h.nr, h.fr.from k (fun i hi hl => by have := hW i hi; omega)⟩
theorem CpI.below (h : CpI W w wh words q t b g bw gw zs L) (k : Below w.heap.size w w') : CpI W w' wh words q t b g bw gw zs L := h.frm (S := []) (.of k) (by simp) (by simp)
theorem CpI.lt (h : CpI W w wh words q t b g bw gw zs L) : ∀ e ∈ L, e.pb < w.heap.size ∧ e.rb < w.heap.size := fun e he => ⟨Bk.lt (h.el e he).2.1, Bk.lt (h.el e he).2.2.1⟩
theorem CpI.growP {n : Nat} {v : Value} {o : Obj} {xs : List Value} (h : CpI W w wh words q t b g bw gw zs L) (hr : w.ownsRow W.heap.size 125 1 v n xs) (k : (w.alloc o).grownBy w' v.ownBlock) : CpI W w' wh words q t b g bw gw zs L :=
  h.frm (fr_grown k) ⟨own_ne hr h.pm.1 (by decide), own_ne hr h.pm.2.1 (by decide), own_ne hr h.rm.1 (by decide), own_ne hr h.rm.2.1 (by decide), fun e he => ⟨own_ne hr (h.el e he).2.1 (by decide), own_ne hr (h.el e he).2.2.1 (by decide)⟩⟩ (fun i hi => (hr.lt i (rowB_mem.1 hi)).1)
theorem CpI.growR {n : Nat} {v : Value} {o : Obj} {xs : List Value} (h : CpI W w wh words q t b g bw gw zs L) (hr : w.ownsRow W.heap.size 130 1 v n xs) (k : (w.alloc o).grownBy w' v.ownBlock) : CpI W w' wh words q t b g bw gw zs L :=
  h.frm (fr_grown k) ⟨own_ne hr h.pm.1 (by decide), own_ne hr h.pm.2.1 (by decide), own_ne hr h.rm.1 (by decide), own_ne hr h.rm.2.1 (by decide), fun e he => ⟨own_ne hr (h.el e he).2.1 (by decide), own_ne hr (h.el e he).2.2.1 (by decide)⟩⟩ (fun i hi => (hr.lt i (rowB_mem.1 hi)).1)
theorem CpI.add {e : JnE} (h : CpI W w wh words q t b g bw gw zs L) (hlt : ∀ x ∈ L, x.pb < e.pb ∧ x.rb < e.rb) (hok : OkJ q t e.x) (hp : Jn w e.pb 1 wh words e.av e.x) (hr : Rj w e.rb 1 wh words e.av e.x) (hA : Ws W e.av e.A) (h1 : W.heap.size ≤ e.pb) (h2 : W.heap.size ≤ e.rb) : CpI W w wh words q t b g bw gw zs (L ++ [e]) := by
  refine ⟨h.pm, h.rm, h.big, h.len, h.ne, h.at', fun x hx => ?_, ?_, ?_, h.fr⟩
  · rcases List.mem_append.1 hx with hx | hx
    · exact h.el x hx
    · rw [List.mem_singleton.1 hx]; exact ⟨hok, hp, hr, hA, h1, h2⟩
  · rw [List.map_append]
    refine List.nodup_append.2 ⟨h.np, by simp, fun x hx y hy he => ?_⟩
    obtain ⟨z, hz, rfl⟩ := List.mem_map.1 hx
    simp at hy
    have := (hlt z hz).1
    omega
  · rw [List.map_append]
    refine List.nodup_append.2 ⟨h.nr, by simp, fun x hx y hy he => ?_⟩
    obtain ⟨z, hz, rfl⟩ := List.mem_map.1 hx
    simp at hy
    have := (hlt z hz).2
    omega
theorem jset_same {α : Type} (f : JnE → α) (L : List JnE) (i : Nat) (y : JnE) (h : i < L.length) (hy : f y = f (jeAt L i)) : (L.set i y).map f = L.map f := by
  rw [List.map_set, hy]
  refine List.ext_getElem (by simp) fun j h1 h2 => ?_
  rw [List.getElem_set]
  split
  · next e => subst e; simp [jeAt, h]
  · rfl
theorem jnodup_at {f : JnE → Nat} {L : List JnE} (h : (L.map f).Nodup) {i j : Nat} (hi : i < L.length) (hj : j < L.length) (hne : j ≠ i) : f (jeAt L j) ≠ f (jeAt L i) := fun he => hne (by
  have := List.getElem_inj (h₀ := (by simpa using hj)) (h₁ := (by simpa using hi)) h |>.1 (by
    unfold jeAt at he
    rw [List.getElem?_eq_getElem hi, List.getElem?_eq_getElem hj] at he
    simpa using he)
  exact this)
theorem CpI.move {i : Nat} {zz : List Int} {y : JnS} (h : CpI W w wh words q t b g bw gw zs L) (hi : i < L.length) (hok : OkJ q (t + 1) y) (hz : w64 zz) (hl : zz.length = 7)
    (hp : Jn w' (jeAt L i).pb 1 wh words (jeAt L i).av y) (hr : Rj w' (jeAt L i).rb 1 wh words (jeAt L i).av y) (hm : Pm w' b g zz) (hw : Rm w' bw gw zz) (k : Fr [(jeAt L i).pb, (jeAt L i).rb, g, gw] w w') : CpI W w' wh words q (t + 1) b g bw gw zz (L.set i ⟨y, (jeAt L i).A, (jeAt L i).av, (jeAt L i).pb, (jeAt L i).rb⟩) := by
  have he := h.el _ (jeAt_mem hi)
  refine ⟨hm, hw, hz, hl, h.ne, h.at', fun e hx => ?_, ?_, ?_, h.fr.from k (fun j hj hlt => ?_)⟩
  · obtain ⟨j, hj, rfl⟩ := List.getElem_of_mem hx
    rw [List.getElem_set]
    split
    · exact ⟨hok, hp, hr, he.2.2.2⟩
    · next hne =>
      have hj' : j < L.length := by simpa using hj
      obtain ⟨q1, q2, q3, q4⟩ := h.el _ (List.getElem_mem hj')
      have ea : jeAt L j = L[j] := by unfold jeAt; rw [List.getElem?_eq_getElem hj']; rfl
      have n1 := jnodup_at h.np hi hj' (fun e => hne e.symm)
      have n2 := jnodup_at h.nr hi hj' (fun e => hne e.symm)
      rw [ea] at n1 n2
      refine ⟨⟨⟨q1.1.1, by have := q1.1.2; omega⟩, q1.2⟩, q2.fr k ?_, q3.fr k ?_, q4⟩
      · simp only [List.mem_cons, List.not_mem_nil, or_false, not_or]
        exact ⟨n1, Bk.ne q2 he.2.2.1 (by decide), Bk.ne q2 h.pm.2.1 (by decide), Bk.ne q2 h.rm.2.1 (by decide)⟩
      · simp only [List.mem_cons, List.not_mem_nil, or_false, not_or]
        exact ⟨Bk.ne q3 he.2.1 (by decide), n2, Bk.ne q3 h.pm.2.1 (by decide), Bk.ne q3 h.rm.2.1 (by decide)⟩
  · rw [jset_same (fun e => e.pb) L i ⟨y, (jeAt L i).A, (jeAt L i).av, (jeAt L i).pb, (jeAt L i).rb⟩ hi rfl]; exact h.np
  · rw [jset_same (fun e => e.rb) L i ⟨y, (jeAt L i).A, (jeAt L i).av, (jeAt L i).pb, (jeAt L i).rb⟩ hi rfl]; exact h.nr
  · simp only [List.mem_cons, List.not_mem_nil, or_false] at hj
    rcases hj with rfl | rfl | rfl | rfl
    · have := he.2.2.2.2.1; omega
    · have := he.2.2.2.2.2; omega
    · have := h.at'; omega
    · have := h.at'; omega
end
theorem us_own {w : World} {B n : Nat} {v : Value} {zs : List Int} (h : w.ownsRow B 29 1 v n (zs.map (Value.int .u64))) (hn : n = zs.length) : Us w v zs := by
  subst hn
  have hc := h
  obtain ⟨hl, ⟨rfl, h0⟩ | ⟨g, cap, cur, rfl, hg, _⟩⟩ := h
  · exact ⟨none, 0, by rw [h0], fun h1 => by omega⟩
  · refine ⟨_, _, rfl, fun _ => ⟨g, 0, rfl, fun j hj => ?_⟩⟩
    have := hc.cells (g := g) rfl j (.int .u64 (zs[j]?.getD 0)) (by simp [hj])
    rwa [Addr.add_lit] at this
def z7 : List Int := [0, 0, 0, 0, 0, 0, 0]
theorem put_none {A : List Nat} {k : Nat} (hk : k < 5) (h : A.length ≤ k) : putE z7 1 A (k + 1) = putE z7 1 A k := by
  have h0 : wdA A k = 0 := by unfold wdA; rw [List.getElem?_eq_none h]; rfl
  show stv (putE z7 1 A k) (1 + k) (wdA A k) = putE z7 1 A k
  rw [h0]
  rcases (show k = 0 ∨ k = 1 ∨ k = 2 ∨ k = 3 ∨ k = 4 by omega) with rfl | rfl | rfl | rfl | rfl <;>
    simp [putE, stv, z7]
theorem put_len (A : List Nat) (k : Nat) : (putE z7 1 A k).length = 7 := by
  induction k with
  | zero => rfl
  | succ k ih => show (stv _ _ _).length = 7; rw [st_len]; exact ih
theorem put_64 {A : List Nat} (hA : small64 A) (k : Nat) : w64 (putE z7 1 A k) := by
  induction k with
  | zero => intro z hz; simp [putE, z7] at hz; omega
  | succ k ih => exact w64_st ih _ _ (by unfold wdA; have := small_at hA k; omega)

theorem stv_nat30 (zs : List Int) (k : Nat) (x : Int) : stv zs k x = zs.set k x := by unfold stv; rw [if_pos (by omega)]; simp
theorem one_new30 (w : World) (u : Value) (t : TypeId) : ∀ j x, [u][j]? = some x → (w.alloc (.cells #[u] t)).cell? ((⟨w.heap.size, 0, none⟩ : Addr).add j) = some x := fun j x hu => by
  rw [Addr.add_lit, Nat.zero_add, (Bk.new w t [u]).cell]
  exact hu

set_option maxHeartbeats 3200000 in
set_option maxRecDepth 100000 in
theorem cellPlays_walk (what words : Int) (va vl vo : Value) (A : List Nat) (ls : List (List Nat)) (O : List Int) (W : World) (hA : Ws W va A) (hL : Lls W vl ls) (hO : U8s W vo O) (ma : A.length ≤ 9223372036854775807) (ml : ls.length ≤ 9223372036854775807) (mo : O.length ≤ 9223372036854775807) :
    Calls Try.prog 11 #[.int .i64 what, .int .i64 words, va, vl, vo] W fun e w' => e = .returned (.bool true) ∧ Below W.heap.size W w' := by
  obtain ⟨i0, xi, x0, x1, x2⟩ := info_parts pj_info
  obtain ⟨j0, yi, y0, y1, y2⟩ := info_parts prj_info
  have HA := Lib.hid hA
  have HL := Lib.hid hL
  obtain ⟨pa, ca, rfl⟩ := Ws.len hA
  obtain ⟨ol, cl, rfl, hlc⟩ := hL
  obtain ⟨oo, co, rfl, hoc⟩ := hO
  have HLC := Lib.hid hlc
  have HO := Lib.hid hoc
  have HSA := Lib.hid (show small64 A from hA.1)
  clear hA hlc hoc
  cases hf : fewE words A ls with
  | false =>
    have HFW := Lib.hid hf
    clear hf
    go_enter Try.func11, Try.ntmps11
    go_wp2_with fail
    refine (awake30_any _).mono ?_
    rintro e w1 ⟨rfl, hB⟩
    have HB0 := Lib.hid hB
    have HA1 := Lib.hid (HA.out.below hB)
    have HL1 := Lib.hid (HL.out.below hB)
    clear hB
    go_wp2_with fail
    refine (few30_any words _ _ A ls _ HA1.out HL1.out ml).mono ?_
    rintro e w2 ⟨rfl, hB⟩
    have HB1 := Lib.hid (bel_then HB0.out hB)
    clear hB HB0 HA1 HL1
    rw [HFW.out]
    go_wp2_with fail
    go_ret
    exact ⟨rfl, HB1.out⟩
  | true =>
  obtain ⟨hl8, hw5, hA8, hls⟩ := few_yes hf
  have HFW := Lib.hid hf
  have HL8 := Lib.hid hl8
  clear hf hl8
  by_cases h2 : 5 < words
  · have d2 : decide (5 < words) = true := decide_eq_true h2
    go_enter Try.func11, Try.ntmps11
    go_wp2_with fail
    refine (awake30_any _).mono ?_
    rintro e w1 ⟨rfl, hB⟩
    have HB0 := Lib.hid hB
    have HA1 := Lib.hid (HA.out.below hB)
    have HL1 := Lib.hid (HL.out.below hB)
    clear hB
    go_wp2_with fail
    refine (few30_any words _ _ A ls _ HA1.out HL1.out ml).mono ?_
    rintro e w2 ⟨rfl, hB⟩
    have HB1 := Lib.hid (bel_then HB0.out hB)
    clear hB HB0 HA1 HL1
    rw [HFW.out]
    go_wp2_with fail
    go_ret
    exact ⟨rfl, HB1.out⟩
  have d2 : decide (5 < words) = false := decide_eq_false h2
  by_cases h3 : 100 < O.length
  · have d3 : decide ((100 : Int) < O.length) = true := by simp; omega
    go_enter Try.func11, Try.ntmps11
    go_wp2_with fail
    refine (awake30_any _).mono ?_
    rintro e w1 ⟨rfl, hB⟩
    have HB0 := Lib.hid hB
    have HA1 := Lib.hid (HA.out.below hB)
    have HL1 := Lib.hid (HL.out.below hB)
    clear hB
    go_wp2_with fail
    refine (few30_any words _ _ A ls _ HA1.out HL1.out ml).mono ?_
    rintro e w2 ⟨rfl, hB⟩
    have HB1 := Lib.hid (bel_then HB0.out hB)
    clear hB HB0 HA1 HL1
    rw [HFW.out]
    go_wp2_with fail
    go_ret
    exact ⟨rfl, HB1.out⟩
  have d3 : decide ((100 : Int) < O.length) = false := by simp; omega
  obtain ⟨q, hq⟩ : ∃ q : Nat, cwn words = q := ⟨(cwn words).toNat, by have := cwn_bd words; omega⟩
  have hq5 : q ≤ 5 := by unfold cwn at hq; omega
  have HQ := Lib.hid hq
  clear hq hw5
  go_enter Try.func11, Try.ntmps11
  go_wp2_with fail
  refine (awake30_any _).mono ?_
  rintro e w1 ⟨rfl, hB⟩
  have HB0 := Lib.hid hB
  have HA1 := Lib.hid (HA.out.below hB)
  have HL1 := Lib.hid (HL.out.below hB)
  clear hB
  go_wp2_with fail
  refine (few30_any words _ _ A ls _ HA1.out HL1.out ml).mono ?_
  rintro e w2 ⟨rfl, hB⟩
  have HB1 := Lib.hid (bel_then HB0.out hB)
  clear hB HB0 HA1 HL1

  rw [HFW.out]
  go_wp2_with fail
  have HC0 := Lib.hid (Bk.new w2 120 [.int .i64 1, .int .i64 what, .int .i64 words])
  have HBA := Lib.hid (HB1.out.alloc HB1.out.size (.cells #[.int .i64 1, .int .i64 what, .int .i64 words] 120))
  have hbs := HB1.out.size
  obtain ⟨cb, hcb⟩ : ∃ cb, cb = w2.heap.size := ⟨_, rfl⟩
  rw [← hcb] at HC0 hbs ⊢
  have HCB := Lib.hid (show W.heap.size ≤ cb from hbs)
  clear hbs
  generalize (w2.alloc (.cells #[.int .i64 1, .int .i64 what, .int .i64 words] 120)) = W1 at *
  clear hcb HB1
  refine (newPlain_any _ _).mono ?_
  rintro e w3 ⟨b, g, rfl, hP, hB, hb, hg⟩
  rw [show List.replicate (memn 7) (0 : Int) = z7 from rfl] at hP
  have HP3 := Lib.hid hP
  have HC3 := Lib.hid (HC0.out.below hB)
  have HB3 := Lib.hid (bel_then HBA.out hB)
  have hsz := HBA.out.size
  have HG := Lib.hid (show W.heap.size ≤ b ∧ W.heap.size ≤ g from ⟨by omega, by omega⟩)
  have hgl := hP.2.1.lt
  clear hP hB hb hg hsz
  go_wp2_with fail
  refine (rnew_any _ _).mono ?_
  rintro e w4 ⟨bw, gw, rfl, hR, hB, hb, hg⟩
  rw [show List.replicate (memn 7) (0 : Int) = z7 from rfl] at hR
  have hsz := HB3.out.size
  have HR4 := Lib.hid hR
  have HP4 := Lib.hid (HP3.out.below hB)
  have HC4 := Lib.hid (HC3.out.below hB)
  have HB4 := Lib.hid (bel_then HB3.out hB)
  have HGW := Lib.hid (show W.heap.size ≤ bw ∧ W.heap.size ≤ gw ∧ g ≠ gw from ⟨by omega, by omega, by omega⟩)
  clear hR hB hb hg hsz hgl HP3 HB3 HC3 HC0 HBA
  have t0 : w4.cell? ⟨cb, 0, none⟩ = some (.int .i64 1) := HC4.out.cell 0
  have t1 : w4.cell? ⟨cb, 1, none⟩ = some (.int .i64 what) := HC4.out.cell 1
  have t2 : w4.cell? ⟨cb, 2, none⟩ = some (.int .i64 words) := HC4.out.cell 2
  go_wp2_with fail
  refine (put_any 1 what words _ A b g _ w4 (by decide) (HA.out.below HB4.out) HP4.out (fun a c h h0 => by have := ws_lt HA.out a c h h0; have := HG.out; omega)).mono ?_
  rintro e w5 ⟨rfl, hP, hF⟩
  rw [HQ.out, Int.toNat_natCast] at hP
  have HP5 := Lib.hid hP
  have HR5 := Lib.hid (rmfr HR4.out hF (by simp; exact Bk.ne HR4.out.1 HP4.out.2.1 (by decide)) (by simp; exact fun e => HGW.out.2.2 e.symm))
  have HC5 := Lib.hid (HC4.out.fr hF (by simp; exact Bk.ne HC4.out HP4.out.2.1 (by decide)))
  have HF5 := Lib.hid ((Fr.of (S := []) HB4.out).from hF (fun i hi hl => by rw [List.mem_singleton.1 hi] at hl; have := HG.out; omega))
  clear hP hF HP4 HR4 HC4 HB4 t0 t1 t2
  go_wp2_with fail
  refine (rcwords_any _ _).mono ?_
  rintro e w6 ⟨rfl, hww⟩
  subst w6
  rw [HQ.out]
  obtain ⟨zs, hzs⟩ : ∃ zs, zs = putE z7 1 A q := ⟨_, rfl⟩
  have HZS := Lib.hid hzs
  rw [← hzs] at HP5
  clear hzs
  go_wp2_with fail
  go_loopw [50] (fun i wr => ∃ k : Nat, k ≤ q ∧ i = .int .i64 k ∧ Rm wr bw gw (putE z7 1 A k) ∧ Pm wr b g zs ∧ Bk wr cb 120 [.int .i64 1, .int .i64 what, .int .i64 words] ∧ Fr [] W wr)
    (fun i _ => q - (intOf i).toNat)
  case atStart => exact ⟨0, Nat.zero_le _, rfl, HR5.out, HP5.out, HC5.out, HF5.out⟩
  case round =>
    clear HR5 HP5 HC5 HF5
    obtain ⟨k, hk, rfl, hR, hP, hC, hF⟩ := hrel
    have HR := Lib.hid hR
    have HP := Lib.hid hP
    have HC := Lib.hid hC
    have HF := Lib.hid hF
    clear hR hP hC hF
    by_cases hlt : k < q
    · by_cases hka : k < A.length
      · obtain ⟨p, c, e, hac⟩ := ws_row HA.out
        injection e with e1 e2 e3
        subst e1 e3
        obtain ⟨a, rfl, hd⟩ := hac (by omega)
        have HLA := Lib.hid (ws_lt HA.out a ca rfl (by omega))
        have hc0 := keepc (hd k hka) HF.out.below
        have HPE := Lib.hid (show putE z7 1 A (k + 1) = (putE z7 1 A k).set (k + 1) ((A[k]?.getD 0 : Nat) : Int) by
          show stv (putE z7 1 A k) (1 + k) (wdA A k) = _
          rw [show (1 : Int) + k = ((k + 1 : Nat) : Int) by omega, stv_nat30]; rfl)
        have HLN := Lib.hid (put_len A k)
        have hkd : decide ((k : Int) < A.length) = true := by simp; omega
        have hki : (k : Int) < A.length := by omega
        have hkq : (k : Int) < q := by omega
        have hk7 : (k : Int) + 1 < 7 := by omega
        have hk70 : 0 ≤ (k : Int) + 1 := by omega
        clear hd hac
        generalize A[k]?.getD 0 = x at *
        generalize putE z7 1 A k = zk at *
        have c0 : wr.drew.cell? (a.add k) = some (.int .u64 x) := hc0
        have t0 : wr.drew.cell? ⟨bw, 0, none⟩ = some (.slice (some ⟨gw, 0, none⟩) 7 7) := by have h := HR.out.row; rw [HLN.out] at h; exact h
        have hsum : IntKind.i64.wrap (1 + (k : Int)) = ((k + 1 : Nat) : Int) := by rw [IntWalk.i64_in _ (by omega)]; omega
        go_wp2_with fail
        refine wp_region_held_drew (S := (fun w' => w'.cell? ⟨bw, 0, none⟩ = some (.slice (some ⟨gw, 0, none⟩) 7 7) ∧ w'.cell? (a.add k) = some (.int .u64 x))) (by kernel_rfl) ?_ (fun hHeld => ?_)
        · exact ⟨t0, c0⟩
        refine take_at 0 (v := ?_) (some 57) rfl rfl (by kernel_rfl) (by kernel_rfl) (by kernel_rfl) (fun _ _ _ h => h) (Or.inl ⟨by rfl, ?_⟩) hHeld ?_
        rotate_left
        · (intro w hSw; (try dsimp only at hSw); go_simp; (try with_reducible rfl))
        simp only [Act.put, List.setIfInBounds_toArray, List.set_cons_zero, List.set_cons_succ]
        refine take_at 1 (v := ?_) (some 58) rfl rfl (by kernel_rfl) (by kernel_rfl) (by kernel_rfl) (fun _ _ _ h => h) (Or.inl ⟨by rfl, ?_⟩) hHeld ?_
        rotate_left
        · (intro w hSw; (try dsimp only at hSw); go_simp; (try with_reducible rfl))
        simp only [Act.put, List.setIfInBounds_toArray, List.set_cons_zero, List.set_cons_succ]
        refine take_at 2 (v := ?_) (some 59) rfl rfl (by kernel_rfl) (by kernel_rfl) (by kernel_rfl) (fun _ _ _ h => h) (Or.inl ⟨by rfl, ?_⟩) hHeld ?_
        rotate_left
        · (intro w hSw; (try dsimp only at hSw); go_simp; (try with_reducible rfl))
        simp only [Act.put, List.setIfInBounds_toArray, List.set_cons_zero, List.set_cons_succ]
        refine take_at 3 (v := ?_) (some 60) rfl rfl (by kernel_rfl) (by kernel_rfl) (by kernel_rfl) (fun _ _ _ h => h) (Or.inl ⟨by rfl, ?_⟩) hHeld ?_
        rotate_left
        · (intro w hSw; (try dsimp only at hSw); go_simp; (try with_reducible rfl))
        simp only [Act.put, List.setIfInBounds_toArray, List.set_cons_zero, List.set_cons_succ]
        refine take_at 4 (v := ?_) (some 61) rfl rfl (by kernel_rfl) (by kernel_rfl) (by kernel_rfl) (fun _ _ _ h => h) (Or.inl ⟨by rfl, ?_⟩) hHeld ?_
        rotate_left
        · (intro w hSw; (try dsimp only at hSw); go_simp; (try with_reducible rfl))
        simp only [Act.put, List.setIfInBounds_toArray, List.set_cons_zero, List.set_cons_succ]
        refine take_at 5 (v := ?_) (some 62) rfl rfl (by kernel_rfl) (by kernel_rfl) (by kernel_rfl) (fun _ _ _ h => h) (Or.inl ⟨by rfl, ?_⟩) hHeld ?_
        rotate_left
        · (intro w hSw; (try dsimp only at hSw); go_simp; (try with_reducible rfl))
        simp only [Act.put, List.setIfInBounds_toArray, List.set_cons_zero, List.set_cons_succ]
        refine take_at 6 (v := ?_) (some 63) rfl rfl (by kernel_rfl) (by kernel_rfl) (by kernel_rfl) (fun _ _ _ h => h) (Or.inl ⟨by rfl, ?_⟩) hHeld ?_
        rotate_left
        · (intro w hSw; (try dsimp only at hSw); go_simp; (try with_reducible rfl))
        simp only [Act.put, List.setIfInBounds_toArray, List.set_cons_zero, List.set_cons_succ]
        refine take_at 7 (v := ?_) (some 64) rfl rfl (by kernel_rfl) (by kernel_rfl) (by kernel_rfl) (fun _ _ _ h => h) (Or.inl ⟨by rfl, ?_⟩) hHeld ?_
        rotate_left
        · (intro w hSw; (try dsimp only at hSw); go_simp; (try with_reducible rfl))
        simp only [Act.put, List.setIfInBounds_toArray, List.set_cons_zero, List.set_cons_succ]
        refine take_at 8 (v := ?_) (some 65) rfl rfl (by kernel_rfl) (by kernel_rfl) (by kernel_rfl) (fun _ _ _ h => h) (Or.inl ⟨by rfl, ?_⟩) hHeld ?_
        rotate_left
        · (intro w hSw; (try dsimp only at hSw); go_simp; (try with_reducible rfl))
        simp only [Act.put, List.setIfInBounds_toArray, List.set_cons_zero, List.set_cons_succ]
        refine take_at 9 (v := ?_) (some 66) rfl rfl (by kernel_rfl) (by kernel_rfl) (by kernel_rfl) (fun _ _ _ h => h) (Or.inl ⟨by rfl, ?_⟩) hHeld ?_
        rotate_left
        · (intro w hSw; (try dsimp only at hSw); go_simp; (try with_reducible rfl))
        simp only [Act.put, List.setIfInBounds_toArray, List.set_cons_zero, List.set_cons_succ]
        refine take_at 10 (v := ?_) (some 67) rfl rfl (by kernel_rfl) (by kernel_rfl) (by kernel_rfl) (fun _ _ _ h => h) (Or.inl ⟨by rfl, ?_⟩) hHeld ?_
        rotate_left
        · (intro w hSw; (try dsimp only at hSw); go_simp; (try with_reducible rfl))
        simp only [Act.put, List.setIfInBounds_toArray, List.set_cons_zero, List.set_cons_succ]
        have r1 : wr.drew.cell? ⟨gw, k + 1, none⟩ = some (.int .u64 (wd zk (k + 1))) := HR.out.word (k + 1) (by rw [HLN.out]; omega)
        have r2 : wr.drew.frozen? ⟨gw, k + 1, none⟩ = false := HR.out.free (k + 1)
        refine wpAnyH_ready (rs := [11]) (by kernel_rfl) (by simp) ?_
        refine AllReadyH.cons rfl (fun K hK => ?_) AllReadyH.nil
        go_simp
        have HFIN := Lib.hid (show Rm (wr.setCell ⟨gw, k + 1, none⟩ (.int .u64 x)).drew bw gw (zk.set (k + 1) x) ∧ Fr [gw] wr (wr.setCell ⟨gw, k + 1, none⟩ (.int .u64 x)).drew from ⟨Rm.set (show Rm wr.drew bw gw zk from HR.out) (k + 1) x, ((Fr.refl _ _).drew).set (by simp) _⟩)
        refine hK.out _ _ ?_ (fun hHeld => ?_)
        · exact ⟨set_other hHeld.1 (.inl (Bk.ne HR.out.2.1 HR.out.1 (by decide))), set_other hHeld.2 (.inl (by have := HLA.out; have := HGW.out; show gw ≠ (a.add k).block; unfold Addr.add; split <;> ((try dsimp only); omega)))⟩
        clear hK K hHeld r1 r2
        try simp only [Act.put, List.setIfInBounds_toArray, List.set_cons_zero, List.set_cons_succ]
        refine wpAnyH_done (by kernel_rfl) ?_ _
        clear c0 t0 hc0 hsum
        go_wp2_with fail
        go_roundw
        case rel => exact ⟨k + 1, by omega, by go_num, by rw [HPE.out]; exact HFIN.out.1, ⟨HP.out.1.fr HFIN.out.2 (by simp; exact Bk.ne HP.out.1 HR.out.2.1 (by decide)), HP.out.2.1.fr HFIN.out.2 (by simp; exact HGW.out.2.2), HP.out.2.2⟩, HC.out.fr HFIN.out.2 (by simp; exact Bk.ne HC.out HR.out.2.1 (by decide)), HF.out.from HFIN.out.2 (fun i hi hl => by rw [List.mem_singleton.1 hi] at hl; have := HGW.out; omega)⟩
        case measure => simp [intOf]; omega
      · have hkd : decide ((k : Int) < A.length) = false := decide_eq_false (by omega)
        have HPE := Lib.hid (put_none (A := A) (k := k) (by omega) (by omega))
        have hkq : (k : Int) < q := by omega
        go_wp2_with fail
        go_roundw
        case rel => exact ⟨k + 1, by omega, by go_num, by rw [HPE.out]; exact HR.out, HP.out, HC.out, HF.out⟩
        case measure => simp [intOf]; omega
    · obtain rfl : k = q := by omega
      have HI0 := Lib.hid (show CpI W wr what words k 0 b g bw gw zs [] from ⟨HP.out, by rw [HZS.out]; exact HR.out, by rw [HZS.out]; exact put_64 HSA.out k, by rw [HZS.out]; exact put_len A k, HGW.out.2.2, ⟨HG.out.1, HG.out.2, HGW.out.1, HGW.out.2.1⟩, by simp, by simp, by simp, HF.out⟩)
      clear hlt hk HR HP HF
      go_wp2_with fail
      go_loopw [15, 16, 71] (fun vx vy i wr => ∃ j : Nat, j ≤ ls.length ∧ i = .int .i64 j ∧ ∃ L : List JnE, L.length = j ∧ CpI W wr what words k 0 b g bw gw zs L ∧ wr.ownsRow W.heap.size 125 1 vx j (pjc L) ∧ wr.ownsRow W.heap.size 130 1 vy j (rjc L) ∧ Bk wr cb 120 [.int .i64 1, .int .i64 what, .int .i64 words])
        (fun _ _ i _ => ls.length - (intOf i).toNat)
      case atStart => exact ⟨0, Nat.zero_le _, rfl, [], rfl, HI0.out, World.ownsRow_nil _ _ _ _, World.ownsRow_nil _ _ _ _, HC.out⟩
      case round =>
        clear HI0 HC
        obtain ⟨j, hj, rfl, L, hLj, hI, hX, hY, hC⟩ := hrel
        have HI := Lib.hid hI
        have HX := Lib.hid hX
        have HY := Lib.hid hY
        have HC := Lib.hid hC
        have HLJ := Lib.hid hLj
        clear hI hX hY hC hLj
        by_cases hlt : j < ls.length
        · obtain ⟨lb, lo, rfl, hd⟩ := HLC.out (by omega)
          obtain ⟨u, hu0, hu⟩ := hd j hlt
          have c0 := keepc hu0 HI.out.fr.below
          have HU := Lib.hid hu
          have t0 : wr.cell? ⟨cb, 0, none⟩ = some (.int .i64 1) := HC.out.cell 0
          have t1 : wr.cell? ⟨cb, 1, none⟩ = some (.int .i64 what) := HC.out.cell 1
          have t2 : wr.cell? ⟨cb, 2, none⟩ = some (.int .i64 words) := HC.out.cell 2
          have hji : (j : Int) < ls.length := by omega
          clear hd hu0 hu
          generalize ls[j]?.getD [] = B at *
          obtain ⟨pu, cu, rfl⟩ := Ws.len HU.out
          have bA := (Below.refl wr.heap.size wr).alloc (Nat.le_refl _) (.cells #[.int .i64 1, .int .i64 what, .int .i64 words, .slice pu B.length cu, .bool false, .bool false, .int .i64 0, .int .i64 0, .int .u64 0, .bool false] 129)
          have HIA := Lib.hid (HI.out.below bA)
          have HXA := Lib.hid (own_below HX.out bA)
          have HYA := Lib.hid (own_below HY.out bA)
          have HCA := Lib.hid (HC.out.below bA)
          have HJA := Lib.hid (show Jn (wr.alloc (.cells #[.int .i64 1, .int .i64 what, .int .i64 words, .slice pu B.length cu, .bool false, .bool false, .int .i64 0, .int .i64 0, .int .u64 0, .bool false] 129)) wr.heap.size 1 what words (.slice pu B.length cu) ⟨false, false, 0, 0, 0, false⟩ from Bk.new wr 129 [_, _, _, _, _, _, _, _, _, _])
          clear bA
          go_wp2_with (at_builtin; refine wpList_append_own _ rfl _ _ 123 rfl W.heap.size 125 i0 (.pointer none) 1 8 Try.underlying123 xi x0 x1 x2 rfl (by decide) _ _ _ rfl (HXA.out.alloc _) ⟨wr.heap.size + 1, 0, none⟩ 1 1 [.pointer (some ⟨wr.heap.size, 0, none⟩)] rfl rfl ?c1 ?c2 ?c3 ?c4 ?c5 ?_)
          case c1 =>
            have := one_new30 (wr.alloc (.cells #[.int .i64 1, .int .i64 what, .int .i64 words, .slice pu B.length cu, .bool false, .bool false, .int .i64 0, .int .i64 0, .int .u64 0, .bool false] 129)) (.pointer (some ⟨wr.heap.size, 0, none⟩)) 125
            rw [World.size_alloc] at this
            exact this
          case c2 => simp [Value.oneCell']
          case c3 => unfold maxLen; omega
          case c4 => omega
          case c5 => have := HIA.out.fr.size; rw [World.size_alloc]; omega
          intro vx' w8 hown' hgrow _
          have hfg := fr_grown hgrow
          have HI8 := Lib.hid (HIA.out.growP HXA.out hgrow)
          have HX8 := Lib.hid hown'
          have HY8 := Lib.hid (own_fr HYA.out hfg (fun i hi hm => own_apart HXA.out HYA.out (by decide) i hm (rowB_mem.2 hi)))
          have HC8 := Lib.hid (HCA.out.fr hfg (own_ne HXA.out HCA.out (by decide)))
          have HJ8 := Lib.hid (HJA.out.fr hfg (own_ne HXA.out HJA.out (by decide)))
          have HS8 := Lib.hid (show wr.heap.size ≤ w8.heap.size by have := hfg.size; rw [World.size_alloc] at this; omega)
          clear hown' hgrow hfg HIA HXA HYA HCA HJA t0 t1 t2
          have bB := (Below.refl w8.heap.size w8).alloc (Nat.le_refl _) (.cells #[.int .i64 1, .int .i64 what, .int .i64 words, .slice pu B.length cu, .int .i64 0, .bool false, .int .u64 0, .bool false, .bool false, .int .i64 0] 132)
          have HIB := Lib.hid (HI8.out.below bB)
          have HXB := Lib.hid (own_below HX8.out bB)
          have HYB := Lib.hid (own_below HY8.out bB)
          have HCB2 := Lib.hid (HC8.out.below bB)
          have HJB := Lib.hid (HJ8.out.fr (Fr.of (S := []) bB) (by simp))
          have HRB := Lib.hid (show Rj (w8.alloc (.cells #[.int .i64 1, .int .i64 what, .int .i64 words, .slice pu B.length cu, .int .i64 0, .bool false, .int .u64 0, .bool false, .bool false, .int .i64 0] 132)) w8.heap.size 1 what words (.slice pu B.length cu) ⟨false, false, 0, 0, 0, false⟩ from Bk.new w8 132 [_, _, _, _, _, _, _, _, _, _])
          clear bB
          go_wp2_with (at_builtin; refine wpList_append_own _ rfl _ _ 124 rfl W.heap.size 130 j0 (.pointer none) 1 8 Try.underlying124 yi y0 y1 y2 rfl (by decide) _ _ _ rfl (HYB.out.alloc _) ⟨w8.heap.size + 1, 0, none⟩ 1 1 [.pointer (some ⟨w8.heap.size, 0, none⟩)] rfl rfl ?d1 ?d2 ?d3 ?d4 ?d5 ?_)
          case d1 =>
            have := one_new30 (w8.alloc (.cells #[.int .i64 1, .int .i64 what, .int .i64 words, .slice pu B.length cu, .int .i64 0, .bool false, .int .u64 0, .bool false, .bool false, .int .i64 0] 132)) (.pointer (some ⟨w8.heap.size, 0, none⟩)) 130
            rw [World.size_alloc] at this
            exact this
          case d2 => simp [Value.oneCell']
          case d3 => unfold maxLen; omega
          case d4 => omega
          case d5 => have := HIB.out.fr.size; rw [World.size_alloc]; omega
          intro vy' w9 hown' hgrow _
          have hfg := fr_grown hgrow
          have HX9 := Lib.hid (show w9.ownsRow W.heap.size 125 1 vx' (j + 1) (pjc (L ++ [⟨⟨false, false, 0, 0, 0, false⟩, B, .slice pu B.length cu, wr.heap.size, w8.heap.size⟩])) from by
            rw [show pjc (L ++ [⟨⟨false, false, 0, 0, 0, false⟩, B, .slice pu B.length cu, wr.heap.size, w8.heap.size⟩]) = pjc L ++ [.pointer (some ⟨wr.heap.size, 0, none⟩)] by unfold pjc; rw [List.map_append]; rfl]
            exact own_fr HXB.out hfg (fun i hi hm => own_apart HYB.out HXB.out (by decide) i hm (rowB_mem.2 hi)))
          have HY9 := Lib.hid (show w9.ownsRow W.heap.size 130 1 vy' (j + 1) (rjc (L ++ [⟨⟨false, false, 0, 0, 0, false⟩, B, .slice pu B.length cu, wr.heap.size, w8.heap.size⟩])) from by
            rw [show rjc (L ++ [⟨⟨false, false, 0, 0, 0, false⟩, B, .slice pu B.length cu, wr.heap.size, w8.heap.size⟩]) = rjc L ++ [.pointer (some ⟨w8.heap.size, 0, none⟩)] by unfold rjc; rw [List.map_append]; rfl]
            exact hown')
          have HI9 := Lib.hid ((HIB.out.growR HYB.out hgrow).add (e := ⟨⟨false, false, 0, 0, 0, false⟩, B, .slice pu B.length cu, wr.heap.size, w8.heap.size⟩) (fun x hx => ⟨(HI.out.lt x hx).1, (HI8.out.lt x hx).2⟩) ⟨⟨by (try dsimp only); omega, by (try dsimp only); omega⟩, by (try dsimp only); omega, fun _ h => ⟨by (try dsimp only at h); omega, rfl, rfl⟩⟩ (HJB.out.fr hfg (own_ne HYB.out HJB.out (by decide))) (HRB.out.fr hfg (own_ne HYB.out HRB.out (by decide))) HU.out HI.out.fr.size (Nat.le_trans HI.out.fr.size HS8.out))
          have HC9 := Lib.hid (HCB2.out.fr hfg (own_ne HYB.out HCB2.out (by decide)))
          clear hown' hgrow hfg
          go_wp2_with fail
          go_roundw
          case rel => exact ⟨j + 1, by omega, by go_num, _, by rw [List.length_append, HLJ.out]; rfl, HI9.out, HX9.out, HY9.out, HC9.out⟩
          case measure => simp [intOf]; omega
        · obtain rfl : j = ls.length := by omega
          obtain ⟨ox, cx, rfl⟩ := own_slice HX.out
          obtain ⟨oy, cy, rfl⟩ := own_slice HY.out
          clear hlt hj
          go_wp2_with fail
          go_loopw [93] (fun i wr => ∃ m : Nat, m ≤ O.length ∧ i = .int .i64 m ∧ ∃ zs L, L.length = ls.length ∧ CpI W wr what words k m b g bw gw zs L ∧ wr.ownsRow W.heap.size 125 1 (.slice ox ls.length cx) ls.length (pjc L) ∧ wr.ownsRow W.heap.size 130 1 (.slice oy ls.length cy) ls.length (rjc L) ∧ Bk wr cb 120 [.int .i64 1, .int .i64 what, .int .i64 words])
            (fun i _ => O.length - (intOf i).toNat)
          case atStart => exact ⟨0, Nat.zero_le _, rfl, zs, L, HLJ.out, HI.out, HX.out, HY.out, HC.out⟩
          case round =>
            clear HI HX HY HC HLJ HZS
            obtain ⟨m, hm, rfl, zs, L, hLj, hI, hX, hY, hC⟩ := hrel
            have HI := Lib.hid hI
            have HX := Lib.hid hX
            have HY := Lib.hid hY
            have HC := Lib.hid hC
            have HLJ := Lib.hid hLj
            clear hI hC hLj
            by_cases hlt : m < O.length
            · obtain ⟨ob, of, rfl, hd⟩ := HO.out (by omega)
              obtain ⟨hd0, hd1, hd2⟩ := hd m hlt
              have c0 := keepc hd0 HI.out.fr.below
              have hmi : (m : Int) < O.length := by omega
              clear hd hd0
              generalize intAt O m = ov1 at *
              by_cases h0 : 0 < ls.length
              · have h0d : ((ls.length : Int) == 0) = false := by simp only [beq_eq_false_iff_ne, ne_eq]; omega
                obtain ⟨i, hid⟩ : ∃ i : Nat, ov1 % ls.length = (i : Int) := ⟨(ov1 % ls.length).toNat, (Int.toNat_of_nonneg (Int.emod_nonneg ov1 (show (ls.length : Int) ≠ 0 by omega))).symm⟩
                have hiK : i < ls.length := by have := Int.emod_lt_of_pos ov1 (show (0 : Int) < ls.length by omega); rw [hid] at this; omega
                have hrem : ov1.tmod ls.length = (i : Int) := by rw [Int.tmod_eq_emod_of_nonneg hd1]; exact hid
                have hiL : i < L.length := by rw [HLJ.out]; exact hiK
                obtain ⟨lx, cx2, e, _, hrx⟩ := row_at30 hX h0
                injection e with e1 e2 e3
                subst e1 e3
                obtain ⟨ly, cy2, e, _, hry⟩ := row_at30 hY h0
                injection e with e1 e2' e3
                subst e1 e3
                have s0 := hrx i _ (pjc_at L i hiL)
                have s1 := hry i _ (rjc_at L i hiL)
                have HEL := Lib.hid (HI.out.el _ (jeAt_mem hiL))
                have HS1 := Lib.hid s1
                have hii : (i : Int) < ls.length := by omega
                have HWA := Lib.hid (HEL.out.2.2.2.1.below HI.out.fr.below)
                have HWL := Lib.hid (ws_lt HEL.out.2.2.2.1)
                have HGE := Lib.hid HI.out.at'
                clear hrx hry hX hY e2 e2' s1
                have HOKY := Lib.hid (jnX_ok (f := wordE what) (A := (jeAt L i).A) (bs := 1) HEL.out.1 HI.out.big)
                have HZ64 := Lib.hid (jnZ_64 (q := k) (bs := 1) (wordE_lt what) HEL.out.2.2.2.1.1 HEL.out.1.2.1 HI.out.big)
                have HZLN := Lib.hid (jnZ_len k (wordE what) (jeAt L i).A 1 (jeAt L i).x zs)
                have HNR := Lib.hid (show (jeAt L i).rb ∉ [(jeAt L i).pb, g] ∧ bw ∉ [(jeAt L i).pb, g] ∧ gw ∉ [(jeAt L i).pb, g] from ⟨by simp; exact ⟨Bk.ne HEL.out.2.2.1 HEL.out.2.1 (by decide), Bk.ne HEL.out.2.2.1 HI.out.pm.2.1 (by decide)⟩, by simp; exact ⟨Bk.ne HI.out.rm.1 HEL.out.2.1 (by decide), Bk.ne HI.out.rm.1 HI.out.pm.2.1 (by decide)⟩, by simp; exact ⟨Bk.ne HI.out.rm.2.1 HEL.out.2.1 (by decide), fun e => HI.out.ne e.symm⟩⟩)
                obtain ⟨y, hy⟩ : ∃ y, jnX k (wordE what) (jeAt L i).A 1 (jeAt L i).x zs = y := ⟨_, rfl⟩
                obtain ⟨zz, hzz⟩ : ∃ zz, jnZ k (wordE what) (jeAt L i).A 1 (jeAt L i).x zs = zz := ⟨_, rfl⟩
                have HYE := Lib.hid hy
                have HZE := Lib.hid hzz
                rw [hy] at HOKY
                rw [hzz] at HZ64 HZLN
                clear hy hzz
                have HS0 := Lib.hid s0
                obtain ⟨tp, htp⟩ : ∃ tp, tp = (jeAt L i).pb := ⟨_, rfl⟩
                obtain ⟨tr, htr⟩ : ∃ tr, tr = (jeAt L i).rb := ⟨_, rfl⟩
                have HTP := Lib.hid htp
                have HTR := Lib.hid htr
                rw [← htp] at s0 HS0 HNR
                rw [← htr] at HS1 HNR
                have s1 := HS1.out
                have HJP := Lib.hid (show Jn wr tp 1 what words (jeAt L i).av (jeAt L i).x by rw [htp]; exact HEL.out.2.1)
                have HJR := Lib.hid (show Rj wr tr 1 what words (jeAt L i).av (jeAt L i).x by rw [htr]; exact HEL.out.2.2.1)
                clear htp htr
                go_wp2_with fail
                refine wp_region_held_drew (S := (fun w' => w'.cell? ⟨lx, i, none⟩ = some (.pointer (some ⟨tp, 0, none⟩)) ∧ w'.cell? ⟨ly, i, none⟩ = some (.pointer (some ⟨tr, 0, none⟩)))) (by kernel_rfl) ?_ (fun hHeld => ?_)
                · exact ⟨s0, s1⟩
                refine take_at 0 (v := ?_) (some 105) rfl rfl (by kernel_rfl) (by kernel_rfl) (by kernel_rfl) (fun _ _ _ h => h) (Or.inl ⟨by rfl, ?_⟩) hHeld ?_
                rotate_left
                · (intro w hSw; (try dsimp only at hSw); go_simp; (try with_reducible rfl))
                simp only [Act.put, List.setIfInBounds_toArray, List.set_cons_zero, List.set_cons_succ]
                refine take_at 1 (v := ?_) (some 106) rfl rfl (by kernel_rfl) (by kernel_rfl) (by kernel_rfl) (fun _ _ _ h => h) (Or.inl ⟨by rfl, ?_⟩) hHeld ?_
                rotate_left
                · (intro w hSw; (try dsimp only at hSw); go_simp; (try with_reducible rfl))
                simp only [Act.put, List.setIfInBounds_toArray, List.set_cons_zero, List.set_cons_succ]
                refine take_at 2 (v := ?_) (some 107) rfl rfl (by kernel_rfl) (by kernel_rfl) (by kernel_rfl) (fun _ _ _ h => h) (Or.inl ⟨by rfl, ?_⟩) hHeld ?_
                rotate_left
                · (intro w hSw; (try dsimp only at hSw); go_simp; (try with_reducible rfl))
                simp only [Act.put, List.setIfInBounds_toArray, List.set_cons_zero, List.set_cons_succ]
                refine take_at 3 (v := ?_) (some 108) rfl rfl (by kernel_rfl) (by kernel_rfl) (by kernel_rfl) (fun _ _ _ h => h) (Or.inl ⟨by rfl, ?_⟩) hHeld ?_
                rotate_left
                · (intro w hSw; (try dsimp only at hSw); go_simp; (try with_reducible rfl))
                simp only [Act.put, List.setIfInBounds_toArray, List.set_cons_zero, List.set_cons_succ]
                refine take_at 4 (v := ?_) (some 109) rfl rfl (by kernel_rfl) (by kernel_rfl) (by kernel_rfl) (fun _ _ _ h => h) (Or.inl ⟨by rfl, ?_⟩) hHeld ?_
                rotate_left
                · (intro w hSw; (try dsimp only at hSw); go_simp; (try with_reducible rfl))
                simp only [Act.put, List.setIfInBounds_toArray, List.set_cons_zero, List.set_cons_succ]
                refine take_at 5 (v := ?_) (some 110) rfl rfl (by kernel_rfl) (by kernel_rfl) (by kernel_rfl) (fun _ _ _ h => h) (Or.inl ⟨by rfl, ?_⟩) hHeld ?_
                rotate_left
                · (intro w hSw; (try dsimp only at hSw); go_simp; (try with_reducible rfl))
                simp only [Act.put, List.setIfInBounds_toArray, List.set_cons_zero, List.set_cons_succ]
                refine take_at 7 (v := ?_) (some 112) rfl rfl (by kernel_rfl) (by kernel_rfl) (by kernel_rfl) (fun _ _ _ h => h) (Or.inl ⟨by rfl, ?_⟩) hHeld ?_
                rotate_left
                · (intro w hSw; (try dsimp only at hSw); go_simp; (try with_reducible rfl))
                simp only [Act.put, List.setIfInBounds_toArray, List.set_cons_zero, List.set_cons_succ]
                refine take_at 8 (v := ?_) (some 113) rfl rfl (by kernel_rfl) (by kernel_rfl) (by kernel_rfl) (fun _ _ _ h => h) (Or.inl ⟨by rfl, ?_⟩) hHeld ?_
                rotate_left
                · (intro w hSw; (try dsimp only at hSw); go_simp; (try with_reducible rfl))
                simp only [Act.put, List.setIfInBounds_toArray, List.set_cons_zero, List.set_cons_succ]
                refine take_at 9 (v := ?_) (some 114) rfl rfl (by kernel_rfl) (by kernel_rfl) (by kernel_rfl) (fun _ _ _ h => h) (Or.inl ⟨by rfl, ?_⟩) hHeld ?_
                rotate_left
                · (intro w hSw; (try dsimp only at hSw); go_simp; (try with_reducible rfl))
                simp only [Act.put, List.setIfInBounds_toArray, List.set_cons_zero, List.set_cons_succ]
                refine take_at 10 (v := ?_) (some 115) rfl rfl (by kernel_rfl) (by kernel_rfl) (by kernel_rfl) (fun _ _ _ h => h) (Or.inl ⟨by rfl, ?_⟩) hHeld ?_
                rotate_left
                · (intro w hSw; (try dsimp only at hSw); go_simp; (try with_reducible rfl))
                simp only [Act.put, List.setIfInBounds_toArray, List.set_cons_zero, List.set_cons_succ]
                refine take_at 11 (v := ?_) (some 116) rfl rfl (by kernel_rfl) (by kernel_rfl) (by kernel_rfl) (fun _ _ _ h => h) (Or.inl ⟨by rfl, ?_⟩) hHeld ?_
                rotate_left
                · (intro w hSw; (try dsimp only at hSw); go_simp; (try with_reducible rfl))
                simp only [Act.put, List.setIfInBounds_toArray, List.set_cons_zero, List.set_cons_succ]
                refine wpAnyH_ready (rs := [6]) (by kernel_rfl) (by simp) ?_
                refine AllReadyH.cons rfl (fun K hK => ?_) AllReadyH.nil
                go_simp
                have HPJ := pj_any 1 what words k m tp b g (jeAt L i).av (jeAt L i).A zs (jeAt L i).x wr.drew (by decide) HQ.out (by omega) (by omega) (show Ws wr.drew _ _ from HWA.out) (fun a c h h0 => by have := HWL.out a c h h0; have := HEL.out.2.2.2.2.1; have := HGE.out; have := HTP.out; omega) (show Pm wr.drew b g zs from HI.out.pm) HI.out.big HEL.out.1 (show Jn wr.drew tp 1 what words (jeAt L i).av (jeAt L i).x from HJP.out) (wordE what) (lword_any what)
                rw [HYE.out, HZE.out] at HPJ
                refine HPJ.mono ?_
                clear HPJ
                rintro e v1 ⟨rfl, hp, hm1, hf0⟩
                have hf : Fr [tp, g] wr v1 := ((Fr.refl _ wr).drew).trans hf0
                have HP1 := Lib.hid hp
                have HM1 := Lib.hid hm1
                have HF1 := Lib.hid hf
                have HR1 := Lib.hid (HJR.out.fr hf HNR.out.1)
                have HW1 := Lib.hid (rmfr HI.out.rm hf HNR.out.2.1 HNR.out.2.2)
                have HWA1 := Lib.hid (HEL.out.2.2.2.1.below ((HI.out.fr.from hf (fun x hx hl => by
                  simp only [List.mem_cons, List.not_mem_nil, or_false] at hx
                  rcases hx with rfl | rfl
                  · have := HEL.out.2.2.2.2.1; have := HTP.out; omega
                  · have := HGE.out; omega)).below))
                have HV0 := Lib.hid (show v1.cell? ⟨lx, i, none⟩ = some (.pointer (some ⟨tp, 0, none⟩)) ∧ v1.cell? ⟨ly, i, none⟩ = some (.pointer (some ⟨tr, 0, none⟩)) from ⟨cell_fr HS0.out hf (by simp only [List.mem_cons, List.not_mem_nil, or_false, not_or]; exact ⟨fun e => own_ne HX.out HJP.out (by decide) (e ▸ rowB_mem.2 rfl), fun e => own_ne HX.out HI.out.pm.2.1 (by decide) (e ▸ rowB_mem.2 rfl)⟩), cell_fr HS1.out hf (by simp only [List.mem_cons, List.not_mem_nil, or_false, not_or]; exact ⟨fun e => own_ne HY.out HJP.out (by decide) (e ▸ rowB_mem.2 rfl), fun e => own_ne HY.out HI.out.pm.2.1 (by decide) (e ▸ rowB_mem.2 rfl)⟩)⟩)
                clear hp hm1 hf hf0 s0 s1
                go_wp2_with fail
                refine hK.out _ _ ?_ (fun hHeld => ?_)
                · exact HV0.out
                clear hK K
                try simp only [Act.put, List.setIfInBounds_toArray, List.set_cons_zero, List.set_cons_succ]
                refine wpAnyH_ready (rs := [12]) (by kernel_rfl) (by simp) ?_
                refine AllReadyH.cons rfl (fun K hK => ?_) AllReadyH.nil
                go_simp
                have HRJ := rj_any 1 what words k m tr bw gw (jeAt L i).av (jeAt L i).A zs (jeAt L i).x v1 (by decide) HQ.out (by omega) (by omega) HWA1.out (fun a c h h0 => by have := HWL.out a c h h0; have := HEL.out.2.2.2.2.2; have := HGE.out; have := HTR.out; omega) HW1.out HI.out.big HEL.out.1 HR1.out (wordE what) (rlword_any what)
                rw [HYE.out, HZE.out] at HRJ
                refine HRJ.mono ?_
                clear HRJ
                rintro e v2 ⟨rfl, hr, hw, hf⟩
                have HNP := Lib.hid (show tp ∉ [tr, gw] ∧ b ∉ [tr, gw] ∧ g ∉ [tr, gw] from ⟨by simp; exact ⟨Bk.ne HJP.out HJR.out (by decide), Bk.ne HJP.out HI.out.rm.2.1 (by decide)⟩, by simp; exact ⟨Bk.ne HI.out.pm.1 HJR.out (by decide), Bk.ne HI.out.pm.1 HI.out.rm.2.1 (by decide)⟩, by simp; exact ⟨Bk.ne HI.out.pm.2.1 HJR.out (by decide), HI.out.ne⟩⟩)
                have HFF := Lib.hid (show Fr [tp, tr, g, gw] wr v2 from (HF1.out.mono (by simp)).trans (hf.mono (by simp)))
                have HP2 := Lib.hid (HP1.out.fr hf HNP.out.1)
                have HR2 := Lib.hid hr
                have HMP := Lib.hid (show Pm v2 b g _ from ⟨HM1.out.1.fr hf HNP.out.2.1, HM1.out.2.1.fr hf HNP.out.2.2, HM1.out.2.2⟩)
                have HMW := Lib.hid hw
                have HV2 := Lib.hid (show v2.cell? ⟨lx, i, none⟩ = some (.pointer (some ⟨tp, 0, none⟩)) ∧ v2.cell? ⟨ly, i, none⟩ = some (.pointer (some ⟨tr, 0, none⟩)) from ⟨cell_fr HV0.out.1 hf (by simp only [List.mem_cons, List.not_mem_nil, or_false, not_or]; exact ⟨fun e => own_ne HX.out HJR.out (by decide) (e ▸ rowB_mem.2 rfl), fun e => own_ne HX.out HI.out.rm.2.1 (by decide) (e ▸ rowB_mem.2 rfl)⟩), cell_fr HV0.out.2 hf (by simp only [List.mem_cons, List.not_mem_nil, or_false, not_or]; exact ⟨fun e => own_ne HY.out HJR.out (by decide) (e ▸ rowB_mem.2 rfl), fun e => own_ne HY.out HI.out.rm.2.1 (by decide) (e ▸ rowB_mem.2 rfl)⟩)⟩)
                clear hr hw hf
                go_wp2_with fail
                refine hK.out _ _ ?_ (fun hHeld => ?_)
                · exact HV2.out
                clear hK K
                try simp only [Act.put, List.setIfInBounds_toArray, List.set_cons_zero, List.set_cons_succ]
                refine wpAnyH_weaken (S' := (fun w' => (w'.cell? ⟨lx, i, none⟩ = some (.pointer (some ⟨tp, 0, none⟩)) ∧ w'.cell? ⟨ly, i, none⟩ = some (.pointer (some ⟨tr, 0, none⟩))) ∧ w'.cell? ⟨tp, 4, none⟩ = some (.bool y.ch) ∧ w'.cell? ⟨tp, 5, none⟩ = some (.bool y.en) ∧ w'.cell? ⟨tp, 6, none⟩ = some (.int .i64 y.tries) ∧ w'.cell? ⟨tr, 7, none⟩ = some (.bool y.ch) ∧ w'.cell? ⟨tr, 8, none⟩ = some (.bool y.en) ∧ w'.cell? ⟨tr, 9, none⟩ = some (.int .i64 y.tries))) (fun _ h => h.1) _ _ _ _ ?_
                replace hHeld : (fun w' => (w'.cell? ⟨lx, i, none⟩ = some (.pointer (some ⟨tp, 0, none⟩)) ∧ w'.cell? ⟨ly, i, none⟩ = some (.pointer (some ⟨tr, 0, none⟩))) ∧ w'.cell? ⟨tp, 4, none⟩ = some (.bool y.ch) ∧ w'.cell? ⟨tp, 5, none⟩ = some (.bool y.en) ∧ w'.cell? ⟨tp, 6, none⟩ = some (.int .i64 y.tries) ∧ w'.cell? ⟨tr, 7, none⟩ = some (.bool y.ch) ∧ w'.cell? ⟨tr, 8, none⟩ = some (.bool y.en) ∧ w'.cell? ⟨tr, 9, none⟩ = some (.int .i64 y.tries)) v2 := ⟨HV2.out, HP2.out.cell 4, HP2.out.cell 5, HP2.out.cell 6, HR2.out.cell 7, HR2.out.cell 8, HR2.out.cell 9⟩
                refine take_at 13 (v := ?_) (some 118) rfl rfl (by kernel_rfl) (by kernel_rfl) (by kernel_rfl) (fun _ _ _ h => h) (Or.inl ⟨by rfl, ?_⟩) hHeld ?_
                rotate_left
                · (intro w hSw; (try dsimp only at hSw); go_simp; (try with_reducible rfl))
                simp only [Act.put, List.setIfInBounds_toArray, List.set_cons_zero, List.set_cons_succ]
                refine take_at 14 (v := ?_) (some 119) rfl rfl (by kernel_rfl) (by kernel_rfl) (by kernel_rfl) (fun _ _ _ h => h) (Or.inl ⟨by rfl, ?_⟩) hHeld ?_
                rotate_left
                · (intro w hSw; (try dsimp only at hSw); go_simp; (try with_reducible rfl))
                simp only [Act.put, List.setIfInBounds_toArray, List.set_cons_zero, List.set_cons_succ]
                refine take_at 15 (v := ?_) (some 120) rfl rfl (by kernel_rfl) (by kernel_rfl) (by kernel_rfl) (fun _ _ _ h => h) (Or.inl ⟨by rfl, ?_⟩) hHeld ?_
                rotate_left
                · (intro w hSw; (try dsimp only at hSw); go_simp; (try with_reducible rfl))
                simp only [Act.put, List.setIfInBounds_toArray, List.set_cons_zero, List.set_cons_succ]
                refine take_at 16 (v := ?_) (some 121) rfl rfl (by kernel_rfl) (by kernel_rfl) (by kernel_rfl) (fun _ _ _ h => h) (Or.inl ⟨by rfl, ?_⟩) hHeld ?_
                rotate_left
                · (intro w hSw; (try dsimp only at hSw); go_simp; (try with_reducible rfl))
                simp only [Act.put, List.setIfInBounds_toArray, List.set_cons_zero, List.set_cons_succ]
                refine take_at 17 (v := ?_) (some 122) rfl rfl (by kernel_rfl) (by kernel_rfl) (by kernel_rfl) (fun _ _ _ h => h) (Or.inl ⟨by rfl, ?_⟩) hHeld ?_
                rotate_left
                · (intro w hSw; (try dsimp only at hSw); go_simp; (try with_reducible rfl))
                simp only [Act.put, List.setIfInBounds_toArray, List.set_cons_zero, List.set_cons_succ]
                refine take_at 18 (v := ?_) (some 123) rfl rfl (by kernel_rfl) (by kernel_rfl) (by kernel_rfl) (fun _ _ _ h => h) (Or.inl ⟨by rfl, ?_⟩) hHeld ?_
                rotate_left
                · (intro w hSw; (try dsimp only at hSw); go_simp; (try with_reducible rfl))
                simp only [Act.put, List.setIfInBounds_toArray, List.set_cons_zero, List.set_cons_succ]
                refine take_at 19 (v := ?_) (some 124) rfl rfl (by kernel_rfl) (by kernel_rfl) (by kernel_rfl) (fun _ _ _ h => h) (Or.inl ⟨by rfl, ?_⟩) hHeld ?_
                rotate_left
                · (intro w hSw; (try dsimp only at hSw); go_simp; (try with_reducible rfl))
                simp only [Act.put, List.setIfInBounds_toArray, List.set_cons_zero, List.set_cons_succ]
                refine take_at 20 (v := ?_) (some 125) rfl rfl (by kernel_rfl) (by kernel_rfl) (by kernel_rfl) (fun _ _ _ h => h) (Or.inl ⟨by rfl, ?_⟩) hHeld ?_
                rotate_left
                · (intro w hSw; (try dsimp only at hSw); go_simp; (try with_reducible rfl))
                simp only [Act.put, List.setIfInBounds_toArray, List.set_cons_zero, List.set_cons_succ]
                refine take_at 21 (v := ?_) (some 126) rfl rfl (by kernel_rfl) (by kernel_rfl) (by kernel_rfl) (fun _ _ _ h => h) (Or.inl ⟨by rfl, ?_⟩) hHeld ?_
                rotate_left
                · (intro w hSw; (try dsimp only at hSw); go_simp; (try with_reducible rfl))
                simp only [Act.put, List.setIfInBounds_toArray, List.set_cons_zero, List.set_cons_succ]
                refine take_at 22 (v := ?_) (some 127) rfl rfl (by kernel_rfl) (by kernel_rfl) (by kernel_rfl) (fun _ _ _ h => h) (Or.inl ⟨by rfl, ?_⟩) hHeld ?_
                rotate_left
                · (intro w hSw; (try dsimp only at hSw); go_simp; (try with_reducible rfl))
                simp only [Act.put, List.setIfInBounds_toArray, List.set_cons_zero, List.set_cons_succ]
                refine take_at 23 (v := ?_) (some 128) rfl rfl (by kernel_rfl) (by kernel_rfl) (by kernel_rfl) (fun _ _ _ h => h) (Or.inl ⟨by rfl, ?_⟩) hHeld ?_
                rotate_left
                · (intro w hSw; (try dsimp only at hSw); go_simp; (try with_reducible rfl))
                simp only [Act.put, List.setIfInBounds_toArray, List.set_cons_zero, List.set_cons_succ]
                refine take_at 24 (v := ?_) (some 129) rfl rfl (by kernel_rfl) (by kernel_rfl) (by kernel_rfl) (fun _ _ _ h => h) (Or.inl ⟨by rfl, ?_⟩) hHeld ?_
                rotate_left
                · (intro w hSw; (try dsimp only at hSw); go_simp; (try with_reducible rfl))
                simp only [Act.put, List.setIfInBounds_toArray, List.set_cons_zero, List.set_cons_succ]
                refine take_at 25 (v := ?_) (some 130) rfl rfl (by kernel_rfl) (by kernel_rfl) (by kernel_rfl) (fun _ _ _ h => h) (Or.inl ⟨by rfl, ?_⟩) hHeld ?_
                rotate_left
                · (intro w hSw; (try dsimp only at hSw); go_simp; (try with_reducible rfl))
                simp only [Act.put, List.setIfInBounds_toArray, List.set_cons_zero, List.set_cons_succ]
                refine take_at 26 (v := ?_) (some 131) rfl rfl (by kernel_rfl) (by kernel_rfl) (by kernel_rfl) (fun _ _ _ h => h) (Or.inl ⟨by rfl, ?_⟩) hHeld ?_
                rotate_left
                · (intro w hSw; (try dsimp only at hSw); go_simp; (try with_reducible rfl))
                simp only [Act.put, List.setIfInBounds_toArray, List.set_cons_zero, List.set_cons_succ]
                refine take_at 27 (v := ?_) (some 132) rfl rfl (by kernel_rfl) (by kernel_rfl) (by kernel_rfl) (fun _ _ _ h => h) (Or.inl ⟨by rfl, ?_⟩) hHeld ?_
                rotate_left
                · (intro w hSw; (try dsimp only at hSw); go_simp; (try with_reducible rfl))
                simp only [Act.put, List.setIfInBounds_toArray, List.set_cons_zero, List.set_cons_succ]
                refine take_at 28 (v := ?_) (some 133) rfl rfl (by kernel_rfl) (by kernel_rfl) (by kernel_rfl) (fun _ _ _ h => h) (Or.inl ⟨by rfl, ?_⟩) hHeld ?_
                rotate_left
                · (intro w hSw; (try dsimp only at hSw); go_simp; (try with_reducible rfl))
                simp only [Act.put, List.setIfInBounds_toArray, List.set_cons_zero, List.set_cons_succ]
                refine take_at 29 (v := ?_) (some 134) rfl rfl (by kernel_rfl) (by kernel_rfl) (by kernel_rfl) (fun _ _ _ h => h) (Or.inl ⟨by rfl, ?_⟩) hHeld ?_
                rotate_left
                · (intro w hSw; (try dsimp only at hSw); go_simp; (try with_reducible rfl))
                simp only [Act.put, List.setIfInBounds_toArray, List.set_cons_zero, List.set_cons_succ]
                refine take_at 30 (v := ?_) (some 135) rfl rfl (by kernel_rfl) (by kernel_rfl) (by kernel_rfl) (fun _ _ _ h => h) (Or.inl ⟨by rfl, ?_⟩) hHeld ?_
                rotate_left
                · (intro w hSw; (try dsimp only at hSw); go_simp; (try with_reducible rfl))
                simp only [Act.put, List.setIfInBounds_toArray, List.set_cons_zero, List.set_cons_succ]
                refine take_at 31 (v := ?_) (some 136) rfl rfl (by kernel_rfl) (by kernel_rfl) (by kernel_rfl) (fun _ _ _ h => h) (Or.inl ⟨by rfl, ?_⟩) hHeld ?_
                rotate_left
                · (intro w hSw; (try dsimp only at hSw); go_simp; (try with_reducible rfl))
                simp only [Act.put, List.setIfInBounds_toArray, List.set_cons_zero, List.set_cons_succ]
                refine take_at 32 (v := ?_) (some 137) rfl rfl (by kernel_rfl) (by kernel_rfl) (by kernel_rfl) (fun _ _ _ h => h) (Or.inl ⟨by rfl, ?_⟩) hHeld ?_
                rotate_left
                · (intro w hSw; (try dsimp only at hSw); go_simp; (try with_reducible rfl))
                simp only [Act.put, List.setIfInBounds_toArray, List.set_cons_zero, List.set_cons_succ]
                refine take_at 33 (v := ?_) (some 138) rfl rfl (by kernel_rfl) (by kernel_rfl) (by kernel_rfl) (fun _ _ _ h => h) (Or.inl ⟨by rfl, ?_⟩) hHeld ?_
                rotate_left
                · (intro w hSw; (try dsimp only at hSw); go_simp; (try with_reducible rfl))
                simp only [Act.put, List.setIfInBounds_toArray, List.set_cons_zero, List.set_cons_succ]
                refine take_at 34 (v := ?_) (some 139) rfl rfl (by kernel_rfl) (by kernel_rfl) (by kernel_rfl) (fun _ _ _ h => h) (Or.inl ⟨by rfl, ?_⟩) hHeld ?_
                rotate_left
                · (intro w hSw; (try dsimp only at hSw); go_simp; (try with_reducible rfl))
                simp only [Act.put, List.setIfInBounds_toArray, List.set_cons_zero, List.set_cons_succ]
                refine take_at 35 (v := ?_) (some 140) rfl rfl (by kernel_rfl) (by kernel_rfl) (by kernel_rfl) (fun _ _ _ h => h) (Or.inl ⟨by rfl, ?_⟩) hHeld ?_
                rotate_left
                · (intro w hSw; (try dsimp only at hSw); go_simp; (try with_reducible rfl))
                simp only [Act.put, List.setIfInBounds_toArray, List.set_cons_zero, List.set_cons_succ]
                refine take_at 36 (v := ?_) (some 141) rfl rfl (by kernel_rfl) (by kernel_rfl) (by kernel_rfl) (fun _ _ _ h => h) (Or.inl ⟨by rfl, ?_⟩) hHeld ?_
                rotate_left
                · (intro w hSw; (try dsimp only at hSw); go_simp; (try with_reducible rfl))
                simp only [Act.put, List.setIfInBounds_toArray, List.set_cons_zero, List.set_cons_succ]
                refine take_at 37 (v := ?_) (some 142) rfl rfl (by kernel_rfl) (by kernel_rfl) (by kernel_rfl) (fun _ _ _ h => h) (Or.inl ⟨by rfl, ?_⟩) hHeld ?_
                rotate_left
                · (intro w hSw; (try dsimp only at hSw); go_simp; (try with_reducible rfl))
                simp only [Act.put, List.setIfInBounds_toArray, List.set_cons_zero, List.set_cons_succ]
                refine take_at 38 (v := ?_) (some 143) rfl rfl (by kernel_rfl) (by kernel_rfl) (by kernel_rfl) (fun _ _ _ h => h) (Or.inl ⟨by rfl, ?_⟩) hHeld ?_
                rotate_left
                · (intro w hSw; (try dsimp only at hSw); go_simp; (try with_reducible rfl))
                simp only [Act.put, List.setIfInBounds_toArray, List.set_cons_zero, List.set_cons_succ]
                refine take_at 39 (v := ?_) (some 144) rfl rfl (by kernel_rfl) (by kernel_rfl) (by kernel_rfl) (fun _ _ _ h => h) (Or.inl ⟨by rfl, ?_⟩) hHeld ?_
                rotate_left
                · (intro w hSw; (try dsimp only at hSw); go_simp; (try with_reducible rfl))
                simp only [Act.put, List.setIfInBounds_toArray, List.set_cons_zero, List.set_cons_succ]
                refine take_at 40 (v := ?_) (some 145) rfl rfl (by kernel_rfl) (by kernel_rfl) (by kernel_rfl) (fun _ _ _ h => h) (Or.inl ⟨by rfl, ?_⟩) hHeld ?_
                rotate_left
                · (intro w hSw; (try dsimp only at hSw); go_simp; (try with_reducible rfl))
                simp only [Act.put, List.setIfInBounds_toArray, List.set_cons_zero, List.set_cons_succ]
                refine take_at 41 (v := ?_) (some 146) rfl rfl (by kernel_rfl) (by kernel_rfl) (by kernel_rfl) (fun _ _ _ h => h) (Or.inl ⟨by rfl, ?_⟩) hHeld ?_
                rotate_left
                · (intro w hSw; (try dsimp only at hSw); go_simp; (try with_reducible rfl))
                simp only [Act.put, List.setIfInBounds_toArray, List.set_cons_zero, List.set_cons_succ]
                refine take_at 42 (v := ?_) (some 147) rfl rfl (by kernel_rfl) (by kernel_rfl) (by kernel_rfl) (fun _ _ _ h => h) (Or.inl ⟨by rfl, ?_⟩) hHeld ?_
                rotate_left
                · (intro w hSw; (try dsimp only at hSw); go_simp; (try with_reducible rfl))
                simp only [Act.put, List.setIfInBounds_toArray, List.set_cons_zero, List.set_cons_succ]
                refine take_at 43 (v := ?_) (some 148) rfl rfl (by kernel_rfl) (by kernel_rfl) (by kernel_rfl) (fun _ _ _ h => h) (Or.inl ⟨by rfl, ?_⟩) hHeld ?_
                rotate_left
                · (intro w hSw; (try dsimp only at hSw); go_simp; (try with_reducible rfl))
                simp only [Act.put, List.setIfInBounds_toArray, List.set_cons_zero, List.set_cons_succ]
                refine take_at 44 (v := ?_) (some 149) rfl rfl (by kernel_rfl) (by kernel_rfl) (by kernel_rfl) (fun _ _ _ h => h) (Or.inl ⟨by rfl, ?_⟩) hHeld ?_
                rotate_left
                · (intro w hSw; (try dsimp only at hSw); go_simp; (try with_reducible rfl))
                simp only [Act.put, List.setIfInBounds_toArray, List.set_cons_zero, List.set_cons_succ]
                refine take_at 45 (v := ?_) (some 150) rfl rfl (by kernel_rfl) (by kernel_rfl) (by kernel_rfl) (fun _ _ _ h => h) (Or.inl ⟨by rfl, ?_⟩) hHeld ?_
                rotate_left
                · (intro w hSw; (try dsimp only at hSw); go_simp; (try with_reducible rfl))
                simp only [Act.put, List.setIfInBounds_toArray, List.set_cons_zero, List.set_cons_succ]
                refine take_at 46 (v := ?_) (some 151) rfl rfl (by kernel_rfl) (by kernel_rfl) (by kernel_rfl) (fun _ _ _ h => h) (Or.inl ⟨by rfl, ?_⟩) hHeld ?_
                rotate_left
                · (intro w hSw; (try dsimp only at hSw); go_simp; (try with_reducible rfl))
                simp only [Act.put, List.setIfInBounds_toArray, List.set_cons_zero, List.set_cons_succ]
                refine take_at 47 (v := ?_) (some 152) rfl rfl (by kernel_rfl) (by kernel_rfl) (by kernel_rfl) (fun _ _ _ h => h) (Or.inl ⟨by rfl, ?_⟩) hHeld ?_
                rotate_left
                · (intro w hSw; (try dsimp only at hSw); go_simp; (try with_reducible rfl))
                simp only [Act.put, List.setIfInBounds_toArray, List.set_cons_zero, List.set_cons_succ]
                refine take_at 48 (v := ?_) (some 153) rfl rfl (by kernel_rfl) (by kernel_rfl) (by kernel_rfl) (fun _ _ _ h => h) (Or.inl ⟨by rfl, ?_⟩) hHeld ?_
                rotate_left
                · (intro w hSw; (try dsimp only at hSw); go_simp; (try with_reducible rfl))
                simp only [Act.put, List.setIfInBounds_toArray, List.set_cons_zero, List.set_cons_succ]
                refine take_at 49 (v := ?_) (some 154) rfl rfl (by kernel_rfl) (by kernel_rfl) (by kernel_rfl) (fun _ _ _ h => h) (Or.inl ⟨by rfl, ?_⟩) hHeld ?_
                rotate_left
                · (intro w hSw; (try dsimp only at hSw); go_simp; (try with_reducible rfl))
                simp only [Act.put, List.setIfInBounds_toArray, List.set_cons_zero, List.set_cons_succ]
                refine take_at 50 (v := ?_) (some 155) rfl rfl (by kernel_rfl) (by kernel_rfl) (by kernel_rfl) (fun _ _ _ h => h) (Or.inl ⟨by rfl, ?_⟩) hHeld ?_
                rotate_left
                · (intro w hSw; (try dsimp only at hSw); go_simp; (try with_reducible rfl))
                simp only [Act.put, List.setIfInBounds_toArray, List.set_cons_zero, List.set_cons_succ]
                refine take_at 51 (v := ?_) (some 156) rfl rfl (by kernel_rfl) (by kernel_rfl) (by kernel_rfl) (fun _ _ _ h => h) (Or.inl ⟨by rfl, ?_⟩) hHeld ?_
                rotate_left
                · (intro w hSw; (try dsimp only at hSw); go_simp; (try with_reducible rfl))
                simp only [Act.put, List.setIfInBounds_toArray, List.set_cons_zero, List.set_cons_succ]
                refine take_at 52 (v := ?_) (some 157) rfl rfl (by kernel_rfl) (by kernel_rfl) (by kernel_rfl) (fun _ _ _ h => h) (Or.inl ⟨by rfl, ?_⟩) hHeld ?_
                rotate_left
                · (intro w hSw; (try dsimp only at hSw); go_simp; (try with_reducible rfl))
                simp only [Act.put, List.setIfInBounds_toArray, List.set_cons_zero, List.set_cons_succ]
                refine take_at 53 (v := ?_) (some 158) rfl rfl (by kernel_rfl) (by kernel_rfl) (by kernel_rfl) (fun _ _ _ h => h) (Or.inl ⟨by rfl, ?_⟩) hHeld ?_
                rotate_left
                · (intro w hSw; (try dsimp only at hSw); go_simp; (try with_reducible rfl))
                simp only [Act.put, List.setIfInBounds_toArray, List.set_cons_zero, List.set_cons_succ]
                refine take_at 54 (v := ?_) (some 159) rfl rfl (by kernel_rfl) (by kernel_rfl) (by kernel_rfl) (fun _ _ _ h => h) (Or.inl ⟨by rfl, ?_⟩) hHeld ?_
                rotate_left
                · (intro w hSw; (try dsimp only at hSw); go_simp; (try with_reducible rfl))
                simp only [Act.put, List.setIfInBounds_toArray, List.set_cons_zero, List.set_cons_succ]
                refine take_at 55 (v := ?_) (some 160) rfl rfl (by kernel_rfl) (by kernel_rfl) (by kernel_rfl) (fun _ _ _ h => h) (Or.inl ⟨by rfl, ?_⟩) hHeld ?_
                rotate_left
                · (intro w hSw; (try dsimp only at hSw); go_simp; (try with_reducible rfl))
                simp only [Act.put, List.setIfInBounds_toArray, List.set_cons_zero, List.set_cons_succ]
                refine take_at 56 (v := ?_) (some 161) rfl rfl (by kernel_rfl) (by kernel_rfl) (by kernel_rfl) (fun _ _ _ h => h) (Or.inl ⟨by rfl, ?_⟩) hHeld ?_
                rotate_left
                · (intro w hSw; (try dsimp only at hSw); go_simp; (try with_reducible rfl))
                simp only [Act.put, List.setIfInBounds_toArray, List.set_cons_zero, List.set_cons_succ]
                refine take_at 57 (v := ?_) (some 162) rfl rfl (by kernel_rfl) (by kernel_rfl) (by kernel_rfl) (fun _ _ _ h => h) (Or.inl ⟨by rfl, ?_⟩) hHeld ?_
                rotate_left
                · (intro w hSw; (try dsimp only at hSw); go_simp; (try with_reducible rfl))
                simp only [Act.put, List.setIfInBounds_toArray, List.set_cons_zero, List.set_cons_succ]
                refine take_at 58 (v := ?_) (some 163) rfl rfl (by kernel_rfl) (by kernel_rfl) (by kernel_rfl) (fun _ _ _ h => h) (Or.inl ⟨by rfl, ?_⟩) hHeld ?_
                rotate_left
                · (intro w hSw; (try dsimp only at hSw); go_simp; (try with_reducible rfl))
                simp only [Act.put, List.setIfInBounds_toArray, List.set_cons_zero, List.set_cons_succ]
                refine take_at 59 (v := ?_) (some 164) rfl rfl (by kernel_rfl) (by kernel_rfl) (by kernel_rfl) (fun _ _ _ h => h) (Or.inl ⟨by rfl, ?_⟩) hHeld ?_
                rotate_left
                · (intro w hSw; (try dsimp only at hSw); go_simp; (try with_reducible rfl))
                simp only [Act.put, List.setIfInBounds_toArray, List.set_cons_zero, List.set_cons_succ]
                refine take_at 60 (v := ?_) (some 165) rfl rfl (by kernel_rfl) (by kernel_rfl) (by kernel_rfl) (fun _ _ _ h => h) (Or.inl ⟨by rfl, ?_⟩) hHeld ?_
                rotate_left
                · (intro w hSw; (try dsimp only at hSw); go_simp; (try with_reducible rfl))
                simp only [Act.put, List.setIfInBounds_toArray, List.set_cons_zero, List.set_cons_succ]
                refine take_at 61 (v := ?_) (some 166) rfl rfl (by kernel_rfl) (by kernel_rfl) (by kernel_rfl) (fun _ _ _ h => h) (Or.inl ⟨by rfl, ?_⟩) hHeld ?_
                rotate_left
                · (intro w hSw; (try dsimp only at hSw); go_simp; (try with_reducible rfl))
                simp only [Act.put, List.setIfInBounds_toArray, List.set_cons_zero, List.set_cons_succ]
                refine take_at 62 (v := ?_) (some 167) rfl rfl (by kernel_rfl) (by kernel_rfl) (by kernel_rfl) (fun _ _ _ h => h) (Or.inl ⟨by rfl, ?_⟩) hHeld ?_
                rotate_left
                · (intro w hSw; (try dsimp only at hSw); go_simp; (try with_reducible rfl))
                simp only [Act.put, List.setIfInBounds_toArray, List.set_cons_zero, List.set_cons_succ]
                refine take_at 63 (v := ?_) (some 168) rfl rfl (by kernel_rfl) (by kernel_rfl) (by kernel_rfl) (fun _ _ _ h => h) (Or.inl ⟨by rfl, ?_⟩) hHeld ?_
                rotate_left
                · (intro w hSw; (try dsimp only at hSw); go_simp; (try with_reducible rfl))
                simp only [Act.put, List.setIfInBounds_toArray, List.set_cons_zero, List.set_cons_succ]
                refine take_at 64 (v := ?_) (some 169) rfl rfl (by kernel_rfl) (by kernel_rfl) (by kernel_rfl) (fun _ _ _ h => h) (Or.inl ⟨by rfl, ?_⟩) hHeld ?_
                rotate_left
                · (intro w hSw; (try dsimp only at hSw); go_simp; (try with_reducible rfl))
                simp only [Act.put, List.setIfInBounds_toArray, List.set_cons_zero, List.set_cons_succ]
                refine wpAnyH_done (by kernel_rfl) ?_ _
                clear hHeld
                have HI2 := Lib.hid (HI.out.move hiL HOKY.out HZ64.out (by rw [HZLN.out]; exact HI.out.len) (by rw [← HTP.out]; exact HP2.out) (by rw [← HTR.out]; exact HR2.out) HMP.out HMW.out (by rw [← HTP.out, ← HTR.out]; exact HFF.out))
                have HAP := fun (T : TypeId) (v : Value) (n : Nat) (xs : List Value) (ho : wr.ownsRow W.heap.size T 1 v n xs) (h1 : 129 ≠ T) (h2 : 132 ≠ T) (h3 : 29 ≠ T) => own_fr ho HFF.out (fun z hz hm => by
                  have hz := rowB_mem.2 hz
                  simp only [List.mem_cons, List.not_mem_nil, or_false] at hm
                  rcases hm with rfl | rfl | rfl | rfl
                  · exact own_ne ho HJP.out h1 hz
                  · exact own_ne ho HJR.out h2 hz
                  · exact own_ne ho HI.out.pm.2.1 h3 hz
                  · exact own_ne ho HI.out.rm.2.1 h3 hz)
                have HX2 := Lib.hid (show v2.ownsRow W.heap.size 125 1 (.slice (some ⟨lx, 0, none⟩) ls.length cx) ls.length (pjc (L.set i ⟨y, (jeAt L i).A, (jeAt L i).av, (jeAt L i).pb, (jeAt L i).rb⟩)) from by
                  rw [show pjc (L.set i ⟨y, (jeAt L i).A, (jeAt L i).av, (jeAt L i).pb, (jeAt L i).rb⟩) = pjc L from jset_same (fun e => Value.pointer (some ⟨e.pb, 0, none⟩)) L i ⟨y, (jeAt L i).A, (jeAt L i).av, (jeAt L i).pb, (jeAt L i).rb⟩ hiL rfl]
                  exact HAP _ _ _ _ HX.out (by decide) (by decide) (by decide))
                have HY2 := Lib.hid (show v2.ownsRow W.heap.size 130 1 (.slice (some ⟨ly, 0, none⟩) ls.length cy) ls.length (rjc (L.set i ⟨y, (jeAt L i).A, (jeAt L i).av, (jeAt L i).pb, (jeAt L i).rb⟩)) from by
                  rw [show rjc (L.set i ⟨y, (jeAt L i).A, (jeAt L i).av, (jeAt L i).pb, (jeAt L i).rb⟩) = rjc L from jset_same (fun e => Value.pointer (some ⟨e.rb, 0, none⟩)) L i ⟨y, (jeAt L i).A, (jeAt L i).av, (jeAt L i).pb, (jeAt L i).rb⟩ hiL rfl]
                  exact HAP _ _ _ _ HY.out (by decide) (by decide) (by decide))
                have HC2 := Lib.hid (HC.out.fr HFF.out (by
                  simp only [List.mem_cons, List.not_mem_nil, or_false, not_or]
                  exact ⟨Bk.ne HC.out HJP.out (by decide), Bk.ne HC.out HJR.out (by decide), Bk.ne HC.out HI.out.pm.2.1 (by decide), Bk.ne HC.out HI.out.rm.2.1 (by decide)⟩))
                have HLN := Lib.hid (show (L.set i ⟨y, (jeAt L i).A, (jeAt L i).av, (jeAt L i).pb, (jeAt L i).rb⟩).length = ls.length by rw [List.length_set]; exact HLJ.out)
                clear HAP
                go_wp2_with fail
                go_roundw
                case rel => exact ⟨m + 1, by omega, by go_num, _, _, HLN.out, HI2.out, HX2.out, HY2.out, HC2.out⟩
                case measure => simp [intOf]; omega
              · have h0l : ls.length = 0 := by omega
                have h0d : ((ls.length : Int) == 0) = true := by simp only [beq_iff_eq]; omega
                clear hX hY
                have t0 : wr.drew.cell? ⟨cb, 0, none⟩ = some (.int .i64 1) := HC.out.cell 0
                have t1 : wr.drew.cell? ⟨cb, 1, none⟩ = some (.int .i64 what) := HC.out.cell 1
                have t2 : wr.drew.cell? ⟨cb, 2, none⟩ = some (.int .i64 words) := HC.out.cell 2
                have t3 : wr.drew.cell? ⟨bw, 0, none⟩ = some (.slice (some ⟨gw, 0, none⟩) 7 7) := by have h := HI.out.rm.row; rw [HI.out.len] at h; exact h
                have hzl : zs.length = 7 := HI.out.len
                have HRM := Lib.hid (show Rm wr.drew bw gw zs from HI.out.rm)
                have HLT := Lib.hid (show gw < wr.heap.size from HI.out.rm.2.1.lt)
                have HGL := Lib.hid (show (getE zs 1 k).length = k by simp [getE])
                have HNQ := Lib.hid (show cb ∉ [gw] ∧ bw ∉ [gw] ∧ b ∉ [gw] ∧ g ∉ [gw] from ⟨by simp; exact Bk.ne HC.out HI.out.rm.2.1 (by decide), by simp; exact Bk.ne HI.out.rm.1 HI.out.rm.2.1 (by decide), by simp; exact Bk.ne HI.out.pm.1 HI.out.rm.2.1 (by decide), by simp; exact HI.out.ne⟩)
                go_wp2_with fail
                refine wp_region_held_drew (S := (fun w' => (w'.cell? ⟨cb, 0, none⟩ = some (.int .i64 1) ∧ w'.cell? ⟨cb, 1, none⟩ = some (.int .i64 what) ∧ w'.cell? ⟨cb, 2, none⟩ = some (.int .i64 words) ∧ w'.cell? ⟨bw, 0, none⟩ = some (.slice (some ⟨gw, 0, none⟩) 7 7)) ∧ Fr [gw] wr w')) (by kernel_rfl) ?_ (fun hHeld => ?_)
                · exact ⟨⟨t0, t1, t2, t3⟩, (Fr.refl _ _).drew⟩
                refine take_at 0 (v := ?_) (some 171) rfl rfl (by kernel_rfl) (by kernel_rfl) (by kernel_rfl) (fun _ _ _ h => h) (Or.inl ⟨by rfl, ?_⟩) hHeld ?_
                rotate_left
                · (intro w hSw; (try dsimp only at hSw); go_simp; (try with_reducible rfl))
                simp only [Act.put, List.setIfInBounds_toArray, List.set_cons_zero, List.set_cons_succ]
                refine take_at 1 (v := ?_) (some 172) rfl rfl (by kernel_rfl) (by kernel_rfl) (by kernel_rfl) (fun _ _ _ h => h) (Or.inl ⟨by rfl, ?_⟩) hHeld ?_
                rotate_left
                · (intro w hSw; (try dsimp only at hSw); go_simp; (try with_reducible rfl))
                simp only [Act.put, List.setIfInBounds_toArray, List.set_cons_zero, List.set_cons_succ]
                refine take_at 3 (v := ?_) (some 174) rfl rfl (by kernel_rfl) (by kernel_rfl) (by kernel_rfl) (fun _ _ _ h => h) (Or.inl ⟨by rfl, ?_⟩) hHeld ?_
                rotate_left
                · (intro w hSw; (try dsimp only at hSw); go_simp; (try with_reducible rfl))
                simp only [Act.put, List.setIfInBounds_toArray, List.set_cons_zero, List.set_cons_succ]
                refine take_at 4 (v := ?_) (some 175) rfl rfl (by kernel_rfl) (by kernel_rfl) (by kernel_rfl) (fun _ _ _ h => h) (Or.inl ⟨by rfl, ?_⟩) hHeld ?_
                rotate_left
                · (intro w hSw; (try dsimp only at hSw); go_simp; (try with_reducible rfl))
                simp only [Act.put, List.setIfInBounds_toArray, List.set_cons_zero, List.set_cons_succ]
                refine take_at 5 (v := ?_) (some 176) rfl rfl (by kernel_rfl) (by kernel_rfl) (by kernel_rfl) (fun _ _ _ h => h) (Or.inl ⟨by rfl, ?_⟩) hHeld ?_
                rotate_left
                · (intro w hSw; (try dsimp only at hSw); go_simp; (try with_reducible rfl))
                simp only [Act.put, List.setIfInBounds_toArray, List.set_cons_zero, List.set_cons_succ]
                refine take_at 6 (v := ?_) (some 177) rfl rfl (by kernel_rfl) (by kernel_rfl) (by kernel_rfl) (fun _ _ _ h => h) (Or.inl ⟨by rfl, ?_⟩) hHeld ?_
                rotate_left
                · (intro w hSw; (try dsimp only at hSw); go_simp; (try with_reducible rfl))
                simp only [Act.put, List.setIfInBounds_toArray, List.set_cons_zero, List.set_cons_succ]
                refine wpAnyH_ready (rs := [2]) (by kernel_rfl) (by simp) ?_
                refine AllReadyH.cons rfl (fun K hK => ?_) AllReadyH.nil
                go_simp
                refine (all_any b g zs _ (show Pm _ b g zs from ⟨HI.out.pm.1.fr hHeld.2 HNQ.out.2.2.1, HI.out.pm.2.1.fr hHeld.2 HNQ.out.2.2.2, HI.out.pm.2.2⟩)).mono ?_; rintro e v6 ⟨va, rfl, hU, hB⟩; have HU := Lib.hid hU; have HRM := Lib.hid (HRM.out.below hB); have HUW := Lib.hid (show Us v6 (.slice (some ⟨gw, 0, none⟩) 7 7) zs from by have h := Us.of_bk HRM.out.2.1 7; rwa [HI.out.len] at h); have HFx := Lib.hid (show Fr [gw] _ _ from Fr.of hB); clear hU hB
                go_wp2_with fail
                refine hK.out _ _ ?_ (fun hHeld => ?_)
                · exact ⟨⟨cell_fr hHeld.1.1 HFx.out HNQ.out.1, cell_fr hHeld.1.2.1 HFx.out HNQ.out.1, cell_fr hHeld.1.2.2.1 HFx.out HNQ.out.1, cell_fr hHeld.1.2.2.2 HFx.out HNQ.out.2.1⟩, hHeld.2.trans HFx.out⟩
                clear hK K
                try simp only [Act.put, List.setIfInBounds_toArray, List.set_cons_zero, List.set_cons_succ]
                refine wpAnyH_ready (rs := [7]) (by kernel_rfl) (by simp) ?_
                refine AllReadyH.cons rfl (fun K hK => ?_) AllReadyH.nil
                go_simp
                refine (us_any _ _ zs zs _ HU.out HUW.out (by omega) (by omega)).mono ?_; rintro e v7 ⟨rfl, nq, hww⟩; subst v7; rw [show decide (zs = zs) = true from decide_eq_true rfl]; have hB := bel_drewN (Below.refl v6.heap.size v6) nq; have HRM := Lib.hid (HRM.out.below hB); have HFx := Lib.hid (show Fr [gw] _ _ from Fr.of hB); clear hB
                go_wp2_with fail
                refine hK.out _ _ ?_ (fun hHeld => ?_)
                · exact ⟨⟨cell_fr hHeld.1.1 HFx.out HNQ.out.1, cell_fr hHeld.1.2.1 HFx.out HNQ.out.1, cell_fr hHeld.1.2.2.1 HFx.out HNQ.out.1, cell_fr hHeld.1.2.2.2 HFx.out HNQ.out.2.1⟩, hHeld.2.trans HFx.out⟩
                clear hK K
                try simp only [Act.put, List.setIfInBounds_toArray, List.set_cons_zero, List.set_cons_succ]
                refine take_at 8 (v := ?_) (some 179) rfl rfl (by kernel_rfl) (by kernel_rfl) (by kernel_rfl) (fun _ _ _ h => h) (Or.inl ⟨by rfl, ?_⟩) hHeld ?_
                rotate_left
                · (intro w hSw; (try dsimp only at hSw); go_simp; (try with_reducible rfl))
                simp only [Act.put, List.setIfInBounds_toArray, List.set_cons_zero, List.set_cons_succ]
                refine take_at 9 (v := ?_) (some 180) rfl rfl (by kernel_rfl) (by kernel_rfl) (by kernel_rfl) (fun _ _ _ h => h) (Or.inl ⟨by rfl, ?_⟩) hHeld ?_
                rotate_left
                · (intro w hSw; (try dsimp only at hSw); go_simp; (try with_reducible rfl))
                simp only [Act.put, List.setIfInBounds_toArray, List.set_cons_zero, List.set_cons_succ]
                refine take_at 10 (v := ?_) (some 181) rfl rfl (by kernel_rfl) (by kernel_rfl) (by kernel_rfl) (fun _ _ _ h => h) (Or.inl ⟨by rfl, ?_⟩) hHeld ?_
                rotate_left
                · (intro w hSw; (try dsimp only at hSw); go_simp; (try with_reducible rfl))
                simp only [Act.put, List.setIfInBounds_toArray, List.set_cons_zero, List.set_cons_succ]
                refine take_at 11 (v := ?_) (some 182) rfl rfl (by kernel_rfl) (by kernel_rfl) (by kernel_rfl) (fun _ _ _ h => h) (Or.inl ⟨by rfl, ?_⟩) hHeld ?_
                rotate_left
                · (intro w hSw; (try dsimp only at hSw); go_simp; (try with_reducible rfl))
                simp only [Act.put, List.setIfInBounds_toArray, List.set_cons_zero, List.set_cons_succ]
                refine take_at 13 (v := ?_) (some 184) rfl rfl (by kernel_rfl) (by kernel_rfl) (by kernel_rfl) (fun _ _ _ h => h) (Or.inl ⟨by rfl, ?_⟩) hHeld ?_
                rotate_left
                · (intro w hSw; (try dsimp only at hSw); go_simp; (try with_reducible rfl))
                simp only [Act.put, List.setIfInBounds_toArray, List.set_cons_zero, List.set_cons_succ]
                refine take_at 14 (v := ?_) (some 185) rfl rfl (by kernel_rfl) (by kernel_rfl) (by kernel_rfl) (fun _ _ _ h => h) (Or.inl ⟨by rfl, ?_⟩) hHeld ?_
                rotate_left
                · (intro w hSw; (try dsimp only at hSw); go_simp; (try with_reducible rfl))
                simp only [Act.put, List.setIfInBounds_toArray, List.set_cons_zero, List.set_cons_succ]
                refine wpAnyH_ready (rs := [12]) (by kernel_rfl) (by simp) ?_
                refine AllReadyH.cons rfl (fun K hK => ?_) AllReadyH.nil
                go_simp
                have HS8 := Lib.hid hHeld.2.size; refine (get_any 1 what words b g zs _ (by decide) (show Pm _ b g zs from ⟨HI.out.pm.1.fr hHeld.2 HNQ.out.2.2.1, HI.out.pm.2.1.fr hHeld.2 HNQ.out.2.2.2, HI.out.pm.2.2⟩)).mono ?_; rintro e v8 ⟨vg, rfl, hO, hB⟩; rw [HQ.out, Int.toNat_natCast] at hO; have HG8 := Lib.hid hO; have HRM := Lib.hid (HRM.out.below hB); have HFx := Lib.hid (show Fr [gw] _ _ from Fr.of hB); clear hO hB
                go_wp2_with fail
                refine hK.out _ _ ?_ (fun hHeld => ?_)
                · exact ⟨⟨cell_fr hHeld.1.1 HFx.out HNQ.out.1, cell_fr hHeld.1.2.1 HFx.out HNQ.out.1, cell_fr hHeld.1.2.2.1 HFx.out HNQ.out.1, cell_fr hHeld.1.2.2.2 HFx.out HNQ.out.2.1⟩, hHeld.2.trans HFx.out⟩
                clear hK K
                try simp only [Act.put, List.setIfInBounds_toArray, List.set_cons_zero, List.set_cons_succ]
                refine wpAnyH_ready (rs := [15]) (by kernel_rfl) (by simp) ?_
                refine AllReadyH.cons rfl (fun K hK => ?_) AllReadyH.nil
                go_simp
                refine (rget30_any 1 words k bw gw zs _ (by decide) HQ.out (by omega) HRM.out).mono ?_; rintro e v9 ⟨vh, rfl, hO, hM, hF⟩; have HH9 := Lib.hid (us_own hO HGL.out.symm); have HG9 := Lib.hid (us_own (own_fr HG8.out hF (fun j hj hm => by have h1 := (HG8.out.lt j hj).1; rw [List.mem_singleton.1 hm] at h1; have := HLT.out; have := HS8.out; omega)) HGL.out.symm); have HFx := Lib.hid hF; clear hO hM hF
                go_wp2_with fail
                refine hK.out _ _ ?_ (fun hHeld => ?_)
                · exact ⟨⟨cell_fr hHeld.1.1 HFx.out HNQ.out.1, cell_fr hHeld.1.2.1 HFx.out HNQ.out.1, cell_fr hHeld.1.2.2.1 HFx.out HNQ.out.1, cell_fr hHeld.1.2.2.2 HFx.out HNQ.out.2.1⟩, hHeld.2.trans HFx.out⟩
                clear hK K
                try simp only [Act.put, List.setIfInBounds_toArray, List.set_cons_zero, List.set_cons_succ]
                refine wpAnyH_ready (rs := [16]) (by kernel_rfl) (by simp) ?_
                refine AllReadyH.cons rfl (fun K hK => ?_) AllReadyH.nil
                go_simp
                refine (us_any _ _ (getE zs 1 k) (getE zs 1 k) _ HG9.out HH9.out (by rw [HGL.out]; omega) (by rw [HGL.out]; omega)).mono ?_; rintro e v10 ⟨rfl, nr, hww⟩; subst v10; rw [show decide (getE zs 1 k = getE zs 1 k) = true from decide_eq_true rfl]; have hB := bel_drewN (Below.refl v9.heap.size v9) nr; have HFx := Lib.hid (show Fr [gw] _ _ from Fr.of hB); clear hB
                go_wp2_with fail
                refine hK.out _ _ ?_ (fun hHeld => ?_)
                · exact ⟨⟨cell_fr hHeld.1.1 HFx.out HNQ.out.1, cell_fr hHeld.1.2.1 HFx.out HNQ.out.1, cell_fr hHeld.1.2.2.1 HFx.out HNQ.out.1, cell_fr hHeld.1.2.2.2 HFx.out HNQ.out.2.1⟩, hHeld.2.trans HFx.out⟩
                clear hK K
                try simp only [Act.put, List.setIfInBounds_toArray, List.set_cons_zero, List.set_cons_succ]
                refine take_at 17 (v := ?_) (some 188) rfl rfl (by kernel_rfl) (by kernel_rfl) (by kernel_rfl) (fun _ _ _ h => h) (Or.inl ⟨by rfl, ?_⟩) hHeld ?_
                rotate_left
                · (intro w hSw; (try dsimp only at hSw); go_simp; (try with_reducible rfl))
                simp only [Act.put, List.setIfInBounds_toArray, List.set_cons_zero, List.set_cons_succ]
                refine take_at 18 (v := ?_) (some 10) rfl rfl (by kernel_rfl) (by kernel_rfl) (by kernel_rfl) (fun _ _ _ h => h) (Or.inl ⟨by rfl, ?_⟩) hHeld ?_
                rotate_left
                · (intro w hSw; (try dsimp only at hSw); go_simp; (try with_reducible rfl))
                simp only [Act.put, List.setIfInBounds_toArray, List.set_cons_zero, List.set_cons_succ]
                refine wpAnyH_done (by kernel_rfl) ?_ _
                go_split_ands

                have HBF := Lib.hid (show Fr [gw] wr _ from by assumption)
                go_wp2_with fail
                go_ret
                exact ⟨rfl, (HI.out.fr.from HBF.out (fun i hi hl => by rw [List.mem_singleton.1 hi] at hl; have := HI.out.at'; omega)).below⟩
            · obtain rfl : m = O.length := by omega
              clear hX hY hlt hm
              have t0 : wr.drew.cell? ⟨cb, 0, none⟩ = some (.int .i64 1) := HC.out.cell 0
              have t1 : wr.drew.cell? ⟨cb, 1, none⟩ = some (.int .i64 what) := HC.out.cell 1
              have t2 : wr.drew.cell? ⟨cb, 2, none⟩ = some (.int .i64 words) := HC.out.cell 2
              have t3 : wr.drew.cell? ⟨bw, 0, none⟩ = some (.slice (some ⟨gw, 0, none⟩) 7 7) := by have h := HI.out.rm.row; rw [HI.out.len] at h; exact h
              have hzl : zs.length = 7 := HI.out.len
              have HRM := Lib.hid (show Rm wr.drew bw gw zs from HI.out.rm)
              have HLT := Lib.hid (show gw < wr.heap.size from HI.out.rm.2.1.lt)
              have HGL := Lib.hid (show (getE zs 1 k).length = k by simp [getE])
              have HNQ := Lib.hid (show cb ∉ [gw] ∧ bw ∉ [gw] ∧ b ∉ [gw] ∧ g ∉ [gw] from ⟨by simp; exact Bk.ne HC.out HI.out.rm.2.1 (by decide), by simp; exact Bk.ne HI.out.rm.1 HI.out.rm.2.1 (by decide), by simp; exact Bk.ne HI.out.pm.1 HI.out.rm.2.1 (by decide), by simp; exact HI.out.ne⟩)
              go_wp2_with fail
              refine wp_region_held_drew (S := (fun w' => (w'.cell? ⟨cb, 0, none⟩ = some (.int .i64 1) ∧ w'.cell? ⟨cb, 1, none⟩ = some (.int .i64 what) ∧ w'.cell? ⟨cb, 2, none⟩ = some (.int .i64 words) ∧ w'.cell? ⟨bw, 0, none⟩ = some (.slice (some ⟨gw, 0, none⟩) 7 7)) ∧ Fr [gw] wr w')) (by kernel_rfl) ?_ (fun hHeld => ?_)
              · exact ⟨⟨t0, t1, t2, t3⟩, (Fr.refl _ _).drew⟩
              refine take_at 0 (v := ?_) (some 171) rfl rfl (by kernel_rfl) (by kernel_rfl) (by kernel_rfl) (fun _ _ _ h => h) (Or.inl ⟨by rfl, ?_⟩) hHeld ?_
              rotate_left
              · (intro w hSw; (try dsimp only at hSw); go_simp; (try with_reducible rfl))
              simp only [Act.put, List.setIfInBounds_toArray, List.set_cons_zero, List.set_cons_succ]
              refine take_at 1 (v := ?_) (some 172) rfl rfl (by kernel_rfl) (by kernel_rfl) (by kernel_rfl) (fun _ _ _ h => h) (Or.inl ⟨by rfl, ?_⟩) hHeld ?_
              rotate_left
              · (intro w hSw; (try dsimp only at hSw); go_simp; (try with_reducible rfl))
              simp only [Act.put, List.setIfInBounds_toArray, List.set_cons_zero, List.set_cons_succ]
              refine take_at 3 (v := ?_) (some 174) rfl rfl (by kernel_rfl) (by kernel_rfl) (by kernel_rfl) (fun _ _ _ h => h) (Or.inl ⟨by rfl, ?_⟩) hHeld ?_
              rotate_left
              · (intro w hSw; (try dsimp only at hSw); go_simp; (try with_reducible rfl))
              simp only [Act.put, List.setIfInBounds_toArray, List.set_cons_zero, List.set_cons_succ]
              refine take_at 4 (v := ?_) (some 175) rfl rfl (by kernel_rfl) (by kernel_rfl) (by kernel_rfl) (fun _ _ _ h => h) (Or.inl ⟨by rfl, ?_⟩) hHeld ?_
              rotate_left
              · (intro w hSw; (try dsimp only at hSw); go_simp; (try with_reducible rfl))
              simp only [Act.put, List.setIfInBounds_toArray, List.set_cons_zero, List.set_cons_succ]
              refine take_at 5 (v := ?_) (some 176) rfl rfl (by kernel_rfl) (by kernel_rfl) (by kernel_rfl) (fun _ _ _ h => h) (Or.inl ⟨by rfl, ?_⟩) hHeld ?_
              rotate_left
              · (intro w hSw; (try dsimp only at hSw); go_simp; (try with_reducible rfl))
              simp only [Act.put, List.setIfInBounds_toArray, List.set_cons_zero, List.set_cons_succ]
              refine take_at 6 (v := ?_) (some 177) rfl rfl (by kernel_rfl) (by kernel_rfl) (by kernel_rfl) (fun _ _ _ h => h) (Or.inl ⟨by rfl, ?_⟩) hHeld ?_
              rotate_left
              · (intro w hSw; (try dsimp only at hSw); go_simp; (try with_reducible rfl))
              simp only [Act.put, List.setIfInBounds_toArray, List.set_cons_zero, List.set_cons_succ]
              refine wpAnyH_ready (rs := [2]) (by kernel_rfl) (by simp) ?_
              refine AllReadyH.cons rfl (fun K hK => ?_) AllReadyH.nil
              go_simp
              refine (all_any b g zs _ (show Pm _ b g zs from ⟨HI.out.pm.1.fr hHeld.2 HNQ.out.2.2.1, HI.out.pm.2.1.fr hHeld.2 HNQ.out.2.2.2, HI.out.pm.2.2⟩)).mono ?_; rintro e v6 ⟨va, rfl, hU, hB⟩; have HU := Lib.hid hU; have HRM := Lib.hid (HRM.out.below hB); have HUW := Lib.hid (show Us v6 (.slice (some ⟨gw, 0, none⟩) 7 7) zs from by have h := Us.of_bk HRM.out.2.1 7; rwa [HI.out.len] at h); have HFx := Lib.hid (show Fr [gw] _ _ from Fr.of hB); clear hU hB
              go_wp2_with fail
              refine hK.out _ _ ?_ (fun hHeld => ?_)
              · exact ⟨⟨cell_fr hHeld.1.1 HFx.out HNQ.out.1, cell_fr hHeld.1.2.1 HFx.out HNQ.out.1, cell_fr hHeld.1.2.2.1 HFx.out HNQ.out.1, cell_fr hHeld.1.2.2.2 HFx.out HNQ.out.2.1⟩, hHeld.2.trans HFx.out⟩
              clear hK K
              try simp only [Act.put, List.setIfInBounds_toArray, List.set_cons_zero, List.set_cons_succ]
              refine wpAnyH_ready (rs := [7]) (by kernel_rfl) (by simp) ?_
              refine AllReadyH.cons rfl (fun K hK => ?_) AllReadyH.nil
              go_simp
              refine (us_any _ _ zs zs _ HU.out HUW.out (by omega) (by omega)).mono ?_; rintro e v7 ⟨rfl, nq, hww⟩; subst v7; rw [show decide (zs = zs) = true from decide_eq_true rfl]; have hB := bel_drewN (Below.refl v6.heap.size v6) nq; have HRM := Lib.hid (HRM.out.below hB); have HFx := Lib.hid (show Fr [gw] _ _ from Fr.of hB); clear hB
              go_wp2_with fail
              refine hK.out _ _ ?_ (fun hHeld => ?_)
              · exact ⟨⟨cell_fr hHeld.1.1 HFx.out HNQ.out.1, cell_fr hHeld.1.2.1 HFx.out HNQ.out.1, cell_fr hHeld.1.2.2.1 HFx.out HNQ.out.1, cell_fr hHeld.1.2.2.2 HFx.out HNQ.out.2.1⟩, hHeld.2.trans HFx.out⟩
              clear hK K
              try simp only [Act.put, List.setIfInBounds_toArray, List.set_cons_zero, List.set_cons_succ]
              refine take_at 8 (v := ?_) (some 179) rfl rfl (by kernel_rfl) (by kernel_rfl) (by kernel_rfl) (fun _ _ _ h => h) (Or.inl ⟨by rfl, ?_⟩) hHeld ?_
              rotate_left
              · (intro w hSw; (try dsimp only at hSw); go_simp; (try with_reducible rfl))
              simp only [Act.put, List.setIfInBounds_toArray, List.set_cons_zero, List.set_cons_succ]
              refine take_at 9 (v := ?_) (some 180) rfl rfl (by kernel_rfl) (by kernel_rfl) (by kernel_rfl) (fun _ _ _ h => h) (Or.inl ⟨by rfl, ?_⟩) hHeld ?_
              rotate_left
              · (intro w hSw; (try dsimp only at hSw); go_simp; (try with_reducible rfl))
              simp only [Act.put, List.setIfInBounds_toArray, List.set_cons_zero, List.set_cons_succ]
              refine take_at 10 (v := ?_) (some 181) rfl rfl (by kernel_rfl) (by kernel_rfl) (by kernel_rfl) (fun _ _ _ h => h) (Or.inl ⟨by rfl, ?_⟩) hHeld ?_
              rotate_left
              · (intro w hSw; (try dsimp only at hSw); go_simp; (try with_reducible rfl))
              simp only [Act.put, List.setIfInBounds_toArray, List.set_cons_zero, List.set_cons_succ]
              refine take_at 11 (v := ?_) (some 182) rfl rfl (by kernel_rfl) (by kernel_rfl) (by kernel_rfl) (fun _ _ _ h => h) (Or.inl ⟨by rfl, ?_⟩) hHeld ?_
              rotate_left
              · (intro w hSw; (try dsimp only at hSw); go_simp; (try with_reducible rfl))
              simp only [Act.put, List.setIfInBounds_toArray, List.set_cons_zero, List.set_cons_succ]
              refine take_at 13 (v := ?_) (some 184) rfl rfl (by kernel_rfl) (by kernel_rfl) (by kernel_rfl) (fun _ _ _ h => h) (Or.inl ⟨by rfl, ?_⟩) hHeld ?_
              rotate_left
              · (intro w hSw; (try dsimp only at hSw); go_simp; (try with_reducible rfl))
              simp only [Act.put, List.setIfInBounds_toArray, List.set_cons_zero, List.set_cons_succ]
              refine take_at 14 (v := ?_) (some 185) rfl rfl (by kernel_rfl) (by kernel_rfl) (by kernel_rfl) (fun _ _ _ h => h) (Or.inl ⟨by rfl, ?_⟩) hHeld ?_
              rotate_left
              · (intro w hSw; (try dsimp only at hSw); go_simp; (try with_reducible rfl))
              simp only [Act.put, List.setIfInBounds_toArray, List.set_cons_zero, List.set_cons_succ]
              refine wpAnyH_ready (rs := [12]) (by kernel_rfl) (by simp) ?_
              refine AllReadyH.cons rfl (fun K hK => ?_) AllReadyH.nil
              go_simp
              have HS8 := Lib.hid hHeld.2.size; refine (get_any 1 what words b g zs _ (by decide) (show Pm _ b g zs from ⟨HI.out.pm.1.fr hHeld.2 HNQ.out.2.2.1, HI.out.pm.2.1.fr hHeld.2 HNQ.out.2.2.2, HI.out.pm.2.2⟩)).mono ?_; rintro e v8 ⟨vg, rfl, hO, hB⟩; rw [HQ.out, Int.toNat_natCast] at hO; have HG8 := Lib.hid hO; have HRM := Lib.hid (HRM.out.below hB); have HFx := Lib.hid (show Fr [gw] _ _ from Fr.of hB); clear hO hB
              go_wp2_with fail
              refine hK.out _ _ ?_ (fun hHeld => ?_)
              · exact ⟨⟨cell_fr hHeld.1.1 HFx.out HNQ.out.1, cell_fr hHeld.1.2.1 HFx.out HNQ.out.1, cell_fr hHeld.1.2.2.1 HFx.out HNQ.out.1, cell_fr hHeld.1.2.2.2 HFx.out HNQ.out.2.1⟩, hHeld.2.trans HFx.out⟩
              clear hK K
              try simp only [Act.put, List.setIfInBounds_toArray, List.set_cons_zero, List.set_cons_succ]
              refine wpAnyH_ready (rs := [15]) (by kernel_rfl) (by simp) ?_
              refine AllReadyH.cons rfl (fun K hK => ?_) AllReadyH.nil
              go_simp
              refine (rget30_any 1 words k bw gw zs _ (by decide) HQ.out (by omega) HRM.out).mono ?_; rintro e v9 ⟨vh, rfl, hO, hM, hF⟩; have HH9 := Lib.hid (us_own hO HGL.out.symm); have HG9 := Lib.hid (us_own (own_fr HG8.out hF (fun j hj hm => by have h1 := (HG8.out.lt j hj).1; rw [List.mem_singleton.1 hm] at h1; have := HLT.out; have := HS8.out; omega)) HGL.out.symm); have HFx := Lib.hid hF; clear hO hM hF
              go_wp2_with fail
              refine hK.out _ _ ?_ (fun hHeld => ?_)
              · exact ⟨⟨cell_fr hHeld.1.1 HFx.out HNQ.out.1, cell_fr hHeld.1.2.1 HFx.out HNQ.out.1, cell_fr hHeld.1.2.2.1 HFx.out HNQ.out.1, cell_fr hHeld.1.2.2.2 HFx.out HNQ.out.2.1⟩, hHeld.2.trans HFx.out⟩
              clear hK K
              try simp only [Act.put, List.setIfInBounds_toArray, List.set_cons_zero, List.set_cons_succ]
              refine wpAnyH_ready (rs := [16]) (by kernel_rfl) (by simp) ?_
              refine AllReadyH.cons rfl (fun K hK => ?_) AllReadyH.nil
              go_simp
              refine (us_any _ _ (getE zs 1 k) (getE zs 1 k) _ HG9.out HH9.out (by rw [HGL.out]; omega) (by rw [HGL.out]; omega)).mono ?_; rintro e v10 ⟨rfl, nr, hww⟩; subst v10; rw [show decide (getE zs 1 k = getE zs 1 k) = true from decide_eq_true rfl]; have hB := bel_drewN (Below.refl v9.heap.size v9) nr; have HFx := Lib.hid (show Fr [gw] _ _ from Fr.of hB); clear hB
              go_wp2_with fail
              refine hK.out _ _ ?_ (fun hHeld => ?_)
              · exact ⟨⟨cell_fr hHeld.1.1 HFx.out HNQ.out.1, cell_fr hHeld.1.2.1 HFx.out HNQ.out.1, cell_fr hHeld.1.2.2.1 HFx.out HNQ.out.1, cell_fr hHeld.1.2.2.2 HFx.out HNQ.out.2.1⟩, hHeld.2.trans HFx.out⟩
              clear hK K
              try simp only [Act.put, List.setIfInBounds_toArray, List.set_cons_zero, List.set_cons_succ]
              refine take_at 17 (v := ?_) (some 188) rfl rfl (by kernel_rfl) (by kernel_rfl) (by kernel_rfl) (fun _ _ _ h => h) (Or.inl ⟨by rfl, ?_⟩) hHeld ?_
              rotate_left
              · (intro w hSw; (try dsimp only at hSw); go_simp; (try with_reducible rfl))
              simp only [Act.put, List.setIfInBounds_toArray, List.set_cons_zero, List.set_cons_succ]
              refine take_at 18 (v := ?_) (some 10) rfl rfl (by kernel_rfl) (by kernel_rfl) (by kernel_rfl) (fun _ _ _ h => h) (Or.inl ⟨by rfl, ?_⟩) hHeld ?_
              rotate_left
              · (intro w hSw; (try dsimp only at hSw); go_simp; (try with_reducible rfl))
              simp only [Act.put, List.setIfInBounds_toArray, List.set_cons_zero, List.set_cons_succ]
              refine wpAnyH_done (by kernel_rfl) ?_ _
              go_split_ands

              have HBF := Lib.hid (show Fr [gw] wr _ from by assumption)
              go_wp2_with fail
              go_ret
              exact ⟨rfl, (HI.out.fr.from HBF.out (fun i hi hl => by rw [List.mem_singleton.1 hi] at hl; have := HI.out.at'; omega)).below⟩


end Go.Proofs.Yteheckcflnogbaa
