/-
  A report that came in by value, its rows; the table of the clients' names, as it is laid.
-/
import Derived.Test.YtannfkibahinhaaDoorCLaw
import Derived.Test.YtannfkibahinhaaDoorOpenS
import Derived.SliceStrings
import Derived.Stop.LaidErr
import Derived.OpenShut
namespace Go.Proofs.YtannfkibahinhaaDoor
open Go.RowKit Go.ChangeShapes Go.WideShapes

section
variable {H : Type} {enc : TypeId × Value → H} {w : World} {base : Nat} {spare : Nat → Bool} {held : Bool} {fuel : Nat} {cs : List Value} {x : DataW H × List MemPlace}
theorem rows_read {P : Program} {t e : TypeId} {fs : Array Field} (ht : P.underlying t = some (.slice e)) (he : P.underlying e = some (.struct fs)) (hone : Go.Deep.oneCellFields P fs = true) (hC : P.cellsOf e = fs.size) (h0 : 0 < fs.size)
    (h : DataW.trod enc P w base spare held fuel t cs = some x) :
    cs = [.slice none 0 0] ∨ ∃ (a : Addr) (len cap : Nat), cs = [.slice (some a) len cap] ∧ len ≤ cap ∧ cap ≤ maxLen ∧
      ∀ i, i < len → a.spot = none ∧ ∀ (j : Nat) (f : Field), fs[j]? = some f → ∃ (u : Value) (y : DataW H × List MemPlace) (n : Nat), w.cell? ⟨a.block, a.off + i * fs.size + j, none⟩ = some u ∧ DataW.trod enc P w base spare held n f.type [u] = some y := by
  rcases Go.Deep.open_slice ht h with h1 | ⟨a, len, cap, m, n, D, Pl, hcs, hb, hl, hm, hmm, hx, hi⟩
  · exact .inl h1.1
  have hsp : 0 < len → a.spot = none := fun hlt => by
    have him : 0 < m := by rw [hmm]; split <;> omega
    obtain ⟨cs', hc, ht'⟩ := hi 0 him
    rw [hC] at hc
    obtain ⟨_, hcl, hat⟩ := World.cells?_some hc
    have hfirst := hat 0 h0
    rw [List.getElem?_eq_getElem (by omega)] at hfirst
    have := spot_of hfirst
    simpa [Addr.add] using this
  refine .inr ⟨a, len, cap, hcs, hl, hm, fun i hlt => ⟨hsp (by omega), fun j f hj => ?_⟩⟩
  have him : i < m := by rw [hmm]; split <;> omega
  obtain ⟨cs', hc, ht'⟩ := hi i him
  rw [hC] at hc
  obtain ⟨ys, n', hn', hy, hlen, hyl, hf⟩ := DataW.trod_struct he ht'
  obtain ⟨_, hcl, hat⟩ := World.cells?_some hc
  obtain ⟨ho, hk1⟩ := Go.Deep.hone_of hone j f hj
  have hjl : j < fs.size := (Array.getElem?_eq_some_iff.1 hj).1
  have h1 := hf j f hj
  rw [ho, hk1] at h1
  have e1 : (cs'.drop j).take 1 = [cs'[j]'(by omega)] := by
    rw [List.drop_eq_getElem_cons (by omega)]
    rfl
  rw [e1, List.getElem?_eq_getElem (show j < ys.length by omega)] at h1
  have hcell := hat j hjl
  rw [Go.Deep.add_add, add_plain _ _ (hsp (by omega)), List.getElem?_eq_getElem (show j < cs'.length by omega)] at hcell
  exact ⟨_, _, n', by rw [Nat.add_assoc, hcell], h1⟩

theorem strs_read {u : Value} (h : DataW.trod enc Tryd.prog w base spare held fuel 53 [u] = some x) : ∃ xs, Strs w u xs ∧ xs.length ≤ 9223372036854775807 := by
  rcases open_strings Tryd.underlying53 Tryd.underlying9 (by kernel_rfl) h with ⟨h1, _⟩ | ⟨a, len, cap, ss, h1, _, hl, hm, hlen, _, hc, _⟩
  · simp only [List.cons.injEq, and_true] at h1
    subst h1
    exact ⟨[], ⟨none, 0, rfl, by simp, by simp⟩, by simp⟩
  · simp only [List.cons.injEq, and_true] at h1
    subst h1
    have hls : len ≤ ss.length := by rw [hlen]; split <;> omega
    have hxl : ((ss.take len).map fun s => s.data.toList).length = len := by simp; omega
    refine ⟨(ss.take len).map fun s => s.data.toList, ⟨some a, cap, by rw [hxl], by rw [hxl]; exact hl, fun h0 => ?_⟩, by rw [hxl]; have : cap ≤ 9223372036854775807 := hm; omega⟩
    rw [hxl] at h0
    have hsp := spot_of (hc 0 (by omega))
    have hsp' : a.spot = none := by simpa [Addr.add] using hsp
    refine ⟨a.block, a.off, by cases a; simp at hsp'; subst hsp'; rfl, fun j hj => ?_⟩
    rw [hxl] at hj
    have := hc j (by omega)
    rw [add_plain _ _ hsp'] at this
    rw [this]
    have e : strAt ((ss.take len).map fun s => s.data.toList) j = (ss.getD j ByteArray.empty).data.toList := by
      unfold strAt
      rw [List.getElem?_map, List.getElem?_take, if_pos hj, List.getD_eq_getElem?_getD, List.getElem?_eq_getElem (by omega)]
      rfl
    rw [e]

theorem reps_read {o : Option Addr} {n c : Nat} (h : DataW.trod enc Tryd.prog w base spare held fuel 29 [.slice o n c] = some x) : ∃ R, Reps w (.slice o n c) R ∧ R.length ≤ 9223372036854775807 := by
  rcases rows_read Tryd.underlying29 Tryd.underlying55 (by kernel_rfl) (by kernel_rfl) (by decide) h with h | ⟨a, len, cap, h, hl, hm, hi⟩
  · simp only [List.cons.injEq, Value.slice.injEq, and_true] at h
    obtain ⟨rfl, rfl, rfl⟩ := h
    exact ⟨[], ⟨none, 0, rfl, by simp, by simp⟩, by simp⟩
  · simp only [List.cons.injEq, Value.slice.injEq, and_true] at h
    obtain ⟨rfl, rfl, rfl⟩ := h
    have hx : ∀ i, ∃ t : RowT, i < n → a.spot = none ∧ ∃ vi vo, w.cell? ⟨a.block, a.off + i * 3, none⟩ = some (.string ⟨t.1.toArray⟩) ∧ w.cell? ⟨a.block, a.off + i * 3 + 1, none⟩ = some vi ∧ w.cell? ⟨a.block, a.off + i * 3 + 2, none⟩ = some vo ∧
        Strs w vi t.2.1 ∧ Strs w vo t.2.2 ∧ t.2.1.length ≤ 9223372036854775807 ∧ t.2.2.length ≤ 9223372036854775807 := fun i => by
      by_cases hlt : i < n
      · obtain ⟨hs, hj⟩ := hi i hlt
        obtain ⟨u0, y0, n0, c0, t0⟩ := hj 0 _ rfl
        obtain ⟨u1, y1, n1, c1, t1⟩ := hj 1 _ rfl
        obtain ⟨u2, y2, n2, c2, t2⟩ := hj 2 _ rfl
        obtain ⟨s, e0, _, _⟩ := DataW.trod_string Tryd.underlying9 t0
        simp only [List.cons.injEq, and_true] at e0
        subst e0
        obtain ⟨xs, r1, l1⟩ := strs_read t1
        obtain ⟨ys, r2, l2⟩ := strs_read t2
        exact ⟨(s.data.toList, xs, ys), fun _ => ⟨hs, u1, u2, c0, c1, c2, r1, r2, l1, l2⟩⟩
      · exact ⟨([], [], []), fun h => absurd h hlt⟩
    have hn : n ≤ 9223372036854775807 := by have : c ≤ 9223372036854775807 := hm; omega
    refine ⟨(List.range n).map fun i => (hx i).choose, ⟨some a, c, by simp, by simpa using hl, fun h0 => ?_⟩, by simpa using hn⟩
    have hsp : a.spot = none := ((hx 0).choose_spec (by simpa using h0)).1
    refine ⟨a.block, a.off, by cases a; simp at hsp; subst hsp; rfl, fun j hj => ?_⟩
    have hj' : j < n := by simpa using hj
    have e : rowAt ((List.range n).map fun i => (hx i).choose) j = (hx j).choose := by
      unfold rowAt
      rw [List.getElem?_map, List.getElem?_range hj']
      rfl
    rw [e]
    exact ((hx j).choose_spec hj').2
end

theorem report_in {H : Type} {enc : TypeId × Value → H} {W : World} {r : Reach} {b0 base : Nat} {spare : Nat → Bool} {held : Bool} {v : Value} {d : DataW H} {p : List MemPlace}
    (hv : Value.okWide Tryd.prog W r b0 31 v) (h : DataW.Trod enc Tryd.prog W base spare held 31 v d p) :
    ∃ (k : Int) (u : Value) (R : List RowT), v = .agg #[.int .i64 k, u] ∧ Reps W u R ∧ R.length ≤ 9223372036854775807 := by
  obtain ⟨cs, rfl, hsz⟩ := okWide_struct Tryd.underlying31 hv
  obtain ⟨fuel, hf⟩ := h
  have hsz2 : cs.size = 2 := hsz
  obtain ⟨c0, c1, rfl⟩ : ∃ c0 c1, cs = #[c0, c1] := by
    obtain ⟨l⟩ := cs
    match l, hsz2 with
    | [a, b], _ => exact ⟨a, b, rfl⟩
  obtain ⟨y0, y1, n, hx, _, h0, h1⟩ := trod_struct2 Tryd.underlying31 hf
  have h0' : DataW.trod enc Tryd.prog W base spare held n 3 [c0] = some y0 := h0
  have h1' : DataW.trod enc Tryd.prog W base spare held n 29 [c1] = some y1 := h1
  obtain ⟨k, e0, _, _⟩ := DataW.trod_int Tryd.underlying3 h0'
  simp only [List.cons.injEq, and_true] at e0
  subst e0
  rcases Go.Deep.open_slice Tryd.underlying29 h1' with h2 | ⟨a, len, cap, _, _, _, _, h2, _⟩
  · have h3 := h2.1
    simp only [List.cons.injEq, and_true] at h3
    subst h3
    obtain ⟨R, hR, hl⟩ := reps_read h1'
    exact ⟨k, _, R, rfl, hR, hl⟩
  · simp only [List.cons.injEq, and_true] at h2
    subst h2
    obtain ⟨R, hR, hl⟩ := reps_read h1'
    exact ⟨k, _, R, rfl, hR, hl⟩

theorem cn_of_laid {r : List (String × DataW Unit)} {W : World} (h : laidMet Tryd.prog (("sough/client.clientNames", .agg [.lit (.string []), .lit (.string (nm 1)), .lit (.string (nm 2)), .lit (.string (nm 3)), .lit (.string (nm 4))]) :: r) W) : CN W := by
  obtain ⟨ps, ⟨g0, t0, cs0, f0, p0, q0, hg0, ht0, hv0, hd0, _, _⟩, _, _⟩ := h
  obtain rfl : 0 = g0 := Option.some.inj ((show Tryd.prog.globalNamed "sough/client.clientNames" = some 0 by kernel_rfl).symm.trans hg0)
  obtain rfl : 57 = t0 := Option.some.inj ((show (Tryd.prog.globals[0]?).map (·.type) = some 57 by kernel_rfl).symm.trans ht0)
  obtain ⟨xs, m, _, hx, hl, hxl, hi⟩ := DataW.trod_array Tryd.underlying57 hd0
  intro j h1 h4
  have hj := hi j (by omega)
  have hl5 : cs0.toList.length = 5 := hl
  have hc1 : Tryd.prog.cellsOf 9 = 1 := by kernel_rfl
  rw [hc1, Nat.mul_one, List.drop_eq_getElem_cons (by omega), List.getElem?_eq_getElem (show j < xs.length by omega)] at hj
  have hj' : DataW.trod _ Tryd.prog W _ _ _ m 9 [cs0.toList[j]'(by omega)] = some (xs[j]'(by omega)) := hj
  obtain ⟨s, e0, e1, _⟩ := DataW.trod_string Tryd.underlying9 hj'
  simp only [List.cons.injEq, and_true] at e0
  have hcell := World.var?_cell hg0 hv0 j
  rw [hcell]
  have hfst : xs.map (·.1) = [.lit (.string []), .lit (.string (nm 1)), .lit (.string (nm 2)), .lit (.string (nm 3)), .lit (.string (nm 4))] := by
    have := congrArg Prod.fst hx
    simp only [DataW.agg.injEq] at this
    exact this.symm
  have hdat : (xs.map (·.1))[j]? = some (.lit (.string s.data.toList)) := by
    rw [List.getElem?_map, List.getElem?_eq_getElem (show j < xs.length by omega), e1]
    rfl
  rw [hfst] at hdat
  have hs : s.data.toList = nm j := by
    rcases (show j = 1 ∨ j = 2 ∨ j = 3 ∨ j = 4 by omega) with rfl | rfl | rfl | rfl
    all_goals
      simp only [List.getElem?_cons_zero, List.getElem?_cons_succ, Option.some.injEq, DataW.lit.injEq, Lit.string.injEq] at hdat
      exact hdat.symm
  have : cs0[j]? = some (.string s) := by
    rw [← Array.getElem?_toList, List.getElem?_eq_getElem (by omega), e0]
  rw [this, ← hs]

end Go.Proofs.YtannfkibahinhaaDoor
