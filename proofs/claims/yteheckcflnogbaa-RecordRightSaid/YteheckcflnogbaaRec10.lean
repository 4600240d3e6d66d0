/-
  soughref07.In; record.Touched: contracts; a reader of []soughref23.Event. Written by wip/gen/mkrec10.py.
-/
import Derived.Test.YteheckcflnogbaaRec
import Derived.Test.YteheckcflnogbaaKeys
import Derived.Test.YteheckcflnogbaaIter
import Derived.Test.YteheckcflnogbaaIntsIn
import Derived.Maps.Own
import Derived.Maps.OwnOps
import Derived.Maps.OwnSet
import Derived.Deep.Slices
import Derived.Deep.Fields
namespace Go.Proofs.Yteheckcflnogbaa
open Go.RowKit Go.Maps Go.Sort Go.Shelf Go.ChangeShapes Go.WideShapes

theorem rows_one {H : Type} {enc : TypeId × Value → H} {P : Program} {w : World} {base : Nat} {spare : Nat → Bool} {held : Bool} {t e : TypeId} {fs : Array Field} {fuel : Nat} {cs : List Value} {x : DataW H × List MemPlace}
    (ht : P.underlying t = some (.slice e)) (he : P.underlying e = some (.struct fs)) (hone : Go.Deep.oneCellFields P fs = true) (hC : P.cellsOf e = fs.size) (h0 : 0 < fs.size) (h : DataW.trod enc P w base spare held fuel t cs = some x) :
    cs = [.slice none 0 0] ∨ ∃ (a : Addr) (len cap : Nat), cs = [.slice (some a) len cap] ∧ len ≤ cap ∧ cap ≤ maxLen ∧
      ∀ i, i < len → a.spot = none ∧ ∀ (j : Nat) (f : Field), fs[j]? = some f → ∃ v n z, w.cell? ⟨a.block, a.off + i * fs.size + j, none⟩ = some v ∧ DataW.trod enc P w base spare held n f.type [v] = some z := by
  rcases Go.Deep.open_slice ht h with h1 | ⟨a, len, cap, m, n, D, Pl, hcs, hb, hl, hm, hmm, hx, hi⟩
  · exact .inl h1.1
  have hsp : 0 < len → a.spot = none := fun hlt => by
    have him : 0 < m := by rw [hmm]; split <;> omega
    obtain ⟨cs', hc, ht'⟩ := hi 0 him
    rw [hC] at hc
    obtain ⟨_, hcl, hat⟩ := World.cells?_some hc
    have hfirst := hat 0 h0
    rw [List.getElem?_eq_getElem (by omega)] at hfirst
    have := spot_of hfirst
    simpa [Addr.add] using this
  refine .inr ⟨a, len, cap, hcs, hl, hm, fun i hlt => ⟨hsp (by omega), fun j f hj => ?_⟩⟩
  have him : i < m := by rw [hmm]; split <;> omega
  obtain ⟨cs', hc, ht'⟩ := hi i him
  rw [hC] at hc
  obtain ⟨ys, n', hn', hy, hlen, hyl, hf⟩ := DataW.trod_struct he ht'
  obtain ⟨_, hcl, hat⟩ := World.cells?_some hc
  obtain ⟨ho, hk1⟩ := Go.Deep.hone_of hone j f hj
  have hjl : j < fs.size := (Array.getElem?_eq_some_iff.1 hj).1
  have h1 := hf j f hj
  rw [ho, hk1] at h1
  have e1 : (cs'.drop j).take 1 = [cs'[j]'(by omega)] := by
    rw [List.drop_eq_getElem_cons (by omega)]
    rfl
  rw [e1, List.getElem?_eq_getElem (show j < ys.length by omega)] at h1
  refine ⟨cs'[j]'(by omega), _, _, ?_, h1⟩
  have hcell := hat j hjl
  rw [Go.Deep.add_add, add_plain _ _ (hsp (by omega)), List.getElem?_eq_getElem (show j < cs'.length by omega)] at hcell
  rw [Nat.add_assoc, hcell]

/-- Events that came in. -/
def EvIn (w : World) (v : Value) (L : List EvT) : Prop := ∃ gi, Evs w v L gi ∧ (0 < L.length → gi < w.heap.size) ∧ ∀ j, j < L.length → (Lit.int .i64 (evAt L j).a).wf = true
set_option maxRecDepth 100000 in
theorem evs_of {H : Type} {enc : TypeId × Value → H} {w : World} {base : Nat} {spare : Nat → Bool} {held : Bool} {fuel : Nat} {o : Option Addr} {n c : Nat} {x : DataW H × List MemPlace}
    (h : DataW.trod enc Try.prog w base spare held fuel 43 [.slice o n c] = some x) : ∃ L, EvIn w (.slice o n c) L ∧ L.length ≤ maxLen := by
  rcases rows_one Try.underlying43 Try.underlying49 (by kernel_rfl) (by kernel_rfl) (by decide) h with h | ⟨a, len, cap, h, hl, hm, hi⟩
  · simp only [List.cons.injEq, Value.slice.injEq, and_true] at h
    obtain ⟨rfl, rfl, rfl⟩ := h
    exact ⟨[], ⟨0, ⟨none, 0, rfl, by simp, by simp⟩, by simp, by simp⟩, by simp⟩
  · simp only [List.cons.injEq, Value.slice.injEq, and_true] at h
    obtain ⟨rfl, rfl, rfl⟩ := h
    have hx : ∀ i, ∃ t : EvT, i < n → a.spot = none ∧ w.cell? ⟨a.block, a.off + i * 6, none⟩ = some (.int .i64 t.k) ∧ w.cell? ⟨a.block, a.off + i * 6 + 1, none⟩ = some (.int .i64 t.a) ∧
        w.cell? ⟨a.block, a.off + i * 6 + 2, none⟩ = some (.int .u64 t.x) ∧ w.cell? ⟨a.block, a.off + i * 6 + 3, none⟩ = some (.int .u64 t.y) ∧ w.cell? ⟨a.block, a.off + i * 6 + 4, none⟩ = some (.int .u64 t.g) ∧ w.cell? ⟨a.block, a.off + i * 6 + 5, none⟩ = some (.bool t.ok) ∧ (Lit.int .i64 t.a).wf = true := fun i => by
      by_cases hlt : i < n
      · obtain ⟨hs, hj⟩ := hi i hlt
        obtain ⟨_, _, _, hk, q0⟩ := hj 0 _ rfl
        obtain ⟨k, e0, _⟩ := DataW.trod_int Try.underlying3 q0
        obtain ⟨_, _, _, ha, q1⟩ := hj 1 _ rfl
        obtain ⟨z1, e1, _, w1⟩ := DataW.trod_int Try.underlying3 q1
        obtain ⟨_, _, _, hx, q2⟩ := hj 2 _ rfl
        obtain ⟨z2, e2, _⟩ := DataW.trod_int Try.underlying29 q2
        obtain ⟨_, _, _, hy, q3⟩ := hj 3 _ rfl
        obtain ⟨z3, e3, _⟩ := DataW.trod_int Try.underlying29 q3
        obtain ⟨_, _, _, hg, q4⟩ := hj 4 _ rfl
        obtain ⟨z4, e4, _⟩ := DataW.trod_int Try.underlying29 q4
        obtain ⟨_, _, _, hb, q5⟩ := hj 5 _ rfl
        obtain ⟨z5, e5, _⟩ := DataW.trod_bool Try.underlying4 q5
        simp only [List.cons.injEq, and_true] at e0 e1 e2 e3 e4 e5
        subst e0 e1 e2 e3 e4 e5
        exact ⟨⟨k, z1, z2, z3, z4, z5⟩, fun _ => ⟨hs, hk, ha, hx, hy, hg, hb, w1⟩⟩
      · exact ⟨ev0, fun h => absurd h hlt⟩
    have hat : ∀ j, j < n → evAt ((List.range n).map fun i => (hx i).choose) j = (hx j).choose := fun j hj => by
      unfold evAt
      rw [List.getElem?_map, List.getElem?_range hj]
      rfl
    refine ⟨(List.range n).map fun i => (hx i).choose, ⟨a.block, ⟨some a, c, by simp, by simpa using hl, fun h0 => ?_⟩, fun h0 => ?_, fun j hj => ?_⟩, by simp; omega⟩
    · have hsp : a.spot = none := ((hx 0).choose_spec (by simpa using h0)).1
      refine ⟨a.off, by cases a; simp at hsp; subst hsp; rfl, fun j hj => ?_⟩
      have hj' : j < n := by simpa using hj
      rw [hat j hj']
      obtain ⟨_, q0, q1, q2, q3, q4, q5, _⟩ := (hx j).choose_spec hj'
      exact ⟨q0, q1, q2, q3, q4, q5⟩
    · have := ((hx 0).choose_spec (by simpa using h0)).2.1
      exact cell_lt (a := ⟨a.block, a.off + 0 * 6, none⟩) this
    · have hj' : j < n := by simpa using hj
      rw [hat j hj']
      exact ((hx j).choose_spec hj').2.2.2.2.2.2.2
theorem nums_own {w : World} {base e n : Nat} {v : Value} {zs : List Int} (h : w.ownsRow base e 1 v n (zs.map (Value.int .i64))) (hn : n = zs.length) : Nums w v zs := by
  have hc := h
  obtain ⟨hl, h | ⟨g, cap, cur, rfl, hg, hb, hn', hm, hs, hcc⟩⟩ := h
  · obtain ⟨rfl, rfl⟩ := h
    have : zs = [] := List.eq_nil_of_length_eq_zero hn.symm
    subst this
    exact ⟨none, 0, rfl, by simp, by simp⟩
  · subst hn
    refine ⟨_, _, rfl, hn', fun _ => ⟨g, 0, rfl, fun j hj => ?_⟩⟩
    have := hc.cells (g := g) rfl j (.int .i64 (intAt zs j)) (by simp [intAt, hj])
    rw [Addr.add_lit] at this
    exact this
theorem in_step {zs : List Int} {x : Int} {k : Nat} (h : ∀ j, j < k → intAt zs j ≠ x) (hne : intAt zs k ≠ x) : ∀ j, j < k + 1 → intAt zs j ≠ x := fun j hj => by
  rcases (show j < k ∨ j = k by omega) with h' | rfl
  · exact h j h'
  · exact hne
theorem in_no {zs : List Int} {x : Int} (h : ∀ j, j < zs.length → intAt zs j ≠ x) : decide (x ∈ zs) = false := by
  rw [decide_eq_false_iff_not]
  intro hm
  obtain ⟨j, hj, e⟩ := List.getElem_of_mem hm
  exact h j hj (by unfold intAt; rw [List.getElem?_eq_getElem hj]; exact e)
theorem in_yes {zs : List Int} {x : Int} {k : Nat} (hk : k < zs.length) (h : intAt zs k = x) : decide (x ∈ zs) = true := by
  rw [decide_eq_true_iff, ← h]
  unfold intAt
  rw [List.getElem?_eq_getElem hk]
  exact List.getElem_mem hk

set_option maxHeartbeats 3200000 in
set_option maxRecDepth 100000 in
theorem in07_any (v : Value) (zs : List Int) (x : Int) (w : World) (h : Nums w v zs) (hl : zs.length ≤ 1000000) :
    Calls Try.prog 40 #[v, .int .i64 x] w fun e w' => e = .returned (.bool (decide (x ∈ zs))) ∧ w' = w := by
  obtain ⟨o, c, rfl, hle, hc⟩ := h
  have HC := Lib.hid hc
  obtain ⟨q, hq⟩ : ∃ q, q = decide (x ∈ zs) := ⟨_, rfl⟩
  have HQ := Lib.hid hq
  rw [← hq]
  clear hc hq
  go_enter Try.func40, Try.ntmps40
  go_wp2_with fail
  go_loopw [9] (fun i wr => ∃ k : Nat, k ≤ zs.length ∧ i = .int .i64 k ∧ Hid (∀ j, j < k → intAt zs j ≠ x) ∧ wr = w)
    (fun i _ => zs.length - (intOf i).toNat)
  case atStart => exact ⟨0, Nat.zero_le _, rfl, Lib.hid (fun j hj => by omega), rfl⟩
  case round =>
    obtain ⟨k, hk, rfl, HA, rfl⟩ := hrel
    by_cases hlt : k < zs.length
    · obtain ⟨b, off, rfl, hd⟩ := HC.out (by omega)
      have c0 := hd k hlt
      have hki : (k : Int) < zs.length := by omega
      by_cases hx : intAt zs k = x
      · have HV := Lib.hid (in_yes hlt hx)
        have hb : (intAt zs k == x) = true := by simpa using hx
        clear hd hx
        go_wp2_with fail
        go_ret
        exact ⟨ret_bool (by rw [HQ.out, HV.out]), rfl⟩
      · have HS := Lib.hid (in_step HA.out hx)
        have hb : (intAt zs k == x) = false := by simpa using hx
        clear hd hx
        go_wp2_with fail
        go_roundw
        case rel => exact ⟨k + 1, by omega, by go_num, HS, trivial⟩
        case measure => simp [intOf]; omega
    · obtain rfl : k = zs.length := by omega
      have HV := Lib.hid (in_no HA.out)
      go_wp2_with fail
      go_ret
      exact ⟨ret_bool (by rw [HQ.out, HV.out]), rfl⟩

theorem sortsI (m : Nat) : AnyZI.SortsIn Try.prog Try.itSorted_ren Fence.wide m := ⟨fun blk off cap ss W hH hblk hsz => callsIn_wide.2 (AnyM.slices_Sort_int Try.itSort blk off cap ss W hH hblk hsz), fun p cap W => callsIn_wide.2 (AnyM.slices_Sort_int_none Try.itSort p cap W)⟩
theorem keyI : Keyed Try.prog 3 := int_keyed Try.underlying3
theorem zeroI (w : World) : (zeroValue 3).run Try.prog w = .ok (.int .i64 0) w := by kernel_rfl
set_option maxHeartbeats 1000000 in
/-- The keys of a map of ints, sorted. -/
theorem sortedI {H : Type} (b nn : Nat) (D0 : DataW H) (R : Value → Option (DataW H × List MemPlace)) (w : World) (hown : w.ownsMap Try.prog 3 R b nn D0) (hmax : Maps.size D0 ≤ maxLen) (hbytes : Maps.size D0 * 8 ≤ 140737488355328) :
    Calls Try.prog 117 #[.func (.func 168) #[] #[.pointer (some ⟨w.heap.size, 0, none⟩)]] (w.alloc (.cells #[.map (some b)] 173)) fun e w' => ∃ (v : Value) (ss : List Int), e = .returned v ∧ ss.Perm (intKeys D0) ∧
      w'.ownsRow (w.alloc (.cells #[.map (some b)] 173)).heap.size 3 1 v ss.length ((ss.mergeSort (fun x y => decide (x ≤ y))).map (Value.int .i64)) ∧ (v = .slice none 0 0 ↔ ss = []) ∧ Below (w.alloc (.cells #[.map (some b)] 173)).heap.size (w.alloc (.cells #[.map (some b)] 173)) w' := by
  refine (callsIn_wide (n := 6)).1 ?_
  have hbl := hown.lt
  have hseq : SeqGives Fence.wide 3 Try.prog 168 #[.pointer (some ⟨w.heap.size, 0, none⟩)] encZ (fun ss => ss.Perm (intKeys D0)) (Maps.size D0) (w.alloc (.cells #[.map (some b)] 173)) :=
    AnyZI.keys_gives (ρ := Try.itKeys_ren) { Try.itKeys with } Fence.wide _ trivial rfl (by omega) w.heap.size b nn D0 _ (by simp) (by simp) (by
      obtain ⟨es, clock, hb, Ft, hs, hD⟩ := hown
      exact ⟨es, clock, (Below.heap_alloc _ _ b hbl).trans hb, Ft, hs, hD⟩)
  exact AnyZI.sorted_in Try.itSorted Fence.wide 6 trivial trivial trivial trivial rfl (by omega) (sortsI _) (enters_of Try.func167 (by kernel_rfl) rfl) 168 #[.pointer (some ⟨w.heap.size, 0, none⟩)] trivial (enters_of Try.func168 (by kernel_rfl) rfl) _ _ hmax hbytes _ hseq
theorem keysI (mb : Option Nat) (W : World) : Calls Try.prog 118 #[.map mb] W fun e w' => e = .returned (.func (.func 168) #[] #[.pointer (some ⟨W.heap.size, 0, none⟩)]) ∧ w' = W.alloc (.cells #[.map mb] 173) :=
  (callsIn_wide (n := 5)).1 (AnyZI.keys_in Try.itKeys Fence.wide 5 trivial rfl mb W)
theorem take_as (L : List EvT) (k : Nat) (h : k < L.length) : (L.map (·.a)).take (k + 1) = (L.map (·.a)).take k ++ [(evAt L k).a] := by
  rw [List.take_succ_eq_append_getElem (by simpa using h)]
  simp [evAt, h]

set_option maxHeartbeats 3200000 in
set_option maxRecDepth 100000 in
theorem touched_any (v : Value) (L : List EvT) (gi : Nat) (w : World) (h : Evs w v L gi) (hl : L.length ≤ 1000) (hwf : ∀ j, j < L.length → (Lit.int .i64 (evAt L j).a).wf = true) :
    Calls Try.prog 39 #[v] w fun e w' => ∃ v' zs, e = .returned v' ∧ Nums w' v' zs ∧ Rising zs ∧ (∀ x ∈ L.map (·.a), x ∈ zs) ∧ zs.length ≤ L.length ∧ Below w.heap.size w w' := by
  have hmm := @run_makeMap Try.prog
  obtain ⟨o, c, rfl, hle, hc⟩ := h
  have HC := Lib.hid hc
  have HWF := Lib.hid hwf
  clear hc hwf
  go_enter Try.func39, Try.ntmps39
  go_wp2_with fail
  go_loopw [9] (fun i wr => ∃ k : Nat, k ≤ L.length ∧ i = .int .i64 k ∧ ∃ D : DataW Unit, wr.ownsMap Try.prog 3 (plainElem Try.prog 3) w.heap.size k D ∧ Hid (KeysOf D ((L.map (·.a)).take k)) ∧ Below w.heap.size w wr)
    (fun i _ => L.length - (intOf i).toNat)
  case atStart => exact ⟨0, Nat.zero_le _, rfl, _, World.ownsMap_made _ _ _ _, Lib.hid KeysOf.empty, (Below.refl _ _).alloc (Nat.le_refl _) _⟩
  case round =>
    obtain ⟨k, hk, rfl, D, hM, HK, hB⟩ := hrel
    have HM := Lib.hid hM
    have HB := Lib.hid hB
    clear hM hB
    by_cases hlt : k < L.length
    · obtain ⟨off, rfl, hd0⟩ := HC.out (by omega)
      have hd := hd0 k hlt
      have d0 := keepc hd.1 HB.out
      have d1 := keepc hd.2.1 HB.out
      have d2 := keepc hd.2.2.1 HB.out
      have d3 := keepc hd.2.2.2.1 HB.out
      have d4 := keepc hd.2.2.2.2.1 HB.out
      have d5 := keepc hd.2.2.2.2.2 HB.out
      have HKEY := Lib.hid (keyOf_int_mk Try.underlying3 (HWF.out k hlt))
      have HKP := Lib.hid (fun d => by have := HK.out.put (evAt L k).a d; rw [← take_as L k hlt] at this; exact this)
      clear hd hd0
      generalize evAt L k = x at *
      go_wp2_with (first
        | (at_lookup; refine wpList_lookup_own_int _ rfl _ _ 173 rfl 3 3 .i64 keyI Try.underlying173 Try.underlying3 (zeroI _) w.heap.size k _ rfl (HM.out.alloc _) _ _ rfl HKEY.out ?_; intro c hat hwc)
        | (at_mapUpdate; refine wpList_mapUpdate_own _ rfl _ _ _ 173 rfl 3 3 keyI Try.underlying173 _ w.heap.size k _ rfl (HM.out.alloc _) (by unfold maxLen; omega) _ _ _ rfl rfl HKEY.out _ [] (plainElem_int Try.underlying3 (wrap64_wf _)) ?_; intro w1 hown1 hgrow1; have HOW := Lib.hid hown1; have HGR := Lib.hid hgrow1; clear hown1 hgrow1)
        | go_in)
      go_roundw
      case rel => exact ⟨k + 1, by omega, by go_num, _, HOW.out, Lib.hid (HKP.out _), (HB.out.alloc (by have := HB.out.size; omega) _).grown HGR.out (by have := HB.out.size; simp; omega) (fun j hj => by cases hj; exact Nat.le_refl _)⟩
      case measure => simp [intOf]; omega
    · obtain rfl : k = L.length := by omega
      have HKF := Lib.hid (show KeysOf D (L.map (·.a)) by have := HK.out; rwa [List.take_of_length_le (by simp)] at this)
      have hsz := HKF.out.size
      rw [List.length_map] at hsz
      have HSZ := Lib.hid hsz
      clear hsz
      go_wp2_with fail
      refine (keysI _ _).mono ?_
      rintro e w2 ⟨rfl, rfl⟩
      go_wp2_with fail
      refine (sortedI w.heap.size L.length D _ wr HM.out (by have := HSZ.out; unfold maxLen; omega) (by have := HSZ.out; omega)).mono ?_
      rintro e w3 ⟨v', ss, rfl, hp, ho, _, hb⟩
      have HS := Lib.hid (HKF.out.sorted hp)
      have HN := Lib.hid (nums_own ho (by rw [List.length_mergeSort]))
      have HB3 := Lib.hid (bel_then HB.out (bel_then ((Below.refl _ _).alloc (Nat.le_refl _) (.cells #[.map (some w.heap.size)] 173)) hb))
      clear hp ho hb
      go_wp2_with fail
      go_ret
      exact ⟨_, _, rfl, HN.out, HS.out.1, HS.out.2.1, by have := HS.out.2.2; rwa [List.length_map] at this, HB3.out⟩


end Go.Proofs.Yteheckcflnogbaa
