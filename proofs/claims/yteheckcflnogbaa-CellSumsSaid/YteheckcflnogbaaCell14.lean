/-
  soughlaw30.CellSums: its walk. Written by wip/gen/mkcell14.py.
-/
import Derived.Test.YteheckcflnogbaaCell13
import Derived.Test.YteheckcflnogbaaPicks
import Derived.BigQuiet
namespace Go.Proofs.Yteheckcflnogbaa
open Go.RowKit

theorem pj30_info : (Try.prog.info? 125).map (fun i => (i.zero, i.size, i.bytes)) = some (some (.pointer none), 1, 8) := by kernel_rfl
theorem ma30_info : (Try.prog.info? 248).map (fun i => (i.zero, i.size, i.bytes)) = some (some Value.nilIface, 1, 16) := by kernel_rfl
theorem slice_cap {H : Type} {enc : TypeId × Value → H} {w : World} {base : Nat} {spare : Nat → Bool} {held : Bool} {fuel : Nat} {o : Option Addr} {n c : Nat} {x : DataW H × List MemPlace} {t e : TypeId} (ht : Try.prog.underlying t = some (.slice e))
    (h : DataW.trod enc Try.prog w base spare held fuel t [.slice o n c] = some x) : n ≤ c := by
  rcases Go.Deep.open_slice ht h with h | ⟨a, len, cap, m, k, D, Pl, hcs, hb, hl, hm, hmm, hx, hi⟩
  · have h := h.1
    simp only [List.cons.injEq, Value.slice.injEq, and_true] at h
    omega
  · simp only [List.cons.injEq, Value.slice.injEq, and_true] at hcs
    obtain ⟨_, rfl, rfl⟩ := hcs
    exact hl
theorem words_cap {H : Type} {enc : TypeId × Value → H} {w : World} {base : Nat} {spare : Nat → Bool} {held : Bool} {fuel : Nat} {o : Option Addr} {n c : Nat} {x : DataW H × List MemPlace}
    (h : DataW.trod enc Try.prog w base spare held fuel 22 [.slice o n c] = some x) : ∃ L, (Ws w (.slice o n c) L ∧ n ≤ c) ∧ L.length ≤ maxLen := by
  obtain ⟨L, h1, h2⟩ := words_of h
  exact ⟨L, ⟨h1, slice_cap Try.underlying22 h⟩, h2⟩
theorem lls_cap {H : Type} {enc : TypeId × Value → H} {w : World} {base : Nat} {spare : Nat → Bool} {held : Bool} {fuel : Nat} {o : Option Addr} {n c : Nat} {x : DataW H × List MemPlace}
    (h : DataW.trod enc Try.prog w base spare held fuel 116 [.slice o n c] = some x) : ∃ L, (Lls w (.slice o n c) L ∧ n ≤ c) ∧ L.length ≤ maxLen := by
  obtain ⟨L, h1, h2⟩ := lls_of h
  exact ⟨L, ⟨h1, slice_cap Try.underlying116 h⟩, h2⟩
/-- The lists' own values. -/
theorem lls_vals {W : World} {ol : Option Addr} {ls : List (List Nat)} (h : 0 < ls.length → ∃ b off, ol = some ⟨b, off, none⟩ ∧ ∀ j, j < ls.length → ∃ u, W.cell? ⟨b, off + j, none⟩ = some u ∧ Ws W u (ls[j]?.getD [])) :
    ∃ (av : Nat → Value) (lb lo : Nat), (0 < ls.length → ol = some ⟨lb, lo, none⟩) ∧ ∀ j, j < ls.length → W.cell? ⟨lb, lo + j, none⟩ = some (av j) ∧ Ws W (av j) (ls[j]?.getD []) := by
  by_cases h0 : 0 < ls.length
  · obtain ⟨b, off, e, hd⟩ := h h0
    refine ⟨fun j => (W.cell? ⟨b, off + j, none⟩).getD undef, b, off, fun _ => e, fun j hj => ?_⟩
    obtain ⟨u, h1, h2⟩ := hd j hj
    dsimp only
    rw [h1]
    exact ⟨rfl, h2⟩
  · exact ⟨fun _ => undef, 0, 0, fun h => absurd h h0, fun j hj => absurd hj (by omega)⟩
def jkpc (bs : List Nat) : List Value := bs.map fun b => .pointer (some ⟨b, 0, none⟩)
def jkmc (bs : List Nat) : List Value := bs.map fun b => .iface 125 (.pointer (some ⟨b, 0, none⟩))
/-- What holds as the Joins are made. -/
structure Sl (W w : World) (what : Int) (q b g cb : Nat) (zs : List Int) (av : Nat → Value) (bs la lm : List Nat) (va vm : Value) : Prop where
  p : Pm w b g zs
  bd : Bk w cb 120 [.int .i64 0, .int .i64 what, .int .i64 q]
  ra : w.ownsRow W.heap.size 125 1 va la.length (jkpc la)
  rm : w.ownsRow W.heap.size 248 1 vm lm.length (jkmc lm)
  tk : ∀ j, j < bs.length → Jn w (bs[j]?.getD 0) 0 what q (av j) ⟨false, false, 0, 0, 0, false⟩
  nd : bs.Nodup
  new : ∀ x ∈ bs, W.heap.size ≤ x
  at' : W.heap.size ≤ b ∧ W.heap.size ≤ g ∧ W.heap.size ≤ cb
  fr : Fr [] W w
section
variable {W w w' : World} {what : Int} {q b g cb : Nat} {zs : List Int} {av : Nat → Value} {bs la lm : List Nat} {va vm : Value}
theorem Sl.take (h : Sl W w what q b g cb zs av bs la lm va vm) (v : Value) (hv : av bs.length = v) : Sl W (w.alloc (.cells #[.int .i64 0, .int .i64 what, .int .i64 q, v, .bool false, .bool false, .int .i64 0, .int .i64 0, .int .u64 0, .bool false] 129)) what q b g cb zs av (bs ++ [w.heap.size]) la lm va vm := by
  have hk := (Below.refl w.heap.size w).alloc (Nat.le_refl _) (.cells #[.int .i64 0, .int .i64 what, .int .i64 q, v, .bool false, .bool false, .int .i64 0, .int .i64 0, .int .u64 0, .bool false] 129)
  have hs := h.fr.size
  refine ⟨h.p.below hk, h.bd.alloc _, h.ra.alloc _, h.rm.alloc _, fun j hj => ?_, ?_, fun x hx => ?_, h.at', h.fr.alloc _⟩
  · by_cases hjb : j < bs.length
    · rw [List.getElem?_append_left hjb]; exact Bk.alloc (h.tk j hjb) _
    · obtain rfl : j = bs.length := by simp at hj; omega
      rw [List.getElem?_append_right (Nat.le_refl _), hv]
      simp only [Nat.sub_self, List.getElem?_cons_zero, Option.getD_some]
      exact Bk.new w 129 [_, _, _, _, _, _, _, _, _, _]
  · refine List.nodup_append.2 ⟨h.nd, by simp, fun x hx y hy he => ?_⟩
    rw [List.mem_singleton.1 hy] at he
    obtain ⟨j, hj, rfl⟩ := List.getElem_of_mem hx
    have h1 := Bk.lt (h.tk j hj)
    rw [List.getElem?_eq_getElem hj, Option.getD_some] at h1
    omega
  · rcases List.mem_append.1 hx with hx | hx
    · exact h.new x hx
    · rw [List.mem_singleton.1 hx]; exact hs
theorem Sl.growA {x : Nat} {v' : Value} {o : Obj} (h : Sl W w what q b g cb zs av bs la lm va vm) (hk : (w.alloc o).grownBy w' va.ownBlock) (ho : w'.ownsRow W.heap.size 125 1 v' (la.length + 1) (jkpc la ++ [.pointer (some ⟨x, 0, none⟩)])) : Sl W w' what q b g cb zs av bs (la ++ [x]) lm v' vm := by
  have hf := fr_grown hk
  have e1 : jkpc (la ++ [x]) = jkpc la ++ [.pointer (some ⟨x, 0, none⟩)] := by simp [jkpc]
  exact ⟨⟨h.p.1.fr hf (own_ne h.ra h.p.1 (by decide)), h.p.2.1.fr hf (own_ne h.ra h.p.2.1 (by decide)), h.p.2.2⟩, h.bd.fr hf (own_ne h.ra h.bd (by decide)),
    by rw [e1, List.length_append]; exact ho, own_fr h.rm hf (fun k hk hm => own_apart h.ra h.rm (by decide) k hm (rowB_mem.2 hk)),
    fun j hj => (h.tk j hj).fr hf (own_ne h.ra (h.tk j hj) (by decide)), h.nd, h.new, h.at', h.fr.from hf (fun i hi hl => by have := (h.ra.lt i (rowB_mem.1 hi)).1; omega)⟩
theorem Sl.growM {x : Nat} {v' : Value} {o : Obj} (h : Sl W w what q b g cb zs av bs la lm va vm) (hk : (w.alloc o).grownBy w' vm.ownBlock) (ho : w'.ownsRow W.heap.size 248 1 v' (lm.length + 1) (jkmc lm ++ [.iface 125 (.pointer (some ⟨x, 0, none⟩))])) : Sl W w' what q b g cb zs av bs la (lm ++ [x]) va v' := by
  have hf := fr_grown hk
  have e1 : jkmc (lm ++ [x]) = jkmc lm ++ [.iface 125 (.pointer (some ⟨x, 0, none⟩))] := by simp [jkmc]
  exact ⟨⟨h.p.1.fr hf (own_ne h.rm h.p.1 (by decide)), h.p.2.1.fr hf (own_ne h.rm h.p.2.1 (by decide)), h.p.2.2⟩, h.bd.fr hf (own_ne h.rm h.bd (by decide)),
    own_fr h.ra hf (fun k hk hm => own_apart h.rm h.ra (by decide) k hm (rowB_mem.2 hk)), by rw [e1, List.length_append]; exact ho,
    fun j hj => (h.tk j hj).fr hf (own_ne h.rm (h.tk j hj) (by decide)), h.nd, h.new, h.at', h.fr.from hf (fun i hi hl => by have := (h.rm.lt i (rowB_mem.1 hi)).1; omega)⟩
end
theorem one_new31 (w : World) (u : Value) (t : TypeId) : ∀ j x, [u][j]? = some x → (w.alloc (.cells #[u] t)).cell? ((⟨w.heap.size, 0, none⟩ : Addr).add j) = some x := fun j x hu => by
  rw [Addr.add_lit, Nat.zero_add, (Bk.new w t [u]).cell]
  exact hu
theorem machs_of {w : World} {base : Nat} {v : Value} {bs : List Nat} (h : w.ownsRow base 248 1 v bs.length (jkmc bs)) : ∃ mb, Machs w v bs.length (fun _ => false) (fun _ => 125) (tkp bs) mb ∧ (0 < bs.length → mb ∈ rowB v) := by
  by_cases h0 : 0 < bs.length
  · have hc := h
    obtain ⟨hl, ⟨rfl, h1⟩ | ⟨g, cap, cur, rfl, _⟩⟩ := h
    · omega
    · exact ⟨g, ⟨_, cap, rfl, fun _ => ⟨0, rfl, fun i hi => by
        have := hc.cells (g := g) rfl i (machV (fun _ => false) (fun _ => 125) (tkp bs) i) (by simp [jkmc, machV, tkp, hi])
        rwa [Addr.add_lit] at this⟩⟩, fun _ => rowB_mem.2 rfl⟩
  · obtain ⟨o, c, rfl⟩ := own_slice h
    exact ⟨0, ⟨o, c, rfl, fun h => absurd h h0⟩, fun h => absurd h h0⟩
theorem ptrs_of {w : World} {base : Nat} {v : Value} {bs : List Nat} (h : w.ownsRow base 125 1 v bs.length (jkpc bs)) : ∃ ab o c, v = .slice o bs.length c ∧ (0 < bs.length → o = some ⟨ab, 0, none⟩ ∧ ab ∈ rowB v) ∧ ∀ i, i < bs.length → w.cell? ⟨ab, i, none⟩ = some (tkp bs i) := by
  by_cases h0 : 0 < bs.length
  · have hc := h
    obtain ⟨hl, ⟨rfl, h1⟩ | ⟨g, cap, cur, rfl, _⟩⟩ := h
    · omega
    · exact ⟨g, _, cap, rfl, fun _ => ⟨rfl, rowB_mem.2 rfl⟩, fun i hi => by
        have := hc.cells (g := g) rfl i (tkp bs i) (by simp [jkpc, tkp, hi])
        rwa [Addr.add_lit, Nat.zero_add] at this⟩
  · obtain ⟨o, c, rfl⟩ := own_slice h
    exact ⟨0, o, c, rfl, fun h => absurd h h0, fun i hi => absurd hi (by omega)⟩
theorem own_room {w : World} {base e n : Nat} {v : Value} {xs : List Value} (h : w.ownsRow base e 1 v n xs) : ∃ o c, v = .slice o n c ∧ (0 < n → n ≤ c ∧ ∃ g, o = some ⟨g, 0, none⟩ ∧ ∀ i u, xs[i]? = some u → w.cell? ⟨g, i, none⟩ = some u) := by
  have hc := h
  obtain ⟨hl, ⟨rfl, h1⟩ | ⟨g, cap, cur, rfl, _, _, h2, _⟩⟩ := h
  · exact ⟨none, 0, by rw [h1], fun h => by omega⟩
  · exact ⟨_, cap, rfl, fun _ => ⟨h2, g, rfl, fun i u hu => by
      have := hc.cells (g := g) rfl i u hu
      rwa [Addr.add_lit, Nat.zero_add] at this⟩⟩
/-- A word as a list. -/
theorem ws_word {w : World} {p : Addr} {x : Nat} (hx : x < 18446744073709551616) (hc : w.cell? p = some (.int .u64 (x : Nat))) (c : Nat) : Ws w (.slice (some p) 1 c) [x] :=
  ⟨fun z hz => by rw [List.mem_singleton.1 hz]; exact hx, .inr ⟨_, c, rfl, fun i hi => by
    obtain rfl : i = 0 := by simp at hi; omega
    have e : p.add 0 = p := by cases p; simp [Addr.add]
    rw [e]
    exact hc⟩⟩
/-- A run of no machine ends at once. -/
theorem stops_nil {σ : Type} {stp : σ → Nat → Int → σ × Bool} {s : σ} {L : List (Int × Int)} {k : Nat} (h : Stops 0 stp (startR 0 (fun _ => false) s) L k) : k = 0 := by
  rcases Nat.eq_zero_or_pos k with h0 | h0
  · exact h0
  · exact absurd rfl (h.on 0 h0)
/-- What a run of the Joins comes to. -/
theorem cs_end {what : Int} {A0 : List Nat} {ls : List (List Nat)} {zs : List Int} {L : List (Int × Int)} {k : Nat} (hw : what = 1 ∨ what = 2 ∨ what = 3) (hl : zs.length = A0.length) (hz : ∀ k, k < A0.length → ldv zs k = (at30 A0 k : Int)) (hV : ∀ k, k < A0.length → semV what (at30 A0 k)) (hA : ∀ i, i < ls.length → ∀ k, semV what (at30 (ls[i]?.getD []) k))
    (hst : Stops ls.length (stpC A0.length (wordE what) (fun i => ls[i]?.getD [])) (startR ls.length (fun _ => false) (zs, fun _ => ⟨false, false, 0, 0, 0, false⟩)) L k) : CsE A0.length ls.length what A0 ls (runE ls.length (stpC A0.length (wordE what) (fun i => ls[i]?.getD [])) (startR ls.length (fun _ => false) (zs, fun _ => ⟨false, false, 0, 0, 0, false⟩)) (L.take k)) := by
  have S := sem_word hw
  have hA' : ∀ k, ∀ B ∈ ls, semV what (at30 B k) := fun k B hB => by
    obtain ⟨i, hi, rfl⟩ := List.getElem_of_mem hB
    have := hA i hi k
    rwa [List.getElem?_eq_getElem hi] at this
  have h0 : CsE A0.length ls.length what A0 ls (startR ls.length (fun _ => false) (zs, fun _ => ⟨false, false, 0, 0, 0, false⟩)) :=
    cs_start S hl hz hV (fun k hk => sumW_up S k ls (hV k hk) (hA' k))
  by_cases hn : 0 < ls.length
  · refine cs_run hn S hV (fun k hk => sumW_V S k ls (hV k hk) (hA' k)) hA (fun i hi k hk => ?_) _ h0
    refine sumW_of S k ls (hV k hk) (hA' k) _ ?_
    rw [List.getElem?_eq_getElem hi]
    exact List.getElem_mem hi
  · obtain rfl : ls = [] := List.eq_nil_of_length_eq_zero (by omega)
    obtain rfl := stops_nil hst
    exact h0


end Go.Proofs.Yteheckcflnogbaa
