/-
  record.Log: contracts of its methods, over a Plain.
-/
import Derived.Test.YteheckcflnogbaaMemJ
import Derived.Test.YteheckcflnogbaaMemAll
import Derived.Maps.AppendAt
import Derived.Lib.SliceRun
import Derived.WalkSpells
import Derived.Outline
namespace Go.Proofs.Yteheckcflnogbaa
open Go.RowKit

/-- An event: its kind, its address, two words, what was told. -/
structure EvT where
  k : Int
  a : Int
  x : Int
  y : Int
  g : Int
  ok : Bool
deriving DecidableEq
def ev0 : EvT := ⟨0, 0, 0, 0, 0, false⟩
def evAt (L : List EvT) (j : Nat) : EvT := L[j]?.getD ev0
def evCells (e : EvT) : List Value := [.int .i64 e.k, .int .i64 e.a, .int .u64 e.x, .int .u64 e.y, .int .u64 e.g, .bool e.ok]
def ecells (L : List EvT) : List Value := L.flatMap evCells
theorem ecells_len (L : List EvT) : (ecells L).length = L.length * 6 := by
  induction L with
  | nil => rfl
  | cons p L ih => simp only [ecells, List.flatMap_cons, List.length_append, List.length_cons, List.length_nil, evCells] at ih ⊢; omega
theorem ecells_at (L : List EvT) : ∀ j, j < L.length → (ecells L)[j * 6]? = some (.int .i64 (evAt L j).k) ∧ (ecells L)[j * 6 + 1]? = some (.int .i64 (evAt L j).a) ∧ (ecells L)[j * 6 + 2]? = some (.int .u64 (evAt L j).x) ∧ (ecells L)[j * 6 + 3]? = some (.int .u64 (evAt L j).y) ∧ (ecells L)[j * 6 + 4]? = some (.int .u64 (evAt L j).g) ∧ (ecells L)[j * 6 + 5]? = some (.bool (evAt L j).ok) := by
  induction L with
  | nil => intro j h; simp at h
  | cons p L ih =>
    intro j h
    cases j with
    | zero => exact ⟨rfl, rfl, rfl, rfl, rfl, rfl⟩
    | succ j =>
      have := ih j (by simpa using h)
      rw [show (j + 1) * 6 = j * 6 + 1 + 1 + 1 + 1 + 1 + 1 by omega]
      exact this
theorem ecells_one (L : List EvT) : ∀ u ∈ ecells L, u.oneCell' = true := by
  intro u hu
  simp only [ecells, List.mem_flatMap, evCells, List.mem_cons, List.not_mem_nil, or_false] at hu
  obtain ⟨x, _, rfl | rfl | rfl | rfl | rfl | rfl⟩ := hu <;> rfl
theorem ecells_snoc (L : List EvT) (e : EvT) : ecells (L ++ [e]) = ecells L ++ evCells e := by unfold ecells; rw [List.flatMap_append]; simp
/-- A slice, in block gi, reads as a list of events. -/
def Evs (w : World) (v : Value) (L : List EvT) (gi : Nat) : Prop :=
  ∃ o c, v = .slice o L.length c ∧ L.length ≤ c ∧ (0 < L.length → ∃ off, o = some ⟨gi, off, none⟩ ∧ ∀ j, j < L.length →
    w.cell? ⟨gi, off + j * 6, none⟩ = some (.int .i64 (evAt L j).k) ∧ w.cell? ⟨gi, off + j * 6 + 1, none⟩ = some (.int .i64 (evAt L j).a) ∧
    w.cell? ⟨gi, off + j * 6 + 2, none⟩ = some (.int .u64 (evAt L j).x) ∧ w.cell? ⟨gi, off + j * 6 + 3, none⟩ = some (.int .u64 (evAt L j).y) ∧
    w.cell? ⟨gi, off + j * 6 + 4, none⟩ = some (.int .u64 (evAt L j).g) ∧ w.cell? ⟨gi, off + j * 6 + 5, none⟩ = some (.bool (evAt L j).ok))
theorem Evs.fr {S : List Nat} {w w' : World} {v : Value} {L : List EvT} {gi : Nat} (h : Evs w v L gi) (k : Fr S w w') (hg : 0 < L.length → gi ∉ S) : Evs w' v L gi := by
  obtain ⟨o, c, rfl, hle, hc⟩ := h
  refine ⟨o, c, rfl, hle, fun h0 => ?_⟩
  replace hg := hg h0
  obtain ⟨off, rfl, hd⟩ := hc h0
  exact ⟨off, rfl, fun j hj => ⟨cell_fr (hd j hj).1 k hg, cell_fr (hd j hj).2.1 k hg, cell_fr (hd j hj).2.2.1 k hg, cell_fr (hd j hj).2.2.2.1 k hg, cell_fr (hd j hj).2.2.2.2.1 k hg, cell_fr (hd j hj).2.2.2.2.2 k hg⟩⟩
theorem Evs.below {w w' : World} {v : Value} {L : List EvT} {gi : Nat} (h : Evs w v L gi) (k : Below w.heap.size w w') : Evs w' v L gi := h.fr (S := []) (.of k) (by simp)
theorem Evs.len {w : World} {v : Value} {L : List EvT} {gi : Nat} (h : Evs w v L gi) : ∃ o c, v = .slice o L.length c := by obtain ⟨o, c, rfl, _⟩ := h; exact ⟨o, c, rfl⟩
theorem Evs.of_owns {w : World} {base e : Nat} {v : Value} {n : Nat} {L : List EvT} (h : w.ownsRow base e 6 v n (ecells L)) : ∃ gi, Evs w v L gi ∧ (v.ownBlock = none ∨ v.ownBlock = some gi) := by
  obtain ⟨hl, h | ⟨g, cap, cur, rfl, hg, hb, hn, hm, hs, hc⟩⟩ := h
  · obtain ⟨rfl, rfl⟩ := h
    have : L = [] := by rw [ecells_len] at hl; exact List.eq_nil_of_length_eq_zero (by omega)
    subst this
    exact ⟨0, ⟨_, _, rfl, by simp, by simp⟩, .inl rfl⟩
  · have hzl : L.length = n := by rw [ecells_len] at hl; omega
    subst hzl
    have hcell : ∀ i, i < L.length * 6 → w.cell? ⟨g, i, none⟩ = (ecells L)[i]? := fun i hi => by
      rw [← hc, List.getElem?_take, if_pos hi]
      simp [World.cell?, hb]
    refine ⟨g, ⟨_, _, rfl, hn, fun _ => ⟨0, rfl, fun j hj => ?_⟩⟩, .inr rfl⟩
    have := ecells_at L j hj
    rw [Nat.zero_add]
    exact ⟨(hcell _ (by omega)).trans this.1, (hcell _ (by omega)).trans this.2.1, (hcell _ (by omega)).trans this.2.2.1, (hcell _ (by omega)).trans this.2.2.2.1, (hcell _ (by omega)).trans this.2.2.2.2.1, (hcell _ (by omega)).trans this.2.2.2.2.2⟩
theorem Evs.cells {w : World} {gi off c : Nat} {L : List EvT} (h : Evs w (.slice (some ⟨gi, off, none⟩) L.length c) L gi) : ∀ j u, (ecells L)[j]? = some u → w.cell? ⟨gi, off + j, none⟩ = some u := by
  intro j u hu
  have hlt : j < L.length * 6 := by
    have := (List.getElem?_eq_some_iff.1 hu).1
    rwa [ecells_len] at this
  obtain ⟨o, c', e, _, hc⟩ := h
  injection e with e1 e2 e3
  subst e1
  obtain ⟨off', e, hd⟩ := hc (by omega)
  injection e with e
  injection e with _ e
  subst e
  have hj := hd (j / 6) (by omega)
  have ha := ecells_at L (j / 6) (by omega)
  have hdm := Nat.div_add_mod j 6
  rcases (show j % 6 = 0 ∨ j % 6 = 1 ∨ j % 6 = 2 ∨ j % 6 = 3 ∨ j % 6 = 4 ∨ j % 6 = 5 by omega) with h4 | h4 | h4 | h4 | h4 | h4
  · rw [show j = j / 6 * 6 by omega] at hu ⊢
    rw [ha.1] at hu; injection hu with hu; subst hu; exact hj.1
  · rw [show j = j / 6 * 6 + 1 by omega] at hu ⊢
    rw [ha.2.1] at hu; injection hu with hu; subst hu; exact hj.2.1
  · rw [show j = j / 6 * 6 + 2 by omega] at hu ⊢
    rw [ha.2.2.1] at hu; injection hu with hu; subst hu; exact hj.2.2.1
  · rw [show j = j / 6 * 6 + 3 by omega] at hu ⊢
    rw [ha.2.2.2.1] at hu; injection hu with hu; subst hu; exact hj.2.2.2.1
  · rw [show j = j / 6 * 6 + 4 by omega] at hu ⊢
    rw [ha.2.2.2.2.1] at hu; injection hu with hu; subst hu; exact hj.2.2.2.2.1
  · rw [show j = j / 6 * 6 + 5 by omega] at hu ⊢
    rw [ha.2.2.2.2.2] at hu; injection hu with hu; subst hu; exact hj.2.2.2.2.2
theorem ev_new (w : World) (e : EvT) (t : TypeId) : ∀ j u, (evCells e)[j]? = some u → (w.alloc (.cells (evCells e).toArray t)).cell? ((⟨w.heap.size, 0, none⟩ : Addr).add j) = some u := fun j u hu => by
  rw [Addr.add_lit, Nat.zero_add, (Bk.new w t (evCells e)).cell]
  exact hu
theorem own_fr {S : List Nat} {w w' : World} {base e : Nat} {v : Value} {n size : Nat} {xs : List Value} (h : w.ownsRow base e size v n xs) (k : Fr S w w') (hS : ∀ g, v.ownBlock = some g → g ∉ S) : w'.ownsRow base e size v n xs := by
  obtain ⟨hl, h | ⟨g, cap, cur, rfl, hg, hb, hn, hm, hs, hc⟩⟩ := h
  · exact ⟨hl, .inl h⟩
  · have hlt : g < w.heap.size := (Array.getElem?_eq_some_iff.1 hb).1
    exact ⟨hl, .inr ⟨g, cap, cur, rfl, hg, (k.block g hlt (hS g rfl)).trans hb, hn, hm, hs, hc⟩⟩
/-- The block of a row, if it has one. -/
def rowB (v : Value) : List Nat := v.ownBlock.toList
theorem rowB_mem {v : Value} {k : Nat} : k ∈ rowB v ↔ v.ownBlock = some k := by unfold rowB; cases v.ownBlock <;> simp [eq_comm]
theorem own_ne {w : World} {base e : Nat} {v : Value} {n size : Nat} {xs : List Value} {t : TypeId} {cs : List Value} {g : Nat} (h : w.ownsRow base e size v n xs) (hb : Bk w g t cs) (ht : t ≠ e) : g ∉ rowB v := by
  intro hm
  have hm := rowB_mem.1 hm
  obtain ⟨hl, ⟨rfl, _⟩ | ⟨g', cap, cur, rfl, hg, hh, _⟩⟩ := h
  · cases hm
  · injection hm with hm
    subst hm
    unfold Bk at hb
    rw [hb] at hh
    injection hh with hh
    injection hh with _ h2
    exact ht h2

theorem own_slice {w : World} {base e : Nat} {v : Value} {n size : Nat} {xs : List Value} (h : w.ownsRow base e size v n xs) : ∃ o c, v = .slice o n c := by
  obtain ⟨_, ⟨rfl, rfl⟩ | ⟨g, cap, cur, rfl, _⟩⟩ := h
  · exact ⟨_, _, rfl⟩
  · exact ⟨_, _, rfl⟩
theorem ev_info : (Try.prog.info? 172).map (fun i => (i.zero, i.size, i.bytes)) = some (some (.agg #[.int .i64 0, .int .i64 0, .int .u64 0, .int .u64 0, .int .u64 0, .bool false]), 6, 48) := by kernel_rfl

/-- A Log at block lb, over a Plain: its words, what was noted; v is the noted row. -/
structure Lg (w : World) (B lb b g : Nat) (zs : List Int) (L : List EvT) (v : Value) : Prop where
  box : Bk w lb 184 [.iface 64 (.pointer (some ⟨b, 0, none⟩)), v]
  row : w.ownsRow B 172 6 v L.length (ecells L)
  mem : Pm w b g zs
/-- Its blocks. -/
def lgB (lb b g : Nat) (v : Value) : List Nat := lb :: b :: g :: rowB v
theorem Lg.ne {w : World} {B lb b g : Nat} {zs : List Int} {L : List EvT} {v : Value} (h : Lg w B lb b g zs L v) : lb ≠ b ∧ lb ≠ g ∧ lb ∉ rowB v ∧ b ∉ rowB v ∧ g ∉ rowB v :=
  ⟨h.box.ne h.mem.1 (by decide), h.box.ne h.mem.2.1 (by decide), own_ne h.row h.box (by decide), own_ne h.row h.mem.1 (by decide), own_ne h.row h.mem.2.1 (by decide)⟩
theorem Lg.fr {S : List Nat} {w w' : World} {B lb b g : Nat} {zs : List Int} {L : List EvT} {v : Value} (h : Lg w B lb b g zs L v) (k : Fr S w w') (hS : ∀ x ∈ lgB lb b g v, x ∉ S) : Lg w' B lb b g zs L v :=
  ⟨h.box.fr k (hS _ (by simp [lgB])), own_fr h.row k (fun x hx => hS x (by simp [lgB, rowB_mem.2 hx])), ⟨h.mem.1.fr k (hS _ (by simp [lgB])), h.mem.2.1.fr k (hS _ (by simp [lgB])), h.mem.2.2⟩⟩
theorem Lg.below {w w' : World} {B lb b g : Nat} {zs : List Int} {L : List EvT} {v : Value} (h : Lg w B lb b g zs L v) (k : Below w.heap.size w w') : Lg w' B lb b g zs L v := h.fr (S := []) (.of k) (by simp)
theorem Lg.lt {w : World} {B lb b g : Nat} {zs : List Int} {L : List EvT} {v : Value} (h : Lg w B lb b g zs L v) : ∀ x ∈ lgB lb b g v, x < w.heap.size := by
  intro x hx
  simp only [lgB, List.mem_cons] at hx
  rcases hx with rfl | rfl | rfl | hx
  · exact h.box.lt
  · exact h.mem.1.lt
  · exact h.mem.2.1.lt
  · exact (h.row.lt x (rowB_mem.1 hx)).2
/-- What noting does: behind the memory's own turn, the new row, and the store of it. -/
theorem Lg.push {w w1 w3 : World} {B lb b g : Nat} {zs zs' : List Int} {L : List EvT} {v v' : Value} {e : EvT} (h : Lg w B lb b g zs L v) (hm : Pm w1 b g zs') (hk : w.grownBy w1 (some g))
    (hown : w3.ownsRow B 172 6 v' (L.length + 1) (ecells L ++ evCells e)) (hg : (w1.alloc (.cells (evCells e).toArray 172)).grownBy w3 v.ownBlock) (hv : v'.ownBlock = v.ownBlock ∨ v'.ownBlock = some (w1.heap.size + 1)) :
    Lg (w3.setCell ⟨lb, 1, none⟩ v') B lb b g zs' (L ++ [e]) v' ∧ Fr (lgB lb b g v) w (w3.setCell ⟨lb, 1, none⟩ v') ∧ ∀ k, k ∈ lgB lb b g v' → k ∈ lgB lb b g v ∨ w.heap.size ≤ k := by
  have hne := h.ne
  have hs := hk.size
  have f1 : Fr [g] w w1 := .gb hk (by simp)
  have f2 : Fr (rowB v) w1 w3 := by
    have a0 := (Fr.refl (rowB v) w1).alloc (.cells (evCells e).toArray 172)
    refine a0.trans ⟨hg.os, hg.tape, hg.output, hg.size, fun k hk hn => hg.block k hk (fun he => hn (rowB_mem.2 he.symm))⟩
  have f3 : Fr [lb] w3 (w3.setCell ⟨lb, 1, none⟩ v') := (Fr.refl _ _).set (by simp) _
  have lb1 := h.box.fr f1 (by simp; exact hne.2.1)
  have lb3 := lb1.fr f2 hne.2.2.1
  have hbl := h.mem.1.lt
  have hgl := h.mem.2.1.lt
  have hlb := h.box.lt
  have hx : ∀ k, v'.ownBlock = some k → v.ownBlock = some k ∨ w.heap.size ≤ k := fun k he => by
    rcases hv with h4 | h4
    · exact .inl (h4 ▸ he)
    · rw [h4] at he; injection he with he; right; omega
  have hnl : lb ∉ rowB v' := fun hm' => by
    rcases hx lb (rowB_mem.1 hm') with h4 | h4
    · exact hne.2.2.1 (rowB_mem.2 h4)
    · omega
  refine ⟨⟨?_, ?_, ?_⟩, ?_, ?_⟩
  · have := lb3.set 1 v'
    simpa using this
  · rw [ecells_snoc, List.length_append]
    exact own_fr hown f3 (fun k hk he => hnl (by rw [← List.mem_singleton.1 he]; exact rowB_mem.2 hk))
  · have f23 := f2
    exact ⟨((hm.1.fr f2 hne.2.2.2.1).fr f3 (by simp; exact fun e => hne.1 e.symm)), ((hm.2.1.fr f2 hne.2.2.2.2).fr f3 (by simp; exact fun e => hne.2.1 e.symm)), hm.2.2⟩
  · exact ((f1.mono (by simp [lgB])).trans (f2.mono (by intro k hk; simp [lgB, hk]))).trans (f3.mono (by simp [lgB]))
  · intro k hk
    simp only [lgB, List.mem_cons] at hk ⊢
    rcases hk with h1 | h1 | h1 | h1
    · exact .inl (.inl h1)
    · exact .inl (.inr (.inl h1))
    · exact .inl (.inr (.inr (.inl h1)))
    · rcases hx k (rowB_mem.1 h1) with h4 | h4
      · exact .inl (.inr (.inr (.inr (rowB_mem.2 h4))))
      · exact .inr h4
/-- Behind a call that noted e: the words zs'. -/
def Noted (w w' : World) (B lb b g : Nat) (zs' : List Int) (L : List EvT) (v : Value) (e : EvT) : Prop :=
  ∃ v', Lg w' B lb b g zs' (L ++ [e]) v' ∧ Fr (lgB lb b g v) w w' ∧ ∀ k, k ∈ lgB lb b g v' → k ∈ lgB lb b g v ∨ w.heap.size ≤ k

set_option maxHeartbeats 1600000 in
set_option maxRecDepth 100000 in
theorem lnone_any (lb b : Nat) (v : Value) (w : World) (h : Bk w lb 184 [.iface 64 (.pointer (some ⟨b, 0, none⟩)), v]) :
    Calls Try.prog 164 #[.pointer (some ⟨lb, 0, none⟩)] w fun e w' => e = .returned (.bool false) ∧ w' = w := by
  have c0 : w.cell? ⟨lb, 0, none⟩ = some (.iface 64 (.pointer (some ⟨b, 0, none⟩))) := h.cell 0
  clear h
  go_enter Try.func164, Try.ntmps164
  go_wp2_with fail
  go_ret
  exact ⟨rfl, rfl⟩
theorem lnone_none (w : World) :
    Calls Try.prog 164 #[.pointer none] w fun e w' => e = .returned (.bool true) ∧ w' = w := by
  go_enter Try.func164, Try.ntmps164
  go_wp2_with fail
  go_ret
  exact ⟨rfl, rfl⟩


set_option maxHeartbeats 3200000 in
set_option maxRecDepth 100000 in
theorem lload_any (a : Int) (B lb b g : Nat) (zs : List Int) (L : List EvT) (v : Value) (w : World) (h : Lg w B lb b g zs L v) (hn : L.length ≤ 100000) (hB : B ≤ w.heap.size) :
    Calls Try.prog 115 #[.pointer (some ⟨lb, 0, none⟩), .int .i64 a] w fun e w' => e = .returned (.int .u64 (ldv zs a)) ∧ Noted w w' B lb b g zs L v ⟨1, a, 0, 0, ldv zs a, false⟩ := by
  obtain ⟨i0, hi, hz0, hz1, hz2⟩ := info_parts ev_info
  have HL := Lib.hid h
  have c0 : w.cell? ⟨lb, 0, none⟩ = some (.iface 64 (.pointer (some ⟨b, 0, none⟩))) := h.box.cell 0
  have hm : ∀ (a : Addr) (w : World), (method 394 64 (.pointer (some a)) "Load").run Try.prog w = .ok (87, .pointer (some a)) w := fun a w => by kernel_rfl
  clear h
  go_enter Try.func115, Try.ntmps115
  go_wp2_with fail
  refine (lnone_any lb b v _ HL.out.box).mono ?_
  rintro e w1 ⟨rfl, rfl⟩
  go_wp2_with fail
  refine (load_any _ b g zs _ HL.out.mem).mono ?_
  rintro e w2 ⟨rfl, hK⟩
  have HM := Lib.hid (HL.out.mem.below hK)
  have HK := Lib.hid (gb_below hK (some g))
  clear hK
  have hs2 := HK.out.size
  have hne := HL.out.ne
  have HO := Lib.hid (HL.out.row.kept HK.out (by
    cases hv : v.ownBlock with
    | none => exact .inl rfl
    | some x => exact .inr (fun e => hne.2.2.2.2 (rowB_mem.2 (hv.trans e)))))
  have HB2 := Lib.hid (HL.out.box.keep HK.out (by simp; exact hne.2.1))
  have c1 : w2.cell? ⟨lb, 1, none⟩ = some v := HB2.out.cell 1
  have hlb := HB2.out.lt
  have HNL := Lib.hid hne.2.2.1
  clear c0 hne
  go_wp2_with (at_builtin; refine wpList_append_own_at _ rfl _ _ 44 rfl B 172 i0 (.agg #[.int .i64 0, .int .i64 0, .int .u64 0, .int .u64 0, .int .u64 0, .bool false]) 6 48 Try.underlying44 hi hz0 hz1 hz2 rfl (by decide) _ _ _ rfl (HO.out.alloc _) ⟨w2.heap.size, 0, none⟩ 1 1 (evCells ⟨1, a, 0, 0, ldv zs a, false⟩) rfl rfl ?c1 ?c2 ?c3 ?c4 ?c5 ?_)
  case c1 => exact ev_new _ _ _
  case c2 => simp [evCells, Value.oneCell']
  case c3 => unfold maxLen; omega
  case c4 => omega
  case c5 => simp; omega
  intro v' w3 hown' hgrow _ hat
  obtain ⟨o', c', rfl⟩ := own_slice hown'
  have HP := Lib.hid (HL.out.push HM.out HK.out hown' hgrow (by simpa using hat))
  have HB3 := Lib.hid (show Bk w3 lb 184 [.iface 64 (.pointer (some ⟨b, 0, none⟩)), v] from (HB2.out.alloc _).keep hgrow (fun e => HNL.out (rowB_mem.2 e.symm)))
  have c3 : w3.cell? ⟨lb, 1, none⟩ = some v := HB3.out.cell 1
  have f3 := HB3.out.free 1
  clear hown' hgrow hat c1
  go_wp2_with fail
  go_ret
  exact ⟨rfl, _, HP.out⟩


set_option maxHeartbeats 3200000 in
set_option maxRecDepth 100000 in
theorem lstore_any (a u : Int) (B lb b g : Nat) (zs : List Int) (L : List EvT) (v : Value) (w : World) (h : Lg w B lb b g zs L v) (hn : L.length ≤ 100000) (hB : B ≤ w.heap.size) :
    Calls Try.prog 114 #[.pointer (some ⟨lb, 0, none⟩), .int .i64 a, .int .u64 u] w fun e w' => e = .returned (.tuple #[]) ∧ Noted w w' B lb b g (stv zs a u) L v ⟨2, a, u, 0, 0, false⟩ := by
  obtain ⟨i0, hi, hz0, hz1, hz2⟩ := info_parts ev_info
  have HL := Lib.hid h
  have c0 : w.cell? ⟨lb, 0, none⟩ = some (.iface 64 (.pointer (some ⟨b, 0, none⟩))) := h.box.cell 0
  have hm : ∀ (a : Addr) (w : World), (method 394 64 (.pointer (some a)) "Store").run Try.prog w = .ok (68, .pointer (some a)) w := fun a w => by kernel_rfl
  clear h
  go_enter Try.func114, Try.ntmps114
  go_wp2_with fail
  refine (lnone_any lb b v _ HL.out.box).mono ?_
  rintro e w1 ⟨rfl, rfl⟩
  go_wp2_with fail
  refine (store_any _ _ b g zs _ HL.out.mem).mono ?_
  rintro e w2 ⟨rfl, hM, hK⟩
  have HM := Lib.hid hM
  have HK := Lib.hid hK
  clear hM hK
  have hs2 := HK.out.size
  have hne := HL.out.ne
  have HO := Lib.hid (HL.out.row.kept HK.out (by
    cases hv : v.ownBlock with
    | none => exact .inl rfl
    | some x => exact .inr (fun e => hne.2.2.2.2 (rowB_mem.2 (hv.trans e)))))
  have HB2 := Lib.hid (HL.out.box.keep HK.out (by simp; exact hne.2.1))
  have c1 : w2.cell? ⟨lb, 1, none⟩ = some v := HB2.out.cell 1
  have hlb := HB2.out.lt
  have HNL := Lib.hid hne.2.2.1
  clear c0 hne
  go_wp2_with (at_builtin; refine wpList_append_own_at _ rfl _ _ 44 rfl B 172 i0 (.agg #[.int .i64 0, .int .i64 0, .int .u64 0, .int .u64 0, .int .u64 0, .bool false]) 6 48 Try.underlying44 hi hz0 hz1 hz2 rfl (by decide) _ _ _ rfl (HO.out.alloc _) ⟨w2.heap.size, 0, none⟩ 1 1 (evCells ⟨2, a, u, 0, 0, false⟩) rfl rfl ?c1 ?c2 ?c3 ?c4 ?c5 ?_)
  case c1 => exact ev_new _ _ _
  case c2 => simp [evCells, Value.oneCell']
  case c3 => unfold maxLen; omega
  case c4 => omega
  case c5 => simp; omega
  intro v' w3 hown' hgrow _ hat
  obtain ⟨o', c', rfl⟩ := own_slice hown'
  have HP := Lib.hid (HL.out.push HM.out HK.out hown' hgrow (by simpa using hat))
  have HB3 := Lib.hid (show Bk w3 lb 184 [.iface 64 (.pointer (some ⟨b, 0, none⟩)), v] from (HB2.out.alloc _).keep hgrow (fun e => HNL.out (rowB_mem.2 e.symm)))
  have c3 : w3.cell? ⟨lb, 1, none⟩ = some v := HB3.out.cell 1
  have f3 := HB3.out.free 1
  clear hown' hgrow hat c1
  go_wp2_with fail
  exact bodyPost_end (v := .tuple #[]) (by simp [results, Try.results114, go_sem]) rfl ⟨rfl, _, HP.out⟩


set_option maxHeartbeats 3200000 in
set_option maxRecDepth 100000 in
theorem lcas_any (a x u : Int) (B lb b g : Nat) (zs : List Int) (L : List EvT) (v : Value) (w : World) (h : Lg w B lb b g zs L v) (hn : L.length ≤ 100000) (hB : B ≤ w.heap.size) :
    Calls Try.prog 229 #[.pointer (some ⟨lb, 0, none⟩), .int .i64 a, .int .u64 x, .int .u64 u] w fun e w' => e = .returned (.bool (casb zs a x)) ∧ Noted w w' B lb b g (casv zs a x u) L v ⟨3, a, x, u, 0, casb zs a x⟩ := by
  obtain ⟨i0, hi, hz0, hz1, hz2⟩ := info_parts ev_info
  have HL := Lib.hid h
  have c0 : w.cell? ⟨lb, 0, none⟩ = some (.iface 64 (.pointer (some ⟨b, 0, none⟩))) := h.box.cell 0
  have hm : ∀ (a : Addr) (w : World), (method 394 64 (.pointer (some a)) "CAS").run Try.prog w = .ok (226, .pointer (some a)) w := fun a w => by kernel_rfl
  clear h
  go_enter Try.func229, Try.ntmps229
  go_wp2_with fail
  refine (lnone_any lb b v _ HL.out.box).mono ?_
  rintro e w1 ⟨rfl, rfl⟩
  go_wp2_with fail
  refine (cas_any _ _ _ b g zs _ HL.out.mem).mono ?_
  rintro e w2 ⟨rfl, hM, hK⟩
  have HM := Lib.hid hM
  have HK := Lib.hid hK
  clear hM hK
  have hs2 := HK.out.size
  have hne := HL.out.ne
  have HO := Lib.hid (HL.out.row.kept HK.out (by
    cases hv : v.ownBlock with
    | none => exact .inl rfl
    | some x => exact .inr (fun e => hne.2.2.2.2 (rowB_mem.2 (hv.trans e)))))
  have HB2 := Lib.hid (HL.out.box.keep HK.out (by simp; exact hne.2.1))
  have c1 : w2.cell? ⟨lb, 1, none⟩ = some v := HB2.out.cell 1
  have hlb := HB2.out.lt
  have HNL := Lib.hid hne.2.2.1
  clear c0 hne
  go_wp2_with (at_builtin; refine wpList_append_own_at _ rfl _ _ 44 rfl B 172 i0 (.agg #[.int .i64 0, .int .i64 0, .int .u64 0, .int .u64 0, .int .u64 0, .bool false]) 6 48 Try.underlying44 hi hz0 hz1 hz2 rfl (by decide) _ _ _ rfl (HO.out.alloc _) ⟨w2.heap.size, 0, none⟩ 1 1 (evCells ⟨3, a, x, u, 0, casb zs a x⟩) rfl rfl ?c1 ?c2 ?c3 ?c4 ?c5 ?_)
  case c1 => exact ev_new _ _ _
  case c2 => simp [evCells, Value.oneCell']
  case c3 => unfold maxLen; omega
  case c4 => omega
  case c5 => simp; omega
  intro v' w3 hown' hgrow _ hat
  obtain ⟨o', c', rfl⟩ := own_slice hown'
  have HP := Lib.hid (HL.out.push HM.out HK.out hown' hgrow (by simpa using hat))
  have HB3 := Lib.hid (show Bk w3 lb 184 [.iface 64 (.pointer (some ⟨b, 0, none⟩)), v] from (HB2.out.alloc _).keep hgrow (fun e => HNL.out (rowB_mem.2 e.symm)))
  have c3 : w3.cell? ⟨lb, 1, none⟩ = some v := HB3.out.cell 1
  have f3 := HB3.out.free 1
  clear hown' hgrow hat c1
  go_wp2_with fail
  go_ret
  exact ⟨rfl, _, HP.out⟩


set_option maxHeartbeats 3200000 in
set_option maxRecDepth 100000 in
theorem ladd_any (a d : Int) (B lb b g : Nat) (zs : List Int) (L : List EvT) (v : Value) (w : World) (h : Lg w B lb b g zs L v) (hn : L.length ≤ 100000) (hB : B ≤ w.heap.size) :
    Calls Try.prog 228 #[.pointer (some ⟨lb, 0, none⟩), .int .i64 a, .int .u64 d] w fun e w' => e = .returned (.int .u64 (addw zs a d)) ∧ Noted w w' B lb b g (addv zs a d) L v ⟨4, a, d, 0, addw zs a d, false⟩ := by
  obtain ⟨i0, hi, hz0, hz1, hz2⟩ := info_parts ev_info
  have HL := Lib.hid h
  have c0 : w.cell? ⟨lb, 0, none⟩ = some (.iface 64 (.pointer (some ⟨b, 0, none⟩))) := h.box.cell 0
  have hm : ∀ (a : Addr) (w : World), (method 394 64 (.pointer (some a)) "Add").run Try.prog w = .ok (225, .pointer (some a)) w := fun a w => by kernel_rfl
  clear h
  go_enter Try.func228, Try.ntmps228
  go_wp2_with fail
  refine (lnone_any lb b v _ HL.out.box).mono ?_
  rintro e w1 ⟨rfl, rfl⟩
  go_wp2_with fail
  refine (add_any _ _ b g zs _ HL.out.mem).mono ?_
  rintro e w2 ⟨rfl, hM, hK⟩
  have HM := Lib.hid hM
  have HK := Lib.hid hK
  clear hM hK
  have hs2 := HK.out.size
  have hne := HL.out.ne
  have HO := Lib.hid (HL.out.row.kept HK.out (by
    cases hv : v.ownBlock with
    | none => exact .inl rfl
    | some x => exact .inr (fun e => hne.2.2.2.2 (rowB_mem.2 (hv.trans e)))))
  have HB2 := Lib.hid (HL.out.box.keep HK.out (by simp; exact hne.2.1))
  have c1 : w2.cell? ⟨lb, 1, none⟩ = some v := HB2.out.cell 1
  have hlb := HB2.out.lt
  have HNL := Lib.hid hne.2.2.1
  clear c0 hne
  go_wp2_with (at_builtin; refine wpList_append_own_at _ rfl _ _ 44 rfl B 172 i0 (.agg #[.int .i64 0, .int .i64 0, .int .u64 0, .int .u64 0, .int .u64 0, .bool false]) 6 48 Try.underlying44 hi hz0 hz1 hz2 rfl (by decide) _ _ _ rfl (HO.out.alloc _) ⟨w2.heap.size, 0, none⟩ 1 1 (evCells ⟨4, a, d, 0, addw zs a d, false⟩) rfl rfl ?c1 ?c2 ?c3 ?c4 ?c5 ?_)
  case c1 => exact ev_new _ _ _
  case c2 => simp [evCells, Value.oneCell']
  case c3 => unfold maxLen; omega
  case c4 => omega
  case c5 => simp; omega
  intro v' w3 hown' hgrow _ hat
  obtain ⟨o', c', rfl⟩ := own_slice hown'
  have HP := Lib.hid (HL.out.push HM.out HK.out hown' hgrow (by simpa using hat))
  have HB3 := Lib.hid (show Bk w3 lb 184 [.iface 64 (.pointer (some ⟨b, 0, none⟩)), v] from (HB2.out.alloc _).keep hgrow (fun e => HNL.out (rowB_mem.2 e.symm)))
  have c3 : w3.cell? ⟨lb, 1, none⟩ = some v := HB3.out.cell 1
  have f3 := HB3.out.free 1
  clear hown' hgrow hat c1
  go_wp2_with fail
  go_ret
  exact ⟨rfl, _, HP.out⟩

end Go.Proofs.Yteheckcflnogbaa
