/-
  step.Prog: New, Done, Step, Regs, At: contracts.
-/
import Derived.Test.YthidinalhbnmmaaStep
import Derived.Test.YthidinalhbnmmaaMemAll
import Derived.Lib.SliceRun
import Derived.WalkSpells
namespace Go.Proofs.Ythidinalhbnmmaa
open Go.RowKit

def insCells (x : InsT) : List Value := [.int .i64 x.op, .int .i64 x.r, .int .i64 x.a, .int .u64 x.n]
def icells (L : List InsT) : List Value := L.flatMap insCells
/-- A slice, in block gi, reads as a list of instructions. -/
def Ins (w : World) (v : Value) (L : List InsT) (gi : Nat) : Prop :=
  ∃ o c, v = .slice o L.length c ∧ L.length ≤ c ∧ (0 < L.length → ∃ off, o = some ⟨gi, off, none⟩ ∧ ∀ j, j < L.length →
    w.cell? ⟨gi, off + j * 4, none⟩ = some (.int .i64 (insAt L j).op) ∧ w.cell? ⟨gi, off + j * 4 + 1, none⟩ = some (.int .i64 (insAt L j).r) ∧
    w.cell? ⟨gi, off + j * 4 + 2, none⟩ = some (.int .i64 (insAt L j).a) ∧ w.cell? ⟨gi, off + j * 4 + 3, none⟩ = some (.int .u64 (insAt L j).n))
theorem Ins.fr {S : List Nat} {w w' : World} {v : Value} {L : List InsT} {gi : Nat} (h : Ins w v L gi) (k : Fr S w w') (hg : 0 < L.length → gi ∉ S) : Ins w' v L gi := by
  obtain ⟨o, c, rfl, hle, hc⟩ := h
  refine ⟨o, c, rfl, hle, fun h0 => ?_⟩
  replace hg := hg h0
  obtain ⟨off, rfl, hd⟩ := hc h0
  exact ⟨off, rfl, fun j hj => ⟨cell_fr (hd j hj).1 k hg, cell_fr (hd j hj).2.1 k hg, cell_fr (hd j hj).2.2.1 k hg, cell_fr (hd j hj).2.2.2 k hg⟩⟩
/-- Is a machine done? -/
def dn (L : List InsT) (at' : Int) : Bool := decide (at' < 0) || (decide ((L.length : Int) ≤ at') || ((insAt L at'.toNat).op == 0))

set_option maxHeartbeats 1600000 in
set_option maxRecDepth 100000 in
theorem done_any (b gi : Nat) (sl : Value) (rs : List Int) (L : List InsT) (at' : Int) (w : World) (h : Pg w b sl rs at') (hL : Ins w sl L gi) :
    Calls Try.prog 32 #[.pointer (some ⟨b, 0, none⟩)] w fun e w' => e = .returned (.bool (dn L at')) ∧ ∃ n, w' = w.drewN n := by
  have g0 := h.at'
  obtain ⟨o, c, rfl, hle, hc⟩ := hL
  have g1 : w.cell? ⟨b, 0, none⟩ = some (.slice o L.length c) := h.1.cell 0
  clear h
  by_cases h1 : at' < 0
  · have d1 : decide (at' < 0) = true := by simpa using h1
    have Hr := Lib.hid (show dn L at' = true by unfold dn; simp [h1])
    clear hc h1
    go_enter Try.func32, Try.ntmps32
    go_wp2
    go_quiet (fail)
    go_wp2
    go_ret
    exact ⟨ret_bool Hr.out.symm, _, rfl⟩
  have d1 : decide (at' < 0) = false := by simpa using h1
  by_cases h2 : (L.length : Int) ≤ at'
  · have d2 : decide ((L.length : Int) ≤ at') = true := by simpa using h2
    have Hr := Lib.hid (show dn L at' = true by unfold dn; simp [h2])
    clear hc
    go_enter Try.func32, Try.ntmps32
    go_wp2
    go_quiet (fail)
    go_wp2
    go_ret
    exact ⟨ret_bool Hr.out.symm, _, rfl⟩
  have d2 : decide ((L.length : Int) ≤ at') = false := by simpa using h2
  obtain ⟨k, rfl⟩ : ∃ k : Nat, at' = k := ⟨at'.toNat, by omega⟩
  obtain ⟨off, rfl, hd⟩ := hc (by omega)
  have c0 := (hd k (by omega)).1
  have hk : k < L.length := by omega
  have d3 : decide (L.length ≤ k) = false := by simp; omega
  clear hd hc h1 h2
  have Hr := Lib.hid (show dn L k = ((insAt L k).op == 0) by unfold dn; rw [d1, d2]; simp)
  generalize (insAt L k).op = op at *
  go_enter Try.func32, Try.ntmps32
  go_wp2
  go_quiet (fail)
  go_wp2
  go_ret
  exact ⟨ret_bool Hr.out.symm, _, rfl⟩

theorem done_none (w : World) : Calls Try.prog 32 #[.pointer none] w fun e w' => e = .returned (.bool true) ∧ ∃ n, w' = w.drewN n := by
  go_enter Try.func32, Try.ntmps32
  go_wp2
  go_quiet (fail)
  go_wp2
  go_ret
  exact ⟨rfl, _, rfl⟩

theorem at_any (b : Nat) (sl : Value) (rs : List Int) (at' : Int) (w : World) (h : Pg w b sl rs at') :
    Calls Try.prog 33 #[.pointer (some ⟨b, 0, none⟩)] w fun e w' => e = .returned (.int .i64 at') ∧ w' = w := by
  have g0 := h.at'
  clear h
  go_enter Try.func33, Try.ntmps33
  go_wp2
  go_ret
  exact ⟨rfl, rfl⟩
theorem at_none (w : World) : Calls Try.prog 33 #[.pointer none] w fun e w' => e = .returned (.int .i64 0) ∧ w' = w := by
  go_enter Try.func33, Try.ntmps33
  go_wp2
  go_ret
  exact ⟨rfl, rfl⟩
theorem regs_any (b : Nat) (sl : Value) (a0 a1 a2 a3 at' : Int) (w : World) (h : Pg w b sl [a0, a1, a2, a3] at') :
    Calls Try.prog 34 #[.pointer (some ⟨b, 0, none⟩)] w fun e w' => e = .returned (.agg #[.int .u64 a0, .int .u64 a1, .int .u64 a2, .int .u64 a3]) ∧ Below w.heap.size w w' := by
  have g0 : w.cell? ⟨b, 1, none⟩ = some (.int .u64 a0) := h.reg 0 (by omega)
  have g1 : w.cell? ⟨b, 2, none⟩ = some (.int .u64 a1) := h.reg 1 (by omega)
  have g2 : w.cell? ⟨b, 3, none⟩ = some (.int .u64 a2) := h.reg 2 (by omega)
  have g3 : w.cell? ⟨b, 4, none⟩ = some (.int .u64 a3) := h.reg 3 (by omega)
  have hb := h.1.lt
  clear h
  go_enter Try.func34, Try.ntmps34
  go_wp2
  exact bodyPost_ret (v := .agg #[.int .u64 a0, .int .u64 a1, .int .u64 a2, .int .u64 a3]) (by simp [results, Try.results34, go_sem]) rfl ⟨rfl, (Below.refl _ _).alloc (Nat.le_refl _) _⟩
theorem regs_none (w : World) : Calls Try.prog 34 #[.pointer none] w fun e w' => e = .returned (.agg #[.int .u64 0, .int .u64 0, .int .u64 0, .int .u64 0]) ∧ Below w.heap.size w w' := by
  go_enter Try.func34, Try.ntmps34
  go_wp2
  exact bodyPost_ret (v := .agg #[.int .u64 0, .int .u64 0, .int .u64 0, .int .u64 0]) (by simp [results, Try.results34, go_sem]) rfl ⟨rfl, (Below.refl _ _).alloc (Nat.le_refl _) _⟩

theorem ins_info : (Try.prog.info? 166).map (fun i => (i.zero, i.size, i.bytes)) = some (some (.agg #[.int .i64 0, .int .i64 0, .int .i64 0, .int .u64 0]), 4, 32) := by kernel_rfl
theorem icells_len (L : List InsT) : (icells L).length = L.length * 4 := by
  induction L with
  | nil => rfl
  | cons p L ih => simp only [icells, List.flatMap_cons, List.length_append, List.length_cons, List.length_nil, insCells] at ih ⊢; omega
theorem icells_at (L : List InsT) : ∀ j, j < L.length → (icells L)[j * 4]? = some (.int .i64 (insAt L j).op) ∧ (icells L)[j * 4 + 1]? = some (.int .i64 (insAt L j).r) ∧ (icells L)[j * 4 + 2]? = some (.int .i64 (insAt L j).a) ∧ (icells L)[j * 4 + 3]? = some (.int .u64 (insAt L j).n) := by
  induction L with
  | nil => intro j h; simp at h
  | cons p L ih =>
    intro j h
    cases j with
    | zero => exact ⟨rfl, rfl, rfl, rfl⟩
    | succ j =>
      have := ih j (by simpa using h)
      rw [show (j + 1) * 4 = j * 4 + 1 + 1 + 1 + 1 by omega]
      exact this
theorem icells_one (L : List InsT) : ∀ u ∈ icells L, u.oneCell' = true := by
  intro u hu
  simp only [icells, List.mem_flatMap, insCells, List.mem_cons, List.not_mem_nil, or_false] at hu
  obtain ⟨x, _, rfl | rfl | rfl | rfl⟩ := hu <;> rfl
theorem Ins.of_owns {w : World} {base e : Nat} {v : Value} {n : Nat} {L : List InsT} (h : w.ownsRow base e 4 v n (icells L)) : ∃ gi, Ins w v L gi ∧ (v.ownBlock = none ∨ v.ownBlock = some gi) := by
  obtain ⟨hl, h | ⟨g, cap, cur, rfl, hg, hb, hn, hm, hs, hc⟩⟩ := h
  · obtain ⟨rfl, rfl⟩ := h
    have : L = [] := by rw [icells_len] at hl; exact List.eq_nil_of_length_eq_zero (by omega)
    subst this
    exact ⟨0, ⟨_, _, rfl, by simp, by simp⟩, .inl rfl⟩
  · have hzl : L.length = n := by rw [icells_len] at hl; omega
    subst hzl
    have hcell : ∀ i, i < L.length * 4 → w.cell? ⟨g, i, none⟩ = (icells L)[i]? := fun i hi => by
      rw [← hc, List.getElem?_take, if_pos hi]
      simp [World.cell?, hb]
    refine ⟨g, ⟨_, _, rfl, hn, fun _ => ⟨0, rfl, fun j hj => ?_⟩⟩, .inr rfl⟩
    have := icells_at L j hj
    rw [Nat.zero_add]
    exact ⟨(hcell _ (by omega)).trans this.1, (hcell _ (by omega)).trans this.2.1, (hcell _ (by omega)).trans this.2.2.1, (hcell _ (by omega)).trans this.2.2.2⟩
theorem Ins.cells {w : World} {gi off c : Nat} {L : List InsT} (h : Ins w (.slice (some ⟨gi, off, none⟩) L.length c) L gi) : ∀ j u, (icells L)[j]? = some u → w.cell? ⟨gi, off + j, none⟩ = some u := by
  intro j u hu
  have hlt : j < L.length * 4 := by
    have := (List.getElem?_eq_some_iff.1 hu).1
    rwa [icells_len] at this
  obtain ⟨o, c', e, _, hc⟩ := h
  injection e with e1 e2 e3
  subst e1
  obtain ⟨off', e, hd⟩ := hc (by omega)
  injection e with e
  injection e with _ e
  subst e
  have hj := hd (j / 4) (by omega)
  have ha := icells_at L (j / 4) (by omega)
  have hdm := Nat.div_add_mod j 4
  rcases (show j % 4 = 0 ∨ j % 4 = 1 ∨ j % 4 = 2 ∨ j % 4 = 3 by omega) with h4 | h4 | h4 | h4
  · rw [show j = j / 4 * 4 by omega] at hu ⊢
    rw [ha.1] at hu; injection hu with hu; subst hu; exact hj.1
  · rw [show j = j / 4 * 4 + 1 by omega] at hu ⊢
    rw [ha.2.1] at hu; injection hu with hu; subst hu; exact hj.2.1
  · rw [show j = j / 4 * 4 + 2 by omega] at hu ⊢
    rw [ha.2.2.1] at hu; injection hu with hu; subst hu; exact hj.2.2.1
  · rw [show j = j / 4 * 4 + 3 by omega] at hu ⊢
    rw [ha.2.2.2] at hu; injection hu with hu; subst hu; exact hj.2.2.2

set_option maxHeartbeats 1600000 in
set_option maxRecDepth 100000 in
theorem clone_any (L : List InsT) (gi : Nat) (v : Value) (w : World) (h : Ins w v L gi) (hn : L.length ≤ 100000) :
    Calls Try.prog 94 #[v] w fun e w' => ∃ v', e = .returned v' ∧ w'.ownsRow w.heap.size 166 4 v' L.length (icells L) ∧ Below w.heap.size w w' := by
  obtain ⟨i0, hi, hz0, hz1, hz2⟩ := info_parts ins_info
  have q22 : ∀ (w : World) (a : Option Addr) (n c n' c' : Nat), (binOp .eql 46 (.slice a n c) (.slice none n' c')).run Try.prog w = .ok (.bool a.isNone) w := fun w a n c n' c' => Lib.run_eql_slice_nil w _ _ a n c n' c' Try.underlying46
  have H := Lib.hid h
  obtain ⟨o, c, rfl, hle, hc⟩ := h
  have HC := Lib.hid hc
  clear hc
  cases o with
  | none =>
    have hl : L = [] := by
      by_cases h0 : 0 < L.length
      · obtain ⟨off, e, _⟩ := HC.out h0
        simp at e
      · exact List.eq_nil_of_length_eq_zero (by omega)
    go_enter Try.func94, Try.ntmps94
    go_wp2
    go_ret
    exact ⟨_, rfl, by rw [hl]; exact World.ownsRow_nil _ _ _ _, Below.refl _ _⟩
  | some a =>
    have HN : Hid (∀ j u, (icells L)[j]? = some u → w.cell? (a.add j) = some u) := by
      intro j u hu
      have hlt : 0 < L.length := by
        have := (List.getElem?_eq_some_iff.1 hu).1
        rw [icells_len] at this
        omega
      obtain ⟨off, e, _⟩ := HC.out hlt
      injection e with e
      subst e
      have := H.out.cells j u hu
      simpa [Addr.add_lit] using this
    go_enter Try.func94, Try.ntmps94
    go_wp2_with (at_builtin; refine wpList_append_own _ rfl _ _ 46 rfl w.heap.size 166 i0 (.agg #[.int .i64 0, .int .i64 0, .int .i64 0, .int .u64 0]) 4 32 Try.underlying46 hi hz0 hz1 hz2 rfl (by decide) _ _ _ rfl (World.ownsRow_made w #[] 0 (Nat.le_refl _) (Nat.zero_le _) (by simp)) a L.length c (icells L) rfl ?qc1 ?qc2 ?qc3 ?qc4 ?qc5 ?qc6 ?_)
    case qc1 => exact icells_len L
    case qc2 =>
      intro j u hu
      have := HN.out j u hu
      exact (World.cell?_of_block (Below.heap_alloc _ _ _ (cell_lt this))).trans this
    case qc3 => exact icells_one L
    case qc4 => unfold maxLen; omega
    case qc5 => omega
    case qc6 => simp
    intro v' w1 hown hgrow _
    go_wp2
    go_ret
    refine ⟨_, rfl, by simpa using hown, ?_⟩
    exact ((Below.refl _ _).alloc (Nat.le_refl _) _).grown hgrow (by simp) (fun k hk => by simp [Value.ownBlock] at hk; omega)

set_option maxHeartbeats 1600000 in
theorem new_any (L : List InsT) (gi : Nat) (v : Value) (w : World) (h : Ins w v L gi) (hn : L.length ≤ 100000) :
    Calls Try.prog 25 #[v] w fun e w' => ∃ b g sl, e = .returned (.pointer (some ⟨b, 0, none⟩)) ∧ Pg w' b sl [0, 0, 0, 0] 0 ∧ Ins w' sl L g ∧ (0 < L.length → w.heap.size ≤ g ∧ g < b) ∧ w.heap.size ≤ b ∧ b < w'.heap.size ∧ Below w.heap.size w w' := by
  have H := Lib.hid h
  obtain ⟨o, c, rfl, _, _⟩ := h
  go_enter Try.func25, Try.ntmps25
  go_wp2_with fail
  refine (clone_any L gi _ _ H.out hn).mono ?_
  rintro e w1 ⟨v', rfl, hown, hB⟩
  obtain ⟨o', c', rfl⟩ : ∃ o' c', v' = .slice o' L.length c' := by
    rcases hown.2 with ⟨rfl, h0⟩ | ⟨g, cap, cur, rfl, _⟩
    · exact ⟨_, _, by rw [h0]⟩
    · exact ⟨_, _, rfl⟩
  obtain ⟨g, hg, hgo⟩ := Ins.of_owns hown
  have HO := Lib.hid hown
  have HG := Lib.hid hg
  have HB := Lib.hid hB
  have HGO := Lib.hid hgo
  clear hown hg hB hgo
  go_wp2
  go_ret
  have A0 := (Fr.refl [] w1).alloc (.cells #[.slice o' L.length c', .int .u64 0, .int .u64 0, .int .u64 0, .int .u64 0, .int .i64 0] 60)
  refine ⟨_, g, _, rfl, ⟨Bk.new w1 _ [_, _, _, _, _, _], rfl⟩, HG.out.fr A0 (by simp), fun h0 => ?_, HB.out.size, by simp, HB.out.alloc HB.out.size _⟩
  rcases HGO.out with h | h
  · rcases HO.out.2 with ⟨e, h1⟩ | ⟨g', cap, cur, e, _⟩
    · omega
    · rw [e] at h; simp [Value.ownBlock] at h
  · exact HO.out.lt g h

/-- A machine's next state. -/
def nxR (L : List InsT) (d : Int) (rs zs : List Int) (a : Int) : List Int := if dn L a = true then rs else doR (insAt L a.toNat) d rs zs
def nxA (L : List InsT) (rs : List Int) (a : Int) : Int := if dn L a = true then a else doA (insAt L a.toNat) rs a
def nxZ (L : List InsT) (rs zs : List Int) (a : Int) : List Int := if dn L a = true then zs else doZ (insAt L a.toNat) rs zs
def nxN (L : List InsT) (a : Int) (n : Nat) : Nat := if dn L a = true then n else doN (insAt L a.toNat) n


end Go.Proofs.Ythidinalhbnmmaa
