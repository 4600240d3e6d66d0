/-
  record: New, Count, Len, Events; nobody's Log; soughlaw23.kind, ask, events, same; soughref23.Ask: contracts. Written by wip/gen/mkrec2.py.
-/
import Derived.Test.YteheckcflnogbaaRec
import Derived.Test.YteheckcflnogbaaActs
namespace Go.Proofs.Yteheckcflnogbaa
open Go.RowKit

set_option maxHeartbeats 3200000 in
set_option maxRecDepth 100000 in
theorem lnew_any (b g : Nat) (zs : List Int) (w : World) (h : Pm w b g zs) :
    Calls Try.prog 113 #[.iface 64 (.pointer (some ⟨b, 0, none⟩))] w fun e w' => e = .returned (.pointer (some ⟨w.heap.size, 0, none⟩)) ∧ (∀ B, Lg w' B w.heap.size b g zs [] (.slice none 0 0)) ∧ Below w.heap.size w w' ∧ w'.heap.size = w.heap.size + 1 := by
  have HM := Lib.hid h
  clear h
  go_enter Try.func113, Try.ntmps113
  go_wp2_with fail
  go_ret
  exact ⟨rfl, fun B => ⟨Bk.new w _ [_, _], World.ownsRow_nil _ _ _ _, HM.out.below ((Below.refl _ _).alloc (Nat.le_refl _) _)⟩, (Below.refl _ _).alloc (Nat.le_refl _) _, by simp⟩

set_option maxHeartbeats 3200000 in
set_option maxRecDepth 100000 in
theorem lcount_any (B lb b g : Nat) (zs : List Int) (L : List EvT) (v : Value) (w : World) (h : Lg w B lb b g zs L v) :
    Calls Try.prog 120 #[.pointer (some ⟨lb, 0, none⟩)] w fun e w' => e = .returned (.int .i64 L.length) ∧ w' = w := by
  obtain ⟨o, c, rfl⟩ := own_slice h.row
  have HL := Lib.hid h
  have c1 : w.cell? ⟨lb, 1, none⟩ = some (.slice o L.length c) := h.box.cell 1
  clear h
  go_enter Try.func120, Try.ntmps120
  go_wp2_with fail
  refine (lnone_any lb b _ _ HL.out.box).mono ?_
  rintro e w1 ⟨rfl, rfl⟩
  go_wp2_with fail
  go_ret
  exact ⟨rfl, rfl⟩

set_option maxHeartbeats 3200000 in
set_option maxRecDepth 100000 in
theorem lcount_none (w : World) :
    Calls Try.prog 120 #[.pointer none] w fun e w' => e = .returned (.int .i64 0) ∧ w' = w := by
  go_enter Try.func120, Try.ntmps120
  go_wp2_with fail
  refine (lnone_none _).mono ?_
  rintro e w1 ⟨rfl, rfl⟩
  go_wp2_with fail
  go_ret
  exact ⟨rfl, rfl⟩

set_option maxHeartbeats 3200000 in
set_option maxRecDepth 100000 in
theorem llen_any (B lb b g : Nat) (zs : List Int) (L : List EvT) (v : Value) (w : World) (h : Lg w B lb b g zs L v) :
    Calls Try.prog 230 #[.pointer (some ⟨lb, 0, none⟩)] w fun e w' => e = .returned (.int .i64 zs.length) ∧ w' = w := by
  have HL := Lib.hid h
  have c0 : w.cell? ⟨lb, 0, none⟩ = some (.iface 64 (.pointer (some ⟨b, 0, none⟩))) := h.box.cell 0
  have hm := m_len
  clear h
  go_enter Try.func230, Try.ntmps230
  go_wp2_with fail
  refine (lnone_any lb b v _ HL.out.box).mono ?_
  rintro e w1 ⟨rfl, rfl⟩
  go_wp2_with fail
  refine (plen_any b g zs _ HL.out.mem).mono ?_
  rintro e w2 ⟨rfl, rfl⟩
  go_wp2_with fail
  go_ret
  exact ⟨rfl, rfl⟩

set_option maxHeartbeats 3200000 in
set_option maxRecDepth 100000 in
theorem llen_none (w : World) :
    Calls Try.prog 230 #[.pointer none] w fun e w' => e = .returned (.int .i64 0) ∧ w' = w := by
  go_enter Try.func230, Try.ntmps230
  go_wp2_with fail
  refine (lnone_none _).mono ?_
  rintro e w1 ⟨rfl, rfl⟩
  go_wp2_with fail
  go_ret
  exact ⟨rfl, rfl⟩

set_option maxHeartbeats 3200000 in
set_option maxRecDepth 100000 in
theorem ladd_none (a d : Int) (w : World) :
    Calls Try.prog 228 #[.pointer none, .int .i64 a, .int .u64 d] w fun e w' => e = .returned (.int .u64 0) ∧ w' = w := by
  go_enter Try.func228, Try.ntmps228
  go_wp2_with fail
  refine (lnone_none _).mono ?_
  rintro e w1 ⟨rfl, rfl⟩
  go_wp2_with fail
  go_ret
  exact ⟨rfl, rfl⟩

set_option maxHeartbeats 3200000 in
set_option maxRecDepth 100000 in
theorem lstore_none (a d : Int) (w : World) :
    Calls Try.prog 114 #[.pointer none, .int .i64 a, .int .u64 d] w fun e w' => e = .returned (.tuple #[]) ∧ w' = w := by
  go_enter Try.func114, Try.ntmps114
  go_wp2_with fail
  refine (lnone_none _).mono ?_
  rintro e w1 ⟨rfl, rfl⟩
  go_wp2_with fail
  exact bodyPost_ret (v := .tuple #[]) (by simp [results, Try.results114, go_sem]) rfl ⟨rfl, rfl⟩

set_option maxHeartbeats 3200000 in
set_option maxRecDepth 100000 in
theorem eclone_any (L : List EvT) (gi : Nat) (v : Value) (w : World) (h : Evs w v L gi) (hn : L.length ≤ 100000) :
    Calls Try.prog 165 #[v] w fun e w' => ∃ v', e = .returned v' ∧ w'.ownsRow w.heap.size 172 6 v' L.length (ecells L) ∧ Below w.heap.size w w' := by
  obtain ⟨i0, hi, hz0, hz1, hz2⟩ := info_parts ev_info
  have q22 : ∀ (w : World) (a : Option Addr) (n c n' c' : Nat), (binOp .eql 44 (.slice a n c) (.slice none n' c')).run Try.prog w = .ok (.bool a.isNone) w := fun w a n c n' c' => Lib.run_eql_slice_nil w _ _ a n c n' c' Try.underlying44
  have H := Lib.hid h
  obtain ⟨o, c, rfl, hle, hc⟩ := h
  have HC := Lib.hid hc
  clear hc
  cases o with
  | none =>
    have hl : L = [] := by
      by_cases h0 : 0 < L.length
      · obtain ⟨off, e, _⟩ := HC.out h0
        simp at e
      · exact List.eq_nil_of_length_eq_zero (by omega)
    go_enter Try.func165, Try.ntmps165
    go_wp2
    go_ret
    exact ⟨_, rfl, by rw [hl]; exact World.ownsRow_nil _ _ _ _, Below.refl _ _⟩
  | some a =>
    have HN : Hid (∀ j u, (ecells L)[j]? = some u → w.cell? (a.add j) = some u) := by
      intro j u hu
      have hlt : 0 < L.length := by
        have := (List.getElem?_eq_some_iff.1 hu).1
        rw [ecells_len] at this
        omega
      obtain ⟨off, e, _⟩ := HC.out hlt
      injection e with e
      subst e
      have := H.out.cells j u hu
      simpa [Addr.add_lit] using this
    go_enter Try.func165, Try.ntmps165
    go_wp2_with (at_builtin; refine wpList_append_own _ rfl _ _ 44 rfl w.heap.size 172 i0 (.agg #[.int .i64 0, .int .i64 0, .int .u64 0, .int .u64 0, .int .u64 0, .bool false]) 6 48 Try.underlying44 hi hz0 hz1 hz2 rfl (by decide) _ _ _ rfl (World.ownsRow_made w #[] 0 (Nat.le_refl _) (Nat.zero_le _) (by simp)) a L.length c (ecells L) rfl ?qc1 ?qc2 ?qc3 ?qc4 ?qc5 ?qc6 ?_)
    case qc1 => exact ecells_len L
    case qc2 =>
      intro j u hu
      have := HN.out j u hu
      exact (World.cell?_of_block (Below.heap_alloc _ _ _ (cell_lt this))).trans this
    case qc3 => exact ecells_one L
    case qc4 => unfold maxLen; omega
    case qc5 => omega
    case qc6 => simp
    intro v' w1 hown hgrow _
    go_wp2
    go_ret
    refine ⟨_, rfl, by simpa using hown, ?_⟩
    exact ((Below.refl _ _).alloc (Nat.le_refl _) _).grown hgrow (by simp) (fun k hk => by simp [Value.ownBlock] at hk; omega)

set_option maxHeartbeats 3200000 in
set_option maxRecDepth 100000 in
theorem levents_any (B lb b g : Nat) (zs : List Int) (L : List EvT) (v : Value) (w : World) (h : Lg w B lb b g zs L v) (hn : L.length ≤ 100000) :
    Calls Try.prog 116 #[.pointer (some ⟨lb, 0, none⟩)] w fun e w' => ∃ v', e = .returned v' ∧ w'.ownsRow w.heap.size 172 6 v' L.length (ecells L) ∧ Below w.heap.size w w' := by
  obtain ⟨gi, he, _⟩ := Evs.of_owns h.row
  have HE := Lib.hid he
  have HL := Lib.hid h
  have c1 : w.cell? ⟨lb, 1, none⟩ = some v := h.box.cell 1
  clear h he
  go_enter Try.func116, Try.ntmps116
  go_wp2_with fail
  refine (lnone_any lb b v _ HL.out.box).mono ?_
  rintro e w1 ⟨rfl, rfl⟩
  go_wp2_with fail
  refine (eclone_any L gi v _ HE.out hn).mono ?_
  rintro e w2 ⟨v', rfl, hO, hB⟩
  have HO := Lib.hid hO
  have HB := Lib.hid hB
  clear hO hB
  go_wp2_with fail
  go_ret
  exact ⟨_, rfl, HO.out, HB.out⟩


/-- The event of an operation. -/
def evOf (zs : List Int) (k a x y : Int) : EvT := if k = 1 then ⟨1, a, 0, 0, ldv zs a, false⟩ else if k = 2 then ⟨2, a, x, 0, 0, false⟩ else if k = 3 then ⟨3, a, x, y, 0, casb zs a x⟩ else ⟨4, a, x, 0, addw zs a x, false⟩




theorem rm_fr {S : List Nat} {w w' : World} {b g : Nat} {zs : List Int} (h : Rm w b g zs) (k : Fr S w w') (hb : b ∉ S) (hg : g ∉ S) : Rm w' b g zs := ⟨h.1.fr k hb, h.2.1.fr k hg, h.2.2⟩
theorem ask_end {w1 : World} {n : Nat} {z0 z1 z2 z3 z4 z5 : Value} (h : Bk w1 n 49 [z0, z1, z2, z3, z4, z5]) (v0 v1 v2 v3 v4 v5 : Value) (o : Obj) :
    Bk (((((((w1.setCell ⟨n, 0, none⟩ v0).setCell ⟨n, 1, none⟩ v1).setCell ⟨n, 2, none⟩ v2).setCell ⟨n, 3, none⟩ v3).setCell ⟨n, 4, none⟩ v4).setCell ⟨n, 5, none⟩ v5).alloc o) n 49 [v0, v1, v2, v3, v4, v5] :=
  ((((((h.set 0 v0).set 1 v1).set 2 v2).set 3 v3).set 4 v4).set 5 v5).alloc o
theorem ask_fr {w1 : World} {n : Nat} {z0 z1 z2 z3 z4 z5 : Value} (_h : Bk w1 n 49 [z0, z1, z2, z3, z4, z5]) (v0 v1 v2 v3 v4 v5 : Value) (o : Obj) :
    Fr [n] w1 (((((((w1.setCell ⟨n, 0, none⟩ v0).setCell ⟨n, 1, none⟩ v1).setCell ⟨n, 2, none⟩ v2).setCell ⟨n, 3, none⟩ v3).setCell ⟨n, 4, none⟩ v4).setCell ⟨n, 5, none⟩ v5).alloc o) :=
  (((((((Fr.refl [n] w1).set (by simp) v0).set (by simp) v1).set (by simp) v2).set (by simp) v3).set (by simp) v4).set (by simp) v5).alloc o
theorem ask_ret {Q : Ending → World → Prop} {tm : Array Value} {W : World} {n : Nat} {k a x y u : Int} {q : Bool} (hp : tm[4]?.getD undef = .pointer (some ⟨n, 0, none⟩)) (hb : Bk W n 49 [.int .i64 k, .int .i64 a, .int .u64 x, .int .u64 y, .int .u64 u, .bool q])
    (h : Q (.returned (.agg #[.int .i64 k, .int .i64 a, .int .u64 x, .int .u64 y, .int .u64 u, .bool q])) W) : bodyPost Try.prog Try.f121 Q Exit.ret { tmps := tm, defers := [] } W := by
  have c0 : W.cell? ⟨n, 0, none⟩ = some (.int .i64 k) := hb.cell 0
  have c1 : W.cell? ⟨n, 1, none⟩ = some (.int .i64 a) := hb.cell 1
  have c2 : W.cell? ⟨n, 2, none⟩ = some (.int .u64 x) := hb.cell 2
  have c3 : W.cell? ⟨n, 3, none⟩ = some (.int .u64 y) := hb.cell 3
  have c4 : W.cell? ⟨n, 4, none⟩ = some (.int .u64 u) := hb.cell 4
  have c5 : W.cell? ⟨n, 5, none⟩ = some (.bool q) := hb.cell 5
  exact bodyPost_ret (v := .agg #[.int .i64 k, .int .i64 a, .int .u64 x, .int .u64 y, .int .u64 u, .bool q]) (by simp [results, Try.results121, go_sem, hp, c0, c1, c2, c3, c4, c5]) rfl h

set_option maxHeartbeats 3200000 in
set_option maxRecDepth 100000 in
theorem rask23_any (k a x y : Int) (b g : Nat) (zs : List Int) (w : World) (h : Rm w b g zs) (hk : 1 ≤ k ∧ k ≤ 4) :
    Calls Try.prog 121 #[.pointer (some ⟨b, 0, none⟩), .agg #[.int .i64 k, .int .i64 a, .int .u64 x, .int .u64 y]] w fun e w' => e = .returned (.agg (evCells (evOf zs k a x y)).toArray) ∧ Rm w' b g (actv zs k a x y) ∧ Fr [g] w w' := by
  have HM := Lib.hid ((h.below ((Below.refl _ _).alloc (Nat.le_refl _) (.cells #[.int .i64 k, .int .i64 a, .int .u64 x, .int .u64 y] 187))).below ((Below.refl _ _).alloc (Nat.le_refl _) (.cells #[.int .i64 0, .int .i64 0, .int .u64 0, .int .u64 0, .int .u64 0, .bool false] 49)))
  have F0 := Lib.hid (((Fr.refl [g] w).alloc (.cells #[.int .i64 k, .int .i64 a, .int .u64 x, .int .u64 y] 187)).alloc (.cells #[.int .i64 0, .int .i64 0, .int .u64 0, .int .u64 0, .int .u64 0, .bool false] 49))
  have KA := Lib.hid ((Bk.new w 187 [.int .i64 k, .int .i64 a, .int .u64 x, .int .u64 y]).alloc (.cells #[.int .i64 0, .int .i64 0, .int .u64 0, .int .u64 0, .int .u64 0, .bool false] 49))
  have KR := Lib.hid (Bk.new' (w.alloc (.cells #[.int .i64 k, .int .i64 a, .int .u64 x, .int .u64 y] 187)) 49 [.int .i64 0, .int .i64 0, .int .u64 0, .int .u64 0, .int .u64 0, .bool false] (g := w.heap.size + 1) (by simp))
  have hgl := h.2.1.lt
  have hbl := h.1.lt
  clear h
  obtain ⟨k1, k4⟩ := hk
  go_enter Try.func121, Try.ntmps121
  go_wp2_with fail
  refine (do_any k a x y b g zs _ HM.out).mono ?_
  rintro e w1 ⟨rfl, hM, hK⟩
  have F1 := Lib.hid (F0.out.trans (.gb hK (by simp)))
  have KA1 := Lib.hid (KA.out.keep hK (by simp; omega))
  have KR1 := Lib.hid (KR.out.keep hK (by simp; omega))
  have HM1 := Lib.hid hM
  have a0 : w1.cell? ⟨w.heap.size, 0, none⟩ = some (.int .i64 k) := KA1.out.cell 0
  have a1 : w1.cell? ⟨w.heap.size, 1, none⟩ = some (.int .i64 a) := KA1.out.cell 1
  have a2 : w1.cell? ⟨w.heap.size, 2, none⟩ = some (.int .u64 x) := KA1.out.cell 2
  have a3 : w1.cell? ⟨w.heap.size, 3, none⟩ = some (.int .u64 y) := KA1.out.cell 3
  have hs0 : w.heap.size + 1 < w1.heap.size := KR1.out.lt
  have hal := KA1.out.lt
  have r0 := KR1.out.cell
  have r1 := KR1.out.free
  clear hM hK
  have cr0 : w1.cell? ⟨w.heap.size + 1, 0, none⟩ = some (.int .i64 0) := r0 0
  have cr1 : w1.cell? ⟨w.heap.size + 1, 1, none⟩ = some (.int .i64 0) := r0 1
  have cr2 : w1.cell? ⟨w.heap.size + 1, 2, none⟩ = some (.int .u64 0) := r0 2
  have cr3 : w1.cell? ⟨w.heap.size + 1, 3, none⟩ = some (.int .u64 0) := r0 3
  have cr4 : w1.cell? ⟨w.heap.size + 1, 4, none⟩ = some (.int .u64 0) := r0 4
  have cr5 : w1.cell? ⟨w.heap.size + 1, 5, none⟩ = some (.bool false) := r0 5
  clear r0
  rcases (show k = 1 ∨ k = 2 ∨ k = 3 ∨ k = 4 by omega) with rfl | rfl | rfl | rfl
  all_goals
    go_wp2_with fail
    exact ask_ret (by rfl) (ask_end KR1.out _ _ _ _ _ _ _) ⟨rfl, rm_fr HM1.out (ask_fr KR1.out _ _ _ _ _ _ _) (by simp; omega) (by simp; omega), F1.out.from (ask_fr KR1.out _ _ _ _ _ _ _) (fun i hi hl => by have := List.mem_singleton.1 hi; omega)⟩

end Go.Proofs.Yteheckcflnogbaa
