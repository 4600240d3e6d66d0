/-
  soughref10.With: its contract.
-/
import Derived.Test.YtflkelnfdoihlaaOf
import Derived.Deep.AppendLies
namespace Go.Proofs.Ytflkelnfdoihlaa
open Go.RowKit

theorem Ws.of_bk {w : World} {g : Nat} {cs : List Value} {a : List Nat} {n cap : Nat} (h : Bk w g 29 cs) (hl : a.length = n) (ht : cs.take n = u64s a) (hz : ∀ z ∈ a, z < 18446744073709551616) : Ws w (.slice (some ⟨g, 0, none⟩) n cap) a := by
  subst hl
  refine ⟨hz, .inr ⟨⟨g, 0, none⟩, cap, rfl, fun i hi => ?_⟩⟩
  have e : cs[i]? = (u64s a)[i]? := by rw [← ht, List.getElem?_take, if_pos hi]
  rw [show (⟨g, 0, none⟩ : Addr).add i = ⟨g, i, none⟩ from by unfold Addr.add; split <;> simp_all, h.cell, e, u64s_at _ _ hi]
  rfl
theorem own_bare64 (w : World) (base : Nat) (hb : base ≤ w.heap.size) : (w.alloc (.cells #[] 29)).ownsRow base 29 1 (.slice (some ⟨w.heap.size, 0, none⟩) 0 0) 0 [] :=
  ⟨by simp, .inr ⟨w.heap.size, 0, #[], rfl, hb, heap_alloc_new w _, Nat.le_refl _, by unfold maxLen; omega, by simp, by simp⟩⟩

set_option maxHeartbeats 3200000 in
set_option maxRecDepth 100000 in
theorem with_any (m : Nat) (v : Value) (zs : List Nat) (w : World) (hw : Ws w v zs) (hm : m / 64 < zs.length) (hn : zs.length ≤ 100000) :
    Calls Try.prog 92 #[v, .int .i64 (m : Nat)] w fun e w' => ∃ u, e = .returned u ∧ Ws w' u (withE zs m) ∧ Below w.heap.size w w' := by
  obtain ⟨i0, hi, hz0, hz1, hz2⟩ := info_parts u64_info
  have HZ := Lib.hid hw.1
  obtain ⟨p, c, rfl, hc⟩ := ws_row hw
  obtain ⟨a, rfl, q⟩ := hc (by omega)
  have HQ := Lib.hid (show ∀ j u, (u64s zs)[j]? = some u → w.cell? (a.add j) = some u from fun j u hj => by
    have hlt : j < zs.length := by
      rcases Nat.lt_or_ge j zs.length with h | h
      · exact h
      · rw [List.getElem?_eq_none (by simpa [u64s] using h)] at hj; cases hj
    rw [u64s_at zs j hlt] at hj
    injection hj with hj
    subst hj
    exact q j hlt)
  have HB0 := Lib.hid ((Below.refl w.heap.size w).alloc (Nat.le_refl _) (.cells #[] 29))
  have HU := Lib.hid (own_bare64 w w.heap.size (Nat.le_refl _))
  clear q hc hw
  go_enter Try.func92, Try.ntmps92
  go_wp2_with (at_builtin; refine wpList_append_own _ rfl _ _ 22 rfl w.heap.size 29 i0 (.int .u64 0) 1 8 Try.underlying22 hi hz0 hz1 hz2 rfl (by decide) _ 0 [] rfl HU.out a zs.length c (u64s zs) rfl ?c1 ?c2 ?c3 ?c4 ?c5 ?c6 ?_)
  case c1 => simp [u64s]
  case c2 => exact fun j u hj => keepc (HQ.out j u hj) HB0.out
  case c3 => exact fun u hu => by obtain ⟨_, _, rfl⟩ := List.mem_map.1 hu; rfl
  case c4 => unfold maxLen; omega
  case c5 => omega
  case c6 => simp
  intro v' w1 hown hgrow _
  obtain ⟨hl, ⟨rfl, h0⟩ | ⟨g, cap, cur, rfl, hg, hb, hnc, hmx, hsz, hct⟩⟩ := hown
  · exfalso; omega
  have HK := Lib.hid (show Bk w1 g 29 cur.toList from hb)
  have HTk := Lib.hid (show cur.toList.take zs.length = u64s zs by rw [← List.nil_append (u64s zs), ← hct]; simp)
  have HB1 := Lib.hid (HB0.out.grown hgrow (by simp) (fun k hk => (HU.out.lt k hk).1))
  clear hb hct hgrow hl hsz
  have hq : m / 64 < zs.length := hm
  have hr : m % 64 < 64 := by omega
  have hdiv : ((m : Int)).tdiv 64 = ((m / 64 : Nat) : Int) := by rw [Int.tdiv_eq_ediv_of_nonneg (by omega)]; omega
  have hmod : ((m : Int)).tmod 64 = ((m % 64 : Nat) : Int) := by rw [Int.tmod_eq_emod_of_nonneg (by omega)]; omega
  have hcell : w1.cell? ⟨g, m / 64, none⟩ = some (.int .u64 (wAt zs (m / 64) : Nat)) := by
    rw [HK.out.cell, ← u64s_at zs _ hq, ← HTk.out, List.getElem?_take, if_pos hq]
  have hfree := HK.out.free (m / 64)
  have HWL := Lib.hid (withE_lt HZ.out m)
  have HBs := Lib.hid (HK.out.set (m / 64) (.int .u64 ((wAt zs (m / 64) ||| 2 ^ (m % 64) : Nat) : Int)))
  have HTs := Lib.hid (show (cur.toList.set (m / 64) (.int .u64 ((wAt zs (m / 64) ||| 2 ^ (m % 64) : Nat) : Int))).take zs.length = u64s (withE zs m) by
    rw [List.take_set, HTk.out]; unfold withE; rw [u64s_set])
  have HZ1 := Lib.hid (wAt_lt HZ.out (m / 64))
  generalize wAt zs (m / 64) = z at *
  go_wp2_with fail
  go_region
  have hor := or_bit z (m % 64) HZ1.out hr
  rw [hor]
  go_wp2_with fail
  go_ret
  exact ⟨_, rfl, Ws.of_bk HBs.out.drew (withE_len zs m) HTs.out HWL.out, (HB1.out.setCell (p := ⟨g, m / 64, none⟩) hg _).drew⟩

end Go.Proofs.Ytflkelnfdoihlaa
