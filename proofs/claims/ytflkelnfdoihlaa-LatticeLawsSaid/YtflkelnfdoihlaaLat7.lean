/-
  soughref12.Join, Below, Rank: contracts.
-/
import Derived.Test.YtflkelnfdoihlaaLat6
import Derived.Deep.RegionLaw
import Derived.Deep.DeepCutAuto
namespace Go.Proofs.Ytflkelnfdoihlaa
open Go.RowKit

/-- The first k words put together. -/
def jK (what : Int) (a b : List Nat) (k : Nat) : List Nat := (List.range k).map fun i => wordE what (wAt a i) (wAt b i)
theorem jK_succ (what : Int) (a b : List Nat) (k : Nat) : jK what a b (k + 1) = jK what a b k ++ [wordE what (wAt a k) (wAt b k)] := by
  unfold jK; rw [List.range_succ, List.map_append]; rfl
theorem u64s_snoc (l : List Nat) (z : Nat) : u64s (l ++ [z]) = u64s l ++ [.int .u64 (z : Nat)] := by simp [u64s]
theorem Ws.of_owns {w : World} {base : Nat} {v : Value} {n : Nat} {a : List Nat} (h : w.ownsRow base 29 1 v n (u64s a)) (hz : ∀ z ∈ a, z < 18446744073709551616) : Ws w v a := by
  obtain ⟨hl, ⟨rfl, h0⟩ | ⟨g, cap, cur, rfl, hg, hb, hnc, hmx, hsz, hct⟩⟩ := h
  · have : a = [] := List.eq_nil_of_length_eq_zero (by simp [u64s] at hl; omega)
    subst this
    exact ⟨by simp, .inl ⟨rfl, rfl⟩⟩
  · have e : a.length = n := by simpa [u64s] using hl
    exact Ws.of_bk (show Bk w g 29 cur.toList from hb) e (by simpa using hct) hz
theorem join_words (what : Int) {a b : List Nat} (h : a.length = b.length) : jK what a b a.length = joinE what a b := by
  unfold jK joinE bothE
  rw [show max a.length b.length = a.length by omega]

set_option maxHeartbeats 6400000 in
set_option maxRecDepth 100000 in
theorem rljoin_any (what : Int) (v1 v2 : Value) (a b : List Nat) (w : World) (h1 : Ws w v1 a) (h2 : Ws w v2 b) (hn : a.length ≤ 100000) (hab : a.length = b.length) :
    Calls Try.prog 29 #[.int .i64 what, v1, v2] w fun e w' => ∃ u, e = .returned u ∧ Ws w' u (joinE what a b) ∧ Below w.heap.size w w' := by
  obtain ⟨i0, hi, hz0, hz1, hz2⟩ := info_parts u64_info
  have H1 := Lib.hid h1
  have H2 := Lib.hid h2
  have HAB := Lib.hid hab
  obtain ⟨p1, c1, rfl, q1⟩ := ws_row h1
  obtain ⟨p2, c2, rfl, q2⟩ := ws_row h2
  have C1 := Lib.hid q1
  have C2 := Lib.hid q2
  have hm : b.length ≤ 100000 := by omega
  clear h1 h2 q1 q2 hab
  go_enter Try.func29, Try.ntmps29
  go_wp2_with fail
  go_loopw [7, 11] (fun o i wr => ∃ k : Nat, k ≤ a.length ∧ i = .int .i64 k ∧ wr.ownsRow w.heap.size 29 1 o k (u64s (jK what a b k)) ∧ Below w.heap.size w wr)
    (fun _ i _ => a.length - (intOf i).toNat)
  case atStart => exact ⟨0, Nat.zero_le _, rfl, World.ownsRow_nil _ _ _ _, Below.refl _ _⟩
  case round =>
    obtain ⟨k, hk, rfl, hl, hB⟩ := hrel
    have HO := Lib.hid hl
    have HB := Lib.hid hB
    clear hl hB
    by_cases hlt : k < a.length
    · obtain ⟨a1, rfl, r1⟩ := C1.out (by omega)
      have hltb : k < b.length := by have := HAB.out; omega
      obtain ⟨a2, rfl, r2⟩ := C2.out (by omega)
      have e1 : wr.cell? (a1.add k) = some (.int .u64 (wAt a k : Nat)) := keepc (r1 k hlt) HB.out
      have e2 : wr.cell? (a2.add k) = some (.int .u64 (wAt b k : Nat)) := keepc (r2 k hltb) HB.out
      have hii : (k : Int) < a.length := by omega
      have hij : (k : Int) < b.length := by omega
      have HE := Lib.hid (jK_succ what a b k)
      have hx := wAt_lt H1.out.1 k
      have hy := wAt_lt H2.out.1 k
      clear r1 r2
      generalize wAt a k = x at *
      generalize wAt b k = y at *
      have HBn := Lib.hid ((Below.refl wr.heap.size wr).drew)
      go_wp2_with fail
      go_region_law (first
        | (refine step_append_lies _ (by rfl) _ _ _ (by rfl) w.heap.size 29 i0 (.int .u64 0) 1 8 Try.underlying22 hi hz0 hz1 hz2 rfl (by decide) _ k _ (by rfl) (HO6.out.alloc _) ⟨w6.heap.size, 0, none⟩ 1 1 [.int .u64 (wordE what x y : Nat)] (by rfl) (by rfl) (cell_one_new _ _ _) (by simp [Value.oneCell']) (by decide) (by unfold maxLen; omega) (by omega) HS6.out (w6.heap.size + 1) (by simp) ?_; intro g8 cap8 w8 hown8 hgrow8 hat8 hlt8)
        | (go_simp; go_at_call 25; refine (rlword_any what x y _ hx hy).mono ?_; rintro e w6 ⟨rfl, hB6⟩; have HB6 := Lib.hid (bel_then HBn.out hB6); have HO6 := Lib.hid (own_below HO.out HB6.out); have HS6 := Lib.hid (show w.heap.size ≤ (w6.alloc (.cells #[.int .u64 (wordE what x y : Nat)] 29)).heap.size by have h1 := HB.out.size; have h2 := HB6.out.size; simp; omega); clear hB6; go_wp2_with fail))
      all_goals
        have hsz := HB.out.size
        have hsz6 := HB6.out.size
        have HO8 := Lib.hid (show w8.ownsRow w.heap.size 29 1 (.slice (some ⟨g8, 0, none⟩) (k + 1) cap8) (k + 1) (u64s (jK what a b (k + 1))) by rw [HE.out, u64s_snoc]; exact hown8)
        have HB8 := Lib.hid (((HB.out.trans (HB6.out.mono hsz)).alloc (by omega) _).grown hgrow8 (by simp; omega) (fun k hk => (HO.out.lt k hk).1))
        clear hown8 hgrow8 hat8 hlt8
        go_wp2_with fail
        go_roundw
        case rel => exact ⟨k + 1, by omega, by go_num, HO8.out, HB8.out⟩
        case measure => simp [intOf]; omega
    · obtain rfl : k = a.length := by omega
      have HJ := Lib.hid (join_words what HAB.out)
      go_wp2_with fail
      go_ret
      refine ⟨_, rfl, ?_, HB.out⟩
      have h7 := HO.out
      rw [HJ.out] at h7
      exact Ws.of_owns h7 (join_lt H1.out.1 H2.out.1)

set_option maxHeartbeats 3200000 in
set_option maxRecDepth 100000 in
theorem rlbelow_any (what : Int) (v1 v2 : Value) (a b : List Nat) (w : World) (h1 : Ws w v1 a) (h2 : Ws w v2 b) (hn : a.length ≤ 100000) (hab : a.length = b.length) :
    Calls Try.prog 30 #[.int .i64 what, v1, v2] w fun e w' => e = .returned (.bool (belowE what a b)) ∧ Below w.heap.size w w' := by
  have H1 := Lib.hid h1
  have H2 := Lib.hid h2
  obtain ⟨p1, c1, rfl⟩ := ws_len h1
  obtain ⟨p2, c2, rfl⟩ := ws_len h2
  have hb : ((a.length : Int) == (b.length : Int)) = true := by simp; omega
  have HAB := Lib.hid hab
  have hjl := joinE_len what hab
  clear h1 h2 hab
  go_enter Try.func30, Try.ntmps30
  go_wp2_with fail
  refine (rljoin_any what _ _ a b _ H1.out H2.out hn HAB.out).mono ?_
  rintro e w1 ⟨u, rfl, hW, hB⟩
  have HW := Lib.hid hW
  have H2' := Lib.hid (H2.out.below hB)
  have HB := Lib.hid hB
  obtain ⟨p3, c3, rfl⟩ := ws_len hW
  clear hW hB
  have HJL := Lib.hid hjl
  clear hjl
  go_wp2_with fail
  refine (same_any _ _ (joinE what a b) b _ HW.out H2'.out (by have := HJL.out; omega) (by have := HAB.out; omega)).mono ?_
  rintro e w2 ⟨rfl, nq, hww⟩
  have HB2 := Lib.hid (show Below w.heap.size w w2 by rw [hww]; exact bel_drewN HB.out nq)
  clear hww
  have HE := Lib.hid (show decide (joinE what a b = b) = belowE what a b from rfl)
  rw [HE.out]
  go_wp2_with fail
  go_ret
  exact ⟨rfl, HB2.out⟩

set_option maxHeartbeats 3200000 in
set_option maxRecDepth 100000 in
theorem rlrank_any (what width : Int) (v : Value) (a : List Nat) (w : World) (h1 : Ws w v a) (hn : a.length ≤ 1000) (hwd : 0 ≤ width ∧ width ≤ 1024) :
    Calls Try.prog 28 #[.int .i64 what, .int .i64 width, v] w fun e w' => e = .returned (.int .i64 (rankE what width a)) ∧ Below w.heap.size w w' := by
  have H1 := Lib.hid h1
  obtain ⟨p1, c1, rfl, q1⟩ := ws_row h1
  have C1 := Lib.hid q1
  have B0 := Lib.hid (Below.refl w.heap.size w)
  clear h1 q1
  by_cases h3 : what = 3
  · subst h3
    go_enter Try.func28, Try.ntmps28
    go_wp2_with fail
    go_loopw [7, 14] (fun n i wr => ∃ k : Nat, k ≤ a.length ∧ i = .int .i64 k ∧ n = .int .i64 (crK a k : Nat) ∧ Below w.heap.size w wr)
      (fun _ i _ => a.length - (intOf i).toNat)
    case atStart => exact ⟨0, Nat.zero_le _, rfl, rfl, B0.out⟩
    case round =>
      obtain ⟨k, hk, rfl, rfl, hB⟩ := hrel
      have HB := Lib.hid hB
      clear hB
      by_cases hlt : k < a.length
      · obtain ⟨ad, rfl, q⟩ := C1.out (by omega)
        have hck := keepc (q k hlt) HB.out
        rw [show a[k]?.getD 0 = wAt a k from rfl] at hck
        have HS := Lib.hid (crK_succ a k)
        have hkl := crK_le a k
        have hz := wAt_lt H1.out.1 k
        have HCI := Lib.hid (crankN_int (wAt a k))
        have hc2 := crankN_le (wAt a k)
        have HRk := Lib.hid (show ((crK a k : Nat) : Int) + (crankN (wAt a k) : Nat) = ((crK a (k + 1) : Nat) : Int) by rw [HS.out]; omega)
        clear q
        obtain ⟨nx, hnx⟩ : ∃ n, n = crK a (k + 1) := ⟨_, rfl⟩
        have HNX := Lib.hid hnx
        rw [← hnx] at HRk
        clear hnx HS
        generalize crankN (wAt a k) = cr at *
        generalize wAt a k = z at *
        generalize crK a k = s at *
        go_wp2_with fail
        refine (rrank_any z _ (by omega)).mono ?_
        rintro e w2 ⟨rfl, hB2⟩
        have HB2 := Lib.hid (HB.out.trans (hB2.mono HB.out.size))
        clear hB2
        rw [HCI.out]
        go_wp2_with fail
        go_roundw
        case rel => exact ⟨k + 1, by omega, by go_num, by rw [← HNX.out, ← HRk.out], HB2.out⟩
        case measure => simp [intOf]; omega
      · obtain rfl : k = a.length := by omega
        have HF := Lib.hid (show rankE 3 width a = (crK a a.length : Nat) by unfold rankE; rw [if_pos rfl, crK_all])
        go_wp2_with fail
        go_ret
        exact ⟨ret_int HF.out.symm, HB.out⟩
  · have e3 : (what == 3) = false := by simpa using h3
    have hle := lenE_le a
    have hq : what = 2 ∨ (what == 2) = false := by
      rcases (show what = 2 ∨ what ≠ 2 by omega) with h | h
      · exact .inl h
      · exact .inr (by simpa using h)
    have HR := Lib.hid (show rankE what width a = if what = 2 then width - (lenE a : Nat) else (lenE a : Nat) by unfold rankE; rw [if_neg h3])
    clear h3
    go_enter Try.func28, Try.ntmps28
    go_wp2_with fail
    refine (rlist_any _ _ _ H1.out (by omega)).mono ?_
    rintro e w2 ⟨u, rfl, hI, hB⟩
    have HB := Lib.hid hB
    obtain ⟨o, c, rfl, _⟩ := hI
    have HL := Lib.hid (show ((setE a).map Int.ofNat).length = lenE a by rw [List.length_map, setE_len])
    rw [HL.out]
    clear hB
    obtain ⟨nl, hnl⟩ : ∃ n, n = lenE a := ⟨_, rfl⟩
    rw [← hnl] at hle HR ⊢
    clear hnl HL
    rcases hq with rfl | h2
    · go_wp2_with fail
      go_ret
      exact ⟨ret_int (by rw [HR.out]; simp), HB.out⟩
    · have H2 := Lib.hid (show ¬ what = 2 by intro e; rw [e] at h2; cases h2)
      go_wp2_with fail
      go_ret
      exact ⟨ret_int (by rw [HR.out, if_neg H2.out]), HB.out⟩

end Go.Proofs.Ytflkelnfdoihlaa
