/-
  fair.Weave: the contract.
-/
import Derived.Test.YtblpjkpbbgkjbaaDoorFairG
import Derived.Test.YtblpjkpbbgkjbaaDoorWeaveM
import Derived.Test.YtblpjkpbbgkjbaaDoorIntsIn
import Derived.Deep.CutRange
import Derived.Deep.DeepCutAuto
import Derived.Outline
namespace Go.Proofs.YtblpjkpbbgkjbaaDoor
open Go.RowKit Go.Sort

def upto (N k : Nat) : List Int := rangeI k ++ List.replicate (N - k) 0
theorem upto_zero (N : Nat) : upto N 0 = List.replicate N 0 := by simp [upto, rangeI]
theorem upto_all (N : Nat) : upto N N = rangeI N := by simp [upto]
theorem upto_at (N k : Nat) (h : k < N) : (upto N k)[k]? = some 0 := by
  obtain ⟨m, hm⟩ : ∃ m, N - k = m + 1 := ⟨N - k - 1, by omega⟩
  unfold upto
  rw [List.getElem?_append_right (by rw [rangeI_len]; exact Nat.le_refl _), rangeI_len, hm]
  simp
theorem upto_set (N k : Nat) (h : k < N) : (upto N k).set k k = upto N (k + 1) := by
  obtain ⟨m, hm⟩ : ∃ m, N - k = m + 1 := ⟨N - k - 1, by omega⟩
  have hm2 : N - (k + 1) = m := by omega
  unfold upto
  rw [List.set_append_right _ _ (by rw [rangeI_len]; exact Nat.le_refl _), rangeI_len, hm, hm2, Nat.sub_self, List.replicate_succ, List.set_cons_zero]
  unfold rangeI
  rw [List.range_succ, List.map_append, List.append_assoc]
  rfl

set_option maxHeartbeats 1600000 in
set_option maxRecDepth 100000 in
theorem all26_any (N : Nat) (w : World) (hN : N ≤ 64) :
    Calls Tryd.prog 59 #[.int .i64 N] w fun e w' => ∃ v, e = .returned v ∧ w'.ownsRow w.heap.size 3 1 v N ((rangeI N).map (Value.int .i64)) ∧ Below w.heap.size w w' := by
  have hmk := make_int N N rfl (by omega)
  go_enter Tryd.func59, Tryd.ntmps59
  go_wp2_with fail
  go_loopw [9] (fun i wr => ∃ k : Nat, k ≤ N ∧ i = .int .i64 k ∧ Bk wr w.heap.size 3 ((upto N k).map (Value.int .i64)) ∧ Below w.heap.size w wr)
    (fun i _ => N - (intOf i).toNat)
  case atStart => exact ⟨0, Nat.zero_le _, rfl, by rw [upto_zero, List.map_replicate]; exact Bk.new _ _ _, (Below.refl _ _).alloc (Nat.le_refl _) _⟩
  case round =>
    obtain ⟨k, hk, rfl, hb, hB⟩ := hrel
    have HK := Lib.hid hb
    have HB := Lib.hid hB
    clear hb hB
    by_cases hlt : k < N
    · have hcell : wr.cell? ⟨w.heap.size, k, none⟩ = some (.int .i64 0) := by
        rw [HK.out.cell, List.getElem?_map, upto_at N k hlt]; rfl
      have hfree := HK.out.free k
      have HS := Lib.hid (HK.out.set k (.int .i64 k))
      go_wp2
      go_roundw
      case rel =>
        refine ⟨k + 1, by omega, by go_num, ?_, HB.out.setCell (p := ⟨w.heap.size, k, none⟩) (Nat.le_refl _) _⟩
        have := HS.out
        rw [← List.map_set, upto_set N k hlt] at this
        exact this
      case measure => simp [intOf]; omega
    · obtain rfl : N = k := by omega
      rw [upto_all] at HK
      go_wp2
      go_ret
      exact ⟨_, rfl, ⟨by simp [rangeI_len], .inr ⟨w.heap.size, N, ((rangeI N).map (Value.int .i64)).toArray, rfl, Nat.le_refl _, HK.out, Nat.le_refl _, by unfold maxLen; omega, by simp [rangeI_len], by rw [Nat.mul_one]; exact List.take_of_length_le (by simp [rangeI_len])⟩⟩, HB.out⟩

/-- Two rows of unlike types lie in two blocks. -/
theorem own_apart {w : World} {B1 B2 : Nat} {e1 e2 : TypeId} {s1 s2 n1 n2 : Nat} {v1 v2 : Value} {xs1 xs2 : List Value} (h : w.ownsRow B1 e1 s1 v1 n1 xs1) (k : w.ownsRow B2 e2 s2 v2 n2 xs2) (hn : e1 ≠ e2) : v1.ownBlock = none ∨ v1.ownBlock ≠ v2.ownBlock := by
  rcases h.2 with ⟨rfl, _⟩ | ⟨g, cap, cur, rfl, _, hh, _⟩
  · exact .inl rfl
  rcases k.2 with ⟨rfl, _⟩ | ⟨g', cap', cur', rfl, _, hh', _⟩
  · exact .inr (by simp [Value.ownBlock])
  refine .inr fun e => ?_
  have e : g = g' := by simpa [Value.ownBlock] using e
  subst e
  rw [hh] at hh'
  injection hh' with hh'
  injection hh' with _ e
  exact hn e

/-- What slices.Delete leaves of a row that the call owns. -/
theorem own_del {w : World} {B g cap p q : Nat} {X : List Int} (h : w.ownsRow B 3 1 (.slice (some ⟨g, 0, none⟩) X.length cap) X.length (X.map (Value.int .i64))) (hp : p < X.length) :
    (putRow (Value.int .i64) (Sort.ahead w q) g 0 (X.take p ++ X.drop (p + 1) ++ List.replicate (p + 1 - p) 0).toArray).ownsRow B 3 1 (.slice (some ⟨g, 0, none⟩) (X.length - (p + 1 - p)) cap) (X.eraseIdx p).length ((X.eraseIdx p).map (Value.int .i64)) ∧
      w.grownBy (putRow (Value.int .i64) (Sort.ahead w q) g 0 (X.take p ++ X.drop (p + 1) ++ List.replicate (p + 1 - p) 0).toArray) (some g) := by
  obtain ⟨hl, h | ⟨g', cap', cur, e, hb, hh, hn, hm, hs, hc⟩⟩ := h
  · simp at h
  injection e with e1 e2 e3
  injection e1 with e1
  injection e1 with e1
  subst e1 e3
  have hlen : (X.eraseIdx p).length = X.length - 1 := by rw [List.length_eraseIdx, if_pos hp]
  constructor
  · refine ⟨by simp, .inr ⟨g, cap, putCells (Value.int .i64) 0 (X.take p ++ X.drop (p + 1) ++ List.replicate (p + 1 - p) 0).toArray cur, by rw [hlen]; congr 1; omega, hb, ?_, by omega, hm, by simp [putCells, hs], ?_⟩⟩
    · show (w.heap.modify g (onCells (putCells (Value.int .i64) 0 _)))[g]? = _
      rw [Array.getElem?_modify, if_pos rfl, hh]
      rfl
    · apply List.ext_getElem?
      intro j
      rw [hlen, Nat.mul_one, List.getElem?_take]
      by_cases hj : j < X.length - 1
      · rw [if_pos hj, Array.getElem?_toList]
        unfold putCells
        rw [Array.getElem?_mapIdx, Array.getElem?_eq_getElem (by omega), Option.map_some, if_pos ⟨by omega, by simp; omega⟩, List.getElem?_map]
        have e : (X.take p ++ X.drop (p + 1) ++ List.replicate (p + 1 - p) 0).toArray[j - 0]! = (X.eraseIdx p)[j]'(by omega) := by
          rw [getElem!_pos _ _ (by simp; omega)]
          simp only [Nat.sub_zero, List.getElem_toArray]
          rw [List.getElem_append_left (by simp; omega)]
          congr 1
          exact (List.eraseIdx_eq_take_drop_succ X p).symm
        rw [e, List.getElem?_eq_getElem (by omega)]
        rfl
      · rw [if_neg hj, List.getElem?_eq_none (by simp; omega)]
  · refine ⟨rfl, rfl, rfl, by simp, fun k hk hne => ?_⟩
    show (w.heap.modify g (onCells (putCells (Value.int .i64) 0 _)))[k]? = _
    rw [Array.getElem?_modify, if_neg (fun e => hne (by rw [e]))]

theorem own_bounds {w : World} {B : Nat} {e : TypeId} {s n : Nat} {v : Value} {xs : List Value} (h : w.ownsRow B e s v n xs) : ∃ o c, v = .slice o n c ∧ n ≤ c ∧ c ≤ maxLen := by
  rcases h.2 with ⟨rfl, rfl⟩ | ⟨g, cap, cur, rfl, _, _, h1, h2, _⟩
  · exact ⟨_, _, rfl, Nat.le_refl _, Nat.zero_le _⟩
  · exact ⟨_, _, rfl, h1, h2⟩
theorem own_cell {w : World} {B : Nat} {e : TypeId} {v : Value} {X : List Int} (h : w.ownsRow B e 1 v X.length (X.map (Value.int .i64))) (h0 : 0 < X.length) : ∃ g c, v = .slice (some ⟨g, 0, none⟩) X.length c ∧ X.length ≤ c ∧ c ≤ maxLen ∧ B ≤ g ∧ g < w.heap.size ∧ (∀ j, j < X.length → w.cell? ⟨g, j, none⟩ = some (.int .i64 (X[j]?.getD 0)) ∧ w.frozen? ⟨g, j, none⟩ = false) := by
  have h' := h
  obtain ⟨hl, h1 | ⟨g, cap, cur, rfl, hb, hh, hn, hm, hs, hc⟩⟩ := h
  · omega
  refine ⟨g, cap, rfl, hn, hm, hb, (Array.getElem?_eq_some_iff.1 hh).1, fun j hj => ⟨?_, h'.frozenAt j⟩⟩
  rw [h'.cellAt j (by omega), List.getElem?_map, List.getElem?_eq_getElem hj]
  rfl

/-- What stands beside pick i, as the walk reads it. -/
theorem rawx_pos {raw : List Int} (h : 0 < raw.length) (i : Nat) : rawx raw i = intAt raw (i % raw.length) := by
  unfold rawx intAt
  rw [if_neg (by intro e; rw [e] at h; simp at h)]
theorem rawx_nil {raw : List Int} (h : raw.length = 0) (i : Nat) : rawx raw i = 0 := by
  unfold rawx
  rw [if_pos (List.eq_nil_of_length_eq_zero h)]
/-- Behind a round. -/
theorem wv_step (N : Nat) (raw : List Int) (i : Nat) : (wv N raw (i + 1)).2 = (wv N raw i).2 ++ [(whoW N raw i, rawx raw i)] := rfl

set_option maxHeartbeats 6400000 in
set_option maxRecDepth 100000 in
theorem weave_any (n long : Int) (vr : Value) (raw : List Int) (w : World) (hr : Nums w vr raw) (hrl : raw.length ≤ 1000000) :
    Calls Tryd.prog 36 #[.int .i64 n, .int .i64 long, vr] w fun e w' => ∃ v, e = .returned v ∧ Picks w' v (wv (workn n) raw (lenn long)).2 ∧ Below w.heap.size w w' := by
  have hN := workn_bd n
  have hm : lenn long ≤ 1048576 := by unfold lenn; omega
  obtain ⟨i0, hi, hz0, hz1, hz2⟩ := info_parts pick_info
  obtain ⟨o, c, rfl, hle, hc⟩ := hr
  have HC := Lib.hid hc
  clear hc
  go_enter Tryd.func36, Tryd.ntmps36
  go_wp2_with fail
  refine (workers_any _ _).mono ?_
  rintro e w1 ⟨rfl, rfl⟩
  generalize hNe : workn n = N at *
  have HNe := Lib.hid hNe
  clear hNe
  go_wp2_with fail
  refine (length_any _ _).mono ?_
  rintro e w2 ⟨rfl, rfl⟩
  generalize hme : lenn long = m at *
  have Hme := Lib.hid hme
  clear hme
  go_wp2_with fail
  obtain ⟨w, rfl⟩ : ∃ w : World, w = w2 := ⟨_, rfl⟩
  go_loopw [7, 8, 17] (fun v l i wr => ∃ k : Nat, k ≤ m ∧ i = .int .i64 k ∧ wr.ownsRow w.heap.size 42 2 v k (pcells (wv N raw k).2) ∧ wr.ownsRow w.heap.size 3 1 l (wv N raw k).1.length ((wv N raw k).1.map (Value.int .i64)) ∧ Below w.heap.size w wr)
    (fun _ _ i _ => m - (intOf i).toNat)
  case atStart => exact ⟨0, Nat.zero_le _, rfl, World.ownsRow_nil _ _ _ _, World.ownsRow_nil _ _ _ _, Below.refl _ _⟩
  case round =>
    obtain ⟨k, hk, rfl, hown, hl, hB⟩ := hrel
    obtain ⟨lo, lc, rfl, hl1, hl2⟩ := own_bounds hl
    have HB := Lib.hid hB
    have HO := Lib.hid hown
    have HL := Lib.hid hl
    clear hB hown hl
    by_cases hlt : k < m
    · have hleft := left_len N raw k hN.1
      have hmod := Nat.mod_lt k hN.1
      have hl64 : (wv N raw k).1.length ≤ 64 := by rw [hleft]; split <;> omega
      have HLEFT := Lib.hid hleft
      clear hleft
      go_upto_if 22 with (fail)
      go_cut [8] from 22 to 24 (fun l wx => wx.ownsRow w.heap.size 3 1 l (wl N raw k).length ((wl N raw k).map (Value.int .i64)) ∧ wx.ownsRow w.heap.size 42 2 u7 k (pcells (wv N raw k).2) ∧ Below w.heap.size w wx)
      case first =>
        by_cases hz : (wv N raw k).1.length = 0
        · have hzb : (((wv N raw k).1.length : Int) == 0) = true := by simp [hz]
          have HW := Lib.hid (show wl N raw k = rangeI N by unfold wl turn0; rw [if_pos (List.eq_nil_of_length_eq_zero hz)])
          clear hz
          go_wp2_with fail
          refine (all26_any N _ hN.2).mono ?_
          rintro e w3 ⟨lv, rfl, hL3, hB3⟩
          go_wp2_with fail
          go_meet
          case rel =>
            have F := gb_below hB3 (some 0)
            exact ⟨by rw [HW.out, rangeI_len]; obtain ⟨ha, hb⟩ := hL3; refine ⟨ha, ?_⟩; rcases hb with h | ⟨g, cap, cur, h1, h2, h3⟩; exact .inl h; exact .inr ⟨g, cap, cur, h1, Nat.le_trans HB.out.size h2, h3⟩, own_below HO.out hB3, HB.out.trans (hB3.mono HB.out.size)⟩
        · have hzb : (((wv N raw k).1.length : Int) == 0) = false := by simpa using hz
          have HW := Lib.hid (show wl N raw k = (wv N raw k).1 by unfold wl turn0; rw [if_neg (by intro e; rw [e] at hz; exact hz rfl)])
          clear hz
          go_wp2_with fail
          go_meet
          case rel => exact ⟨by rw [HW.out]; exact HL.out, HO.out, HB.out⟩
      case rest =>
        obtain ⟨hL4, hO4, hB4⟩ := hcut
        have hwp := wl_pos N raw k hN.1
        have hw64 : (wl N raw k).length ≤ 64 := by
          unfold wl turn0
          split
          · rw [rangeI_len]; exact hN.2
          · exact hl64
        clear HL HO HB hl64
        have HB := Lib.hid hB4
        have HO := Lib.hid hO4
        have HL := Lib.hid hL4
        obtain ⟨g, lc', rfl, hl1', hl2', hgB, hgl, hcells⟩ := own_cell hL4 hwp
        clear hB4 hO4 hL4
        have HCL := Lib.hid hcells
        clear hcells
        go_upto_if 27 with (fail)
        go_cut [10] from 27 to 34 (fun x wx => x = .int .i64 (rawx raw k) ∧ wx = wc)
        case first =>
          by_cases hz : raw.length = 0
          · have d1 : decide ((0 : Int) < raw.length) = false := by rw [hz]; rfl
            have HX := Lib.hid (rawx_nil hz k)
            go_wp2_with fail
            go_meet
            case rel => exact ⟨by rw [HX.out], rfl⟩
          · have d1 : decide ((0 : Int) < raw.length) = true := by simp; omega
            have HX := Lib.hid (rawx_pos (raw := raw) (by omega) k)
            obtain ⟨rb, ro, rfl, hd⟩ := HC.out (by omega)
            have hmr := Nat.mod_lt k (show 0 < raw.length by omega)
            have c0 := keepc (hd _ hmr) HB.out
            have z1 : ¬ ((raw.length : Int) = 0) := by omega
            clear hd hz
            go_wp2_with fail
            go_meet
            case rel => exact ⟨by rw [HX.out], rfl⟩
        case rest =>
          obtain ⟨rfl, rfl⟩ := hcut
          have hwb := whoE_lt (rawx raw k) (wl N raw k).length hwp
          have HWP := Lib.hid (show whoE (rawx raw k) (wl N raw k).length = (wp N raw k : Int) by unfold wp; omega)
          have hpl := wp_lt N raw k hN.1
          have HWV := Lib.hid (wv_left N raw k)
          have HWO := Lib.hid (wv_step N raw k)
          have HWW := Lib.hid (show (wl N raw k)[wp N raw k]?.getD 0 = whoW N raw k from rfl)
          clear hwb
          go_wp2_with fail
          refine (who_any _ _ _ _ (by omega)).mono ?_
          rintro e w5 ⟨rfl, hB5⟩
          rw [HWP.out]
          generalize rawx raw k = x at *
          generalize wl N raw k = X at *
          generalize wp N raw k = p at *
          obtain ⟨c0, f0⟩ := HCL.out p hpl
          rw [HWW.out] at c0
          generalize whoW N raw k = y at *
          have F5 := Lib.hid hB5
          have HO5 := Lib.hid (own_below HO.out F5.out)
          have HL5 := Lib.hid (own_below HL.out F5.out)
          have HB5 := Lib.hid (HB.out.trans (F5.out.mono HB.out.size))
          replace c0 := keepc c0 F5.out
          clear hB5 f0
          go_wp2_with (at_builtin; refine wpList_append_own _ rfl _ _ 39 rfl w.heap.size 42 i0 (.agg #[.int .i64 0, .int .i64 0]) 2 16 Tryd.underlying39 hi hz0 hz1 hz2 rfl (by decide) _ _ _ rfl (HO5.out.alloc _) ⟨w5.heap.size, 0, none⟩ 1 1 [.int .i64 y, .int .i64 x] rfl rfl ?c1 ?c2 ?c3 ?c4 ?c5 ?_)
          case c1 =>
            intro j u hj
            match j, hj with
            | 0, hj => simp at hj; subst hj; simp [Addr.add]
            | 1, hj => simp at hj; subst hj; simp [Addr.add]
          case c2 => simp [Value.oneCell']
          case c3 => unfold maxLen; omega
          case c4 => omega
          case c5 => have := HB5.out.size; simp; omega
          intro v' w6 hown' hgrow _
          have hap := own_apart HL5.out HO5.out (by decide)
          have HL6 := Lib.hid ((HL5.out.alloc _).kept hgrow hap)
          have R := pick_step HB5.out (Nat.le_refl _) HO5.out _ hown' hgrow
          rw [← HWO.out] at R
          have HO6 := Lib.hid R.1
          have HB6 := Lib.hid R.2
          have hd := Tryd.slices_Delete_int g 0 lc' p (p + 1) X w6 (fun j hj => by
            have hj' : j < X.length := by simpa using hj
            refine ⟨?_, by rw [Nat.zero_add]; exact HL6.out.frozenAt j⟩
            rw [Nat.zero_add, HL6.out.cellAt j (by omega), List.getElem?_map, List.getElem?_eq_getElem hj', getElem!_pos X.toArray j hj]
            rfl) (by omega) (by unfold maxLen at hl2'; omega) (by omega) (by omega)
          rw [Int.natCast_add, Int.natCast_one] at hd
          clear hown' hgrow R hap c0
          go_wp2_with fail
          refine hd.mono ?_
          rintro e w7 ⟨rfl, qq, rfl⟩
          obtain ⟨hd1, hd2⟩ := own_del (q := qq) HL6.out hpl
          rw [← HWV.out] at hd1
          have hs1 : X.length - (p + 1 - p) = X.length - 1 := by omega
          rw [hs1] at hd1
          clear hs1
          have HL7 := Lib.hid hd1
          have HO7 := Lib.hid (HO6.out.kept hd2 (by rcases own_apart HO6.out HL6.out (by decide) with h | h; exact .inl h; exact .inr h))
          have HB7 := Lib.hid (HB6.out.grown hd2 HB6.out.size (fun i hi => by injection hi with hi; omega))
          clear hd hd1 hd2
          generalize putRow (Value.int .i64) (Sort.ahead w6 qq) g 0 _ = w7 at *
          go_wp2_with fail
          go_roundw
          case rel => exact ⟨k + 1, by omega, by go_num, HO7.out, HL7.out, HB7.out⟩
          case measure => simp [intOf]; omega
    · obtain rfl : m = k := by omega
      go_wp2
      go_ret
      exact ⟨_, rfl, by rw [HNe.out, Hme.out]; exact Picks.of_owns HO.out, HB.out⟩

end Go.Proofs.YtblpjkpbbgkjbaaDoor
