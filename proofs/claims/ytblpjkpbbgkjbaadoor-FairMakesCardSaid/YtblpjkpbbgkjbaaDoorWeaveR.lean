/-
  soughref26.Weave, Same: contracts.
-/
import Derived.Test.YtblpjkpbbgkjbaaDoorWeave
import Derived.Maps.AppendAt
import Derived.Outline
namespace Go.Proofs.YtblpjkpbbgkjbaaDoor
open Go.RowKit Go.Sort

/-- What is gathered of X, but for number p. -/
def restL (X : List Int) (p q : Nat) : List Int := (X.take q).eraseIdx p
theorem restL_zero (X : List Int) (p : Nat) : restL X p 0 = [] := by simp [restL]
theorem restL_all (X : List Int) (p : Nat) : restL X p X.length = X.eraseIdx p := by simp [restL]
theorem restL_at (X : List Int) (p : Nat) (h : p < X.length) : restL X p (p + 1) = restL X p p := by
  unfold restL
  rw [List.eraseIdx_of_length_le (l := X.take p) (by simp; omega), List.take_succ_eq_append_getElem h, List.eraseIdx_append_of_length_le (by simp; omega)]
  simp [Nat.min_eq_left (Nat.le_of_lt h)]
theorem restL_ne (X : List Int) (p q : Nat) (h : q < X.length) (hn : q ≠ p) : restL X p (q + 1) = restL X p q ++ [X[q]?.getD 0] := by
  unfold restL
  rw [List.take_succ_eq_append_getElem h, List.getElem?_eq_getElem h]
  by_cases hq : q < p
  · rw [List.eraseIdx_of_length_le (by simp; omega), List.eraseIdx_of_length_le (by simp; omega)]
    rfl
  · rw [List.eraseIdx_append_of_lt_length (by simp; omega)]
    rfl

set_option maxHeartbeats 12800000 in
set_option maxRecDepth 100000 in
theorem rweave_any (n long : Int) (vr : Value) (raw : List Int) (w : World) (hr : Nums w vr raw) (hrl : raw.length ≤ 1000000) (hlong : long ≤ 1000) :
    Calls Tryd.prog 37 #[.int .i64 n, .int .i64 long, vr] w fun e w' => ∃ v, e = .returned v ∧ Picks w' v (wv (workn n) raw long.toNat).2 ∧ Below w.heap.size w w' := by
  have hN := workn_bd n
  obtain ⟨i0, hi, hz0, hz1, hz2⟩ := info_parts pick_info
  obtain ⟨i1, hi1, hy0, hy1, hy2⟩ := info_parts int_info
  obtain ⟨o, c, rfl, hle, hc⟩ := hr
  have HC := Lib.hid hc
  clear hc
  go_enter Tryd.func37, Tryd.ntmps37
  go_wp2_with fail
  refine (rworkers_any _ _).mono ?_
  rintro e w1 ⟨rfl, rfl⟩
  generalize hNe : workn n = N at *
  have HNe := Lib.hid hNe
  clear hNe
  go_wp2_with fail
  obtain ⟨w, rfl⟩ : ∃ w : World, w = w1 := ⟨_, rfl⟩
  go_loopw [7, 8, 9] (fun v l i wr => ∃ k : Nat, k ≤ long.toNat ∧ i = .int .i64 k ∧ wr.ownsRow w.heap.size 42 2 v k (pcells (wv N raw k).2) ∧ wr.ownsRow w.heap.size 3 1 l (wv N raw k).1.length ((wv N raw k).1.map (Value.int .i64)) ∧ Below w.heap.size w wr)
    (fun _ _ i _ => long.toNat - (intOf i).toNat)
  case atStart => exact ⟨0, Nat.zero_le _, rfl, World.ownsRow_nil _ _ _ _, World.ownsRow_nil _ _ _ _, Below.refl _ _⟩
  case round =>
    obtain ⟨k, hk, rfl, hown, hl, hB⟩ := hrel
    obtain ⟨lo, lc, rfl, hl1, hl2⟩ := own_bounds hl
    have HB := Lib.hid hB
    have HO := Lib.hid hown
    have HL := Lib.hid hl
    clear hB hown hl
    by_cases hlt : (k : Int) < long
    · have hleft := left_len N raw k hN.1
      have hmod := Nat.mod_lt k hN.1
      have hl64 : (wv N raw k).1.length ≤ 64 := by rw [hleft]; split <;> omega
      have HLN := Lib.hid (left_nil N raw k hN.1)
      have hN0 : ¬ ((N : Int) = 0) := by omega
      clear hleft
      go_upto_if 26 with (fail)
      go_cut [8] from 26 to 36 (fun l wx => wx.ownsRow w.heap.size 3 1 l (wl N raw k).length ((wl N raw k).map (Value.int .i64)) ∧ wx.ownsRow w.heap.size 42 2 u7 k (pcells (wv N raw k).2) ∧ Below w.heap.size w wx)
      case first =>
        by_cases hz : k % N = 0
        · have hzb : (((k % N : Nat) : Int) == 0) = true := by simp [hz]
          have hzb2 : ((k : Int) % (N : Int) == 0) = true := by rw [← Int.natCast_emod]; exact hzb
          have HW := Lib.hid (show wl N raw k = rangeI N by unfold wl turn0; rw [if_pos (HLN.out.2 hz)])
          clear hz hzb
          rw [hzb2]
          go_wp2_with fail
          obtain ⟨wo, rfl⟩ : ∃ wo : World, wo = wr := ⟨_, rfl⟩
          go_loopw [8, 10] (fun l i wr => ∃ q : Nat, q ≤ N ∧ i = .int .i64 q ∧ wr.ownsRow w.heap.size 3 1 l q ((rangeI q).map (Value.int .i64)) ∧ wr.ownsRow w.heap.size 42 2 u7 k (pcells (wv N raw k).2) ∧ Below w.heap.size w wr)
            (fun _ i _ => N - (intOf i).toNat)
          case atStart => exact ⟨0, Nat.zero_le _, rfl, World.ownsRow_nil _ _ _ _, HO.out, HB.out⟩
          case round =>
            obtain ⟨q, hq, rfl, hlr, hor, hBr⟩ := hrel
            have HLR := Lib.hid hlr
            have HOR := Lib.hid hor
            have HBR := Lib.hid hBr
            clear hlr hor hBr
            by_cases hqlt : q < N
            · go_wp2_with (at_builtin; refine wpList_append_own _ rfl _ _ 22 rfl w.heap.size 3 i1 (.int .i64 0) 1 8 Tryd.underlying22 hi1 hy0 hy1 hy2 rfl (by decide) _ _ _ rfl (HLR.out.alloc _) ⟨wr.heap.size, 0, none⟩ 1 1 [.int .i64 q] rfl rfl ?c1 ?c2 ?c3 ?c4 ?c5 ?_)
              case c1 => exact cell_one_new _ _ _
              case c2 => simp [Value.oneCell']
              case c3 => unfold maxLen; omega
              case c4 => omega
              case c5 => have := HBR.out.size; simp; omega
              intro v' w3 hown' hgrow _
              have HL' := Lib.hid (show w3.ownsRow w.heap.size 3 1 v' (q + 1) ((rangeI (q + 1)).map (Value.int .i64)) by unfold rangeI; rw [List.range_succ, List.map_append, List.map_append]; exact hown')
              have HO' := Lib.hid ((HOR.out.alloc _).kept hgrow (own_apart HOR.out HLR.out (by decide)))
              have HB' := Lib.hid ((HBR.out.alloc (by have := HBR.out.size; omega) _).grown hgrow (by have := HBR.out.size; simp; omega) (fun k hk => (HLR.out.lt k hk).1))
              clear hown' hgrow
              go_wp2
              go_roundw
              case rel => exact ⟨q + 1, by omega, by go_num, HL'.out, HO'.out, HB'.out⟩
              case measure => simp [intOf]; omega
            · obtain rfl : N = q := by omega
              go_wp2_with fail
              go_meet
              case rel => exact ⟨by rw [HW.out, rangeI_len]; exact HLR.out, HOR.out, HBR.out⟩
        · have hzb : (((k % N : Nat) : Int) == 0) = false := by simp only [beq_eq_false_iff_ne, ne_eq]; omega
          have hzb2 : ((k : Int) % (N : Int) == 0) = false := by rw [← Int.natCast_emod]; exact hzb
          have HW := Lib.hid (show wl N raw k = (wv N raw k).1 by unfold wl turn0; rw [if_neg (fun e => hz (HLN.out.1 e))])
          clear hz hzb
          rw [hzb2]
          go_wp2_with fail
          go_meet
          case rel => exact ⟨by rw [HW.out]; exact HL.out, HO.out, HB.out⟩
      case rest =>
        obtain ⟨hL4, hO4, hB4⟩ := hcut
        have hwp := wl_pos N raw k hN.1
        have hw64 : (wl N raw k).length ≤ 64 := by
          unfold wl turn0
          split
          · rw [rangeI_len]; exact hN.2
          · exact hl64
        clear HL HO HB hl64
        have HB := Lib.hid hB4
        have HO := Lib.hid hO4
        have HL := Lib.hid hL4
        obtain ⟨g, lc', rfl, hl1', hl2', hgB, hgl, hcells⟩ := own_cell hL4 hwp
        clear hB4 hO4 hL4
        have HCL := Lib.hid hcells
        clear hcells
        go_upto_if 38 with (fail)
        go_cut [11] from 38 to 45 (fun x wx => x = .int .i64 (rawx raw k) ∧ wx = wc)
        case first =>
          by_cases hz : raw.length = 0
          · have d1 : decide ((0 : Int) < raw.length) = false := by rw [hz]; rfl
            have HX := Lib.hid (rawx_nil hz k)
            go_wp2_with fail
            go_meet
            case rel => exact ⟨by rw [HX.out], rfl⟩
          · have d1 : decide ((0 : Int) < raw.length) = true := by simp; omega
            have HX := Lib.hid (rawx_pos (raw := raw) (by omega) k)
            obtain ⟨rb, ro, rfl, hd⟩ := HC.out (by omega)
            have hmr := Nat.mod_lt k (show 0 < raw.length by omega)
            have c0 := keepc (hd _ hmr) HB.out
            have z1 : ¬ ((raw.length : Int) = 0) := by omega
            clear hd hz
            go_wp2_with fail
            go_meet
            case rel => exact ⟨by rw [HX.out], rfl⟩
        case rest =>
          obtain ⟨rfl, rfl⟩ := hcut
          have hwb := whoE_lt (rawx raw k) (wl N raw k).length hwp
          have HWP := Lib.hid (show whoE (rawx raw k) (wl N raw k).length = (wp N raw k : Int) by unfold wp; omega)
          have hpl := wp_lt N raw k hN.1
          have HWV := Lib.hid (wv_left N raw k)
          have HWO := Lib.hid (wv_step N raw k)
          have HWW := Lib.hid (show (wl N raw k)[wp N raw k]?.getD 0 = whoW N raw k from rfl)
          clear hwb
          go_wp2_with fail
          refine (rwho_any _ _ _ _ (by omega)).mono ?_
          rintro e w5 ⟨rfl, hB5⟩
          rw [HWP.out]
          generalize rawx raw k = x at *
          generalize wl N raw k = X at *
          generalize wp N raw k = p at *
          obtain ⟨c0, f0⟩ := HCL.out p hpl
          rw [HWW.out] at c0
          generalize whoW N raw k = y at *
          have F5 := Lib.hid hB5
          have HO5 := Lib.hid (own_below HO.out F5.out)
          have HL5 := Lib.hid (own_below HL.out F5.out)
          have HB5 := Lib.hid (HB.out.trans (F5.out.mono HB.out.size))
          replace c0 := keepc c0 F5.out
          clear hB5 f0
          go_wp2_with (at_builtin; refine wpList_append_own _ rfl _ _ 39 rfl w.heap.size 42 i0 (.agg #[.int .i64 0, .int .i64 0]) 2 16 Tryd.underlying39 hi hz0 hz1 hz2 rfl (by decide) _ _ _ rfl (HO5.out.alloc _) ⟨w5.heap.size, 0, none⟩ 1 1 [.int .i64 y, .int .i64 x] rfl rfl ?c1 ?c2 ?c3 ?c4 ?c5 ?_)
          case c1 =>
            intro j u hj
            match j, hj with
            | 0, hj => simp at hj; subst hj; simp [Addr.add]
            | 1, hj => simp at hj; subst hj; simp [Addr.add]
          case c2 => simp [Value.oneCell']
          case c3 => unfold maxLen; omega
          case c4 => omega
          case c5 => have := HB5.out.size; simp; omega
          intro v' w6 hown' hgrow _
          have hap := own_apart HL5.out HO5.out (by decide)
          have HL6 := Lib.hid ((HL5.out.alloc _).kept hgrow hap)
          have R := pick_step HB5.out (Nat.le_refl _) HO5.out _ hown' hgrow
          rw [← HWO.out] at R
          have HO6 := Lib.hid R.1
          have HB6 := Lib.hid R.2
          clear hown' hgrow R hap c0 HO5 HL5 HB5 HO HL HB HCL
          go_wp2_with fail
          obtain ⟨wo, rfl⟩ : ∃ wo : World, wo = w6 := ⟨_, rfl⟩
          go_loopw [13, 62] (fun r i wr => ∃ q : Nat, q ≤ X.length ∧ i = .int .i64 q ∧ wr.ownsRow w.heap.size 3 1 r (restL X p q).length ((restL X p q).map (Value.int .i64)) ∧ (r.ownBlock = none ∨ r.ownBlock ≠ some g) ∧
              wr.ownsRow w.heap.size 3 1 (.slice (some ⟨g, 0, none⟩) X.length lc') X.length (X.map (Value.int .i64)) ∧ wr.ownsRow w.heap.size 42 2 v' (k + 1) (pcells (wv N raw (k + 1)).2) ∧ Below w.heap.size w wr)
            (fun _ i _ => X.length - (intOf i).toNat)
          case atStart => exact ⟨0, Nat.zero_le _, rfl, by rw [restL_zero]; exact World.ownsRow_nil _ _ _ _, .inl rfl, HL6.out, HO6.out, HB6.out⟩
          case round =>
            obtain ⟨q, hq, rfl, hrr, hne, hlr, hor, hBr⟩ := hrel
            obtain ⟨ro, rc, rfl, hr1, hr2⟩ := own_bounds hrr
            have HRR := Lib.hid hrr
            have HNE := Lib.hid hne
            have HLR := Lib.hid hlr
            have HOR := Lib.hid hor
            have HBR := Lib.hid hBr
            clear hrr hne hlr hor hBr
            by_cases hqlt : q < X.length
            · have c1 : wr.cell? ⟨g, q, none⟩ = some (.int .i64 (X[q]?.getD 0)) := by
                rw [HLR.out.cellAt q (by omega), List.getElem?_map, List.getElem?_eq_getElem hqlt]
                rfl
              by_cases hqp : q = p
              · have HRL := Lib.hid (show restL X p (q + 1) = restL X p q by rw [hqp]; exact restL_at X p hpl)
                have d1 : ((q : Int) != (p : Int)) = false := by simp [hqp]
                clear hqp
                generalize X[q]?.getD 0 = z at *
                go_wp2_with fail
                go_roundw
                case rel => exact ⟨q + 1, by omega, by go_num, by rw [HRL.out]; exact HRR.out, HNE.out, HLR.out, HOR.out, HBR.out⟩
                case measure => simp [intOf]; omega
              · have HRL := Lib.hid (restL_ne X p q hqlt hqp)
                have d1 : ((q : Int) != (p : Int)) = true := by simp; omega
                have hrl64 : (restL X p q).length ≤ 64 := by unfold restL; have := List.length_eraseIdx_le (X.take q) p; simp at this; omega
                clear hqp
                generalize X[q]?.getD 0 = z at *
                go_wp2_with (at_builtin; refine wpList_append_own_at _ rfl _ _ 22 rfl w.heap.size 3 i1 (.int .i64 0) 1 8 Tryd.underlying22 hi1 hy0 hy1 hy2 rfl (by decide) _ _ _ rfl (HRR.out.alloc _) ⟨wr.heap.size, 0, none⟩ 1 1 [.int .i64 z] rfl rfl ?c1 ?c2 ?c3 ?c4 ?c5 ?_)
                case c1 => exact cell_one_new _ _ _
                case c2 => simp [Value.oneCell']
                case c3 => unfold maxLen; omega
                case c4 => omega
                case c5 => have := HBR.out.size; simp; omega
                intro v'' w8 hown' hgrow _ hat
                have hrow : w8.ownsRow w.heap.size 3 1 v'' (restL X p (q + 1)).length ((restL X p (q + 1)).map (Value.int .i64)) := by
                  rw [HRL.out, List.length_append, List.map_append]; exact hown'
                have hgr : g < wr.heap.size := (HLR.out.lt g rfl).2
                have hne' : v''.ownBlock = none ∨ v''.ownBlock ≠ some g := by
                  rcases hat with h | h
                  · rw [h]; exact HNE.out
                  · refine .inr ?_
                    rw [h]
                    simp
                    omega
                have HR' := Lib.hid hrow
                have HN' := Lib.hid hne'
                have HL' := Lib.hid ((HLR.out.alloc _).kept hgrow (.inr (HNE.out.elim (fun h => by rw [h]; simp [Value.ownBlock]) (fun h e => h e.symm))))
                have HO' := Lib.hid ((HOR.out.alloc _).kept hgrow (own_apart HOR.out HRR.out (by decide)))
                have HB' := Lib.hid ((HBR.out.alloc (by have := HBR.out.size; omega) _).grown hgrow (by have := HBR.out.size; simp; omega) (fun k hk => (HRR.out.lt k hk).1))
                clear hown' hgrow hrow hne' hat
                go_wp2
                go_roundw
                case rel => exact ⟨q + 1, by omega, by go_num, HR'.out, HN'.out, HL'.out, HO'.out, HB'.out⟩
                case measure => simp [intOf]; omega
            · obtain rfl : q = X.length := by omega
              have HRA := Lib.hid (restL_all X p)
              go_wp2_with fail
              go_roundw
              case rel => exact ⟨k + 1, by omega, by go_num, HOR.out, by rw [HWV.out, ← HRA.out]; exact HRR.out, HBR.out⟩
              case measure => simp [intOf]; omega
    · go_wp2_with fail
      go_ret
      have hkl : k = long.toNat := by omega
      exact ⟨_, rfl, by rw [HNe.out, ← hkl]; exact Picks.of_owns HO.out, HB.out⟩

end Go.Proofs.YtblpjkpbbgkjbaaDoor
