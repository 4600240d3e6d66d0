/-
  soughlaw31.TicketPlays: its walk. Written by wip/gen/mktp7.py.
-/
import Derived.Test.YteheckcflnogbaaTp6
import Derived.Test.YteheckcflnogbaaSame
import Derived.BigQuiet
namespace Go.Proofs.Yteheckcflnogbaa
open Go.RowKit

theorem op_info : (Try.prog.info? 153).map (fun i => (i.zero, i.size, i.bytes)) = some (some (.agg #[.pointer none, .pointer none, .pointer none, .pointer none, .pointer none]), 5, 40) := by kernel_rfl
theorem list8 {zs : List Int} (h : zs.length = 8) (x : Int) : stv zs 8 x = zs := by
  unfold stv
  rw [if_pos (by decide)]
  exact List.set_eq_of_length_le (by rw [h]; decide)
theorem stv_nat (zs : List Int) (k : Nat) (x : Int) : stv zs k x = zs.set k x := by unfold stv; rw [if_pos (by omega)]; simp

theorem row_at5 {w : World} {base e n : Nat} {v : Value} {xs : List Value} (h : w.ownsRow base e 5 v n xs) (h0 : 0 < n) : ∃ lb c, v = .slice (some ⟨lb, 0, none⟩) n c ∧ base ≤ lb ∧ ∀ i u, xs[i]? = some u → w.cell? ⟨lb, i, none⟩ = some u := by
  have hc := h
  obtain ⟨hl, ⟨rfl, rfl⟩ | ⟨g, cap, cur, rfl, hg, _⟩⟩ := h
  · simp at hl; omega
  · refine ⟨g, cap, rfl, hg, fun i u hu => ?_⟩
    have := hc.cells (g := g) rfl i u hu
    rwa [Addr.add_lit, Nat.zero_add] at this

set_option maxHeartbeats 3200000 in
set_option maxRecDepth 100000 in
theorem ticketPlays_walk (vk vn vo vw : Value) (K N O : List Int) (A : List Nat) (W : World) (hK : Nums W vk K) (hN : Nums W vn N) (hO : U8s W vo O) (hA : Ws W vw A) (mk : K.length ≤ 9223372036854775807) (mn : N.length ≤ 9223372036854775807) (mo : O.length ≤ 9223372036854775807) (ma : A.length ≤ 9223372036854775807) :
    Calls Try.prog 14 #[vk, vn, vo, vw] W fun e w' => e = .returned (.bool true) ∧ Below W.heap.size W w' := by
  have hp0 := op_info
  obtain ⟨i0, hi, hz0, hz1, hz2⟩ := info_parts op_info
  obtain ⟨ok, ck, rfl, _, hkc⟩ := hK
  obtain ⟨on, cn, rfl, _, hnc⟩ := hN
  obtain ⟨oo, co, rfl, hoc⟩ := hO
  have HSA := Lib.hid hA.1
  obtain ⟨pa, ca, rfl, hac⟩ := ws_row hA
  have HK := Lib.hid hkc
  have HN := Lib.hid hnc
  have HO := Lib.hid hoc
  have HA := Lib.hid hac
  clear hkc hnc hoc hac hA hp0
  by_cases h1 : 20 < K.length
  · have d1 : decide ((20 : Int) < K.length) = true := by simp; omega
    clear h1
    go_enter Try.func14, Try.ntmps14
    go_wp2_with fail
    refine (awake31_any _).mono ?_
    rintro e w1 ⟨rfl, hB⟩
    have HB1 := Lib.hid hB
    clear hB
    go_wp2_with fail
    go_ret
    exact ⟨rfl, HB1.out⟩
  have d1 : decide ((20 : Int) < K.length) = false := by simp; omega
  by_cases h2 : 80 < O.length
  · have d2 : decide ((80 : Int) < O.length) = true := by simp; omega
    clear h1 h2
    go_enter Try.func14, Try.ntmps14
    go_wp2_with fail
    refine (awake31_any _).mono ?_
    rintro e w1 ⟨rfl, hB⟩
    have HB1 := Lib.hid hB
    clear hB
    go_wp2_with fail
    go_ret
    exact ⟨rfl, HB1.out⟩
  have d2 : decide ((80 : Int) < O.length) = false := by simp; omega
  by_cases h3 : 9 < A.length
  · have d3 : decide ((9 : Int) < A.length) = true := by simp; omega
    clear h1 h2 h3
    go_enter Try.func14, Try.ntmps14
    go_wp2_with fail
    refine (awake31_any _).mono ?_
    rintro e w1 ⟨rfl, hB⟩
    have HB1 := Lib.hid hB
    clear hB
    go_wp2_with fail
    go_ret
    exact ⟨rfl, HB1.out⟩
  have d3 : decide ((9 : Int) < A.length) = false := by simp; omega
  go_enter Try.func14, Try.ntmps14
  go_wp2_with fail
  refine (awake31_any _).mono ?_
  rintro e w1 ⟨rfl, hB⟩
  have HB1 := Lib.hid hB
  clear hB
  go_wp2_with fail

  have HC0 := Lib.hid (Bk.new w1 145 [.int .i64 1, .int .i64 6])
  have HBA := Lib.hid (HB1.out.alloc HB1.out.size (.cells #[.int .i64 1, .int .i64 6] 145))
  have hbs := HB1.out.size
  obtain ⟨bc, hbc⟩ : ∃ bc, bc = w1.heap.size := ⟨_, rfl⟩
  rw [← hbc] at HC0 hbs ⊢
  have HBC := Lib.hid (show W.heap.size ≤ bc from hbs)
  clear hbs
  generalize (w1.alloc (.cells #[.int .i64 1, .int .i64 6] 145)) = W1 at *
  clear hbc HB1
  refine (newPlain_any _ _).mono ?_
  rintro e w2 ⟨b, g, rfl, hP, hB, hb, hg⟩
  have HP2 := Lib.hid hP
  have HC2 := Lib.hid (HC0.out.below hB)
  have HB2 := Lib.hid (bel_then HBA.out hB)
  have hsz := HBA.out.size
  have HG := Lib.hid (show W.heap.size ≤ b ∧ W.heap.size ≤ g from ⟨by omega, by omega⟩)
  have hgl := hP.2.1.lt
  clear hP hB hb hg hsz
  go_wp2_with fail
  refine (rnew_any _ _).mono ?_
  rintro e w3 ⟨bw, gw, rfl, hR, hB, hb, hg⟩
  have hsz := HB2.out.size
  have HI0 := Lib.hid (show TpI W w3 b g bw gw (List.replicate (memn 8) 0) [] from ⟨HP2.out.below hB, hR, fun z hz => by rw [List.eq_of_mem_replicate hz]; decide, rfl, by omega, ⟨HG.out.1, HG.out.2, by omega, by omega⟩, by simp, by simp, by simp, (Fr.of HB2.out).trans (.of hB)⟩)
  have HC3 := Lib.hid (HC2.out.below hB)
  generalize List.replicate (memn 8) (0 : Int) = z0 at *
  clear hR hB hb hg hsz hgl HP2 HB2 HC2 HC0 HBA HG
  go_wp2_with fail
  go_loopw [40] (fun i wr => ∃ k : Nat, k ≤ A.length ∧ i = .int .i64 k ∧ ∃ zs, TpI W wr b g bw gw zs [] ∧ Bk wr bc 145 [.int .i64 1, .int .i64 6])
    (fun i _ => A.length - (intOf i).toNat)
  case atStart => exact ⟨0, Nat.zero_le _, rfl, z0, HI0.out, HC3.out⟩
  case round =>
    clear HI0 HC3
    obtain ⟨k, hk, rfl, zs, hI, hC⟩ := hrel
    have HI := Lib.hid hI
    have HC := Lib.hid hC
    clear hI hC
    by_cases hlt : k < A.length
    · obtain ⟨a, rfl, hd⟩ := HA.out (by omega)
      have c0 := keepc (hd k hlt) HI.out.fr.below
      have HXS := Lib.hid (HSA.out _ (show A[k]?.getD 0 ∈ A by rw [List.getElem?_eq_getElem hlt]; exact List.getElem_mem hlt))
      have hki : (k : Int) < A.length := by omega
      clear hd
      generalize A[k]?.getD 0 = x at *
      go_wp2_with fail
      refine (store_any k x b g zs _ HI.out.pm).mono ?_
      rintro e w4 ⟨rfl, hP, hK⟩
      have hF : Fr [g] wr w4 := .gb hK (by simp)
      have HP4 := Lib.hid hP
      have HF4 := Lib.hid hF
      have HR4 := Lib.hid (rmfr HI.out.rm hF (by simp; exact Bk.ne HI.out.rm.1 HI.out.pm.2.1 (by decide)) (by simp; exact HI.out.ne.symm))
      have HC4 := Lib.hid (HC.out.fr hF (by simp; exact Bk.ne HC.out HI.out.pm.2.1 (by decide)))
      have r0 := HR4.out.row
      rw [HI.out.len] at r0
      have HW4 := Lib.hid (w64_st HI.out.big k x (by have := HXS.out; omega))
      clear hP hK hF c0
      by_cases h8 : k < 8
      · have h8d : decide ((k : Int) < 8) = true := by simp; omega
        have h8i : (k : Int) < 8 := by omega
        have r1 := HR4.out.word k (by rw [HI.out.len]; exact h8)
        have r2 := HR4.out.free k
        have HFIN := Lib.hid (show TpI W (w4.setCell ⟨gw, k, none⟩ (.int .u64 x)) b g bw gw (stv zs k x) [] ∧ Bk (w4.setCell ⟨gw, k, none⟩ (.int .u64 x)) bc 145 [.int .i64 1, .int .i64 6] from by
          have f2 : Fr [gw] w4 (w4.setCell ⟨gw, k, none⟩ (.int .u64 x)) := (Fr.refl _ _).set (by simp) _
          refine ⟨⟨⟨HP4.out.1.fr f2 (by simp; exact Bk.ne HP4.out.1 HR4.out.2.1 (by decide)), HP4.out.2.1.fr f2 (by simp; exact HI.out.ne), HP4.out.2.2⟩, by rw [stv_nat]; exact HR4.out.set k x, HW4.out, by rw [st_len]; exact HI.out.len, HI.out.ne, HI.out.at', by simp, by simp, by simp, (HI.out.fr.from HF4.out (fun i hi hl => by rw [List.mem_singleton.1 hi] at hl; have := HI.out.at'; omega)).from f2 (fun i hi hl => by rw [List.mem_singleton.1 hi] at hl; have := HI.out.at'; omega)⟩, HC4.out.fr f2 (by simp; exact Bk.ne HC4.out HR4.out.2.1 (by decide))⟩)
        clear h8
        go_wp2_with fail
        go_roundw
        case rel => exact ⟨k + 1, by omega, by go_num, _, HFIN.out.1, HFIN.out.2⟩
        case measure => simp [intOf]; omega
      · obtain rfl : k = 8 := by omega
        have HFIN := Lib.hid (show TpI W w4 b g bw gw zs [] from ⟨by have h := HP4.out; rw [show stv zs ((8 : Nat) : Int) x = zs from list8 HI.out.len x] at h; exact h, HR4.out, HI.out.big, HI.out.len, HI.out.ne, HI.out.at', by simp, by simp, by simp, HI.out.fr.from HF4.out (fun i hi hl => by rw [List.mem_singleton.1 hi] at hl; have := HI.out.at'; omega)⟩)
        clear h8
        go_wp2_with fail
        go_roundw
        case rel => exact ⟨9, by omega, by go_num, _, HFIN.out, HC4.out⟩
        case measure => simp [intOf]; omega
    · obtain rfl : k = A.length := by omega
      clear hlt hk
      have HRO := Lib.hid (show wr.ownsRow W.heap.size 153 5 (.slice none 0 0) 0 (opsC []) from World.ownsRow_nil _ _ _ _)
      go_wp2_with fail
      go_loopw [14, 66] (fun v i wr => ∃ k : Nat, k ≤ K.length ∧ i = .int .i64 k ∧ ∃ L : List OpE, L.length = k ∧ TpI W wr b g bw gw zs L ∧ wr.ownsRow W.heap.size 153 5 v k (opsC L) ∧ Bk wr bc 145 [.int .i64 1, .int .i64 6])
        (fun _ i _ => K.length - (intOf i).toNat)
      case atStart => exact ⟨0, Nat.zero_le _, rfl, [], rfl, HI.out, HRO.out, HC.out⟩
      case round =>
        clear HI HC HRO
        obtain ⟨k, hk, rfl, L, hLk, hI, hR, hC⟩ := hrel
        have HI := Lib.hid hI
        have HR := Lib.hid hR
        have HC := Lib.hid hC
        have HLK := Lib.hid hLk
        clear hI hR hC hLk
        have t0 : wr.cell? ⟨bc, 0, none⟩ = some (.int .i64 1) := HC.out.cell 0
        have t1 : wr.cell? ⟨bc, 1, none⟩ = some (.int .i64 6) := HC.out.cell 1
        by_cases hlt : k < K.length
        · obtain ⟨kb, ko, rfl, hd⟩ := HK.out (by omega)
          have c0 := keepc (hd k hlt) HI.out.fr.below
          have hki : (k : Int) < K.length := by omega
          clear hd
          generalize intAt K k = kd at *
          have NEXT := fun (vv : Int) => Lib.hid (begin_any kd vv wr)
          by_cases hn : k < N.length
          · obtain ⟨nb, no, rfl, hd⟩ := HN.out (by omega)
            have c1 := keepc (hd k hn) HI.out.fr.below
            have hnd : decide ((k : Int) < N.length) = true := by simp; omega
            clear hd
            generalize intAt N k = vv at *
            go_wp2_with fail
            refine (NEXT vv).out.mono ?_
            rintro e w5 ⟨u0, u1, u2, u3, u4, rfl, HU, hp, hr, hB⟩
            have HI5 := Lib.hid (HI.out.add (e := ⟨ops0 kd vv, wr.heap.size + 5, wr.heap.size + 3⟩) hB (fun _ => .inl ⟨rfl, rfl⟩) hp hr (by simp) (by simp))
            have HR5 := Lib.hid (own_below HR.out hB)
            have HC5 := Lib.hid (HC.out.below hB)
            clear hp hr hB NEXT c0 t0 t1
            go_wp2_with (at_builtin; refine wpList_append_own _ rfl _ _ 146 rfl W.heap.size 153 i0 (.agg #[.pointer none, .pointer none, .pointer none, .pointer none, .pointer none]) 5 40 Try.underlying146 hi hz0 hz1 hz2 rfl (by decide) _ _ _ rfl (HR5.out.alloc _) ⟨w5.heap.size, 0, none⟩ 1 1 [u0, u1, u2, u3, u4] rfl rfl ?c1 ?c2 ?c3 ?c4 ?c5 ?_)
            case c1 =>
              intro j u hu
              rw [Addr.add_lit, Nat.zero_add, (Bk.new w5 153 [u0, u1, u2, u3, u4]).cell]
              exact hu
            case c2 => intro u hu; exact opc_one _ _ _ u (by rw [HU.out]; exact hu)
            case c3 => unfold maxLen; omega
            case c4 => omega
            case c5 => have := HI5.out.fr.size; simp; omega
            intro v' w6 hown' hgrow _
            have HI6 := Lib.hid (HI5.out.grow HR5.out hgrow)
            have HC6 := Lib.hid (HC5.out.fr (fr_grown hgrow) (own_ne HR5.out HC5.out (by decide)))
            have HR6 := Lib.hid (show w6.ownsRow W.heap.size 153 5 v' (k + 1) (opsC (L ++ [⟨ops0 kd vv, wr.heap.size + 5, wr.heap.size + 3⟩])) by rw [opsC_snoc]; show w6.ownsRow _ _ _ _ _ (opsC L ++ opc kd (wr.heap.size + 5) (wr.heap.size + 3)); rw [HU.out]; exact hown')
            clear hown' hgrow
            go_wp2_with fail
            go_roundw
            case rel => exact ⟨k + 1, by omega, by go_num, _, by rw [List.length_append, HLK.out]; rfl, HI6.out, HR6.out, HC6.out⟩
            case measure => simp [intOf]; omega
          · have hnd : decide ((k : Int) < N.length) = false := by simp; omega
            obtain ⟨vv, hvv⟩ : ∃ vv : Int, vv = 0 := ⟨_, rfl⟩
            go_wp2_with fail
            rw [← hvv]
            clear hvv
            refine (NEXT vv).out.mono ?_
            rintro e w5 ⟨u0, u1, u2, u3, u4, rfl, HU, hp, hr, hB⟩
            have HI5 := Lib.hid (HI.out.add (e := ⟨ops0 kd vv, wr.heap.size + 5, wr.heap.size + 3⟩) hB (fun _ => .inl ⟨rfl, rfl⟩) hp hr (by simp) (by simp))
            have HR5 := Lib.hid (own_below HR.out hB)
            have HC5 := Lib.hid (HC.out.below hB)
            clear hp hr hB NEXT c0 t0 t1
            go_wp2_with (at_builtin; refine wpList_append_own _ rfl _ _ 146 rfl W.heap.size 153 i0 (.agg #[.pointer none, .pointer none, .pointer none, .pointer none, .pointer none]) 5 40 Try.underlying146 hi hz0 hz1 hz2 rfl (by decide) _ _ _ rfl (HR5.out.alloc _) ⟨w5.heap.size, 0, none⟩ 1 1 [u0, u1, u2, u3, u4] rfl rfl ?c1 ?c2 ?c3 ?c4 ?c5 ?_)
            case c1 =>
              intro j u hu
              rw [Addr.add_lit, Nat.zero_add, (Bk.new w5 153 [u0, u1, u2, u3, u4]).cell]
              exact hu
            case c2 => intro u hu; exact opc_one _ _ _ u (by rw [HU.out]; exact hu)
            case c3 => unfold maxLen; omega
            case c4 => omega
            case c5 => have := HI5.out.fr.size; simp; omega
            intro v' w6 hown' hgrow _
            have HI6 := Lib.hid (HI5.out.grow HR5.out hgrow)
            have HC6 := Lib.hid (HC5.out.fr (fr_grown hgrow) (own_ne HR5.out HC5.out (by decide)))
            have HR6 := Lib.hid (show w6.ownsRow W.heap.size 153 5 v' (k + 1) (opsC (L ++ [⟨ops0 kd vv, wr.heap.size + 5, wr.heap.size + 3⟩])) by rw [opsC_snoc]; show w6.ownsRow _ _ _ _ _ (opsC L ++ opc kd (wr.heap.size + 5) (wr.heap.size + 3)); rw [HU.out]; exact hown')
            clear hown' hgrow
            go_wp2_with fail
            go_roundw
            case rel => exact ⟨k + 1, by omega, by go_num, _, by rw [List.length_append, HLK.out]; rfl, HI6.out, HR6.out, HC6.out⟩
            case measure => simp [intOf]; omega
        · obtain rfl : k = K.length := by omega
          obtain ⟨ov, cv, rfl⟩ := own_slice HR.out
          clear hlt hk
          go_wp2_with fail
          go_loopw [90] (fun i wr => ∃ k : Nat, k ≤ O.length ∧ i = .int .i64 k ∧ ∃ zs L, L.length = K.length ∧ TpI W wr b g bw gw zs L ∧ wr.ownsRow W.heap.size 153 5 (.slice ov K.length cv) K.length (opsC L) ∧ Bk wr bc 145 [.int .i64 1, .int .i64 6])
            (fun i _ => O.length - (intOf i).toNat)
          case atStart => exact ⟨0, Nat.zero_le _, rfl, zs, L, HLK.out, HI.out, HR.out, HC.out⟩
          case round =>
            clear HI HR HC HLK t0 t1
            obtain ⟨k, hk, rfl, zs, L, hLk, hI, hR, hC⟩ := hrel
            have HI := Lib.hid hI
            have HR := Lib.hid hR
            have HC := Lib.hid hC
            have HLK := Lib.hid hLk
            clear hI hC hLk
            by_cases hlt : k < O.length
            · obtain ⟨ob, of, rfl, hd⟩ := HO.out (by omega)
              obtain ⟨hd0, hd1, hd2⟩ := hd k hlt
              have c0 := keepc hd0 HI.out.fr.below
              have hki : (k : Int) < O.length := by omega
              clear hd hd0
              generalize intAt O k = ov1 at *
              by_cases h0 : 0 < K.length
              · have h0d : decide ((0 : Int) < K.length) = true := decide_eq_true (by omega)
                obtain ⟨i, hid⟩ : ∃ i : Nat, ov1 % K.length = (i : Int) := ⟨(ov1 % K.length).toNat, (Int.toNat_of_nonneg (Int.emod_nonneg ov1 (show (K.length : Int) ≠ 0 by omega))).symm⟩
                have hiK : i < K.length := by have := Int.emod_lt_of_pos ov1 (show (0 : Int) < K.length by omega); rw [hid] at this; omega
                have hrem : ov1.tmod K.length = (i : Int) := by rw [Int.tmod_eq_emod_of_nonneg hd1]; exact hid
                have hcl := fun j (hj : j < 5) => opsC_at L i (by rw [HLK.out]; exact hiK) j hj
                obtain ⟨lb, cap2, e, hlb, hrow⟩ := row_at5 hR h0
                injection e with e1 e2 e3
                subst e1 e3
                obtain ⟨u0, u1, u2, u3, u4, hu⟩ : ∃ u0 u1 u2 u3 u4, opc (opAt L i).x.k (opAt L i).pb (opAt L i).rb = [u0, u1, u2, u3, u4] := ⟨_, _, _, _, _, rfl⟩
                have HU := Lib.hid hu
                rw [hu] at hcl
                have s0 := hrow (i * 5 + 0) _ (hcl 0 (by decide))
                have s1 := hrow (i * 5 + 1) _ (hcl 1 (by decide))
                have s2 := hrow (i * 5 + 2) _ (hcl 2 (by decide))
                have s3 := hrow (i * 5 + 3) _ (hcl 3 (by decide))
                have s4 := hrow (i * 5 + 4) _ (hcl 4 (by decide))
                rw [Nat.add_zero] at s0
                have hiL : i < L.length := by rw [HLK.out]; exact hiK
                have HEL := Lib.hid (HI.out.el _ (opAt_mem hiL))
                have hii : (i : Int) < K.length := by omega
                clear hcl hrow hu hR e2
                go_wp2_with fail
                refine (move_u u0 u1 u2 u3 u4 _ _ _ b g bw gw zs _ HU.out HEL.out.1 HI.out.big HEL.out.2.1 HEL.out.2.2.1 HI.out.pm HI.out.rm HI.out.ne).mono ?_
                rintro e w7 ⟨rfl, hp, hr, hm, hw, hf⟩
                have HI7 := Lib.hid (HI.out.move hiL (opX_ok HEL.out.1) (w64_op HI.out.big _ _ _) (by rw [op_len]; exact HI.out.len) hp hr hm hw hf)
                have HR7 := Lib.hid (own_fr HR.out hf (fun q hq hm => by
                  have hq := rowB_mem.2 hq
                  simp only [List.mem_cons, List.not_mem_nil, or_false] at hm
                  rcases hm with rfl | rfl | rfl | rfl
                  · exact own_pbk HR.out HEL.out.2.1 hq
                  · exact own_ne HR.out HEL.out.2.2.1 (by decide) hq
                  · exact own_ne HR.out HI.out.pm.2.1 (by decide) hq
                  · exact own_ne HR.out HI.out.rm.2.1 (by decide) hq))
                have HC7 := Lib.hid (HC.out.fr hf (by
                  simp only [List.mem_cons, List.not_mem_nil, or_false, not_or]
                  exact ⟨fun e => pbk_ne HEL.out.2.1 HC.out (by decide) e.symm, Bk.ne HC.out HEL.out.2.2.1 (by decide), Bk.ne HC.out HI.out.pm.2.1 (by decide), Bk.ne HC.out HI.out.rm.2.1 (by decide)⟩))
                have HSL := Lib.hid (opsC_set L i (opX (adr (opAt L i).x.v) 6 (opAt L i).x zs) hiL (opX_kv _ _ _ _).1)
                have HLN := Lib.hid (show (L.set i ⟨opX (adr (opAt L i).x.v) 6 (opAt L i).x zs, (opAt L i).pb, (opAt L i).rb⟩).length = K.length by rw [List.length_set]; exact HLK.out)
                clear hp hr hm hw hf s0 s1 s2 s3 s4
                go_wp2_with fail
                go_roundw
                case rel => exact ⟨k + 1, by omega, by go_num, _, _, HLN.out, HI7.out, by rw [HSL.out]; exact HR7.out, HC7.out⟩
                case measure => simp [intOf]; omega
              · have h0d : decide ((0 : Int) < K.length) = false := decide_eq_false (by omega)
                clear hR
                go_wp2_with fail
                go_roundw
                case rel => exact ⟨k + 1, by omega, by go_num, _, _, HLK.out, HI.out, HR.out, HC.out⟩
                case measure => simp [intOf]; omega
            · obtain rfl : k = O.length := by omega
              clear hR hlt hk
              have t0 : wr.drew.cell? ⟨bc, 0, none⟩ = some (.int .i64 1) := HC.out.cell 0
              have t1 : wr.drew.cell? ⟨bc, 1, none⟩ = some (.int .i64 6) := HC.out.cell 1
              have t2 : wr.drew.cell? ⟨bw, 0, none⟩ = some (.slice (some ⟨gw, 0, none⟩) 8 8) := by have h := HI.out.rm.row; rw [HI.out.len] at h; exact h
              have t3 : wr.drew.cell? ⟨gw, 6, none⟩ = some (.int .u64 (ldv zs 6)) := HI.out.rm.word 6 (by rw [HI.out.len]; decide)
              have t4 : wr.drew.cell? ⟨gw, 3, none⟩ = some (.int .u64 (ldv zs 3)) := HI.out.rm.word 3 (by rw [HI.out.len]; decide)
              have hzl : zs.length = 8 := HI.out.len
              go_wp2_with fail
              refine wp_region_held_drew (S := (fun w' => (w'.cell? ⟨bc, 0, none⟩ = some (.int .i64 1) ∧ w'.cell? ⟨bc, 1, none⟩ = some (.int .i64 6) ∧ w'.cell? ⟨bw, 0, none⟩ = some (.slice (some ⟨gw, 0, none⟩) 8 8) ∧ w'.cell? ⟨gw, 6, none⟩ = some (.int .u64 (ldv zs 6)) ∧ w'.cell? ⟨gw, 3, none⟩ = some (.int .u64 (ldv zs 3))) ∧ Below wr.heap.size wr w')) (by kernel_rfl) ?_ (fun hHeld => ?_)
              · exact ⟨⟨t0, t1, t2, t3, t4⟩, by first | exact (Below.refl _ _).drew | exact bel_drewN (Below.refl _ _) 1 | exact ⟨rfl, rfl, rfl, Nat.le_refl _, fun _ _ => rfl⟩⟩
              refine take_at 0 (v := ?_) (some 112) rfl rfl (by kernel_rfl) (by kernel_rfl) (by kernel_rfl) (fun _ _ _ h => h) (Or.inl ⟨by rfl, ?_⟩) hHeld ?_
              rotate_left
              · (intro w hSw; (try dsimp only at hSw); go_simp; (try with_reducible rfl))
              simp only [Act.put, List.setIfInBounds_toArray, List.set_cons_zero, List.set_cons_succ]
              refine take_at 1 (v := ?_) (some 113) rfl rfl (by kernel_rfl) (by kernel_rfl) (by kernel_rfl) (fun _ _ _ h => h) (Or.inl ⟨by rfl, ?_⟩) hHeld ?_
              rotate_left
              · (intro w hSw; (try dsimp only at hSw); go_simp; (try with_reducible rfl))
              simp only [Act.put, List.setIfInBounds_toArray, List.set_cons_zero, List.set_cons_succ]
              refine take_at 3 (v := ?_) (some 115) rfl rfl (by kernel_rfl) (by kernel_rfl) (by kernel_rfl) (fun _ _ _ h => h) (Or.inl ⟨by rfl, ?_⟩) hHeld ?_
              rotate_left
              · (intro w hSw; (try dsimp only at hSw); go_simp; (try with_reducible rfl))
              simp only [Act.put, List.setIfInBounds_toArray, List.set_cons_zero, List.set_cons_succ]
              refine take_at 4 (v := ?_) (some 116) rfl rfl (by kernel_rfl) (by kernel_rfl) (by kernel_rfl) (fun _ _ _ h => h) (Or.inl ⟨by rfl, ?_⟩) hHeld ?_
              rotate_left
              · (intro w hSw; (try dsimp only at hSw); go_simp; (try with_reducible rfl))
              simp only [Act.put, List.setIfInBounds_toArray, List.set_cons_zero, List.set_cons_succ]
              refine take_at 5 (v := ?_) (some 117) rfl rfl (by kernel_rfl) (by kernel_rfl) (by kernel_rfl) (fun _ _ _ h => h) (Or.inl ⟨by rfl, ?_⟩) hHeld ?_
              rotate_left
              · (intro w hSw; (try dsimp only at hSw); go_simp; (try with_reducible rfl))
              simp only [Act.put, List.setIfInBounds_toArray, List.set_cons_zero, List.set_cons_succ]
              refine take_at 6 (v := ?_) (some 118) rfl rfl (by kernel_rfl) (by kernel_rfl) (by kernel_rfl) (fun _ _ _ h => h) (Or.inl ⟨by rfl, ?_⟩) hHeld ?_
              rotate_left
              · (intro w hSw; (try dsimp only at hSw); go_simp; (try with_reducible rfl))
              simp only [Act.put, List.setIfInBounds_toArray, List.set_cons_zero, List.set_cons_succ]
              refine wpAnyH_ready (rs := [2]) (by kernel_rfl) (by simp) ?_
              refine AllReadyH.cons rfl (fun K hK => ?_) AllReadyH.nil
              go_simp
              refine (all_any b g zs _ (HI.out.pm.below hHeld.2)).mono ?_; rintro e v6 ⟨va, rfl, hU, hB⟩; have HU := Lib.hid hU; clear hU; have HUW := Lib.hid (show Us v6 (.slice (some ⟨gw, 0, none⟩) 8 8) zs from by have h := Us.of_bk (HI.out.rm.below (bel_then hHeld.2 hB)).2.1 8; rwa [HI.out.len] at h)
              go_wp2_with fail
              refine hK.out _ _ ?_ (fun hHeld => ?_)
              · exact ⟨⟨keepc hHeld.1.1 hB, keepc hHeld.1.2.1 hB, keepc hHeld.1.2.2.1 hB, keepc hHeld.1.2.2.2.1 hB, keepc hHeld.1.2.2.2.2 hB⟩, bel_then hHeld.2 hB⟩
              clear hK K hB
              try simp only [Act.put, List.setIfInBounds_toArray, List.set_cons_zero, List.set_cons_succ]
              refine wpAnyH_ready (rs := [7]) (by kernel_rfl) (by simp) ?_
              refine AllReadyH.cons rfl (fun K hK => ?_) AllReadyH.nil
              go_simp
              refine (us_any _ _ zs zs _ HU.out HUW.out (by omega) (by omega)).mono ?_; rintro e v7 ⟨rfl, nq, hww⟩; subst v7; have hB := bel_drewN (Below.refl v6.heap.size v6) nq; rw [show decide (zs = zs) = true from decide_eq_true rfl]
              go_wp2_with fail
              refine hK.out _ _ ?_ (fun hHeld => ?_)
              · exact ⟨⟨keepc hHeld.1.1 hB, keepc hHeld.1.2.1 hB, keepc hHeld.1.2.2.1 hB, keepc hHeld.1.2.2.2.1 hB, keepc hHeld.1.2.2.2.2 hB⟩, bel_then hHeld.2 hB⟩
              clear hK K hB
              try simp only [Act.put, List.setIfInBounds_toArray, List.set_cons_zero, List.set_cons_succ]
              refine take_at 8 (v := ?_) (some 120) rfl rfl (by kernel_rfl) (by kernel_rfl) (by kernel_rfl) (fun _ _ _ h => h) (Or.inl ⟨by rfl, ?_⟩) hHeld ?_
              rotate_left
              · (intro w hSw; (try dsimp only at hSw); go_simp; (try with_reducible rfl))
              simp only [Act.put, List.setIfInBounds_toArray, List.set_cons_zero, List.set_cons_succ]
              refine take_at 9 (v := ?_) (some 121) rfl rfl (by kernel_rfl) (by kernel_rfl) (by kernel_rfl) (fun _ _ _ h => h) (Or.inl ⟨by rfl, ?_⟩) hHeld ?_
              rotate_left
              · (intro w hSw; (try dsimp only at hSw); go_simp; (try with_reducible rfl))
              simp only [Act.put, List.setIfInBounds_toArray, List.set_cons_zero, List.set_cons_succ]
              refine take_at 10 (v := ?_) (some 122) rfl rfl (by kernel_rfl) (by kernel_rfl) (by kernel_rfl) (fun _ _ _ h => h) (Or.inl ⟨by rfl, ?_⟩) hHeld ?_
              rotate_left
              · (intro w hSw; (try dsimp only at hSw); go_simp; (try with_reducible rfl))
              simp only [Act.put, List.setIfInBounds_toArray, List.set_cons_zero, List.set_cons_succ]
              refine take_at 11 (v := ?_) (some 123) rfl rfl (by kernel_rfl) (by kernel_rfl) (by kernel_rfl) (fun _ _ _ h => h) (Or.inl ⟨by rfl, ?_⟩) hHeld ?_
              rotate_left
              · (intro w hSw; (try dsimp only at hSw); go_simp; (try with_reducible rfl))
              simp only [Act.put, List.setIfInBounds_toArray, List.set_cons_zero, List.set_cons_succ]
              refine take_at 13 (v := ?_) (some 125) rfl rfl (by kernel_rfl) (by kernel_rfl) (by kernel_rfl) (fun _ _ _ h => h) (Or.inl ⟨by rfl, ?_⟩) hHeld ?_
              rotate_left
              · (intro w hSw; (try dsimp only at hSw); go_simp; (try with_reducible rfl))
              simp only [Act.put, List.setIfInBounds_toArray, List.set_cons_zero, List.set_cons_succ]
              refine take_at 14 (v := ?_) (some 126) rfl rfl (by kernel_rfl) (by kernel_rfl) (by kernel_rfl) (fun _ _ _ h => h) (Or.inl ⟨by rfl, ?_⟩) hHeld ?_
              rotate_left
              · (intro w hSw; (try dsimp only at hSw); go_simp; (try with_reducible rfl))
              simp only [Act.put, List.setIfInBounds_toArray, List.set_cons_zero, List.set_cons_succ]
              refine take_at 15 (v := ?_) (some 127) rfl rfl (by kernel_rfl) (by kernel_rfl) (by kernel_rfl) (fun _ _ _ h => h) (Or.inl ⟨by rfl, ?_⟩) hHeld ?_
              rotate_left
              · (intro w hSw; (try dsimp only at hSw); go_simp; (try with_reducible rfl))
              simp only [Act.put, List.setIfInBounds_toArray, List.set_cons_zero, List.set_cons_succ]
              refine take_at 16 (v := ?_) (some 128) rfl rfl (by kernel_rfl) (by kernel_rfl) (by kernel_rfl) (fun _ _ _ h => h) (Or.inl ⟨by rfl, ?_⟩) hHeld ?_
              rotate_left
              · (intro w hSw; (try dsimp only at hSw); go_simp; (try with_reducible rfl))
              simp only [Act.put, List.setIfInBounds_toArray, List.set_cons_zero, List.set_cons_succ]
              refine take_at 17 (v := ?_) (some 129) rfl rfl (by kernel_rfl) (by kernel_rfl) (by kernel_rfl) (fun _ _ _ h => h) (Or.inl ⟨by rfl, ?_⟩) hHeld ?_
              rotate_left
              · (intro w hSw; (try dsimp only at hSw); go_simp; (try with_reducible rfl))
              simp only [Act.put, List.setIfInBounds_toArray, List.set_cons_zero, List.set_cons_succ]
              refine take_at 18 (v := ?_) (some 130) rfl rfl (by kernel_rfl) (by kernel_rfl) (by kernel_rfl) (fun _ _ _ h => h) (Or.inl ⟨by rfl, ?_⟩) hHeld ?_
              rotate_left
              · (intro w hSw; (try dsimp only at hSw); go_simp; (try with_reducible rfl))
              simp only [Act.put, List.setIfInBounds_toArray, List.set_cons_zero, List.set_cons_succ]
              refine take_at 19 (v := ?_) (some 131) rfl rfl (by kernel_rfl) (by kernel_rfl) (by kernel_rfl) (fun _ _ _ h => h) (Or.inl ⟨by rfl, ?_⟩) hHeld ?_
              rotate_left
              · (intro w hSw; (try dsimp only at hSw); go_simp; (try with_reducible rfl))
              simp only [Act.put, List.setIfInBounds_toArray, List.set_cons_zero, List.set_cons_succ]
              refine wpAnyH_ready (rs := [12]) (by kernel_rfl) (by simp) ?_
              refine AllReadyH.cons rfl (fun K hK => ?_) AllReadyH.nil
              go_simp
              refine (number_any 1 6 b g zs _ (HI.out.pm.below hHeld.2)).mono ?_; rintro e v8 ⟨rfl, hB⟩; rw [IntWalk.i64_left]
              go_wp2_with fail
              refine hK.out _ _ ?_ (fun hHeld => ?_)
              · exact ⟨⟨keepc hHeld.1.1 hB, keepc hHeld.1.2.1 hB, keepc hHeld.1.2.2.1 hB, keepc hHeld.1.2.2.2.1 hB, keepc hHeld.1.2.2.2.2 hB⟩, bel_then hHeld.2 hB⟩
              clear hK K hB
              try simp only [Act.put, List.setIfInBounds_toArray, List.set_cons_zero, List.set_cons_succ]
              refine take_at 20 (v := ?_) (some 132) rfl rfl (by kernel_rfl) (by kernel_rfl) (by kernel_rfl) (fun _ _ _ h => h) (Or.inl ⟨by rfl, ?_⟩) hHeld ?_
              rotate_left
              · (intro w hSw; (try dsimp only at hSw); go_simp; (try with_reducible rfl))
              simp only [Act.put, List.setIfInBounds_toArray, List.set_cons_zero, List.set_cons_succ]
              refine take_at 21 (v := ?_) (some 133) rfl rfl (by kernel_rfl) (by kernel_rfl) (by kernel_rfl) (fun _ _ _ h => h) (Or.inl ⟨by rfl, ?_⟩) hHeld ?_
              rotate_left
              · (intro w hSw; (try dsimp only at hSw); go_simp; (try with_reducible rfl))
              simp only [Act.put, List.setIfInBounds_toArray, List.set_cons_zero, List.set_cons_succ]
              refine take_at 22 (v := ?_) (some 134) rfl rfl (by kernel_rfl) (by kernel_rfl) (by kernel_rfl) (fun _ _ _ h => h) (Or.inl ⟨by rfl, ?_⟩) hHeld ?_
              rotate_left
              · (intro w hSw; (try dsimp only at hSw); go_simp; (try with_reducible rfl))
              simp only [Act.put, List.setIfInBounds_toArray, List.set_cons_zero, List.set_cons_succ]
              refine take_at 23 (v := ?_) (some 135) rfl rfl (by kernel_rfl) (by kernel_rfl) (by kernel_rfl) (fun _ _ _ h => h) (Or.inl ⟨by rfl, ?_⟩) hHeld ?_
              rotate_left
              · (intro w hSw; (try dsimp only at hSw); go_simp; (try with_reducible rfl))
              simp only [Act.put, List.setIfInBounds_toArray, List.set_cons_zero, List.set_cons_succ]
              refine take_at 24 (v := ?_) (some 136) rfl rfl (by kernel_rfl) (by kernel_rfl) (by kernel_rfl) (fun _ _ _ h => h) (Or.inl ⟨by rfl, ?_⟩) hHeld ?_
              rotate_left
              · (intro w hSw; (try dsimp only at hSw); go_simp; (try with_reducible rfl))
              simp only [Act.put, List.setIfInBounds_toArray, List.set_cons_zero, List.set_cons_succ]
              refine take_at 25 (v := ?_) (some 137) rfl rfl (by kernel_rfl) (by kernel_rfl) (by kernel_rfl) (fun _ _ _ h => h) (Or.inl ⟨by rfl, ?_⟩) hHeld ?_
              rotate_left
              · (intro w hSw; (try dsimp only at hSw); go_simp; (try with_reducible rfl))
              simp only [Act.put, List.setIfInBounds_toArray, List.set_cons_zero, List.set_cons_succ]
              refine take_at 27 (v := ?_) (some 139) rfl rfl (by kernel_rfl) (by kernel_rfl) (by kernel_rfl) (fun _ _ _ h => h) (Or.inl ⟨by rfl, ?_⟩) hHeld ?_
              rotate_left
              · (intro w hSw; (try dsimp only at hSw); go_simp; (try with_reducible rfl))
              simp only [Act.put, List.setIfInBounds_toArray, List.set_cons_zero, List.set_cons_succ]
              refine take_at 28 (v := ?_) (some 140) rfl rfl (by kernel_rfl) (by kernel_rfl) (by kernel_rfl) (fun _ _ _ h => h) (Or.inl ⟨by rfl, ?_⟩) hHeld ?_
              rotate_left
              · (intro w hSw; (try dsimp only at hSw); go_simp; (try with_reducible rfl))
              simp only [Act.put, List.setIfInBounds_toArray, List.set_cons_zero, List.set_cons_succ]
              refine take_at 29 (v := ?_) (some 141) rfl rfl (by kernel_rfl) (by kernel_rfl) (by kernel_rfl) (fun _ _ _ h => h) (Or.inl ⟨by rfl, ?_⟩) hHeld ?_
              rotate_left
              · (intro w hSw; (try dsimp only at hSw); go_simp; (try with_reducible rfl))
              simp only [Act.put, List.setIfInBounds_toArray, List.set_cons_zero, List.set_cons_succ]
              refine take_at 30 (v := ?_) (some 142) rfl rfl (by kernel_rfl) (by kernel_rfl) (by kernel_rfl) (fun _ _ _ h => h) (Or.inl ⟨by rfl, ?_⟩) hHeld ?_
              rotate_left
              · (intro w hSw; (try dsimp only at hSw); go_simp; (try with_reducible rfl))
              simp only [Act.put, List.setIfInBounds_toArray, List.set_cons_zero, List.set_cons_succ]
              refine take_at 31 (v := ?_) (some 143) rfl rfl (by kernel_rfl) (by kernel_rfl) (by kernel_rfl) (fun _ _ _ h => h) (Or.inl ⟨by rfl, ?_⟩) hHeld ?_
              rotate_left
              · (intro w hSw; (try dsimp only at hSw); go_simp; (try with_reducible rfl))
              simp only [Act.put, List.setIfInBounds_toArray, List.set_cons_zero, List.set_cons_succ]
              refine take_at 32 (v := ?_) (some 144) rfl rfl (by kernel_rfl) (by kernel_rfl) (by kernel_rfl) (fun _ _ _ h => h) (Or.inl ⟨by rfl, ?_⟩) hHeld ?_
              rotate_left
              · (intro w hSw; (try dsimp only at hSw); go_simp; (try with_reducible rfl))
              simp only [Act.put, List.setIfInBounds_toArray, List.set_cons_zero, List.set_cons_succ]
              refine take_at 33 (v := ?_) (some 145) rfl rfl (by kernel_rfl) (by kernel_rfl) (by kernel_rfl) (fun _ _ _ h => h) (Or.inl ⟨by rfl, ?_⟩) hHeld ?_
              rotate_left
              · (intro w hSw; (try dsimp only at hSw); go_simp; (try with_reducible rfl))
              simp only [Act.put, List.setIfInBounds_toArray, List.set_cons_zero, List.set_cons_succ]
              refine wpAnyH_ready (rs := [26]) (by kernel_rfl) (by simp) ?_
              refine AllReadyH.cons rfl (fun K hK => ?_) AllReadyH.nil
              go_simp
              refine (waits_any 1 6 2 b g zs _ (HI.out.pm.below hHeld.2) (by decide) (by decide)).mono ?_; rintro e v9 ⟨rfl, hB⟩; rw [show ldv zs (1 + 2) = ldv zs 3 from rfl]
              go_wp2_with fail
              refine hK.out _ _ ?_ (fun hHeld => ?_)
              · exact ⟨⟨keepc hHeld.1.1 hB, keepc hHeld.1.2.1 hB, keepc hHeld.1.2.2.1 hB, keepc hHeld.1.2.2.2.1 hB, keepc hHeld.1.2.2.2.2 hB⟩, bel_then hHeld.2 hB⟩
              clear hK K hB
              try simp only [Act.put, List.setIfInBounds_toArray, List.set_cons_zero, List.set_cons_succ]
              refine take_at 34 (v := ?_) (some 146) rfl rfl (by kernel_rfl) (by kernel_rfl) (by kernel_rfl) (fun _ _ _ h => h) (Or.inl ⟨by rfl, ?_⟩) hHeld ?_
              rotate_left
              · (intro w hSw; (try dsimp only at hSw); go_simp; (try with_reducible rfl))
              simp only [Act.put, List.setIfInBounds_toArray, List.set_cons_zero, List.set_cons_succ]
              refine take_at 35 (v := ?_) (some 147) rfl rfl (by kernel_rfl) (by kernel_rfl) (by kernel_rfl) (fun _ _ _ h => h) (Or.inl ⟨by rfl, ?_⟩) hHeld ?_
              rotate_left
              · (intro w hSw; (try dsimp only at hSw); go_simp; (try with_reducible rfl))
              simp only [Act.put, List.setIfInBounds_toArray, List.set_cons_zero, List.set_cons_succ]
              refine take_at 36 (v := ?_) (some 148) rfl rfl (by kernel_rfl) (by kernel_rfl) (by kernel_rfl) (fun _ _ _ h => h) (Or.inl ⟨by rfl, ?_⟩) hHeld ?_
              rotate_left
              · (intro w hSw; (try dsimp only at hSw); go_simp; (try with_reducible rfl))
              simp only [Act.put, List.setIfInBounds_toArray, List.set_cons_zero, List.set_cons_succ]
              refine take_at 37 (v := ?_) (some 149) rfl rfl (by kernel_rfl) (by kernel_rfl) (by kernel_rfl) (fun _ _ _ h => h) (Or.inl ⟨by rfl, ?_⟩) hHeld ?_
              rotate_left
              · (intro w hSw; (try dsimp only at hSw); go_simp; (try with_reducible rfl))
              simp only [Act.put, List.setIfInBounds_toArray, List.set_cons_zero, List.set_cons_succ]
              refine take_at 38 (v := ?_) (some 150) rfl rfl (by kernel_rfl) (by kernel_rfl) (by kernel_rfl) (fun _ _ _ h => h) (Or.inl ⟨by rfl, ?_⟩) hHeld ?_
              rotate_left
              · (intro w hSw; (try dsimp only at hSw); go_simp; (try with_reducible rfl))
              simp only [Act.put, List.setIfInBounds_toArray, List.set_cons_zero, List.set_cons_succ]
              refine take_at 39 (v := ?_) (some 151) rfl rfl (by kernel_rfl) (by kernel_rfl) (by kernel_rfl) (fun _ _ _ h => h) (Or.inl ⟨by rfl, ?_⟩) hHeld ?_
              rotate_left
              · (intro w hSw; (try dsimp only at hSw); go_simp; (try with_reducible rfl))
              simp only [Act.put, List.setIfInBounds_toArray, List.set_cons_zero, List.set_cons_succ]
              refine wpAnyH_ready (rs := [40]) (by kernel_rfl) (by simp) ?_
              refine AllReadyH.cons rfl (fun K hK => ?_) AllReadyH.nil
              go_simp
              refine (waits_neg 1 6 (-1) _ _ (by decide)).mono ?_; rintro e v10 ⟨rfl, hB⟩
              go_wp2_with fail
              refine hK.out _ _ ?_ (fun hHeld => ?_)
              · exact ⟨⟨keepc hHeld.1.1 hB, keepc hHeld.1.2.1 hB, keepc hHeld.1.2.2.1 hB, keepc hHeld.1.2.2.2.1 hB, keepc hHeld.1.2.2.2.2 hB⟩, bel_then hHeld.2 hB⟩
              clear hK K hB
              try simp only [Act.put, List.setIfInBounds_toArray, List.set_cons_zero, List.set_cons_succ]
              refine take_at 41 (v := ?_) (some 153) rfl rfl (by kernel_rfl) (by kernel_rfl) (by kernel_rfl) (fun _ _ _ h => h) (Or.inl ⟨by rfl, ?_⟩) hHeld ?_
              rotate_left
              · (intro w hSw; (try dsimp only at hSw); go_simp; (try with_reducible rfl))
              simp only [Act.put, List.setIfInBounds_toArray, List.set_cons_zero, List.set_cons_succ]
              refine take_at 42 (v := ?_) (some 154) rfl rfl (by kernel_rfl) (by kernel_rfl) (by kernel_rfl) (fun _ _ _ h => h) (Or.inl ⟨by rfl, ?_⟩) hHeld ?_
              rotate_left
              · (intro w hSw; (try dsimp only at hSw); go_simp; (try with_reducible rfl))
              simp only [Act.put, List.setIfInBounds_toArray, List.set_cons_zero, List.set_cons_succ]
              refine take_at 43 (v := ?_) (some 8) rfl rfl (by kernel_rfl) (by kernel_rfl) (by kernel_rfl) (fun _ _ _ h => h) (Or.inl ⟨by rfl, ?_⟩) hHeld ?_
              rotate_left
              · (intro w hSw; (try dsimp only at hSw); go_simp; (try with_reducible rfl))
              simp only [Act.put, List.setIfInBounds_toArray, List.set_cons_zero, List.set_cons_succ]
              refine wpAnyH_done (by kernel_rfl) ?_ _
              go_split_ands

              have HBF := Lib.hid (show Below wr.heap.size wr _ from by assumption)
              go_wp2_with fail
              go_ret
              exact ⟨rfl, bel_then HI.out.fr.below HBF.out⟩


end Go.Proofs.Yteheckcflnogbaa
