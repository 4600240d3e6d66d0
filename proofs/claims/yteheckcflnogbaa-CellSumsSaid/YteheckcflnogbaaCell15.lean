/-
  soughlaw30.CellSums: its walk, sets of bits. Written by wip/gen/mkcell14.py.
-/
import Derived.Test.YteheckcflnogbaaCell14
import Derived.BigQuiet
namespace Go.Proofs.Yteheckcflnogbaa
open Go.RowKit

set_option maxHeartbeats 12800000 in
set_option maxRecDepth 100000 in
theorem cellSums_bits (what : Int) (hw3 : what ≠ 3) (pa ol : Option Addr) (na nl ca cl : Nat) (vp : Value) (A : List Nat) (ls : List (List Nat)) (L : List (Int × Int)) (W : World) (hna : na = A.length) (hnl : nl = ls.length) (hA : Ws W (.slice pa na ca) A) (hca : na ≤ ca) (hL : Lls W (.slice ol nl cl) ls) (hcl : nl ≤ cl) (hP : Picks W vp L) (ma : A.length ≤ 9223372036854775807) (ml : ls.length ≤ 9223372036854775807) :
    Calls Try.prog 13 #[.int .i64 what, .slice pa na ca, .slice ol nl cl, vp] W fun e w' => e = .returned (.bool true) ∧ Below W.heap.size W w' := by
  subst hna hnl

  obtain ⟨i0, xi, x0, x1, x2⟩ := info_parts pj30_info
  obtain ⟨j0, yi, y0, y1, y2⟩ := info_parts ma30_info
  have HA := Lib.hid hA
  have HL := Lib.hid hL
  have HRM := Lib.hid (show A.length ≤ ca ∧ ls.length ≤ cl from ⟨hca, hcl⟩)
  obtain ⟨pb, hLB, hpl⟩ := Picks.b hP
  have HP := Lib.hid hLB
  have HPL := Lib.hid hpl
  obtain ⟨po, pc, rfl, _⟩ := hLB
  obtain ⟨_, _, e, hlc⟩ := hL
  injection e with e1 e2 e3
  subst e1 e3
  obtain ⟨av, lb, lo, hlo, hlv⟩ := lls_vals hlc
  have HLO := Lib.hid hlo
  have HLV := Lib.hid hlv
  have HSA := Lib.hid (show small64 A from hA.1)
  have h3t : (what == 3) = false := by simp only [beq_eq_false_iff_ne, ne_eq]; exact hw3
  clear hA hP hca hcl hlc hlo hlv hpl e2
  cases hf : fewE (A.length : Nat) A ls with
  | false =>
    have HFW := Lib.hid hf
    clear hf
    go_enter Try.func13, Try.ntmps13
    go_wp2_with fail
    refine (awake30_any _).mono ?_
    rintro e w1 ⟨rfl, hB⟩
    have HB0 := Lib.hid hB
    have HA1 := Lib.hid (HA.out.below hB)
    have HL1 := Lib.hid (HL.out.below hB)
    clear hB
    go_wp2_with fail
    refine (few30_any (A.length : Nat) _ _ A ls _ HA1.out HL1.out ml).mono ?_
    rintro e w2 ⟨rfl, hB⟩
    have HB1 := Lib.hid (bel_then HB0.out hB)
    clear hB HB0 HA1 HL1
    rw [HFW.out]
    go_wp2_with fail
    go_ret
    exact ⟨rfl, HB1.out⟩
  | true =>
  obtain ⟨hl8, hw5, hA8, hls⟩ := few_yes hf
  have HFW := Lib.hid hf
  have HL8 := Lib.hid hl8
  have hA5 : A.length ≤ 5 := by omega
  clear hf hl8 hw5 hA8
  by_cases h2 : 200 < L.length
  · have d2 : decide ((200 : Int) < L.length) = true := by simp; omega
    go_enter Try.func13, Try.ntmps13
    go_wp2_with fail
    refine (awake30_any _).mono ?_
    rintro e w1 ⟨rfl, hB⟩
    have HB0 := Lib.hid hB
    have HA1 := Lib.hid (HA.out.below hB)
    have HL1 := Lib.hid (HL.out.below hB)
    clear hB
    go_wp2_with fail
    refine (few30_any (A.length : Nat) _ _ A ls _ HA1.out HL1.out ml).mono ?_
    rintro e w2 ⟨rfl, hB⟩
    have HB1 := Lib.hid (bel_then HB0.out hB)
    clear hB HB0 HA1 HL1
    rw [HFW.out]
    go_wp2_with fail
    go_ret
    exact ⟨rfl, HB1.out⟩
  have d2 : decide ((200 : Int) < L.length) = false := by simp; omega
  cases hi : isL what 1 with
  | false =>
    have HIS := Lib.hid hi
    clear hi
    go_enter Try.func13, Try.ntmps13
    go_wp2_with fail
    refine (awake30_any _).mono ?_
    rintro e w1 ⟨rfl, hB⟩
    have HB0 := Lib.hid hB
    have HA1 := Lib.hid (HA.out.below hB)
    have HL1 := Lib.hid (HL.out.below hB)
    clear hB
    go_wp2_with fail
    refine (few30_any (A.length : Nat) _ _ A ls _ HA1.out HL1.out ml).mono ?_
    rintro e w2 ⟨rfl, hB⟩
    have HB1 := Lib.hid (bel_then HB0.out hB)
    clear hB HB0 HA1 HL1
    rw [HFW.out]
    go_wp2_with fail
    refine (rlis_any what 1 _).mono ?_
    rintro e w3 ⟨rfl, hww⟩
    subst w3
    rw [HIS.out]
    go_wp2_with fail
    go_ret
    exact ⟨rfl, HB1.out⟩
  | true =>
  have HIS := Lib.hid hi
  have HWH := Lib.hid (isL_what hi)
  clear hi

  have HSV := Lib.hid (show ∀ k, k < A.length → semV what (at30 A k) from fun k _ => value_sem (width := 0) HSA.out (fun e => absurd e hw3) k)

  go_enter Try.func13, Try.ntmps13
  go_wp2_with fail
  refine (awake30_any _).mono ?_
  rintro e w1 ⟨rfl, hB⟩
  have HB0 := Lib.hid hB
  have HA1 := Lib.hid (HA.out.below hB)
  have HL1 := Lib.hid (HL.out.below hB)
  clear hB
  go_wp2_with fail
  refine (few30_any (A.length : Nat) _ _ A ls _ HA1.out HL1.out ml).mono ?_
  rintro e w2 ⟨rfl, hB⟩
  have HB1 := Lib.hid (bel_then HB0.out hB)
  clear hB HB0 HA1 HL1

  rw [HFW.out]
  go_wp2_with fail
  refine (rlis_any what 1 _).mono ?_
  rintro e w3 ⟨rfl, hww⟩
  subst w3

  rw [HIS.out]
  go_wp2_with fail

  have HC0 := Lib.hid (Bk.new w2 120 [.int .i64 0, .int .i64 what, .int .i64 A.length])
  have HBA := Lib.hid (HB1.out.alloc HB1.out.size (.cells #[.int .i64 0, .int .i64 what, .int .i64 A.length] 120))
  have hbs := HB1.out.size
  obtain ⟨cb, hcb⟩ : ∃ cb, cb = w2.heap.size := ⟨_, rfl⟩
  rw [← hcb] at HC0 hbs ⊢
  have HCB := Lib.hid (show W.heap.size ≤ cb from hbs)
  clear hbs
  generalize (w2.alloc (.cells #[.int .i64 0, .int .i64 what, .int .i64 A.length] 120)) = W1 at *
  clear hcb HB1
  refine (newPlain_any _ _).mono ?_
  rintro e w3 ⟨b, g, rfl, hP, hB, hb, hg⟩
  rw [show memn (A.length : Int) = A.length by unfold memn; omega] at hP
  have HP3 := Lib.hid hP
  have HC3 := Lib.hid (HC0.out.below hB)
  have HB3 := Lib.hid (bel_then HBA.out hB)
  have hsz := HBA.out.size
  have HG := Lib.hid (show W.heap.size ≤ b ∧ W.heap.size ≤ g from ⟨by omega, by omega⟩)
  clear hP hB hb hg hsz HC0 HBA
  have t0 : w3.cell? ⟨cb, 0, none⟩ = some (.int .i64 0) := HC3.out.cell 0
  have t1 : w3.cell? ⟨cb, 1, none⟩ = some (.int .i64 what) := HC3.out.cell 1
  have t2 : w3.cell? ⟨cb, 2, none⟩ = some (.int .i64 A.length) := HC3.out.cell 2
  go_wp2_with fail
  refine (put_any 0 what A.length _ A b g _ w3 (by decide) (HA.out.below HB3.out) HP3.out (fun a c h h0 => by have := wsl_lt HA.out a c h h0; have := HG.out; omega)).mono ?_
  rintro e w5 ⟨rfl, hP, hF⟩
  rw [show (cwn (A.length : Int)).toNat = A.length by unfold cwn; omega] at hP
  obtain ⟨zs, hzs⟩ : ∃ zs, zs = putE (List.replicate A.length 0) 0 A A.length := ⟨_, rfl⟩
  have HZL := Lib.hid (show zs.length = A.length by
    rw [hzs]
    have : ∀ m, (putE (List.replicate A.length 0) 0 A m).length = A.length := fun m => by
      induction m with
      | zero => simp [putE]
      | succ m ih => show (stv _ _ _).length = _; rw [st_len]; exact ih
    exact this _)
  have HZA := Lib.hid (show ∀ k, k < A.length → ldv zs k = (at30 A k : Int) from fun k hk => by rw [hzs, put_at A _ _ (Nat.le_refl _) k hk, if_pos hk]; rfl)
  have HZW := Lib.hid (show w64 zs from fun z hz => by
    obtain ⟨k, hk, rfl⟩ := List.getElem_of_mem hz
    have h1 := HZA.out k (by rw [← HZL.out]; exact hk)
    have h2 := small_at HSA.out k
    unfold ldv wd at h1
    rw [if_pos (by omega)] at h1
    simp only [Int.toNat_natCast] at h1
    rw [List.getElem?_eq_getElem hk] at h1
    simp only [Option.getD_some] at h1
    rw [h1]
    unfold at30
    omega)
  rw [← hzs] at hP
  have HF5 := Lib.hid ((Fr.of (S := []) HB3.out).from hF (fun i hi hl => by rw [List.mem_singleton.1 hi] at hl; have := HG.out; omega))
  have HS0 := Lib.hid (show Sl W w5 what A.length b g cb zs av [] [] [] (.slice none 0 0) (.slice none 0 0) from
    ⟨hP, HC3.out.fr hF (by simp; exact Bk.ne HC3.out HP3.out.2.1 (by decide)), World.ownsRow_nil _ _ _ _, World.ownsRow_nil _ _ _ _, fun j h => absurd h (Nat.not_lt_zero j), by simp, by simp, ⟨HG.out.1, HG.out.2, HCB.out⟩, HF5.out⟩)
  clear hzs hP hF HP3 HC3 HB3 HF5 t0 t1 t2
  go_wp2_with fail

  go_loopw [12, 13, 66] (fun vx vy i wr => ∃ bs : List Nat, bs.length ≤ ls.length ∧ i = .int .i64 bs.length ∧ Sl W wr what A.length b g cb zs av bs bs bs vx vy)
    (fun _ _ i _ => ls.length - (intOf i).toNat)
  case atStart => exact ⟨[], Nat.zero_le _, rfl, HS0.out⟩
  case round =>
    obtain ⟨bs, hk, rfl, hT⟩ := hrel
    have HT := Lib.hid hT
    clear hT HS0
    by_cases hlt : bs.length < ls.length
    · obtain ⟨k, hkk⟩ : ∃ k, k = bs.length := ⟨_, rfl⟩
      have HK := Lib.hid hkk
      rw [← hkk] at hk hlt ⊢
      clear hkk
      have hol := HLO.out (by omega)
      subst hol
      obtain ⟨hv0, hvw⟩ := HLV.out k hlt
      have c0 := keepc hv0 HT.out.fr.below
      have HVW := Lib.hid hvw
      obtain ⟨pu, cu, hpu⟩ := Ws.len hvw
      rw [hpu] at c0
      have HPU := Lib.hid hpu
      have hki : (k : Int) < ls.length := by omega
      have hbl : (ls[k]?.getD []).length ≤ 8 := HL8.out k hlt
      clear hv0 hvw hpu
      obtain ⟨n8, hn8⟩ : ∃ n8, n8 = (ls[k]?.getD []).length := ⟨_, rfl⟩
      have HN8 := Lib.hid hn8
      rw [← hn8] at c0 hbl HPU
      clear hn8
      have t0 : wr.cell? ⟨cb, 0, none⟩ = some (.int .i64 0) := HT.out.bd.cell 0
      have t1 : wr.cell? ⟨cb, 1, none⟩ = some (.int .i64 what) := HT.out.bd.cell 1
      have t2 : wr.cell? ⟨cb, 2, none⟩ = some (.int .i64 A.length) := HT.out.bd.cell 2
      have HT1 := Lib.hid (HT.out.take (.slice pu n8 cu) (by rw [← HK.out]; exact HPU.out))
      go_wp2_with (at_builtin; refine wpList_append_own _ rfl _ _ 123 rfl W.heap.size 125 i0 (.pointer none) 1 8 Try.underlying123 xi x0 x1 x2 rfl (by decide) _ _ _ rfl (HT1.out.ra.alloc _) ⟨wr.heap.size + 1, 0, none⟩ 1 1 [.pointer (some ⟨wr.heap.size, 0, none⟩)] rfl rfl ?a1 ?a2 ?a3 ?a4 ?a5 ?_)
      case a2 => simp [Value.oneCell']
      case a3 => have := HK.out; unfold maxLen; omega
      case a4 => have := HK.out; omega
      case a5 => have := HT.out.fr.size; omega
      intro va' w7 hown' hgrow _
      have HT2 := Lib.hid (HT1.out.growA hgrow hown')
      clear hown' hgrow
      go_wp2_with (at_builtin; refine wpList_append_own _ rfl _ _ 141 rfl W.heap.size 248 j0 Value.nilIface 1 16 Try.underlying141 yi y0 y1 y2 rfl (by decide) _ _ _ rfl (HT2.out.rm.alloc _) ⟨w7.heap.size, 0, none⟩ 1 1 [.iface 125 (.pointer (some ⟨wr.heap.size, 0, none⟩))] rfl rfl ?b1 ?b2 ?b3 ?b4 ?b5 ?_)
      case b1 => exact one_new31 _ _ _
      case b2 => simp [Value.oneCell']
      case b3 => have := HK.out; unfold maxLen; omega
      case b4 => have := HK.out; omega
      case b5 => have := HT2.out.fr.size; (try rw [World.size_alloc]); omega
      intro vm' w8 hown' hgrow _
      have HT3 := Lib.hid (HT2.out.growM hgrow hown')
      clear hown' hgrow
      go_wp2_with fail
      go_roundw
      case rel => exact ⟨bs ++ [wr.heap.size], by have := HK.out; simp; omega, by rw [List.length_append, ← HK.out]; go_num, HT3.out⟩
      case measure => have := HK.out; simp [intOf]; omega
    · have hbn : bs.length = ls.length := by omega
      have HBN := Lib.hid hbn
      have hge : ls.length ≤ bs.length := by omega
      clear hlt hk hbn
      have HAV := Lib.hid (show ∀ i, i < ls.length → ∀ k, semV what (at30 (ls[i]?.getD []) k) from fun i hi k => value_sem (width := 0) (show small64 _ from (HLV.out i hi).2.1) (fun e => absurd e hw3) k)
      obtain ⟨mb, hmr, hmb⟩ := machs_of HT.out.rm
      obtain ⟨om, cm, rfl⟩ := own_slice HT.out.rm
      obtain ⟨ab, oa, ca2, rfl, hab, hca2⟩ := ptrs_of HT.out.ra
      have HRL := Lib.hid hmr
      have HMB := Lib.hid hmb
      have HAB := Lib.hid hab
      have HCA := Lib.hid hca2
      clear hmr hmb hab hca2
      have HJ := Lib.hid (show CsJ A.length what b g bs av wr (zs, fun _ => ⟨false, false, 0, 0, 0, false⟩) (b :: g :: bs) from ⟨rfl, HT.out.p, HZW.out, fun i hi => ⟨⟨(by decide : (0 : Nat) < 18446744073709551616), fun _ h => ⟨by have h : A.length ≤ 0 := h; omega, rfl, rfl⟩⟩, 0, HT.out.tk i hi⟩⟩)
      have HPB := Lib.hid (HP.out.fr HT.out.fr (by simp))
      have HNE := Lib.hid (show ∀ x ∈ b :: g :: bs, x ∉ rowB (.slice om bs.length cm) ∧ x ∉ rowB (.slice oa bs.length ca2) ∧ x ≠ cb ∧ W.heap.size ≤ x from fun x hx => by
        rcases List.mem_cons.1 hx with rfl | hx
        · exact ⟨own_ne HT.out.rm HT.out.p.1 (by decide), own_ne HT.out.ra HT.out.p.1 (by decide), Bk.ne HT.out.p.1 HT.out.bd (by decide), HT.out.at'.1⟩
        rcases List.mem_cons.1 hx with rfl | hx
        · exact ⟨own_ne HT.out.rm HT.out.p.2.1 (by decide), own_ne HT.out.ra HT.out.p.2.1 (by decide), Bk.ne HT.out.p.2.1 HT.out.bd (by decide), HT.out.at'.2.1⟩
        · obtain ⟨j, hj, rfl⟩ := List.getElem_of_mem hx
          have h1 := HT.out.tk j hj
          rw [List.getElem?_eq_getElem hj, Option.getD_some] at h1
          exact ⟨own_ne HT.out.rm h1 (by decide), own_ne HT.out.ra h1 (by decide), Bk.ne h1 HT.out.bd (by decide), HT.out.new _ hx⟩)
      go_wp2_with fail
      refine (run_any (cs_mach W A.length what b g bs av (fun i => ls[i]?.getD []) (wordE what) (by omega) HT.out.nd (fun i hi => (HLV.out i (by rw [← HBN.out]; exact hi)).2) HT.out.new HT.out.at'.2.1 (wordE_lt what) (lword_any what)) _ _ L _ _ mb pb _ HJ.out HRL.out HPB.out (fun h0 hm => (HNE.out _ hm).1 (HMB.out h0)) (fun h0 hm => by have := HPL.out h0; have := (HNE.out _ hm).2.2.2; omega) (by have := HBN.out; omega) (by omega) HT.out.fr (fun x hx => (HNE.out x hx).2.2.2)).mono ?_
      rintro e w6 ⟨k, sb, db, S', hst, rfl, hbs, hbd, hl1, hl2, hj, hf, hnw, hs1, hs2, hne⟩
      rw [HBN.out] at hst hbs hbd hl1 hl2 hj ⊢
      have hE := cs_end HWH.out HZL.out HZA.out HSV.out HAV.out hst
      generalize runE ls.length _ _ (L.take k) = x at *
      obtain ⟨rfl, hP6, hz6, hT6⟩ := hj
      have HE := Lib.hid hE
      have HP6 := Lib.hid hP6
      have HZ6 := Lib.hid hz6
      have HT6 := Lib.hid hT6
      have HBD := Lib.hid hbd
      have HL2 := Lib.hid hl2
      have HF6 := Lib.hid (show Fr [] W w6 from HT.out.fr.from hf (fun i hi hl => by have := (HNE.out i hi).2.2.2; omega))
      have HC6 := Lib.hid (HT.out.bd.fr hf (fun hm => (HNE.out _ hm).2.2.1 rfl))
      have HA6 := Lib.hid (show ∀ i, i < bs.length → w6.cell? ⟨ab, i, none⟩ = some (tkp bs i) from fun i hi => cell_fr (HCA.out i hi) hf (fun hm => (HNE.out _ hm).2.1 (HAB.out (by omega)).2))
      clear hE hP6 hz6 hT6 hbd hl2 hst hbs hl1 hf hnw hs1 hs2 hne HT HJ HPB HNE HRL HMB HCA
      have HRB := Lib.hid (Bk.new w6 84 [.slice (some ⟨sb, 0, none⟩) ls.length ls.length, .slice (some ⟨db, 0, none⟩) ls.length ls.length, .int .i64 k])
      have HW7 := Lib.hid (show Fr [] w6 (w6.alloc (.cells #[.slice (some ⟨sb, 0, none⟩) ls.length ls.length, .slice (some ⟨db, 0, none⟩) ls.length ls.length, .int .i64 k] 84)) from (Fr.refl _ _).alloc _)
      have t0 := (HC6.out.fr HW7.out (by simp)).cell 0
      have t1 := (HC6.out.fr HW7.out (by simp)).cell 1
      have t2 := (HC6.out.fr HW7.out (by simp)).cell 2
      have t0 : (w6.alloc (.cells #[.slice (some ⟨sb, 0, none⟩) ls.length ls.length, .slice (some ⟨db, 0, none⟩) ls.length ls.length, .int .i64 k] 84)).cell? ⟨cb, 0, none⟩ = some (.int .i64 0) := t0
      have t1 : (w6.alloc (.cells #[.slice (some ⟨sb, 0, none⟩) ls.length ls.length, .slice (some ⟨db, 0, none⟩) ls.length ls.length, .int .i64 k] 84)).cell? ⟨cb, 1, none⟩ = some (.int .i64 what) := t1
      have t2 : (w6.alloc (.cells #[.slice (some ⟨sb, 0, none⟩) ls.length ls.length, .slice (some ⟨db, 0, none⟩) ls.length ls.length, .int .i64 k] 84)).cell? ⟨cb, 2, none⟩ = some (.int .i64 A.length) := t2
      go_wp2_with fail
      refine (get_any 0 what A.length b g x.s.1 _ (by decide) ⟨HP6.out.1.fr HW7.out (by simp), HP6.out.2.1.fr HW7.out (by simp), HP6.out.2.2⟩).mono ?_
      rintro e w7 ⟨vn, rfl, hO, hB⟩
      rw [show (cwn (A.length : Int)).toNat = A.length by unfold cwn; omega] at hO
      have HN := Lib.hid (ws_now hO HZ6.out)
      obtain ⟨on, cn, rfl, hor⟩ := own_room hO
      have HOR := Lib.hid (show 0 < A.length → A.length ≤ cn ∧ ∃ g, on = some ⟨g, 0, none⟩ from fun h => by
        obtain ⟨h1, g, h2, _⟩ := hor h
        exact ⟨h1, g, h2⟩)
      have HF7 := Lib.hid (HW7.out.trans (.of hB))
      have HR7 := Lib.hid (HRB.out.below hB)
      have hrb : w6.heap.size = w6.heap.size := rfl
      obtain ⟨rb, hrb⟩ : ∃ rb, rb = w6.heap.size := ⟨_, rfl⟩
      rw [← hrb] at HR7 ⊢
      clear hO hB hor hrb t0 t1 t2 HRB HW7
      obtain ⟨nw, hnw⟩ : ∃ nw, nw = nowN x.s.1 A.length := ⟨_, rfl⟩
      have HNW := Lib.hid hnw
      have HNL := Lib.hid (show nw.length = A.length by rw [hnw]; exact nowN_len _ _)
      rw [← hnw] at HN
      clear hnw
      have HFW := Lib.hid (show Fr [] W w7 from HF6.out.trans HF7.out)
      go_wp2_with fail

      go_loopw [19, 105] (fun r i wr => ∃ k2 c : Nat, k2 ≤ A.length ∧ i = .int .i64 k2 ∧ r = .int .i64 c ∧ c ≤ 64 * k2 ∧ Hid (∀ j, j < k2 → at30 nw j ≠ at30 A j → 64 ≤ c) ∧ Fr [] w7 wr)
        (fun _ i _ => A.length - (intOf i).toNat)
      case atStart => exact ⟨0, 0, Nat.zero_le _, rfl, rfl, Nat.zero_le _, Lib.hid (fun j h => absurd h (Nat.not_lt_zero j)), Fr.refl _ _⟩
      case round =>
        obtain ⟨k2, c, hk2, rfl, rfl, hc, HRO, hF⟩ := hrel
        have HF := Lib.hid hF
        clear hF
        by_cases hlt : k2 < A.length
        · obtain ⟨p, cp, e, hac⟩ := ws_row HA.out
          injection e with e1 e2 e3
          subst e1 e3
          obtain ⟨a, rfl, hd⟩ := hac (by omega)
          obtain ⟨hcn, gn, rfl⟩ := HOR.out (by omega)
          obtain ⟨p2, cp2, e, hac2⟩ := ws_row HN.out
          injection e with e1 e4 e3
          subst e1 e3
          obtain ⟨a2, ea2, hd2⟩ := hac2 (by have := HNL.out; omega)
          injection ea2 with ea2
          subst ea2
          have HCA7 := Lib.hid (show w7.cell? (a.add k2) = some (.int .u64 (at30 A k2 : Nat)) from keepc (hd k2 hlt) HFW.out.below)
          have HCN7 := Lib.hid (show w7.cell? ⟨gn, k2, none⟩ = some (.int .u64 (at30 nw k2 : Nat)) from by
            have := hd2 k2 (by have := HNL.out; omega)
            rwa [Addr.add_lit, Nat.zero_add] at this)
          have hrm := HRM.out.1
          have HWD := Lib.hid (HE.out.word k2 hlt)
          rw [← HNW.out] at HWD
          have HSU := Lib.hid (show wordE what (at30 nw k2) (at30 (sumE (wordE what) A ls) k2) = at30 (sumE (wordE what) A ls) k2 from by rw [sumE_at _ _ _ k2 hlt]; exact HWD.out.2.1)
          have HRK := Lib.hid (show (∀ j, j < k2 + 1 → at30 nw j ≠ at30 A j → (64 ≤ c ∨ (j = k2 ∧ at30 nw k2 ≠ at30 A k2))) from fun j hj hne => by
            by_cases h : j = k2
            · subst h; exact .inr ⟨rfl, hne⟩
            · exact .inl (HRO.out j (by omega) hne))
          have hki : (k2 : Int) < A.length := by omega
          have hsum : IntKind.i64.wrap ((k2 : Int) + 1) = (k2 : Int) + 1 := IntWalk.i64_in _ (by omega)
          have hs1 : (0 : Int) ≤ (k2 : Int) + 1 := by omega
          have ha2 : (k2 : Int) + 1 ≤ ca := by omega
          have ha3 : ¬ ca = k2 := by omega
          have hn2 : (k2 : Int) + 1 ≤ cn := by omega
          have hn3 : ¬ cn = k2 := by omega
          have HXA := Lib.hid (small_at HSA.out k2)
          have HXN := Lib.hid HWD.out.2.2.1.1
          clear hac hac2 hd hd2 e2 e4
          obtain ⟨xa, hxa⟩ : ∃ xa, xa = at30 A k2 := ⟨_, rfl⟩
          obtain ⟨xn, hxn⟩ : ∃ xn, xn = at30 nw k2 := ⟨_, rfl⟩
          rw [← hxn] at HCN7 HWD HSU HXN
          rw [← hxa] at HCA7 HWD
          have HXA := Lib.hid (show xa < 18446744073709551616 by rw [hxa]; exact HXA.out)
          have HXE := Lib.hid (show xn ≠ at30 nw k2 → False from fun h => h hxn)
          have HXQ := Lib.hid (show xa = at30 A k2 ∧ xn = at30 nw k2 from ⟨hxa, hxn⟩)
          clear hxa hxn
          have HCA2 := Lib.hid (keepc HCA7.out HF.out.below)
          have HCN2 := Lib.hid (keepc HCN7.out HF.out.below)
          go_wp2_with fail
          refine wp_region_held_drew (S := (fun _ => True)) (by kernel_rfl) ?_ (fun hHeld => ?_)
          · exact trivial
          refine take_at 0 (v := ?_) (some 108) rfl rfl (by kernel_rfl) (by kernel_rfl) (by kernel_rfl) (fun _ _ _ h => h) (Or.inl ⟨by rfl, ?_⟩) hHeld ?_
          rotate_left
          · (intro w hSw; (try dsimp only at hSw); go_simp; (try with_reducible rfl))
          simp only [Act.put, List.setIfInBounds_toArray, List.set_cons_zero, List.set_cons_succ]
          refine take_at 1 (v := ?_) (some 109) rfl rfl (by kernel_rfl) (by kernel_rfl) (by kernel_rfl) (fun _ _ _ h => h) (Or.inl ⟨by rfl, ?_⟩) hHeld ?_
          rotate_left
          · (intro w hSw; (try dsimp only at hSw); go_simp; (try with_reducible rfl))
          simp only [Act.put, List.setIfInBounds_toArray, List.set_cons_zero, List.set_cons_succ]
          refine take_at 2 (v := ?_) (some 110) rfl rfl (by kernel_rfl) (by kernel_rfl) (by kernel_rfl) (fun _ _ _ h => h) (Or.inl ⟨by rfl, ?_⟩) hHeld ?_
          rotate_left
          · (intro w hSw; (try dsimp only at hSw); go_simp; (try with_reducible rfl))
          simp only [Act.put, List.setIfInBounds_toArray, List.set_cons_zero, List.set_cons_succ]
          refine take_at 3 (v := ?_) (some 111) rfl rfl (by kernel_rfl) (by kernel_rfl) (by kernel_rfl) (fun _ _ _ h => h) (Or.inl ⟨by rfl, ?_⟩) hHeld ?_
          rotate_left
          · (intro w hSw; (try dsimp only at hSw); go_simp; (try with_reducible rfl))
          simp only [Act.put, List.setIfInBounds_toArray, List.set_cons_zero, List.set_cons_succ]
          refine take_at 4 (v := ?_) (some 112) rfl rfl (by kernel_rfl) (by kernel_rfl) (by kernel_rfl) (fun _ _ _ h => h) (Or.inl ⟨by rfl, ?_⟩) hHeld ?_
          rotate_left
          · (intro w hSw; (try dsimp only at hSw); go_simp; (try with_reducible rfl))
          simp only [Act.put, List.setIfInBounds_toArray, List.set_cons_zero, List.set_cons_succ]
          refine take_at 5 (v := ?_) (some 113) rfl rfl (by kernel_rfl) (by kernel_rfl) (by kernel_rfl) (fun _ _ _ h => h) (Or.inl ⟨by rfl, ?_⟩) hHeld ?_
          rotate_left
          · (intro w hSw; (try dsimp only at hSw); go_simp; (try with_reducible rfl))
          simp only [Act.put, List.setIfInBounds_toArray, List.set_cons_zero, List.set_cons_succ]
          refine take_at 6 (v := ?_) (some 114) rfl rfl (by kernel_rfl) (by kernel_rfl) (by kernel_rfl) (fun _ _ _ h => h) (Or.inl ⟨by rfl, ?_⟩) hHeld ?_
          rotate_left
          · (intro w hSw; (try dsimp only at hSw); go_simp; (try with_reducible rfl))
          simp only [Act.put, List.setIfInBounds_toArray, List.set_cons_zero, List.set_cons_succ]
          refine take_at 7 (v := ?_) (some 115) rfl rfl (by kernel_rfl) (by kernel_rfl) (by kernel_rfl) (fun _ _ _ h => h) (Or.inl ⟨by rfl, ?_⟩) hHeld ?_
          rotate_left
          · (intro w hSw; (try dsimp only at hSw); go_simp; (try with_reducible rfl))
          simp only [Act.put, List.setIfInBounds_toArray, List.set_cons_zero, List.set_cons_succ]
          refine take_at 8 (v := ?_) (some 116) rfl rfl (by kernel_rfl) (by kernel_rfl) (by kernel_rfl) (fun _ _ _ h => h) (Or.inl ⟨by rfl, ?_⟩) hHeld ?_
          rotate_left
          · (intro w hSw; (try dsimp only at hSw); go_simp; (try with_reducible rfl))
          simp only [Act.put, List.setIfInBounds_toArray, List.set_cons_zero, List.set_cons_succ]
          refine take_at 9 (v := ?_) (some 117) rfl rfl (by kernel_rfl) (by kernel_rfl) (by kernel_rfl) (fun _ _ _ h => h) (Or.inl ⟨by rfl, ?_⟩) hHeld ?_
          rotate_left
          · (intro w hSw; (try dsimp only at hSw); go_simp; (try with_reducible rfl))
          simp only [Act.put, List.setIfInBounds_toArray, List.set_cons_zero, List.set_cons_succ]
          refine take_at 10 (v := ?_) (some 118) rfl rfl (by kernel_rfl) (by kernel_rfl) (by kernel_rfl) (fun _ _ _ h => h) (Or.inl ⟨by rfl, ?_⟩) hHeld ?_
          rotate_left
          · (intro w hSw; (try dsimp only at hSw); go_simp; (try with_reducible rfl))
          simp only [Act.put, List.setIfInBounds_toArray, List.set_cons_zero, List.set_cons_succ]
          refine wpAnyH_ready (rs := [11]) (by kernel_rfl) (by simp) ?_
          refine AllReadyH.cons rfl (fun K hK => ?_) AllReadyH.nil
          go_simp
          refine (rlbelow_any what _ _ [xa] [xn] wr.drew (ws_word HXA.out (show wr.drew.cell? _ = _ from HCA2.out) _) (ws_word HXN.out (show wr.drew.cell? _ = _ from HCN2.out) _) (by simp) rfl).mono ?_; rintro e v1 ⟨rfl, hB⟩; rw [below_one HWD.out.1]; have HG1 := Lib.hid (show Fr [] w7 v1 from HF.out.drew.trans (.of hB)); clear hB
          go_wp2_with fail
          refine hK.out _ _ ?_ (fun hHeld => ?_)
          · exact trivial
          clear hK K
          try simp only [Act.put, List.setIfInBounds_toArray, List.set_cons_zero, List.set_cons_succ]
          refine take_at 12 (v := ?_) (some 120) rfl rfl (by kernel_rfl) (by kernel_rfl) (by kernel_rfl) (fun _ _ _ h => h) (Or.inl ⟨by rfl, ?_⟩) hHeld ?_
          rotate_left
          · (intro w hSw; (try dsimp only at hSw); go_simp; (try with_reducible rfl))
          simp only [Act.put, List.setIfInBounds_toArray, List.set_cons_zero, List.set_cons_succ]
          refine take_at 13 (v := ?_) (some 121) rfl rfl (by kernel_rfl) (by kernel_rfl) (by kernel_rfl) (fun _ _ _ h => h) (Or.inl ⟨by rfl, ?_⟩) hHeld ?_
          rotate_left
          · (intro w hSw; (try dsimp only at hSw); go_simp; (try with_reducible rfl))
          simp only [Act.put, List.setIfInBounds_toArray, List.set_cons_zero, List.set_cons_succ]
          refine take_at 14 (v := ?_) (some 122) rfl rfl (by kernel_rfl) (by kernel_rfl) (by kernel_rfl) (fun _ _ _ h => h) (Or.inl ⟨by rfl, ?_⟩) hHeld ?_
          rotate_left
          · (intro w hSw; (try dsimp only at hSw); go_simp; (try with_reducible rfl))
          simp only [Act.put, List.setIfInBounds_toArray, List.set_cons_zero, List.set_cons_succ]
          refine take_at 15 (v := ?_) (some 123) rfl rfl (by kernel_rfl) (by kernel_rfl) (by kernel_rfl) (fun _ _ _ h => h) (Or.inl ⟨by rfl, ?_⟩) hHeld ?_
          rotate_left
          · (intro w hSw; (try dsimp only at hSw); go_simp; (try with_reducible rfl))
          simp only [Act.put, List.setIfInBounds_toArray, List.set_cons_zero, List.set_cons_succ]
          refine take_at 16 (v := ?_) (some 124) rfl rfl (by kernel_rfl) (by kernel_rfl) (by kernel_rfl) (fun _ _ _ h => h) (Or.inl ⟨by rfl, ?_⟩) hHeld ?_
          rotate_left
          · (intro w hSw; (try dsimp only at hSw); go_simp; (try with_reducible rfl))
          simp only [Act.put, List.setIfInBounds_toArray, List.set_cons_zero, List.set_cons_succ]
          refine take_at 17 (v := ?_) (some 125) rfl rfl (by kernel_rfl) (by kernel_rfl) (by kernel_rfl) (fun _ _ _ h => h) (Or.inl ⟨by rfl, ?_⟩) hHeld ?_
          rotate_left
          · (intro w hSw; (try dsimp only at hSw); go_simp; (try with_reducible rfl))
          simp only [Act.put, List.setIfInBounds_toArray, List.set_cons_zero, List.set_cons_succ]
          refine take_at 18 (v := ?_) (some 126) rfl rfl (by kernel_rfl) (by kernel_rfl) (by kernel_rfl) (fun _ _ _ h => h) (Or.inl ⟨by rfl, ?_⟩) hHeld ?_
          rotate_left
          · (intro w hSw; (try dsimp only at hSw); go_simp; (try with_reducible rfl))
          simp only [Act.put, List.setIfInBounds_toArray, List.set_cons_zero, List.set_cons_succ]
          refine take_at 19 (v := ?_) (some 127) rfl rfl (by kernel_rfl) (by kernel_rfl) (by kernel_rfl) (fun _ _ _ h => h) (Or.inl ⟨by rfl, ?_⟩) hHeld ?_
          rotate_left
          · (intro w hSw; (try dsimp only at hSw); go_simp; (try with_reducible rfl))
          simp only [Act.put, List.setIfInBounds_toArray, List.set_cons_zero, List.set_cons_succ]
          refine take_at 20 (v := ?_) (some 128) rfl rfl (by kernel_rfl) (by kernel_rfl) (by kernel_rfl) (fun _ _ _ h => h) (Or.inl ⟨by rfl, ?_⟩) hHeld ?_
          rotate_left
          · (intro w hSw; (try dsimp only at hSw); go_simp; (try with_reducible rfl))
          simp only [Act.put, List.setIfInBounds_toArray, List.set_cons_zero, List.set_cons_succ]
          refine take_at 21 (v := ?_) (some 129) rfl rfl (by kernel_rfl) (by kernel_rfl) (by kernel_rfl) (fun _ _ _ h => h) (Or.inl ⟨by rfl, ?_⟩) hHeld ?_
          rotate_left
          · (intro w hSw; (try dsimp only at hSw); go_simp; (try with_reducible rfl))
          simp only [Act.put, List.setIfInBounds_toArray, List.set_cons_zero, List.set_cons_succ]
          refine take_at 22 (v := ?_) (some 130) rfl rfl (by kernel_rfl) (by kernel_rfl) (by kernel_rfl) (fun _ _ _ h => h) (Or.inl ⟨by rfl, ?_⟩) hHeld ?_
          rotate_left
          · (intro w hSw; (try dsimp only at hSw); go_simp; (try with_reducible rfl))
          simp only [Act.put, List.setIfInBounds_toArray, List.set_cons_zero, List.set_cons_succ]
          refine take_at 24 (v := ?_) (some 132) rfl rfl (by kernel_rfl) (by kernel_rfl) (by kernel_rfl) (fun _ _ _ h => h) (Or.inl ⟨by rfl, ?_⟩) hHeld ?_
          rotate_left
          · (intro w hSw; (try dsimp only at hSw); go_simp; (try with_reducible rfl))
          simp only [Act.put, List.setIfInBounds_toArray, List.set_cons_zero, List.set_cons_succ]
          refine take_at 25 (v := ?_) (some 133) rfl rfl (by kernel_rfl) (by kernel_rfl) (by kernel_rfl) (fun _ _ _ h => h) (Or.inl ⟨by rfl, ?_⟩) hHeld ?_
          rotate_left
          · (intro w hSw; (try dsimp only at hSw); go_simp; (try with_reducible rfl))
          simp only [Act.put, List.setIfInBounds_toArray, List.set_cons_zero, List.set_cons_succ]
          refine take_at 26 (v := ?_) (some 134) rfl rfl (by kernel_rfl) (by kernel_rfl) (by kernel_rfl) (fun _ _ _ h => h) (Or.inl ⟨by rfl, ?_⟩) hHeld ?_
          rotate_left
          · (intro w hSw; (try dsimp only at hSw); go_simp; (try with_reducible rfl))
          simp only [Act.put, List.setIfInBounds_toArray, List.set_cons_zero, List.set_cons_succ]
          refine wpAnyH_ready (rs := [23]) (by kernel_rfl) (by simp) ?_
          refine AllReadyH.cons rfl (fun K hK => ?_) AllReadyH.nil
          go_simp
          refine (rsum_own what _ _ A ls (wordE what) _ (HA.out.below (HFW.out.trans HG1.out).below) ⟨a, ca, rfl⟩ (HL.out.below (HFW.out.trans HG1.out).below) (by omega) (by omega) (wordE_lt what) (rlword_any what)).mono ?_; rintro e v2 ⟨u, rfl, hO, hS, hB⟩; obtain ⟨ou, cu, rfl, hor⟩ := own_room hO; obtain ⟨hcu, gu, rfl, hcell⟩ := hor (by omega); have HSC := Lib.hid (hcell k2 _ (ns_at _ k2 (by rw [sumE_len]; omega))); have HSX := Lib.hid (small_at hS k2); have HG2 := Lib.hid (HG1.out.trans (.of hB)); have hu2 : (k2 : Int) + 1 ≤ cu := (by omega); have hu3 : ¬ cu = k2 := (by omega); clear hO hS hor hcell hB
          go_wp2_with fail
          refine hK.out _ _ ?_ (fun hHeld => ?_)
          · exact trivial
          clear hK K
          try simp only [Act.put, List.setIfInBounds_toArray, List.set_cons_zero, List.set_cons_succ]
          refine take_at 27 (v := ?_) (some 135) rfl rfl (by kernel_rfl) (by kernel_rfl) (by kernel_rfl) (fun _ _ _ h => h) (Or.inl ⟨by rfl, ?_⟩) hHeld ?_
          rotate_left
          · (intro w hSw; (try dsimp only at hSw); go_simp; (try with_reducible rfl))
          simp only [Act.put, List.setIfInBounds_toArray, List.set_cons_zero, List.set_cons_succ]
          refine wpAnyH_ready (rs := [28]) (by kernel_rfl) (by simp) ?_
          refine AllReadyH.cons rfl (fun K hK => ?_) AllReadyH.nil
          go_simp
          refine (rlbelow_any what _ _ [xn] [at30 (sumE (wordE what) A ls) k2] _ (ws_word HXN.out (keepc HCN7.out HG2.out.below) _) (ws_word HSX.out HSC.out _) (by simp) rfl).mono ?_; rintro e v3 ⟨rfl, hB⟩; rw [below_one HSU.out]; have HG3 := Lib.hid (show Fr [] w7 v3 from HG2.out.trans (.of hB)); clear hB
          go_wp2_with fail
          refine hK.out _ _ ?_ (fun hHeld => ?_)
          · exact trivial
          clear hK K
          try simp only [Act.put, List.setIfInBounds_toArray, List.set_cons_zero, List.set_cons_succ]
          refine take_at 29 (v := ?_) (some 137) rfl rfl (by kernel_rfl) (by kernel_rfl) (by kernel_rfl) (fun _ _ _ h => h) (Or.inl ⟨by rfl, ?_⟩) hHeld ?_
          rotate_left
          · (intro w hSw; (try dsimp only at hSw); go_simp; (try with_reducible rfl))
          simp only [Act.put, List.setIfInBounds_toArray, List.set_cons_zero, List.set_cons_succ]
          refine take_at 30 (v := ?_) (some 138) rfl rfl (by kernel_rfl) (by kernel_rfl) (by kernel_rfl) (fun _ _ _ h => h) (Or.inl ⟨by rfl, ?_⟩) hHeld ?_
          rotate_left
          · (intro w hSw; (try dsimp only at hSw); go_simp; (try with_reducible rfl))
          simp only [Act.put, List.setIfInBounds_toArray, List.set_cons_zero, List.set_cons_succ]
          refine wpAnyH_done (by kernel_rfl) ?_ _
          go_split_ands
          go_wp2_with fail
          have q0 := keepc HCA7.out HG3.out.below
          have q1 := keepc HCN7.out HG3.out.below
          by_cases hne : xn = xa
          · have hnb : ((xn : Int) != (xa : Int)) = false := by rw [hne]; simp
            refine wp_region_held_drew (S := (fun w' => w'.cell? (a.add k2) = some (.int .u64 xa) ∧ w'.cell? ⟨gn, k2, none⟩ = some (.int .u64 xn))) (by kernel_rfl) ?_ (fun hHeld => ?_)
            · exact ⟨q0, q1⟩
            refine take_at 0 (v := ?_) (some 139) rfl rfl (by kernel_rfl) (by kernel_rfl) (by kernel_rfl) (fun _ _ _ h => h) (Or.inl ⟨by rfl, ?_⟩) hHeld ?_
            rotate_left
            · (intro w hSw; (try dsimp only at hSw); go_simp; (try with_reducible rfl))
            simp only [Act.put, List.setIfInBounds_toArray, List.set_cons_zero, List.set_cons_succ]
            refine take_at 1 (v := ?_) (some 140) rfl rfl (by kernel_rfl) (by kernel_rfl) (by kernel_rfl) (fun _ _ _ h => h) (Or.inl ⟨by rfl, ?_⟩) hHeld ?_
            rotate_left
            · (intro w hSw; (try dsimp only at hSw); go_simp; (try with_reducible rfl))
            simp only [Act.put, List.setIfInBounds_toArray, List.set_cons_zero, List.set_cons_succ]
            refine take_at 2 (v := ?_) (some 141) rfl rfl (by kernel_rfl) (by kernel_rfl) (by kernel_rfl) (fun _ _ _ h => h) (Or.inl ⟨by rfl, ?_⟩) hHeld ?_
            rotate_left
            · (intro w hSw; (try dsimp only at hSw); go_simp; (try with_reducible rfl))
            simp only [Act.put, List.setIfInBounds_toArray, List.set_cons_zero, List.set_cons_succ]
            refine take_at 3 (v := ?_) (some 142) rfl rfl (by kernel_rfl) (by kernel_rfl) (by kernel_rfl) (fun _ _ _ h => h) (Or.inl ⟨by rfl, ?_⟩) hHeld ?_
            rotate_left
            · (intro w hSw; (try dsimp only at hSw); go_simp; (try with_reducible rfl))
            simp only [Act.put, List.setIfInBounds_toArray, List.set_cons_zero, List.set_cons_succ]
            refine take_at 4 (v := ?_) (some 143) rfl rfl (by kernel_rfl) (by kernel_rfl) (by kernel_rfl) (fun _ _ _ h => h) (Or.inl ⟨by rfl, ?_⟩) hHeld ?_
            rotate_left
            · (intro w hSw; (try dsimp only at hSw); go_simp; (try with_reducible rfl))
            simp only [Act.put, List.setIfInBounds_toArray, List.set_cons_zero, List.set_cons_succ]
            refine take_at 5 (v := ?_) (some 144) rfl rfl (by kernel_rfl) (by kernel_rfl) (by kernel_rfl) (fun _ _ _ h => h) (Or.inl ⟨by rfl, ?_⟩) hHeld ?_
            rotate_left
            · (intro w hSw; (try dsimp only at hSw); go_simp; (try with_reducible rfl))
            simp only [Act.put, List.setIfInBounds_toArray, List.set_cons_zero, List.set_cons_succ]
            refine take_at 6 (v := ?_) (some 145) rfl rfl (by kernel_rfl) (by kernel_rfl) (by kernel_rfl) (fun _ _ _ h => h) (Or.inl ⟨by rfl, ?_⟩) hHeld ?_
            rotate_left
            · (intro w hSw; (try dsimp only at hSw); go_simp; (try with_reducible rfl))
            simp only [Act.put, List.setIfInBounds_toArray, List.set_cons_zero, List.set_cons_succ]
            refine take_at 7 (v := ?_) (some 146) rfl rfl (by kernel_rfl) (by kernel_rfl) (by kernel_rfl) (fun _ _ _ h => h) (Or.inl ⟨by rfl, ?_⟩) hHeld ?_
            rotate_left
            · (intro w hSw; (try dsimp only at hSw); go_simp; (try with_reducible rfl))
            simp only [Act.put, List.setIfInBounds_toArray, List.set_cons_zero, List.set_cons_succ]
            refine take_at 8 (v := ?_) (some 147) rfl rfl (by kernel_rfl) (by kernel_rfl) (by kernel_rfl) (fun _ _ _ h => h) (Or.inl ⟨by rfl, ?_⟩) hHeld ?_
            rotate_left
            · (intro w hSw; (try dsimp only at hSw); go_simp; (try with_reducible rfl))
            simp only [Act.put, List.setIfInBounds_toArray, List.set_cons_zero, List.set_cons_succ]
            refine wpAnyH_done (by kernel_rfl) ?_ _
            go_split_ands
            go_wp2_with fail
            go_roundw
            case rel => exact ⟨k2 + 1, c, by omega, by go_num, rfl, by omega, Lib.hid (fun j hj hd => by
              rcases HRK.out j hj hd with h | ⟨_, h⟩
              · exact h
              · exact absurd (by rw [← HXQ.out.1, ← HXQ.out.2, hne]) h), HG3.out.drew⟩
            case measure => simp [intOf]; omega
          · have hnb : ((xn : Int) != (xa : Int)) = true := by simp only [bne_iff_ne, ne_eq]; omega
            refine wp_region_held_drew (S := (fun w' => w'.cell? (a.add k2) = some (.int .u64 xa) ∧ w'.cell? ⟨gn, k2, none⟩ = some (.int .u64 xn))) (by kernel_rfl) ?_ (fun hHeld => ?_)
            · exact ⟨q0, q1⟩
            refine take_at 0 (v := ?_) (some 139) rfl rfl (by kernel_rfl) (by kernel_rfl) (by kernel_rfl) (fun _ _ _ h => h) (Or.inl ⟨by rfl, ?_⟩) hHeld ?_
            rotate_left
            · (intro w hSw; (try dsimp only at hSw); go_simp; (try with_reducible rfl))
            simp only [Act.put, List.setIfInBounds_toArray, List.set_cons_zero, List.set_cons_succ]
            refine take_at 1 (v := ?_) (some 140) rfl rfl (by kernel_rfl) (by kernel_rfl) (by kernel_rfl) (fun _ _ _ h => h) (Or.inl ⟨by rfl, ?_⟩) hHeld ?_
            rotate_left
            · (intro w hSw; (try dsimp only at hSw); go_simp; (try with_reducible rfl))
            simp only [Act.put, List.setIfInBounds_toArray, List.set_cons_zero, List.set_cons_succ]
            refine take_at 2 (v := ?_) (some 141) rfl rfl (by kernel_rfl) (by kernel_rfl) (by kernel_rfl) (fun _ _ _ h => h) (Or.inl ⟨by rfl, ?_⟩) hHeld ?_
            rotate_left
            · (intro w hSw; (try dsimp only at hSw); go_simp; (try with_reducible rfl))
            simp only [Act.put, List.setIfInBounds_toArray, List.set_cons_zero, List.set_cons_succ]
            refine take_at 3 (v := ?_) (some 142) rfl rfl (by kernel_rfl) (by kernel_rfl) (by kernel_rfl) (fun _ _ _ h => h) (Or.inl ⟨by rfl, ?_⟩) hHeld ?_
            rotate_left
            · (intro w hSw; (try dsimp only at hSw); go_simp; (try with_reducible rfl))
            simp only [Act.put, List.setIfInBounds_toArray, List.set_cons_zero, List.set_cons_succ]
            refine take_at 4 (v := ?_) (some 143) rfl rfl (by kernel_rfl) (by kernel_rfl) (by kernel_rfl) (fun _ _ _ h => h) (Or.inl ⟨by rfl, ?_⟩) hHeld ?_
            rotate_left
            · (intro w hSw; (try dsimp only at hSw); go_simp; (try with_reducible rfl))
            simp only [Act.put, List.setIfInBounds_toArray, List.set_cons_zero, List.set_cons_succ]
            refine take_at 5 (v := ?_) (some 144) rfl rfl (by kernel_rfl) (by kernel_rfl) (by kernel_rfl) (fun _ _ _ h => h) (Or.inl ⟨by rfl, ?_⟩) hHeld ?_
            rotate_left
            · (intro w hSw; (try dsimp only at hSw); go_simp; (try with_reducible rfl))
            simp only [Act.put, List.setIfInBounds_toArray, List.set_cons_zero, List.set_cons_succ]
            refine take_at 6 (v := ?_) (some 145) rfl rfl (by kernel_rfl) (by kernel_rfl) (by kernel_rfl) (fun _ _ _ h => h) (Or.inl ⟨by rfl, ?_⟩) hHeld ?_
            rotate_left
            · (intro w hSw; (try dsimp only at hSw); go_simp; (try with_reducible rfl))
            simp only [Act.put, List.setIfInBounds_toArray, List.set_cons_zero, List.set_cons_succ]
            refine take_at 7 (v := ?_) (some 146) rfl rfl (by kernel_rfl) (by kernel_rfl) (by kernel_rfl) (fun _ _ _ h => h) (Or.inl ⟨by rfl, ?_⟩) hHeld ?_
            rotate_left
            · (intro w hSw; (try dsimp only at hSw); go_simp; (try with_reducible rfl))
            simp only [Act.put, List.setIfInBounds_toArray, List.set_cons_zero, List.set_cons_succ]
            refine take_at 8 (v := ?_) (some 147) rfl rfl (by kernel_rfl) (by kernel_rfl) (by kernel_rfl) (fun _ _ _ h => h) (Or.inl ⟨by rfl, ?_⟩) hHeld ?_
            rotate_left
            · (intro w hSw; (try dsimp only at hSw); go_simp; (try with_reducible rfl))
            simp only [Act.put, List.setIfInBounds_toArray, List.set_cons_zero, List.set_cons_succ]
            refine wpAnyH_done (by kernel_rfl) ?_ _
            go_split_ands
            go_wp2_with fail
            go_roundw
            case rel => exact ⟨k2 + 1, c + 64, by omega, by go_num, by go_num, by omega, Lib.hid (fun _ _ _ => by omega), HG3.out.drew⟩
            case measure => simp [intOf]; omega
        · obtain rfl : k2 = A.length := by omega
          clear hlt hk2
          go_wp2_with fail
          have HF2 := Lib.hid HF.out
          have HRO2 := Lib.hid HRO.out
          have hc5 : c ≤ 320 := by omega
          go_loopw [20, 153] (fun ch i wr => ∃ k3 c3 : Nat, k3 ≤ ls.length ∧ i = .int .i64 k3 ∧ ch = .int .i64 c3 ∧ c3 ≤ k3 ∧ Hid (0 < c3 → ∃ j, j < ls.length ∧ (x.s.2 j).ch = true) ∧ Fr [] w7 wr)
            (fun _ i _ => ls.length - (intOf i).toNat)
          case atStart => exact ⟨0, 0, Nat.zero_le _, rfl, rfl, Nat.le_refl _, Lib.hid (fun h => absurd h (Nat.lt_irrefl 0)), HF2.out⟩
          case round =>
          clear HF HF2 HRO
          obtain ⟨k3, c3, hk3, rfl, rfl, hc3, HCO, hF⟩ := hrel
          have HF := Lib.hid hF
          have p6 : wr.cell? ⟨rb, 1, none⟩ = some (.slice (some ⟨db, 0, none⟩) ls.length ls.length) := (HR7.out.fr hF (by simp)).cell 1
          have HR5 := Lib.hid (HR7.out.cell 1)
          clear hF
          by_cases hlt : k3 < ls.length
          · have hbl : k3 < bs.length := by have := HBN.out; omega
            obtain ⟨eoa, _⟩ := HAB.out (by omega)
            subst eoa
            have hap := HA6.out k3 hbl
            unfold tkp at hap
            obtain ⟨_, u, hJ⟩ := HT6.out k3 hbl
            have hdn := HE.out.dn k3 hlt
            have hde := bools_at HBD.out k3 (by rw [HL2.out]; exact hlt)
            generalize bs[k3]?.getD 0 = jb at *
            have p3 := cell_fr hap (HF7.out.trans HF.out) (by simp)
            have HJ7 := Lib.hid ((hJ.fr HF7.out (by simp)).cells.2.2.2.2.2.1)
            have HJ4 := Lib.hid ((hJ.fr (HF7.out.trans HF.out) (by simp)).cells.2.2.2.2.1)
            have HJ4b := Lib.hid ((hJ.fr (HF7.out.trans HF.out) (by simp)).cells.2.2.2.2.2.1)
            have HD7 := Lib.hid (cell_fr hde HF7.out (by simp))
            have HD4 := Lib.hid (cell_fr hde (HF7.out.trans HF.out) (by simp))
            have hol := HLO.out (by omega)
            subst hol
            obtain ⟨hv0, hvw⟩ := HLV.out k3 hlt
            have HLK := Lib.hid (show Lls wr.drew (.slice (some ⟨lb, lo + k3, none⟩) 1 (cl - k3)) [ls[k3]?.getD []] from ⟨_, _, rfl, fun _ => ⟨lb, lo + k3, rfl, fun j hj => by
              obtain rfl : j = 0 := by simp at hj; omega
              exact ⟨av k3, keepc hv0 (HFW.out.trans HF.out).drew.below, hvw.below (HFW.out.trans HF.out).drew.below⟩⟩⟩)
            have hrm := HRM.out.2
            have hki : (k3 : Int) < ls.length := by omega
            have hsum : IntKind.i64.wrap ((k3 : Int) + 1) = (k3 : Int) + 1 := IntWalk.i64_in _ (by omega)
            have hs1 : (0 : Int) ≤ (k3 : Int) + 1 := by omega
            have ha2 : (k3 : Int) + 1 ≤ cl := by omega
            have ha3 : ¬ cl = k3 := by omega
            clear hap hJ hde hv0 hvw
            cases hch : (x.s.2 k3).ch <;> cases hen : (x.s.2 k3).en
            · have p4 : wr.cell? ⟨jb, 4, none⟩ = some (.bool false) := by have := HJ4.out; rwa [hch] at this
              have p5 : wr.cell? ⟨jb, 5, none⟩ = some (.bool false) := by have := HJ4b.out; rwa [hen] at this
              have p7 : wr.cell? ⟨db, k3, none⟩ = some (.bool false) := by have := HD4.out; rwa [← hdn, hen] at this
              have HJ5 := Lib.hid (show w7.cell? ⟨jb, 5, none⟩ = some (.bool false) by have := HJ7.out; rwa [hen] at this)
              have HD5 := Lib.hid (show w7.cell? ⟨db, k3, none⟩ = some (.bool false) by have := HD7.out; rwa [← hdn, hen] at this)
              have HCH := Lib.hid (show (0 < c3 → ∃ j, j < ls.length ∧ (x.s.2 j).ch = true) from HCO.out)
              clear hch hen hdn
              go_wp2_with fail
              refine wp_region_held_drew (S := (fun w' => w'.cell? ⟨jb, 5, none⟩ = some (.bool false) ∧ w'.cell? ⟨rb, 1, none⟩ = some (.slice (some ⟨db, 0, none⟩) ls.length ls.length) ∧ w'.cell? ⟨db, k3, none⟩ = some (.bool false))) (by kernel_rfl) ?_ (fun hHeld => ?_)
              · exact ⟨p5, p6, p7⟩
              refine take_at 0 (v := ?_) (some 164) rfl rfl (by kernel_rfl) (by kernel_rfl) (by kernel_rfl) (fun _ _ _ h => h) (Or.inl ⟨by rfl, ?_⟩) hHeld ?_
              rotate_left
              · (intro w hSw; (try dsimp only at hSw); go_simp; (try with_reducible rfl))
              simp only [Act.put, List.setIfInBounds_toArray, List.set_cons_zero, List.set_cons_succ]
              refine take_at 1 (v := ?_) (some 165) rfl rfl (by kernel_rfl) (by kernel_rfl) (by kernel_rfl) (fun _ _ _ h => h) (Or.inl ⟨by rfl, ?_⟩) hHeld ?_
              rotate_left
              · (intro w hSw; (try dsimp only at hSw); go_simp; (try with_reducible rfl))
              simp only [Act.put, List.setIfInBounds_toArray, List.set_cons_zero, List.set_cons_succ]
              refine take_at 2 (v := ?_) (some 166) rfl rfl (by kernel_rfl) (by kernel_rfl) (by kernel_rfl) (fun _ _ _ h => h) (Or.inl ⟨by rfl, ?_⟩) hHeld ?_
              rotate_left
              · (intro w hSw; (try dsimp only at hSw); go_simp; (try with_reducible rfl))
              simp only [Act.put, List.setIfInBounds_toArray, List.set_cons_zero, List.set_cons_succ]
              refine take_at 3 (v := ?_) (some 167) rfl rfl (by kernel_rfl) (by kernel_rfl) (by kernel_rfl) (fun _ _ _ h => h) (Or.inl ⟨by rfl, ?_⟩) hHeld ?_
              rotate_left
              · (intro w hSw; (try dsimp only at hSw); go_simp; (try with_reducible rfl))
              simp only [Act.put, List.setIfInBounds_toArray, List.set_cons_zero, List.set_cons_succ]
              refine take_at 4 (v := ?_) (some 168) rfl rfl (by kernel_rfl) (by kernel_rfl) (by kernel_rfl) (fun _ _ _ h => h) (Or.inl ⟨by rfl, ?_⟩) hHeld ?_
              rotate_left
              · (intro w hSw; (try dsimp only at hSw); go_simp; (try with_reducible rfl))
              simp only [Act.put, List.setIfInBounds_toArray, List.set_cons_zero, List.set_cons_succ]
              refine take_at 5 (v := ?_) (some 169) rfl rfl (by kernel_rfl) (by kernel_rfl) (by kernel_rfl) (fun _ _ _ h => h) (Or.inl ⟨by rfl, ?_⟩) hHeld ?_
              rotate_left
              · (intro w hSw; (try dsimp only at hSw); go_simp; (try with_reducible rfl))
              simp only [Act.put, List.setIfInBounds_toArray, List.set_cons_zero, List.set_cons_succ]
              refine take_at 6 (v := ?_) (some 170) rfl rfl (by kernel_rfl) (by kernel_rfl) (by kernel_rfl) (fun _ _ _ h => h) (Or.inl ⟨by rfl, ?_⟩) hHeld ?_
              rotate_left
              · (intro w hSw; (try dsimp only at hSw); go_simp; (try with_reducible rfl))
              simp only [Act.put, List.setIfInBounds_toArray, List.set_cons_zero, List.set_cons_succ]
              refine take_at 7 (v := ?_) (some 171) rfl rfl (by kernel_rfl) (by kernel_rfl) (by kernel_rfl) (fun _ _ _ h => h) (Or.inl ⟨by rfl, ?_⟩) hHeld ?_
              rotate_left
              · (intro w hSw; (try dsimp only at hSw); go_simp; (try with_reducible rfl))
              simp only [Act.put, List.setIfInBounds_toArray, List.set_cons_zero, List.set_cons_succ]
              refine take_at 8 (v := ?_) (some 172) rfl rfl (by kernel_rfl) (by kernel_rfl) (by kernel_rfl) (fun _ _ _ h => h) (Or.inl ⟨by rfl, ?_⟩) hHeld ?_
              rotate_left
              · (intro w hSw; (try dsimp only at hSw); go_simp; (try with_reducible rfl))
              simp only [Act.put, List.setIfInBounds_toArray, List.set_cons_zero, List.set_cons_succ]
              refine take_at 9 (v := ?_) (some 173) rfl rfl (by kernel_rfl) (by kernel_rfl) (by kernel_rfl) (fun _ _ _ h => h) (Or.inl ⟨by rfl, ?_⟩) hHeld ?_
              rotate_left
              · (intro w hSw; (try dsimp only at hSw); go_simp; (try with_reducible rfl))
              simp only [Act.put, List.setIfInBounds_toArray, List.set_cons_zero, List.set_cons_succ]
              refine take_at 10 (v := ?_) (some 174) rfl rfl (by kernel_rfl) (by kernel_rfl) (by kernel_rfl) (fun _ _ _ h => h) (Or.inl ⟨by rfl, ?_⟩) hHeld ?_
              rotate_left
              · (intro w hSw; (try dsimp only at hSw); go_simp; (try with_reducible rfl))
              simp only [Act.put, List.setIfInBounds_toArray, List.set_cons_zero, List.set_cons_succ]
              refine take_at 11 (v := ?_) (some 175) rfl rfl (by kernel_rfl) (by kernel_rfl) (by kernel_rfl) (fun _ _ _ h => h) (Or.inl ⟨by rfl, ?_⟩) hHeld ?_
              rotate_left
              · (intro w hSw; (try dsimp only at hSw); go_simp; (try with_reducible rfl))
              simp only [Act.put, List.setIfInBounds_toArray, List.set_cons_zero, List.set_cons_succ]
              refine take_at 12 (v := ?_) (some 176) rfl rfl (by kernel_rfl) (by kernel_rfl) (by kernel_rfl) (fun _ _ _ h => h) (Or.inl ⟨by rfl, ?_⟩) hHeld ?_
              rotate_left
              · (intro w hSw; (try dsimp only at hSw); go_simp; (try with_reducible rfl))
              simp only [Act.put, List.setIfInBounds_toArray, List.set_cons_zero, List.set_cons_succ]
              refine take_at 13 (v := ?_) (some 177) rfl rfl (by kernel_rfl) (by kernel_rfl) (by kernel_rfl) (fun _ _ _ h => h) (Or.inl ⟨by rfl, ?_⟩) hHeld ?_
              rotate_left
              · (intro w hSw; (try dsimp only at hSw); go_simp; (try with_reducible rfl))
              simp only [Act.put, List.setIfInBounds_toArray, List.set_cons_zero, List.set_cons_succ]
              refine take_at 14 (v := ?_) (some 178) rfl rfl (by kernel_rfl) (by kernel_rfl) (by kernel_rfl) (fun _ _ _ h => h) (Or.inl ⟨by rfl, ?_⟩) hHeld ?_
              rotate_left
              · (intro w hSw; (try dsimp only at hSw); go_simp; (try with_reducible rfl))
              simp only [Act.put, List.setIfInBounds_toArray, List.set_cons_zero, List.set_cons_succ]
              refine take_at 15 (v := ?_) (some 179) rfl rfl (by kernel_rfl) (by kernel_rfl) (by kernel_rfl) (fun _ _ _ h => h) (Or.inl ⟨by rfl, ?_⟩) hHeld ?_
              rotate_left
              · (intro w hSw; (try dsimp only at hSw); go_simp; (try with_reducible rfl))
              simp only [Act.put, List.setIfInBounds_toArray, List.set_cons_zero, List.set_cons_succ]
              refine take_at 16 (v := undef) (some 180) rfl rfl (by kernel_rfl) (by kernel_rfl) (by kernel_rfl) (fun _ _ _ h => h) (Or.inr ⟨by rfl, rfl⟩) hHeld ?_
              simp only [Act.put, List.setIfInBounds_toArray, List.set_cons_zero, List.set_cons_succ]
              refine take_at 17 (v := undef) (some 181) rfl rfl (by kernel_rfl) (by kernel_rfl) (by kernel_rfl) (fun _ _ _ h => h) (Or.inr ⟨by rfl, rfl⟩) hHeld ?_
              simp only [Act.put, List.setIfInBounds_toArray, List.set_cons_zero, List.set_cons_succ]
              refine take_at 18 (v := undef) (some 182) rfl rfl (by kernel_rfl) (by kernel_rfl) (by kernel_rfl) (fun _ _ _ h => h) (Or.inr ⟨by rfl, rfl⟩) hHeld ?_
              simp only [Act.put, List.setIfInBounds_toArray, List.set_cons_zero, List.set_cons_succ]
              refine take_at 19 (v := undef) (some 183) rfl rfl (by kernel_rfl) (by kernel_rfl) (by kernel_rfl) (fun _ _ _ h => h) (Or.inr ⟨by rfl, rfl⟩) hHeld ?_
              simp only [Act.put, List.setIfInBounds_toArray, List.set_cons_zero, List.set_cons_succ]
              refine take_at 20 (v := undef) (some 184) rfl rfl (by kernel_rfl) (by kernel_rfl) (by kernel_rfl) (fun _ _ _ h => h) (Or.inr ⟨by rfl, rfl⟩) hHeld ?_
              simp only [Act.put, List.setIfInBounds_toArray, List.set_cons_zero, List.set_cons_succ]
              refine take_at 21 (v := undef) (some 185) rfl rfl (by kernel_rfl) (by kernel_rfl) (by kernel_rfl) (fun _ _ _ h => h) (Or.inr ⟨by rfl, rfl⟩) hHeld ?_
              simp only [Act.put, List.setIfInBounds_toArray, List.set_cons_zero, List.set_cons_succ]
              refine take_at 22 (v := undef) (some 186) rfl rfl (by kernel_rfl) (by kernel_rfl) (by kernel_rfl) (fun _ _ _ h => h) (Or.inr ⟨by rfl, rfl⟩) hHeld ?_
              simp only [Act.put, List.setIfInBounds_toArray, List.set_cons_zero, List.set_cons_succ]
              refine take_at 23 (v := undef) (some 187) rfl rfl (by kernel_rfl) (by kernel_rfl) (by kernel_rfl) (fun _ _ _ h => h) (Or.inr ⟨by rfl, rfl⟩) hHeld ?_
              simp only [Act.put, List.setIfInBounds_toArray, List.set_cons_zero, List.set_cons_succ]
              refine take_at 25 (v := undef) (some 189) rfl rfl (by kernel_rfl) (by kernel_rfl) (by kernel_rfl) (fun _ _ _ h => h) (Or.inr ⟨by rfl, rfl⟩) hHeld ?_
              simp only [Act.put, List.setIfInBounds_toArray, List.set_cons_zero, List.set_cons_succ]
              refine take_at 24 (v := undef) (some 188) rfl rfl (by kernel_rfl) (by kernel_rfl) (by kernel_rfl) (fun _ _ _ h => h) (Or.inr ⟨by rfl, rfl⟩) hHeld ?_
              simp only [Act.put, List.setIfInBounds_toArray, List.set_cons_zero, List.set_cons_succ]
              refine take_at 26 (v := undef) (some 190) rfl rfl (by kernel_rfl) (by kernel_rfl) (by kernel_rfl) (fun _ _ _ h => h) (Or.inr ⟨by rfl, rfl⟩) hHeld ?_
              simp only [Act.put, List.setIfInBounds_toArray, List.set_cons_zero, List.set_cons_succ]
              refine take_at 27 (v := undef) (some 191) rfl rfl (by kernel_rfl) (by kernel_rfl) (by kernel_rfl) (fun _ _ _ h => h) (Or.inr ⟨by rfl, rfl⟩) hHeld ?_
              simp only [Act.put, List.setIfInBounds_toArray, List.set_cons_zero, List.set_cons_succ]
              refine take_at 28 (v := ?_) (some 192) rfl rfl (by kernel_rfl) (by kernel_rfl) (by kernel_rfl) (fun _ _ _ h => h) (Or.inl ⟨by rfl, ?_⟩) hHeld ?_
              rotate_left
              · (intro w hSw; (try dsimp only at hSw); go_simp; (try with_reducible rfl))
              simp only [Act.put, List.setIfInBounds_toArray, List.set_cons_zero, List.set_cons_succ]
              refine take_at 29 (v := ?_) (some 193) rfl rfl (by kernel_rfl) (by kernel_rfl) (by kernel_rfl) (fun _ _ _ h => h) (Or.inl ⟨by rfl, ?_⟩) hHeld ?_
              rotate_left
              · (intro w hSw; (try dsimp only at hSw); go_simp; (try with_reducible rfl))
              simp only [Act.put, List.setIfInBounds_toArray, List.set_cons_zero, List.set_cons_succ]
              refine wpAnyH_done (by kernel_rfl) ?_ _
              go_split_ands

              go_wp2_with fail
              go_roundw
              case rel => exact ⟨k3 + 1, c3, by omega, by go_num, rfl, by omega, Lib.hid (HCH.out), HF.out.drew⟩
              case measure => simp [intOf]; omega
            · have p4 : wr.cell? ⟨jb, 4, none⟩ = some (.bool false) := by have := HJ4.out; rwa [hch] at this
              have p5 : wr.cell? ⟨jb, 5, none⟩ = some (.bool true) := by have := HJ4b.out; rwa [hen] at this
              have p7 : wr.cell? ⟨db, k3, none⟩ = some (.bool true) := by have := HD4.out; rwa [← hdn, hen] at this
              have HJ5 := Lib.hid (show w7.cell? ⟨jb, 5, none⟩ = some (.bool true) by have := HJ7.out; rwa [hen] at this)
              have HD5 := Lib.hid (show w7.cell? ⟨db, k3, none⟩ = some (.bool true) by have := HD7.out; rwa [← hdn, hen] at this)
              have HBE := Lib.hid (HE.out.ended HWH.out rfl HSV.out HAV.out hlt (by rw [← hdn]; exact hen))
              rw [← HNW.out] at HBE
              have HCH := Lib.hid (show (0 < c3 → ∃ j, j < ls.length ∧ (x.s.2 j).ch = true) from HCO.out)
              clear hch hen hdn
              go_wp2_with fail
              refine wp_region_held_drew (S := (fun w' => w'.cell? ⟨jb, 5, none⟩ = some (.bool true) ∧ w'.cell? ⟨rb, 1, none⟩ = some (.slice (some ⟨db, 0, none⟩) ls.length ls.length) ∧ w'.cell? ⟨db, k3, none⟩ = some (.bool true))) (by kernel_rfl) ?_ (fun hHeld => ?_)
              · exact ⟨p5, p6, p7⟩
              refine take_at 0 (v := ?_) (some 164) rfl rfl (by kernel_rfl) (by kernel_rfl) (by kernel_rfl) (fun _ _ _ h => h) (Or.inl ⟨by rfl, ?_⟩) hHeld ?_
              rotate_left
              · (intro w hSw; (try dsimp only at hSw); go_simp; (try with_reducible rfl))
              simp only [Act.put, List.setIfInBounds_toArray, List.set_cons_zero, List.set_cons_succ]
              refine take_at 1 (v := ?_) (some 165) rfl rfl (by kernel_rfl) (by kernel_rfl) (by kernel_rfl) (fun _ _ _ h => h) (Or.inl ⟨by rfl, ?_⟩) hHeld ?_
              rotate_left
              · (intro w hSw; (try dsimp only at hSw); go_simp; (try with_reducible rfl))
              simp only [Act.put, List.setIfInBounds_toArray, List.set_cons_zero, List.set_cons_succ]
              refine take_at 2 (v := ?_) (some 166) rfl rfl (by kernel_rfl) (by kernel_rfl) (by kernel_rfl) (fun _ _ _ h => h) (Or.inl ⟨by rfl, ?_⟩) hHeld ?_
              rotate_left
              · (intro w hSw; (try dsimp only at hSw); go_simp; (try with_reducible rfl))
              simp only [Act.put, List.setIfInBounds_toArray, List.set_cons_zero, List.set_cons_succ]
              refine take_at 3 (v := ?_) (some 167) rfl rfl (by kernel_rfl) (by kernel_rfl) (by kernel_rfl) (fun _ _ _ h => h) (Or.inl ⟨by rfl, ?_⟩) hHeld ?_
              rotate_left
              · (intro w hSw; (try dsimp only at hSw); go_simp; (try with_reducible rfl))
              simp only [Act.put, List.setIfInBounds_toArray, List.set_cons_zero, List.set_cons_succ]
              refine take_at 4 (v := ?_) (some 168) rfl rfl (by kernel_rfl) (by kernel_rfl) (by kernel_rfl) (fun _ _ _ h => h) (Or.inl ⟨by rfl, ?_⟩) hHeld ?_
              rotate_left
              · (intro w hSw; (try dsimp only at hSw); go_simp; (try with_reducible rfl))
              simp only [Act.put, List.setIfInBounds_toArray, List.set_cons_zero, List.set_cons_succ]
              refine take_at 5 (v := ?_) (some 169) rfl rfl (by kernel_rfl) (by kernel_rfl) (by kernel_rfl) (fun _ _ _ h => h) (Or.inl ⟨by rfl, ?_⟩) hHeld ?_
              rotate_left
              · (intro w hSw; (try dsimp only at hSw); go_simp; (try with_reducible rfl))
              simp only [Act.put, List.setIfInBounds_toArray, List.set_cons_zero, List.set_cons_succ]
              refine take_at 6 (v := ?_) (some 170) rfl rfl (by kernel_rfl) (by kernel_rfl) (by kernel_rfl) (fun _ _ _ h => h) (Or.inl ⟨by rfl, ?_⟩) hHeld ?_
              rotate_left
              · (intro w hSw; (try dsimp only at hSw); go_simp; (try with_reducible rfl))
              simp only [Act.put, List.setIfInBounds_toArray, List.set_cons_zero, List.set_cons_succ]
              refine take_at 7 (v := ?_) (some 171) rfl rfl (by kernel_rfl) (by kernel_rfl) (by kernel_rfl) (fun _ _ _ h => h) (Or.inl ⟨by rfl, ?_⟩) hHeld ?_
              rotate_left
              · (intro w hSw; (try dsimp only at hSw); go_simp; (try with_reducible rfl))
              simp only [Act.put, List.setIfInBounds_toArray, List.set_cons_zero, List.set_cons_succ]
              refine take_at 8 (v := ?_) (some 172) rfl rfl (by kernel_rfl) (by kernel_rfl) (by kernel_rfl) (fun _ _ _ h => h) (Or.inl ⟨by rfl, ?_⟩) hHeld ?_
              rotate_left
              · (intro w hSw; (try dsimp only at hSw); go_simp; (try with_reducible rfl))
              simp only [Act.put, List.setIfInBounds_toArray, List.set_cons_zero, List.set_cons_succ]
              refine take_at 9 (v := ?_) (some 173) rfl rfl (by kernel_rfl) (by kernel_rfl) (by kernel_rfl) (fun _ _ _ h => h) (Or.inl ⟨by rfl, ?_⟩) hHeld ?_
              rotate_left
              · (intro w hSw; (try dsimp only at hSw); go_simp; (try with_reducible rfl))
              simp only [Act.put, List.setIfInBounds_toArray, List.set_cons_zero, List.set_cons_succ]
              refine take_at 10 (v := ?_) (some 174) rfl rfl (by kernel_rfl) (by kernel_rfl) (by kernel_rfl) (fun _ _ _ h => h) (Or.inl ⟨by rfl, ?_⟩) hHeld ?_
              rotate_left
              · (intro w hSw; (try dsimp only at hSw); go_simp; (try with_reducible rfl))
              simp only [Act.put, List.setIfInBounds_toArray, List.set_cons_zero, List.set_cons_succ]
              refine take_at 11 (v := ?_) (some 175) rfl rfl (by kernel_rfl) (by kernel_rfl) (by kernel_rfl) (fun _ _ _ h => h) (Or.inl ⟨by rfl, ?_⟩) hHeld ?_
              rotate_left
              · (intro w hSw; (try dsimp only at hSw); go_simp; (try with_reducible rfl))
              simp only [Act.put, List.setIfInBounds_toArray, List.set_cons_zero, List.set_cons_succ]
              refine take_at 12 (v := ?_) (some 176) rfl rfl (by kernel_rfl) (by kernel_rfl) (by kernel_rfl) (fun _ _ _ h => h) (Or.inl ⟨by rfl, ?_⟩) hHeld ?_
              rotate_left
              · (intro w hSw; (try dsimp only at hSw); go_simp; (try with_reducible rfl))
              simp only [Act.put, List.setIfInBounds_toArray, List.set_cons_zero, List.set_cons_succ]
              refine take_at 13 (v := ?_) (some 177) rfl rfl (by kernel_rfl) (by kernel_rfl) (by kernel_rfl) (fun _ _ _ h => h) (Or.inl ⟨by rfl, ?_⟩) hHeld ?_
              rotate_left
              · (intro w hSw; (try dsimp only at hSw); go_simp; (try with_reducible rfl))
              simp only [Act.put, List.setIfInBounds_toArray, List.set_cons_zero, List.set_cons_succ]
              refine take_at 14 (v := ?_) (some 178) rfl rfl (by kernel_rfl) (by kernel_rfl) (by kernel_rfl) (fun _ _ _ h => h) (Or.inl ⟨by rfl, ?_⟩) hHeld ?_
              rotate_left
              · (intro w hSw; (try dsimp only at hSw); go_simp; (try with_reducible rfl))
              simp only [Act.put, List.setIfInBounds_toArray, List.set_cons_zero, List.set_cons_succ]
              refine take_at 15 (v := ?_) (some 179) rfl rfl (by kernel_rfl) (by kernel_rfl) (by kernel_rfl) (fun _ _ _ h => h) (Or.inl ⟨by rfl, ?_⟩) hHeld ?_
              rotate_left
              · (intro w hSw; (try dsimp only at hSw); go_simp; (try with_reducible rfl))
              simp only [Act.put, List.setIfInBounds_toArray, List.set_cons_zero, List.set_cons_succ]
              refine take_at 16 (v := ?_) (some 180) rfl rfl (by kernel_rfl) (by kernel_rfl) (by kernel_rfl) (fun _ _ _ h => h) (Or.inl ⟨by rfl, ?_⟩) hHeld ?_
              rotate_left
              · (intro w hSw; (try dsimp only at hSw); go_simp; (try with_reducible rfl))
              simp only [Act.put, List.setIfInBounds_toArray, List.set_cons_zero, List.set_cons_succ]
              refine take_at 17 (v := ?_) (some 181) rfl rfl (by kernel_rfl) (by kernel_rfl) (by kernel_rfl) (fun _ _ _ h => h) (Or.inl ⟨by rfl, ?_⟩) hHeld ?_
              rotate_left
              · (intro w hSw; (try dsimp only at hSw); go_simp; (try with_reducible rfl))
              simp only [Act.put, List.setIfInBounds_toArray, List.set_cons_zero, List.set_cons_succ]
              refine take_at 18 (v := ?_) (some 182) rfl rfl (by kernel_rfl) (by kernel_rfl) (by kernel_rfl) (fun _ _ _ h => h) (Or.inl ⟨by rfl, ?_⟩) hHeld ?_
              rotate_left
              · (intro w hSw; (try dsimp only at hSw); go_simp; (try with_reducible rfl))
              simp only [Act.put, List.setIfInBounds_toArray, List.set_cons_zero, List.set_cons_succ]
              refine take_at 19 (v := ?_) (some 183) rfl rfl (by kernel_rfl) (by kernel_rfl) (by kernel_rfl) (fun _ _ _ h => h) (Or.inl ⟨by rfl, ?_⟩) hHeld ?_
              rotate_left
              · (intro w hSw; (try dsimp only at hSw); go_simp; (try with_reducible rfl))
              simp only [Act.put, List.setIfInBounds_toArray, List.set_cons_zero, List.set_cons_succ]
              refine take_at 20 (v := ?_) (some 184) rfl rfl (by kernel_rfl) (by kernel_rfl) (by kernel_rfl) (fun _ _ _ h => h) (Or.inl ⟨by rfl, ?_⟩) hHeld ?_
              rotate_left
              · (intro w hSw; (try dsimp only at hSw); go_simp; (try with_reducible rfl))
              simp only [Act.put, List.setIfInBounds_toArray, List.set_cons_zero, List.set_cons_succ]
              refine take_at 21 (v := ?_) (some 185) rfl rfl (by kernel_rfl) (by kernel_rfl) (by kernel_rfl) (fun _ _ _ h => h) (Or.inl ⟨by rfl, ?_⟩) hHeld ?_
              rotate_left
              · (intro w hSw; (try dsimp only at hSw); go_simp; (try with_reducible rfl))
              simp only [Act.put, List.setIfInBounds_toArray, List.set_cons_zero, List.set_cons_succ]
              refine take_at 22 (v := ?_) (some 186) rfl rfl (by kernel_rfl) (by kernel_rfl) (by kernel_rfl) (fun _ _ _ h => h) (Or.inl ⟨by rfl, ?_⟩) hHeld ?_
              rotate_left
              · (intro w hSw; (try dsimp only at hSw); go_simp; (try with_reducible rfl))
              simp only [Act.put, List.setIfInBounds_toArray, List.set_cons_zero, List.set_cons_succ]
              refine take_at 23 (v := ?_) (some 187) rfl rfl (by kernel_rfl) (by kernel_rfl) (by kernel_rfl) (fun _ _ _ h => h) (Or.inl ⟨by rfl, ?_⟩) hHeld ?_
              rotate_left
              · (intro w hSw; (try dsimp only at hSw); go_simp; (try with_reducible rfl))
              simp only [Act.put, List.setIfInBounds_toArray, List.set_cons_zero, List.set_cons_succ]
              refine take_at 25 (v := ?_) (some 189) rfl rfl (by kernel_rfl) (by kernel_rfl) (by kernel_rfl) (fun _ _ _ h => h) (Or.inl ⟨by rfl, ?_⟩) hHeld ?_
              rotate_left
              · (intro w hSw; (try dsimp only at hSw); go_simp; (try with_reducible rfl))
              simp only [Act.put, List.setIfInBounds_toArray, List.set_cons_zero, List.set_cons_succ]
              refine wpAnyH_ready (rs := [24]) (by kernel_rfl) (by simp) ?_
              refine AllReadyH.cons rfl (fun K hK => ?_) AllReadyH.nil
              go_simp
              refine (rsum_all what _ _ A [ls[k3]?.getD []] (wordE what) _ (HA.out.below (HFW.out.trans HF.out).drew.below) HLK.out (by omega) (by simp) (wordE_lt what) (rlword_any what)).mono ?_; rintro e v1 ⟨u, rfl, hU, hB⟩; have HU := Lib.hid hU; have HG1 := Lib.hid (show Fr [] w7 v1 from HF.out.drew.trans (.of hB)); clear hU hB
              go_wp2_with fail
              refine hK.out _ _ ?_ (fun hHeld => ?_)
              · (try dsimp only at hHeld ⊢)
                go_split_ands
                exact ⟨keepc (HJ5.out) (HG1.out.below), keepc (HR5.out) (HG1.out.below), keepc (HD5.out) (HG1.out.below)⟩
              clear hK K
              try simp only [Act.put, List.setIfInBounds_toArray, List.set_cons_zero, List.set_cons_succ]
              refine wpAnyH_ready (rs := [26]) (by kernel_rfl) (by simp) ?_
              refine AllReadyH.cons rfl (fun K hK => ?_) AllReadyH.nil
              go_simp
              refine (rlbelow_any what _ _ (sumE (wordE what) A [ls[k3]?.getD []]) nw _ HU.out (HN.out.below HG1.out.below) (by rw [sumE_len]; omega) (by rw [sumE_len, HNL.out])).mono ?_; rintro e v2 ⟨rfl, hB⟩; rw [HBE.out]; have HG2 := Lib.hid (show Fr [] w7 v2 from HG1.out.trans (.of hB)); clear hB
              go_wp2_with fail
              refine hK.out _ _ ?_ (fun hHeld => ?_)
              · (try dsimp only at hHeld ⊢)
                go_split_ands
                exact ⟨keepc (HJ5.out) (HG2.out.below), keepc (HR5.out) (HG2.out.below), keepc (HD5.out) (HG2.out.below)⟩
              clear hK K
              try simp only [Act.put, List.setIfInBounds_toArray, List.set_cons_zero, List.set_cons_succ]
              refine take_at 27 (v := ?_) (some 191) rfl rfl (by kernel_rfl) (by kernel_rfl) (by kernel_rfl) (fun _ _ _ h => h) (Or.inl ⟨by rfl, ?_⟩) hHeld ?_
              rotate_left
              · (intro w hSw; (try dsimp only at hSw); go_simp; (try with_reducible rfl))
              simp only [Act.put, List.setIfInBounds_toArray, List.set_cons_zero, List.set_cons_succ]
              refine take_at 28 (v := ?_) (some 192) rfl rfl (by kernel_rfl) (by kernel_rfl) (by kernel_rfl) (fun _ _ _ h => h) (Or.inl ⟨by rfl, ?_⟩) hHeld ?_
              rotate_left
              · (intro w hSw; (try dsimp only at hSw); go_simp; (try with_reducible rfl))
              simp only [Act.put, List.setIfInBounds_toArray, List.set_cons_zero, List.set_cons_succ]
              refine take_at 29 (v := ?_) (some 193) rfl rfl (by kernel_rfl) (by kernel_rfl) (by kernel_rfl) (fun _ _ _ h => h) (Or.inl ⟨by rfl, ?_⟩) hHeld ?_
              rotate_left
              · (intro w hSw; (try dsimp only at hSw); go_simp; (try with_reducible rfl))
              simp only [Act.put, List.setIfInBounds_toArray, List.set_cons_zero, List.set_cons_succ]
              refine wpAnyH_done (by kernel_rfl) ?_ _
              go_split_ands

              go_wp2_with fail
              go_roundw
              case rel => exact ⟨k3 + 1, c3, by omega, by go_num, rfl, by omega, Lib.hid (HCH.out), HG2.out⟩
              case measure => simp [intOf]; omega
            · have p4 : wr.cell? ⟨jb, 4, none⟩ = some (.bool true) := by have := HJ4.out; rwa [hch] at this
              have p5 : wr.cell? ⟨jb, 5, none⟩ = some (.bool false) := by have := HJ4b.out; rwa [hen] at this
              have p7 : wr.cell? ⟨db, k3, none⟩ = some (.bool false) := by have := HD4.out; rwa [← hdn, hen] at this
              have HJ5 := Lib.hid (show w7.cell? ⟨jb, 5, none⟩ = some (.bool false) by have := HJ7.out; rwa [hen] at this)
              have HD5 := Lib.hid (show w7.cell? ⟨db, k3, none⟩ = some (.bool false) by have := HD7.out; rwa [← hdn, hen] at this)
              have HCH := Lib.hid (show (0 < c3 → ∃ j, j < ls.length ∧ (x.s.2 j).ch = true) from HCO.out)
              have HCH2 := Lib.hid (show ∃ j, j < ls.length ∧ (x.s.2 j).ch = true from ⟨k3, hlt, hch⟩)
              clear hch hen hdn
              go_wp2_with fail
              refine wp_region_held_drew (S := (fun w' => w'.cell? ⟨jb, 5, none⟩ = some (.bool false) ∧ w'.cell? ⟨rb, 1, none⟩ = some (.slice (some ⟨db, 0, none⟩) ls.length ls.length) ∧ w'.cell? ⟨db, k3, none⟩ = some (.bool false))) (by kernel_rfl) ?_ (fun hHeld => ?_)
              · exact ⟨p5, p6, p7⟩
              refine take_at 0 (v := ?_) (some 164) rfl rfl (by kernel_rfl) (by kernel_rfl) (by kernel_rfl) (fun _ _ _ h => h) (Or.inl ⟨by rfl, ?_⟩) hHeld ?_
              rotate_left
              · (intro w hSw; (try dsimp only at hSw); go_simp; (try with_reducible rfl))
              simp only [Act.put, List.setIfInBounds_toArray, List.set_cons_zero, List.set_cons_succ]
              refine take_at 1 (v := ?_) (some 165) rfl rfl (by kernel_rfl) (by kernel_rfl) (by kernel_rfl) (fun _ _ _ h => h) (Or.inl ⟨by rfl, ?_⟩) hHeld ?_
              rotate_left
              · (intro w hSw; (try dsimp only at hSw); go_simp; (try with_reducible rfl))
              simp only [Act.put, List.setIfInBounds_toArray, List.set_cons_zero, List.set_cons_succ]
              refine take_at 2 (v := ?_) (some 166) rfl rfl (by kernel_rfl) (by kernel_rfl) (by kernel_rfl) (fun _ _ _ h => h) (Or.inl ⟨by rfl, ?_⟩) hHeld ?_
              rotate_left
              · (intro w hSw; (try dsimp only at hSw); go_simp; (try with_reducible rfl))
              simp only [Act.put, List.setIfInBounds_toArray, List.set_cons_zero, List.set_cons_succ]
              refine take_at 3 (v := ?_) (some 167) rfl rfl (by kernel_rfl) (by kernel_rfl) (by kernel_rfl) (fun _ _ _ h => h) (Or.inl ⟨by rfl, ?_⟩) hHeld ?_
              rotate_left
              · (intro w hSw; (try dsimp only at hSw); go_simp; (try with_reducible rfl))
              simp only [Act.put, List.setIfInBounds_toArray, List.set_cons_zero, List.set_cons_succ]
              refine take_at 4 (v := ?_) (some 168) rfl rfl (by kernel_rfl) (by kernel_rfl) (by kernel_rfl) (fun _ _ _ h => h) (Or.inl ⟨by rfl, ?_⟩) hHeld ?_
              rotate_left
              · (intro w hSw; (try dsimp only at hSw); go_simp; (try with_reducible rfl))
              simp only [Act.put, List.setIfInBounds_toArray, List.set_cons_zero, List.set_cons_succ]
              refine take_at 5 (v := ?_) (some 169) rfl rfl (by kernel_rfl) (by kernel_rfl) (by kernel_rfl) (fun _ _ _ h => h) (Or.inl ⟨by rfl, ?_⟩) hHeld ?_
              rotate_left
              · (intro w hSw; (try dsimp only at hSw); go_simp; (try with_reducible rfl))
              simp only [Act.put, List.setIfInBounds_toArray, List.set_cons_zero, List.set_cons_succ]
              refine take_at 6 (v := ?_) (some 170) rfl rfl (by kernel_rfl) (by kernel_rfl) (by kernel_rfl) (fun _ _ _ h => h) (Or.inl ⟨by rfl, ?_⟩) hHeld ?_
              rotate_left
              · (intro w hSw; (try dsimp only at hSw); go_simp; (try with_reducible rfl))
              simp only [Act.put, List.setIfInBounds_toArray, List.set_cons_zero, List.set_cons_succ]
              refine take_at 7 (v := ?_) (some 171) rfl rfl (by kernel_rfl) (by kernel_rfl) (by kernel_rfl) (fun _ _ _ h => h) (Or.inl ⟨by rfl, ?_⟩) hHeld ?_
              rotate_left
              · (intro w hSw; (try dsimp only at hSw); go_simp; (try with_reducible rfl))
              simp only [Act.put, List.setIfInBounds_toArray, List.set_cons_zero, List.set_cons_succ]
              refine take_at 8 (v := ?_) (some 172) rfl rfl (by kernel_rfl) (by kernel_rfl) (by kernel_rfl) (fun _ _ _ h => h) (Or.inl ⟨by rfl, ?_⟩) hHeld ?_
              rotate_left
              · (intro w hSw; (try dsimp only at hSw); go_simp; (try with_reducible rfl))
              simp only [Act.put, List.setIfInBounds_toArray, List.set_cons_zero, List.set_cons_succ]
              refine take_at 9 (v := ?_) (some 173) rfl rfl (by kernel_rfl) (by kernel_rfl) (by kernel_rfl) (fun _ _ _ h => h) (Or.inl ⟨by rfl, ?_⟩) hHeld ?_
              rotate_left
              · (intro w hSw; (try dsimp only at hSw); go_simp; (try with_reducible rfl))
              simp only [Act.put, List.setIfInBounds_toArray, List.set_cons_zero, List.set_cons_succ]
              refine take_at 10 (v := ?_) (some 174) rfl rfl (by kernel_rfl) (by kernel_rfl) (by kernel_rfl) (fun _ _ _ h => h) (Or.inl ⟨by rfl, ?_⟩) hHeld ?_
              rotate_left
              · (intro w hSw; (try dsimp only at hSw); go_simp; (try with_reducible rfl))
              simp only [Act.put, List.setIfInBounds_toArray, List.set_cons_zero, List.set_cons_succ]
              refine take_at 11 (v := ?_) (some 175) rfl rfl (by kernel_rfl) (by kernel_rfl) (by kernel_rfl) (fun _ _ _ h => h) (Or.inl ⟨by rfl, ?_⟩) hHeld ?_
              rotate_left
              · (intro w hSw; (try dsimp only at hSw); go_simp; (try with_reducible rfl))
              simp only [Act.put, List.setIfInBounds_toArray, List.set_cons_zero, List.set_cons_succ]
              refine take_at 12 (v := ?_) (some 176) rfl rfl (by kernel_rfl) (by kernel_rfl) (by kernel_rfl) (fun _ _ _ h => h) (Or.inl ⟨by rfl, ?_⟩) hHeld ?_
              rotate_left
              · (intro w hSw; (try dsimp only at hSw); go_simp; (try with_reducible rfl))
              simp only [Act.put, List.setIfInBounds_toArray, List.set_cons_zero, List.set_cons_succ]
              refine take_at 13 (v := ?_) (some 177) rfl rfl (by kernel_rfl) (by kernel_rfl) (by kernel_rfl) (fun _ _ _ h => h) (Or.inl ⟨by rfl, ?_⟩) hHeld ?_
              rotate_left
              · (intro w hSw; (try dsimp only at hSw); go_simp; (try with_reducible rfl))
              simp only [Act.put, List.setIfInBounds_toArray, List.set_cons_zero, List.set_cons_succ]
              refine take_at 14 (v := ?_) (some 178) rfl rfl (by kernel_rfl) (by kernel_rfl) (by kernel_rfl) (fun _ _ _ h => h) (Or.inl ⟨by rfl, ?_⟩) hHeld ?_
              rotate_left
              · (intro w hSw; (try dsimp only at hSw); go_simp; (try with_reducible rfl))
              simp only [Act.put, List.setIfInBounds_toArray, List.set_cons_zero, List.set_cons_succ]
              refine take_at 15 (v := ?_) (some 179) rfl rfl (by kernel_rfl) (by kernel_rfl) (by kernel_rfl) (fun _ _ _ h => h) (Or.inl ⟨by rfl, ?_⟩) hHeld ?_
              rotate_left
              · (intro w hSw; (try dsimp only at hSw); go_simp; (try with_reducible rfl))
              simp only [Act.put, List.setIfInBounds_toArray, List.set_cons_zero, List.set_cons_succ]
              refine take_at 16 (v := undef) (some 180) rfl rfl (by kernel_rfl) (by kernel_rfl) (by kernel_rfl) (fun _ _ _ h => h) (Or.inr ⟨by rfl, rfl⟩) hHeld ?_
              simp only [Act.put, List.setIfInBounds_toArray, List.set_cons_zero, List.set_cons_succ]
              refine take_at 17 (v := undef) (some 181) rfl rfl (by kernel_rfl) (by kernel_rfl) (by kernel_rfl) (fun _ _ _ h => h) (Or.inr ⟨by rfl, rfl⟩) hHeld ?_
              simp only [Act.put, List.setIfInBounds_toArray, List.set_cons_zero, List.set_cons_succ]
              refine take_at 18 (v := undef) (some 182) rfl rfl (by kernel_rfl) (by kernel_rfl) (by kernel_rfl) (fun _ _ _ h => h) (Or.inr ⟨by rfl, rfl⟩) hHeld ?_
              simp only [Act.put, List.setIfInBounds_toArray, List.set_cons_zero, List.set_cons_succ]
              refine take_at 19 (v := undef) (some 183) rfl rfl (by kernel_rfl) (by kernel_rfl) (by kernel_rfl) (fun _ _ _ h => h) (Or.inr ⟨by rfl, rfl⟩) hHeld ?_
              simp only [Act.put, List.setIfInBounds_toArray, List.set_cons_zero, List.set_cons_succ]
              refine take_at 20 (v := undef) (some 184) rfl rfl (by kernel_rfl) (by kernel_rfl) (by kernel_rfl) (fun _ _ _ h => h) (Or.inr ⟨by rfl, rfl⟩) hHeld ?_
              simp only [Act.put, List.setIfInBounds_toArray, List.set_cons_zero, List.set_cons_succ]
              refine take_at 21 (v := undef) (some 185) rfl rfl (by kernel_rfl) (by kernel_rfl) (by kernel_rfl) (fun _ _ _ h => h) (Or.inr ⟨by rfl, rfl⟩) hHeld ?_
              simp only [Act.put, List.setIfInBounds_toArray, List.set_cons_zero, List.set_cons_succ]
              refine take_at 22 (v := undef) (some 186) rfl rfl (by kernel_rfl) (by kernel_rfl) (by kernel_rfl) (fun _ _ _ h => h) (Or.inr ⟨by rfl, rfl⟩) hHeld ?_
              simp only [Act.put, List.setIfInBounds_toArray, List.set_cons_zero, List.set_cons_succ]
              refine take_at 23 (v := undef) (some 187) rfl rfl (by kernel_rfl) (by kernel_rfl) (by kernel_rfl) (fun _ _ _ h => h) (Or.inr ⟨by rfl, rfl⟩) hHeld ?_
              simp only [Act.put, List.setIfInBounds_toArray, List.set_cons_zero, List.set_cons_succ]
              refine take_at 25 (v := undef) (some 189) rfl rfl (by kernel_rfl) (by kernel_rfl) (by kernel_rfl) (fun _ _ _ h => h) (Or.inr ⟨by rfl, rfl⟩) hHeld ?_
              simp only [Act.put, List.setIfInBounds_toArray, List.set_cons_zero, List.set_cons_succ]
              refine take_at 24 (v := undef) (some 188) rfl rfl (by kernel_rfl) (by kernel_rfl) (by kernel_rfl) (fun _ _ _ h => h) (Or.inr ⟨by rfl, rfl⟩) hHeld ?_
              simp only [Act.put, List.setIfInBounds_toArray, List.set_cons_zero, List.set_cons_succ]
              refine take_at 26 (v := undef) (some 190) rfl rfl (by kernel_rfl) (by kernel_rfl) (by kernel_rfl) (fun _ _ _ h => h) (Or.inr ⟨by rfl, rfl⟩) hHeld ?_
              simp only [Act.put, List.setIfInBounds_toArray, List.set_cons_zero, List.set_cons_succ]
              refine take_at 27 (v := undef) (some 191) rfl rfl (by kernel_rfl) (by kernel_rfl) (by kernel_rfl) (fun _ _ _ h => h) (Or.inr ⟨by rfl, rfl⟩) hHeld ?_
              simp only [Act.put, List.setIfInBounds_toArray, List.set_cons_zero, List.set_cons_succ]
              refine take_at 28 (v := ?_) (some 192) rfl rfl (by kernel_rfl) (by kernel_rfl) (by kernel_rfl) (fun _ _ _ h => h) (Or.inl ⟨by rfl, ?_⟩) hHeld ?_
              rotate_left
              · (intro w hSw; (try dsimp only at hSw); go_simp; (try with_reducible rfl))
              simp only [Act.put, List.setIfInBounds_toArray, List.set_cons_zero, List.set_cons_succ]
              refine take_at 29 (v := ?_) (some 193) rfl rfl (by kernel_rfl) (by kernel_rfl) (by kernel_rfl) (fun _ _ _ h => h) (Or.inl ⟨by rfl, ?_⟩) hHeld ?_
              rotate_left
              · (intro w hSw; (try dsimp only at hSw); go_simp; (try with_reducible rfl))
              simp only [Act.put, List.setIfInBounds_toArray, List.set_cons_zero, List.set_cons_succ]
              refine wpAnyH_done (by kernel_rfl) ?_ _
              go_split_ands

              go_wp2_with fail
              go_roundw
              case rel => exact ⟨k3 + 1, c3 + 1, by omega, by go_num, by go_num, by omega, Lib.hid (fun _ => HCH2.out), HF.out.drew⟩
              case measure => simp [intOf]; omega
            · have p4 : wr.cell? ⟨jb, 4, none⟩ = some (.bool true) := by have := HJ4.out; rwa [hch] at this
              have p5 : wr.cell? ⟨jb, 5, none⟩ = some (.bool true) := by have := HJ4b.out; rwa [hen] at this
              have p7 : wr.cell? ⟨db, k3, none⟩ = some (.bool true) := by have := HD4.out; rwa [← hdn, hen] at this
              have HJ5 := Lib.hid (show w7.cell? ⟨jb, 5, none⟩ = some (.bool true) by have := HJ7.out; rwa [hen] at this)
              have HD5 := Lib.hid (show w7.cell? ⟨db, k3, none⟩ = some (.bool true) by have := HD7.out; rwa [← hdn, hen] at this)
              have HBE := Lib.hid (HE.out.ended HWH.out rfl HSV.out HAV.out hlt (by rw [← hdn]; exact hen))
              rw [← HNW.out] at HBE
              have HCH := Lib.hid (show (0 < c3 → ∃ j, j < ls.length ∧ (x.s.2 j).ch = true) from HCO.out)
              have HCH2 := Lib.hid (show ∃ j, j < ls.length ∧ (x.s.2 j).ch = true from ⟨k3, hlt, hch⟩)
              clear hch hen hdn
              go_wp2_with fail
              refine wp_region_held_drew (S := (fun w' => w'.cell? ⟨jb, 5, none⟩ = some (.bool true) ∧ w'.cell? ⟨rb, 1, none⟩ = some (.slice (some ⟨db, 0, none⟩) ls.length ls.length) ∧ w'.cell? ⟨db, k3, none⟩ = some (.bool true))) (by kernel_rfl) ?_ (fun hHeld => ?_)
              · exact ⟨p5, p6, p7⟩
              refine take_at 0 (v := ?_) (some 164) rfl rfl (by kernel_rfl) (by kernel_rfl) (by kernel_rfl) (fun _ _ _ h => h) (Or.inl ⟨by rfl, ?_⟩) hHeld ?_
              rotate_left
              · (intro w hSw; (try dsimp only at hSw); go_simp; (try with_reducible rfl))
              simp only [Act.put, List.setIfInBounds_toArray, List.set_cons_zero, List.set_cons_succ]
              refine take_at 1 (v := ?_) (some 165) rfl rfl (by kernel_rfl) (by kernel_rfl) (by kernel_rfl) (fun _ _ _ h => h) (Or.inl ⟨by rfl, ?_⟩) hHeld ?_
              rotate_left
              · (intro w hSw; (try dsimp only at hSw); go_simp; (try with_reducible rfl))
              simp only [Act.put, List.setIfInBounds_toArray, List.set_cons_zero, List.set_cons_succ]
              refine take_at 2 (v := ?_) (some 166) rfl rfl (by kernel_rfl) (by kernel_rfl) (by kernel_rfl) (fun _ _ _ h => h) (Or.inl ⟨by rfl, ?_⟩) hHeld ?_
              rotate_left
              · (intro w hSw; (try dsimp only at hSw); go_simp; (try with_reducible rfl))
              simp only [Act.put, List.setIfInBounds_toArray, List.set_cons_zero, List.set_cons_succ]
              refine take_at 3 (v := ?_) (some 167) rfl rfl (by kernel_rfl) (by kernel_rfl) (by kernel_rfl) (fun _ _ _ h => h) (Or.inl ⟨by rfl, ?_⟩) hHeld ?_
              rotate_left
              · (intro w hSw; (try dsimp only at hSw); go_simp; (try with_reducible rfl))
              simp only [Act.put, List.setIfInBounds_toArray, List.set_cons_zero, List.set_cons_succ]
              refine take_at 4 (v := ?_) (some 168) rfl rfl (by kernel_rfl) (by kernel_rfl) (by kernel_rfl) (fun _ _ _ h => h) (Or.inl ⟨by rfl, ?_⟩) hHeld ?_
              rotate_left
              · (intro w hSw; (try dsimp only at hSw); go_simp; (try with_reducible rfl))
              simp only [Act.put, List.setIfInBounds_toArray, List.set_cons_zero, List.set_cons_succ]
              refine take_at 5 (v := ?_) (some 169) rfl rfl (by kernel_rfl) (by kernel_rfl) (by kernel_rfl) (fun _ _ _ h => h) (Or.inl ⟨by rfl, ?_⟩) hHeld ?_
              rotate_left
              · (intro w hSw; (try dsimp only at hSw); go_simp; (try with_reducible rfl))
              simp only [Act.put, List.setIfInBounds_toArray, List.set_cons_zero, List.set_cons_succ]
              refine take_at 6 (v := ?_) (some 170) rfl rfl (by kernel_rfl) (by kernel_rfl) (by kernel_rfl) (fun _ _ _ h => h) (Or.inl ⟨by rfl, ?_⟩) hHeld ?_
              rotate_left
              · (intro w hSw; (try dsimp only at hSw); go_simp; (try with_reducible rfl))
              simp only [Act.put, List.setIfInBounds_toArray, List.set_cons_zero, List.set_cons_succ]
              refine take_at 7 (v := ?_) (some 171) rfl rfl (by kernel_rfl) (by kernel_rfl) (by kernel_rfl) (fun _ _ _ h => h) (Or.inl ⟨by rfl, ?_⟩) hHeld ?_
              rotate_left
              · (intro w hSw; (try dsimp only at hSw); go_simp; (try with_reducible rfl))
              simp only [Act.put, List.setIfInBounds_toArray, List.set_cons_zero, List.set_cons_succ]
              refine take_at 8 (v := ?_) (some 172) rfl rfl (by kernel_rfl) (by kernel_rfl) (by kernel_rfl) (fun _ _ _ h => h) (Or.inl ⟨by rfl, ?_⟩) hHeld ?_
              rotate_left
              · (intro w hSw; (try dsimp only at hSw); go_simp; (try with_reducible rfl))
              simp only [Act.put, List.setIfInBounds_toArray, List.set_cons_zero, List.set_cons_succ]
              refine take_at 9 (v := ?_) (some 173) rfl rfl (by kernel_rfl) (by kernel_rfl) (by kernel_rfl) (fun _ _ _ h => h) (Or.inl ⟨by rfl, ?_⟩) hHeld ?_
              rotate_left
              · (intro w hSw; (try dsimp only at hSw); go_simp; (try with_reducible rfl))
              simp only [Act.put, List.setIfInBounds_toArray, List.set_cons_zero, List.set_cons_succ]
              refine take_at 10 (v := ?_) (some 174) rfl rfl (by kernel_rfl) (by kernel_rfl) (by kernel_rfl) (fun _ _ _ h => h) (Or.inl ⟨by rfl, ?_⟩) hHeld ?_
              rotate_left
              · (intro w hSw; (try dsimp only at hSw); go_simp; (try with_reducible rfl))
              simp only [Act.put, List.setIfInBounds_toArray, List.set_cons_zero, List.set_cons_succ]
              refine take_at 11 (v := ?_) (some 175) rfl rfl (by kernel_rfl) (by kernel_rfl) (by kernel_rfl) (fun _ _ _ h => h) (Or.inl ⟨by rfl, ?_⟩) hHeld ?_
              rotate_left
              · (intro w hSw; (try dsimp only at hSw); go_simp; (try with_reducible rfl))
              simp only [Act.put, List.setIfInBounds_toArray, List.set_cons_zero, List.set_cons_succ]
              refine take_at 12 (v := ?_) (some 176) rfl rfl (by kernel_rfl) (by kernel_rfl) (by kernel_rfl) (fun _ _ _ h => h) (Or.inl ⟨by rfl, ?_⟩) hHeld ?_
              rotate_left
              · (intro w hSw; (try dsimp only at hSw); go_simp; (try with_reducible rfl))
              simp only [Act.put, List.setIfInBounds_toArray, List.set_cons_zero, List.set_cons_succ]
              refine take_at 13 (v := ?_) (some 177) rfl rfl (by kernel_rfl) (by kernel_rfl) (by kernel_rfl) (fun _ _ _ h => h) (Or.inl ⟨by rfl, ?_⟩) hHeld ?_
              rotate_left
              · (intro w hSw; (try dsimp only at hSw); go_simp; (try with_reducible rfl))
              simp only [Act.put, List.setIfInBounds_toArray, List.set_cons_zero, List.set_cons_succ]
              refine take_at 14 (v := ?_) (some 178) rfl rfl (by kernel_rfl) (by kernel_rfl) (by kernel_rfl) (fun _ _ _ h => h) (Or.inl ⟨by rfl, ?_⟩) hHeld ?_
              rotate_left
              · (intro w hSw; (try dsimp only at hSw); go_simp; (try with_reducible rfl))
              simp only [Act.put, List.setIfInBounds_toArray, List.set_cons_zero, List.set_cons_succ]
              refine take_at 15 (v := ?_) (some 179) rfl rfl (by kernel_rfl) (by kernel_rfl) (by kernel_rfl) (fun _ _ _ h => h) (Or.inl ⟨by rfl, ?_⟩) hHeld ?_
              rotate_left
              · (intro w hSw; (try dsimp only at hSw); go_simp; (try with_reducible rfl))
              simp only [Act.put, List.setIfInBounds_toArray, List.set_cons_zero, List.set_cons_succ]
              refine take_at 16 (v := ?_) (some 180) rfl rfl (by kernel_rfl) (by kernel_rfl) (by kernel_rfl) (fun _ _ _ h => h) (Or.inl ⟨by rfl, ?_⟩) hHeld ?_
              rotate_left
              · (intro w hSw; (try dsimp only at hSw); go_simp; (try with_reducible rfl))
              simp only [Act.put, List.setIfInBounds_toArray, List.set_cons_zero, List.set_cons_succ]
              refine take_at 17 (v := ?_) (some 181) rfl rfl (by kernel_rfl) (by kernel_rfl) (by kernel_rfl) (fun _ _ _ h => h) (Or.inl ⟨by rfl, ?_⟩) hHeld ?_
              rotate_left
              · (intro w hSw; (try dsimp only at hSw); go_simp; (try with_reducible rfl))
              simp only [Act.put, List.setIfInBounds_toArray, List.set_cons_zero, List.set_cons_succ]
              refine take_at 18 (v := ?_) (some 182) rfl rfl (by kernel_rfl) (by kernel_rfl) (by kernel_rfl) (fun _ _ _ h => h) (Or.inl ⟨by rfl, ?_⟩) hHeld ?_
              rotate_left
              · (intro w hSw; (try dsimp only at hSw); go_simp; (try with_reducible rfl))
              simp only [Act.put, List.setIfInBounds_toArray, List.set_cons_zero, List.set_cons_succ]
              refine take_at 19 (v := ?_) (some 183) rfl rfl (by kernel_rfl) (by kernel_rfl) (by kernel_rfl) (fun _ _ _ h => h) (Or.inl ⟨by rfl, ?_⟩) hHeld ?_
              rotate_left
              · (intro w hSw; (try dsimp only at hSw); go_simp; (try with_reducible rfl))
              simp only [Act.put, List.setIfInBounds_toArray, List.set_cons_zero, List.set_cons_succ]
              refine take_at 20 (v := ?_) (some 184) rfl rfl (by kernel_rfl) (by kernel_rfl) (by kernel_rfl) (fun _ _ _ h => h) (Or.inl ⟨by rfl, ?_⟩) hHeld ?_
              rotate_left
              · (intro w hSw; (try dsimp only at hSw); go_simp; (try with_reducible rfl))
              simp only [Act.put, List.setIfInBounds_toArray, List.set_cons_zero, List.set_cons_succ]
              refine take_at 21 (v := ?_) (some 185) rfl rfl (by kernel_rfl) (by kernel_rfl) (by kernel_rfl) (fun _ _ _ h => h) (Or.inl ⟨by rfl, ?_⟩) hHeld ?_
              rotate_left
              · (intro w hSw; (try dsimp only at hSw); go_simp; (try with_reducible rfl))
              simp only [Act.put, List.setIfInBounds_toArray, List.set_cons_zero, List.set_cons_succ]
              refine take_at 22 (v := ?_) (some 186) rfl rfl (by kernel_rfl) (by kernel_rfl) (by kernel_rfl) (fun _ _ _ h => h) (Or.inl ⟨by rfl, ?_⟩) hHeld ?_
              rotate_left
              · (intro w hSw; (try dsimp only at hSw); go_simp; (try with_reducible rfl))
              simp only [Act.put, List.setIfInBounds_toArray, List.set_cons_zero, List.set_cons_succ]
              refine take_at 23 (v := ?_) (some 187) rfl rfl (by kernel_rfl) (by kernel_rfl) (by kernel_rfl) (fun _ _ _ h => h) (Or.inl ⟨by rfl, ?_⟩) hHeld ?_
              rotate_left
              · (intro w hSw; (try dsimp only at hSw); go_simp; (try with_reducible rfl))
              simp only [Act.put, List.setIfInBounds_toArray, List.set_cons_zero, List.set_cons_succ]
              refine take_at 25 (v := ?_) (some 189) rfl rfl (by kernel_rfl) (by kernel_rfl) (by kernel_rfl) (fun _ _ _ h => h) (Or.inl ⟨by rfl, ?_⟩) hHeld ?_
              rotate_left
              · (intro w hSw; (try dsimp only at hSw); go_simp; (try with_reducible rfl))
              simp only [Act.put, List.setIfInBounds_toArray, List.set_cons_zero, List.set_cons_succ]
              refine wpAnyH_ready (rs := [24]) (by kernel_rfl) (by simp) ?_
              refine AllReadyH.cons rfl (fun K hK => ?_) AllReadyH.nil
              go_simp
              refine (rsum_all what _ _ A [ls[k3]?.getD []] (wordE what) _ (HA.out.below (HFW.out.trans HF.out).drew.below) HLK.out (by omega) (by simp) (wordE_lt what) (rlword_any what)).mono ?_; rintro e v1 ⟨u, rfl, hU, hB⟩; have HU := Lib.hid hU; have HG1 := Lib.hid (show Fr [] w7 v1 from HF.out.drew.trans (.of hB)); clear hU hB
              go_wp2_with fail
              refine hK.out _ _ ?_ (fun hHeld => ?_)
              · (try dsimp only at hHeld ⊢)
                go_split_ands
                exact ⟨keepc (HJ5.out) (HG1.out.below), keepc (HR5.out) (HG1.out.below), keepc (HD5.out) (HG1.out.below)⟩
              clear hK K
              try simp only [Act.put, List.setIfInBounds_toArray, List.set_cons_zero, List.set_cons_succ]
              refine wpAnyH_ready (rs := [26]) (by kernel_rfl) (by simp) ?_
              refine AllReadyH.cons rfl (fun K hK => ?_) AllReadyH.nil
              go_simp
              refine (rlbelow_any what _ _ (sumE (wordE what) A [ls[k3]?.getD []]) nw _ HU.out (HN.out.below HG1.out.below) (by rw [sumE_len]; omega) (by rw [sumE_len, HNL.out])).mono ?_; rintro e v2 ⟨rfl, hB⟩; rw [HBE.out]; have HG2 := Lib.hid (show Fr [] w7 v2 from HG1.out.trans (.of hB)); clear hB
              go_wp2_with fail
              refine hK.out _ _ ?_ (fun hHeld => ?_)
              · (try dsimp only at hHeld ⊢)
                go_split_ands
                exact ⟨keepc (HJ5.out) (HG2.out.below), keepc (HR5.out) (HG2.out.below), keepc (HD5.out) (HG2.out.below)⟩
              clear hK K
              try simp only [Act.put, List.setIfInBounds_toArray, List.set_cons_zero, List.set_cons_succ]
              refine take_at 27 (v := ?_) (some 191) rfl rfl (by kernel_rfl) (by kernel_rfl) (by kernel_rfl) (fun _ _ _ h => h) (Or.inl ⟨by rfl, ?_⟩) hHeld ?_
              rotate_left
              · (intro w hSw; (try dsimp only at hSw); go_simp; (try with_reducible rfl))
              simp only [Act.put, List.setIfInBounds_toArray, List.set_cons_zero, List.set_cons_succ]
              refine take_at 28 (v := ?_) (some 192) rfl rfl (by kernel_rfl) (by kernel_rfl) (by kernel_rfl) (fun _ _ _ h => h) (Or.inl ⟨by rfl, ?_⟩) hHeld ?_
              rotate_left
              · (intro w hSw; (try dsimp only at hSw); go_simp; (try with_reducible rfl))
              simp only [Act.put, List.setIfInBounds_toArray, List.set_cons_zero, List.set_cons_succ]
              refine take_at 29 (v := ?_) (some 193) rfl rfl (by kernel_rfl) (by kernel_rfl) (by kernel_rfl) (fun _ _ _ h => h) (Or.inl ⟨by rfl, ?_⟩) hHeld ?_
              rotate_left
              · (intro w hSw; (try dsimp only at hSw); go_simp; (try with_reducible rfl))
              simp only [Act.put, List.setIfInBounds_toArray, List.set_cons_zero, List.set_cons_succ]
              refine wpAnyH_done (by kernel_rfl) ?_ _
              go_split_ands

              go_wp2_with fail
              go_roundw
              case rel => exact ⟨k3 + 1, c3 + 1, by omega, by go_num, by go_num, by omega, Lib.hid (fun _ => HCH2.out), HG2.out⟩
              case measure => simp [intOf]; omega

          · obtain rfl : k3 = ls.length := by omega
            have hle : c3 ≤ c := by
              rcases Nat.eq_zero_or_pos c3 with h | h
              · omega
              · obtain ⟨j, hj, hcj⟩ := HCO.out h
                obtain ⟨k, hk, hne⟩ := HE.out.rose hj hcj
                rw [← HNW.out] at hne
                have := HRO2.out k hk hne
                omega
            have hlei : (c3 : Int) ≤ c := by omega
            have p5 : wr.cell? ⟨rb, 0, none⟩ = some (.slice (some ⟨sb, 0, none⟩) ls.length ls.length) := (HR7.out.fr HF.out (by simp)).cell 0
            have p7 : wr.cell? ⟨rb, 2, none⟩ = some (.int .i64 k) := (HR7.out.fr HF.out (by simp)).cell 2
            clear hlt hk3
            go_wp2_with fail
            refine (fin_any db x.dn ls.length _ _ _ _ _ _ (HBD.out.fr (HF7.out.trans HF.out) (by simp)) HL2.out (by omega) rfl ⟨_, rfl⟩).mono ?_
            rintro e v1 ⟨rfl, hB⟩
            have HG1 := Lib.hid (show Fr [] w7 v1 from HF.out.trans (.of hB))
            clear hB p5 p6 p7
            by_cases hz : leftE x.dn = 0
            · rw [show decide (leftE x.dn = 0) = true from decide_eq_true hz]
              have HEQ := Lib.hid (HE.out.all HWH.out rfl HSV.out HAV.out (fun i hi => left_zero.1 hz i (by rw [HL2.out]; exact hi)))
              rw [← HNW.out] at HEQ
              clear hz
              go_wp2_with fail
              refine (rsum_all what _ _ A ls (wordE what) _ (HA.out.below (HFW.out.trans HG1.out).below) (HL.out.below (HFW.out.trans HG1.out).below) (by omega) (by omega) (wordE_lt what) (rlword_any what)).mono ?_
              rintro e v2 ⟨u, rfl, hU, hB⟩
              have HU := Lib.hid hU
              have HG2 := Lib.hid (show Fr [] w7 v2 from HG1.out.trans (.of hB))
              clear hU hB
              go_wp2_with fail
              refine (same_any _ _ nw (sumE (wordE what) A ls) _ (HN.out.below HG2.out.below) HU.out (by have := HNL.out; omega) (by rw [sumE_len]; omega)).mono ?_
              rintro e v3 ⟨rfl, nn, hww⟩
              subst v3
              rw [show decide (nw = sumE (wordE what) A ls) = true from decide_eq_true HEQ.out]
              go_wp2_with fail
              go_ret
              exact ⟨rfl, ((HFW.out.trans HG2.out).trans (.of (bel_drewN (Below.refl v2.heap.size v2) nn))).below⟩
            · rw [show decide (leftE x.dn = 0) = false from decide_eq_false hz]
              clear hz
              go_wp2_with fail
              go_ret
              exact ⟨rfl, (HFW.out.trans HG1.out).below⟩


end Go.Proofs.Yteheckcflnogbaa
