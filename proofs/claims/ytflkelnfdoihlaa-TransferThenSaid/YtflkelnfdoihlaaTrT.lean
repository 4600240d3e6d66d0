/-
  transfer.Then: its contract.
-/
import Derived.Test.YtflkelnfdoihlaaTrC
namespace Go.Proofs.Ytflkelnfdoihlaa
open Go.RowKit

/-- What is wrong with two. -/
def thenC (what width : Int) (g k : List Nat) (L : List CodeT) (g2 k2 : List Nat) (L2 : List CodeT) : Int :=
  if checkT what width g k L = 0 then checkT what width g2 k2 L2 else checkT what width g k L
/-- One, and another one. -/
def thenG (what : Int) (g g2 k2 : List Nat) : List Nat := if what = 3 then [] else bothE orN (bothE minN g k2) g2
def thenK (what : Int) (g k g2 k2 : List Nat) : List Nat := if what = 3 then [] else bothE minN (bothE orN k k2) (thenG what g g2 k2)
def thenL (what : Int) (L L2 : List CodeT) : List CodeT := if what = 3 then L ++ L2 else []
def okR {α : Type} (c : Int) (l : List α) : List α := if c = 0 then l else []
theorem okR_no {α : Type} {c : Int} (h : c ≠ 0) (l : List α) : okR c l = [] := by unfold okR; rw [if_neg h]
theorem okR_yes {α : Type} (l : List α) : okR 0 l = l := by unfold okR; rw [if_pos rfl]
theorem ws_none (w : World) : Ws w (.slice none 0 0) [] := ⟨by simp, .inl ⟨rfl, rfl⟩⟩
theorem codes_none (w : World) : Codes w (.slice none 0 0) [] := ⟨none, 0, rfl, by simp⟩
theorem bel_set3 {w W : World} (h : Below w.heap.size w W) {B : Nat} (hB : w.heap.size ≤ B) (x y z : Value) : Below w.heap.size w (((W.setCell ⟨B, 0, none⟩ x).setCell ⟨B, 1, none⟩ y).setCell ⟨B, 2, none⟩ z) :=
  (bel_set2 h hB x y).setCell (p := ⟨B, 2, none⟩) hB z

theorem cell_safe3 {w : World} {B : Nat} {t : TypeId} {o1 o2 o3 : Option Addr} {n1 n2 n3 c1 c2 c3 : Nat} (hk : Bk w B t [.slice o1 n1 c1, .slice o2 n2 c2, .slice o3 n3 c3]) {p : Addr} {q : IntKind} {n : Int} (h : w.cell? p = some (.int q n)) (x y z : Value) :
    (((w.setCell ⟨B, 0, none⟩ x).setCell ⟨B, 1, none⟩ y).setCell ⟨B, 2, none⟩ z).cell? p = some (.int q n) := by
  have hne : B ≠ p.block := by
    rintro rfl
    obtain ⟨b, o, s⟩ := p
    unfold World.cell? at h
    rw [show w.heap[b]? = _ from hk] at h
    cases s with
    | some _ => simp at h
    | none =>
      simp only [Option.isSome_none, Bool.false_eq_true, if_false] at h
      match o with
      | 0 => simp at h
      | 1 => simp at h
      | 2 => simp at h
      | o + 3 => simp at h
  rw [World.cell?_setCell_far _ _ _ _ hne, World.cell?_setCell_far _ _ _ _ hne, World.cell?_setCell_far _ _ _ _ hne]
  exact h
theorem ws_set3 {w : World} {u : Value} {a : List Nat} (h : Ws w u a) {B : Nat} {t : TypeId} {o1 o2 o3 : Option Addr} {n1 n2 n3 c1 c2 c3 : Nat} (hk : Bk w B t [.slice o1 n1 c1, .slice o2 n2 c2, .slice o3 n3 c3]) (x y z : Value) :
    Ws (((w.setCell ⟨B, 0, none⟩ x).setCell ⟨B, 1, none⟩ y).setCell ⟨B, 2, none⟩ z) u a := by
  obtain ⟨hz, ⟨rfl, rfl⟩ | ⟨ad, c, rfl, hc⟩⟩ := h
  · exact ⟨hz, .inl ⟨rfl, rfl⟩⟩
  · exact ⟨hz, .inr ⟨ad, c, rfl, fun j hj => cell_safe3 hk (hc j hj) x y z⟩⟩
theorem codes_set3 {w : World} {u : Value} {L : List CodeT} (h : Codes w u L) {B : Nat} {t : TypeId} {o1 o2 o3 : Option Addr} {n1 n2 n3 c1 c2 c3 : Nat} (hk : Bk w B t [.slice o1 n1 c1, .slice o2 n2 c2, .slice o3 n3 c3]) (x y z : Value) :
    Codes (((w.setCell ⟨B, 0, none⟩ x).setCell ⟨B, 1, none⟩ y).setCell ⟨B, 2, none⟩ z) u L := by
  obtain ⟨o, c, rfl, hc⟩ := h
  refine ⟨o, c, rfl, fun h0 => ?_⟩
  obtain ⟨b, off, rfl, hd⟩ := hc h0
  refine ⟨b, off, rfl, fun j hj m u hm => ?_⟩
  have hi : ∃ q n, u = .int q n := by
    have := List.mem_of_getElem? hm
    simp only [ccells, List.mem_cons, List.not_mem_nil, or_false] at this
    rcases this with rfl | rfl | rfl | rfl | rfl | rfl | rfl | rfl <;> exact ⟨_, _, rfl⟩
  obtain ⟨q, n, rfl⟩ := hi
  exact cell_safe3 hk (hd j hj m _ hm) x y z

set_option maxHeartbeats 6400000 in
set_option maxRecDepth 100000 in
theorem tthen_any (what width : Int) (vg vk vl vg2 vk2 vl2 : Value) (g k g2 k2 : List Nat) (L L2 : List CodeT) (w : World) (h1 : Ws w vg g) (h2 : Ws w vk k) (h3 : Codes w vl L) (h4 : Ws w vg2 g2) (h5 : Ws w vk2 k2) (h6 : Codes w vl2 L2)
    (m1 : g.length ≤ 1000) (m2 : k.length ≤ 1000) (m3 : L.length ≤ 1000000) (m4 : g2.length ≤ 1000) (m5 : k2.length ≤ 1000) (m6 : L2.length ≤ 1000000) :
    Calls Try.prog 37 #[.int .i64 what, .int .i64 width, .agg #[vg, vk, vl], .agg #[vg2, vk2, vl2]] w fun e w' =>
      ∃ ug uk ul, e = .returned (.tuple #[.agg #[ug, uk, ul], .int .i64 (thenC what width g k L g2 k2 L2)]) ∧ Ws w' ug (okR (thenC what width g k L g2 k2 L2) (thenG what g g2 k2)) ∧ Ws w' uk (okR (thenC what width g k L g2 k2 L2) (thenK what g k g2 k2)) ∧
        Codes w' ul (okR (thenC what width g k L g2 k2 L2) (thenL what L L2)) ∧ Below w.heap.size w w' := by
  obtain ⟨C, hC⟩ : ∃ C, C = thenC what width g k L g2 k2 L2 := ⟨_, rfl⟩
  rw [← hC]
  have HC := Lib.hid hC
  clear hC
  have H1 := Lib.hid h1
  have H2 := Lib.hid h2
  have H3 := Lib.hid h3
  have H4 := Lib.hid h4
  have H5 := Lib.hid h5
  have H6 := Lib.hid h6
  obtain ⟨pg, cg, rfl⟩ := ws_len h1
  obtain ⟨pk, ck, rfl⟩ := ws_len h2
  obtain ⟨pl, cl, rfl⟩ := h3.len
  obtain ⟨pg2, cg2, rfl⟩ := ws_len h4
  obtain ⟨pk2, ck2, rfl⟩ := ws_len h5
  obtain ⟨pl2, cl2, rfl⟩ := h6.len
  clear h1 h2 h3 h4 h5 h6
  have hS := Bk.new w 45 [.slice pg g.length cg, .slice pk k.length ck, .slice pl L.length cl]
  have b1 := (Below.refl w.heap.size w).alloc (Nat.le_refl _) (.cells #[.slice pg g.length cg, .slice pk k.length ck, .slice pl L.length cl] 45)
  have hT := Bk.new' (w.alloc (.cells #[.slice pg g.length cg, .slice pk k.length ck, .slice pl L.length cl] 45)) 45 [.slice pg2 g2.length cg2, .slice pk2 k2.length ck2, .slice pl2 L2.length cl2] (g := w.heap.size + 1) (by simp)
  have b2 := b1.alloc (by simp) (.cells #[.slice pg2 g2.length cg2, .slice pk2 k2.length ck2, .slice pl2 L2.length cl2] 45)
  have hR := Bk.new' ((w.alloc (.cells #[.slice pg g.length cg, .slice pk k.length ck, .slice pl L.length cl] 45)).alloc (.cells #[.slice pg2 g2.length cg2, .slice pk2 k2.length ck2, .slice pl2 L2.length cl2] 45)) 45 [.slice none 0 0, .slice none 0 0, .slice none 0 0] (g := w.heap.size + 2) (by simp)
  have b3 := b2.alloc (by simp; omega) (.cells #[.slice none 0 0, .slice none 0 0, .slice none 0 0] 45)
  have hS := ((hS.alloc (.cells #[.slice pg2 g2.length cg2, .slice pk2 k2.length ck2, .slice pl2 L2.length cl2] 45)).alloc (.cells #[.slice none 0 0, .slice none 0 0, .slice none 0 0] 45))
  have hT := hT.alloc (.cells #[.slice none 0 0, .slice none 0 0, .slice none 0 0] 45)
  have KS := Lib.hid hS
  have KT := Lib.hid hT
  have KR := Lib.hid hR
  have B3 := Lib.hid b3
  clear hS hT hR b1 b2 b3
  go_enter Try.func37, Try.ntmps37
  go_wp2_with fail
  go_loopw [18] (fun i wr => ∃ j : Nat, j ≤ 2 ∧ i = .int .i64 j ∧ Hid (1 ≤ j → checkT what width g k L = 0) ∧ Hid (2 ≤ j → checkT what width g2 k2 L2 = 0) ∧ Below w.heap.size w wr ∧
      Bk wr w.heap.size 45 [.slice pg g.length cg, .slice pk k.length ck, .slice pl L.length cl] ∧ Bk wr (w.heap.size + 1) 45 [.slice pg2 g2.length cg2, .slice pk2 k2.length ck2, .slice pl2 L2.length cl2] ∧
      Bk wr (w.heap.size + 2) 45 [.slice none 0 0, .slice none 0 0, .slice none 0 0] ∧
      Bk wr (w.heap.size + 3) 45 [.slice pg g.length cg, .slice pk k.length ck, .slice pl L.length cl, .slice pg2 g2.length cg2, .slice pk2 k2.length ck2, .slice pl2 L2.length cl2])
    (fun i _ => 2 - (intOf i).toNat)
  case atStart =>
    exact ⟨0, by omega, rfl, Lib.hid (fun h => by omega), Lib.hid (fun h => by omega), B3.out.alloc B3.out.size _, KS.out.alloc _, KT.out.alloc _, KR.out.alloc _, Bk.new' _ _ _ (by simp)⟩
  case round =>
    clear KS KT KR B3
    obtain ⟨j, hj, rfl, HA, HD, hB, hks, hkt, hkr, hkb⟩ := hrel
    have BW := Lib.hid hB
    have KS := Lib.hid hks
    have KT := Lib.hid hkt
    have KR := Lib.hid hkr
    have KB := Lib.hid hkb
    clear hB hks hkt hkr hkb
    by_cases e0 : j = 0
    · subst e0
      have f0 := KB.out.cell 0
      have f1 := KB.out.cell 1
      have f2 := KB.out.cell 2
      simp only [List.getElem?_cons_succ, List.getElem?_cons_zero] at f0 f1 f2
      have B1 := Lib.hid (BW.out.alloc BW.out.size (.cells #[.slice pg g.length cg, .slice pk k.length ck, .slice pl L.length cl] 45))
      go_wp2_with fail
      refine (tcheck_any what width _ _ _ g k L _ (H1.out.below B1.out) (H2.out.below B1.out) (H3.out.below B1.out) m1 m2 m3).mono ?_
      rintro e w2 ⟨rfl, hB⟩
      have KS2 := Lib.hid ((KS.out.alloc _).below hB)
      have KT2 := Lib.hid ((KT.out.alloc _).below hB)
      have KR2 := Lib.hid ((KR.out.alloc _).below hB)
      have KB2 := Lib.hid ((KB.out.alloc _).below hB)
      have B2 := Lib.hid (B1.out.trans (hB.mono B1.out.size))
      clear hB f0 f1 f2 KS KT KR KB
      obtain ⟨ce, hce⟩ : ∃ z, z = checkT what width g k L := ⟨_, rfl⟩
      have NCE := Lib.hid hce
      rw [← hce]
      clear hce
      by_cases h0 : ce = 0
      · subst h0
        have HZ := Lib.hid NCE.out.symm
        go_wp2_with fail
        exact ⟨⟨1, by omega, rfl, Lib.hid (fun _ => HZ.out), Lib.hid (fun h => by omega), B2.out, KS2.out, KT2.out, KR2.out, KB2.out⟩, by decide⟩
      · have hb : (ce != 0) = true := by simp; omega
        have HV := Lib.hid (show C = ce from by rw [HC.out]; unfold thenC; rw [if_neg (fun h => h0 (NCE.out.trans h))]; exact NCE.out.symm)
        have HN := Lib.hid h0
        have r0 := KR2.out.cell 0
        have r1 := KR2.out.cell 1
        have r2 := KR2.out.cell 2
        have r3 := KR2.out.free 0
        have r4 := KR2.out.free 1
        have r5 := KR2.out.free 2
        simp only [List.getElem?_cons_succ, List.getElem?_cons_zero] at r0 r1 r2
        clear h0
        go_wp2_with fail
        exact bodyPost_ret (v := .tuple #[.agg #[.slice none 0 0, .slice none 0 0, .slice none 0 0], .int .i64 ce]) (by simp [results, Try.results37, go_sem, r0, r1, r2]) rfl ⟨_, _, _, by rw [HV.out], by rw [okR_no (by rw [HV.out]; exact HN.out)]; exact ws_none _, by rw [okR_no (by rw [HV.out]; exact HN.out)]; exact ws_none _, by rw [okR_no (by rw [HV.out]; exact HN.out)]; exact codes_none _, bel_set3 B2.out (by omega) _ _ _⟩
    · by_cases e1 : j = 1
      · subst e1
        have f0 := KB.out.cell 3
        have f1 := KB.out.cell 4
        have f2 := KB.out.cell 5
        simp only [List.getElem?_cons_succ, List.getElem?_cons_zero] at f0 f1 f2
        have B1 := Lib.hid (BW.out.alloc BW.out.size (.cells #[.slice pg2 g2.length cg2, .slice pk2 k2.length ck2, .slice pl2 L2.length cl2] 45))
        go_wp2_with fail
        refine (tcheck_any what width _ _ _ g2 k2 L2 _ (H4.out.below B1.out) (H5.out.below B1.out) (H6.out.below B1.out) m4 m5 m6).mono ?_
        rintro e w2 ⟨rfl, hB⟩
        have KS2 := Lib.hid ((KS.out.alloc _).below hB)
        have KT2 := Lib.hid ((KT.out.alloc _).below hB)
        have KR2 := Lib.hid ((KR.out.alloc _).below hB)
        have KB2 := Lib.hid ((KB.out.alloc _).below hB)
        have B2 := Lib.hid (B1.out.trans (hB.mono B1.out.size))
        clear hB f0 f1 f2 KS KT KR KB
        obtain ⟨ce, hce⟩ : ∃ z, z = checkT what width g2 k2 L2 := ⟨_, rfl⟩
        have NCE := Lib.hid hce
        rw [← hce]
        clear hce
        by_cases h0 : ce = 0
        · subst h0
          have HZ := Lib.hid NCE.out.symm
          go_wp2_with fail
          exact ⟨⟨2, by omega, rfl, Lib.hid (fun _ => HA.out (by omega)), Lib.hid (fun _ => HZ.out), B2.out, KS2.out, KT2.out, KR2.out, KB2.out⟩, by decide⟩
        · have hb : (ce != 0) = true := by simp; omega
          have HV := Lib.hid (show C = ce from by rw [HC.out]; unfold thenC; rw [if_pos (HA.out (by omega))]; exact NCE.out.symm)
          have HN := Lib.hid h0
          have r0 := KR2.out.cell 0
          have r1 := KR2.out.cell 1
          have r2 := KR2.out.cell 2
          have r3 := KR2.out.free 0
          have r4 := KR2.out.free 1
          have r5 := KR2.out.free 2
          simp only [List.getElem?_cons_succ, List.getElem?_cons_zero] at r0 r1 r2
          clear h0
          go_wp2_with fail
          exact bodyPost_ret (v := .tuple #[.agg #[.slice none 0 0, .slice none 0 0, .slice none 0 0], .int .i64 ce]) (by simp [results, Try.results37, go_sem, r0, r1, r2]) rfl ⟨_, _, _, by rw [HV.out], by rw [okR_no (by rw [HV.out]; exact HN.out)]; exact ws_none _, by rw [okR_no (by rw [HV.out]; exact HN.out)]; exact ws_none _, by rw [okR_no (by rw [HV.out]; exact HN.out)]; exact codes_none _, bel_set3 B2.out (by omega) _ _ _⟩
      · obtain rfl : j = 2 := by omega
        have HV := Lib.hid (show C = 0 by rw [HC.out]; unfold thenC; rw [if_pos (HA.out (by omega))]; exact HD.out (by omega))
        by_cases h3 : what = 3
        · subst h3
          have f2 := KS.out.cell 2
          have g2' := KT.out.cell 2
          simp only [List.getElem?_cons_succ, List.getElem?_cons_zero] at f2 g2'
          have KL := Lib.hid (Bk.new wr 43 [.slice pl L.length cl, .slice pl2 L2.length cl2])
          have B1 := Lib.hid (BW.out.alloc BW.out.size (.cells #[.slice pl L.length cl, .slice pl2 L2.length cl2] 43))
          go_wp2_with fail
          refine (cconcat_any _ _ _ L L2 _ (KL.out.cell 0) (KL.out.cell 1) (H3.out.below B1.out) (H6.out.below B1.out) m3 m6).mono ?_
          rintro e w2 ⟨u, rfl, hCd, hB⟩
          have HCd := Lib.hid hCd
          have KR2 := Lib.hid ((KR.out.alloc _).below hB)
          have B2 := Lib.hid (B1.out.trans (hB.mono B1.out.size))
          obtain ⟨pu, cu, rfl⟩ := hCd.len
          have r0 := KR2.out.cell 0
          have r1 := KR2.out.cell 1
          have r2 := KR2.out.cell 2
          have r3 := KR2.out.free 0
          have r4 := KR2.out.free 1
          have r5 := KR2.out.free 2
          simp only [List.getElem?_cons_succ, List.getElem?_cons_zero] at r0 r1 r2
          clear hB hCd f2 g2'
          go_wp2_with fail
          exact bodyPost_ret (v := .tuple #[.agg #[.slice none 0 0, .slice none 0 0, .slice pu (L ++ L2).length cu], .int .i64 0]) (by simp [results, Try.results37, go_sem, r0, r1, r2]) rfl ⟨_, _, _, by rw [HV.out], by rw [HV.out, okR_yes]; unfold thenG; rw [if_pos rfl]; exact ws_none _, by rw [HV.out, okR_yes]; unfold thenK; rw [if_pos rfl]; exact ws_none _, by rw [HV.out, okR_yes]; unfold thenL; rw [if_pos rfl]; exact codes_set3 HCd.out KR2.out _ _ _, bel_set3 B2.out (by omega) _ _ _⟩
        · have hne : (what == 3) = false := by simp; omega
          obtain ⟨M, hM⟩ : ∃ M, M = bothE minN g k2 := ⟨_, rfl⟩
          obtain ⟨G, hG⟩ : ∃ G, G = bothE orN M g2 := ⟨_, rfl⟩
          obtain ⟨U, hU⟩ : ∃ U, U = bothE orN k k2 := ⟨_, rfl⟩
          have HBM := Lib.hid (show M.length ≤ 1000 by rw [hM, bothE_len]; omega)
          have HBG := Lib.hid (show G.length ≤ 1000 by rw [hG, bothE_len]; have := HBM.out; omega)
          have HBU := Lib.hid (show U.length ≤ 1000 by rw [hU, bothE_len]; omega)
          have HG := Lib.hid (show thenG what g g2 k2 = G by unfold thenG; rw [if_neg h3, hG, hM])
          have HK := Lib.hid (show thenK what g k g2 k2 = bothE minN U G by unfold thenK; rw [if_neg h3, HG.out, hU])
          have HL := Lib.hid (show thenL what L L2 = [] by unfold thenL; rw [if_neg h3])
          have HM' := Lib.hid hM
          have HG' := Lib.hid hG
          have HU' := Lib.hid hU
          clear hM hG hU h3
          go_wp2_with fail
          go_region_held3 (fun w' => w'.cell? ⟨w.heap.size, 0, none⟩ = some (.slice pg g.length cg) ∧ w'.cell? ⟨w.heap.size + 1, 0, none⟩ = some (.slice pg2 g2.length cg2) ∧ w'.cell? ⟨w.heap.size + 1, 1, none⟩ = some (.slice pk2 k2.length ck2) ∧ Below wr.heap.size wr w')
            (first
              | exact ⟨KS.out.cell 0, KT.out.cell 0, KT.out.cell 1, (Below.refl _ _).drew⟩
              | (go_split_ands; exact ⟨keepc (by assumption) hB, keepc (by assumption) hB, keepc (by assumption) hB, bel_then (by assumption) hB⟩))
            (first
              | (go_at_call 62; go_split_ands; refine (minus_any _ _ g k2 _ ((H1.out.below BW.out).below (by assumption)) ((H5.out.below BW.out).below (by assumption)) (by omega) (by omega)).mono ?_; rintro e w5 ⟨v5, rfl, hW5, hB⟩; rw [← HM'.out] at hW5; have HW5 := Lib.hid hW5; obtain ⟨p5, c5, rfl⟩ := ws_len hW5; clear hW5)
              | (go_at_call 61; go_split_ands; refine (union_any _ _ M g2 _ HW5.out ((H4.out.below BW.out).below (by assumption)) (by have := HBM.out; omega) (by omega)).mono ?_; rintro e w6 ⟨v6, rfl, hW6, hB⟩; rw [← HG'.out] at hW6; have HW6 := Lib.hid hW6; obtain ⟨p6, c6, rfl⟩ := ws_len hW6; clear hW6))
          all_goals
            go_split_ands
            have BF := Lib.hid (show Below wr.heap.size wr _ by assumption)
            have KS3 := Lib.hid (KS.out.below BF.out)
            have KT3 := Lib.hid (KT.out.below BF.out)
            have KR3 := Lib.hid (KR.out.below BF.out)
            have B3 := Lib.hid (BW.out.trans (BF.out.mono BW.out.size))
            have f1 := KS3.out.cell 1
            have g1 := KT3.out.cell 1
            simp only [List.getElem?_cons_succ, List.getElem?_cons_zero] at f1 g1
            go_wp2_with fail
            refine (union_any _ _ k k2 _ (H2.out.below B3.out) (H5.out.below B3.out) (by omega) (by omega)).mono ?_
            rintro e w7 ⟨u7, rfl, hW7, hB⟩
            rw [← HU'.out] at hW7
            have HW7 := Lib.hid hW7
            have HW67 := Lib.hid (HW6.out.below hB)
            have B4 := Lib.hid (B3.out.trans (hB.mono B3.out.size))
            have KR4 := Lib.hid (KR3.out.below hB)
            obtain ⟨p7, c7, rfl⟩ := ws_len hW7
            clear hW7 hB f1 g1
            go_wp2_with fail
            refine (minus_any _ _ U G _ HW7.out HW67.out (by have := HBU.out; omega) (by have := HBG.out; omega)).mono ?_
            rintro e w8 ⟨u8, rfl, hW8, hB⟩
            have HW8 := Lib.hid hW8
            have HW68 := Lib.hid (HW67.out.below hB)
            have B5 := Lib.hid (B4.out.trans (hB.mono B4.out.size))
            have KR5 := Lib.hid (KR4.out.below hB)
            obtain ⟨p8, c8, rfl⟩ := ws_len hW8
            have r0 := KR5.out.cell 0
            have r1 := KR5.out.cell 1
            have r2 := KR5.out.cell 2
            have r3 := KR5.out.free 0
            have r4 := KR5.out.free 1
            have r5 := KR5.out.free 2
            simp only [List.getElem?_cons_succ, List.getElem?_cons_zero] at r0 r1 r2
            clear hW8 hB
            go_wp2_with fail
            exact bodyPost_ret (v := .tuple #[.agg #[.slice p6 G.length c6, .slice p8 (bothE minN U G).length c8, .slice none 0 0], .int .i64 0]) (by simp [results, Try.results37, go_sem, r0, r1, r2]) rfl ⟨_, _, _, by rw [HV.out], by rw [HV.out, okR_yes, HG.out]; exact ws_set3 HW68.out KR5.out _ _ _, by rw [HV.out, okR_yes, HK.out]; exact ws_set3 HW8.out KR5.out _ _ _, by rw [HV.out, okR_yes, HL.out]; exact codes_none _, bel_set3 B5.out (by omega) _ _ _⟩

end Go.Proofs.Ytflkelnfdoihlaa
