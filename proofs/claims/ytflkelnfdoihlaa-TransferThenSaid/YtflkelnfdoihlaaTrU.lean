/-
  soughref16.Then: its contract. Written by wip/gen/mkthen.py.
-/
import Derived.Test.YtflkelnfdoihlaaTrT
namespace Go.Proofs.Ytflkelnfdoihlaa
open Go.RowKit

theorem own_bare8 (w : World) (base : Nat) (hb : base ≤ w.heap.size) : (w.alloc (.cells #[] 82)).ownsRow base 82 8 (.slice (some ⟨w.heap.size, 0, none⟩) 0 0) 0 [] :=
  ⟨rfl, .inr ⟨w.heap.size, 0, #[], rfl, hb, heap_alloc_new w _, Nat.le_refl _, Nat.zero_le _, rfl, rfl⟩⟩
theorem step_append_codes (w : World) {ops : Array Oper} {o : Oper} {a : Act} {K : Act → World → Prop} {Q : Exit → Act → World → Prop} {E : Prop} (hgd : o.guard = none) (d : Option Tmp) (hd : o.dst = d) (s x : Operand)
    (ho : o.op = .call { callee := .builtin .append, args := #[s, x], argTypes := #[43, 43] })
    (base : Nat) (v : Value) (n : Nat) (xs : List Value) (hs : a.eval s = v) (hown : w.ownsRow base 82 8 v n xs)
    (u : Value) (hx : a.eval x = u) (L : List CodeT) (hu : Codes w u L) (hb : n + L.length ≤ 4000000) (hbase : base ≤ w.heap.size)
    (h : ∀ v' w', w'.ownsRow base 82 8 v' (n + L.length) (xs ++ codeVs L) → w.grownBy w' v.ownBlock → K (a.put d v') w') :
    if Region.wanted o (yielded ops a.tmps) = true then Oper.wp Try.prog o a w K Q else E := by
  have hw : Region.wanted o (yielded ops a.tmps) = true := by simp [Region.wanted, hgd]
  rw [if_pos hw]
  subst hd
  obtain ⟨v', w', hr, h2, h3⟩ := run_append_codes w o.type base v n xs hown u L hu hb hbase
  unfold Oper.wp execOp
  simp only [ho, resolve, invoke, builtin, Sem.run_bind, Sem.run_pure, Result.andThen_ok, List.map_toArray, List.map_cons, List.map_nil, hs, hx, hr]
  exact h v' w' h2 h3

set_option maxHeartbeats 12800000 in
set_option maxRecDepth 100000 in
theorem rthen_any (what : Int) (vg vk vl vg2 vk2 vl2 : Value) (g k g2 k2 : List Nat) (L L2 : List CodeT) (w : World) (h1 : Ws w vg g) (h2 : Ws w vk k) (h3 : Codes w vl L) (h4 : Ws w vg2 g2) (h5 : Ws w vk2 k2) (h6 : Codes w vl2 L2)
    (m1 : g.length ≤ 1000) (m2 : k.length ≤ 1000) (m3 : L.length ≤ 1000000) (m4 : g2.length ≤ 1000) (m5 : k2.length ≤ 1000) (m6 : L2.length ≤ 1000000) :
    Calls Try.prog 40 #[.int .i64 what, .agg #[vg, vk, vl], .agg #[vg2, vk2, vl2]] w fun e w' =>
      ∃ ug uk ul, e = .returned (.agg #[ug, uk, ul]) ∧ Ws w' ug (thenG what g g2 k2) ∧ Ws w' uk (thenK what g k g2 k2) ∧ Codes w' ul (thenL what L L2) ∧ Below w.heap.size w w' := by
  have H1 := Lib.hid h1
  have H2 := Lib.hid h2
  have H3 := Lib.hid h3
  have H4 := Lib.hid h4
  have H5 := Lib.hid h5
  have H6 := Lib.hid h6
  obtain ⟨pg, cg, rfl⟩ := ws_len h1
  obtain ⟨pk, ck, rfl⟩ := ws_len h2
  obtain ⟨pl, cl, rfl⟩ := h3.len
  obtain ⟨pg2, cg2, rfl⟩ := ws_len h4
  obtain ⟨pk2, ck2, rfl⟩ := ws_len h5
  obtain ⟨pl2, cl2, rfl⟩ := h6.len
  clear h1 h2 h3 h4 h5 h6
  have hS := Bk.new w 45 [.slice pg g.length cg, .slice pk k.length ck, .slice pl L.length cl]
  have b1 := (Below.refl w.heap.size w).alloc (Nat.le_refl _) (.cells #[.slice pg g.length cg, .slice pk k.length ck, .slice pl L.length cl] 45)
  have hT := Bk.new' (w.alloc (.cells #[.slice pg g.length cg, .slice pk k.length ck, .slice pl L.length cl] 45)) 45 [.slice pg2 g2.length cg2, .slice pk2 k2.length ck2, .slice pl2 L2.length cl2] (g := w.heap.size + 1) (by simp)
  have b2 := b1.alloc (by simp) (.cells #[.slice pg2 g2.length cg2, .slice pk2 k2.length ck2, .slice pl2 L2.length cl2] 45)
  have hR := Bk.new' ((w.alloc (.cells #[.slice pg g.length cg, .slice pk k.length ck, .slice pl L.length cl] 45)).alloc (.cells #[.slice pg2 g2.length cg2, .slice pk2 k2.length ck2, .slice pl2 L2.length cl2] 45)) 45 [.slice none 0 0, .slice none 0 0, .slice none 0 0] (g := w.heap.size + 2) (by simp)
  have b3 := b2.alloc (by simp; omega) (.cells #[.slice none 0 0, .slice none 0 0, .slice none 0 0] 45)
  have hS := ((hS.alloc (.cells #[.slice pg2 g2.length cg2, .slice pk2 k2.length ck2, .slice pl2 L2.length cl2] 45)).alloc (.cells #[.slice none 0 0, .slice none 0 0, .slice none 0 0] 45))
  have hT := hT.alloc (.cells #[.slice none 0 0, .slice none 0 0, .slice none 0 0] 45)
  have KS := Lib.hid hS
  have KT := Lib.hid hT
  have KR := Lib.hid hR
  have B3 := Lib.hid b3
  clear hS hT hR b1 b2 b3
  go_enter Try.func40, Try.ntmps40
  by_cases h3 : what = 3
  · subst h3
    go_wp2_with fail
    have hsz : w.heap.size + 3 = (((w.alloc (.cells #[.slice pg g.length cg, .slice pk k.length ck, .slice pl L.length cl] 45)).alloc (.cells #[.slice pg2 g2.length cg2, .slice pk2 k2.length ck2, .slice pl2 L2.length cl2] 45)).alloc (.cells #[.slice none 0 0, .slice none 0 0, .slice none 0 0] 45)).heap.size := by simp
    generalize hW : (((w.alloc (.cells #[.slice pg g.length cg, .slice pk k.length ck, .slice pl L.length cl] 45)).alloc (.cells #[.slice pg2 g2.length cg2, .slice pk2 k2.length ck2, .slice pl2 L2.length cl2] 45)).alloc (.cells #[.slice none 0 0, .slice none 0 0, .slice none 0 0] 45)) = W at *
    clear hW
    refine wp_region_held_drew (S := (fun w' => w'.cell? ⟨w.heap.size, 2, none⟩ = some (.slice pl L.length cl) ∧ w'.cell? ⟨w.heap.size + 1, 2, none⟩ = some (.slice pl2 L2.length cl2) ∧ Below w.heap.size w w')) (by kernel_rfl) ?_ (fun hHeld => ?_)
    · exact ⟨KS.out.cell 2, KT.out.cell 2, B3.out.drew⟩
    have KR := Lib.hid KR.out.drew
    have KS := Lib.hid KS.out.drew
    have KT := Lib.hid KT.out.drew
    have hsv : W.heap.size ≤ W.drew.heap.size := Nat.le_refl _
    generalize W.drew = v0 at hHeld KR KS KT hsv ⊢
    refine take_at 1 (v := ?_) (some 11) rfl rfl (by kernel_rfl) (by kernel_rfl) (by kernel_rfl) (fun _ _ _ h => h) (Or.inl ⟨by rfl, ?_⟩) hHeld ?_
    rotate_left
    · (intro w hSw; (try dsimp only at hSw); go_simp; (try with_reducible rfl))
    simp only [Act.put, List.setIfInBounds_toArray, List.set_cons_zero, List.set_cons_succ]
    refine take_at 2 (v := ?_) (some 12) rfl rfl (by kernel_rfl) (by kernel_rfl) (by kernel_rfl) (fun _ _ _ h => h) (Or.inl ⟨by rfl, ?_⟩) hHeld ?_
    rotate_left
    · (intro w hSw; (try dsimp only at hSw); go_simp; (try with_reducible rfl))
    simp only [Act.put, List.setIfInBounds_toArray, List.set_cons_zero, List.set_cons_succ]
    refine take_at 4 (v := ?_) (some 14) rfl rfl (by kernel_rfl) (by kernel_rfl) (by kernel_rfl) (fun _ _ _ h => h) (Or.inl ⟨by rfl, ?_⟩) hHeld ?_
    rotate_left
    · (intro w hSw; (try dsimp only at hSw); go_simp; (try with_reducible rfl))
    simp only [Act.put, List.setIfInBounds_toArray, List.set_cons_zero, List.set_cons_succ]
    refine take_at 5 (v := ?_) (some 15) rfl rfl (by kernel_rfl) (by kernel_rfl) (by kernel_rfl) (fun _ _ _ h => h) (Or.inl ⟨by rfl, ?_⟩) hHeld ?_
    rotate_left
    · (intro w hSw; (try dsimp only at hSw); go_simp; (try with_reducible rfl))
    simp only [Act.put, List.setIfInBounds_toArray, List.set_cons_zero, List.set_cons_succ]
    refine wpAnyH_ready (rs := [0]) (by kernel_rfl) (by simp) ?_
    refine AllReadyH.cons rfl (fun K hK => ?_) AllReadyH.nil
    go_simp
    have hown := own_bare8 v0 W.heap.size hsv
    have hB1 := hHeld.2.2.alloc hHeld.2.2.size (.cells #[] 82)
    have KR := Lib.hid (KR.out.alloc (.cells #[] 82))
    have KS := Lib.hid (KS.out.alloc (.cells #[] 82))
    have KT := Lib.hid (KT.out.alloc (.cells #[] 82))
    have hsv : W.heap.size ≤ (v0.alloc (.cells #[] 82)).heap.size := by simp; omega
    refine hK.out _ _ ?_ (fun hHeld => ?_)
    · exact ⟨KS.out.cell 2, KT.out.cell 2, hB1⟩
    clear hK K hB1
    try simp only [Act.put, List.setIfInBounds_toArray, List.set_cons_zero, List.set_cons_succ]
    refine wpAnyH_ready (rs := [3]) (by kernel_rfl) (by simp) ?_
    refine AllReadyH.cons rfl (fun K hK => ?_) AllReadyH.nil
    refine step_append_codes _ rfl (some 13) rfl _ _ rfl W.heap.size _ _ _ rfl hown _ rfl L (H3.out.below hHeld.2.2) (by simp; omega) hsv ?_
    intro q1 v2 hown2 hgrow2
    have hB2 := hHeld.2.2.grown hgrow2 hHeld.2.2.size (fun k hk => by have := (hown.lt k hk).1; omega)
    have KR := Lib.hid (KR.out.keep hgrow2 (fun h => by have := (hown.lt _ h.symm).1; omega))
    have KS := Lib.hid (KS.out.keep hgrow2 (fun h => by have := (hown.lt _ h.symm).1; omega))
    have KT := Lib.hid (KT.out.keep hgrow2 (fun h => by have := (hown.lt _ h.symm).1; omega))
    replace hsv := Nat.le_trans hsv hgrow2.size
    refine hK.out _ _ ?_ (fun hHeld => ?_)
    · exact ⟨KS.out.cell 2, KT.out.cell 2, hB2⟩
    clear hK K hgrow2
    replace hown := hown2
    clear hown2 hB2
    try simp only [Act.put, List.setIfInBounds_toArray, List.set_cons_zero, List.set_cons_succ]
    refine wpAnyH_ready (rs := [6]) (by kernel_rfl) (by simp) ?_
    refine AllReadyH.cons rfl (fun K hK => ?_) AllReadyH.nil
    refine step_append_codes _ rfl (some 16) rfl _ _ rfl W.heap.size _ _ _ rfl hown _ rfl L2 (H6.out.below hHeld.2.2) (by simp; omega) hsv ?_
    intro q1 v2 hown2 hgrow2
    have hB2 := hHeld.2.2.grown hgrow2 hHeld.2.2.size (fun k hk => by have := (hown.lt k hk).1; omega)
    have KR := Lib.hid (KR.out.keep hgrow2 (fun h => by have := (hown.lt _ h.symm).1; omega))
    have KS := Lib.hid (KS.out.keep hgrow2 (fun h => by have := (hown.lt _ h.symm).1; omega))
    have KT := Lib.hid (KT.out.keep hgrow2 (fun h => by have := (hown.lt _ h.symm).1; omega))
    replace hsv := Nat.le_trans hsv hgrow2.size
    refine hK.out _ _ ?_ (fun hHeld => ?_)
    · exact ⟨KS.out.cell 2, KT.out.cell 2, hB2⟩
    clear hK K hgrow2
    replace hown := hown2
    clear hown2 hB2
    try simp only [Act.put, List.setIfInBounds_toArray, List.set_cons_zero, List.set_cons_succ]
    have hlen := codes_own hown (L := L ++ L2) (by simp [codeVs_app]) (by simp)
    obtain ⟨pu, cu, rfl⟩ := hlen.len
    have HCd := Lib.hid hlen
    refine take_at 7 (v := ?_) (some 17) rfl rfl (by kernel_rfl) (by kernel_rfl) (by kernel_rfl) (fun _ _ _ h => h) (Or.inl ⟨by rfl, ?_⟩) hHeld ?_
    rotate_left
    · (intro w hSw; (try dsimp only at hSw); go_simp; (try with_reducible rfl))
    simp only [Act.put, List.setIfInBounds_toArray, List.set_cons_zero, List.set_cons_succ]
    have BV := Lib.hid hHeld.2.2
    have r0 := KR.out.cell 0
    have r1 := KR.out.cell 1
    have r2 := KR.out.cell 2
    have r3 := KR.out.free 0
    have r4 := KR.out.free 1
    have r5 := KR.out.free 2
    simp only [List.getElem?_cons_succ, List.getElem?_cons_zero] at r0 r1 r2
    refine wpAnyH_ready (rs := [8]) (by kernel_rfl) (by simp) ?_
    refine AllReadyH.cons rfl (fun K hK => ?_) AllReadyH.nil
    go_simp
    refine hK.out _ _ ?_ (fun hHeld => ?_)
    · (try dsimp only at hHeld ⊢)
      exact ⟨set_other (set_other (set_other hHeld.1 (.inl (show w.heap.size + 2 ≠ w.heap.size by omega))) (.inl (show w.heap.size + 2 ≠ w.heap.size by omega))) (.inl (show w.heap.size + 2 ≠ w.heap.size by omega)), set_other (set_other (set_other hHeld.2.1 (.inl (show w.heap.size + 2 ≠ w.heap.size + 1 by omega))) (.inl (show w.heap.size + 2 ≠ w.heap.size + 1 by omega))) (.inl (show w.heap.size + 2 ≠ w.heap.size + 1 by omega)), bel_set3 BV.out (by omega) _ _ _⟩
    clear hK K
    try simp only [Act.put, List.setIfInBounds_toArray, List.set_cons_zero, List.set_cons_succ]
    refine wpAnyH_done (by kernel_rfl) ?_ _
    clear hHeld
    go_wp2_with fail
    exact bodyPost_ret (v := .agg #[.slice none 0 0, .slice none 0 0, .slice pu (L ++ L2).length cu]) (by simp [results, Try.results40, go_sem, r0, r1, r2]) rfl ⟨_, _, _, rfl, by unfold thenG; rw [if_pos rfl]; exact ws_none _, by unfold thenK; rw [if_pos rfl]; exact ws_none _, by unfold thenL; rw [if_pos rfl]; exact codes_set3 HCd.out KR.out _ _ _, bel_set3 BV.out (by omega) _ _ _⟩
  · have hne : (what == 3) = false := by simp; omega
    obtain ⟨M, hM⟩ : ∃ M, M = bothE minN g k2 := ⟨_, rfl⟩
    obtain ⟨G, hG⟩ : ∃ G, G = bothE orN M g2 := ⟨_, rfl⟩
    obtain ⟨U, hU⟩ : ∃ U, U = bothE orN k k2 := ⟨_, rfl⟩
    have HBM := Lib.hid (show M.length ≤ 1000 by rw [hM, bothE_len]; omega)
    have HBG := Lib.hid (show G.length ≤ 1000 by rw [hG, bothE_len]; have := HBM.out; omega)
    have HBU := Lib.hid (show U.length ≤ 1000 by rw [hU, bothE_len]; omega)
    have HG := Lib.hid (show thenG what g g2 k2 = G by unfold thenG; rw [if_neg h3, hG, hM])
    have HK := Lib.hid (show thenK what g k g2 k2 = bothE minN U G by unfold thenK; rw [if_neg h3, HG.out, hU])
    have HL := Lib.hid (show thenL what L L2 = [] by unfold thenL; rw [if_neg h3])
    have HF1 := Lib.hid (show bothF (fun x y => x && !y) g k2 (64 * max g.length k2.length) = M by rw [hM]; exact bothF_all (fun x y => x && !y) minN minN_lt (fun x y j hx hy => minN_bit x y j hx hy) g k2 H1.out.1 H5.out.1)
    have hML : ∀ z ∈ M, z < 18446744073709551616 := by rw [hM]; exact bothE_lt minN_lt H1.out.1 H5.out.1
    have HF2 := Lib.hid (show bothF (fun x y => x || y) M g2 (64 * max M.length g2.length) = G by rw [hG]; exact bothF_all (fun x y => x || y) orN orN_lt (fun x y j _ _ => or_bits x y j) M g2 hML H4.out.1)
    have hGL : ∀ z ∈ G, z < 18446744073709551616 := by rw [hG]; exact bothE_lt orN_lt hML H4.out.1
    have HF3 := Lib.hid (show bothF (fun x y => x || y) k k2 (64 * max k.length k2.length) = U by rw [hU]; exact bothF_all (fun x y => x || y) orN orN_lt (fun x y j _ _ => or_bits x y j) k k2 H2.out.1 H5.out.1)
    have hUL : ∀ z ∈ U, z < 18446744073709551616 := by rw [hU]; exact bothE_lt orN_lt H2.out.1 H5.out.1
    have HF4 := Lib.hid (show bothF (fun x y => x && !y) U G (64 * max U.length G.length) = bothE minN U G from bothF_all (fun x y => x && !y) minN minN_lt (fun x y j hx hy => minN_bit x y j hx hy) U G hUL hGL)
    clear hM hG hU hML hGL hUL h3
    go_wp2_with fail
    have hsz : w.heap.size + 3 = (((w.alloc (.cells #[.slice pg g.length cg, .slice pk k.length ck, .slice pl L.length cl] 45)).alloc (.cells #[.slice pg2 g2.length cg2, .slice pk2 k2.length ck2, .slice pl2 L2.length cl2] 45)).alloc (.cells #[.slice none 0 0, .slice none 0 0, .slice none 0 0] 45)).heap.size := by simp
    generalize hW : (((w.alloc (.cells #[.slice pg g.length cg, .slice pk k.length ck, .slice pl L.length cl] 45)).alloc (.cells #[.slice pg2 g2.length cg2, .slice pk2 k2.length ck2, .slice pl2 L2.length cl2] 45)).alloc (.cells #[.slice none 0 0, .slice none 0 0, .slice none 0 0] 45)) = W at *
    clear hW
    refine wp_region_held_drew (S := (fun w' => w'.cell? ⟨w.heap.size, 0, none⟩ = some (.slice pg g.length cg) ∧ w'.cell? ⟨w.heap.size + 1, 0, none⟩ = some (.slice pg2 g2.length cg2) ∧ w'.cell? ⟨w.heap.size + 1, 1, none⟩ = some (.slice pk2 k2.length ck2) ∧ Below W.heap.size W w')) (by kernel_rfl) ?_ (fun hHeld => ?_)
    · exact ⟨KS.out.cell 0, KT.out.cell 0, KT.out.cell 1, (Below.refl _ _).drew⟩
    refine take_at 0 (v := ?_) (some 18) rfl rfl (by kernel_rfl) (by kernel_rfl) (by kernel_rfl) (fun _ _ _ h => h) (Or.inl ⟨by rfl, ?_⟩) hHeld ?_
    rotate_left
    · (intro w hSw; (try dsimp only at hSw); go_simp; (try with_reducible rfl))
    simp only [Act.put, List.setIfInBounds_toArray, List.set_cons_zero, List.set_cons_succ]
    refine take_at 1 (v := ?_) (some 19) rfl rfl (by kernel_rfl) (by kernel_rfl) (by kernel_rfl) (fun _ _ _ h => h) (Or.inl ⟨by rfl, ?_⟩) hHeld ?_
    rotate_left
    · (intro w hSw; (try dsimp only at hSw); go_simp; (try with_reducible rfl))
    simp only [Act.put, List.setIfInBounds_toArray, List.set_cons_zero, List.set_cons_succ]
    refine take_at 2 (v := ?_) (some 20) rfl rfl (by kernel_rfl) (by kernel_rfl) (by kernel_rfl) (fun _ _ _ h => h) (Or.inl ⟨by rfl, ?_⟩) hHeld ?_
    rotate_left
    · (intro w hSw; (try dsimp only at hSw); go_simp; (try with_reducible rfl))
    simp only [Act.put, List.setIfInBounds_toArray, List.set_cons_zero, List.set_cons_succ]
    refine take_at 3 (v := ?_) (some 21) rfl rfl (by kernel_rfl) (by kernel_rfl) (by kernel_rfl) (fun _ _ _ h => h) (Or.inl ⟨by rfl, ?_⟩) hHeld ?_
    rotate_left
    · (intro w hSw; (try dsimp only at hSw); go_simp; (try with_reducible rfl))
    simp only [Act.put, List.setIfInBounds_toArray, List.set_cons_zero, List.set_cons_succ]
    refine take_at 5 (v := ?_) (some 23) rfl rfl (by kernel_rfl) (by kernel_rfl) (by kernel_rfl) (fun _ _ _ h => h) (Or.inl ⟨by rfl, ?_⟩) hHeld ?_
    rotate_left
    · (intro w hSw; (try dsimp only at hSw); go_simp; (try with_reducible rfl))
    simp only [Act.put, List.setIfInBounds_toArray, List.set_cons_zero, List.set_cons_succ]
    refine take_at 6 (v := ?_) (some 24) rfl rfl (by kernel_rfl) (by kernel_rfl) (by kernel_rfl) (fun _ _ _ h => h) (Or.inl ⟨by rfl, ?_⟩) hHeld ?_
    rotate_left
    · (intro w hSw; (try dsimp only at hSw); go_simp; (try with_reducible rfl))
    simp only [Act.put, List.setIfInBounds_toArray, List.set_cons_zero, List.set_cons_succ]
    refine wpAnyH_ready (rs := [4]) (by kernel_rfl) (by simp) ?_
    refine AllReadyH.cons rfl (fun K hK => ?_) AllReadyH.nil
    go_simp
    go_split_ands; refine (rboth_any 3 (fun x y => x && !y) (.inr (.inr ⟨rfl, rfl⟩)) _ _ g k2 _ ((H1.out.below B3.out).below (show Below W.heap.size W _ by assumption)) ((H5.out.below B3.out).below (show Below W.heap.size W _ by assumption)) m1 m5).mono ?_; rintro e w5 ⟨v5, rfl, hW5, hB⟩; rw [HF1.out] at hW5; have HW5 := Lib.hid hW5; obtain ⟨p5, c5, rfl⟩ := ws_len hW5; clear hW5
    go_wp2_with fail
    refine hK.out _ _ ?_ (fun hHeld => ?_)
    · (try dsimp only at hHeld ⊢)
      go_split_ands
      exact ⟨keepc (by assumption) hB, keepc (by assumption) hB, keepc (by assumption) hB, bel_then (by assumption) hB⟩
    clear hK K hB
    try simp only [Act.put, List.setIfInBounds_toArray, List.set_cons_zero, List.set_cons_succ]
    refine wpAnyH_ready (rs := [7]) (by kernel_rfl) (by simp) ?_
    refine AllReadyH.cons rfl (fun K hK => ?_) AllReadyH.nil
    go_simp
    go_split_ands; refine (rboth_any 1 (fun x y => x || y) (.inl ⟨rfl, rfl⟩) _ _ M g2 _ HW5.out ((H4.out.below B3.out).below (show Below W.heap.size W _ by assumption)) HBM.out m4).mono ?_; rintro e w6 ⟨v6, rfl, hW6, hB⟩; rw [HF2.out] at hW6; have HW6 := Lib.hid hW6; obtain ⟨p6, c6, rfl⟩ := ws_len hW6; clear hW6
    go_wp2_with fail
    refine hK.out _ _ ?_ (fun hHeld => ?_)
    · (try dsimp only at hHeld ⊢)
      go_split_ands
      exact ⟨keepc (by assumption) hB, keepc (by assumption) hB, keepc (by assumption) hB, bel_then (by assumption) hB⟩
    clear hK K hB
    try simp only [Act.put, List.setIfInBounds_toArray, List.set_cons_zero, List.set_cons_succ]
    refine take_at 8 (v := ?_) (some 7) rfl rfl (by kernel_rfl) (by kernel_rfl) (by kernel_rfl) (fun _ _ _ h => h) (Or.inl ⟨by rfl, ?_⟩) hHeld ?_
    rotate_left
    · (intro w hSw; (try dsimp only at hSw); go_simp; (try with_reducible rfl))
    simp only [Act.put, List.setIfInBounds_toArray, List.set_cons_zero, List.set_cons_succ]
    refine wpAnyH_done (by kernel_rfl) ?_ _
    go_split_ands
    have BF := Lib.hid (show Below W.heap.size W w6 by assumption)
    have KS3 := Lib.hid (KS.out.below BF.out)
    have KT3 := Lib.hid (KT.out.below BF.out)
    have KR3 := Lib.hid (KR.out.below BF.out)
    have B4 := Lib.hid (B3.out.trans (BF.out.mono B3.out.size))
    have f1 := KS3.out.cell 1
    have g1 := KT3.out.cell 1
    simp only [List.getElem?_cons_succ, List.getElem?_cons_zero] at f1 g1
    go_wp2_with fail
    refine (rboth_any 1 (fun x y => x || y) (.inl ⟨rfl, rfl⟩) _ _ k k2 _ (H2.out.below B4.out) (H5.out.below B4.out) m2 m5).mono ?_
    rintro e w7 ⟨u7, rfl, hW7, hB⟩
    rw [HF3.out] at hW7
    have HW7 := Lib.hid hW7
    have HW67 := Lib.hid (HW6.out.below hB)
    have B5 := Lib.hid (B4.out.trans (hB.mono B4.out.size))
    have KR4 := Lib.hid (KR3.out.below hB)
    obtain ⟨p7, c7, rfl⟩ := ws_len hW7
    clear hW7 hB f1 g1
    go_wp2_with fail
    refine (rboth_any 3 (fun x y => x && !y) (.inr (.inr ⟨rfl, rfl⟩)) _ _ U G _ HW7.out HW67.out HBU.out HBG.out).mono ?_
    rintro e w8 ⟨u8, rfl, hW8, hB⟩
    rw [HF4.out] at hW8
    have HW8 := Lib.hid hW8
    have HW68 := Lib.hid (HW67.out.below hB)
    have B6 := Lib.hid (B5.out.trans (hB.mono B5.out.size))
    have KR5 := Lib.hid (KR4.out.below hB)
    obtain ⟨p8, c8, rfl⟩ := ws_len hW8
    have r0 := KR5.out.cell 0
    have r1 := KR5.out.cell 1
    have r2 := KR5.out.cell 2
    have r3 := KR5.out.free 0
    have r4 := KR5.out.free 1
    have r5 := KR5.out.free 2
    simp only [List.getElem?_cons_succ, List.getElem?_cons_zero] at r0 r1 r2
    clear hW8 hB
    go_wp2_with fail
    exact bodyPost_ret (v := .agg #[.slice p6 G.length c6, .slice p8 (bothE minN U G).length c8, .slice none 0 0]) (by simp [results, Try.results40, go_sem, r0, r1, r2]) rfl ⟨_, _, _, rfl, by rw [HG.out]; exact ws_set3 HW68.out KR5.out _ _ _, by rw [HK.out]; exact ws_set3 HW8.out KR5.out _ _ _, by rw [HL.out]; exact codes_none _, bel_set3 B6.out (by omega) _ _ _⟩

end Go.Proofs.Ytflkelnfdoihlaa
