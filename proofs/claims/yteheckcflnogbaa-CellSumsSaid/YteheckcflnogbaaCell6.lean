/-
  soughref30.Sum: contract. Written by wip/gen/mkcell6.py.
-/
import Derived.Test.YteheckcflnogbaaCell5
namespace Go.Proofs.Yteheckcflnogbaa
open Go.RowKit

/-- A slice of slices of words that reads as these lists. -/
def Lls (w : World) (v : Value) (ls : List (List Nat)) : Prop :=
  ∃ o c, v = .slice o ls.length c ∧ (0 < ls.length → ∃ b off, o = some ⟨b, off, none⟩ ∧ ∀ j, j < ls.length → ∃ u, w.cell? ⟨b, off + j, none⟩ = some u ∧ Ws w u (ls[j]?.getD []))
theorem Lls.below {w w' : World} {v : Value} {ls : List (List Nat)} (h : Lls w v ls) (k : Below w.heap.size w w') : Lls w' v ls := by
  obtain ⟨o, c, rfl, hc⟩ := h
  refine ⟨o, c, rfl, fun h0 => ?_⟩
  obtain ⟨b, off, rfl, hd⟩ := hc h0
  refine ⟨b, off, rfl, fun j hj => ?_⟩
  obtain ⟨u, h1, h2⟩ := hd j hj
  exact ⟨u, keepc h1 k, h2.below k⟩
/-- Words joined with others, up to place k. -/
def joinK (f : Nat → Nat → Nat) (a x : List Nat) : Nat → List Nat
  | 0 => a
  | k + 1 => (joinK f a x k).set k (f ((joinK f a x k)[k]?.getD 0) (x[k]?.getD 0))
def sumE (f : Nat → Nat → Nat) (a : List Nat) (ls : List (List Nat)) : List Nat := ls.foldl (fun a x => joinK f a x a.length) a
theorem joinK_len (f : Nat → Nat → Nat) (a x : List Nat) (k : Nat) : (joinK f a x k).length = a.length := by
  induction k with
  | zero => rfl
  | succ k ih => unfold joinK; rw [List.length_set, ih]
theorem sumE_snoc (f : Nat → Nat → Nat) (a : List Nat) (ls : List (List Nat)) (x : List Nat) : sumE f a (ls ++ [x]) = joinK f (sumE f a ls) x (sumE f a ls).length := by unfold sumE; rw [List.foldl_append]; rfl
theorem sumE_take (f : Nat → Nat → Nat) (a : List Nat) (ls : List (List Nat)) (k : Nat) (h : k < ls.length) : sumE f a (ls.take (k + 1)) = joinK f (sumE f a (ls.take k)) (ls[k]?.getD []) (sumE f a (ls.take k)).length := by
  rw [List.take_succ_eq_append_getElem h, sumE_snoc, List.getElem?_eq_getElem h]; rfl
theorem sumE_len (f : Nat → Nat → Nat) (a : List Nat) (ls : List (List Nat)) : (sumE f a ls).length = a.length := by
  induction ls generalizing a with
  | nil => rfl
  | cons x ls ih => show (sumE f (joinK f a x a.length) ls).length = _; rw [ih, joinK_len]
def small64 (a : List Nat) : Prop := ∀ z ∈ a, z < 18446744073709551616
theorem small_at {a : List Nat} (h : small64 a) (i : Nat) : a[i]?.getD 0 < 18446744073709551616 := by
  rcases Nat.lt_or_ge i a.length with hi | hi
  · rw [List.getElem?_eq_getElem hi]; exact h _ (List.getElem_mem hi)
  · rw [List.getElem?_eq_none hi]; decide
theorem small_set {a : List Nat} (h : small64 a) (i z : Nat) (hz : z < 18446744073709551616) : small64 (a.set i z) := fun y hy => by
  rcases List.mem_or_eq_of_mem_set hy with h' | rfl
  · exact h y h'
  · exact hz
theorem joinK_small {f : Nat → Nat → Nat} (hf : ∀ x y, x < 18446744073709551616 → y < 18446744073709551616 → f x y < 18446744073709551616) {a x : List Nat} (ha : small64 a) (hx : small64 x) (k : Nat) : small64 (joinK f a x k) := by
  induction k with
  | zero => exact ha
  | succ k ih => exact small_set ih _ _ (hf _ _ (small_at ih k) (small_at hx k))
theorem sumE_small {f : Nat → Nat → Nat} (hf : ∀ x y, x < 18446744073709551616 → y < 18446744073709551616 → f x y < 18446744073709551616) {a : List Nat} (ha : small64 a) {ls : List (List Nat)} (hl : ∀ x ∈ ls, small64 x) : small64 (sumE f a ls) := by
  induction ls generalizing a with
  | nil => exact ha
  | cons x ls ih => exact ih (joinK_small hf ha (hl x (by simp)) _) (fun y hy => hl y (by simp [hy]))
/-- A row of words that this call owns. -/
def ns (a : List Nat) : List Value := a.map fun z => .int .u64 (z : Nat)
def Ow (w : World) (B : Nat) (u : Value) (n : Nat) (a : List Nat) : Prop := w.ownsRow B 29 1 u n (ns a)
theorem ns_at (a : List Nat) (i : Nat) (h : i < a.length) : (ns a)[i]? = some (.int .u64 ((a[i]?.getD 0 : Nat) : Int)) := by
  unfold ns
  rw [List.getElem?_map, List.getElem?_eq_getElem h]
  rfl
theorem ns_set (a : List Nat) (i z : Nat) : (ns a).set i (.int .u64 (z : Int)) = ns (a.set i z) := by unfold ns; rw [List.map_set]
theorem ow_bare (w : World) (base : Nat) (hb : base ≤ w.heap.size) : (w.alloc (.cells #[] 29)).ownsRow base 29 1 (.slice (some ⟨w.heap.size, 0, none⟩) 0 0) 0 [] :=
  ⟨by simp, .inr ⟨w.heap.size, 0, #[], rfl, hb, heap_alloc_new w _, Nat.le_refl _, by unfold maxLen; omega, by simp, by simp⟩⟩
theorem ow_set {w : World} {B g n cap i : Nat} {xs : List Value} {u : Value} (h : w.ownsRow B 29 1 (.slice (some ⟨g, 0, none⟩) n cap) n xs) : (w.setCell ⟨g, i, none⟩ u).ownsRow B 29 1 (.slice (some ⟨g, 0, none⟩) n cap) n (xs.set i u) := by
  obtain ⟨hl, ⟨h1, _⟩ | ⟨g', cap', cur, h1, hg, hb, hnc, hm, hs, hc⟩⟩ := h
  · cases h1
  · injection h1 with h1 h2 h3
    injection h1 with h1
    injection h1 with h1
    subst h1 h3
    have hk : Bk w g 29 cur.toList := hb
    have hk2 := hk.set i u
    refine ⟨by simpa using hl, .inr ⟨g, cap, (cur.toList.set i u).toArray, rfl, hg, hk2, hnc, hm, by simpa using hs, ?_⟩⟩
    rw [← hc]
    simp [List.take_set]
theorem ow_free {w : World} {B g n cap : Nat} {xs : List Value} (h : w.ownsRow B 29 1 (.slice (some ⟨g, 0, none⟩) n cap) n xs) (i : Nat) : w.frozen? ⟨g, i, none⟩ = false := by
  obtain ⟨hl, ⟨h1, _⟩ | ⟨g', cap', cur, h1, hg, hb, hnc, hm, hs, hc⟩⟩ := h
  · cases h1
  · injection h1 with h1 h2 h3
    injection h1 with h1
    injection h1 with h1
    subst h1
    simp [World.frozen?, hb]
theorem Ow.ws {w : World} {B n : Nat} {u : Value} {a : List Nat} (h : Ow w B u n a) (hn : n = a.length) (hs : small64 a) : Ws w u a := by
  subst hn
  have hc := h
  obtain ⟨hl, ⟨rfl, h0⟩ | ⟨g, cap, cur, rfl, hg, _⟩⟩ := h
  · exact ⟨hs, .inl ⟨rfl, List.eq_nil_of_length_eq_zero h0⟩⟩
  · refine ⟨hs, .inr ⟨_, cap, rfl, fun i hi => ?_⟩⟩
    have hc' : w.ownsRow B 29 1 (.slice (some ⟨g, 0, none⟩) a.length cap) a.length (ns a) := hc
    exact hc'.cells (g := g) rfl i _ (ns_at a i hi)

set_option maxHeartbeats 3200000 in
set_option maxRecDepth 100000 in
theorem rsum_any (what : Int) (v vl : Value) (a : List Nat) (ls : List (List Nat)) (f : Nat → Nat → Nat) (w : World) (h : Ws w v a) (hv : ∃ ad c, v = .slice (some ad) a.length c) (hl : Lls w vl ls) (ha : a.length ≤ 100000) (hll : ls.length ≤ 100000) (hf2 : ∀ x y, x < 18446744073709551616 → y < 18446744073709551616 → f x y < 18446744073709551616) (hf : ∀ (x y : Nat) (w : World), x < 18446744073709551616 → y < 18446744073709551616 → Calls Try.prog 31 #[.int .i64 what, .int .u64 x, .int .u64 y] w fun e w' => e = .returned (.int .u64 (f x y : Nat)) ∧ Below w.heap.size w w') :
    Calls Try.prog 86 #[.int .i64 what, v, vl] w fun e w' => ∃ u, e = .returned u ∧ Ws w' u (sumE f a ls) ∧ Below w.heap.size w w' := by
  obtain ⟨i0, hi, hz0, hz1, hz2⟩ := info_parts u6_info
  have HRF := Lib.hid hf
  have HF2 := Lib.hid hf2
  have HB0 := Lib.hid ((Below.refl w.heap.size w).alloc (Nat.le_refl _) (.cells #[] 29))
  have HU := Lib.hid (ow_bare w w.heap.size (Nat.le_refl _))
  obtain ⟨ad, c, rfl⟩ := hv
  have HSA := Lib.hid (show small64 a from h.1)
  have HQ := Lib.hid (show ∀ j u, (ns a)[j]? = some u → w.cell? (ad.add j) = some u from fun j u hj => by
    have hlt : j < a.length := by
      rcases Nat.lt_or_ge j a.length with h | h
      · exact h
      · rw [List.getElem?_eq_none (by simpa [ns] using h)] at hj; cases hj
    rw [ns_at a j hlt] at hj
    injection hj with hj
    subst hj
    obtain ⟨_, ⟨h1, _⟩ | ⟨ad', c', h1, hc⟩⟩ := h
    · cases h1
    · injection h1 with h1
      injection h1 with h1
      subst h1
      exact hc j hlt)
  obtain ⟨ol, cl, rfl, hlc⟩ := hl
  have HL := Lib.hid hlc
  clear h hlc hf hf2
  go_enter Try.func86, Try.ntmps86
  go_wp2_with (at_builtin; refine wpList_append_own _ rfl _ _ 22 rfl w.heap.size 29 i0 (.int .u64 0) 1 8 Try.underlying22 hi hz0 hz1 hz2 rfl (by decide) _ 0 [] rfl HU.out ad a.length c (ns a) rfl ?c1 ?c2 ?c3 ?c4 ?c5 ?c6 ?_)
  case c1 => simp [ns]
  case c2 => exact fun j u hj => keepc (HQ.out j u hj) HB0.out
  case c3 => exact fun u hu => by obtain ⟨_, _, rfl⟩ := List.mem_map.1 hu; rfl
  case c4 => unfold maxLen; omega
  case c5 => omega
  case c6 => simp
  intro v' w1 hown hgrow hnil
  have HO := Lib.hid (show Ow w1 w.heap.size v' a.length a by unfold Ow; simpa using hown)
  have HB1 := Lib.hid (HB0.out.grown hgrow (by simp) (fun k hk => (HU.out.lt k hk).1))
  clear hgrow hown
  obtain ⟨ov, cv, rfl⟩ := own_slice HO.out
  clear hnil
  go_wp2_with fail
  go_loopw [16] (fun i wr => ∃ j : Nat, j ≤ ls.length ∧ i = .int .i64 j ∧ Ow wr w.heap.size (.slice ov a.length cv) a.length (sumE f a (ls.take j)) ∧ Hid (small64 (sumE f a (ls.take j))) ∧ Below w.heap.size w wr)
    (fun i _ => ls.length - (intOf i).toNat)
  case atStart => exact ⟨0, Nat.zero_le _, rfl, HO.out, Lib.hid HSA.out, HB1.out⟩
  case round =>
    obtain ⟨j, hj, rfl, hO, HSM, hB⟩ := hrel
    have HO := Lib.hid hO
    have HB := Lib.hid hB
    clear hO hB
    by_cases hlt : j < ls.length
    · obtain ⟨lb, lo, rfl, hd⟩ := HL.out (by omega)
      obtain ⟨vx, hvx, hx⟩ := hd j hlt
      have HSX := Lib.hid (show small64 (ls[j]?.getD []) from hx.1)
      have hvr := keepc hvx HB.out
      have HX := Lib.hid hx
      have HST := Lib.hid (sumE_take f a ls j hlt)
      have HZL := Lib.hid (sumE_len f a (ls.take j))
      have hji : (j : Int) < ls.length := by omega
      clear hd hvx hx
      generalize ls[j]?.getD [] = x at *
      generalize sumE f a (ls.take j) = z at *
      have HO0 := Lib.hid (show Ow wr w.heap.size (.slice ov a.length cv) a.length (joinK f z x 0) from HO.out)
      go_wp2_with fail
      go_loopw [22] (fun i wr => ∃ k : Nat, k ≤ a.length ∧ i = .int .i64 k ∧ Ow wr w.heap.size (.slice ov a.length cv) a.length (joinK f z x k) ∧ Below w.heap.size w wr)
        (fun i _ => a.length - (intOf i).toNat)
      case atStart => exact ⟨0, Nat.zero_le _, rfl, HO0.out, HB.out⟩
      case round =>
        obtain ⟨k, hk, rfl, hO, hB⟩ := hrel
        have HBQ := Lib.hid hB
        clear hB
        have hyl : (joinK f z x k).length = a.length := by rw [joinK_len, HZL.out]
        have HSY := Lib.hid (joinK_small HF2.out HSM.out HSX.out k)
        have HJS := Lib.hid (show joinK f z x (k + 1) = (joinK f z x k).set k (f ((joinK f z x k)[k]?.getD 0) (x[k]?.getD 0)) from rfl)
        by_cases hltk : k < a.length
        · generalize joinK f z x k = y at *
          have hO' : wr.ownsRow w.heap.size 29 1 (.slice ov a.length cv) a.length (ns y) := hO
          obtain ⟨g, cap, e, hgB, hcell⟩ := row_at30 hO' (by omega)
          injection e with e1 e2 e3
          subst e1 e3
          have hly : k < y.length := by omega
          have HRD := Lib.hid (hcell k _ (ns_at y k hly))
          have HCE := Lib.hid (show ∀ W : World, W.ownsRow w.heap.size 29 1 (.slice (some ⟨g, 0, none⟩) a.length cv) a.length (ns y) → W.cell? ⟨g, k, none⟩ = some (.int .u64 ((y[k]?.getD 0 : Nat) : Int)) from fun W hW => by
            have := hW.cells (g := g) rfl k _ (ns_at y k hly)
            rwa [Addr.add_lit, Nat.zero_add] at this)
          have HGB := Lib.hid hgB
          have HYK := Lib.hid (small_at HSY.out k)
          have HXK := Lib.hid (small_at HSX.out k)
          have HWX := Lib.hid (show wdA x k = ((x[k]?.getD 0 : Nat) : Int) from rfl)
          generalize y[k]?.getD 0 = yk at *
          generalize x[k]?.getD 0 = xk at *
          have HYL := Lib.hid hyl
          have HOQ := Lib.hid hO'
          have hki : (k : Int) < a.length := by omega
          clear hcell hO hO' e2 hgB
          go_wp2_with fail
          refine wp_region_held_drew (S := (fun _ => True)) (by kernel_rfl) ?_ (fun hHeld => ?_)
          · exact trivial
          refine take_at 0 (v := ?_) (some 25) rfl rfl (by kernel_rfl) (by kernel_rfl) (by kernel_rfl) (fun _ _ _ h => h) (Or.inl ⟨by rfl, ?_⟩) hHeld ?_
          rotate_left
          · (intro w hSw; (try dsimp only at hSw); go_simp; (try with_reducible rfl))
          simp only [Act.put, List.setIfInBounds_toArray, List.set_cons_zero, List.set_cons_succ]
          refine take_at 1 (v := ?_) (some 26) rfl rfl (by kernel_rfl) (by kernel_rfl) (by kernel_rfl) (fun _ _ _ h => h) (Or.inl ⟨by rfl, ?_⟩) hHeld ?_
          rotate_left
          · (intro w hSw; (try dsimp only at hSw); go_simp; (try with_reducible rfl))
          simp only [Act.put, List.setIfInBounds_toArray, List.set_cons_zero, List.set_cons_succ]
          refine take_at 2 (v := ?_) (some 27) rfl rfl (by kernel_rfl) (by kernel_rfl) (by kernel_rfl) (fun _ _ _ h => h) (Or.inl ⟨by rfl, ?_⟩) hHeld ?_
          rotate_left
          · (intro w hSw; (try dsimp only at hSw); go_simp; (try with_reducible rfl))
          simp only [Act.put, List.setIfInBounds_toArray, List.set_cons_zero, List.set_cons_succ]
          refine take_at 3 (v := ?_) (some 28) rfl rfl (by kernel_rfl) (by kernel_rfl) (by kernel_rfl) (fun _ _ _ h => h) (Or.inl ⟨by rfl, ?_⟩) hHeld ?_
          rotate_left
          · (intro w hSw; (try dsimp only at hSw); go_simp; (try with_reducible rfl))
          simp only [Act.put, List.setIfInBounds_toArray, List.set_cons_zero, List.set_cons_succ]
          refine take_at 4 (v := ?_) (some 29) rfl rfl (by kernel_rfl) (by kernel_rfl) (by kernel_rfl) (fun _ _ _ h => h) (Or.inl ⟨by rfl, ?_⟩) hHeld ?_
          rotate_left
          · (intro w hSw; (try dsimp only at hSw); go_simp; (try with_reducible rfl))
          simp only [Act.put, List.setIfInBounds_toArray, List.set_cons_zero, List.set_cons_succ]
          refine take_at 5 (v := ?_) (some 30) rfl rfl (by kernel_rfl) (by kernel_rfl) (by kernel_rfl) (fun _ _ _ h => h) (Or.inl ⟨by rfl, ?_⟩) hHeld ?_
          rotate_left
          · (intro w hSw; (try dsimp only at hSw); go_simp; (try with_reducible rfl))
          simp only [Act.put, List.setIfInBounds_toArray, List.set_cons_zero, List.set_cons_succ]
          refine take_at 7 (v := ?_) (some 32) rfl rfl (by kernel_rfl) (by kernel_rfl) (by kernel_rfl) (fun _ _ _ h => h) (Or.inl ⟨by rfl, ?_⟩) hHeld ?_
          rotate_left
          · (intro w hSw; (try dsimp only at hSw); go_simp; (try with_reducible rfl))
          simp only [Act.put, List.setIfInBounds_toArray, List.set_cons_zero, List.set_cons_succ]
          refine take_at 8 (v := ?_) (some 33) rfl rfl (by kernel_rfl) (by kernel_rfl) (by kernel_rfl) (fun _ _ _ h => h) (Or.inl ⟨by rfl, ?_⟩) hHeld ?_
          rotate_left
          · (intro w hSw; (try dsimp only at hSw); go_simp; (try with_reducible rfl))
          simp only [Act.put, List.setIfInBounds_toArray, List.set_cons_zero, List.set_cons_succ]
          refine wpAnyH_ready (rs := [6, 9]) (by kernel_rfl) (by simp) ?_
          refine AllReadyH.cons rfl (fun K hK => ?_) (AllReadyH.cons rfl (fun K hK => ?_) AllReadyH.nil)
          · have r0 : wr.drew.cell? ⟨g, k, none⟩ = some (.int .u64 (yk : Int)) := HRD.out
            go_simp
            refine hK.out _ _ trivial (fun hHeld => ?_)
            clear hK K r0
            try simp only [Act.put, List.setIfInBounds_toArray, List.set_cons_zero, List.set_cons_succ]
            refine wpAnyH_ready (rs := [9]) (by kernel_rfl) (by simp) ?_
            refine AllReadyH.cons rfl (fun K hK => ?_) AllReadyH.nil
            go_simp
            refine (rcword30_any vx x k _ (HX.out.below (show Below w.heap.size w wr.drew from ⟨HBQ.out.os, HBQ.out.tape, HBQ.out.output, HBQ.out.size, HBQ.out.block⟩))).mono ?_
            rintro e v1 ⟨rfl, hww⟩
            subst v1
            rw [HWX.out]
            go_wp2_with fail
            refine hK.out _ _ trivial (fun hHeld => ?_)
            clear hK K
            try simp only [Act.put, List.setIfInBounds_toArray, List.set_cons_zero, List.set_cons_succ]
            refine wpAnyH_ready (rs := [10]) (by kernel_rfl) (by simp) ?_
            refine AllReadyH.cons rfl (fun K hK => ?_) AllReadyH.nil
            go_simp
            refine (HRF.out yk xk _ HYK.out HXK.out).mono ?_
            rintro e v2 ⟨rfl, hB⟩
            replace hB : Below wr.heap.size wr v2 := ⟨hB.os, hB.tape, hB.output, hB.size, hB.block⟩
            have HO2 := Lib.hid (own_below HOQ.out hB)
            have HB2 := Lib.hid (HBQ.out.trans (hB.mono HBQ.out.size))
            clear hB
            go_wp2_with fail
            refine hK.out _ _ trivial (fun hHeld => ?_)
            clear hK K
            try simp only [Act.put, List.setIfInBounds_toArray, List.set_cons_zero, List.set_cons_succ]
            refine take_at 11 (v := ?_) (some 36) rfl rfl (by kernel_rfl) (by kernel_rfl) (by kernel_rfl) (fun _ _ _ h => h) (Or.inl ⟨by rfl, ?_⟩) hHeld ?_
            rotate_left
            · (intro w hSw; (try dsimp only at hSw); go_simp; (try with_reducible rfl))
            simp only [Act.put, List.setIfInBounds_toArray, List.set_cons_zero, List.set_cons_succ]
            refine wpAnyH_ready (rs := [12]) (by kernel_rfl) (by simp) ?_
            refine AllReadyH.cons rfl (fun K hK => ?_) AllReadyH.nil
            have r2 : v2.cell? ⟨g, k, none⟩ = some (.int .u64 (yk : Int)) := HCE.out _ HO2.out
            have fz : v2.frozen? ⟨g, k, none⟩ = false := ow_free HO2.out k
            go_simp
            refine hK.out _ _ trivial (fun hHeld => ?_)
            clear hK K r2 fz
            try simp only [Act.put, List.setIfInBounds_toArray, List.set_cons_zero, List.set_cons_succ]
            refine wpAnyH_done (by kernel_rfl) ?_ _
            go_split_ands
            have HO3 := Lib.hid (ow_set (i := k) (u := .int .u64 ((f yk xk : Nat) : Int)) HO2.out)
            have HB3 := Lib.hid (HB2.out.setCell (p := ⟨g, k, none⟩) HGB.out (.int .u64 ((f yk xk : Nat) : Int)))
            rw [ns_set] at HO3
            go_wp2_with fail
            go_roundw
            case rel => exact ⟨k + 1, by omega, by go_num, by unfold Ow; rw [show joinK f z x (k + 1) = y.set k (f yk xk) from HJS.out]; exact HO3.out, HB3.out⟩
            case measure => simp [intOf]; omega
          · go_simp
            refine (rcword30_any vx x k _ (HX.out.below (show Below w.heap.size w wr.drew from ⟨HBQ.out.os, HBQ.out.tape, HBQ.out.output, HBQ.out.size, HBQ.out.block⟩))).mono ?_
            rintro e v1 ⟨rfl, hww⟩
            subst v1
            rw [HWX.out]
            go_wp2_with fail
            refine hK.out _ _ trivial (fun hHeld => ?_)
            clear hK K
            try simp only [Act.put, List.setIfInBounds_toArray, List.set_cons_zero, List.set_cons_succ]
            refine wpAnyH_ready (rs := [6]) (by kernel_rfl) (by simp) ?_
            refine AllReadyH.cons rfl (fun K hK => ?_) AllReadyH.nil
            have r0 : wr.drew.cell? ⟨g, k, none⟩ = some (.int .u64 (yk : Int)) := HRD.out
            go_simp
            refine hK.out _ _ trivial (fun hHeld => ?_)
            clear hK K r0
            try simp only [Act.put, List.setIfInBounds_toArray, List.set_cons_zero, List.set_cons_succ]
            refine wpAnyH_ready (rs := [10]) (by kernel_rfl) (by simp) ?_
            refine AllReadyH.cons rfl (fun K hK => ?_) AllReadyH.nil
            go_simp
            refine (HRF.out yk xk _ HYK.out HXK.out).mono ?_
            rintro e v2 ⟨rfl, hB⟩
            replace hB : Below wr.heap.size wr v2 := ⟨hB.os, hB.tape, hB.output, hB.size, hB.block⟩
            have HO2 := Lib.hid (own_below HOQ.out hB)
            have HB2 := Lib.hid (HBQ.out.trans (hB.mono HBQ.out.size))
            clear hB
            go_wp2_with fail
            refine hK.out _ _ trivial (fun hHeld => ?_)
            clear hK K
            try simp only [Act.put, List.setIfInBounds_toArray, List.set_cons_zero, List.set_cons_succ]
            refine take_at 11 (v := ?_) (some 36) rfl rfl (by kernel_rfl) (by kernel_rfl) (by kernel_rfl) (fun _ _ _ h => h) (Or.inl ⟨by rfl, ?_⟩) hHeld ?_
            rotate_left
            · (intro w hSw; (try dsimp only at hSw); go_simp; (try with_reducible rfl))
            simp only [Act.put, List.setIfInBounds_toArray, List.set_cons_zero, List.set_cons_succ]
            refine wpAnyH_ready (rs := [12]) (by kernel_rfl) (by simp) ?_
            refine AllReadyH.cons rfl (fun K hK => ?_) AllReadyH.nil
            have r2 : v2.cell? ⟨g, k, none⟩ = some (.int .u64 (yk : Int)) := HCE.out _ HO2.out
            have fz : v2.frozen? ⟨g, k, none⟩ = false := ow_free HO2.out k
            go_simp
            refine hK.out _ _ trivial (fun hHeld => ?_)
            clear hK K r2 fz
            try simp only [Act.put, List.setIfInBounds_toArray, List.set_cons_zero, List.set_cons_succ]
            refine wpAnyH_done (by kernel_rfl) ?_ _
            go_split_ands
            have HO3 := Lib.hid (ow_set (i := k) (u := .int .u64 ((f yk xk : Nat) : Int)) HO2.out)
            have HB3 := Lib.hid (HB2.out.setCell (p := ⟨g, k, none⟩) HGB.out (.int .u64 ((f yk xk : Nat) : Int)))
            rw [ns_set] at HO3
            go_wp2_with fail
            go_roundw
            case rel => exact ⟨k + 1, by omega, by go_num, by unfold Ow; rw [show joinK f z x (k + 1) = y.set k (f yk xk) from HJS.out]; exact HO3.out, HB3.out⟩
            case measure => simp [intOf]; omega
        · obtain rfl : k = a.length := by omega
          have HOF := Lib.hid (show Ow wr w.heap.size (.slice ov a.length cv) a.length (sumE f a (ls.take (j + 1))) by rw [HST.out, HZL.out]; exact hO)
          have HSF := Lib.hid (show small64 (sumE f a (ls.take (j + 1))) by rw [HST.out, HZL.out]; exact HSY.out)
          clear hO
          go_wp2_with fail
          go_roundw
          case rel => exact ⟨j + 1, by omega, by go_num, HOF.out, HSF, HBQ.out⟩
          case measure => simp [intOf]; omega
    · obtain rfl : j = ls.length := by omega
      have HW := Lib.hid (show Ws wr (.slice ov a.length cv) (sumE f a ls) by
        have h1 := HO.out
        have h2 := HSM.out
        rw [List.take_length] at h1 h2
        exact Ow.ws h1 (sumE_len f a ls).symm h2)
      go_wp2_with fail
      go_ret
      exact ⟨_, rfl, HW.out, HB.out⟩


end Go.Proofs.Yteheckcflnogbaa
