/-
  soughref42.Small: its contract: it tells something.
-/
import Derived.Test.YtannfkibahinhaaDoorReps2
import Derived.Test.YtannfkibahinhaaDoorAppS
import Derived.Deep.DeepCutAuto
namespace Go.Proofs.YtannfkibahinhaaDoor
open Go.RowKit

theorem own_cell {w : World} {base e g n cap : Nat} {xs : List Value} (h : w.ownsRow base e 1 (.slice (some ⟨g, 0, none⟩) n cap) n xs) (j : Nat) (hj : j < n) : w.cell? ⟨g, j, none⟩ = xs[j]? := by
  obtain ⟨hl, ⟨h1, _⟩ | ⟨g', cap', cur, h1, _, hb, hn, _, _, hc⟩⟩ := h
  · cases h1
  · injection h1 with h1
    injection h1 with h1
    injection h1 with h1
    subst h1
    rw [← hc, List.getElem?_take, if_pos (by omega)]
    simp [World.cell?, hb]
theorem own_bare (w : World) (base e : Nat) (hb : base ≤ w.heap.size) : (w.alloc (.cells #[] e)).ownsRow base e 1 (.slice (some ⟨w.heap.size, 0, none⟩) 0 0) 0 [] :=
  ⟨by simp, .inr ⟨w.heap.size, 0, #[], rfl, hb, heap_alloc_new w _, Nat.le_refl _, by unfold maxLen; omega, by simp, by simp⟩⟩

set_option maxHeartbeats 6400000 in
set_option maxRecDepth 100000 in
theorem small_any (k : Int) (v : Value) (R : List RowT) (w : World) (h1 : Reps w v R) (hx : R.length ≤ 9223372036854775807) :
    Calls Tryd.prog 11 #[.agg #[.int .i64 k, v]] w fun e w' => ∃ b, e = .returned (.bool b) ∧ Below w.heap.size w w' := by
  obtain ⟨o1, c1, rfl, _, hc1⟩ := h1
  have H1 := Lib.hid hc1
  clear hc1
  have HB0 := Lib.hid ((Below.refl w.heap.size w).alloc (Nat.le_refl _) (.cells #[.int .i64 k, .slice o1 R.length c1] 31))
  by_cases hl : 10 < R.length
  · have d1 : decide ((10 : Int) < R.length) = true := by simp; omega
    clear hl
    go_enter Tryd.func11, Tryd.ntmps11
    go_wp2_with fail
    go_ret
    first | exact ⟨.inl rfl, HB0.out⟩ | exact ⟨.inr rfl, HB0.out⟩ | exact ⟨_, rfl, HB0.out⟩
  have d1 : decide ((10 : Int) < R.length) = false := by simp; omega
  have HL := Lib.hid hl
  clear hl
  go_enter Tryd.func11, Tryd.ntmps11
  go_wp2_with fail
  go_loopw [14] (fun i wr => ∃ kk : Nat, kk ≤ R.length ∧ i = .int .i64 kk ∧ Below w.heap.size w wr)
    (fun i _ => R.length - (intOf i).toNat)
  case atStart => exact ⟨0, Nat.zero_le _, rfl, HB0.out⟩
  case round =>
    obtain ⟨j, hk, rfl, hB⟩ := hrel
    have HB := Lib.hid hB
    clear hB
    by_cases hlt : j < R.length
    · obtain ⟨b1, f1, rfl, hd1⟩ := H1.out (by omega)
      obtain ⟨vi, vo, e1, e2, e3, s1, s2, m1, m2⟩ := hd1 j hlt
      clear hd1
      have s1' := s1
      have s2' := s2
      obtain ⟨p1, k1, rfl, hk1, _⟩ := s1'
      obtain ⟨p2, k2, rfl, hk2, _⟩ := s2'
      replace e1 := keepc e1 HB.out
      replace e2 := keepc e2 HB.out
      replace e3 := keepc e3 HB.out
      have S1 := Lib.hid (s1.below HB.out)
      have S2 := Lib.hid (s2.below HB.out)
      clear s1 s2
      generalize rowAt R j = r at *
      have hb1 : b1 < wr.heap.size := cell_lt e1
      obtain ⟨n, i, o⟩ := r
      dsimp only at e1 e2 e3 S1 S2 m1 m2 hk1 hk2
      have HB2 := Lib.hid ((Below.refl wr.heap.size wr).alloc (Nat.le_refl _) (.cells #[.string ⟨n.toArray⟩, .slice p1 i.length k1, .slice p2 o.length k2] 55))
      have HBK := Lib.hid (Bk.new wr 55 [.string ⟨n.toArray⟩, .slice p1 i.length k1, .slice p2 o.length k2])
      have HB3 := Lib.hid (bel_then HB.out HB2.out)
      by_cases g1 : 12 < i.length
      · have q1 : decide ((12 : Int) < i.length) = true := by simp; omega
        clear g1
        go_wp2_with fail
        go_ret
        first | exact ⟨.inl rfl, HB3.out⟩ | exact ⟨.inr rfl, HB3.out⟩ | exact ⟨_, rfl, HB3.out⟩
      have q1 : decide ((12 : Int) < i.length) = false := by simp; omega
      by_cases g2 : 12 < o.length
      · have q2 : decide ((12 : Int) < o.length) = true := by simp; omega
        clear g2
        go_wp2_with fail
        go_ret
        first | exact ⟨.inl rfl, HB3.out⟩ | exact ⟨.inr rfl, HB3.out⟩ | exact ⟨_, rfl, HB3.out⟩
      have q2 : decide ((12 : Int) < o.length) = false := by simp; omega
      by_cases g3 : 40 < n.length
      · have q3 : decide ((40 : Int) < n.length) = true := by simp; omega
        clear g3
        go_wp2_with fail
        go_ret
        first | exact ⟨.inl rfl, HB3.out⟩ | exact ⟨.inr rfl, HB3.out⟩ | exact ⟨_, rfl, HB3.out⟩
      have q3 : decide ((40 : Int) < n.length) = false := by simp; omega
      have G := Lib.hid (show i.length ≤ 12 ∧ o.length ≤ 12 from by omega)
      clear g1 g2 g3
      go_wp2_with fail
      have S3 := Lib.hid (S1.out.below HB2.out)
      have S4 := Lib.hid (S2.out.below HB2.out)
      have hsw : wr.heap.size < (wr.alloc (.cells #[.string ⟨n.toArray⟩, .slice p1 i.length k1, .slice p2 o.length k2] 55)).heap.size := by simp
      generalize hW : wr.alloc (.cells #[.string ⟨n.toArray⟩, .slice p1 i.length k1, .slice p2 o.length k2] 55) = W1 at *
      clear hW q1 q2 q3 e1 e2 e3
      go_cut [40, 41, 42] (fun s m z wx => ∃ g cap zs, s = .slice (some ⟨g, 0, none⟩) zs.length cap ∧ m = .int .i64 zs.length ∧ z = .int .i64 0 ∧ zs.length ≤ 24 ∧ (∀ j, j < zs.length → wx.cell? ⟨g, j, none⟩ = some (.string ⟨(strAt zs j).toArray⟩)) ∧ Below w.heap.size w wx)
      case first =>
        refine wp_region_held_drew (S := (fun w' => w'.cell? ⟨wr.heap.size, 1, none⟩ = some (.slice p1 i.length k1) ∧ w'.cell? ⟨wr.heap.size, 2, none⟩ = some (.slice p2 o.length k2) ∧ Below W1.heap.size W1 w')) (by kernel_rfl) ?_ (fun hHeld => ?_)
        · exact ⟨HBK.out.cell 1, HBK.out.cell 2, (Below.refl _ _).drew⟩
        generalize W1.drew = v0 at hHeld ⊢
        refine take_at 1 (v := ?_) (some 35) rfl rfl (by kernel_rfl) (by kernel_rfl) (by kernel_rfl) (fun _ _ _ h => h) (Or.inl ⟨by rfl, ?_⟩) hHeld ?_
        rotate_left
        · (intro w hSw; (try dsimp only at hSw); go_simp; (try with_reducible rfl))
        simp only [Act.put, List.setIfInBounds_toArray, List.set_cons_zero, List.set_cons_succ]
        refine take_at 2 (v := ?_) (some 36) rfl rfl (by kernel_rfl) (by kernel_rfl) (by kernel_rfl) (fun _ _ _ h => h) (Or.inl ⟨by rfl, ?_⟩) hHeld ?_
        rotate_left
        · (intro w hSw; (try dsimp only at hSw); go_simp; (try with_reducible rfl))
        simp only [Act.put, List.setIfInBounds_toArray, List.set_cons_zero, List.set_cons_succ]
        refine take_at 4 (v := ?_) (some 38) rfl rfl (by kernel_rfl) (by kernel_rfl) (by kernel_rfl) (fun _ _ _ h => h) (Or.inl ⟨by rfl, ?_⟩) hHeld ?_
        rotate_left
        · (intro w hSw; (try dsimp only at hSw); go_simp; (try with_reducible rfl))
        simp only [Act.put, List.setIfInBounds_toArray, List.set_cons_zero, List.set_cons_succ]
        refine take_at 5 (v := ?_) (some 39) rfl rfl (by kernel_rfl) (by kernel_rfl) (by kernel_rfl) (fun _ _ _ h => h) (Or.inl ⟨by rfl, ?_⟩) hHeld ?_
        rotate_left
        · (intro w hSw; (try dsimp only at hSw); go_simp; (try with_reducible rfl))
        simp only [Act.put, List.setIfInBounds_toArray, List.set_cons_zero, List.set_cons_succ]
        refine take_at 8 (v := ?_) (some 42) rfl rfl (by kernel_rfl) (by kernel_rfl) (by kernel_rfl) (fun _ _ _ h => h) (Or.inl ⟨by rfl, ?_⟩) hHeld ?_
        rotate_left
        · (intro w hSw; (try dsimp only at hSw); go_simp; (try with_reducible rfl))
        simp only [Act.put, List.setIfInBounds_toArray, List.set_cons_zero, List.set_cons_succ]
        refine wpAnyH_ready (rs := [0]) (by kernel_rfl) (by simp) ?_
        refine AllReadyH.cons rfl (fun K hK => ?_) AllReadyH.nil
        go_simp
        have hown := own_bare v0 W1.heap.size 9 hHeld.2.2.size
        have hB1 := hHeld.2.2.alloc hHeld.2.2.size (.cells #[] 9)
        have hcap : 0 ≤ 0 := Nat.le_refl _
        refine hK.out _ _ ?_ (fun hHeld => ?_)
        · exact ⟨(hB1.cell hsw).trans (HBK.out.cell 1), (hB1.cell hsw).trans (HBK.out.cell 2), hB1⟩
        clear hK K hB1
        try simp only [Act.put, List.setIfInBounds_toArray, List.set_cons_zero, List.set_cons_succ]
        refine wpAnyH_ready (rs := [3]) (by kernel_rfl) (by simp) ?_
        refine AllReadyH.cons rfl (fun K hK => ?_) AllReadyH.nil
        refine step_append_strs _ rfl (some 37) rfl _ _ rfl W1.heap.size _ _ _ _ rfl hown hcap _ rfl i ((S3.out.below hHeld.2.2).feeds) (by have := G.out; omega) hHeld.2.2.size ?_
        intro g1 cap1 v2 hown2 hcap2 hgrow2
        have hB2 := hHeld.2.2.grown hgrow2 hHeld.2.2.size (fun k hk => (hown.lt k hk).1)
        refine hK.out _ _ ?_ (fun hHeld => ?_)
        · exact ⟨(hB2.cell hsw).trans (HBK.out.cell 1), (hB2.cell hsw).trans (HBK.out.cell 2), hB2⟩
        clear hK K hown hcap hgrow2
        replace hown := hown2
        replace hcap := hcap2
        clear hown2 hcap2 hB2
        try simp only [Act.put, List.setIfInBounds_toArray, List.set_cons_zero, List.set_cons_succ]
        refine wpAnyH_ready (rs := [6]) (by kernel_rfl) (by simp) ?_
        refine AllReadyH.cons rfl (fun K hK => ?_) AllReadyH.nil
        refine step_append_strs _ rfl (some 40) rfl _ _ rfl W1.heap.size _ _ _ _ rfl hown hcap _ rfl o ((S4.out.below hHeld.2.2).feeds) (by have := G.out; omega) hHeld.2.2.size ?_
        intro g1 cap1 v2 hown2 hcap2 hgrow2
        have hB2 := hHeld.2.2.grown hgrow2 hHeld.2.2.size (fun k hk => (hown.lt k hk).1)
        refine hK.out _ _ ?_ (fun hHeld => ?_)
        · exact ⟨(hB2.cell hsw).trans (HBK.out.cell 1), (hB2.cell hsw).trans (HBK.out.cell 2), hB2⟩
        clear hK K hown hcap hgrow2
        replace hown := hown2
        replace hcap := hcap2
        clear hown2 hcap2 hB2
        try simp only [Act.put, List.setIfInBounds_toArray, List.set_cons_zero, List.set_cons_succ]
        refine take_at 7 (v := ?_) (some 41) rfl rfl (by kernel_rfl) (by kernel_rfl) (by kernel_rfl) (fun _ _ _ h => h) (Or.inl ⟨by rfl, ?_⟩) hHeld ?_
        rotate_left
        · (intro w hSw; (try dsimp only at hSw); go_simp; (try with_reducible rfl))
        simp only [Act.put, List.setIfInBounds_toArray, List.set_cons_zero, List.set_cons_succ]
        refine wpAnyH_done (by kernel_rfl) ?_ _
        go_split_ands
        go_wp2_with fail
        go_meet
        have hBv : Below W1.heap.size W1 v2 := by assumption
        refine ⟨g1, cap1, i ++ o, by simp, by simp, rfl, by have := G.out; simp; omega, fun j' hj' => ?_, HB3.out.trans (hBv.mono HB3.out.size)⟩
        rw [own_cell hown j' (by simpa using hj')]
        have e : [] ++ strCells i ++ strCells o = strCells (i ++ o) := by simp [strCells]
        rw [e]
        exact strCells_at _ _ hj'
      case rest =>
        obtain ⟨g, cap, zs, rfl, rfl, rfl, hz, hcs, hBx⟩ := hcut
        have HC := Lib.hid hcs
        have HBx := Lib.hid hBx
        clear hcs hBx
        go_wp2_with fail
        go_loopw [42] (fun z wr2 => ∃ m : Nat, m ≤ zs.length ∧ z = .int .i64 m ∧ wr2 = wc)
          (fun z _ => zs.length - (intOf z).toNat)
        case atStart => exact ⟨0, Nat.zero_le _, rfl, rfl⟩
        case round =>
          obtain ⟨m, hm, rfl, rfl⟩ := hrel
          by_cases hmz : m < zs.length
          · have c0 := HC.out m hmz
            generalize strAt zs m = x at *
            by_cases h60 : 60 < x.length
            · have d6 : decide ((60 : Int) < x.length) = true := by simp; omega
              clear h60
              go_wp2_with fail
              go_ret
              first | exact ⟨.inl rfl, HBx.out⟩ | exact ⟨.inr rfl, HBx.out⟩ | exact ⟨_, rfl, HBx.out⟩
            · have d6 : decide ((60 : Int) < x.length) = false := by simp; omega
              clear h60
              go_wp2_with fail
              go_roundw
              case rel => exact ⟨m + 1, by omega, by go_num, by first | trivial | rfl⟩
              case measure => simp [intOf]; omega
          · obtain rfl : m = zs.length := by omega
            go_wp2_with fail
            go_roundw
            case rel => exact ⟨j + 1, by omega, by go_num, HBx.out⟩
            case measure => simp [intOf]; omega
    · obtain rfl : j = R.length := by omega
      go_wp2_with fail
      go_ret
      first | exact ⟨.inl rfl, HB.out⟩ | exact ⟨.inr rfl, HB.out⟩ | exact ⟨_, rfl, HB.out⟩

end Go.Proofs.YtannfkibahinhaaDoor
