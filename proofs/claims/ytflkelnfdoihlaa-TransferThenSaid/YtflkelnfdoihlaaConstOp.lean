/-
  constant.come and constant.Op: contracts.
-/
import Derived.Test.YtflkelnfdoihlaaConst2
import Derived.Test.YtflkelnfdoihlaaGaussOp
namespace Go.Proofs.Ytflkelnfdoihlaa
open Go.RowKit

/-- What come's own memory holds: its array of two numbers, and what is told. -/
def CS (w W : World) (x0 x1 y0 y1 : Int) : Prop :=
  W.cell? ⟨w.heap.size, 0, none⟩ = some (.int .i64 x0) ∧ W.cell? ⟨w.heap.size, 1, none⟩ = some (.int .i64 x1) ∧ W.cell? ⟨w.heap.size, 2, none⟩ = some (.int .i64 y0) ∧ W.cell? ⟨w.heap.size, 3, none⟩ = some (.int .i64 y1) ∧
  W.cell? ⟨w.heap.size + 1, 0, none⟩ = some (.int .i64 0) ∧ W.cell? ⟨w.heap.size + 1, 1, none⟩ = some (.int .i64 0) ∧
  (W.frozen? ⟨w.heap.size, 0, none⟩ = false ∧ W.frozen? ⟨w.heap.size, 1, none⟩ = false ∧ W.frozen? ⟨w.heap.size, 2, none⟩ = false ∧ W.frozen? ⟨w.heap.size, 3, none⟩ = false ∧ W.frozen? ⟨w.heap.size + 1, 0, none⟩ = false ∧ W.frozen? ⟨w.heap.size + 1, 1, none⟩ = false) ∧
  Below w.heap.size w W

theorem CS.start (w : World) (s t : TypeId) : CS w ((w.alloc (.cells #[.int .i64 0, .int .i64 0, .int .i64 0, .int .i64 0] s)).alloc (.cells #[.int .i64 0, .int .i64 0] t)) 0 0 0 0 := by
  refine ⟨by go_simp, by go_simp, by go_simp, by go_simp, by go_simp, by go_simp, ⟨by go_simp, by go_simp, by go_simp, by go_simp, by go_simp, by go_simp⟩, ?_⟩
  exact ((Below.refl _ _).alloc (Nat.le_refl _) _).alloc (by simp) _

theorem CS.keep {w W W1 : World} {x0 x1 y0 y1 : Int} (h : CS w W x0 x1 y0 y1) (k : Below W.heap.size W W1) : CS w W1 x0 x1 y0 y1 := by
  obtain ⟨h0, h1, h2, h3, h4, h5, ⟨f0, f1, f2, f3, f4, f5⟩, hB⟩ := h
  exact ⟨keepc h0 k, keepc h1 k, keepc h2 k, keepc h3 k, keepc h4 k, keepc h5 k, ⟨keepf h0 f0 k, keepf h1 f1 k, keepf h2 f2 k, keepf h3 f3 k, keepf h4 f4 k, keepf h5 f5 k⟩, bel_then hB k⟩

theorem CS.set0 {w W : World} {x0 x1 y0 y1 : Int} (h : CS w W x0 x1 y0 y1) (u v : Int) : CS w ((W.setCell ⟨w.heap.size, 0, none⟩ (.int .i64 u)).setCell ⟨w.heap.size, 1, none⟩ (.int .i64 v)) u v y0 y1 := by
  obtain ⟨h0, h1, h2, h3, h4, h5, hf, hB⟩ := h
  refine ⟨set_other (set_same h0) (by simp), set_same (set_other h1 (by simp)), set_other (set_other h2 (by simp)) (by simp), set_other (set_other h3 (by simp)) (by simp), set_other (set_other h4 (by simp)) (by simp), set_other (set_other h5 (by simp)) (by simp), ?_, (hB.setCell (Nat.le_refl _) _).setCell (Nat.le_refl _) _⟩
  simpa only [World.frozen?_setCell] using hf

theorem CS.set1 {w W : World} {x0 x1 y0 y1 : Int} (h : CS w W x0 x1 y0 y1) (u v : Int) : CS w ((W.setCell ⟨w.heap.size, 2, none⟩ (.int .i64 u)).setCell ⟨w.heap.size, 3, none⟩ (.int .i64 v)) x0 x1 u v := by
  obtain ⟨h0, h1, h2, h3, h4, h5, hf, hB⟩ := h
  refine ⟨set_other (set_other h0 (by simp)) (by simp), set_other (set_other h1 (by simp)) (by simp), set_other (set_same h2) (by simp), set_same (set_other h3 (by simp)), set_other (set_other h4 (by simp)) (by simp), set_other (set_other h5 (by simp)) (by simp), ?_, (hB.setCell (Nat.le_refl _) _).setCell (Nat.le_refl _) _⟩
  simpa only [World.frozen?_setCell] using hf

/-- What comes of two words. -/
def cres (op : Int) (x y : Int × Int) : Int := if gopE op = 0 then 2 + 4 * word (gop op x.1 x.2 y.1 y.2).1 (gop op x.1 x.2 y.1 y.2).2 else 1
def ccome2 (op a b : Int) : Int := if sou a = 0 ∨ sou b = 0 then 0 else if isn a = true ∧ isn b = true then cres op (numv a) (numv b) else 1
def ccome1 (op a : Int) : Int := if sou a = 0 then 0 else if isn a = true then cres op (numv a) (0, 0) else 1

theorem come_end {w W w5 w6 : World} (h : Below w.heap.size w W) (k : Below W.heap.size W w5) (u v : Value)
    (m : Below ((w5.setCell ⟨w.heap.size + 1, 0, none⟩ u).setCell ⟨w.heap.size + 1, 1, none⟩ v).heap.size ((w5.setCell ⟨w.heap.size + 1, 0, none⟩ u).setCell ⟨w.heap.size + 1, 1, none⟩ v) w6) : Below w.heap.size w w6 :=
  bel_then (((bel_then h k).setCell (by simp) _).setCell (by simp) _) m

theorem sou_isn {x : Int} (h : isn x = true) : sou x = x := by unfold sou; rw [if_pos h]

set_option maxHeartbeats 3200000 in
set_option maxRecDepth 100000 in
theorem come1_any (op a : Int) (g : Nat) (w : World) (ha : 0 ≤ a ∧ a ≤ 18446744073709551615)
    (ca : w.cell? ⟨g, 0, none⟩ = some (.int .u64 a)) :
    Calls Try.prog 98 #[.int .i64 op, .slice (some ⟨g, 0, none⟩) 1 1] w fun e w' => e = .returned (.int .u64 (ccome1 op a)) ∧ Below w.heap.size w w' := by
  go_enter Try.func98, Try.ntmps98
  go_wp2_with fail
  refine wp_scope_via 3 ?_
  go_wp2_with fail
  have c0 := CS.start w 106 78
  generalize (w.alloc (.cells #[.int .i64 0, .int .i64 0, .int .i64 0, .int .i64 0] 106)).alloc (.cells #[.int .i64 0, .int .i64 0] 78) = W0 at *
  have k0 := keepc ca c0.2.2.2.2.2.2.2
  have C0 := Lib.hid c0
  have Ha := Lib.hid ha
  clear c0 ca ha
  refine wp_loop_rounds 2 ?_
  rw [rounds_succ]
  go_wp2_with fail
  refine (sound_any _ _ Ha.out).mono ?_
  rintro e w1 ⟨rfl, hB1⟩
  have C1 := Lib.hid (C0.out.keep hB1)
  clear hB1 k0 C0
  by_cases hs : sou a = 0
  · have Hs := Lib.hid hs
    have hsb : (sou a == 0) = true := by rw [hs]; rfl
    clear hs
    go_wp2_with fail
    go_step3
    refine ⟨_, rfl, ?_⟩
    go_wp2_with fail
    try rw [via_ret]
    go_ret
    exact ⟨ret_int (by rw [ccome1, if_pos Hs.out]), C1.out.2.2.2.2.2.2.2⟩
  · have hsb : (sou a == 0) = false := by simpa using hs
    have Hs := Lib.hid hs
    clear hs
    go_wp2_with fail
    refine (num_any _ _ Ha.out).mono ?_
    rintro e w2 ⟨rfl, hB2⟩
    have c2 := C1.out.keep hB2
    have C2 := Lib.hid c2
    have C3 := Lib.hid (c2.set0 (numv a).1 (numv a).2)
    obtain ⟨h0, h1, h2, h3, h4, h5, ⟨f0, f1, f2, f3, f4, f5⟩, hB⟩ := c2
    clear hB2 C1 hB h2 h3 h4 h5 f2 f3 f4 f5
    cases hi : isn a
    · have Hi := Lib.hid hi
      clear hi
      go_wp2_with fail
      rw [rounds_succ]
      go_wp2_with fail
      go_step3
      refine ⟨_, rfl, ?_⟩
      go_wp2_with fail
      try rw [via_ret]
      go_ret
      exact ⟨ret_int (by rw [ccome1, if_neg Hs.out, Hi.out]; rfl), C3.out.2.2.2.2.2.2.2⟩
    · have Hi := Lib.hid hi
      clear hi
      go_wp2_with fail
      generalize (w2.setCell ⟨w.heap.size, 0, none⟩ (.int .i64 (numv a).1)).setCell ⟨w.heap.size, 1, none⟩ (.int .i64 (numv a).2) = W3 at *
      rw [rounds_succ]
      clear h0 h1 f0 f1
      have cc := C3.out
      obtain ⟨h0, h1, h2, h3, h4, h5, ⟨f0, f1, f2, f3, f4, f5⟩, hB⟩ := cc
      have HB := Lib.hid hB
      clear hB f0 f1 f2 f3
      go_wp2_with fail
      refine (gop_any _ _ _ _ _ _).mono ?_
      rintro e w5 ⟨rfl, hB5⟩
      have g4 := keepc h4 hB5
      have g5 := keepc h5 hB5
      have e4 := keepf h4 f4 hB5
      have e5 := keepf h5 f5 hB5
      have HB5 := Lib.hid hB5
      clear hB5 h0 h1 h2 h3 h4 h5 f4 f5
      by_cases hg : gopE op = 0
      · have Hg := Lib.hid hg
        have hgn : (gopE op != 0) = false := by rw [hg]; rfl
        clear hg
        go_wp2_with fail
        refine (cof_any _ _ _).mono ?_
        rintro e w6 ⟨rfl, hB6⟩
        have HB6 := Lib.hid hB6
        clear hB6
        go_wp2_with fail
        try rw [via_ret]
        go_ret
        exact ⟨ret_int (by rw [ccome1, if_neg Hs.out, if_pos Hi.out]; rw [cres, if_pos Hg.out]), come_end HB.out HB5.out _ _ HB6.out⟩
      · have hgn : (gopE op != 0) = true := by simpa using hg
        have Hg := Lib.hid hg
        clear hg
        go_wp2_with fail
        go_step3
        refine ⟨_, rfl, ?_⟩
        go_wp2_with fail
        try rw [via_ret]
        go_ret
        exact ⟨ret_int (by rw [ccome1, if_neg Hs.out, if_pos Hi.out]; rw [cres, if_neg Hg.out]), (come_end HB.out HB5.out _ _ (Below.refl _ _))⟩

set_option maxHeartbeats 6400000 in
set_option maxRecDepth 100000 in
theorem come2_any (op a b : Int) (g : Nat) (w : World) (ha : 0 ≤ a ∧ a ≤ 18446744073709551615) (hb : 0 ≤ b ∧ b ≤ 18446744073709551615)
    (ca : w.cell? ⟨g, 0, none⟩ = some (.int .u64 a)) (cb : w.cell? ⟨g, 1, none⟩ = some (.int .u64 b)) :
    Calls Try.prog 98 #[.int .i64 op, .slice (some ⟨g, 0, none⟩) 2 2] w fun e w' => e = .returned (.int .u64 (ccome2 op a b)) ∧ Below w.heap.size w w' := by
  go_enter Try.func98, Try.ntmps98
  go_wp2_with fail
  refine wp_scope_via 3 ?_
  go_wp2_with fail
  have c0 := CS.start w 106 78
  generalize (w.alloc (.cells #[.int .i64 0, .int .i64 0, .int .i64 0, .int .i64 0] 106)).alloc (.cells #[.int .i64 0, .int .i64 0] 78) = W0 at *
  have k0 := keepc ca c0.2.2.2.2.2.2.2
  have K1 := Lib.hid cb
  have C0 := Lib.hid c0
  have Ha := Lib.hid ha
  have Hb := Lib.hid hb
  clear c0 ca ha hb cb
  refine wp_loop_rounds 3 ?_
  rw [rounds_succ]
  go_wp2_with fail
  refine (sound_any _ _ Ha.out).mono ?_
  rintro e w1 ⟨rfl, hB1⟩
  have C1 := Lib.hid (C0.out.keep hB1)
  clear hB1 k0 C0
  by_cases hs : sou a = 0
  · have Hs := Lib.hid hs
    have hsb : (sou a == 0) = true := by rw [hs]; rfl
    clear hs
    go_wp2_with fail
    go_step3
    refine ⟨_, rfl, ?_⟩
    go_wp2_with fail
    try rw [via_ret]
    go_ret
    exact ⟨ret_int (by rw [ccome2, if_pos (.inl Hs.out)]), C1.out.2.2.2.2.2.2.2⟩
  · have hsb : (sou a == 0) = false := by simpa using hs
    have Hs := Lib.hid hs
    clear hs
    go_wp2_with fail
    refine (num_any _ _ Ha.out).mono ?_
    rintro e w2 ⟨rfl, hB2⟩
    have c2 := C1.out.keep hB2
    have C3 := Lib.hid (c2.set0 (numv a).1 (numv a).2)
    obtain ⟨h0, h1, h2, h3, h4, h5, ⟨f0, f1, f2, f3, f4, f5⟩, hB⟩ := c2
    clear hB2 C1 hB h2 h3 h4 h5 f2 f3 f4 f5
    go_wp2_with fail
    generalize (w2.setCell ⟨w.heap.size, 0, none⟩ (.int .i64 (numv a).1)).setCell ⟨w.heap.size, 1, none⟩ (.int .i64 (numv a).2) = W3 at *
    rw [rounds_succ]
    have k1 := keepc K1.out C3.out.2.2.2.2.2.2.2
    clear h0 h1 f0 f1 hsb
    go_wp2_with fail
    refine (sound_any _ _ Hb.out).mono ?_
    rintro e w4 ⟨rfl, hB4⟩
    have C4 := Lib.hid (C3.out.keep hB4)
    clear hB4 k1 C3
    by_cases ht : sou b = 0
    · have Ht := Lib.hid ht
      have htb : (sou b == 0) = true := by rw [ht]; rfl
      clear ht
      go_wp2_with fail
      go_step3
      refine ⟨_, rfl, ?_⟩
      go_wp2_with fail
      try rw [via_ret]
      go_ret
      exact ⟨ret_int (by rw [ccome2, if_pos (.inr Ht.out)]), C4.out.2.2.2.2.2.2.2⟩
    · have htb : (sou b == 0) = false := by simpa using ht
      have Ht := Lib.hid ht
      clear ht
      go_wp2_with fail
      refine (num_any _ _ Hb.out).mono ?_
      rintro e w5 ⟨rfl, hB5⟩
      have c5 := C4.out.keep hB5
      have C6 := Lib.hid (c5.set1 (numv b).1 (numv b).2)
      obtain ⟨h0, h1, h2, h3, h4, h5, ⟨f0, f1, f2, f3, f4, f5⟩, hB⟩ := c5
      clear hB5 C4 hB h0 h1 h4 h5 f0 f1 f4 f5 htb
      cases hi : isn a
      · have Hi := Lib.hid hi
        clear hi
        cases hj : isn b
        · have Hj := Lib.hid hj
          clear hj
          go_wp2_with fail
          generalize (w5.setCell ⟨w.heap.size, 2, none⟩ (.int .i64 (numv b).1)).setCell ⟨w.heap.size, 3, none⟩ (.int .i64 (numv b).2) = W6 at *
          rw [rounds_succ]
          clear h2 h3 f2 f3
          go_wp2_with fail
          go_step3
          refine ⟨_, rfl, ?_⟩
          go_wp2_with fail
          try rw [via_ret]
          go_ret
          exact ⟨ret_int (by rw [ccome2, if_neg (fun h => h.elim Hs.out Ht.out), if_neg (by rw [Hi.out]; simp)]), C6.out.2.2.2.2.2.2.2⟩
        · have Hj := Lib.hid hj
          clear hj
          go_wp2_with fail
          generalize (w5.setCell ⟨w.heap.size, 2, none⟩ (.int .i64 (numv b).1)).setCell ⟨w.heap.size, 3, none⟩ (.int .i64 (numv b).2) = W6 at *
          rw [rounds_succ]
          clear h2 h3 f2 f3
          go_wp2_with fail
          go_step3
          refine ⟨_, rfl, ?_⟩
          go_wp2_with fail
          try rw [via_ret]
          go_ret
          exact ⟨ret_int (by rw [ccome2, if_neg (fun h => h.elim Hs.out Ht.out), if_neg (by rw [Hi.out]; simp)]), C6.out.2.2.2.2.2.2.2⟩
      · have Hi := Lib.hid hi
        clear hi
        cases hj : isn b
        · have Hj := Lib.hid hj
          clear hj
          go_wp2_with fail
          generalize (w5.setCell ⟨w.heap.size, 2, none⟩ (.int .i64 (numv b).1)).setCell ⟨w.heap.size, 3, none⟩ (.int .i64 (numv b).2) = W6 at *
          rw [rounds_succ]
          clear h2 h3 f2 f3
          go_wp2_with fail
          go_step3
          refine ⟨_, rfl, ?_⟩
          go_wp2_with fail
          try rw [via_ret]
          go_ret
          exact ⟨ret_int (by rw [ccome2, if_neg (fun h => h.elim Hs.out Ht.out), if_neg (by rw [Hj.out]; simp)]), C6.out.2.2.2.2.2.2.2⟩
        · have Hj := Lib.hid hj
          clear hj
          go_wp2_with fail
          generalize (w5.setCell ⟨w.heap.size, 2, none⟩ (.int .i64 (numv b).1)).setCell ⟨w.heap.size, 3, none⟩ (.int .i64 (numv b).2) = W6 at *
          rw [rounds_succ]
          clear h2 h3 f2 f3
          have cc := C6.out
          obtain ⟨h0, h1, h2, h3, h4, h5, ⟨f0, f1, f2, f3, f4, f5⟩, hB⟩ := cc
          have HB := Lib.hid hB
          clear hB f0 f1 f2 f3
          go_wp2_with fail
          refine (gop_any _ _ _ _ _ _).mono ?_
          rintro e w7 ⟨rfl, hB7⟩
          have g4 := keepc h4 hB7
          have g5 := keepc h5 hB7
          have e4 := keepf h4 f4 hB7
          have e5 := keepf h5 f5 hB7
          have HB7 := Lib.hid hB7
          clear hB7 h0 h1 h2 h3 h4 h5 f4 f5
          by_cases hg : gopE op = 0
          · have Hg := Lib.hid hg
            have hgn : (gopE op != 0) = false := by rw [hg]; rfl
            clear hg
            go_wp2_with fail
            refine (cof_any _ _ _).mono ?_
            rintro e w8 ⟨rfl, hB8⟩
            have HB8 := Lib.hid hB8
            clear hB8
            go_wp2_with fail
            try rw [via_ret]
            go_ret
            exact ⟨ret_int (by rw [ccome2, if_neg (fun h => h.elim Hs.out Ht.out), if_pos ⟨Hi.out, Hj.out⟩]; rw [cres, if_pos Hg.out]), come_end HB.out HB7.out _ _ HB8.out⟩
          · have hgn : (gopE op != 0) = true := by simpa using hg
            have Hg := Lib.hid hg
            clear hg
            go_wp2_with fail
            go_step3
            refine ⟨_, rfl, ?_⟩
            go_wp2_with fail
            try rw [via_ret]
            go_ret
            exact ⟨ret_int (by rw [ccome2, if_neg (fun h => h.elim Hs.out Ht.out), if_pos ⟨Hi.out, Hj.out⟩]; rw [cres, if_neg Hg.out]), (come_end HB.out HB7.out _ _ (Below.refl _ _))⟩

/-- What an operation makes of what is known of two numbers. -/
def cop (op a b : Int) : Int := if op = 0 ∨ op = 4 then ccome1 op a else ccome2 op a b
theorem cop_any (op a b : Int) (w : World) (ha : 0 ≤ a ∧ a ≤ 18446744073709551615) (hb : 0 ≤ b ∧ b ≤ 18446744073709551615) :
    Calls Try.prog 89 #[.int .i64 op, .int .u64 a, .int .u64 b] w fun e w' => e = .returned (.int .u64 (cop op a b)) ∧ Below w.heap.size w w' := by
  by_cases h : op = 0 ∨ op = 4
  · have hc : cop op a b = ccome1 op a := if_pos h
    rw [hc]
    clear hc
    rcases h with rfl | rfl
    all_goals
      go_enter Try.func89, Try.ntmps89
      go_wp2_with fail
      refine (come1_any _ _ _ _ ha (by go_simp)).mono ?_
      rintro e w1 ⟨rfl, hB⟩
      go_wp2_with fail
      go_ret
      exact ⟨rfl, ((Below.refl w.heap.size w).alloc (Nat.le_refl _) _).trans (hB.mono (by simp))⟩
  · have hc : cop op a b = ccome2 op a b := if_neg h
    rw [hc]
    clear hc
    have e0 : (op == 0) = false := by simp; omega
    have e4 : (op == 4) = false := by simp; omega
    clear h
    go_enter Try.func89, Try.ntmps89
    go_wp2_with fail
    refine (come2_any _ _ _ _ _ ha hb (by go_simp) (by go_simp)).mono ?_
    rintro e w1 ⟨rfl, hB⟩
    go_wp2_with fail
    go_ret
    exact ⟨rfl, ((Below.refl w.heap.size w).alloc (Nat.le_refl _) _).trans (hB.mono (by simp))⟩

end Go.Proofs.Ytflkelnfdoihlaa
