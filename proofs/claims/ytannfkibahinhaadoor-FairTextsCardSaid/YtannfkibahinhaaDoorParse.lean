/-
  fair.Parse, from any world.
-/
import Derived.Test.YtannfkibahinhaaDoorNumber
import Derived.Test.YtannfkibahinhaaDoorParseM
namespace Go.Proofs.YtannfkibahinhaaDoor
open Go.RowKit

theorem own_set {w : World} {base e : Nat} {v : Value} {n size : Nat} {xs : List Value} (h : w.ownsRow base e size v n xs) {p : Addr} (hp : p.block < base) (u : Value) : (w.setCell p u).ownsRow base e size v n xs := by
  obtain ⟨hl, h | ⟨g, cap, cur, rfl, hg, hb, h2⟩⟩ := h
  · exact ⟨hl, .inl h⟩
  · exact ⟨hl, .inr ⟨g, cap, cur, rfl, hg, (Below.heap_setCell w p u g (by omega)).trans hb, h2⟩⟩

/-- What holds at the two labels: at the first one some picks have been read; at the second one the text is no script's. -/
def PJ (s : List UInt8) (w : World) (l : Nat) (a : Act) (w' : World) : Prop :=
  ∃ (q : Nat) (x y : Int) (lv isv u1 u8 u9 u10 u11 u12 u13 u14 u15 u16 u17 u18 u19 u20 u21 u22 u23 u24 u25 u26 u27 u28 u29 u30 u31 u32 u33 u34 u35 u36 u37 u38 u39 u40 u41 u42 u43 u44 u45 u46 u47 u48 u49 u50 u51 u52 u53 u54 u55 u56 u57 : Value), a = { tmps := #[.string ⟨s.toArray⟩, u1, .slice none 0 0, .bool false, lv, .pointer (some ⟨w.heap.size, 0, none⟩), isv, .int .i64 q, u8, u9, u10, u11, u12, u13, u14, u15, u16, u17, u18, u19, u20, u21, u22, u23, u24, u25, u26, u27, u28, u29, u30, u31, u32, u33, u34, u35, u36, u37, u38, u39, u40, u41, u42, u43, u44, u45, u46, u47, u48, u49, u50, u51, u52, u53, u54, u55, u56, u57], defers := [] } ∧ Bk w' w.heap.size 38 [.int .i64 x, .int .i64 y] ∧ Below w.heap.size w w' ∧
    ((l = 0 ∧ ∃ L, s = preT L ++ s.drop q ∧ q ≤ s.length ∧ L.length ≤ q ∧ I64s L ∧ w'.ownsRow (w.heap.size + 1) 38 2 lv L.length (pcells L) ∧ (∀ M, I64s M → textS M = s → L <+: M)) ∨
     (l = 1 ∧ ∀ M, I64s M → textS M ≠ s))

/-- What fair.Parse makes of a text. -/
def Parsed (s : List UInt8) (w' : World) (e : Ending) : Prop :=
  (∃ v L, e = .returned (.tuple #[v, .bool true]) ∧ Picks w' v L ∧ I64s L ∧ L.length ≤ s.length ∧ textS L = s ∧ ∀ M, I64s M → textS M = s → M = L) ∨
  (e = .returned (.tuple #[.slice none 0 0, .bool false]) ∧ s ≠ [] ∧ ∀ M, I64s M → textS M ≠ s)

set_option maxHeartbeats 12800000 in
set_option maxRecDepth 100000 in
theorem parse_any (s : List UInt8) (w : World) (hs : s.length ≤ 100000) (ht : Tab w) (he : Errs w) :
    Calls Tryd.prog 7 #[.string ⟨s.toArray⟩] w fun e w' => Parsed s w' e ∧ Below w.heap.size w w' := by
  have Ht := Lib.hid ht
  have He := Lib.hid he
  obtain ⟨i0, hi, hz0, hz1, hz2⟩ := info_parts pick_info
  clear ht he
  rcases s with _ | ⟨c0, s0⟩
  · go_enter Tryd.func7, Tryd.ntmps7
    go_wp2_with fail
    refine wp_scope_straight ?_
    go_wp2_with fail
    first | rw [Exit.noGoto_ret] | skip
    go_ret2
    exact ⟨.inl ⟨_, [], rfl, ⟨none, 0, rfl, by simp, by simp⟩, i64s_nil, by simp, rfl, fun M _ hM => by
      by_cases h : M = []
      · exact h
      · exact absurd hM (textS_ne M h)⟩, (Below.refl w.heap.size w).alloc (Nat.le_refl _) _⟩
  obtain ⟨s, hsd⟩ : ∃ s, s = c0 :: s0 := ⟨_, rfl⟩
  have hne : s ≠ [] := by rw [hsd]; simp
  have hsl : 0 < s.length := by rw [hsd]; simp
  have hemp : s.isEmpty = false := by rw [hsd]; rfl
  rw [← hsd] at hs ⊢
  clear hsd
  have Hne := Lib.hid hne
  clear hne
  go_enter Tryd.func7, Tryd.ntmps7
  go_wp2_with fail
  refine wp_scope_inv (PJ s w) (fun l a _ => if l = 0 then s.length + 1 - (intOf (a.tmps.getD 7 undef)).toNat else 0) ?first ?pass
  case first =>
    go_wp2_with fail
    go_step3
    have HP := Lib.hid (Bk.new w 38 [.int .i64 0, .int .i64 0])
    have HB := Lib.hid ((Below.refl w.heap.size w).alloc (Nat.le_refl _) (.cells #[.int .i64 0, .int .i64 0] 38))
    have HO := Lib.hid (World.ownsRow_nil (w.alloc (.cells #[.int .i64 0, .int .i64 0] 38)) (w.heap.size + 1) 38 2)
    have HPRE := Lib.hid (show s = preT [] ++ s.drop 0 from rfl)
    have HQ := Lib.hid (show 0 ≤ s.length from Nat.zero_le _)
    obtain ⟨L, hL⟩ : ∃ L : List (Int × Int), L = [] := ⟨_, rfl⟩
    have HLQ := Lib.hid (show L.length ≤ 0 by rw [hL]; simp)
    have HI := Lib.hid (show I64s L by rw [hL]; exact i64s_nil)
    have HM := Lib.hid (show ∀ M, I64s M → textS M = s → L <+: M from fun M _ _ => by rw [hL]; exact List.nil_prefix)
    replace HPRE := Lib.hid (show s = preT L ++ s.drop 0 by rw [hL]; rfl)
    replace HO := Lib.hid (show (w.alloc (.cells #[.int .i64 0, .int .i64 0] 38)).ownsRow (w.heap.size + 1) 38 2 (.slice none 0 0) L.length (pcells L) by rw [hL]; exact HO.out)
    generalize w.alloc (.cells #[.int .i64 0, .int .i64 0] 38) = W0 at *
    clear hL
    go_wp2_with fail
    refine (number_any s 0 _ HQ.out (by omega) (Ht.out.below HB.out) (He.out.below HB.out)).mono ?_
    rintro e w1 ⟨n1, b1, rfl, ht1, hf1, hB1⟩
    have HB1 := Lib.hid (HB.out.trans (hB1.mono HB.out.size))
    have HP1 := Lib.hid (HP.out.below hB1)
    have HO1 := Lib.hid (own_below HO.out hB1)
    have HT1 := Lib.hid ht1
    have HF1 := Lib.hid hf1
    obtain ⟨q1, hq1⟩ : ∃ q1, q1 = 0 + nlen (s.drop 0) := ⟨_, rfl⟩
    have HD1 := Lib.hid (show (s.drop 0).drop (nlen (s.drop 0)) = s.drop q1 by rw [List.drop_drop, hq1])
    have hq1l : q1 ≤ s.length := by have h9 := nlen_le (s.drop 0); rw [List.length_drop] at h9; have := HQ.out; omega
    have hq1g : 0 ≤ q1 := by omega
    rw [← hq1]
    clear hB1 ht1 hf1 hq1
    have f0 := HP1.out.free 0
    have c0 := HP1.out.cell 0
    simp only [List.getElem?_cons_zero] at c0
    have HP2 := Lib.hid (HP1.out.set 0 (.int .i64 n1))
    have HB2 := Lib.hid (HB1.out.setCell (p := ⟨w.heap.size, 0, none⟩) (Nat.le_refl _) (.int .i64 n1))
    have HO2 := Lib.hid (own_set HO1.out (p := ⟨w.heap.size, 0, none⟩) (by simp) (.int .i64 n1))
    cases b1 with
    | false =>
      go_wp2_with fail
      go_step3
      exact ⟨_, _, _, _, _, _, _, _, _, _, _, _, _, _, _, _, _, _, _, _, _, _, _, _, _, _, _, _, _, _, _, _, _, _, _, _, _, _, _, _, _, _, _, _, _, _, _, _, _, _, _, _, _, _, _, _, rfl, HP2.out, HB2.out, .inr ⟨rfl, none1 HPRE.out Hne.out HM.out (HF1.out (by simp))⟩⟩
    | true =>
      have HN1 := Lib.hid (HT1.out rfl)
      clear HT1 HF1
      by_cases hlt1 : q1 < s.length
      · obtain ⟨c, hcc⟩ : ∃ c, c = s[q1]'hlt1 := ⟨_, rfl⟩
        have hqs : s.drop q1 = c :: s.drop (q1 + 1) := by rw [hcc]; exact List.drop_eq_getElem_cons hlt1
        have hb : ∀ h, ((⟨s.toArray⟩ : ByteArray)[q1]'h) = c := fun h => by rw [hcc]; rfl
        have HQS := Lib.hid hqs
        have hne1 : ((q1 : Int) == (s.length : Int)) = false := by simp; omega
        clear hcc hqs
        by_cases h58 : c = 58
        · have h59 : ((c.toNat : Int) == 58) = true := by subst h58; rfl
          have HD2 := Lib.hid (show (s.drop 0).drop (nlen (s.drop 0)) = 58 :: s.drop (q1 + 1) by rw [HD1.out, HQS.out, h58])
          clear h58
          go_wp2_with fail
          obtain ⟨q2, hq2⟩ : ∃ q2, q2 = q1 + 1 := ⟨_, rfl⟩
          rw [show ((q1 : Int) + 1) = (q2 : Int) by omega]
          rw [← hq2] at HD2
          have hq2l : q2 ≤ s.length := by omega
          have hq2g : q1 + 1 ≤ q2 := by omega
          clear hq2 hlt1 hne1 hb h59 HQS f0 c0
          refine (number_any s q2 _ hq2l (by omega) (Ht.out.below HB2.out) (He.out.below HB2.out)).mono ?_
          rintro e w3 ⟨n2, b2, rfl, ht2, hf2, hB3⟩
          have HB3 := Lib.hid (HB2.out.trans (hB3.mono HB2.out.size))
          have HP3 := Lib.hid (HP2.out.below hB3)
          have HO3 := Lib.hid (own_below HO2.out hB3)
          have HT2 := Lib.hid ht2
          have HF2 := Lib.hid hf2
          obtain ⟨q3, hq3⟩ : ∃ q3, q3 = q2 + nlen (s.drop q2) := ⟨_, rfl⟩
          have HD3 := Lib.hid (show (s.drop q2).drop (nlen (s.drop q2)) = s.drop q3 by rw [List.drop_drop, hq3])
          have hq3l : q3 ≤ s.length := by have h9 := nlen_le (s.drop q2); simp at h9; omega
          have hq3g : q2 ≤ q3 := by omega
          rw [← hq3]
          clear hB3 ht2 hf2 hq3 HB1 HP1 HO1
          have f1 := HP3.out.free 1
          have c1 := HP3.out.cell 1
          simp only [List.set_cons_zero, List.getElem?_cons_zero, List.getElem?_cons_succ] at c1
          have HP4 := Lib.hid (HP3.out.set 1 (.int .i64 n2))
          have HB4 := Lib.hid (HB3.out.setCell (p := ⟨w.heap.size, 1, none⟩) (Nat.le_refl _) (.int .i64 n2))
          have HO4 := Lib.hid (own_set HO3.out (p := ⟨w.heap.size, 1, none⟩) (by simp) (.int .i64 n2))
          cases b2 with
          | false =>
            go_wp2_with fail
            go_step3
            exact ⟨_, _, _, _, _, _, _, _, _, _, _, _, _, _, _, _, _, _, _, _, _, _, _, _, _, _, _, _, _, _, _, _, _, _, _, _, _, _, _, _, _, _, _, _, _, _, _, _, _, _, _, _, _, _, _, _, rfl, HP4.out, HB4.out, .inr ⟨rfl, none3 HPRE.out Hne.out HM.out HD2.out (HF2.out (by simp))⟩⟩
          | true =>
            have HN2 := Lib.hid (HT2.out rfl)
            obtain ⟨hx1, hx2⟩ := next HPRE.out Hne.out HM.out HN1.out.1 HN1.out.2 HD2.out HN2.out.1 HN2.out.2
            rw [HD3.out] at hx1
            simp only [HD3.out] at hx2
            have HX1 := Lib.hid hx1
            have HX2 := Lib.hid hx2
            have HI2 := Lib.hid (i64s_snoc HI.out HN1.out.2 HN2.out.2)
            clear hx1 hx2 HT2 HF2 HN1 HN2 HM HPRE
            have d0 := HP4.out.cell 0
            have d1 := HP4.out.cell 1
            simp only [List.set_cons_zero, List.set_cons_succ, List.getElem?_cons_zero, List.getElem?_cons_succ] at d0 d1
            go_wp2_with (at_builtin; refine wpList_append_own _ rfl _ _ 22 rfl (w.heap.size + 1) 38 i0 (.agg #[.int .i64 0, .int .i64 0]) 2 16 Tryd.underlying22 hi hz0 hz1 hz2 rfl (by decide) _ _ _ rfl (HO4.out.alloc _) ⟨w3.heap.size, 0, none⟩ 1 1 [.int .i64 n1, .int .i64 n2] rfl rfl ?c1 ?c2 ?c3 ?c4 ?c5 ?_)
            case c1 =>
              intro j u hj
              have hbk := Bk.new' (w3.setCell ⟨w.heap.size, 1, none⟩ (.int .i64 n2)) 38 [.int .i64 n1, .int .i64 n2] (g := w3.heap.size) (by simp)
              match j, hj with
              | 0, hj => simp at hj; subst hj; exact hbk.cell 0
              | 1, hj => simp at hj; subst hj; exact hbk.cell 1
            case c2 => simp [Value.oneCell']
            case c3 => have := HLQ.out; unfold maxLen; omega
            case c4 => have := HLQ.out; omega
            case c5 => have := HP4.out.lt; simp at this ⊢; omega
            intro v' w5 hown' hgrow _
            have HO5 := Lib.hid (show w5.ownsRow (w.heap.size + 1) 38 2 v' (L ++ [(n1, n2)]).length (pcells (L ++ [(n1, n2)])) by rw [pcells_append, List.length_append]; exact hown')
            have HB5 := Lib.hid ((HB4.out.alloc HB4.out.size _).grown hgrow (by have := HB4.out.size; simp at this ⊢; omega) (fun k hk => by have := (HO4.out.lt k hk).1; omega))
            have HP5 := Lib.hid ((HP4.out.alloc _).keep hgrow (fun h => by have := (HO4.out.lt w.heap.size h.symm).1; omega))
            clear hown' hgrow d0 d1 f1 c1 HO3 HO4 HB4 HP4 HB3 HP3
            by_cases hlt3 : q3 < s.length
            · obtain ⟨c, hcc⟩ : ∃ c, c = s[q3]'hlt3 := ⟨_, rfl⟩
              have hqs : s.drop q3 = c :: s.drop (q3 + 1) := by rw [hcc]; exact List.drop_eq_getElem_cons hlt3
              have hb : ∀ h, ((⟨s.toArray⟩ : ByteArray)[q3]'h) = c := fun h => by rw [hcc]; rfl
              have HQS := Lib.hid hqs
              have hne1 : ((q3 : Int) == (s.length : Int)) = false := by simp; omega
              clear hcc hqs
              by_cases h32 : c = 32
              · have h33 : ((c.toNat : Int) == 32) = true := by subst h32; rfl
                have HQ32 := Lib.hid (show s.drop q3 = 32 :: s.drop (q3 + 1) by rw [HQS.out, h32])
                clear h32 HQS
                go_wp2_with fail
                go_step3
                exact ⟨q3 + 1, n1, n2, v', _, _, _, _, _, _, _, _, _, _, _, _, _, _, _, _, _, _, _, _, _, _, _, _, _, _, _, _, _, _, _, _, _, _, _, _, _, _, _, _, _, _, _, _, _, _, _, _, _, _, _, _, rfl, HP5.out, HB5.out, .inl ⟨rfl, L ++ [(n1, n2)], by
                  rw [preT, if_neg (by simp)]
                  have := HX1.out
                  rw [HQ32.out] at this
                  simpa using this, by omega, by have := HLQ.out; simp; omega, HI2.out, HO5.out, fun M hM hMs => by
                  obtain ⟨M', tail, rfl, _, _⟩ := HX2.out M hM hMs
                  exact ⟨M', rfl⟩⟩⟩
              · have h33 : ((c.toNat : Int) == 32) = false := by
                  simp only [beq_eq_false_iff_ne, ne_eq]
                  intro h
                  apply h32
                  apply UInt8.toNat_inj.1
                  have : (32 : UInt8).toNat = 32 := rfl
                  omega
                have HNO := Lib.hid (show ∀ M, I64s M → textS M ≠ s from fun M hM hMs => by
                  obtain ⟨M', tail, _, h1, h2⟩ := HX2.out M hM hMs
                  rw [HQS.out] at h1
                  rcases h2 with ⟨_, rfl⟩ | ⟨_, t, rfl⟩
                  · cases h1
                  · injection h1 with h1 _; exact h32 h1)
                clear h32 HQS
                go_wp2_with fail
                go_step3
                exact ⟨_, _, _, _, _, _, _, _, _, _, _, _, _, _, _, _, _, _, _, _, _, _, _, _, _, _, _, _, _, _, _, _, _, _, _, _, _, _, _, _, _, _, _, _, _, _, _, _, _, _, _, _, _, _, _, _, rfl, HP5.out, HB5.out, .inr ⟨rfl, HNO.out⟩⟩
            · obtain rfl : q3 = s.length := by omega
              have HD := Lib.hid (show s.drop s.length = [] from List.drop_length)
              go_wp2_with fail
              first | rw [jumps_ret] | skip
              go_ret2
              exact ⟨.inl ⟨_, L ++ [(n1, n2)], rfl, Picks.of_owns HO5.out, HI2.out, by have := HLQ.out; simp; omega, by have := HX1.out; rw [HD.out, List.append_nil] at this; exact this.symm, fun M hM hMs => by
                obtain ⟨M', tail, rfl, h1, h2⟩ := HX2.out M hM hMs
                rw [HD.out] at h1
                subst h1
                rcases h2 with ⟨rfl, _⟩ | ⟨_, t, h⟩
                · simp
                · cases h⟩, HB5.out⟩
        · have h59 : ((c.toNat : Int) == 58) = false := by
            simp only [beq_eq_false_iff_ne, ne_eq]
            intro h
            apply h58
            apply UInt8.toNat_inj.1
            have : (58 : UInt8).toNat = 58 := rfl
            omega
          have HNO := Lib.hid (none2 HPRE.out Hne.out HM.out (by rw [HD1.out, HQS.out]; simp only [List.head?_cons, ne_eq, Option.some.injEq]; exact h58))
          clear h58 HQS
          go_wp2_with fail
          go_step3
          exact ⟨_, _, _, _, _, _, _, _, _, _, _, _, _, _, _, _, _, _, _, _, _, _, _, _, _, _, _, _, _, _, _, _, _, _, _, _, _, _, _, _, _, _, _, _, _, _, _, _, _, _, _, _, _, _, _, _, rfl, HP2.out, HB2.out, .inr ⟨rfl, HNO.out⟩⟩
      · have hne1 : ((q1 : Int) == (s.length : Int)) = true := by simp; omega
        have HNO := Lib.hid (none2 HPRE.out Hne.out HM.out (by rw [HD1.out, List.drop_eq_nil_of_le (by omega)]; simp))
        go_wp2_with fail
        go_step3
        exact ⟨_, _, _, _, _, _, _, _, _, _, _, _, _, _, _, _, _, _, _, _, _, _, _, _, _, _, _, _, _, _, _, _, _, _, _, _, _, _, _, _, _, _, _, _, _, _, _, _, _, _, _, _, _, _, _, _, rfl, HP2.out, HB2.out, .inr ⟨rfl, HNO.out⟩⟩
  case pass =>
    rintro l a w' ⟨q, x, y, lv, isv, u1, u8, u9, u10, u11, u12, u13, u14, u15, u16, u17, u18, u19, u20, u21, u22, u23, u24, u25, u26, u27, u28, u29, u30, u31, u32, u33, u34, u35, u36, u37, u38, u39, u40, u41, u42, u43, u44, u45, u46, u47, u48, u49, u50, u51, u52, u53, u54, u55, u56, u57, rfl, hP, hB, ⟨rfl, L, hpre, hq, hLq, hI, hO, hM⟩ | ⟨rfl, hno⟩⟩
    · refine ⟨_, rfl, ?_⟩
      have HP := Lib.hid hP
      have HB := Lib.hid hB
      have HO := Lib.hid hO
      have HPRE := Lib.hid hpre
      have HQ := Lib.hid hq
      have HLQ := Lib.hid hLq
      have HI := Lib.hid hI
      have HM := Lib.hid hM
      clear hP hB hO hpre hLq hI hM
      go_wp2_with fail
      refine (number_any s q _ HQ.out (by omega) (Ht.out.below HB.out) (He.out.below HB.out)).mono ?_
      rintro e w1 ⟨n1, b1, rfl, ht1, hf1, hB1⟩
      have HB1 := Lib.hid (HB.out.trans (hB1.mono HB.out.size))
      have HP1 := Lib.hid (HP.out.below hB1)
      have HO1 := Lib.hid (own_below HO.out hB1)
      have HT1 := Lib.hid ht1
      have HF1 := Lib.hid hf1
      obtain ⟨q1, hq1⟩ : ∃ q1, q1 = q + nlen (s.drop q) := ⟨_, rfl⟩
      have HD1 := Lib.hid (show (s.drop q).drop (nlen (s.drop q)) = s.drop q1 by rw [List.drop_drop, hq1])
      have hq1l : q1 ≤ s.length := by have h9 := nlen_le (s.drop q); rw [List.length_drop] at h9; have := HQ.out; omega
      have hq1g : q ≤ q1 := by omega
      rw [← hq1]
      clear hB1 ht1 hf1 hq1
      have f0 := HP1.out.free 0
      have c0 := HP1.out.cell 0
      simp only [List.getElem?_cons_zero] at c0
      have HP2 := Lib.hid (HP1.out.set 0 (.int .i64 n1))
      have HB2 := Lib.hid (HB1.out.setCell (p := ⟨w.heap.size, 0, none⟩) (Nat.le_refl _) (.int .i64 n1))
      have HO2 := Lib.hid (own_set HO1.out (p := ⟨w.heap.size, 0, none⟩) (by simp) (.int .i64 n1))
      cases b1 with
      | false =>
        go_wp2_with fail
        go_step3
        exact ⟨⟨_, _, _, _, _, _, _, _, _, _, _, _, _, _, _, _, _, _, _, _, _, _, _, _, _, _, _, _, _, _, _, _, _, _, _, _, _, _, _, _, _, _, _, _, _, _, _, _, _, _, _, _, _, _, _, _, rfl, HP2.out, HB2.out, .inr ⟨rfl, none1 HPRE.out Hne.out HM.out (HF1.out (by simp))⟩⟩, by simp [intOf]; omega⟩
      | true =>
        have HN1 := Lib.hid (HT1.out rfl)
        clear HT1 HF1
        by_cases hlt1 : q1 < s.length
        · obtain ⟨c, hcc⟩ : ∃ c, c = s[q1]'hlt1 := ⟨_, rfl⟩
          have hqs : s.drop q1 = c :: s.drop (q1 + 1) := by rw [hcc]; exact List.drop_eq_getElem_cons hlt1
          have hb : ∀ h, ((⟨s.toArray⟩ : ByteArray)[q1]'h) = c := fun h => by rw [hcc]; rfl
          have HQS := Lib.hid hqs
          have hne1 : ((q1 : Int) == (s.length : Int)) = false := by simp; omega
          clear hcc hqs
          by_cases h58 : c = 58
          · have h59 : ((c.toNat : Int) == 58) = true := by subst h58; rfl
            have HD2 := Lib.hid (show (s.drop q).drop (nlen (s.drop q)) = 58 :: s.drop (q1 + 1) by rw [HD1.out, HQS.out, h58])
            clear h58
            go_wp2_with fail
            obtain ⟨q2, hq2⟩ : ∃ q2, q2 = q1 + 1 := ⟨_, rfl⟩
            rw [show ((q1 : Int) + 1) = (q2 : Int) by omega]
            rw [← hq2] at HD2
            have hq2l : q2 ≤ s.length := by omega
            have hq2g : q1 + 1 ≤ q2 := by omega
            clear hq2 hlt1 hne1 hb h59 HQS f0 c0
            refine (number_any s q2 _ hq2l (by omega) (Ht.out.below HB2.out) (He.out.below HB2.out)).mono ?_
            rintro e w3 ⟨n2, b2, rfl, ht2, hf2, hB3⟩
            have HB3 := Lib.hid (HB2.out.trans (hB3.mono HB2.out.size))
            have HP3 := Lib.hid (HP2.out.below hB3)
            have HO3 := Lib.hid (own_below HO2.out hB3)
            have HT2 := Lib.hid ht2
            have HF2 := Lib.hid hf2
            obtain ⟨q3, hq3⟩ : ∃ q3, q3 = q2 + nlen (s.drop q2) := ⟨_, rfl⟩
            have HD3 := Lib.hid (show (s.drop q2).drop (nlen (s.drop q2)) = s.drop q3 by rw [List.drop_drop, hq3])
            have hq3l : q3 ≤ s.length := by have h9 := nlen_le (s.drop q2); simp at h9; omega
            have hq3g : q2 ≤ q3 := by omega
            rw [← hq3]
            clear hB3 ht2 hf2 hq3 HB1 HP1 HO1
            have f1 := HP3.out.free 1
            have c1 := HP3.out.cell 1
            simp only [List.set_cons_zero, List.getElem?_cons_zero, List.getElem?_cons_succ] at c1
            have HP4 := Lib.hid (HP3.out.set 1 (.int .i64 n2))
            have HB4 := Lib.hid (HB3.out.setCell (p := ⟨w.heap.size, 1, none⟩) (Nat.le_refl _) (.int .i64 n2))
            have HO4 := Lib.hid (own_set HO3.out (p := ⟨w.heap.size, 1, none⟩) (by simp) (.int .i64 n2))
            cases b2 with
            | false =>
              go_wp2_with fail
              go_step3
              exact ⟨⟨_, _, _, _, _, _, _, _, _, _, _, _, _, _, _, _, _, _, _, _, _, _, _, _, _, _, _, _, _, _, _, _, _, _, _, _, _, _, _, _, _, _, _, _, _, _, _, _, _, _, _, _, _, _, _, _, rfl, HP4.out, HB4.out, .inr ⟨rfl, none3 HPRE.out Hne.out HM.out HD2.out (HF2.out (by simp))⟩⟩, by simp [intOf]; omega⟩
            | true =>
              have HN2 := Lib.hid (HT2.out rfl)
              obtain ⟨hx1, hx2⟩ := next HPRE.out Hne.out HM.out HN1.out.1 HN1.out.2 HD2.out HN2.out.1 HN2.out.2
              rw [HD3.out] at hx1
              simp only [HD3.out] at hx2
              have HX1 := Lib.hid hx1
              have HX2 := Lib.hid hx2
              have HI2 := Lib.hid (i64s_snoc HI.out HN1.out.2 HN2.out.2)
              clear hx1 hx2 HT2 HF2 HN1 HN2 HM HPRE
              have d0 := HP4.out.cell 0
              have d1 := HP4.out.cell 1
              simp only [List.set_cons_zero, List.set_cons_succ, List.getElem?_cons_zero, List.getElem?_cons_succ] at d0 d1
              go_wp2_with (at_builtin; refine wpList_append_own _ rfl _ _ 22 rfl (w.heap.size + 1) 38 i0 (.agg #[.int .i64 0, .int .i64 0]) 2 16 Tryd.underlying22 hi hz0 hz1 hz2 rfl (by decide) _ _ _ rfl (HO4.out.alloc _) ⟨w3.heap.size, 0, none⟩ 1 1 [.int .i64 n1, .int .i64 n2] rfl rfl ?c1 ?c2 ?c3 ?c4 ?c5 ?_)
              case c1 =>
                intro j u hj
                have hbk := Bk.new' (w3.setCell ⟨w.heap.size, 1, none⟩ (.int .i64 n2)) 38 [.int .i64 n1, .int .i64 n2] (g := w3.heap.size) (by simp)
                match j, hj with
                | 0, hj => simp at hj; subst hj; exact hbk.cell 0
                | 1, hj => simp at hj; subst hj; exact hbk.cell 1
              case c2 => simp [Value.oneCell']
              case c3 => have := HLQ.out; unfold maxLen; omega
              case c4 => have := HLQ.out; omega
              case c5 => have := HP4.out.lt; simp at this ⊢; omega
              intro v' w5 hown' hgrow _
              have HO5 := Lib.hid (show w5.ownsRow (w.heap.size + 1) 38 2 v' (L ++ [(n1, n2)]).length (pcells (L ++ [(n1, n2)])) by rw [pcells_append, List.length_append]; exact hown')
              have HB5 := Lib.hid ((HB4.out.alloc HB4.out.size _).grown hgrow (by have := HB4.out.size; simp at this ⊢; omega) (fun k hk => by have := (HO4.out.lt k hk).1; omega))
              have HP5 := Lib.hid ((HP4.out.alloc _).keep hgrow (fun h => by have := (HO4.out.lt w.heap.size h.symm).1; omega))
              clear hown' hgrow d0 d1 f1 c1 HO3 HO4 HB4 HP4 HB3 HP3
              by_cases hlt3 : q3 < s.length
              · obtain ⟨c, hcc⟩ : ∃ c, c = s[q3]'hlt3 := ⟨_, rfl⟩
                have hqs : s.drop q3 = c :: s.drop (q3 + 1) := by rw [hcc]; exact List.drop_eq_getElem_cons hlt3
                have hb : ∀ h, ((⟨s.toArray⟩ : ByteArray)[q3]'h) = c := fun h => by rw [hcc]; rfl
                have HQS := Lib.hid hqs
                have hne1 : ((q3 : Int) == (s.length : Int)) = false := by simp; omega
                clear hcc hqs
                by_cases h32 : c = 32
                · have h33 : ((c.toNat : Int) == 32) = true := by subst h32; rfl
                  have HQ32 := Lib.hid (show s.drop q3 = 32 :: s.drop (q3 + 1) by rw [HQS.out, h32])
                  clear h32 HQS
                  go_wp2_with fail
                  go_step3
                  refine ⟨⟨q3 + 1, n1, n2, v', _, _, _, _, _, _, _, _, _, _, _, _, _, _, _, _, _, _, _, _, _, _, _, _, _, _, _, _, _, _, _, _, _, _, _, _, _, _, _, _, _, _, _, _, _, _, _, _, _, _, _, _, rfl, HP5.out, HB5.out, .inl ⟨rfl, L ++ [(n1, n2)], by
                    rw [preT, if_neg (by simp)]
                    have := HX1.out
                    rw [HQ32.out] at this
                    simpa using this, by omega, by have := HLQ.out; simp; omega, HI2.out, HO5.out, fun M hM hMs => by
                    obtain ⟨M', tail, rfl, _, _⟩ := HX2.out M hM hMs
                    exact ⟨M', rfl⟩⟩⟩, ?_⟩
                  simp [intOf]; omega
                · have h33 : ((c.toNat : Int) == 32) = false := by
                    simp only [beq_eq_false_iff_ne, ne_eq]
                    intro h
                    apply h32
                    apply UInt8.toNat_inj.1
                    have : (32 : UInt8).toNat = 32 := rfl
                    omega
                  have HNO := Lib.hid (show ∀ M, I64s M → textS M ≠ s from fun M hM hMs => by
                    obtain ⟨M', tail, _, h1, h2⟩ := HX2.out M hM hMs
                    rw [HQS.out] at h1
                    rcases h2 with ⟨_, rfl⟩ | ⟨_, t, rfl⟩
                    · cases h1
                    · injection h1 with h1 _; exact h32 h1)
                  clear h32 HQS
                  go_wp2_with fail
                  go_step3
                  exact ⟨⟨_, _, _, _, _, _, _, _, _, _, _, _, _, _, _, _, _, _, _, _, _, _, _, _, _, _, _, _, _, _, _, _, _, _, _, _, _, _, _, _, _, _, _, _, _, _, _, _, _, _, _, _, _, _, _, _, rfl, HP5.out, HB5.out, .inr ⟨rfl, HNO.out⟩⟩, by simp [intOf]; omega⟩
              · obtain rfl : q3 = s.length := by omega
                have HD := Lib.hid (show s.drop s.length = [] from List.drop_length)
                go_wp2_with fail
                first | rw [jumps_ret] | skip
                go_ret2
                exact ⟨.inl ⟨_, L ++ [(n1, n2)], rfl, Picks.of_owns HO5.out, HI2.out, by have := HLQ.out; simp; omega, by have := HX1.out; rw [HD.out, List.append_nil] at this; exact this.symm, fun M hM hMs => by
                  obtain ⟨M', tail, rfl, h1, h2⟩ := HX2.out M hM hMs
                  rw [HD.out] at h1
                  subst h1
                  rcases h2 with ⟨rfl, _⟩ | ⟨_, t, h⟩
                  · simp
                  · cases h⟩, HB5.out⟩
          · have h59 : ((c.toNat : Int) == 58) = false := by
              simp only [beq_eq_false_iff_ne, ne_eq]
              intro h
              apply h58
              apply UInt8.toNat_inj.1
              have : (58 : UInt8).toNat = 58 := rfl
              omega
            have HNO := Lib.hid (none2 HPRE.out Hne.out HM.out (by rw [HD1.out, HQS.out]; simp only [List.head?_cons, ne_eq, Option.some.injEq]; exact h58))
            clear h58 HQS
            go_wp2_with fail
            go_step3
            exact ⟨⟨_, _, _, _, _, _, _, _, _, _, _, _, _, _, _, _, _, _, _, _, _, _, _, _, _, _, _, _, _, _, _, _, _, _, _, _, _, _, _, _, _, _, _, _, _, _, _, _, _, _, _, _, _, _, _, _, rfl, HP2.out, HB2.out, .inr ⟨rfl, HNO.out⟩⟩, by simp [intOf]; omega⟩
        · have hne1 : ((q1 : Int) == (s.length : Int)) = true := by simp; omega
          have HNO := Lib.hid (none2 HPRE.out Hne.out HM.out (by rw [HD1.out, List.drop_eq_nil_of_le (by omega)]; simp))
          go_wp2_with fail
          go_step3
          exact ⟨⟨_, _, _, _, _, _, _, _, _, _, _, _, _, _, _, _, _, _, _, _, _, _, _, _, _, _, _, _, _, _, _, _, _, _, _, _, _, _, _, _, _, _, _, _, _, _, _, _, _, _, _, _, _, _, _, _, rfl, HP2.out, HB2.out, .inr ⟨rfl, HNO.out⟩⟩, by simp [intOf]; omega⟩
    · refine ⟨_, rfl, ?_⟩
      have HNO := Lib.hid hno
      clear hno
      go_wp2_with fail
      first | rw [jumps_ret] | skip
      go_ret2
      exact ⟨.inr ⟨rfl, Hne.out, HNO.out⟩, hB⟩

end Go.Proofs.YtannfkibahinhaaDoor
