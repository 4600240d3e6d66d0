/-
  strconv.Atoi; fair.number, from any world.
-/
import Derived.Test.YtannfkibahinhaaDoorFairG
import Derived.Test.YtannfkibahinhaaDoorNumM
import Derived.Test.YtannfkibahinhaaDoorGoto
import Derived.Test.YtannfkibahinhaaDoorShelf
import Derived.Lib.TrimByte
import Derived.OwnWalk
namespace Go.Proofs.YtannfkibahinhaaDoor
open Go.RowKit

/-- The library's two errors are there. -/
def Errs (w : World) : Prop := (∃ t p, w.cell? ⟨2, 0, none⟩ = some (.iface t p)) ∧ ∃ t p, w.cell? ⟨3, 0, none⟩ = some (.iface t p)
theorem Errs.below {w w' : World} (h : Errs w) (k : Below w.heap.size w w') : Errs w' :=
  ⟨h.1.imp fun _ h => h.imp fun _ h => keepc h k, h.2.imp fun _ h => h.imp fun _ h => keepc h k⟩

/-- Which number a text is, if strconv.Atoi takes it. -/
def isNum (l : List UInt8) (n : Int) : Prop := Lib.atoiAll l = .ok n
theorem below_bytes (w : World) (e : TypeId) (t : ByteArray) : Below w.heap.size w (Lib.bytesWorld w e t) := by
  exact Lib.bytesWorld_below _ _ _
theorem atoi_any (l : List UInt8) (w : World) (hl : l.length ≤ 1000000) (he : Errs w) :
    Calls Tryd.prog 35 #[.string ⟨l.toArray⟩] w fun e w' => ∃ (n : Int) (x : Value) (b : Bool), e = .returned (.tuple #[.int .i64 n, x]) ∧ ((b = true ∧ x = .nilIface ∧ Lib.atoiAll l = .ok n) ∨ (b = false ∧ (∃ t p, x = .iface t p) ∧ ∀ v, Lib.atoiAll l ≠ .ok v)) ∧ Below w.heap.size w w' := by
  obtain ⟨⟨t1, p1, h1⟩, t2, p2, h2⟩ := he
  have hs : (⟨l.toArray⟩ : ByteArray).size = l.length := by simp [ByteArray.size]
  have hd : (⟨l.toArray⟩ : ByteArray).data.toList = l := by simp
  cases hc : Lib.atoiAll l with
  | ok n =>
    refine (Tryd.strconv_Atoi_ok ⟨l.toArray⟩ (by rw [hs]; omega) n (by rw [hd]; exact hc) w).mono ?_
    rintro e w' ⟨rfl, h⟩
    refine ⟨n, .nilIface, true, rfl, .inl ⟨rfl, rfl, rfl⟩, ?_⟩
    rcases h with rfl | ⟨t, rfl⟩
    · exact Below.refl _ _
    · exact below_bytes _ _ _
  | range =>
    refine (Tryd.strconv_Atoi_range ⟨l.toArray⟩ (by rw [hs]; omega) (by rw [hd]; exact hc) _ w h2 (.inr ⟨_, _, rfl⟩)).mono ?_
    rintro e w' ⟨N, rfl, _, _, hB⟩
    exact ⟨_, _, false, rfl, .inr ⟨rfl, ⟨_, _, rfl⟩, fun v hv => by cases hv⟩, hB⟩
  | _ =>
    refine (Tryd.strconv_Atoi_syntax ⟨l.toArray⟩ (by rw [hs]; omega) (by rw [hd]; exact hc) _ w h1 (.inr ⟨_, _, rfl⟩)).mono ?_
    rintro e w' ⟨N, rfl, _, _, hB⟩
    exact ⟨_, _, false, rfl, .inr ⟨rfl, ⟨_, _, rfl⟩, fun v hv => by cases hv⟩, hB⟩

/-- What holds at the label: the number goes on, or ends here. -/
def NJ (s : List UInt8) (p : Nat) (w : World) (l : Nat) (a : Act) (w' : World) : Prop :=
  l = 0 ∧ w' = w ∧ ∃ (q : Nat) (u2 u3 u10 u11 u12 u13 u14 u15 u16 u17 u18 u19 u20 u21 u22 u23 u24 u25 u26 u27 u28 u29 u30 u31 u32 u33 u34 u35 u36 u37 u38 u39 u40 u41 u42 u43 u44 u45 u46 u47 u48 u49 u50 u51 u52 u53 u54 u55 u56 u57 u58 u59 u60 u61 : Value), a = { tmps := #[.string ⟨s.toArray⟩, .int .i64 q, u2, u3, .int .i64 0, .int .i64 0, .bool false, .int .i64 p, .int .i64 0, .nilIface, u10, u11, u12, u13, u14, u15, u16, u17, u18, u19, u20, u21, u22, u23, u24, u25, u26, u27, u28, u29, u30, u31, u32, u33, u34, u35, u36, u37, u38, u39, u40, u41, u42, u43, u44, u45, u46, u47, u48, u49, u50, u51, u52, u53, u54, u55, u56, u57, u58, u59, u60, u61], defers := [] } ∧ p ≤ q ∧ q ≤ s.length ∧ q + drun (s.drop q) = p + nlen (s.drop p)

set_option maxHeartbeats 12800000 in
set_option maxRecDepth 100000 in
theorem number_any (s : List UInt8) (p : Nat) (w : World) (hp : p ≤ s.length) (hs : s.length ≤ 1000000) (ht : Tab w) (he : Errs w) :
    Calls Tryd.prog 23 #[.string ⟨s.toArray⟩, .int .i64 p] w fun e w' => ∃ (n : Int) (b : Bool), e = .returned (.tuple #[.int .i64 n, .int .i64 (p + nlen (s.drop p) : Nat), .bool b]) ∧
      (b = true → Lib.itoa n = (s.drop p).take (nlen (s.drop p)) ∧ I64 n) ∧ (b = false → ∀ v, I64 v → Lib.itoa v ≠ (s.drop p).take (nlen (s.drop p))) ∧ Below w.heap.size w w' := by
  have Ht := Lib.hid ht
  have He := Lib.hid he
  clear ht he
  go_enter Tryd.func23, Tryd.ntmps23
  go_wp2_with fail
  refine wp_scope_inv (NJ s p w) (fun _ a _ => s.length - (intOf (a.tmps.getD 1 undef)).toNat) ?first ?pass
  case pass =>
    rintro l a w' ⟨rfl, rfl, q, u2, u3, u10, u11, u12, u13, u14, u15, u16, u17, u18, u19, u20, u21, u22, u23, u24, u25, u26, u27, u28, u29, u30, u31, u32, u33, u34, u35, u36, u37, u38, u39, u40, u41, u42, u43, u44, u45, u46, u47, u48, u49, u50, u51, u52, u53, u54, u55, u56, u57, u58, u59, u60, u61, rfl, h1, h2, h3⟩
    refine ⟨_, rfl, ?_⟩
    by_cases hq : q < s.length
    · obtain ⟨c, hcc⟩ : ∃ c, c = s[q]'hq := ⟨_, rfl⟩
      have hqs : s.drop q = c :: s.drop (q + 1) := by rw [hcc]; exact List.drop_eq_getElem_cons hq
      have hb : ∀ h, ((⟨s.toArray⟩ : ByteArray)[q]'h) = c := fun h => by rw [hcc]; rfl
      clear hcc
      by_cases hd : isD c = true
      · have hd1 : (48 : Int) ≤ c.toNat ∧ (c.toNat : Int) ≤ 57 := by simp only [isD, Bool.and_eq_true, decide_eq_true_eq] at hd; omega
        have hd2 : decide ((48 : Int) ≤ c.toNat) = true := by simpa using hd1.1
        have hd3 : decide ((c.toNat : Int) ≤ 57) = true := by simpa using hd1.2
        have hdr : drun (s.drop q) = drun (s.drop (q + 1)) + 1 := by rw [hqs, drun, if_pos hd]
        clear hqs
        go_wp2_with fail
        go_step3
        refine ⟨⟨rfl, rfl, q + 1, _, _, _, _, _, _, _, _, _, _, _, _, _, _, _, _, _, _, _, _, _, _, _, _, _, _, _, _, _, _, _, _, _, _, _, _, _, _, _, _, _, _, _, _, _, _, _, _, _, _, _, _, _, _, rfl, by omega, by omega, by omega⟩, ?_⟩
        simp [intOf]; omega
      · have hd0 : ¬ (48 : Int) ≤ c.toNat ∨ ¬ (c.toNat : Int) ≤ 57 := by
          simp only [isD, Bool.and_eq_true, decide_eq_true_eq] at hd
          omega
        have hdr : drun (s.drop q) = 0 := by rw [hqs, drun, if_neg hd]
        clear hqs hd
        rcases hd0 with hd0 | hd0
        · have hd2 : decide ((48 : Int) ≤ c.toNat) = false := by simpa using hd0
          clear hd0
          have e1 : (⟨s.toArray⟩ : ByteArray).extract p q = ⟨((s.drop p).take (q - p)).toArray⟩ := Lib.extract_mk s p q
          have hml : ((s.drop p).take (q - p)).length ≤ 1000000 := by simp; omega
          obtain ⟨sub, hsub⟩ : ∃ sub, sub = (s.drop p).take (q - p) := ⟨_, rfl⟩
          have Hs := Lib.hid (show (s.drop p).take (nlen (s.drop p)) = sub by rw [hsub]; congr 1; omega)
          have Hq := Lib.hid (show ((p + nlen (s.drop p) : Nat) : Int) = q by omega)
          rw [← hsub] at e1 hml
          clear h3 hdr hsub
          go_wp2_with fail
          refine (atoi_any sub _ hml He.out).mono ?_
          rintro e w1 ⟨n, x, b, rfl, hx, hB⟩
          have HB := Lib.hid hB
          rcases hx with ⟨rfl, rfl, hat⟩ | ⟨rfl, ⟨tt, pp, rfl⟩, hat⟩
          · have HN := Lib.hid (show I64 n from Lib.atoiAll_bounds hat)
            have Hat := Lib.hid hat
            clear hat hB
            go_wp2_with fail
            go_region_held3 (fun w2 => Below w'.heap.size w' w2)
              (first
                | exact HB.out.drew
                | (go_split_ands; exact bel_then (by assumption) hB))
              (first
                | (go_at_call 21; go_split_ands; refine (itoa_any _ _ HN.out (Ht.out.below (by assumption))).mono ?_; rintro e w' ⟨rfl, hB⟩))
            all_goals
              go_split_ands
              go_wp2_with fail
              first | rw [jumps_ret] | skip
              go_ret3
              rw [Hs.out, Hq.out]
              refine ⟨n, _, rfl, fun h => ⟨?_, HN.out⟩, fun h v hv hvs => ?_, by assumption⟩
              · simpa using h
              · have h1 := atoi_itoa v hv
                rw [hvs, Hat.out] at h1
                injection h1 with h1
                subst h1
                simp [hvs] at h
          · have Hat := Lib.hid hat
            clear hat hB
            go_wp2_with fail
            go_quiet (fail)
            go_wp2_with fail
            first | rw [jumps_ret] | skip
            go_ret3
            rw [Hs.out, Hq.out]
            exact ⟨n, _, rfl, (fun h => by cases h), (fun _ v hv hvs => Hat.out v (by rw [← hvs]; exact atoi_itoa v hv)), bel_drewN HB.out _⟩
        · have hd3 : decide ((c.toNat : Int) ≤ 57) = false := by simpa using hd0
          by_cases hd4 : (48 : Int) ≤ c.toNat
          · have hd2 : decide ((48 : Int) ≤ c.toNat) = true := by simpa using hd4
            clear hd0 hd4
            have e1 : (⟨s.toArray⟩ : ByteArray).extract p q = ⟨((s.drop p).take (q - p)).toArray⟩ := Lib.extract_mk s p q
            have hml : ((s.drop p).take (q - p)).length ≤ 1000000 := by simp; omega
            obtain ⟨sub, hsub⟩ : ∃ sub, sub = (s.drop p).take (q - p) := ⟨_, rfl⟩
            have Hs := Lib.hid (show (s.drop p).take (nlen (s.drop p)) = sub by rw [hsub]; congr 1; omega)
            have Hq := Lib.hid (show ((p + nlen (s.drop p) : Nat) : Int) = q by omega)
            rw [← hsub] at e1 hml
            clear h3 hdr hsub
            go_wp2_with fail
            refine (atoi_any sub _ hml He.out).mono ?_
            rintro e w1 ⟨n, x, b, rfl, hx, hB⟩
            have HB := Lib.hid hB
            rcases hx with ⟨rfl, rfl, hat⟩ | ⟨rfl, ⟨tt, pp, rfl⟩, hat⟩
            · have HN := Lib.hid (show I64 n from Lib.atoiAll_bounds hat)
              have Hat := Lib.hid hat
              clear hat hB
              go_wp2_with fail
              go_region_held3 (fun w2 => Below w'.heap.size w' w2)
                (first
                  | exact HB.out.drew
                  | (go_split_ands; exact bel_then (by assumption) hB))
                (first
                  | (go_at_call 21; go_split_ands; refine (itoa_any _ _ HN.out (Ht.out.below (by assumption))).mono ?_; rintro e w' ⟨rfl, hB⟩))
              all_goals
                go_split_ands
                go_wp2_with fail
                first | rw [jumps_ret] | skip
                go_ret3
                rw [Hs.out, Hq.out]
                refine ⟨n, _, rfl, fun h => ⟨?_, HN.out⟩, fun h v hv hvs => ?_, by assumption⟩
                · simpa using h
                · have h1 := atoi_itoa v hv
                  rw [hvs, Hat.out] at h1
                  injection h1 with h1
                  subst h1
                  simp [hvs] at h
            · have Hat := Lib.hid hat
              clear hat hB
              go_wp2_with fail
              go_quiet (fail)
              go_wp2_with fail
              first | rw [jumps_ret] | skip
              go_ret3
              rw [Hs.out, Hq.out]
              exact ⟨n, _, rfl, (fun h => by cases h), (fun _ v hv hvs => Hat.out v (by rw [← hvs]; exact atoi_itoa v hv)), bel_drewN HB.out _⟩
          · have hd2 : decide ((48 : Int) ≤ c.toNat) = false := by simpa using hd4
            clear hd0 hd4
            have e1 : (⟨s.toArray⟩ : ByteArray).extract p q = ⟨((s.drop p).take (q - p)).toArray⟩ := Lib.extract_mk s p q
            have hml : ((s.drop p).take (q - p)).length ≤ 1000000 := by simp; omega
            obtain ⟨sub, hsub⟩ : ∃ sub, sub = (s.drop p).take (q - p) := ⟨_, rfl⟩
            have Hs := Lib.hid (show (s.drop p).take (nlen (s.drop p)) = sub by rw [hsub]; congr 1; omega)
            have Hq := Lib.hid (show ((p + nlen (s.drop p) : Nat) : Int) = q by omega)
            rw [← hsub] at e1 hml
            clear h3 hdr hsub
            go_wp2_with fail
            refine (atoi_any sub _ hml He.out).mono ?_
            rintro e w1 ⟨n, x, b, rfl, hx, hB⟩
            have HB := Lib.hid hB
            rcases hx with ⟨rfl, rfl, hat⟩ | ⟨rfl, ⟨tt, pp, rfl⟩, hat⟩
            · have HN := Lib.hid (show I64 n from Lib.atoiAll_bounds hat)
              have Hat := Lib.hid hat
              clear hat hB
              go_wp2_with fail
              go_region_held3 (fun w2 => Below w'.heap.size w' w2)
                (first
                  | exact HB.out.drew
                  | (go_split_ands; exact bel_then (by assumption) hB))
                (first
                  | (go_at_call 21; go_split_ands; refine (itoa_any _ _ HN.out (Ht.out.below (by assumption))).mono ?_; rintro e w' ⟨rfl, hB⟩))
              all_goals
                go_split_ands
                go_wp2_with fail
                first | rw [jumps_ret] | skip
                go_ret3
                rw [Hs.out, Hq.out]
                refine ⟨n, _, rfl, fun h => ⟨?_, HN.out⟩, fun h v hv hvs => ?_, by assumption⟩
                · simpa using h
                · have h1 := atoi_itoa v hv
                  rw [hvs, Hat.out] at h1
                  injection h1 with h1
                  subst h1
                  simp [hvs] at h
            · have Hat := Lib.hid hat
              clear hat hB
              go_wp2_with fail
              go_quiet (fail)
              go_wp2_with fail
              first | rw [jumps_ret] | skip
              go_ret3
              rw [Hs.out, Hq.out]
              exact ⟨n, _, rfl, (fun h => by cases h), (fun _ v hv hvs => Hat.out v (by rw [← hvs]; exact atoi_itoa v hv)), bel_drewN HB.out _⟩
    · have hdr : drun (s.drop q) = 0 := by rw [List.drop_eq_nil_of_le (by omega)]; rfl
      have e1 : (⟨s.toArray⟩ : ByteArray).extract p q = ⟨((s.drop p).take (q - p)).toArray⟩ := Lib.extract_mk s p q
      have hml : ((s.drop p).take (q - p)).length ≤ 1000000 := by simp; omega
      obtain ⟨sub, hsub⟩ : ∃ sub, sub = (s.drop p).take (q - p) := ⟨_, rfl⟩
      have Hs := Lib.hid (show (s.drop p).take (nlen (s.drop p)) = sub by rw [hsub]; congr 1; omega)
      have Hq := Lib.hid (show ((p + nlen (s.drop p) : Nat) : Int) = q by omega)
      rw [← hsub] at e1 hml
      clear h3 hdr hsub
      go_wp2_with fail
      refine (atoi_any sub _ hml He.out).mono ?_
      rintro e w1 ⟨n, x, b, rfl, hx, hB⟩
      have HB := Lib.hid hB
      rcases hx with ⟨rfl, rfl, hat⟩ | ⟨rfl, ⟨tt, pp, rfl⟩, hat⟩
      · have HN := Lib.hid (show I64 n from Lib.atoiAll_bounds hat)
        have Hat := Lib.hid hat
        clear hat hB
        go_wp2_with fail
        go_region_held3 (fun w2 => Below w'.heap.size w' w2)
          (first
            | exact HB.out.drew
            | (go_split_ands; exact bel_then (by assumption) hB))
          (first
            | (go_at_call 21; go_split_ands; refine (itoa_any _ _ HN.out (Ht.out.below (by assumption))).mono ?_; rintro e w' ⟨rfl, hB⟩))
        all_goals
          go_split_ands
          go_wp2_with fail
          first | rw [jumps_ret] | skip
          go_ret3
          rw [Hs.out, Hq.out]
          refine ⟨n, _, rfl, fun h => ⟨?_, HN.out⟩, fun h v hv hvs => ?_, by assumption⟩
          · simpa using h
          · have h1 := atoi_itoa v hv
            rw [hvs, Hat.out] at h1
            injection h1 with h1
            subst h1
            simp [hvs] at h
      · have Hat := Lib.hid hat
        clear hat hB
        go_wp2_with fail
        go_quiet (fail)
        go_wp2_with fail
        first | rw [jumps_ret] | skip
        go_ret3
        rw [Hs.out, Hq.out]
        exact ⟨n, _, rfl, (fun h => by cases h), (fun _ v hv hvs => Hat.out v (by rw [← hvs]; exact atoi_itoa v hv)), bel_drewN HB.out _⟩
  case first =>
    by_cases hlt : p < s.length
    · obtain ⟨c0, hcc⟩ : ∃ c, c = s[p]'hlt := ⟨_, rfl⟩
      have hps : s.drop p = c0 :: s.drop (p + 1) := by rw [hcc]; exact List.drop_eq_getElem_cons hlt
      have hb0 : ∀ h, ((⟨s.toArray⟩ : ByteArray)[p]'h) = c0 := fun h => by rw [hcc]; rfl
      clear hcc
      by_cases h45 : c0 = 45
      · have h46 : ((c0.toNat : Int) == 45) = true := by subst h45; rfl
        have hnl : nlen (s.drop p) = drun (s.drop (p + 1)) + 1 := by rw [hps, h45]; rfl
        clear hps h45
        go_wp2_with fail
        obtain ⟨q, hqd⟩ : ∃ q, q = p + 1 := ⟨_, rfl⟩
        have hqi : ((p : Int) + 1) = (q : Int) := by omega
        have h1 : p ≤ q := by omega
        have h2 : q ≤ s.length := by omega
        have h3 : q + drun (s.drop q) = p + nlen (s.drop p) := by rw [hqd]; omega
        rw [hqi]
        clear hqd hnl hqi hlt hb0 h46
        go_step3
        by_cases hq : q < s.length
        · obtain ⟨c, hcc⟩ : ∃ c, c = s[q]'hq := ⟨_, rfl⟩
          have hqs : s.drop q = c :: s.drop (q + 1) := by rw [hcc]; exact List.drop_eq_getElem_cons hq
          have hb : ∀ h, ((⟨s.toArray⟩ : ByteArray)[q]'h) = c := fun h => by rw [hcc]; rfl
          clear hcc
          by_cases hd : isD c = true
          · have hd1 : (48 : Int) ≤ c.toNat ∧ (c.toNat : Int) ≤ 57 := by simp only [isD, Bool.and_eq_true, decide_eq_true_eq] at hd; omega
            have hd2 : decide ((48 : Int) ≤ c.toNat) = true := by simpa using hd1.1
            have hd3 : decide ((c.toNat : Int) ≤ 57) = true := by simpa using hd1.2
            have hdr : drun (s.drop q) = drun (s.drop (q + 1)) + 1 := by rw [hqs, drun, if_pos hd]
            clear hqs
            go_wp2_with fail
            go_step3
            exact ⟨rfl, rfl, q + 1, _, _, _, _, _, _, _, _, _, _, _, _, _, _, _, _, _, _, _, _, _, _, _, _, _, _, _, _, _, _, _, _, _, _, _, _, _, _, _, _, _, _, _, _, _, _, _, _, _, _, _, _, _, _, rfl, by omega, by omega, by omega⟩
          · have hd0 : ¬ (48 : Int) ≤ c.toNat ∨ ¬ (c.toNat : Int) ≤ 57 := by
              simp only [isD, Bool.and_eq_true, decide_eq_true_eq] at hd
              omega
            have hdr : drun (s.drop q) = 0 := by rw [hqs, drun, if_neg hd]
            clear hqs hd
            rcases hd0 with hd0 | hd0
            · have hd2 : decide ((48 : Int) ≤ c.toNat) = false := by simpa using hd0
              clear hd0
              have e1 : (⟨s.toArray⟩ : ByteArray).extract p q = ⟨((s.drop p).take (q - p)).toArray⟩ := Lib.extract_mk s p q
              have hml : ((s.drop p).take (q - p)).length ≤ 1000000 := by simp; omega
              obtain ⟨sub, hsub⟩ : ∃ sub, sub = (s.drop p).take (q - p) := ⟨_, rfl⟩
              have Hs := Lib.hid (show (s.drop p).take (nlen (s.drop p)) = sub by rw [hsub]; congr 1; omega)
              have Hq := Lib.hid (show ((p + nlen (s.drop p) : Nat) : Int) = q by omega)
              rw [← hsub] at e1 hml
              clear h3 hdr hsub
              go_wp2_with fail
              refine (atoi_any sub _ hml He.out).mono ?_
              rintro e w1 ⟨n, x, b, rfl, hx, hB⟩
              have HB := Lib.hid hB
              rcases hx with ⟨rfl, rfl, hat⟩ | ⟨rfl, ⟨tt, pp, rfl⟩, hat⟩
              · have HN := Lib.hid (show I64 n from Lib.atoiAll_bounds hat)
                have Hat := Lib.hid hat
                clear hat hB
                go_wp2_with fail
                go_region_held3 (fun w' => Below w.heap.size w w')
                  (first
                    | exact HB.out.drew
                    | (go_split_ands; exact bel_then (by assumption) hB))
                  (first
                    | (go_at_call 21; go_split_ands; refine (itoa_any _ _ HN.out (Ht.out.below (by assumption))).mono ?_; rintro e w' ⟨rfl, hB⟩))
                all_goals
                  go_split_ands
                  go_wp2_with fail
                  first | rw [jumps_ret] | skip
                  go_ret3
                  rw [Hs.out, Hq.out]
                  refine ⟨n, _, rfl, fun h => ⟨?_, HN.out⟩, fun h v hv hvs => ?_, by assumption⟩
                  · simpa using h
                  · have h1 := atoi_itoa v hv
                    rw [hvs, Hat.out] at h1
                    injection h1 with h1
                    subst h1
                    simp [hvs] at h
              · have Hat := Lib.hid hat
                clear hat hB
                go_wp2_with fail
                go_quiet (fail)
                go_wp2_with fail
                first | rw [jumps_ret] | skip
                go_ret3
                rw [Hs.out, Hq.out]
                exact ⟨n, _, rfl, (fun h => by cases h), (fun _ v hv hvs => Hat.out v (by rw [← hvs]; exact atoi_itoa v hv)), bel_drewN HB.out _⟩
            · have hd3 : decide ((c.toNat : Int) ≤ 57) = false := by simpa using hd0
              by_cases hd4 : (48 : Int) ≤ c.toNat
              · have hd2 : decide ((48 : Int) ≤ c.toNat) = true := by simpa using hd4
                clear hd0 hd4
                have e1 : (⟨s.toArray⟩ : ByteArray).extract p q = ⟨((s.drop p).take (q - p)).toArray⟩ := Lib.extract_mk s p q
                have hml : ((s.drop p).take (q - p)).length ≤ 1000000 := by simp; omega
                obtain ⟨sub, hsub⟩ : ∃ sub, sub = (s.drop p).take (q - p) := ⟨_, rfl⟩
                have Hs := Lib.hid (show (s.drop p).take (nlen (s.drop p)) = sub by rw [hsub]; congr 1; omega)
                have Hq := Lib.hid (show ((p + nlen (s.drop p) : Nat) : Int) = q by omega)
                rw [← hsub] at e1 hml
                clear h3 hdr hsub
                go_wp2_with fail
                refine (atoi_any sub _ hml He.out).mono ?_
                rintro e w1 ⟨n, x, b, rfl, hx, hB⟩
                have HB := Lib.hid hB
                rcases hx with ⟨rfl, rfl, hat⟩ | ⟨rfl, ⟨tt, pp, rfl⟩, hat⟩
                · have HN := Lib.hid (show I64 n from Lib.atoiAll_bounds hat)
                  have Hat := Lib.hid hat
                  clear hat hB
                  go_wp2_with fail
                  go_region_held3 (fun w' => Below w.heap.size w w')
                    (first
                      | exact HB.out.drew
                      | (go_split_ands; exact bel_then (by assumption) hB))
                    (first
                      | (go_at_call 21; go_split_ands; refine (itoa_any _ _ HN.out (Ht.out.below (by assumption))).mono ?_; rintro e w' ⟨rfl, hB⟩))
                  all_goals
                    go_split_ands
                    go_wp2_with fail
                    first | rw [jumps_ret] | skip
                    go_ret3
                    rw [Hs.out, Hq.out]
                    refine ⟨n, _, rfl, fun h => ⟨?_, HN.out⟩, fun h v hv hvs => ?_, by assumption⟩
                    · simpa using h
                    · have h1 := atoi_itoa v hv
                      rw [hvs, Hat.out] at h1
                      injection h1 with h1
                      subst h1
                      simp [hvs] at h
                · have Hat := Lib.hid hat
                  clear hat hB
                  go_wp2_with fail
                  go_quiet (fail)
                  go_wp2_with fail
                  first | rw [jumps_ret] | skip
                  go_ret3
                  rw [Hs.out, Hq.out]
                  exact ⟨n, _, rfl, (fun h => by cases h), (fun _ v hv hvs => Hat.out v (by rw [← hvs]; exact atoi_itoa v hv)), bel_drewN HB.out _⟩
              · have hd2 : decide ((48 : Int) ≤ c.toNat) = false := by simpa using hd4
                clear hd0 hd4
                have e1 : (⟨s.toArray⟩ : ByteArray).extract p q = ⟨((s.drop p).take (q - p)).toArray⟩ := Lib.extract_mk s p q
                have hml : ((s.drop p).take (q - p)).length ≤ 1000000 := by simp; omega
                obtain ⟨sub, hsub⟩ : ∃ sub, sub = (s.drop p).take (q - p) := ⟨_, rfl⟩
                have Hs := Lib.hid (show (s.drop p).take (nlen (s.drop p)) = sub by rw [hsub]; congr 1; omega)
                have Hq := Lib.hid (show ((p + nlen (s.drop p) : Nat) : Int) = q by omega)
                rw [← hsub] at e1 hml
                clear h3 hdr hsub
                go_wp2_with fail
                refine (atoi_any sub _ hml He.out).mono ?_
                rintro e w1 ⟨n, x, b, rfl, hx, hB⟩
                have HB := Lib.hid hB
                rcases hx with ⟨rfl, rfl, hat⟩ | ⟨rfl, ⟨tt, pp, rfl⟩, hat⟩
                · have HN := Lib.hid (show I64 n from Lib.atoiAll_bounds hat)
                  have Hat := Lib.hid hat
                  clear hat hB
                  go_wp2_with fail
                  go_region_held3 (fun w' => Below w.heap.size w w')
                    (first
                      | exact HB.out.drew
                      | (go_split_ands; exact bel_then (by assumption) hB))
                    (first
                      | (go_at_call 21; go_split_ands; refine (itoa_any _ _ HN.out (Ht.out.below (by assumption))).mono ?_; rintro e w' ⟨rfl, hB⟩))
                  all_goals
                    go_split_ands
                    go_wp2_with fail
                    first | rw [jumps_ret] | skip
                    go_ret3
                    rw [Hs.out, Hq.out]
                    refine ⟨n, _, rfl, fun h => ⟨?_, HN.out⟩, fun h v hv hvs => ?_, by assumption⟩
                    · simpa using h
                    · have h1 := atoi_itoa v hv
                      rw [hvs, Hat.out] at h1
                      injection h1 with h1
                      subst h1
                      simp [hvs] at h
                · have Hat := Lib.hid hat
                  clear hat hB
                  go_wp2_with fail
                  go_quiet (fail)
                  go_wp2_with fail
                  first | rw [jumps_ret] | skip
                  go_ret3
                  rw [Hs.out, Hq.out]
                  exact ⟨n, _, rfl, (fun h => by cases h), (fun _ v hv hvs => Hat.out v (by rw [← hvs]; exact atoi_itoa v hv)), bel_drewN HB.out _⟩
        · have hdr : drun (s.drop q) = 0 := by rw [List.drop_eq_nil_of_le (by omega)]; rfl
          have e1 : (⟨s.toArray⟩ : ByteArray).extract p q = ⟨((s.drop p).take (q - p)).toArray⟩ := Lib.extract_mk s p q
          have hml : ((s.drop p).take (q - p)).length ≤ 1000000 := by simp; omega
          obtain ⟨sub, hsub⟩ : ∃ sub, sub = (s.drop p).take (q - p) := ⟨_, rfl⟩
          have Hs := Lib.hid (show (s.drop p).take (nlen (s.drop p)) = sub by rw [hsub]; congr 1; omega)
          have Hq := Lib.hid (show ((p + nlen (s.drop p) : Nat) : Int) = q by omega)
          rw [← hsub] at e1 hml
          clear h3 hdr hsub
          go_wp2_with fail
          refine (atoi_any sub _ hml He.out).mono ?_
          rintro e w1 ⟨n, x, b, rfl, hx, hB⟩
          have HB := Lib.hid hB
          rcases hx with ⟨rfl, rfl, hat⟩ | ⟨rfl, ⟨tt, pp, rfl⟩, hat⟩
          · have HN := Lib.hid (show I64 n from Lib.atoiAll_bounds hat)
            have Hat := Lib.hid hat
            clear hat hB
            go_wp2_with fail
            go_region_held3 (fun w' => Below w.heap.size w w')
              (first
                | exact HB.out.drew
                | (go_split_ands; exact bel_then (by assumption) hB))
              (first
                | (go_at_call 21; go_split_ands; refine (itoa_any _ _ HN.out (Ht.out.below (by assumption))).mono ?_; rintro e w' ⟨rfl, hB⟩))
            all_goals
              go_split_ands
              go_wp2_with fail
              first | rw [jumps_ret] | skip
              go_ret3
              rw [Hs.out, Hq.out]
              refine ⟨n, _, rfl, fun h => ⟨?_, HN.out⟩, fun h v hv hvs => ?_, by assumption⟩
              · simpa using h
              · have h1 := atoi_itoa v hv
                rw [hvs, Hat.out] at h1
                injection h1 with h1
                subst h1
                simp [hvs] at h
          · have Hat := Lib.hid hat
            clear hat hB
            go_wp2_with fail
            go_quiet (fail)
            go_wp2_with fail
            first | rw [jumps_ret] | skip
            go_ret3
            rw [Hs.out, Hq.out]
            exact ⟨n, _, rfl, (fun h => by cases h), (fun _ v hv hvs => Hat.out v (by rw [← hvs]; exact atoi_itoa v hv)), bel_drewN HB.out _⟩
      · have h46 : ((c0.toNat : Int) == 45) = false := by
          simp only [beq_eq_false_iff_ne, ne_eq]
          intro h
          apply h45
          apply UInt8.toNat_inj.1
          have : (45 : UInt8).toNat = 45 := rfl
          omega
        by_cases hd : isD c0 = true
        · have hd1 : (48 : Int) ≤ c0.toNat ∧ (c0.toNat : Int) ≤ 57 := by simp only [isD, Bool.and_eq_true, decide_eq_true_eq] at hd; omega
          have hd2 : decide ((48 : Int) ≤ c0.toNat) = true := by simpa using hd1.1
          have hd3 : decide ((c0.toNat : Int) ≤ 57) = true := by simpa using hd1.2
          have h3 := Lib.hid (show p + 1 + drun (s.drop (p + 1)) = p + nlen (s.drop p) by rw [hps, nlen, if_neg h45, drun, if_pos hd]; omega)
          clear hps hd1 h45 hd
          go_wp2_with fail
          go_step3
          go_wp2_with fail
          go_step3
          exact ⟨rfl, rfl, p + 1, _, _, _, _, _, _, _, _, _, _, _, _, _, _, _, _, _, _, _, _, _, _, _, _, _, _, _, _, _, _, _, _, _, _, _, _, _, _, _, _, _, _, _, _, _, _, _, _, _, _, _, _, _, _, rfl, by omega, by omega, h3.out⟩
        · have hd0 : ¬ (48 : Int) ≤ c0.toNat ∨ ¬ (c0.toNat : Int) ≤ 57 := by
            simp only [isD, Bool.and_eq_true, decide_eq_true_eq] at hd
            omega
          have hdr : drun (s.drop p) = 0 := by rw [hps, drun, if_neg hd]
          have hnl : nlen (s.drop p) = 0 := by rw [hps, nlen, if_neg h45, drun, if_neg hd]
          clear hps hd h45
          have e1 : (⟨s.toArray⟩ : ByteArray).extract p p = ⟨([] : List UInt8).toArray⟩ := by rw [Lib.extract_mk, Nat.sub_self, List.take_zero]
          have hml : ([] : List UInt8).length ≤ 1000000 := by simp
          have Hs := Lib.hid (show (s.drop p).take (nlen (s.drop p)) = [] by rw [hnl]; rfl)
          have Hq := Lib.hid (show ((p + nlen (s.drop p) : Nat) : Int) = p by omega)
          clear hdr hnl
          rcases hd0 with hd0 | hd0
          · have hd2 : decide ((48 : Int) ≤ c0.toNat) = false := by simpa using hd0
            clear hd0
            go_wp2_with fail
            go_step3
            go_wp2_with fail
            refine (atoi_any [] _ hml He.out).mono ?_
            rintro e w1 ⟨n, x, b, rfl, hx, hB⟩
            have HB := Lib.hid hB
            rcases hx with ⟨rfl, rfl, hat⟩ | ⟨rfl, ⟨tt, pp, rfl⟩, hat⟩
            · have HN := Lib.hid (show I64 n from Lib.atoiAll_bounds hat)
              have Hat := Lib.hid hat
              clear hat hB
              go_wp2_with fail
              go_region_held3 (fun w' => Below w.heap.size w w')
                (first
                  | exact HB.out.drew
                  | (go_split_ands; exact bel_then (by assumption) hB))
                (first
                  | (go_at_call 21; go_split_ands; refine (itoa_any _ _ HN.out (Ht.out.below (by assumption))).mono ?_; rintro e w' ⟨rfl, hB⟩))
              all_goals
                go_split_ands
                go_wp2_with fail
                first | rw [jumps_ret] | skip
                go_ret3
                rw [Hs.out, Hq.out]
                refine ⟨n, _, rfl, fun h => ⟨?_, HN.out⟩, fun h v hv hvs => ?_, by assumption⟩
                · simpa using h
                · have h1 := atoi_itoa v hv
                  rw [hvs, Hat.out] at h1
                  injection h1 with h1
                  subst h1
                  simp [hvs] at h
            · have Hat := Lib.hid hat
              clear hat hB
              go_wp2_with fail
              go_quiet (fail)
              go_wp2_with fail
              first | rw [jumps_ret] | skip
              go_ret3
              rw [Hs.out, Hq.out]
              exact ⟨n, _, rfl, (fun h => by cases h), (fun _ v hv hvs => Hat.out v (by rw [← hvs]; exact atoi_itoa v hv)), bel_drewN HB.out _⟩
          · have hd3 : decide ((c0.toNat : Int) ≤ 57) = false := by simpa using hd0
            by_cases hd4 : (48 : Int) ≤ c0.toNat
            · have hd2 : decide ((48 : Int) ≤ c0.toNat) = true := by simpa using hd4
              clear hd0 hd4
              go_wp2_with fail
              go_step3
              go_wp2_with fail
              refine (atoi_any [] _ hml He.out).mono ?_
              rintro e w1 ⟨n, x, b, rfl, hx, hB⟩
              have HB := Lib.hid hB
              rcases hx with ⟨rfl, rfl, hat⟩ | ⟨rfl, ⟨tt, pp, rfl⟩, hat⟩
              · have HN := Lib.hid (show I64 n from Lib.atoiAll_bounds hat)
                have Hat := Lib.hid hat
                clear hat hB
                go_wp2_with fail
                go_region_held3 (fun w' => Below w.heap.size w w')
                  (first
                    | exact HB.out.drew
                    | (go_split_ands; exact bel_then (by assumption) hB))
                  (first
                    | (go_at_call 21; go_split_ands; refine (itoa_any _ _ HN.out (Ht.out.below (by assumption))).mono ?_; rintro e w' ⟨rfl, hB⟩))
                all_goals
                  go_split_ands
                  go_wp2_with fail
                  first | rw [jumps_ret] | skip
                  go_ret3
                  rw [Hs.out, Hq.out]
                  refine ⟨n, _, rfl, fun h => ⟨?_, HN.out⟩, fun h v hv hvs => ?_, by assumption⟩
                  · simpa using h
                  · have h1 := atoi_itoa v hv
                    rw [hvs, Hat.out] at h1
                    injection h1 with h1
                    subst h1
                    simp [hvs] at h
              · have Hat := Lib.hid hat
                clear hat hB
                go_wp2_with fail
                go_quiet (fail)
                go_wp2_with fail
                first | rw [jumps_ret] | skip
                go_ret3
                rw [Hs.out, Hq.out]
                exact ⟨n, _, rfl, (fun h => by cases h), (fun _ v hv hvs => Hat.out v (by rw [← hvs]; exact atoi_itoa v hv)), bel_drewN HB.out _⟩
            · have hd2 : decide ((48 : Int) ≤ c0.toNat) = false := by simpa using hd4
              clear hd0 hd4
              go_wp2_with fail
              go_step3
              go_wp2_with fail
              refine (atoi_any [] _ hml He.out).mono ?_
              rintro e w1 ⟨n, x, b, rfl, hx, hB⟩
              have HB := Lib.hid hB
              rcases hx with ⟨rfl, rfl, hat⟩ | ⟨rfl, ⟨tt, pp, rfl⟩, hat⟩
              · have HN := Lib.hid (show I64 n from Lib.atoiAll_bounds hat)
                have Hat := Lib.hid hat
                clear hat hB
                go_wp2_with fail
                go_region_held3 (fun w' => Below w.heap.size w w')
                  (first
                    | exact HB.out.drew
                    | (go_split_ands; exact bel_then (by assumption) hB))
                  (first
                    | (go_at_call 21; go_split_ands; refine (itoa_any _ _ HN.out (Ht.out.below (by assumption))).mono ?_; rintro e w' ⟨rfl, hB⟩))
                all_goals
                  go_split_ands
                  go_wp2_with fail
                  first | rw [jumps_ret] | skip
                  go_ret3
                  rw [Hs.out, Hq.out]
                  refine ⟨n, _, rfl, fun h => ⟨?_, HN.out⟩, fun h v hv hvs => ?_, by assumption⟩
                  · simpa using h
                  · have h1 := atoi_itoa v hv
                    rw [hvs, Hat.out] at h1
                    injection h1 with h1
                    subst h1
                    simp [hvs] at h
              · have Hat := Lib.hid hat
                clear hat hB
                go_wp2_with fail
                go_quiet (fail)
                go_wp2_with fail
                first | rw [jumps_ret] | skip
                go_ret3
                rw [Hs.out, Hq.out]
                exact ⟨n, _, rfl, (fun h => by cases h), (fun _ v hv hvs => Hat.out v (by rw [← hvs]; exact atoi_itoa v hv)), bel_drewN HB.out _⟩
    · have hdr : drun (s.drop p) = 0 := by rw [List.drop_eq_nil_of_le (by omega)]; rfl
      have hnl : nlen (s.drop p) = 0 := by rw [List.drop_eq_nil_of_le (by omega)]; rfl
      go_wp2_with fail
      go_step3
      have e1 : (⟨s.toArray⟩ : ByteArray).extract p p = ⟨([] : List UInt8).toArray⟩ := by rw [Lib.extract_mk, Nat.sub_self, List.take_zero]
      have hml : ([] : List UInt8).length ≤ 1000000 := by simp
      have Hs := Lib.hid (show (s.drop p).take (nlen (s.drop p)) = [] by rw [hnl]; rfl)
      have Hq := Lib.hid (show ((p + nlen (s.drop p) : Nat) : Int) = p by omega)
      clear hdr hnl
      go_wp2_with fail
      refine (atoi_any [] _ hml He.out).mono ?_
      rintro e w1 ⟨n, x, b, rfl, hx, hB⟩
      have HB := Lib.hid hB
      rcases hx with ⟨rfl, rfl, hat⟩ | ⟨rfl, ⟨tt, pp, rfl⟩, hat⟩
      · have HN := Lib.hid (show I64 n from Lib.atoiAll_bounds hat)
        have Hat := Lib.hid hat
        clear hat hB
        go_wp2_with fail
        go_region_held3 (fun w' => Below w.heap.size w w')
          (first
            | exact HB.out.drew
            | (go_split_ands; exact bel_then (by assumption) hB))
          (first
            | (go_at_call 21; go_split_ands; refine (itoa_any _ _ HN.out (Ht.out.below (by assumption))).mono ?_; rintro e w' ⟨rfl, hB⟩))
        all_goals
          go_split_ands
          go_wp2_with fail
          first | rw [jumps_ret] | skip
          go_ret3
          rw [Hs.out, Hq.out]
          refine ⟨n, _, rfl, fun h => ⟨?_, HN.out⟩, fun h v hv hvs => ?_, by assumption⟩
          · simpa using h
          · have h1 := atoi_itoa v hv
            rw [hvs, Hat.out] at h1
            injection h1 with h1
            subst h1
            simp [hvs] at h
      · have Hat := Lib.hid hat
        clear hat hB
        go_wp2_with fail
        go_quiet (fail)
        go_wp2_with fail
        first | rw [jumps_ret] | skip
        go_ret3
        rw [Hs.out, Hq.out]
        exact ⟨n, _, rfl, (fun h => by cases h), (fun _ v hv hvs => Hat.out v (by rw [← hvs]; exact atoi_itoa v hv)), bel_drewN HB.out _⟩

end Go.Proofs.YtannfkibahinhaaDoor
