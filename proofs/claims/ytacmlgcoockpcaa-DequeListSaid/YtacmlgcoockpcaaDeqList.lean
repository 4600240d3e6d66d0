/-
  deque.Deque: Reset, List: contracts.
-/
import Derived.Test.YtacmlgcoockpcaaDeq
import Derived.Deep.RegionLaw
import Derived.Deep.AppendLies
namespace Go.Proofs.Ytacmlgcoockpcaa
open Go.RowKit

theorem own_form {w : World} {B : Nat} {e : TypeId} {s n : Nat} {v : Value} {xs : List Value} (h : w.ownsRow B e s v n xs) : ∃ o c, v = .slice o n c ∧ n ≤ c ∧ c ≤ maxLen := by
  rcases h.2 with ⟨rfl, rfl⟩ | ⟨g, cap, cur, rfl, _, _, h1, h2, _⟩
  · exact ⟨_, _, rfl, Nat.le_refl _, Nat.zero_le _⟩
  · exact ⟨_, _, rfl, h1, h2⟩
/-- A block of another type stays as it is when a row grows. -/
theorem bk_grown {w w' : World} {B n s : Nat} {e t : TypeId} {v : Value} {xs : List Value} {g : Nat} {cs : List Value} (h : Bk w g t cs) (ho : w.ownsRow B e s v n xs) (hn : t ≠ e) (hg : w.grownBy w' v.ownBlock) : Bk w' g t cs := by
  refine h.keep hg ?_
  rcases ho.2 with ⟨rfl, _⟩ | ⟨g', cap, cur, rfl, _, hh, _⟩
  · simp [Value.ownBlock]
  · intro e2
    have : g = g' := by simpa [Value.ownBlock] using e2
    subst this
    unfold Bk at h
    rw [h] at hh
    injection hh with hh
    injection hh with _ e3
    exact hn e3
/-- A memory that lay there before stays as it is when a row grows. -/
theorem pm_grown {w w' : World} {B n s : Nat} {e : TypeId} {v : Value} {xs : List Value} {b g : Nat} {ws : List Int} (h : Pm w b g ws) (hb : b < B) (hg' : g < B) (ho : w.ownsRow B e s v n xs) (hg : w.grownBy w' v.ownBlock) : Pm w' b g ws := by
  cases hv : v.ownBlock with
  | none => rw [hv] at hg; exact h.below (below_gb hg)
  | some r =>
    have hr := (ho.lt r hv).1
    rw [hv] at hg
    exact h.keep hg (by omega) (by omega)
def lenOf : Value → Nat
  | .slice _ n _ => n
  | _ => 0

section
variable {t : TypeId} {p : Value} {S : List Nat} {I : World → List Int → Nat → Prop} {fl fs fc fa fn : FuncId} {rl rs' rc ra rn : Value}

set_option maxHeartbeats 1600000 in
theorem reset_any (M : MemI t p S I fl fs fc fa fn rl rs' rc ra rn) (base cap : Int) (zs : List Int) (nn : Nat) (w : World) (hI : I w zs nn) :
    Calls Try.prog 27 #[.agg #[.int .i64 base, .int .i64 cap], .iface t p] w fun e w' => e = .returned (.tuple #[]) ∧ (∃ m, I w' (stv (stv zs base 1) (wrap64 (base + 1)) 1) m) ∧ Fr S w w' := by
  have HI := Lib.hid hI
  have HL := Lib.hid (M.lt _ _ _ hI)
  have hms := M.ms
  have hns := M.ns
  have hes := M.es
  clear hI
  have F0 : Fr [] w (w.alloc (.cells #[.int .i64 base, .int .i64 cap] 44)) := (Fr.refl [] w).alloc _
  have HK0 := Lib.hid (Bk.new w 44 [.int .i64 base, .int .i64 cap])
  have HI0 := Lib.hid (M.keep [] _ _ _ _ HI.out F0 (by simp))
  have HF0 := Lib.hid F0
  have HNS := Lib.hid (show w.heap.size ∉ S from fun e => Nat.lt_irrefl _ (HL.out _ e))
  clear F0
  go_enter Try.func27, Try.ntmps27
  go_wp2_with fail
  refine (or_some _ _ _).mono ?_
  rintro e w1 ⟨rfl, hw1⟩
  subst hw1
  go_wp2_with fail
  refine (M.store _ _ _ _ _ HI0.out).mono ?_
  rintro e w2 ⟨rfl, hI2, hF2⟩
  have HI2 := Lib.hid hI2
  have HK2 := Lib.hid (HK0.out.fr hF2 HNS.out)
  have HF2 := Lib.hid ((HF0.out.mono (T := S) (by simp)).trans hF2)
  have r0 : w2.cell? ⟨w.heap.size, 0, none⟩ = some (.int .i64 base) := HK2.out.cell 0
  clear hI2 hF2
  go_wp2_with fail
  refine (M.store _ _ _ _ _ HI2.out).mono ?_
  rintro e w3 ⟨rfl, hI3, hF3⟩
  have HI3 := Lib.hid hI3
  have HF3 := Lib.hid (HF2.out.trans hF3)
  clear hI3 hF3
  go_wp2_with fail
  go_end0
  exact ⟨rfl, ⟨_, HI3.out⟩, HF3.out⟩

/-- The index of number k. -/
def tk (tt : Int) : Nat → Int
  | 0 => tt
  | k + 1 => IntKind.u64.wrap (tk tt k + 1)
/-- The first numbers. -/
def lk (zs : List Int) (base cap tt : Int) : Nat → List Int
  | 0 => []
  | k + 1 => lk zs base cap tt k ++ [ldv zs (placev base cap (tk tt k))]
theorem lk_len (zs : List Int) (base cap tt : Int) (k : Nat) : (lk zs base cap tt k).length = k := by
  induction k with
  | zero => rfl
  | succ k ih => simp [lk, ih]

end

set_option maxHeartbeats 6400000 in
set_option maxRecDepth 100000 in
theorem list_any (mb mg : Nat) (base cap : Int) (zs : List Int) (w : World) (hP : Pm w mb mg zs) :
    Calls Try.prog 21 #[.agg #[.int .i64 base, .int .i64 cap], .iface 24 (.pointer (some ⟨mb, 0, none⟩))] w fun e w' => ∃ v K, e = .returned v ∧ Us w' v (lk zs base cap (ldv zs base) K) ∧ (K : Int) ≤ roomv cap ∧ (∀ j, j < K → abv (ldv zs (wrap64 (base + 1))) (tk (ldv zs base) j) = true) ∧
      ((K : Int) = roomv cap ∨ abv (ldv zs (wrap64 (base + 1))) (tk (ldv zs base) K) = false) ∧ Below w.heap.size w w' := by
  have HP := Lib.hid hP
  have HM1 := Lib.hid hP.1.lt
  have HM2 := Lib.hid hP.2.1.lt
  have hml := m_load ⟨mb, 0, none⟩
  have hnl : ∀ w, (nilAhead 228 24 (.pointer (some ⟨mb, 0, none⟩)) "Load").run Try.prog w = .ok (some false) w := fun w => by kernel_rfl
  have hr := roomv_bd cap
  obtain ⟨i0, hi, hz0, hz1, hz2⟩ := info_parts u64_info
  clear hP
  have F0 : Below w.heap.size w (w.alloc (.cells #[.int .i64 base, .int .i64 cap] 44)).drew := ((Below.refl _ _).alloc (Nat.le_refl _) _).drew
  have HK0 := Lib.hid (Bk.new w 44 [.int .i64 base, .int .i64 cap]).drew
  have HP0 := Lib.hid (HP.out.below F0)
  have HB0 := Lib.hid F0
  clear F0
  go_enter Try.func21, Try.ntmps21
  go_wp2_with fail
  refine (or_some _ _ _).mono ?_
  rintro e w1 ⟨rfl, hw1⟩
  subst hw1
  go_wp2_with fail
  go_region_with (first
    | (refine (load_any _ mb mg zs _ HP1.out).mono ?_; rintro e w2 ⟨rfl, hB2⟩; have HP2 := Lib.hid (HP1.out.below hB2); have HK2 := Lib.hid (HK1.out.below hB2); have HB2 := Lib.hid (bel_then HB1.out hB2); have r0 := HK2.out.cell 0; simp only [List.getElem?_cons_zero] at r0; clear hB2)
    | (refine (load_any _ mb mg zs _ HP0.out).mono ?_; rintro e w1 ⟨rfl, hB1⟩; have HP1 := Lib.hid (HP0.out.below hB1); have HK1 := Lib.hid (HK0.out.below hB1); have HB1 := Lib.hid (bel_then HB0.out hB1); have q0 := HK1.out.cell 0; simp only [List.getElem?_cons_zero] at q0; clear hB1))
  all_goals
    have HT0 := Lib.hid (show tk (ldv zs base) 0 = ldv zs base from rfl)
    go_wp2_with fail
    obtain ⟨wo, rfl⟩ : ∃ wo : World, wo = w2 := ⟨_, rfl⟩
    go_loopw [5, 7] (fun tv lv wr => ∃ k : Nat, (k : Int) ≤ roomv cap ∧ tv = .int .u64 (tk (ldv zs base) k) ∧ wr.ownsRow w.heap.size 28 1 lv k ((lk zs base cap (ldv zs base) k).map (Value.int .u64)) ∧ (∀ j, j < k → abv (ldv zs (wrap64 (base + 1))) (tk (ldv zs base) j) = true) ∧ Below w.heap.size w wr ∧ Pm wr mb mg zs ∧ Bk wr w.heap.size 44 [.int .i64 base, .int .i64 cap])
      (fun _ lv _ => (roomv cap).toNat - lenOf lv)
    case atStart => exact ⟨0, by omega, rfl, World.ownsRow_nil _ _ _ _, fun j hj => absurd hj (Nat.not_lt_zero _), HB2.out, HP2.out, HK2.out⟩
    case round =>
      obtain ⟨k, hk, rfl, hown, hab, hB, hP, hK⟩ := hrel
      obtain ⟨lo, lc, rfl, hl1, hl2⟩ := own_form hown
      have HO := Lib.hid hown
      have HA := Lib.hid hab
      have HB := Lib.hid hB
      have HPr := Lib.hid hP
      have HKr := Lib.hid hK
      have c0 : wr.cell? ⟨w.heap.size, 0, none⟩ = some (.int .i64 base) := hK.cell 0
      have c1 : wr.cell? ⟨w.heap.size, 1, none⟩ = some (.int .i64 cap) := hK.cell 1
      clear hown hab hB hP hK r0 q0
      go_wp2_with fail
      refine (above_any _ _ _).mono ?_
      rintro e w3 ⟨rfl, rfl⟩
      cases hx : abv (ldv zs (wrap64 (base + 1))) (tk (ldv zs base) k) with
      | false =>
        have HX := Lib.hid hx
        clear hx
        go_wp2_with fail
        go_ret
        exact ⟨_, k, rfl, Us.of_owns HO.out, hk, HA.out, .inr HX.out, HB.out⟩
      | true =>
        have HX := Lib.hid hx
        clear hx
        go_wp2_with fail
        refine (room_any _ _).mono ?_
        rintro e w4 ⟨rfl, rfl⟩
        by_cases hlt : (k : Int) < roomv cap
        · have d1 : decide ((k : Int) < roomv cap) = true := by simpa using hlt
          have HBn := Lib.hid ((Below.refl w4.heap.size w4).drew)
          have HPn := Lib.hid (HPr.out.below HBn.out)
          go_wp2_with fail
          go_region_law (first
            | (refine step_append_lies _ (by rfl) _ _ _ (by rfl) w.heap.size 28 i0 (.int .u64 0) 1 8 Try.underlying36 hi hz0 hz1 hz2 rfl (by decide) _ k _ (by rfl) (HO6.out.alloc _) ⟨w6.heap.size, 0, none⟩ 1 1 [.int .u64 (ldv zs (placev base cap (tk (ldv zs base) k)))] (by rfl) (by rfl) (cell_one_new _ _ _) (by simp [Value.oneCell']) (by decide) (by unfold maxLen; omega) (by omega) HS6.out (w6.heap.size + 1) (by simp) ?_; intro g8 cap8 w8 hown8 hgrow8 hat8 hlt8)
            | (go_simp; go_at_call 47; refine (place_any base cap _ _).mono ?_; rintro e w5 ⟨rfl, hB5⟩; have HB5 := Lib.hid (bel_then HBn.out hB5); have HP5 := Lib.hid (HPn.out.below hB5); clear hB5; go_wp2_with fail)
            | (go_simp; refine (load_any _ mb mg zs _ HP5.out).mono ?_; rintro e w6 ⟨rfl, hB6⟩; have HB6 := Lib.hid (bel_then HB5.out hB6); have HP6 := Lib.hid (HP5.out.below hB6); have HO6 := Lib.hid (own_below HO.out (bel_then HB5.out hB6)); have HS6 := Lib.hid (show w.heap.size ≤ (w6.alloc (.cells #[.int .u64 (ldv zs (placev base cap (tk (ldv zs base) k)))] 28)).heap.size by have h1 := HB.out.size; have h2 := (bel_then HB5.out hB6).size; simp; omega); clear hB6; go_wp2_with fail))
          all_goals
            have hsz := HB.out.size
            have hsz6 := HB6.out.size
            have HO8 := Lib.hid (show w8.ownsRow w.heap.size 28 1 (.slice (some ⟨g8, 0, none⟩) (k + 1) cap8) (k + 1) ((lk zs base cap (ldv zs base) (k + 1)).map (Value.int .u64)) by unfold lk; rw [List.map_append]; exact hown8)
            have HB8 := Lib.hid (((HB.out.trans (HB6.out.mono hsz)).alloc (by omega) _).grown hgrow8 (by simp; omega) (fun k hk => (HO.out.lt k hk).1))
            have HP8 := Lib.hid (pm_grown (HP6.out.below ((Below.refl _ _).alloc (Nat.le_refl _) _)) HM1.out HM2.out (HO6.out.alloc _) hgrow8)
            have HK8 := Lib.hid (bk_grown (((HKr.out.below HB6.out)).alloc _) (HO6.out.alloc _) (by decide) hgrow8)
            have HA8 := Lib.hid (show ∀ j, j < k + 1 → abv (ldv zs (wrap64 (base + 1))) (tk (ldv zs base) j) = true from fun j hj => by
              rcases (show j < k ∨ j = k by omega) with h | rfl
              · exact HA.out j h
              · exact HX.out)
            clear hown8 hgrow8 hat8 hlt8
            go_wp2_with fail
            go_roundw
            case rel => exact ⟨k + 1, by omega, rfl, HO8.out, HA8.out, HB8.out, HP8.out, HK8.out⟩
            case measure => simp [lenOf]; omega
        · have d1 : decide ((k : Int) < roomv cap) = false := by simpa using hlt
          go_wp2_with fail
          go_ret
          exact ⟨_, k, rfl, Us.of_owns HO.out, hk, HA.out, .inl (by omega), HB.out⟩

end Go.Proofs.Ytacmlgcoockpcaa
