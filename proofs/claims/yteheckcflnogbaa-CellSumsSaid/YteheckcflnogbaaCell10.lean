/-
  soughref30.Get; soughlaw30.few: contracts; one Step of a Join and of the reference's; a reader of [][]uint64. Written by wip/gen/mkcell10.py.
-/
import Derived.Test.YteheckcflnogbaaCell9
import Derived.Test.YteheckcflnogbaaWIn
import Derived.Test.YteheckcflnogbaaOpenS
import Derived.Test.YteheckcflnogbaaTp3
namespace Go.Proofs.Yteheckcflnogbaa
open Go.RowKit

def fewE (words : Int) (A : List Nat) (ls : List (List Nat)) : Bool := ls.all (fun x => decide (x.length ≤ 8)) && ((decide (words ≤ 5) || decide (2000 < words)) && decide (A.length ≤ 8) && decide (ls.length ≤ 5))
theorem few_no {words : Int} {A : List Nat} {ls : List (List Nat)} {k : Nat} (h : k < ls.length) (hk : 8 < (ls[k]?.getD []).length) : fewE words A ls = false := by
  have : ls.all (fun x => decide (x.length ≤ 8)) = false := by
    rw [List.all_eq_false]
    refine ⟨ls[k], List.getElem_mem h, ?_⟩
    rw [List.getElem?_eq_getElem h] at hk
    simp at hk ⊢
    omega
  unfold fewE
  rw [this]
  rfl
theorem few_all {words : Int} {A : List Nat} {ls : List (List Nat)} (h : ∀ k, k < ls.length → (ls[k]?.getD []).length ≤ 8) : fewE words A ls = ((decide (words ≤ 5) || decide (2000 < words)) && decide (A.length ≤ 8) && decide (ls.length ≤ 5)) := by
  have : ls.all (fun x => decide (x.length ≤ 8)) = true := by
    rw [List.all_eq_true]
    intro x hx
    obtain ⟨k, hk, rfl⟩ := List.getElem_of_mem hx
    have := h k hk
    rw [List.getElem?_eq_getElem hk] at this
    simpa using this
  unfold fewE
  rw [this]
  rfl
theorem few_yes {words : Int} {A : List Nat} {ls : List (List Nat)} (h : fewE words A ls = true) : (∀ k, k < ls.length → (ls[k]?.getD []).length ≤ 8) ∧ (words ≤ 5 ∨ 2000 < words) ∧ A.length ≤ 8 ∧ ls.length ≤ 5 := by
  unfold fewE at h
  simp only [Bool.and_eq_true, Bool.or_eq_true, decide_eq_true_eq, List.all_eq_true] at h
  refine ⟨fun k hk => ?_, h.2.1.1, h.2.1.2, h.2.2⟩
  rw [List.getElem?_eq_getElem hk]
  exact h.1 _ (List.getElem_mem hk)

set_option maxHeartbeats 3200000 in
set_option maxRecDepth 100000 in
theorem few30_any (words : Int) (va vl : Value) (A : List Nat) (ls : List (List Nat)) (w : World) (hA : Ws w va A) (hl : Lls w vl ls) (hll : ls.length ≤ 9223372036854775807) :
    Calls Try.prog 78 #[.int .i64 words, va, vl] w fun e w' => e = .returned (.bool (fewE words A ls)) ∧ Below w.heap.size w w' := by
  obtain ⟨pa, ca, rfl⟩ := Ws.len hA
  obtain ⟨ol, cl, rfl, hlc⟩ := hl
  have HL := Lib.hid hlc
  obtain ⟨q, hq⟩ : ∃ q, q = fewE words A ls := ⟨_, rfl⟩
  have HQ := Lib.hid hq
  rw [← hq]
  clear hA hlc hq
  go_enter Try.func78, Try.ntmps78
  go_wp2_with fail
  go_loopw [11] (fun i wr => ∃ k : Nat, k ≤ ls.length ∧ i = .int .i64 k ∧ Hid (∀ j, j < k → (ls[j]?.getD []).length ≤ 8) ∧ wr = w)
    (fun i _ => ls.length - (intOf i).toNat)
  case atStart => exact ⟨0, Nat.zero_le _, rfl, Lib.hid (fun j hj => by omega), rfl⟩
  case round =>
    obtain ⟨k, hk, rfl, HA, rfl⟩ := hrel
    by_cases hlt : k < ls.length
    · obtain ⟨b, off, rfl, hd⟩ := HL.out (by omega)
      obtain ⟨u, c0, hu⟩ := hd k hlt
      obtain ⟨pu, cu, rfl⟩ := Ws.len hu
      have hki : (k : Int) < ls.length := by omega
      clear hd hu
      have HNO := Lib.hid (fun h => few_no (words := words) (A := A) hlt h)
      have HST := Lib.hid (show (ls[k]?.getD []).length ≤ 8 → ∀ j, j < k + 1 → (ls[j]?.getD []).length ≤ 8 from fun h j hj => by
        rcases (show j < k ∨ j = k by omega) with h' | rfl
        · exact HA.out j h'
        · exact h)
      generalize (ls[k]?.getD []).length = m at *
      by_cases hm : 8 < m
      · have hmd : decide ((8 : Int) < m) = true := decide_eq_true (by omega)
        have HV := Lib.hid (HNO.out hm)
        clear hm
        go_wp2_with fail
        go_ret
        exact ⟨ret_bool (by rw [HQ.out, HV.out]), Below.refl _ _⟩
      · have hmd : decide ((8 : Int) < m) = false := decide_eq_false (by omega)
        have HV := Lib.hid (HST.out (by omega))
        clear hm
        go_wp2_with fail
        go_roundw
        case rel => exact ⟨k + 1, by omega, by go_num, HV, trivial⟩
        case measure => simp [intOf]; omega
    · obtain rfl : k = ls.length := by omega
      have HV := Lib.hid (few_all (words := words) (A := A) HA.out)
      have HQ2 := Lib.hid (show q = ((decide (words ≤ 5) || decide (2000 < words)) && decide ((A.length : Int) ≤ 8) && decide ((ls.length : Int) ≤ 5)) by
        rw [HQ.out, HV.out, show decide ((A.length : Int) ≤ 8) = decide (A.length ≤ 8) from decide_eq_decide.2 (by omega), show decide ((ls.length : Int) ≤ 5) = decide (ls.length ≤ 5) from decide_eq_decide.2 (by omega)])
      generalize hq1 : decide (words ≤ 5) = q1 at *
      generalize hq2 : decide (2000 < words) = q2 at *
      generalize hq3 : decide ((A.length : Int) ≤ 8) = q3 at *
      generalize hq4 : decide ((ls.length : Int) ≤ 5) = q4 at *
      cases q1 <;> cases q2 <;> cases q3 <;> cases q4
      all_goals
        go_wp2_with fail
        go_ret
        exact ⟨ret_bool (by rw [HQ2.out]; rfl), Below.refl _ _⟩

set_option maxHeartbeats 3200000 in
set_option maxRecDepth 100000 in
theorem rget30_any (bs n : Int) (q : Nat) (b g : Nat) (zs : List Int) (w : World) (hbs : 0 ≤ bs ∧ bs ≤ 1000) (hq : cwn n = q) (hq2 : q ≤ 1024) (hm : Rm w b g zs) :
    Calls Try.prog 84 #[.pointer (some ⟨b, 0, none⟩), .int .i64 bs, .int .i64 n] w fun e w' => ∃ v', e = .returned v' ∧ w'.ownsRow w.heap.size 29 1 v' q ((getE zs bs q).map (Value.int .u64)) ∧ Rm w' b g zs ∧ Fr [g] w w' := by
  obtain ⟨i0, hi, hz0, hz1, hz2⟩ := info_parts u6_info
  have HM := Lib.hid hm
  have HQ := Lib.hid hq
  have HLT := Lib.hid (show b < w.heap.size ∧ g < w.heap.size from ⟨hm.1.lt, hm.2.1.lt⟩)
  obtain ⟨hb0, hb1⟩ := hbs
  clear hm hq
  go_enter Try.func84, Try.ntmps84
  go_wp2_with fail
  go_loopw [7, 8] (fun v i wr => ∃ k : Nat, k ≤ q ∧ i = .int .i64 k ∧ wr.ownsRow w.heap.size 29 1 v k ((getE zs bs k).map (Value.int .u64)) ∧ Rm wr b g zs ∧ Fr [g] w wr)
    (fun _ i _ => q - (intOf i).toNat)
  case atStart => exact ⟨0, Nat.zero_le _, rfl, World.ownsRow_nil _ _ _ _, HM.out, Fr.refl _ _⟩
  case round =>
    clear HM
    obtain ⟨k, hk, rfl, hO, hM, hF⟩ := hrel
    have HO := Lib.hid hO
    have HM := Lib.hid hM
    have HF := Lib.hid hF
    clear hO hM hF
    by_cases hlt : k < q
    · have hsum : wrap64 (bs + k) = bs + k := by rw [← IntWalk.i64_left]; exact IntWalk.i64_in _ (by omega)
      have HE := Lib.hid (getE_succ zs bs k)
      have hki : (k : Int) < q := by omega
      go_wp2_with fail
      refine (rcwords_any _ _).mono ?_
      rintro e w1 ⟨rfl, hww⟩
      subst w1
      rw [HQ.out]
      go_wp2_with fail
      refine (rload27_any (bs + k) b g zs _ HM.out).mono ?_
      rintro e w2 ⟨rfl, hM2, hF2⟩
      have HM2 := Lib.hid hM2
      have HO2 := Lib.hid (own_fr HO.out hF2 (fun j hj hm => by
        have := (HO.out.lt j hj).1
        rw [List.mem_singleton.1 hm] at this
        have := HLT.out.2
        omega))
      have HF2 := Lib.hid (HF.out.trans hF2)
      clear hM2 hF2
      generalize ldv zs (bs + k) = y at *
      go_wp2_with (at_builtin; refine wpList_append_own _ rfl _ _ 22 rfl w.heap.size 29 i0 (.int .u64 0) 1 8 Try.underlying22 hi hz0 hz1 hz2 rfl (by decide) _ _ _ rfl (HO2.out.alloc _) ⟨w2.heap.size, 0, none⟩ 1 1 [.int .u64 y] rfl rfl ?c1 ?c2 ?c3 ?c4 ?c5 ?_)
      case c1 => exact cell_new1 _ _ _
      case c2 => simp [Value.oneCell']
      case c3 => unfold maxLen; omega
      case c4 => omega
      case c5 => have := HF2.out.size; simp; omega
      intro v' w3 hown' hgrow _
      have HO3 := Lib.hid (show w3.ownsRow w.heap.size 29 1 v' (k + 1) ((getE zs bs (k + 1)).map (Value.int .u64)) by rw [HE.out, List.map_append]; exact hown')
      have hfg := fr_grown hgrow
      have HM3 := Lib.hid (rmfr HM2.out hfg (fun hm => by have := (HO2.out.lt b (rowB_mem.1 hm)).1; have := HLT.out.1; omega) (fun hm => by have := (HO2.out.lt g (rowB_mem.1 hm)).1; have := HLT.out.2; omega))
      have HF3 := Lib.hid (HF2.out.from hfg (fun i hi hl => by have := (HO2.out.lt i (rowB_mem.1 hi)).1; omega))
      clear hown' hgrow hfg
      go_wp2_with fail
      go_roundw
      case rel => exact ⟨k + 1, by omega, by go_num, HO3.out, HM3.out, HF3.out⟩
      case measure => simp [intOf]; omega
    · obtain rfl : k = q := by omega
      go_wp2_with fail
      refine (rcwords_any _ _).mono ?_
      rintro e w1 ⟨rfl, hww⟩
      subst w1
      rw [HQ.out]
      go_wp2_with fail
      go_ret
      exact ⟨_, rfl, HO.out, HM.out, HF.out⟩

/-- One Step of a Join, and of the reference's: its state, the words behind it. -/
def jnX (q : Nat) (f : Nat → Nat → Nat) (A : List Nat) (bs : Int) (x : JnS) (zs : List Int) : JnS :=
  if x.en = true then x else if q ≤ x.k then { x with en := true }
  else if x.tr = true then (if casb zs (bs + x.k) x.was = true then ⟨true, decide (q ≤ x.k + 1), x.tries, x.k + 1, x.was, false⟩ else ⟨x.ch, false, x.tries + 1, x.k, x.was, false⟩)
  else if f (ldv zs (bs + x.k)).toNat (A[x.k]?.getD 0) = (ldv zs (bs + x.k)).toNat then ⟨x.ch, decide (q ≤ x.k + 1), x.tries, x.k + 1, (ldv zs (bs + x.k)).toNat, false⟩ else ⟨x.ch, false, x.tries, x.k, (ldv zs (bs + x.k)).toNat, true⟩
def jnZ (q : Nat) (f : Nat → Nat → Nat) (A : List Nat) (bs : Int) (x : JnS) (zs : List Int) : List Int :=
  if x.en = true then zs else if q ≤ x.k then zs
  else if x.tr = true then casv zs (bs + x.k) x.was (f x.was (A[x.k]?.getD 0) : Nat) else zs
def OkJ (q t : Nat) (x : JnS) : Prop := (0 ≤ x.tries ∧ x.tries ≤ t) ∧ x.was < 18446744073709551616 ∧ (x.en = false → q ≤ x.k → q = 0 ∧ x.k = 0 ∧ x.tr = false)
theorem jnX_ok {q t : Nat} {f : Nat → Nat → Nat} {A : List Nat} {bs : Int} {x : JnS} {zs : List Int} (h : OkJ q t x) (hz : w64 zs) : OkJ q (t + 1) (jnX q f A bs x zs) := by
  obtain ⟨⟨h1, h2⟩, h3, h4⟩ := h
  have hl := w64_ld hz (bs + x.k)
  unfold jnX
  repeat' split
  all_goals
    refine ⟨?_, ?_, ?_⟩
    · constructor <;> ((try dsimp only); omega)
    · (try dsimp only); omega
    · (try dsimp only)
      intro he hk
      first
        | (exfalso; simp at he; omega)
        | (exfalso; omega)
        | (exfalso; simp_all; done)
theorem jnZ_len (q : Nat) (f : Nat → Nat → Nat) (A : List Nat) (bs : Int) (x : JnS) (zs : List Int) : (jnZ q f A bs x zs).length = zs.length := by
  unfold jnZ casv
  repeat' split
  all_goals first | rfl | exact st_len _ _ _
theorem jnZ_64 {q : Nat} {f : Nat → Nat → Nat} {A : List Nat} {bs : Int} {x : JnS} {zs : List Int} (hf : ∀ x y, x < 18446744073709551616 → y < 18446744073709551616 → f x y < 18446744073709551616) (hA : small64 A) (hx : x.was < 18446744073709551616) (hz : w64 zs) : w64 (jnZ q f A bs x zs) := by
  have hff := hf _ _ hx (small_at hA x.k)
  unfold jnZ casv
  repeat' split
  all_goals first | exact hz | exact w64_st hz _ _ (by omega)

set_option maxHeartbeats 3200000 in
set_option maxRecDepth 100000 in
theorem pj_any (bs wh n : Int) (q t : Nat) (jb b g : Nat) (av : Value) (A : List Nat) (zs : List Int) (x : JnS) (w : World) (hbs : 0 ≤ bs ∧ bs ≤ 1000) (hq : cwn n = q) (hq2 : q ≤ 1024) (ht : t ≤ 100000) (hA : Ws w av A) (hAj : ∀ a c, av = .slice (some a) A.length c → 0 < A.length → a.block ≠ jb ∧ a.block ≠ g) (hm : Pm w b g zs) (hz : w64 zs) (hok : OkJ q t x) (hJ : Jn w jb bs wh n av x) (f : Nat → Nat → Nat) (hf : ∀ (x y : Nat) (w : World), x < 18446744073709551616 → y < 18446744073709551616 → Calls Try.prog 30 #[.int .i64 wh, .int .u64 x, .int .u64 y] w fun e w' => e = .returned (.int .u64 (f x y : Nat)) ∧ Below w.heap.size w w') :
    Calls Try.prog 81 #[.pointer (some ⟨jb, 0, none⟩), .iface 64 (.pointer (some ⟨b, 0, none⟩)), .int .i64 0] w fun e w' => e = .returned (.bool (jnX q f A bs x zs).en) ∧ Jn w' jb bs wh n av (jnX q f A bs x zs) ∧ Pm w' b g (jnZ q f A bs x zs) ∧ Fr [jb, g] w w' := by
  have hl := w64_ld hz (bs + x.k)
  have hy64 := small_at (show small64 A from hA.1) x.k
  obtain ⟨ch, en, tries, k, was, tr⟩ := x
  obtain ⟨⟨ht0, ht1⟩, hw64, hend⟩ := hok
  dsimp only at ht0 ht1 hw64 hend hl hy64 ⊢
  have hb1 : jb ≠ b := Bk.ne hJ hm.1 (by decide)
  have hb2 : jb ≠ g := Bk.ne hJ hm.2.1 (by decide)
  cases en with
  | true =>
    refine (jn_end 0 bs wh n jb av _ _ w hJ rfl).mono ?_
    rintro e w' ⟨rfl, rfl⟩
    exact ⟨rfl, hJ, hm, Fr.refl _ _⟩
  | false =>
    by_cases hk : q ≤ k
    · obtain ⟨rfl, rfl, rfl⟩ := hend rfl hk
      refine (jn_over 0 bs wh n jb b av ch tries was w (by simpa using hq) hJ).mono ?_
      rintro e w' ⟨rfl, h2, h3⟩
      exact ⟨rfl, h2, ⟨hm.1.fr h3 (by simp; exact fun e => hb1 e.symm), hm.2.1.fr h3 (by simp; exact fun e => hb2 e.symm), hm.2.2⟩, h3.mono (by simp)⟩
    have hkq : k < q := by omega
    cases tr with
    | true =>
      cases hc : casb zs (bs + k) was with
      | true =>
        have e1 : jnX q f A bs ⟨ch, false, tries, k, was, true⟩ zs = ⟨true, decide (q ≤ k + 1), tries, k + 1, was, false⟩ := by unfold jnX; simp [hk, hc]
        have e2 : jnZ q f A bs ⟨ch, false, tries, k, was, true⟩ zs = casv zs (bs + k) was (f was (A[k]?.getD 0) : Nat) := by unfold jnZ; simp [hk]
        rw [e1, e2]
        exact jn_hit 0 bs wh n q jb b g av A zs ch tries k w hbs hq hq2 hkq hA (fun a c h h0 => (hAj a c h h0).1) hm was _ hJ hw64 rfl hy64 f hf hc
      | false =>
        have e1 : jnX q f A bs ⟨ch, false, tries, k, was, true⟩ zs = ⟨ch, false, tries + 1, k, was, false⟩ := by unfold jnX; simp [hk, hc]
        have e2 : jnZ q f A bs ⟨ch, false, tries, k, was, true⟩ zs = zs := by unfold jnZ casv; simp [hk, hc]
        rw [e1, e2]
        exact jn_miss 0 bs wh n q jb b g av A zs ch tries k w hbs hq hq2 hkq hA (fun a c h h0 => (hAj a c h h0).1) hm was _ hJ hw64 rfl hy64 f hf hc ⟨by omega, by omega⟩
    | false =>
      obtain ⟨v, hv⟩ : ∃ v : Nat, ldv zs (bs + k) = (v : Int) := ⟨(ldv zs (bs + k)).toNat, by omega⟩
      have hv64 : v < 18446744073709551616 := by omega
      by_cases hd : f v (A[k]?.getD 0) = v
      · have e1 : jnX q f A bs ⟨ch, false, tries, k, was, false⟩ zs = ⟨ch, decide (q ≤ k + 1), tries, k + 1, v, false⟩ := by unfold jnX; simp [hk, hv, hd]
        have e2 : jnZ q f A bs ⟨ch, false, tries, k, was, false⟩ zs = zs := by unfold jnZ; simp [hk]
        rw [e1, e2]
        refine (jn_same 0 bs wh n q jb b g av A zs ch tries k was w hbs hq hq2 hkq hA (fun a c h h0 => (hAj a c h h0).1) hm hJ v _ hv hv64 rfl hy64 f hf hd).mono ?_
        rintro e w' ⟨rfl, h1, h2, h3⟩
        exact ⟨rfl, h1, h2, h3.mono (by simp)⟩
      · have e1 : jnX q f A bs ⟨ch, false, tries, k, was, false⟩ zs = ⟨ch, false, tries, k, v, true⟩ := by unfold jnX; simp [hk, hv, hd]
        have e2 : jnZ q f A bs ⟨ch, false, tries, k, was, false⟩ zs = zs := by unfold jnZ; simp [hk]
        rw [e1, e2]
        refine (jn_look 0 bs wh n q jb b g av A zs ch tries k was w hbs hq hq2 hkq hA (fun a c h h0 => (hAj a c h h0).1) hm hJ v _ hv hv64 rfl hy64 f hf hd).mono ?_
        rintro e w' ⟨rfl, h1, h3⟩
        exact ⟨rfl, h1, ⟨hm.1.fr h3 (by simp; exact fun e => hb1 e.symm), hm.2.1.fr h3 (by simp; exact fun e => hb2 e.symm), hm.2.2⟩, h3.mono (by simp)⟩

set_option maxHeartbeats 3200000 in
set_option maxRecDepth 100000 in
theorem rj_any (bs wh n : Int) (q t : Nat) (jb b g : Nat) (av : Value) (A : List Nat) (zs : List Int) (x : JnS) (w : World) (hbs : 0 ≤ bs ∧ bs ≤ 1000) (hq : cwn n = q) (hq2 : q ≤ 1024) (ht : t ≤ 100000) (hA : Ws w av A) (hAj : ∀ a c, av = .slice (some a) A.length c → 0 < A.length → a.block ≠ jb ∧ a.block ≠ g) (hm : Rm w b g zs) (hz : w64 zs) (hok : OkJ q t x) (hJ : Rj w jb bs wh n av x) (f : Nat → Nat → Nat) (hf : ∀ (x y : Nat) (w : World), x < 18446744073709551616 → y < 18446744073709551616 → Calls Try.prog 31 #[.int .i64 wh, .int .u64 x, .int .u64 y] w fun e w' => e = .returned (.int .u64 (f x y : Nat)) ∧ Below w.heap.size w w') :
    Calls Try.prog 82 #[.pointer (some ⟨jb, 0, none⟩), .pointer (some ⟨b, 0, none⟩)] w fun e w' => e = .returned (.bool (jnX q f A bs x zs).en) ∧ Rj w' jb bs wh n av (jnX q f A bs x zs) ∧ Rm w' b g (jnZ q f A bs x zs) ∧ Fr [jb, g] w w' := by
  have hl := w64_ld hz (bs + x.k)
  have hy64 := small_at (show small64 A from hA.1) x.k
  obtain ⟨ch, en, tries, k, was, tr⟩ := x
  obtain ⟨⟨ht0, ht1⟩, hw64, hend⟩ := hok
  dsimp only at ht0 ht1 hw64 hend hl hy64 ⊢
  have hb1 : jb ≠ b := Bk.ne hJ hm.1 (by decide)
  have hb2 : jb ≠ g := Bk.ne hJ hm.2.1 (by decide)
  cases en with
  | true =>
    refine (rj_end bs wh n jb av _ _ w hJ rfl).mono ?_
    rintro e w' ⟨rfl, h2, h3⟩
    exact ⟨rfl, h2, rmfr hm h3 (by simp; exact fun e => hb1 e.symm) (by simp; exact fun e => hb2 e.symm), h3.mono (by simp)⟩
  | false =>
    by_cases hk : q ≤ k
    · obtain ⟨rfl, rfl, rfl⟩ := hend rfl hk
      refine (rj_over bs wh n jb av _ ch tries was w (by simpa using hq) hJ).mono ?_
      rintro e w' ⟨rfl, h2, h3⟩
      exact ⟨rfl, h2, rmfr hm h3 (by simp; exact fun e => hb1 e.symm) (by simp; exact fun e => hb2 e.symm), h3.mono (by simp)⟩
    have hkq : k < q := by omega
    cases tr with
    | true =>
      cases hc : casb zs (bs + k) was with
      | true =>
        have e1 : jnX q f A bs ⟨ch, false, tries, k, was, true⟩ zs = ⟨true, decide (q ≤ k + 1), tries, k + 1, was, false⟩ := by unfold jnX; simp [hk, hc]
        have e2 : jnZ q f A bs ⟨ch, false, tries, k, was, true⟩ zs = casv zs (bs + k) was (f was (A[k]?.getD 0) : Nat) := by unfold jnZ; simp [hk]
        rw [e1, e2]
        exact rj_hit bs wh n q jb b g av A zs ch tries k was w hbs hq hq2 hkq hA hAj hm hw64 _ rfl hy64 f hf hJ hc
      | false =>
        have e1 : jnX q f A bs ⟨ch, false, tries, k, was, true⟩ zs = ⟨ch, false, tries + 1, k, was, false⟩ := by unfold jnX; simp [hk, hc]
        have e2 : jnZ q f A bs ⟨ch, false, tries, k, was, true⟩ zs = zs := by unfold jnZ casv; simp [hk, hc]
        rw [e1, e2]
        exact rj_miss bs wh n q jb b g av A zs ch tries k was w hbs hq hq2 hkq hA hAj hm hw64 _ rfl hy64 f hf hJ hc ⟨by omega, by omega⟩
    | false =>
      obtain ⟨v, hv⟩ : ∃ v : Nat, ldv zs (bs + k) = (v : Int) := ⟨(ldv zs (bs + k)).toNat, by omega⟩
      have hv64 : v < 18446744073709551616 := by omega
      by_cases hd : f v (A[k]?.getD 0) = v
      · have e1 : jnX q f A bs ⟨ch, false, tries, k, was, false⟩ zs = ⟨ch, decide (q ≤ k + 1), tries, k + 1, v, false⟩ := by unfold jnX; simp [hk, hv, hd]
        have e2 : jnZ q f A bs ⟨ch, false, tries, k, was, false⟩ zs = zs := by unfold jnZ; simp [hk]
        rw [e1, e2]
        exact rj_same bs wh n q jb b g av A zs ch tries k was w hbs hq hq2 hkq hA hAj hm hw64 _ rfl hy64 f hf hJ v hv hv64 hd
      · have e1 : jnX q f A bs ⟨ch, false, tries, k, was, false⟩ zs = ⟨ch, false, tries, k, v, true⟩ := by unfold jnX; simp [hk, hv, hd]
        have e2 : jnZ q f A bs ⟨ch, false, tries, k, was, false⟩ zs = zs := by unfold jnZ; simp [hk]
        rw [e1, e2]
        exact rj_look bs wh n q jb b g av A zs ch tries k was w hbs hq hq2 hkq hA hAj hm hw64 _ rfl hy64 f hf hJ v hv hv64 hd

theorem list1c {α : Type _} {l : List α} (h : l.length = 1) : ∃ a, l = [a] := by
  match l, h with
  | [a], _ => exact ⟨a, rfl⟩
theorem words_in30 {H : Type} {enc : TypeId × Value → H} {w : World} {base : Nat} {spare : Nat → Bool} {held : Bool} {fuel : Nat} {u : Value} {x : DataW H × List MemPlace}
    (h : DataW.trod enc Try.prog w base spare held fuel 22 [u] = some x) : ∃ L, Ws w u L := by
  rcases Go.Deep.open_slice Try.underlying22 h with h1 | ⟨a, len, cap, m, k, D, Pl, hcs, _⟩
  · have h1 := h1.1
    simp only [List.cons.injEq, and_true] at h1
    subst h1
    obtain ⟨L, hL, _⟩ := words_of h
    exact ⟨L, hL⟩
  · simp only [List.cons.injEq, and_true] at hcs
    subst hcs
    obtain ⟨L, hL, _⟩ := words_of h
    exact ⟨L, hL⟩
set_option maxRecDepth 100000 in
theorem lls_of {H : Type} {enc : TypeId × Value → H} {w : World} {base : Nat} {spare : Nat → Bool} {held : Bool} {fuel : Nat} {o : Option Addr} {n c : Nat} {x : DataW H × List MemPlace}
    (h : DataW.trod enc Try.prog w base spare held fuel 116 [.slice o n c] = some x) : ∃ L, Lls w (.slice o n c) L ∧ L.length ≤ maxLen := by
  rcases Go.Deep.open_slice Try.underlying116 h with h | ⟨a, len, cap, m, k, D, Pl, hcs, hb, hl, hm, hmm, hx, hi⟩
  · have h := h.1
    simp only [List.cons.injEq, Value.slice.injEq, and_true] at h
    obtain ⟨rfl, rfl, rfl⟩ := h
    exact ⟨[], ⟨none, 0, rfl, by simp⟩, by simp⟩
  · simp only [List.cons.injEq, Value.slice.injEq, and_true] at hcs
    obtain ⟨rfl, rfl, rfl⟩ := hcs
    have hC : Try.prog.cellsOf 22 = 1 := by kernel_rfl
    have hx : ∀ i, ∃ t : List Nat, (i < n → a.spot = none ∧ ∃ u, w.cell? ⟨a.block, a.off + i, none⟩ = some u ∧ Ws w u t) := fun i => by
      by_cases hlt : i < n
      · have hn : n ≤ m := by rw [hmm]; split <;> omega
        have hsp : a.spot = none := by
          obtain ⟨cs', hc, ht'⟩ := hi 0 (by omega)
          rw [hC] at hc
          obtain ⟨_, hcl, hat⟩ := World.cells?_some hc
          have hfirst := hat 0 (by omega)
          rw [List.getElem?_eq_getElem (by omega)] at hfirst
          have := spot_of hfirst
          simpa [Addr.add] using this
        obtain ⟨cs', hc, ht'⟩ := hi i (by omega)
        rw [hC] at hc
        obtain ⟨_, hcl, hat⟩ := World.cells?_some hc
        obtain ⟨u, rfl⟩ := list1c hcl
        obtain ⟨L, hL⟩ := words_in30 ht'
        have hfirst := hat 0 (by omega)
        rw [Go.Deep.add_add, add_plain _ _ hsp] at hfirst
        exact ⟨L, fun _ => ⟨hsp, u, by simpa using hfirst, hL⟩⟩
      · exact ⟨[], fun h => absurd h hlt⟩
    refine ⟨(List.range n).map fun i => (hx i).choose, ⟨some a, c, by simp, fun h0 => ?_⟩, by simp; omega⟩
    have hsp : a.spot = none := ((hx 0).choose_spec (by simpa using h0)).1
    refine ⟨a.block, a.off, by cases a; simp at hsp; subst hsp; rfl, fun j hj => ?_⟩
    have hj' : j < n := by simpa using hj
    have e : ((List.range n).map fun i => (hx i).choose)[j]?.getD [] = (hx j).choose := by
      rw [List.getElem?_map, List.getElem?_range hj']
      rfl
    rw [e]
    exact ((hx j).choose_spec hj').2


end Go.Proofs.Yteheckcflnogbaa
