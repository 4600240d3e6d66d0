/-
  soughlaw30.CellReads: its walk. Written by wip/gen/mkcell7.py.
-/
import Derived.Test.YteheckcflnogbaaCell6
import Derived.Test.YteheckcflnogbaaSame
namespace Go.Proofs.Yteheckcflnogbaa
open Go.RowKit

/-- The words that a cell of q words has when A was put into it. -/
def wants (A : List Nat) (q : Nat) : List Nat := (List.range q).map fun i => A[i]?.getD 0
theorem wants_small {A : List Nat} (h : small64 A) (q : Nat) : small64 (wants A q) := fun z hz => by
  obtain ⟨i, _, rfl⟩ := List.mem_map.1 hz
  exact small_at h i
theorem wants_len (A : List Nat) (q : Nat) : (wants A q).length = q := by simp [wants]
theorem getE_put {A : List Nat} {q : Nat} (hq : q ≤ 5) : getE (putE [0, 0, 0, 0, 0, 0, 0, 99] 1 A q) 1 q = (wants A q).map Int.ofNat ∧ ldv (putE [0, 0, 0, 0, 0, 0, 0, 99] 1 A q) 7 = 99 := by
  rcases (show q = 0 ∨ q = 1 ∨ q = 2 ∨ q = 3 ∨ q = 4 ∨ q = 5 by omega) with rfl | rfl | rfl | rfl | rfl | rfl <;>
    (constructor <;> simp [getE, putE, wants, stv, ldv, wd, wdA, List.range_succ])
theorem sum_put {A : List Nat} {q : Nat} (hq : q ≤ 5) : sumE (fun x y => x ||| y) (List.replicate q 0) [A] = wants A q := by
  rcases (show q = 0 ∨ q = 1 ∨ q = 2 ∨ q = 3 ∨ q = 4 ∨ q = 5 by omega) with rfl | rfl | rfl | rfl | rfl | rfl <;>
    simp [sumE, joinK, wants, List.range_succ, List.replicate]
theorem ns_wants (A : List Nat) (q : Nat) : ((wants A q).map Int.ofNat).map (Value.int .u64) = ns (wants A q) := by unfold ns; rw [List.map_map]; rfl
/-- A Read, k Steps on. -/
def RdI (wL w : World) (rb b g : Nat) (words : Int) (q : Nat) (zs : List Int) (k : Nat) : Prop :=
  ∃ av, Rd w rb 1 1 words av (decide (max q 1 ≤ k)) ((min k q : Nat) : Int) ∧ w.ownsRow wL.heap.size 29 1 av (min k q) ((getE zs 1 (min k q)).map (Value.int .u64)) ∧ Pm w b g zs ∧ Fr [rb] wL w ∧ (min k q = 0 → av = .slice none 0 0)
theorem rdI_step {wL w : World} {rb b g : Nat} {words : Int} {q : Nat} {zs : List Int} {k : Nat} (h : RdI wL w rb b g words q zs k) (hq : cwn words = q) (hq5 : q ≤ 5) (hk : k < max q 1) (hb : b < wL.heap.size ∧ g < wL.heap.size ∧ rb < wL.heap.size) (hrb : rb ≠ b ∧ rb ≠ g) :
    Calls Try.prog 85 #[.pointer (some ⟨rb, 0, none⟩), .iface 64 (.pointer (some ⟨b, 0, none⟩)), .int .i64 0] w fun e w' => e = .returned (.bool (decide (max q 1 ≤ k + 1))) ∧ RdI wL w' rb b g words q zs (k + 1) := by
  obtain ⟨av, hR, hO, hP, hF, h0⟩ := h
  have hs := hF.size
  have step : ∀ (S : List Nat) w', Fr (rb :: rowB av) w w' → Fr [rb] wL w' := fun S w' hf => hF.from hf (fun i hi hl => by
    rcases List.mem_cons.1 hi with rfl | hi
    · simp
    · have := (hO.lt i (rowB_mem.1 hi)).1; omega)
  rw [show decide (max q 1 ≤ k) = false from by simp; omega] at hR
  rcases Nat.eq_zero_or_pos q with rfl | hq1
  · have hk0 : k = 0 := by omega
    subst hk0
    rw [h0 (by omega)] at hR hO
    refine (rdstep_zero 0 1 1 words rb b w (by simpa using hq) (by simpa using hR)).mono ?_
    rintro e w' ⟨rfl, hR', hF'⟩
    exact ⟨rfl, _, by simpa using hR', by simpa using own_fr hO hF' (by simp [Value.ownBlock]), pm_fr5 hP hF' (by simp; exact hrb.1.symm) (by simp; exact hrb.2.symm), hF.from hF' (fun i hi _ => hi), fun _ => rfl⟩
  · rw [show max q 1 = q from by omega] at hk ⊢
    rw [show min k q = k from by omega] at hR hO h0
    have fin : ∀ (e : Ending) (w' : World), (∃ av', e = .returned (.bool (decide (q ≤ k + 1))) ∧ Rd w' rb 1 1 words av' (decide (q ≤ k + 1)) (k + 1 : Nat) ∧ w'.ownsRow wL.heap.size 29 1 av' (k + 1) ((getE zs 1 (k + 1)).map (Value.int .u64)) ∧ Pm w' b g zs ∧ Fr (rb :: rowB av) w w') → e = .returned (.bool (decide (q ≤ k + 1))) ∧ RdI wL w' rb b g words q zs (k + 1) := by
      rintro e w' ⟨av', rfl, hR', hO', hP', hF'⟩
      refine ⟨rfl, av', ?_, ?_, hP', step [] _ hF', fun h => by omega⟩
      · rw [show max q 1 = q from by omega, show min (k + 1) q = k + 1 from by omega]; exact hR'
      · rw [show min (k + 1) q = k + 1 from by omega]; exact hO'
    by_cases hk0 : k = 0
    · exact (rdstep_first 0 1 1 words q k rb b g wL.heap.size av zs w (by decide) hq (by omega) hk hR hO hP ⟨hb.1, hb.2.1, hs⟩ hk0 (h0 hk0)).mono fin
    · exact (rdstep_next 0 1 1 words q k rb b g wL.heap.size av zs w (by decide) hq (by omega) hk hR hO hP ⟨hb.1, hb.2.1, hs⟩ hk0).mono fin

set_option maxHeartbeats 3200000 in
set_option maxRecDepth 100000 in
theorem cellReads_walk (words : Int) (va : Value) (A : List Nat) (W : World) (hA : Ws W va A) (hm : A.length ≤ 9223372036854775807) :
    Calls Try.prog 12 #[.int .i64 words, va] W fun e w' => e = .returned (.bool true) ∧ Below W.heap.size W w' := by
  obtain ⟨pa, ca, rfl⟩ := Ws.len hA
  have HA := Lib.hid hA
  clear hA
  by_cases h1 : 8 < A.length
  · have d1 : decide ((8 : Int) < A.length) = true := by simp; omega
    clear h1
    go_enter Try.func12, Try.ntmps12
    go_wp2_with fail
    refine (awake30_any _).mono ?_
    rintro e w1 ⟨rfl, hB⟩
    have HB1 := Lib.hid hB
    clear hB
    go_wp2_with fail
    go_ret
    exact ⟨rfl, HB1.out⟩
  have d1 : decide ((8 : Int) < A.length) = false := by simp; omega
  by_cases h2 : 5 < words
  · have d2 : decide (5 < words) = true := decide_eq_true h2
    clear h2
    go_enter Try.func12, Try.ntmps12
    go_wp2_with fail
    refine (awake30_any _).mono ?_
    rintro e w1 ⟨rfl, hB⟩
    have HB1 := Lib.hid hB
    clear hB
    go_wp2_with fail
    go_ret
    exact ⟨rfl, HB1.out⟩
  have d2 : decide (5 < words) = false := decide_eq_false h2
  obtain ⟨q, hq⟩ : ∃ q : Nat, cwn words = q := ⟨(cwn words).toNat, by have := cwn_bd words; omega⟩
  have hq5 : q ≤ 5 := by unfold cwn at hq; omega
  have HQ := Lib.hid hq
  clear h2 hq
  go_enter Try.func12, Try.ntmps12
  go_wp2_with fail
  refine (awake30_any _).mono ?_
  rintro e w1 ⟨rfl, hB⟩
  have HB1 := Lib.hid hB
  clear hB
  go_wp2_with fail

  have HBA := Lib.hid (HB1.out.alloc HB1.out.size (.cells #[.int .i64 1, .int .i64 1, .int .i64 words] 120))
  have HC0 := Lib.hid (Bk.new w1 120 [.int .i64 1, .int .i64 1, .int .i64 words])
  have hz0 : (w1.alloc (.cells #[.int .i64 1, .int .i64 1, .int .i64 words] 120)).heap.size = w1.heap.size + 1 := by simp
  generalize (w1.alloc (.cells #[.int .i64 1, .int .i64 1, .int .i64 words] 120)) = W0 at *
  refine (newPlain_any _ _).mono ?_
  rintro e w2 ⟨b, g, rfl, hP, hB, hb, hg⟩
  rw [show List.replicate (memn 8) (0 : Int) = [0, 0, 0, 0, 0, 0, 0, 0] from rfl] at hP
  have HP2 := Lib.hid hP
  have HB2 := Lib.hid (bel_then HBA.out hB)
  have HC2 := Lib.hid (HC0.out.below hB)
  have hws := HB1.out.size
  have HG := Lib.hid (show W.heap.size ≤ g ∧ W.heap.size ≤ b ∧ w1.heap.size < g ∧ w1.heap.size < b from ⟨by omega, by omega, by omega, by omega⟩)
  have HAG := Lib.hid (show ∀ a c, Value.slice pa A.length ca = .slice (some a) A.length c → a.block < W.heap.size ∨ A.length = 0 from fun a c h => by
    obtain ⟨_, ⟨_, h0⟩ | ⟨a', c', h1, hc⟩⟩ := HA.out
    · exact .inr (by rw [h0]; rfl)
    · rw [h1] at h
      injection h with h
      injection h with h
      subst h
      rcases Nat.eq_zero_or_pos A.length with h0 | h0
      · exact .inr h0
      · have := cell_lt (hc 0 h0)
        exact .inl (by simpa [Addr.add] using this))
  clear hP hB hb hg hz0 hws
  go_wp2_with fail
  refine (store_any 7 99 b g _ _ HP2.out).mono ?_
  rintro e w3 ⟨rfl, hP, hK⟩
  rw [show stv [0, 0, 0, 0, 0, 0, 0, 0] 7 99 = [0, 0, 0, 0, 0, 0, 0, 99] from by decide] at hP
  have HP3 := Lib.hid hP
  have HF3 := Lib.hid ((Fr.of (S := []) HB2.out).from (Fr.gb hK (S := [g]) (by simp)) (fun i hi hl => by rw [List.mem_singleton.1 hi] at hl; have := HG.out; omega))
  have HC3 := Lib.hid (HC2.out.keep hK (by have := HG.out; simp; omega))
  clear hP hK
  have q0 : w3.cell? ⟨w1.heap.size, 0, none⟩ = some (.int .i64 1) := HC3.out.cell 0
  have q1 : w3.cell? ⟨w1.heap.size, 1, none⟩ = some (.int .i64 1) := HC3.out.cell 1
  have q2 : w3.cell? ⟨w1.heap.size, 2, none⟩ = some (.int .i64 words) := HC3.out.cell 2
  have HA3 := Lib.hid (HA.out.below HF3.out.below)
  go_wp2_with fail
  refine (put_any 1 1 words _ A b g _ w3 (by decide) HA3.out HP3.out (fun a c h h0 => by have := HAG.out a c h; have := HG.out; omega)).mono ?_
  rintro e w4 ⟨rfl, hP, hF⟩
  rw [HQ.out, Int.toNat_natCast] at hP
  have HP4 := Lib.hid hP
  have HF4 := Lib.hid (HF3.out.from hF (fun i hi hl => by rw [List.mem_singleton.1 hi] at hl; have := HG.out; omega))
  have HC4 := Lib.hid (HC3.out.fr hF (by have := HG.out; simp; omega))
  have HA4 := Lib.hid (HA.out.below HF4.out.below)
  clear hP hF q0 q1 q2
  have q0 : w4.cell? ⟨w1.heap.size, 0, none⟩ = some (.int .i64 1) := HC4.out.cell 0
  have q1 : w4.cell? ⟨w1.heap.size, 1, none⟩ = some (.int .i64 1) := HC4.out.cell 1
  have q2 : w4.cell? ⟨w1.heap.size, 2, none⟩ = some (.int .i64 words) := HC4.out.cell 2
  have HZ := Lib.hid (getE_put (A := A) hq5)
  generalize putE [0, 0, 0, 0, 0, 0, 0, 99] 1 A q = zs at *
  have bL := (Below.refl w4.heap.size w4).alloc (Nat.le_refl _) (.cells #[.int .i64 1, .int .i64 1, .int .i64 words, .slice none 0 0, .bool false, .int .i64 0] 137)
  have HPL := Lib.hid (HP4.out.below bL)
  have HCL := Lib.hid (HC4.out.below bL)
  have HFL := Lib.hid (HF4.out.alloc (.cells #[.int .i64 1, .int .i64 1, .int .i64 words, .slice none 0 0, .bool false, .int .i64 0] 137))
  have HRL := Lib.hid (Bk.new w4 137 [.int .i64 1, .int .i64 1, .int .i64 words, .slice none 0 0, .bool false, .int .i64 0])
  have hzl : (w4.alloc (.cells #[.int .i64 1, .int .i64 1, .int .i64 words, .slice none 0 0, .bool false, .int .i64 0] 137)).heap.size = w4.heap.size + 1 := by simp
  have hgl := HP4.out.2.1.lt
  have hbl := HP4.out.1.lt
  obtain ⟨wL, hwL⟩ : ∃ wL, wL = w4.alloc (.cells #[.int .i64 1, .int .i64 1, .int .i64 words, .slice none 0 0, .bool false, .int .i64 0] 137) := ⟨_, rfl⟩
  rw [← hwL] at HPL HCL HFL hzl bL
  have HRL' := Lib.hid (show Bk wL w4.heap.size 137 [.int .i64 1, .int .i64 1, .int .i64 words, .slice none 0 0, .bool false, .int .i64 0] by rw [hwL]; exact HRL.out)
  have HI0 := Lib.hid (show RdI wL wL w4.heap.size b g words q zs 0 from ⟨.slice none 0 0, by rw [show decide (max q 1 ≤ 0) = false from decide_eq_false (by omega), show min 0 q = 0 from by omega]; all_goals exact HRL'.out, by rw [show min 0 q = 0 from by omega]; all_goals exact World.ownsRow_nil _ _ _ _, HPL.out, Fr.refl _ _, fun _ => rfl⟩)
  have HLT := Lib.hid (show b < wL.heap.size ∧ g < wL.heap.size ∧ w4.heap.size < wL.heap.size from ⟨by omega, by omega, by omega⟩)
  have HNE := Lib.hid (show w4.heap.size ≠ b ∧ w4.heap.size ≠ g from ⟨by omega, by omega⟩)
  have HSZ := Lib.hid (show w1.heap.size < w4.heap.size ∧ W.heap.size ≤ w4.heap.size from ⟨HC4.out.lt, HF4.out.size⟩)
  clear HRL HRL' hzl hgl hbl bL HC0 HC2 HC3 HP2 HP3 HB2 HF3 HA3 HBA HB1
  go_wp2_with fail
  simp only [← hwL]
  clear hwL q0 q1 q2
  refine (rcwords_any _ _).mono ?_
  rintro e w5 ⟨rfl, hww⟩
  subst w5
  rw [HQ.out]
  obtain ⟨rb, hrb⟩ : ∃ rb, rb = w4.heap.size := ⟨_, rfl⟩
  obtain ⟨cb, hcb⟩ : ∃ cb, cb = w1.heap.size := ⟨_, rfl⟩
  rw [← hrb] at HI0 HLT HNE HSZ ⊢
  rw [← hcb] at HCL HSZ ⊢
  clear hrb hcb
  go_wp2_with fail
  · rename_i hq1
    have HN := Lib.hid (show max q 1 = 1 by omega)
    go_loopw [39] (fun i wr => ∃ k : Nat, k ≤ 1 ∧ i = .int .i64 k ∧ RdI wL wr rb b g words q zs k)
      (fun i _ => 1 - (intOf i).toNat)
    case atStart => exact ⟨0, Nat.zero_le _, rfl, HI0.out⟩
    case round =>
      obtain ⟨k, hk, rfl, hI⟩ := hrel
      by_cases hlt : k < 1
      · have HI := Lib.hid hI
        have hki : (k : Int) < 1 := by omega
        clear hI
        go_wp2_with fail
        refine (rdI_step HI.out HQ.out hq5 (by rw [HN.out]; exact hlt) HLT.out HNE.out).mono ?_
        rintro e w6 ⟨rfl, hI'⟩
        have HI' := Lib.hid hI'
        clear hI'
        rw [HN.out]
        have e1 : decide (1 ≤ k + 1) = true := decide_eq_true (by omega)
        have e2 : ((k : Int) == 0) = true := by simp; omega
        rw [e1]
        clear e1
        go_wp2_with fail
        go_roundw
        case rel => exact ⟨k + 1, by omega, by go_num, HI'.out⟩
        case measure => simp [intOf]; omega
      · obtain rfl : k = 1 := by omega
        obtain ⟨av, hR, hO, hP, hF, _⟩ := hI
        rw [HN.out, show decide (1 ≤ 1) = true from by simp, show min 1 q = q from by omega] at hR
        rw [show min 1 q = q from by have := HN.out; omega, HZ.out.1, ns_wants] at hO
        have HO := Lib.hid (show Ow wr wL.heap.size av q (wants A q) from hO)
        have HR := Lib.hid hR
        have HPR := Lib.hid hP
        have HCR := Lib.hid (HCL.out.fr hF (by have := HSZ.out; simp; omega))
        have HFR := Lib.hid (HFL.out.from hF (fun i hi hl => by rw [List.mem_singleton.1 hi] at hl; have := HSZ.out; omega))
        have HAR := Lib.hid (HA.out.below HFR.out.below)
        have HSA := Lib.hid (show small64 A from HA.out.1)
        have HSW := Lib.hid (wants_small HSA.out q)
        have HWL := Lib.hid (wants_len A q)
        have HSUM := Lib.hid (sum_put (A := A) hq5)
        have hmk := make_u64 q q rfl (by omega)
        obtain ⟨oav, cav, rfl⟩ := own_slice hO
        clear hR hO hP hF hlt hk
        go_wp2_with fail
        refine (rcwords_any _ _).mono ?_
        rintro e w6 ⟨rfl, hww⟩
        subst w6
        rw [HQ.out]
        go_wp2_with fail
        obtain ⟨W6, hW6⟩ : ∃ W6, W6 = (wr.alloc (.cells (Array.replicate q (Value.int .u64 0)) 29)).alloc (.cells #[.slice pa A.length ca] 22) := ⟨_, rfl⟩
        have b6 : Below wr.heap.size wr W6 := by rw [hW6]; exact ((Below.refl _ _).alloc (Nat.le_refl _) _).alloc (by simp) _
        have HZ6 := Lib.hid (show Ws W6 (.slice (some ⟨wr.heap.size, 0, none⟩) (List.replicate q 0).length q) (List.replicate q 0) by
          refine ⟨fun z hz => by rw [List.eq_of_mem_replicate hz]; decide, .inr ⟨_, _, rfl, fun i hi => ?_⟩⟩
          rw [List.length_replicate] at hi
          have h1 : Bk W6 wr.heap.size 29 (List.replicate q (Value.int .u64 0)) := by rw [hW6, show Array.replicate q (Value.int .u64 0) = (List.replicate q (Value.int .u64 0)).toArray from by simp]; exact (Bk.new wr 29 _).alloc _
          have := h1.cell i
          rw [Addr.add_lit, Nat.zero_add, this]
          simp [hi])
        have HL6 := Lib.hid (show Lls W6 (.slice (some ⟨wr.heap.size + 1, 0, none⟩) 1 1) [A] by
          refine ⟨_, _, rfl, fun _ => ⟨_, 0, rfl, fun j hj => ⟨.slice pa A.length ca, ?_, ?_⟩⟩⟩
          · obtain rfl : j = 0 := by simp at hj; omega
            have h1 : Bk W6 (wr.heap.size + 1) 22 [.slice pa A.length ca] := by rw [hW6]; exact Bk.new' _ 22 [_] (by simp)
            exact h1.cell 0
          · obtain rfl : j = 0 := by simp at hj; omega
            exact HAR.out.below b6)
        have HO6 := Lib.hid (own_below HO.out b6)
        have HR6 := Lib.hid (HR.out.fr (Fr.of (S := []) b6) (by simp))
        have HP6 := Lib.hid (HPR.out.below b6)
        have HC6 := Lib.hid (HCR.out.below b6)
        have HB6 := Lib.hid (bel_then HFR.out.below b6)
        have HNQ := Lib.hid (List.length_replicate (n := q) (a := (0 : Nat)))
        rw [HNQ.out] at HZ6
        clear b6 hmk
        simp only [← hW6]
        clear hW6
        refine (rsum_any 1 _ _ (List.replicate q 0) [A] (fun x y => x ||| y) W6 HZ6.out ⟨_, _, by rw [HNQ.out]⟩ HL6.out (by rw [HNQ.out]; omega) (by simp) (fun x y hx hy => Nat.or_lt_two_pow (n := 64) hx hy) (fun x y w hx hy => rlmay_any x y w hx hy)).mono ?_
        rintro e w7 ⟨uw, rfl, hW, hB⟩
        rw [HSUM.out] at hW
        obtain ⟨pw, cw, rfl⟩ := Ws.len hW
        have HW7 := Lib.hid hW
        have HO7 := Lib.hid (own_below HO6.out hB)
        have HR7 := Lib.hid (HR6.out.fr (Fr.of (S := []) hB) (by simp))
        have HP7 := Lib.hid (HP6.out.below hB)
        have HC7 := Lib.hid (HC6.out.below hB)
        have HB7 := Lib.hid (bel_then HB6.out hB)
        clear hW hB
        obtain ⟨_, _, _, c3, c4, _⟩ := HR7.out.cells
        have t0 : w7.cell? ⟨cb, 0, none⟩ = some (.int .i64 1) := HC7.out.cell 0
        have t1 : w7.cell? ⟨cb, 1, none⟩ = some (.int .i64 1) := HC7.out.cell 1
        have t2 : w7.cell? ⟨cb, 2, none⟩ = some (.int .i64 words) := HC7.out.cell 2
        have HRA := Lib.hid (Ow.ws HO7.out HWL.out.symm HSW.out)
        have hwl : (wants A q).length ≤ 9223372036854775807 := by rw [HWL.out]; omega
        have HWQ := Lib.hid hwl
        clear hwl
        go_wp2_with fail
        refine (same_any _ _ (wants A q) (wants A q) _ HRA.out HW7.out HWQ.out HWQ.out).mono ?_
        rintro e w8 ⟨rfl, nq, rfl⟩
        rw [show decide (wants A q = wants A q) = true from decide_eq_true rfl]
        have u0 : (w7.drewN nq).cell? ⟨cb, 0, none⟩ = some (.int .i64 1) := t0
        have u1 : (w7.drewN nq).cell? ⟨cb, 1, none⟩ = some (.int .i64 1) := t1
        have u2 : (w7.drewN nq).cell? ⟨cb, 2, none⟩ = some (.int .i64 words) := t2
        have hB8 : Below w7.heap.size w7 (w7.drewN nq) := bel_drewN (Below.refl _ _) nq
        have HW8 := Lib.hid (HW7.out.below hB8)
        have HR8 := Lib.hid (HR7.out.fr (Fr.of (S := []) hB8) (by simp))
        have HP8 := Lib.hid (HP7.out.below hB8)
        have HB8 := Lib.hid (bel_then HB7.out hB8)
        clear hB8 t0 t1 t2 c3 c4
        generalize w7.drewN nq = w8 at *
        go_wp2_with fail
        refine (get_any 1 1 words b g zs w8 (by decide) HP8.out).mono ?_
        rintro e w9 ⟨ug, rfl, hO, hB⟩
        rw [HQ.out, Int.toNat_natCast, HZ.out.1, ns_wants] at hO
        have HG9 := Lib.hid (Ow.ws (show Ow w9 w8.heap.size ug q (wants A q) from hO) HWL.out.symm HSW.out)
        obtain ⟨og, cg, rfl⟩ := own_slice hO
        have HW9 := Lib.hid (HW8.out.below hB)
        have HR9 := Lib.hid (HR8.out.fr (Fr.of (S := []) hB) (by simp))
        have HP9 := Lib.hid (HP8.out.below hB)
        have HB9 := Lib.hid (bel_then HB8.out hB)
        clear hO hB u0 u1 u2
        go_wp2_with fail
        refine (same_any _ _ (wants A q) (wants A q) _ HG9.out HW9.out HWQ.out HWQ.out).mono ?_
        rintro e w10 ⟨rfl, nr, rfl⟩
        rw [show decide (wants A q = wants A q) = true from decide_eq_true rfl]
        have hB10 : Below w9.heap.size w9 (w9.drewN nr) := bel_drewN (Below.refl _ _) nr
        have HR10 := Lib.hid (HR9.out.fr (Fr.of (S := []) hB10) (by simp))
        have HP10 := Lib.hid (HP9.out.below hB10)
        have HB10 := Lib.hid (bel_then HB9.out hB10)
        clear hB10
        generalize w9.drewN nr = w10 at *
        go_wp2_with fail
        refine (load_any 7 b g zs w10 HP10.out).mono ?_
        rintro e w11 ⟨rfl, hB⟩
        rw [HZ.out.2]
        have HR11 := Lib.hid (HR10.out.fr (Fr.of (S := []) hB) (by simp))
        have HB11 := Lib.hid (bel_then HB10.out hB)
        clear hB
        go_wp2_with fail
        refine (rdstep_end 0 1 1 words _ rb _ _ w11 HR11.out).mono ?_
        rintro e w12 ⟨rfl, rfl⟩
        go_wp2_with fail
        refine (rdstep_none 0 _ _).mono ?_
        rintro e w13 ⟨rfl, rfl⟩
        go_wp2_with fail
        refine (jn_none 0 _ _).mono ?_
        rintro e w14 ⟨rfl, rfl⟩
        go_wp2_with fail
        go_ret
        exact ⟨rfl, HB11.out⟩
  · rename_i hq1
    have HN := Lib.hid (show max q 1 = q by omega)
    go_loopw [39] (fun i wr => ∃ k : Nat, k ≤ q ∧ i = .int .i64 k ∧ RdI wL wr rb b g words q zs k)
      (fun i _ => q - (intOf i).toNat)
    case atStart => exact ⟨0, Nat.zero_le _, rfl, HI0.out⟩
    case round =>
      obtain ⟨k, hk, rfl, hI⟩ := hrel
      by_cases hlt : k < q
      · have HI := Lib.hid hI
        have hki : (k : Int) < q := by omega
        clear hI
        go_wp2_with fail
        refine (rdI_step HI.out HQ.out hq5 (by rw [HN.out]; exact hlt) HLT.out HNE.out).mono ?_
        rintro e w6 ⟨rfl, hI'⟩
        have HI' := Lib.hid hI'
        clear hI'
        rw [HN.out]
        by_cases hlast : k + 1 = q
        · have e1 : decide (q ≤ k + 1) = true := by simp; omega
          have e2 : ((k : Int) == (q : Int) - 1) = true := by simp; omega
          rw [e1]
          clear e1 hlast
          go_wp2_with fail
          go_roundw
          case rel => exact ⟨k + 1, by omega, by go_num, HI'.out⟩
          case measure => simp [intOf]; omega
        · have e1 : decide (q ≤ k + 1) = false := by simp; omega
          have e2 : ((k : Int) == (q : Int) - 1) = false := by simp; omega
          rw [e1]
          clear e1 hlast
          go_wp2_with fail
          go_roundw
          case rel => exact ⟨k + 1, by omega, by go_num, HI'.out⟩
          case measure => simp [intOf]; omega
      · have hkn : q = k := by omega
        subst hkn
        obtain ⟨av, hR, hO, hP, hF, _⟩ := hI
        rw [HN.out, show decide (q ≤ q) = true from by simp, show min q q = q from by omega] at hR
        rw [show min q q = q from by omega, HZ.out.1, ns_wants] at hO
        have HO := Lib.hid (show Ow wr wL.heap.size av q (wants A q) from hO)
        have HR := Lib.hid hR
        have HPR := Lib.hid hP
        have HCR := Lib.hid (HCL.out.fr hF (by have := HSZ.out; simp; omega))
        have HFR := Lib.hid (HFL.out.from hF (fun i hi hl => by rw [List.mem_singleton.1 hi] at hl; have := HSZ.out; omega))
        have HAR := Lib.hid (HA.out.below HFR.out.below)
        have HSA := Lib.hid (show small64 A from HA.out.1)
        have HSW := Lib.hid (wants_small HSA.out q)
        have HWL := Lib.hid (wants_len A q)
        have HSUM := Lib.hid (sum_put (A := A) hq5)
        have hmk := make_u64 q q rfl (by omega)
        obtain ⟨oav, cav, rfl⟩ := own_slice hO
        clear hR hO hP hF hlt hk
        go_wp2_with fail
        refine (rcwords_any _ _).mono ?_
        rintro e w6 ⟨rfl, hww⟩
        subst w6
        rw [HQ.out]
        go_wp2_with fail
        obtain ⟨W6, hW6⟩ : ∃ W6, W6 = (wr.alloc (.cells (Array.replicate q (Value.int .u64 0)) 29)).alloc (.cells #[.slice pa A.length ca] 22) := ⟨_, rfl⟩
        have b6 : Below wr.heap.size wr W6 := by rw [hW6]; exact ((Below.refl _ _).alloc (Nat.le_refl _) _).alloc (by simp) _
        have HZ6 := Lib.hid (show Ws W6 (.slice (some ⟨wr.heap.size, 0, none⟩) (List.replicate q 0).length q) (List.replicate q 0) by
          refine ⟨fun z hz => by rw [List.eq_of_mem_replicate hz]; decide, .inr ⟨_, _, rfl, fun i hi => ?_⟩⟩
          rw [List.length_replicate] at hi
          have h1 : Bk W6 wr.heap.size 29 (List.replicate q (Value.int .u64 0)) := by rw [hW6, show Array.replicate q (Value.int .u64 0) = (List.replicate q (Value.int .u64 0)).toArray from by simp]; exact (Bk.new wr 29 _).alloc _
          have := h1.cell i
          rw [Addr.add_lit, Nat.zero_add, this]
          simp [hi])
        have HL6 := Lib.hid (show Lls W6 (.slice (some ⟨wr.heap.size + 1, 0, none⟩) 1 1) [A] by
          refine ⟨_, _, rfl, fun _ => ⟨_, 0, rfl, fun j hj => ⟨.slice pa A.length ca, ?_, ?_⟩⟩⟩
          · obtain rfl : j = 0 := by simp at hj; omega
            have h1 : Bk W6 (wr.heap.size + 1) 22 [.slice pa A.length ca] := by rw [hW6]; exact Bk.new' _ 22 [_] (by simp)
            exact h1.cell 0
          · obtain rfl : j = 0 := by simp at hj; omega
            exact HAR.out.below b6)
        have HO6 := Lib.hid (own_below HO.out b6)
        have HR6 := Lib.hid (HR.out.fr (Fr.of (S := []) b6) (by simp))
        have HP6 := Lib.hid (HPR.out.below b6)
        have HC6 := Lib.hid (HCR.out.below b6)
        have HB6 := Lib.hid (bel_then HFR.out.below b6)
        have HNQ := Lib.hid (List.length_replicate (n := q) (a := (0 : Nat)))
        rw [HNQ.out] at HZ6
        clear b6 hmk
        simp only [← hW6]
        clear hW6
        refine (rsum_any 1 _ _ (List.replicate q 0) [A] (fun x y => x ||| y) W6 HZ6.out ⟨_, _, by rw [HNQ.out]⟩ HL6.out (by rw [HNQ.out]; omega) (by simp) (fun x y hx hy => Nat.or_lt_two_pow (n := 64) hx hy) (fun x y w hx hy => rlmay_any x y w hx hy)).mono ?_
        rintro e w7 ⟨uw, rfl, hW, hB⟩
        rw [HSUM.out] at hW
        obtain ⟨pw, cw, rfl⟩ := Ws.len hW
        have HW7 := Lib.hid hW
        have HO7 := Lib.hid (own_below HO6.out hB)
        have HR7 := Lib.hid (HR6.out.fr (Fr.of (S := []) hB) (by simp))
        have HP7 := Lib.hid (HP6.out.below hB)
        have HC7 := Lib.hid (HC6.out.below hB)
        have HB7 := Lib.hid (bel_then HB6.out hB)
        clear hW hB
        obtain ⟨_, _, _, c3, c4, _⟩ := HR7.out.cells
        have t0 : w7.cell? ⟨cb, 0, none⟩ = some (.int .i64 1) := HC7.out.cell 0
        have t1 : w7.cell? ⟨cb, 1, none⟩ = some (.int .i64 1) := HC7.out.cell 1
        have t2 : w7.cell? ⟨cb, 2, none⟩ = some (.int .i64 words) := HC7.out.cell 2
        have HRA := Lib.hid (Ow.ws HO7.out HWL.out.symm HSW.out)
        have hwl : (wants A q).length ≤ 9223372036854775807 := by rw [HWL.out]; omega
        have HWQ := Lib.hid hwl
        clear hwl
        go_wp2_with fail
        refine (same_any _ _ (wants A q) (wants A q) _ HRA.out HW7.out HWQ.out HWQ.out).mono ?_
        rintro e w8 ⟨rfl, nq, rfl⟩
        rw [show decide (wants A q = wants A q) = true from decide_eq_true rfl]
        have u0 : (w7.drewN nq).cell? ⟨cb, 0, none⟩ = some (.int .i64 1) := t0
        have u1 : (w7.drewN nq).cell? ⟨cb, 1, none⟩ = some (.int .i64 1) := t1
        have u2 : (w7.drewN nq).cell? ⟨cb, 2, none⟩ = some (.int .i64 words) := t2
        have hB8 : Below w7.heap.size w7 (w7.drewN nq) := bel_drewN (Below.refl _ _) nq
        have HW8 := Lib.hid (HW7.out.below hB8)
        have HR8 := Lib.hid (HR7.out.fr (Fr.of (S := []) hB8) (by simp))
        have HP8 := Lib.hid (HP7.out.below hB8)
        have HB8 := Lib.hid (bel_then HB7.out hB8)
        clear hB8 t0 t1 t2 c3 c4
        generalize w7.drewN nq = w8 at *
        go_wp2_with fail
        refine (get_any 1 1 words b g zs w8 (by decide) HP8.out).mono ?_
        rintro e w9 ⟨ug, rfl, hO, hB⟩
        rw [HQ.out, Int.toNat_natCast, HZ.out.1, ns_wants] at hO
        have HG9 := Lib.hid (Ow.ws (show Ow w9 w8.heap.size ug q (wants A q) from hO) HWL.out.symm HSW.out)
        obtain ⟨og, cg, rfl⟩ := own_slice hO
        have HW9 := Lib.hid (HW8.out.below hB)
        have HR9 := Lib.hid (HR8.out.fr (Fr.of (S := []) hB) (by simp))
        have HP9 := Lib.hid (HP8.out.below hB)
        have HB9 := Lib.hid (bel_then HB8.out hB)
        clear hO hB u0 u1 u2
        go_wp2_with fail
        refine (same_any _ _ (wants A q) (wants A q) _ HG9.out HW9.out HWQ.out HWQ.out).mono ?_
        rintro e w10 ⟨rfl, nr, rfl⟩
        rw [show decide (wants A q = wants A q) = true from decide_eq_true rfl]
        have hB10 : Below w9.heap.size w9 (w9.drewN nr) := bel_drewN (Below.refl _ _) nr
        have HR10 := Lib.hid (HR9.out.fr (Fr.of (S := []) hB10) (by simp))
        have HP10 := Lib.hid (HP9.out.below hB10)
        have HB10 := Lib.hid (bel_then HB9.out hB10)
        clear hB10
        generalize w9.drewN nr = w10 at *
        go_wp2_with fail
        refine (load_any 7 b g zs w10 HP10.out).mono ?_
        rintro e w11 ⟨rfl, hB⟩
        rw [HZ.out.2]
        have HR11 := Lib.hid (HR10.out.fr (Fr.of (S := []) hB) (by simp))
        have HB11 := Lib.hid (bel_then HB10.out hB)
        clear hB
        go_wp2_with fail
        refine (rdstep_end 0 1 1 words _ rb _ _ w11 HR11.out).mono ?_
        rintro e w12 ⟨rfl, rfl⟩
        go_wp2_with fail
        refine (rdstep_none 0 _ _).mono ?_
        rintro e w13 ⟨rfl, rfl⟩
        go_wp2_with fail
        refine (jn_none 0 _ _).mono ?_
        rintro e w14 ⟨rfl, rfl⟩
        go_wp2_with fail
        go_ret
        exact ⟨rfl, HB11.out⟩


end Go.Proofs.Yteheckcflnogbaa
