/-
  soughlaw27.DequeList: the walk.
-/
import Derived.Test.YtacmlgcoockpcaaFinish
import Derived.Test.YtacmlgcoockpcaaOwU
import Derived.Deep.QuietTactic
import Derived.BigQuiet
namespace Go.Proofs.Ytacmlgcoockpcaa
open Go.RowKit

structure ActT where
  kind : Int
  n : Int
  steps : Int
def actAt (L : List ActT) (j : Nat) : ActT := L[j]?.getD ⟨0, 0, 0⟩
/-- A slice reads as a list of acts. -/
def Acts (w : World) (v : Value) (L : List ActT) : Prop :=
  ∃ o c, v = .slice o L.length c ∧ L.length ≤ c ∧ (0 < L.length → ∃ b off, o = some ⟨b, off, none⟩ ∧ ∀ j, j < L.length →
    w.cell? ⟨b, off + j * 3, none⟩ = some (.int .i64 (actAt L j).kind) ∧ w.cell? ⟨b, off + j * 3 + 1, none⟩ = some (.int .u64 (actAt L j).n) ∧ w.cell? ⟨b, off + j * 3 + 2, none⟩ = some (.int .u8 (actAt L j).steps))

/-- The words of a deque just laid out. -/
theorem inv_new (room : Int) (R : Nat) (hR : (R : Int) = roomv room) : Inv (stv (stv (List.replicate (memn (2 + roomv room)) 0) 0 1) (wrap64 (0 + 1)) 1) R 1 1 [] := by
  have hb := roomv_bd room
  have hm : memn (2 + roomv room) = 2 + R := by unfold memn; omega
  have e1 : wrap64 ((0 : Int) + 1) = ((1 : Nat) : Int) := by rw [w64 _ (by omega)]; rfl
  rw [hm, e1]
  refine ⟨by rw [stv_len, stv_len]; simp, by omega, by omega, ?_, ?_, by simp, by simp, by omega, by omega, fun i hi => by simp at hi⟩
  · rw [ldv_ne _ _ _ _ (by omega)]
    exact ldv_same _ 0 _ (by simp; omega)
  · exact ldv_same _ 1 _ (by rw [stv_len]; simp; omega)

theorem nil_or_snoc (l : List Int) : l = [] ∨ ∃ l0 x, l = l0 ++ [x] := by
  rcases List.eq_nil_or_concat l with h | ⟨l0, x, h⟩
  · exact .inl h
  · exact .inr ⟨l0, x, by rw [h, List.concat_eq_append]⟩

theorem machine_made (w : World) (ac pc : List Value) (ta tp : TypeId) :
    Fr [] w ((w.alloc (.cells ac.toArray ta)).alloc (.cells pc.toArray tp)) ∧ Bk ((w.alloc (.cells ac.toArray ta)).alloc (.cells pc.toArray tp)) w.heap.size ta ac ∧
    Bk ((w.alloc (.cells ac.toArray ta)).alloc (.cells pc.toArray tp)) (w.heap.size + 1) tp pc ∧ ((w.alloc (.cells ac.toArray ta)).alloc (.cells pc.toArray tp)).heap.size = w.heap.size + 2 :=
  ⟨((Fr.refl [] w).alloc _).alloc _, (Bk.new w ta ac).alloc _, Bk.new' _ tp pc (by simp), by simp⟩

theorem fr_of_gb {w w' : World} {r : Option Nat} (h : w.grownBy w' r) : Fr r.toList w w' := ⟨h.os, h.tape, h.output, h.size, fun k hk hn => h.block k hk (fun e => hn (by simp [← e]))⟩
theorem OwU.not_own {w : World} {B : Nat} {t : TypeId} {v : Value} {zs : List Int} (h : OwU w B t v zs) {s : Nat} (hs : s < B) : s ∉ v.ownBlock.toList := fun hm => by
  have := h.lt s (by simpa using hm)
  omega
set_option maxHeartbeats 6400000 in
set_option maxRecDepth 100000 in
theorem dequeList_walk (room : Int) (v : Value) (L : List ActT) (W : World) (hL : Acts W v L) :
    Calls Try.prog 5 #[.int .i64 room, v] W fun e w' => e = .returned (.bool true) ∧ Below W.heap.size W w' := by
  obtain ⟨i0, hi, hz0, hz1, hz2⟩ := info_parts u64_info
  have HL := Lib.hid hL
  obtain ⟨o, c, rfl, hle, hcd⟩ := hL
  have HCD := Lib.hid hcd
  clear hcd
  by_cases h1 : 60 < L.length
  · have d1 : decide ((60 : Int) < L.length) = true := by simp; omega
    clear h1
    go_enter Try.func5, Try.ntmps5
    go_wp2_with fail
    refine (awake27_any _).mono ?_
    rintro e w1 ⟨rfl, hB⟩
    go_wp2_with fail
    go_ret
    exact ⟨rfl, hB⟩
  have d1 : decide ((60 : Int) < L.length) = false := by simp; omega
  have hr := roomv_bd room
  obtain ⟨R, hR⟩ : ∃ R : Nat, (R : Int) = roomv room := ⟨(roomv room).toNat, by omega⟩
  have HR := Lib.hid hR
  clear hR
  go_enter Try.func5, Try.ntmps5
  go_wp2_with fail
  refine (awake27_any _).mono ?_
  rintro e w1 ⟨rfl, hB⟩
  have HF1 := Lib.hid (show Fr [] W w1 from .of hB)
  clear hB
  go_wp2_with fail
  refine (words_any _ _).mono ?_
  rintro e w2 ⟨rfl, hw2⟩
  subst hw2
  go_wp2_with fail
  have F2 : Fr [] w1 (w1.alloc (.cells #[.int .i64 0, .int .i64 room] 44)) := (Fr.refl [] w1).alloc _
  have HD2 := Lib.hid (Bk.new w1 44 [.int .i64 0, .int .i64 room])
  have HF2 := Lib.hid (HF1.out.trans F2)
  clear F2
  refine (newPlain_any _ _).mono ?_
  rintro e w3 ⟨mb, mg, rfl, hM, hB, hmb, hmg⟩
  simp only [World.size_alloc] at hmb hmg
  have F3 : Fr [] _ w3 := .of hB
  have hmbl := hM.1.lt
  have hmgl := hM.2.1.lt
  have HM3 := Lib.hid hM
  have HD3 := Lib.hid (HD2.out.fr F3 (by simp))
  have HF3 := Lib.hid (HF2.out.trans F3)
  obtain ⟨d, hd⟩ : ∃ d, d = w1.heap.size := ⟨_, rfl⟩
  rw [← hd] at hmb hmg HD3
  have hd0 : W.heap.size ≤ d := hd ▸ HF1.out.size
  rw [← hd]
  have q0 : w3.cell? ⟨d, 0, none⟩ = some (.int .i64 0) := HD3.out.cell 0
  have q1 : w3.cell? ⟨d, 1, none⟩ = some (.int .i64 room) := HD3.out.cell 1
  clear hM hB F3 hd HF2 HF1 HD2
  go_wp2_with fail
  refine (reset_any (plainI mb mg) 0 room _ 0 _ HM3.out).mono ?_
  rintro e w4 ⟨rfl, ⟨m4, hM⟩, hF⟩
  have HI := Lib.hid (inv_new room R HR.out)
  have HM4 := Lib.hid (show Pm w4 mb mg _ from hM)
  generalize stv (stv (List.replicate (memn (2 + roomv room)) 0) 0 1) (wrap64 (0 + 1)) 1 = zs0 at *
  have HD4 := Lib.hid (HD3.out.fr hF (by simp; omega))
  have HF4 := Lib.hid (HF3.out.from hF (by simp; omega))
  have NE := Lib.hid (show W.heap.size ≤ d ∧ d < mb ∧ d < mg ∧ mb < w4.heap.size ∧ mg < w4.heap.size from ⟨hd0, by omega, by omega, Nat.lt_of_lt_of_le hmbl hF.size, Nat.lt_of_lt_of_le hmgl hF.size⟩)
  clear hM hF q0 q1 HM3 HD3 HF3 hmb hmg hmbl hmgl hd0
  go_wp2_with fail
  obtain ⟨H, hH⟩ : ∃ H, H = w4.heap.size := ⟨_, rfl⟩
  go_loopw [7, 29] (fun lv i wr => ∃ k : Nat, k ≤ L.length ∧ i = .int .i64 k ∧ ∃ T B zs l, Inv zs R T B l ∧ B ≤ k + 1 ∧ OwU wr w4.heap.size 28 lv l ∧ Pm wr mb mg zs ∧ Bk wr d 44 [.int .i64 0, .int .i64 room] ∧ Fr [] W wr ∧ w4.heap.size ≤ wr.heap.size)
    (fun _ i _ => L.length - (intOf i).toNat)
  case atStart => exact ⟨0, Nat.zero_le _, rfl, 1, 1, zs0, [], HI.out, by omega, OwU.nil _ _ _, HM4.out, HD4.out, HF4.out, Nat.le_refl _⟩
  case round =>
    obtain ⟨k, hk, rfl, T, B, zs, l, hI, hBk, hO, hM, hD, hF, hs⟩ := hrel
    have HIk := Lib.hid hI
    have HOk := Lib.hid hO
    have HMk := Lib.hid hM
    have HDk := Lib.hid hD
    have HFk := Lib.hid hF
    have q0 : wr.cell? ⟨d, 0, none⟩ = some (.int .i64 0) := hD.cell 0
    have q1 : wr.cell? ⟨d, 1, none⟩ = some (.int .i64 room) := hD.cell 1
    have hdl := hD.lt
    clear hI hO hM hD hF HI HM4 HD4 HF4
    by_cases hlt : k < L.length
    · obtain ⟨ba, oa, rfl, hca⟩ := HCD.out (by omega)
      obtain ⟨c0, c1, c2⟩ := hca k hlt
      replace c0 := cell_fr c0 HFk.out (by simp)
      replace c1 := cell_fr c1 HFk.out (by simp)
      replace c2 := cell_fr c2 HFk.out (by simp)
      clear hca
      generalize actAt L k = act at *
      obtain ⟨kind, n, steps⟩ := act
      dsimp only at c0 c1 c2
      obtain ⟨lo, lc, rfl, hlc⟩ := HOk.out.form
      have N := NE.out
      by_cases k1 : kind = 1
      · subst k1
        go_wp2_with fail
        obtain ⟨FA, BA, BP, SA⟩ := machine_made wr [.int .i64 1, .int .u64 n, .int .u8 steps] (dcells (push0 room n)) 49 66
        have hmbl := HMk.out.1.lt
        have hmgl := HMk.out.2.1.lt
        refine (fin_push (wr.heap.size + 1) mb mg (push0 room n) zs _ ⟨by omega, by omega⟩ BP ((plainI mb mg).keep [] _ 0 _ _ HMk.out FA (by simp))).mono ?_
        rintro e w5 ⟨rfl, hD, hM, hF⟩
        have hs5 := hF.size
        rw [SA] at hs5
        have HO5 := Lib.hid ((HOk.out.fr FA (by simp)).fr hF (fun b hb => by have := HOk.out.lt b hb; simp; omega))
        have HA5 : w5.cell? ⟨wr.heap.size, 1, none⟩ = some (.int .u64 n) := (BA.fr hF (by simp; omega)).cell 1
        have HD5 := Lib.hid ((HDk.out.fr FA (by simp)).fr hF (by simp; omega))
        have HF5 := Lib.hid ((HFk.out.trans FA).from hF (by simp; omega))
        have HM5 := Lib.hid hM
        have q0 : w5.cell? ⟨d, 0, none⟩ = some (.int .i64 0) := HD5.out.cell 0
        have q1 : w5.cell? ⟨d, 1, none⟩ = some (.int .i64 room) := HD5.out.cell 1
        have p1 : w5.cell? ⟨wr.heap.size + 1, 2, none⟩ = _ := hD.cell 2
        have p2 : w5.cell? ⟨wr.heap.size + 1, 3, none⟩ = _ := hD.cell 3
        have p3 : w5.cell? ⟨wr.heap.size + 1, 4, none⟩ = _ := hD.cell 4
        clear hM hF FA BA BP SA hD c0 c1 c2 HMk HDk HFk
        by_cases hroom : l.length < R
        · obtain ⟨r1, r2, r3⟩ := push_run zs room n R T B l HR.out HIk.out hroom (by omega)
          have p2' : w5.cell? ⟨wr.heap.size + 1, 3, none⟩ = some (.bool true) := by rw [p2]; show some (Value.bool _) = _; rw [r1]
          have p3' : w5.cell? ⟨wr.heap.size + 1, 4, none⟩ = some (.bool true) := by rw [p3]; show some (Value.bool _) = _; rw [r2]
          have HI7 := Lib.hid r3
          generalize it pushS pushZ 7 (push0 room n, zs) = st at *
          have d2 : decide ((l.length : Int) < roomv room) = true := by have := HR.out; simp; omega
          have hf0 := HIk.out.r2
          clear p1 p2 p3 r1 r2 r3
          go_wp2_with fail
          go_region_with (first
            | (go_at_call 29; refine (rroom_any _ _).mono ?_; rintro e w6 ⟨rfl, rfl⟩))
          all_goals
            go_wp2_with (at_builtin; refine wpList_append_ow _ rfl _ _ 36 rfl w4.heap.size 28 i0 (.int .u64 0) 8 Try.underlying36 hi hz0 hz1 hz2 rfl _ l rfl (HO5.out.fr ((Fr.refl [] w5).alloc (.cells #[.int .u64 n] 28)).drew (by simp)) ⟨w5.heap.size, 0, none⟩ 1 n rfl (show World.cell? (w5.alloc (.cells #[.int .u64 n] 28)) ⟨w5.heap.size, 0, none⟩ = some (.int .u64 n) from (Bk.new w5 28 [.int .u64 n]).cell 0) (by unfold maxLen; omega) (by omega) (by simp; omega) ?_; intro v' w6 hO hgr hv; clear q0 q1; have FB := fr_of_gb hgr; have HO7 := Lib.hid hO; have HM7 := Lib.hid ((plainI mb mg).keep _ _ 0 _ _ ((plainI mb mg).keep [] _ 0 _ _ HM5.out ((Fr.refl [] w5).alloc (.cells #[.int .u64 n] 28)).drew (by simp)) FB (fun s hs => HO5.out.not_own (by simp at hs; omega))); have HD7 := Lib.hid ((HD5.out.fr ((Fr.refl [] w5).alloc (.cells #[.int .u64 n] 28)).drew (by simp)).fr FB (HO5.out.not_own (by omega))); have HF7 := Lib.hid (Fr.from (HF5.out.trans ((Fr.refl [] w5).alloc (.cells #[.int .u64 n] 28)).drew) FB (fun s hs hlt => absurd hs (HO5.out.not_own (by omega)))); have hs7 : w4.heap.size ≤ w6.heap.size := (by have := hgr.size; simp at this; omega); have q0 : w6.cell? ⟨d, 0, none⟩ = some (.int .i64 0) := HD7.out.cell 0; have q1 : w6.cell? ⟨d, 1, none⟩ = some (.int .i64 room) := HD7.out.cell 1; clear hO hgr hv FB)
            refine (list_any mb mg 0 room _ _ HM7.out).mono ?_
            rintro e w8 ⟨v8, K, rfl, hU, hK, hj, he, hB⟩
            obtain hKl : K = (l ++ [n]).length := list_len _ room R (T) (B + 1) K (l ++ [n]) HR.out HI7.out hK hj he
            subst hKl
            rw [list_is _ room R (T) (B + 1) (l ++ [n]) HR.out HI7.out] at hU
            have F8 : Fr [] _ w8 := .of hB
            have HU8 := Lib.hid hU
            have HO8 := Lib.hid (HO7.out.fr F8 (by simp))
            have HM8 := Lib.hid ((plainI mb mg).keep [] _ 0 _ _ HM7.out F8 (by simp))
            have HD8 := Lib.hid (HD7.out.fr F8 (by simp))
            have HF8 := Lib.hid (HF7.out.trans F8)
            have hs8 := Nat.le_trans hs7 F8.size
            have hfew := HI7.out.few
            have hfew2 := HI7.out.r2
            clear hU hK hj he hB F8 q0 q1
            go_wp2_with fail
            refine (us_any _ _ _ _ _ HU8.out HO8.out.us (by omega) (by omega)).mono ?_
            rintro e w9 ⟨rfl, nq9, rfl⟩
            rw [show decide ((l ++ [n]) = (l ++ [n])) = true from by simp]
            go_wp2_with fail
            go_roundw
            case rel => exact ⟨k + 1, by omega, by go_num, T, B + 1, _, l ++ [n], HI7.out, by omega, HO8.out, HM8.out, HD8.out, HF8.out.drewN _, hs8⟩
            case measure => simp [intOf]; omega
        · obtain ⟨r1, r2, r3⟩ := push_full zs room n R T B l HR.out HIk.out hroom
          have p2' : w5.cell? ⟨wr.heap.size + 1, 3, none⟩ = some (.bool false) := by rw [p2]; show some (Value.bool _) = _; rw [r1]
          have p3' : w5.cell? ⟨wr.heap.size + 1, 4, none⟩ = some (.bool true) := by rw [p3]; show some (Value.bool _) = _; rw [r2]
          replace HM5 := Lib.hid (show Pm w5 mb mg zs from r3 ▸ HM5.out)
          have HI7 := Lib.hid HIk.out
          have d2 : decide ((l.length : Int) < roomv room) = false := by have := HR.out; simp; omega
          clear p1 p2 p3 r1 r2 r3
          go_wp2_with fail
          go_region_with (first
            | (go_at_call 29; refine (rroom_any _ _).mono ?_; rintro e w6 ⟨rfl, rfl⟩))
          all_goals
            go_wp2_with fail
            have HO7 := Lib.hid (show OwU w5.drew w4.heap.size 28 (.slice lo l.length lc) l from HO5.out)
            have HM7 := Lib.hid (show Pm w5.drew mb mg zs from HM5.out)
            have HD7 := Lib.hid HD5.out.drew
            have HF7 := Lib.hid HF5.out.drew
            have hs7 : w4.heap.size ≤ w5.drew.heap.size := show w4.heap.size ≤ w5.heap.size by omega
            refine (list_any mb mg 0 room _ _ HM7.out).mono ?_
            rintro e w8 ⟨v8, K, rfl, hU, hK, hj, he, hB⟩
            obtain hKl : K = (l).length := list_len _ room R (T) (B) K (l) HR.out HI7.out hK hj he
            subst hKl
            rw [list_is _ room R (T) (B) (l) HR.out HI7.out] at hU
            have F8 : Fr [] _ w8 := .of hB
            have HU8 := Lib.hid hU
            have HO8 := Lib.hid (HO7.out.fr F8 (by simp))
            have HM8 := Lib.hid ((plainI mb mg).keep [] _ 0 _ _ HM7.out F8 (by simp))
            have HD8 := Lib.hid (HD7.out.fr F8 (by simp))
            have HF8 := Lib.hid (HF7.out.trans F8)
            have hs8 := Nat.le_trans hs7 F8.size
            have hfew := HI7.out.few
            have hfew2 := HI7.out.r2
            clear hU hK hj he hB F8 q0 q1
            go_wp2_with fail
            refine (us_any _ _ _ _ _ HU8.out HO8.out.us (by omega) (by omega)).mono ?_
            rintro e w9 ⟨rfl, nq9, rfl⟩
            rw [show decide ((l) = (l)) = true from by simp]
            go_wp2_with fail
            go_roundw
            case rel => exact ⟨k + 1, by omega, by go_num, T, B, _, l, HI7.out, by omega, HO8.out, HM8.out, HD8.out, HF8.out.drewN _, hs8⟩
            case measure => simp [intOf]; omega
      · by_cases k2 : kind = 2
        · subst k2
          obtain ⟨m, hm⟩ : ∃ m, m = l.length := ⟨_, rfl⟩
          rw [← hm]
          go_wp2_with fail
          obtain ⟨FA, BA, BP, SA⟩ := machine_made wr [.int .i64 2, .int .u64 n, .int .u8 steps] (dcells (push0 room 0)) 49 68
          have hmbl := HMk.out.1.lt
          have hmgl := HMk.out.2.1.lt
          refine (fin_pop (wr.heap.size + 1) mb mg (push0 room 0) zs _ ⟨by omega, by omega⟩ BP ((plainI mb mg).keep [] _ 0 _ _ HMk.out FA (by simp))).mono ?_
          rintro e w5 ⟨rfl, hD, hM, hF⟩
          have hs5 := hF.size
          rw [SA] at hs5
          have HO5 := Lib.hid ((HOk.out.fr FA (by simp)).fr hF (fun b hb => by have := HOk.out.lt b hb; simp; omega))
          have HA5 : w5.cell? ⟨wr.heap.size, 1, none⟩ = some (.int .u64 n) := (BA.fr hF (by simp; omega)).cell 1
          have HD5 := Lib.hid ((HDk.out.fr FA (by simp)).fr hF (by simp; omega))
          have HF5 := Lib.hid ((HFk.out.trans FA).from hF (by simp; omega))
          have HM5 := Lib.hid hM
          have q0 : w5.cell? ⟨d, 0, none⟩ = some (.int .i64 0) := HD5.out.cell 0
          have q1 : w5.cell? ⟨d, 1, none⟩ = some (.int .i64 room) := HD5.out.cell 1
          have p1 : w5.cell? ⟨wr.heap.size + 1, 2, none⟩ = _ := hD.cell 2
          have p2 : w5.cell? ⟨wr.heap.size + 1, 3, none⟩ = _ := hD.cell 3
          have p3 : w5.cell? ⟨wr.heap.size + 1, 4, none⟩ = _ := hD.cell 4
          clear hM hF FA BA BP SA hD c0 c1 c2 HMk HDk HFk
          rcases nil_or_snoc l with rfl | ⟨l0, x, rfl⟩
          · obtain ⟨r1, r2, r3⟩ := pop_none_run zs room R T B HIk.out
            have HI7 := Lib.hid r3
            generalize it popS popZ 7 (push0 room 0, zs) = st at *
            clear r3
            have p1' : w5.cell? ⟨wr.heap.size + 1, 2, none⟩ = some (.int .u64 0) := by rw [p1]; show some (Value.int .u64 _) = _; rw [r2]
            have p2' : w5.cell? ⟨wr.heap.size + 1, 3, none⟩ = some (.bool false) := by rw [p2]; show some (Value.bool _) = _; rw [r1]
            clear p1 p2 p3 r1 r2
            have HO6 := HO5
            simp only [List.length_nil] at hm HO6
            subst hm
            go_wp2_with fail
            go_quiet (fail)
            rename_i nq
            go_wp2_with fail
            have HO7 := Lib.hid (show OwU (w5.drewN nq) w4.heap.size 28 (.slice lo 0 lc) [] from HO6.out)
            have HM7 := Lib.hid (show Pm (w5.drewN nq) mb mg _ from HM5.out)
            have HD7 := Lib.hid (show Bk (w5.drewN nq) d 44 [.int .i64 0, .int .i64 room] from HD5.out)
            have HF7 := Lib.hid (HF5.out.drewN nq)
            have hs7 : w4.heap.size ≤ (w5.drewN nq).heap.size := show w4.heap.size ≤ w5.heap.size by omega
            refine (list_any mb mg 0 room _ _ HM7.out).mono ?_
            rintro e w8 ⟨v8, K, rfl, hU, hK, hj, he, hB⟩
            obtain hKl : K = ([]).length := list_len _ room R (T) (B) K ([]) HR.out HI7.out hK hj he
            subst hKl
            rw [list_is _ room R (T) (B) ([]) HR.out HI7.out] at hU
            have F8 : Fr [] _ w8 := .of hB
            have HU8 := Lib.hid hU
            have HO8 := Lib.hid (HO7.out.fr F8 (by simp))
            have HM8 := Lib.hid ((plainI mb mg).keep [] _ 0 _ _ HM7.out F8 (by simp))
            have HD8 := Lib.hid (HD7.out.fr F8 (by simp))
            have HF8 := Lib.hid (HF7.out.trans F8)
            have hs8 := Nat.le_trans hs7 F8.size
            have hfew := HI7.out.few
            have hfew2 := HI7.out.r2
            clear hU hK hj he hB F8 q0 q1
            go_wp2_with fail
            refine (us_any _ _ _ _ _ HU8.out HO8.out.us (by omega) (by omega)).mono ?_
            rintro e w9 ⟨rfl, nq9, rfl⟩
            rw [show decide (([]) = ([])) = true from by simp]
            go_wp2_with fail
            go_roundw
            case rel => exact ⟨k + 1, by omega, by go_num, T, B, _, [], HI7.out, by omega, HO8.out, HM8.out, HD8.out, HF8.out.drewN _, hs8⟩
            case measure => simp [intOf]; omega
          · obtain ⟨r1, r2, T', B', hB', r3⟩ := pop_run zs room R T B x l0 HR.out HIk.out
            have HI7 := Lib.hid r3
            generalize it popS popZ 7 (push0 room 0, zs) = st at *
            clear r3
            have p1' : w5.cell? ⟨wr.heap.size + 1, 2, none⟩ = some (.int .u64 x) := by rw [p1]; show some (Value.int .u64 _) = _; rw [r2]
            have p2' : w5.cell? ⟨wr.heap.size + 1, 3, none⟩ = some (.bool true) := by rw [p2]; show some (Value.bool _) = _; rw [r1]
            clear p1 p2 p3 r1 r2
            obtain ⟨b, off, rfl⟩ : ∃ b off, lo = some ⟨b, off, none⟩ := HO5.out.some' (by simp)
            have HX := HO5.out.word l0.length (by simp)
            have HO6 := Lib.hid HO5.out.pop
            have HLX : l0.length + 1 ≤ lc := by simpa using hlc
            simp only [List.getElem?_append_right (Nat.le_refl _), Nat.sub_self, List.getElem?_cons_zero, Option.getD_some] at HX
            clear HO5
            have hlen1 : m = l0.length + 1 := by rw [hm]; simp
            clear hm
            have d3 : decide ((0 : Int) < (m : Int)) = true := by simp; omega
            have e3 : wrap64 ((m : Int) - 1) = (l0.length : Int) := by have := HI7.out.few; have := HI7.out.r2; rw [w64 _ (by omega)]; omega
            have hml : l0.length < m := by omega
            have d5 : 0 < m := by omega
            clear hlen1
            go_wp2_with fail
            go_quiet (fail)
            rename_i nq
            go_wp2_with fail
            have HO7 := Lib.hid (show OwU (w5.drewN nq) w4.heap.size 28 (.slice (some ⟨b, off, none⟩) l0.length lc) l0 from HO6.out)
            have HM7 := Lib.hid (show Pm (w5.drewN nq) mb mg _ from HM5.out)
            have HD7 := Lib.hid (show Bk (w5.drewN nq) d 44 [.int .i64 0, .int .i64 room] from HD5.out)
            have HF7 := Lib.hid (HF5.out.drewN nq)
            have hs7 : w4.heap.size ≤ (w5.drewN nq).heap.size := show w4.heap.size ≤ w5.heap.size by omega
            refine (list_any mb mg 0 room _ _ HM7.out).mono ?_
            rintro e w8 ⟨v8, K, rfl, hU, hK, hj, he, hB⟩
            obtain hKl : K = (l0).length := list_len _ room R (T') (B') K (l0) HR.out HI7.out hK hj he
            subst hKl
            rw [list_is _ room R (T') (B') (l0) HR.out HI7.out] at hU
            have F8 : Fr [] _ w8 := .of hB
            have HU8 := Lib.hid hU
            have HO8 := Lib.hid (HO7.out.fr F8 (by simp))
            have HM8 := Lib.hid ((plainI mb mg).keep [] _ 0 _ _ HM7.out F8 (by simp))
            have HD8 := Lib.hid (HD7.out.fr F8 (by simp))
            have HF8 := Lib.hid (HF7.out.trans F8)
            have hs8 := Nat.le_trans hs7 F8.size
            have hfew := HI7.out.few
            have hfew2 := HI7.out.r2
            clear hU hK hj he hB F8 q0 q1
            go_wp2_with fail
            refine (us_any _ _ _ _ _ HU8.out HO8.out.us (by omega) (by omega)).mono ?_
            rintro e w9 ⟨rfl, nq9, rfl⟩
            rw [show decide ((l0) = (l0)) = true from by simp]
            go_wp2_with fail
            go_roundw
            case rel => exact ⟨k + 1, by omega, by go_num, T', B', _, l0, HI7.out, by omega, HO8.out, HM8.out, HD8.out, HF8.out.drewN _, hs8⟩
            case measure => simp [intOf]; omega
        · have kk1 : (kind == 1) = false := by simpa using k1
          have kk2 : (kind == 2) = false := by simpa using k2
          obtain ⟨m, hm⟩ : ∃ m, m = l.length := ⟨_, rfl⟩
          rw [← hm]
          go_wp2_with fail
          obtain ⟨FA, BA, BP, SA⟩ := machine_made wr [.int .i64 kind, .int .u64 n, .int .u8 steps] (dcells (push0 room 0)) 49 69
          have hmbl := HMk.out.1.lt
          have hmgl := HMk.out.2.1.lt
          refine (fin_steal (wr.heap.size + 1) mb mg (push0 room 0) zs _ ⟨by omega, by omega⟩ BP ((plainI mb mg).keep [] _ 0 _ _ HMk.out FA (by simp))).mono ?_
          rintro e w5 ⟨rfl, hD, hM, hF⟩
          have hs5 := hF.size
          rw [SA] at hs5
          have HO5 := Lib.hid ((HOk.out.fr FA (by simp)).fr hF (fun b hb => by have := HOk.out.lt b hb; simp; omega))
          have HA5 : w5.cell? ⟨wr.heap.size, 1, none⟩ = some (.int .u64 n) := (BA.fr hF (by simp; omega)).cell 1
          have HD5 := Lib.hid ((HDk.out.fr FA (by simp)).fr hF (by simp; omega))
          have HF5 := Lib.hid ((HFk.out.trans FA).from hF (by simp; omega))
          have HM5 := Lib.hid hM
          have q0 : w5.cell? ⟨d, 0, none⟩ = some (.int .i64 0) := HD5.out.cell 0
          have q1 : w5.cell? ⟨d, 1, none⟩ = some (.int .i64 room) := HD5.out.cell 1
          have p1 : w5.cell? ⟨wr.heap.size + 1, 2, none⟩ = _ := hD.cell 2
          have p2 : w5.cell? ⟨wr.heap.size + 1, 3, none⟩ = _ := hD.cell 3
          have p3 : w5.cell? ⟨wr.heap.size + 1, 4, none⟩ = _ := hD.cell 4
          clear hM hF FA BA BP SA hD c0 c1 c2 HMk HDk HFk
          rcases l with _ | ⟨x, l0⟩
          · obtain ⟨r1, r2, r3⟩ := steal_none_run zs room R T B HIk.out
            replace HM5 := Lib.hid (show Pm w5 mb mg zs from r3 ▸ HM5.out)
            have HI7 := Lib.hid HIk.out
            clear r3
            have p1' : w5.cell? ⟨wr.heap.size + 1, 2, none⟩ = some (.int .u64 0) := by rw [p1]; show some (Value.int .u64 _) = _; rw [r2]
            have p2' : w5.cell? ⟨wr.heap.size + 1, 3, none⟩ = some (.bool false) := by rw [p2]; show some (Value.bool _) = _; rw [r1]
            clear p1 p2 p3 r1 r2
            have HO6 := HO5
            simp only [List.length_nil] at hm HO6
            subst hm
            go_wp2_with fail
            go_quiet (fail)
            rename_i nq
            go_wp2_with fail
            have HO7 := Lib.hid (show OwU (w5.drewN nq) w4.heap.size 28 (.slice lo 0 lc) [] from HO6.out)
            have HM7 := Lib.hid (show Pm (w5.drewN nq) mb mg _ from HM5.out)
            have HD7 := Lib.hid (show Bk (w5.drewN nq) d 44 [.int .i64 0, .int .i64 room] from HD5.out)
            have HF7 := Lib.hid (HF5.out.drewN nq)
            have hs7 : w4.heap.size ≤ (w5.drewN nq).heap.size := show w4.heap.size ≤ w5.heap.size by omega
            refine (list_any mb mg 0 room _ _ HM7.out).mono ?_
            rintro e w8 ⟨v8, K, rfl, hU, hK, hj, he, hB⟩
            obtain hKl : K = ([]).length := list_len _ room R (T) (B) K ([]) HR.out HI7.out hK hj he
            subst hKl
            rw [list_is _ room R (T) (B) ([]) HR.out HI7.out] at hU
            have F8 : Fr [] _ w8 := .of hB
            have HU8 := Lib.hid hU
            have HO8 := Lib.hid (HO7.out.fr F8 (by simp))
            have HM8 := Lib.hid ((plainI mb mg).keep [] _ 0 _ _ HM7.out F8 (by simp))
            have HD8 := Lib.hid (HD7.out.fr F8 (by simp))
            have HF8 := Lib.hid (HF7.out.trans F8)
            have hs8 := Nat.le_trans hs7 F8.size
            have hfew := HI7.out.few
            have hfew2 := HI7.out.r2
            clear hU hK hj he hB F8 q0 q1
            go_wp2_with fail
            refine (us_any _ _ _ _ _ HU8.out HO8.out.us (by omega) (by omega)).mono ?_
            rintro e w9 ⟨rfl, nq9, rfl⟩
            rw [show decide (([]) = ([])) = true from by simp]
            go_wp2_with fail
            go_roundw
            case rel => exact ⟨k + 1, by omega, by go_num, T, B, _, [], HI7.out, by omega, HO8.out, HM8.out, HD8.out, HF8.out.drewN _, hs8⟩
            case measure => simp [intOf]; omega
          · obtain ⟨r1, r2, r3⟩ := steal_run zs room R T B x l0 HR.out HIk.out
            have HI7 := Lib.hid r3
            generalize it stealS stealZ 7 (push0 room 0, zs) = st at *
            clear r3
            obtain ⟨b, off, rfl⟩ : ∃ b off, lo = some ⟨b, off, none⟩ := HO5.out.some' (by simp)
            have HX := HO5.out.word 0 (by simp)
            simp only [Nat.add_zero, List.getElem?_cons_zero, Option.getD_some] at HX
            have hlen1 : m = l0.length + 1 := by rw [hm]; simp
            have HLX : l0.length + 1 ≤ lc := by simpa using hlc
            by_cases hl1 : lc = 1
            · subst hl1
              obtain rfl : l0 = [] := List.eq_nil_of_length_eq_zero (by omega)
              have HO6 := Lib.hid HO5.out.bare
              simp only [List.length_nil, Nat.zero_add] at hlen1
              subst hlen1
              clear HO5 hm hlc HLX
              have p1' : w5.cell? ⟨wr.heap.size + 1, 2, none⟩ = some (.int .u64 x) := by rw [p1]; show some (Value.int .u64 _) = _; rw [r2]
              have p2' : w5.cell? ⟨wr.heap.size + 1, 3, none⟩ = some (.bool true) := by rw [p2]; show some (Value.bool _) = _; rw [r1]
              clear p1 p2 p3 r1 r2

              go_wp2_with fail
              go_quiet (fail)
              rename_i nq
              go_wp2_with fail
              have HO7 := Lib.hid (show OwU (w5.drewN nq) w4.heap.size 28 (.slice (some ⟨b, off, none⟩) 0 0) [] from HO6.out)
              have HM7 := Lib.hid (show Pm (w5.drewN nq) mb mg _ from HM5.out)
              have HD7 := Lib.hid (show Bk (w5.drewN nq) d 44 [.int .i64 0, .int .i64 room] from HD5.out)
              have HF7 := Lib.hid (HF5.out.drewN nq)
              have hs7 : w4.heap.size ≤ (w5.drewN nq).heap.size := show w4.heap.size ≤ w5.heap.size by omega
              refine (list_any mb mg 0 room _ _ HM7.out).mono ?_
              rintro e w8 ⟨v8, K, rfl, hU, hK, hj, he, hB⟩
              obtain hKl : K = ([]).length := list_len _ room R ((T + 1)) (B) K ([]) HR.out HI7.out hK hj he
              subst hKl
              rw [list_is _ room R ((T + 1)) (B) ([]) HR.out HI7.out] at hU
              have F8 : Fr [] _ w8 := .of hB
              have HU8 := Lib.hid hU
              have HO8 := Lib.hid (HO7.out.fr F8 (by simp))
              have HM8 := Lib.hid ((plainI mb mg).keep [] _ 0 _ _ HM7.out F8 (by simp))
              have HD8 := Lib.hid (HD7.out.fr F8 (by simp))
              have HF8 := Lib.hid (HF7.out.trans F8)
              have hs8 := Nat.le_trans hs7 F8.size
              have hfew := HI7.out.few
              have hfew2 := HI7.out.r2
              clear hU hK hj he hB F8 q0 q1
              go_wp2_with fail
              refine (us_any _ _ _ _ _ HU8.out HO8.out.us (by omega) (by omega)).mono ?_
              rintro e w9 ⟨rfl, nq9, rfl⟩
              rw [show decide (([]) = ([])) = true from by simp]
              go_wp2_with fail
              go_roundw
              case rel => exact ⟨k + 1, by omega, by go_num, (T + 1), B, _, [], HI7.out, by omega, HO8.out, HM8.out, HD8.out, HF8.out.drewN _, hs8⟩
              case measure => simp [intOf]; omega
            · have hl2 : 1 < lc := by omega
              have hl3 : (lc == 1) = false := by simpa using hl1
              by_cases hl4 : l0.length = 0
              · obtain rfl : l0 = [] := List.eq_nil_of_length_eq_zero hl4
                have HO6 := Lib.hid HO5.out.drop
                simp only [List.length_nil, Nat.zero_add] at hlen1
                subst hlen1
                clear HO5 hm hlc HLX
                have p1' : w5.cell? ⟨wr.heap.size + 1, 2, none⟩ = some (.int .u64 x) := by rw [p1]; show some (Value.int .u64 _) = _; rw [r2]
                have p2' : w5.cell? ⟨wr.heap.size + 1, 3, none⟩ = some (.bool true) := by rw [p2]; show some (Value.bool _) = _; rw [r1]
                clear p1 p2 p3 r1 r2

                go_wp2_with fail
                go_quiet (fail)
                rename_i nq
                go_wp2_with fail
                have HO7 := Lib.hid (show OwU (w5.drewN nq) w4.heap.size 28 (.slice (some ⟨b, off + 1, none⟩) 0 (lc - 1)) [] from HO6.out)
                have HM7 := Lib.hid (show Pm (w5.drewN nq) mb mg _ from HM5.out)
                have HD7 := Lib.hid (show Bk (w5.drewN nq) d 44 [.int .i64 0, .int .i64 room] from HD5.out)
                have HF7 := Lib.hid (HF5.out.drewN nq)
                have hs7 : w4.heap.size ≤ (w5.drewN nq).heap.size := show w4.heap.size ≤ w5.heap.size by omega
                refine (list_any mb mg 0 room _ _ HM7.out).mono ?_
                rintro e w8 ⟨v8, K, rfl, hU, hK, hj, he, hB⟩
                obtain hKl : K = ([]).length := list_len _ room R ((T + 1)) (B) K ([]) HR.out HI7.out hK hj he
                subst hKl
                rw [list_is _ room R ((T + 1)) (B) ([]) HR.out HI7.out] at hU
                have F8 : Fr [] _ w8 := .of hB
                have HU8 := Lib.hid hU
                have HO8 := Lib.hid (HO7.out.fr F8 (by simp))
                have HM8 := Lib.hid ((plainI mb mg).keep [] _ 0 _ _ HM7.out F8 (by simp))
                have HD8 := Lib.hid (HD7.out.fr F8 (by simp))
                have HF8 := Lib.hid (HF7.out.trans F8)
                have hs8 := Nat.le_trans hs7 F8.size
                have hfew := HI7.out.few
                have hfew2 := HI7.out.r2
                clear hU hK hj he hB F8 q0 q1
                go_wp2_with fail
                refine (us_any _ _ _ _ _ HU8.out HO8.out.us (by omega) (by omega)).mono ?_
                rintro e w9 ⟨rfl, nq9, rfl⟩
                rw [show decide (([]) = ([])) = true from by simp]
                go_wp2_with fail
                go_roundw
                case rel => exact ⟨k + 1, by omega, by go_num, (T + 1), B, _, [], HI7.out, by omega, HO8.out, HM8.out, HD8.out, HF8.out.drewN _, hs8⟩
                case measure => simp [intOf]; omega
              · have hlp : 0 < l0.length := by omega
                have HO6 := Lib.hid HO5.out.drop
                clear HO5 hm
                have d3 : decide ((0 : Int) < (m : Int)) = true := by simp; omega
                have hml : 0 < m := by omega
                have hml2 : 1 ≤ m := hml
                have hml3 : 1 < m := by omega
                have hml4 : (1 : Int) < (m : Int) := by omega
                have e4 : m - 1 = l0.length := by omega
                clear hlen1 hlp hl4
                have p1' : w5.cell? ⟨wr.heap.size + 1, 2, none⟩ = some (.int .u64 x) := by rw [p1]; show some (Value.int .u64 _) = _; rw [r2]
                have p2' : w5.cell? ⟨wr.heap.size + 1, 3, none⟩ = some (.bool true) := by rw [p2]; show some (Value.bool _) = _; rw [r1]
                clear p1 p2 p3 r1 r2

                go_wp2_with fail
                go_quiet (fail)
                rename_i nq
                go_wp2_with fail
                have HO7 := Lib.hid (show OwU (w5.drewN nq) w4.heap.size 28 (.slice (some ⟨b, off + 1, none⟩) l0.length (lc - 1)) l0 from HO6.out)
                have HM7 := Lib.hid (show Pm (w5.drewN nq) mb mg _ from HM5.out)
                have HD7 := Lib.hid (show Bk (w5.drewN nq) d 44 [.int .i64 0, .int .i64 room] from HD5.out)
                have HF7 := Lib.hid (HF5.out.drewN nq)
                have hs7 : w4.heap.size ≤ (w5.drewN nq).heap.size := show w4.heap.size ≤ w5.heap.size by omega
                refine (list_any mb mg 0 room _ _ HM7.out).mono ?_
                rintro e w8 ⟨v8, K, rfl, hU, hK, hj, he, hB⟩
                obtain hKl : K = (l0).length := list_len _ room R ((T + 1)) (B) K (l0) HR.out HI7.out hK hj he
                subst hKl
                rw [list_is _ room R ((T + 1)) (B) (l0) HR.out HI7.out] at hU
                have F8 : Fr [] _ w8 := .of hB
                have HU8 := Lib.hid hU
                have HO8 := Lib.hid (HO7.out.fr F8 (by simp))
                have HM8 := Lib.hid ((plainI mb mg).keep [] _ 0 _ _ HM7.out F8 (by simp))
                have HD8 := Lib.hid (HD7.out.fr F8 (by simp))
                have HF8 := Lib.hid (HF7.out.trans F8)
                have hs8 := Nat.le_trans hs7 F8.size
                have hfew := HI7.out.few
                have hfew2 := HI7.out.r2
                clear hU hK hj he hB F8 q0 q1
                go_wp2_with fail
                refine (us_any _ _ _ _ _ HU8.out HO8.out.us (by omega) (by omega)).mono ?_
                rintro e w9 ⟨rfl, nq9, rfl⟩
                rw [show decide ((l0) = (l0)) = true from by simp]
                go_wp2_with fail
                go_roundw
                case rel => exact ⟨k + 1, by omega, by go_num, (T + 1), B, _, l0, HI7.out, by omega, HO8.out, HM8.out, HD8.out, HF8.out.drewN _, hs8⟩
                case measure => simp [intOf]; omega
    · obtain rfl : k = L.length := by omega
      go_wp2_with fail
      go_ret
      exact ⟨rfl, HFk.out.below⟩

end Go.Proofs.Ytacmlgcoockpcaa
