/-
  soughlaw30.awake: contract. Written by wip/gen/mkcell5.py.
-/
import Derived.Test.YteheckcflnogbaaCell4
namespace Go.Proofs.Yteheckcflnogbaa
open Go.RowKit

theorem ws_new1 (w : World) (x : Nat) (hx : x < 18446744073709551616) : Ws (w.alloc (.cells #[.int .u64 x] 29)) (.slice (some ⟨w.heap.size, 0, none⟩) 1 1) [x] :=
  ⟨by simp [hx], .inr ⟨_, 1, rfl, fun i hi => by
    obtain rfl : i = 0 := by simp at hi; omega
    simp [Addr.add]⟩⟩
theorem pm_fr5 {S : List Nat} {w w' : World} {b g : Nat} {zs : List Int} (h : Pm w b g zs) (k : Fr S w w') (hb : b ∉ S) (hg : g ∉ S) : Pm w' b g zs := ⟨h.1.fr k hb, h.2.1.fr k hg, h.2.2⟩
theorem ws_apart {x g n : Nat} {a : Addr} {c : Nat} (h : Value.slice (some ⟨x, 0, none⟩) 1 1 = .slice (some a) n c) (hx : x ≠ g) : a.block ≠ g := by
  injection h with h
  injection h with h
  subst h
  exact hx
theorem row_at30 {w : World} {base e n : Nat} {v : Value} {xs : List Value} (h : w.ownsRow base e 1 v n xs) (h0 : 0 < n) : ∃ lb c, v = .slice (some ⟨lb, 0, none⟩) n c ∧ base ≤ lb ∧ ∀ i u, xs[i]? = some u → w.cell? ⟨lb, i, none⟩ = some u := by
  have hc := h
  obtain ⟨hl, ⟨rfl, rfl⟩ | ⟨g, cap, cur, rfl, hg, _⟩⟩ := h
  · simp at hl; omega
  · refine ⟨g, cap, rfl, hg, fun i u hu => ?_⟩
    have := hc.cells (g := g) rfl i u hu
    rwa [Addr.add_lit, Nat.zero_add] at this
theorem lmay_any' (x y : Nat) (w : World) (hx : x < 18446744073709551616) (hy : y < 18446744073709551616) :
    Calls Try.prog 30 #[.int .i64 1, .int .u64 x, .int .u64 y] w fun e w' => e = .returned (.int .u64 ((fun x y => x ||| y) x y : Nat)) ∧ Below w.heap.size w w' := lmay_any x y w hx hy

set_option maxHeartbeats 3200000 in
set_option maxRecDepth 100000 in
theorem awake30_any (w : World) :
    Calls Try.prog 77 #[] w fun e w' => e = .returned (.bool true) ∧ Below w.heap.size w w' := by
  go_enter Try.func77, Try.ntmps77
  go_wp2_with fail
  refine (newPlain_any _ _).mono ?_
  rintro e w1 ⟨b, g, rfl, hP, hB, hb, hg⟩
  rw [show List.replicate (memn 1) (0 : Int) = [0] from rfl] at hP
  have hbl := hP.1.lt
  have hgl := hP.2.1.lt
  have hbg : b ≠ g := hP.1.ne hP.2.1 (by decide)
  have HP := Lib.hid hP
  have HB := Lib.hid hB
  have HSZ := Lib.hid (And.intro hb hg)
  have HLT := Lib.hid (And.intro hbl hgl)
  obtain ⟨W1, hW1⟩ : ∃ W1, W1 = (w1.alloc (.cells #[.int .i64 0, .int .i64 1, .int .i64 1] 120)).alloc (.cells #[.int .u64 2] 29) := ⟨_, rfl⟩
  have b1 : Below w1.heap.size w1 W1 := by rw [hW1]; exact ((Below.refl _ _).alloc (Nat.le_refl _) _).alloc (by simp) _
  have HC1 := Lib.hid (show Bk W1 w1.heap.size 120 [.int .i64 0, .int .i64 1, .int .i64 1] by rw [hW1]; exact (Bk.new w1 120 [_, _, _]).alloc _)
  have HS1 := Lib.hid (show Ws W1 (.slice (some ⟨w1.heap.size + 1, 0, none⟩) 1 1) [2] by
    have := ws_new1 (w1.alloc (.cells #[.int .i64 0, .int .i64 1, .int .i64 1] 120)) 2 (by decide)
    rw [World.size_alloc] at this
    rw [hW1]; exact this)
  have HP1 := Lib.hid (HP.out.below b1)
  have HB1 := Lib.hid (bel_then HB.out b1)
  have HZ1 := Lib.hid (show W1.heap.size = w1.heap.size + 2 by rw [hW1]; simp)
  clear hP hB b1 hb hg
  go_wp2_with fail
  simp only [← hW1]
  clear hW1
  refine (put_any 0 1 1 _ [2] b g [0] W1 (by decide) HS1.out HP1.out (fun a c h _ => ws_apart h (by omega))).mono ?_
  rintro e w2 ⟨rfl, hP, hF⟩
  rw [show putE [0] 0 [2] (cwn 1).toNat = [2] from by decide] at hP
  have HP2 := Lib.hid hP
  have HC2 := Lib.hid (HC1.out.fr hF (by simp; omega))
  have HF2 := Lib.hid ((Fr.of (S := []) HB1.out).from hF (fun i hi hl => by rw [List.mem_singleton.1 hi] at hl; have := HSZ.out; omega))
  have hs2 := hF.size
  rw [HZ1.out] at hs2
  clear hP hF
  have q0 : w2.cell? ⟨w1.heap.size, 0, none⟩ = some (.int .i64 0) := HC2.out.cell 0
  have q1 : w2.cell? ⟨w1.heap.size, 1, none⟩ = some (.int .i64 1) := HC2.out.cell 1
  have q2 : w2.cell? ⟨w1.heap.size, 2, none⟩ = some (.int .i64 1) := HC2.out.cell 2
  obtain ⟨W3, hW3⟩ : ∃ W3, W3 = (w2.alloc (.cells #[.int .u64 1] 29)).alloc (.cells #[.int .i64 0, .int .i64 1, .int .i64 1, .slice (some ⟨w2.heap.size, 0, none⟩) 1 1, .bool false, .bool false, .int .i64 0, .int .i64 0, .int .u64 0, .bool false] 129) := ⟨_, rfl⟩
  have b3 : Below w2.heap.size w2 W3 := by rw [hW3]; exact ((Below.refl _ _).alloc (Nat.le_refl _) _).alloc (by simp) _
  have HJ3 := Lib.hid (show Jn W3 (w2.heap.size + 1) 0 1 1 (.slice (some ⟨w2.heap.size, 0, none⟩) 1 1) ⟨false, false, 0, 0, 0, false⟩ by
    rw [hW3]
    exact Bk.new' _ 129 [_, _, _, _, _, _, _, _, _, _] (by simp))
  have HA3 := Lib.hid (show Ws W3 (.slice (some ⟨w2.heap.size, 0, none⟩) 1 1) [1] by
    rw [hW3]
    exact (ws_new1 w2 1 (by decide)).below ((Below.refl _ _).alloc (Nat.le_refl _) _))
  have HP3 := Lib.hid (HP2.out.below b3)
  have HC3 := Lib.hid (HC2.out.below b3)
  have HF3 := Lib.hid (HF2.out.trans (.of b3))
  have hgl2 := HP2.out.2.1.lt
  have hbl2 := HP2.out.1.lt
  clear b3
  go_wp2_with fail
  simp only [← hW3]
  clear hW3
  refine (jn_look 0 0 1 1 1 (w2.heap.size + 1) b g _ [1] [2] false 0 0 0 W3 (by decide) (by decide) (by decide) (by decide) HA3.out (fun a c h _ => ws_apart h (by omega)) HP3.out HJ3.out 2 1 (by decide) (by decide) (by decide) (by decide) (fun x y => x ||| y) lmay_any' (by decide)).mono ?_
  rintro e w4 ⟨rfl, hJ, hF⟩
  have HJ4 := Lib.hid hJ
  have HP4 := Lib.hid (pm_fr5 HP3.out hF (by simp; omega) (by simp; omega))
  have HA4 := Lib.hid (HA3.out.fr hF (fun a c h _ => by simp; exact ws_apart h (by omega)))
  have HC4 := Lib.hid (HC3.out.fr hF (by simp; omega))
  have HF4 := Lib.hid (HF3.out.from hF (fun i hi hl => by rw [List.mem_singleton.1 hi] at hl; have := HF2.out.size; omega))
  clear hJ hF
  go_wp2_with fail
  refine (jn_hit 0 0 1 1 1 (w2.heap.size + 1) b g _ [1] [2] false 0 0 w4 (by decide) (by decide) (by decide) (by decide) HA4.out (fun a c h _ => ws_apart h (by omega)) HP4.out 2 1 HJ4.out (by decide) (by decide) (by decide) (fun x y => x ||| y) lmay_any' (by decide)).mono ?_
  rintro e w5 ⟨rfl, hJ, hP, hF⟩
  rw [show casv [2] (0 + (0 : Nat)) (2 : Nat) (((fun x y => x ||| y) 2 1 : Nat) : Int) = [3] from by decide] at hP
  have c5 : w5.cell? ⟨w2.heap.size + 1, 4, none⟩ = some (.bool true) := hJ.cell 4
  have HP5 := Lib.hid hP
  have HC5 := Lib.hid (HC4.out.fr hF (by simp; omega))
  have HF5 := Lib.hid (HF4.out.from hF (fun i hi hl => by
    rcases List.mem_cons.1 hi with h | h
    · have := HF2.out.size; omega
    · rw [List.mem_singleton.1 h] at hl; have := HSZ.out; omega))
  clear hJ hP hF
  have r0 : w5.cell? ⟨w1.heap.size, 0, none⟩ = some (.int .i64 0) := HC5.out.cell 0
  have r1 : w5.cell? ⟨w1.heap.size, 1, none⟩ = some (.int .i64 1) := HC5.out.cell 1
  have r2 : w5.cell? ⟨w1.heap.size, 2, none⟩ = some (.int .i64 1) := HC5.out.cell 2
  go_wp2_with fail
  refine (get_any 0 1 1 b g [3] w5 (by decide) HP5.out).mono ?_
  rintro e w6 ⟨v', rfl, hO, hB⟩
  rw [show (cwn 1).toNat = 1 from by decide, show getE [3] 0 1 = [3] from by decide] at hO
  obtain ⟨lb, c, rfl, _, hc⟩ := row_at30 hO (by decide)
  have t0 := hc 0 _ rfl
  have HF6 := Lib.hid (HF5.out.trans (.of hB))
  clear hO hB hc
  go_wp2_with fail
  go_ret
  exact ⟨rfl, HF6.out.below⟩


end Go.Proofs.Yteheckcflnogbaa
