/-
  soughref01.Op and Word: contracts.
-/
import Derived.Test.YtflkelnfdoihlaaGaussRef
import Derived.Test.YtflkelnfdoihlaaGaussOp
import Derived.Test.YtflkelnfdoihlaaWord
namespace Go.Proofs.Ytflkelnfdoihlaa
open Go.RowKit

theorem wr_wr (x : Int) : wr (wr x) = wr x := by unfold wr; omega

/-- The three pairs that soughref01.Op keeps. -/
def RS (w W : World) (a b c d : Int) : Prop :=
  P2 W w.heap.size (.int .i64 a) (.int .i64 b) ∧ P2 W (w.heap.size + 1) (.int .i64 c) (.int .i64 d) ∧ P2 W (w.heap.size + 1 + 1) (.int .i64 0) (.int .i64 0) ∧ Below w.heap.size w W
theorem RS.keep {w W W1 : World} {a b c d : Int} (h : RS w W a b c d) (k : Below W.heap.size W W1) : RS w W1 a b c d := ⟨h.1.keep k, h.2.1.keep k, h.2.2.1.keep k, bel_then h.2.2.2 k⟩

/-- What Op comes to, once both numbers are wrapped. -/
def ropE (op : Int) : Bool := decide (0 ≤ op ∧ op ≤ 4)

set_option maxHeartbeats 3200000 in
set_option maxRecDepth 100000 in
theorem rop_any (op a b c d : Int) (w : World) :
    Calls Try.prog 94 #[.int .i64 op, .agg #[.int .i64 a, .int .i64 b], .agg #[.int .i64 c, .int .i64 d]] w fun e w' => e = .returned (.tuple #[.agg #[.int .i64 (gop op a b c d).1, .int .i64 (gop op a b c d).2], .bool (ropE op)]) ∧ Below w.heap.size w w' := by
  have hres : ∀ x y z, (gop op a b c d) = (x, y) → ropE op = z → Ending.returned (.tuple #[.agg #[.int .i64 (gop op a b c d).1, .int .i64 (gop op a b c d).2], .bool (ropE op)]) = .returned (.tuple #[.agg #[.int .i64 x, .int .i64 y], .bool z]) := fun x y z h k => by rw [h, k]
  have Hres := Lib.hid hres
  clear hres
  have hb := And.intro (wr_bd a) (And.intro (wr_bd b) (And.intro (wr_bd c) (wr_bd d)))
  have Hb := Lib.hid hb
  clear hb
  go_enter Try.func94, Try.ntmps94
  go_wp2_with fail
  refine (rof_any _ _ _).mono ?_
  rintro e w1 ⟨rfl, hB1⟩
  have p0 := (((P2.new w (.int .i64 a) (.int .i64 b) 78).alloc (.cells #[.int .i64 c, .int .i64 d] 78)).alloc (.cells #[.int .i64 0, .int .i64 0] 78)).keep hB1
  have p1 := ((P2.new (w.alloc (.cells #[.int .i64 a, .int .i64 b] 78)) (.int .i64 c) (.int .i64 d) 78).alloc (.cells #[.int .i64 0, .int .i64 0] 78)).keep hB1
  have p2 := (P2.new ((w.alloc (.cells #[.int .i64 a, .int .i64 b] 78)).alloc (.cells #[.int .i64 c, .int .i64 d] 78)) (.int .i64 0) (.int .i64 0) 78).keep hB1
  have q0 := ((((Below.refl w.heap.size w).alloc (Nat.le_refl _) (.cells #[.int .i64 a, .int .i64 b] 78)).alloc (by simp) (.cells #[.int .i64 c, .int .i64 d] 78)).alloc (by simp; omega) (.cells #[.int .i64 0, .int .i64 0] 78)).trans (hB1.mono (by simp; omega))
  simp only [World.size_alloc] at p1 p2
  have S1 := Lib.hid (show RS w _ (wr a) (wr b) c d from ⟨p0.set (.int .i64 (wr a)) (.int .i64 (wr b)), p1.other (by omega) _ _, p2.other (by omega) _ _, bel_set2 q0 (Nat.le_refl _) _ _⟩)
  obtain ⟨a0, a1, a2, a3⟩ := p0
  obtain ⟨b0, b1, b2, b3⟩ := p1
  clear p2 q0 hB1
  go_wp2_with fail
  generalize (w1.setCell ⟨w.heap.size, 0, none⟩ (.int .i64 (wr a))).setCell ⟨w.heap.size, 1, none⟩ (.int .i64 (wr b)) = W1 at *
  clear a0 a1 a2 a3 b0 b1 b2 b3
  refine (rof_any _ _ _).mono ?_
  rintro e w2 ⟨rfl, hB2⟩
  have s2 := S1.out.keep hB2
  have S3 := Lib.hid (show RS w _ (wr a) (wr b) (wr c) (wr d) from ⟨s2.1.other (by omega) _ _, s2.2.1.set (.int .i64 (wr c)) (.int .i64 (wr d)), s2.2.2.1.other (by omega) _ _, bel_set2 s2.2.2.2 (by omega) _ _⟩)
  obtain ⟨⟨a0, a1, a2, a3⟩, ⟨b0, b1, b2, b3⟩, ⟨c0, c1, c2, c3⟩, hB3⟩ := s2
  clear hB2 hB3 S1
  obtain ⟨ba, bb, bc, bd⟩ := Hb.out
  rcases (show op = 0 ∨ op = 1 ∨ op = 2 ∨ op = 3 ∨ op = 4 ∨ (op < 0 ∨ 4 < op) from by omega) with h | h | h | h | h | h
  · subst h
    go_wp2_with fail
    exact bodyPost_ret (v := .tuple #[.agg #[.int .i64 (wr a), .int .i64 (wr b)], .bool true]) (by simp [results, Try.results94, go_sem, c0, c1]) rfl ⟨(Hres.out _ _ _ (by simp [gop, wr_wr]) rfl).symm, bel_set2 S3.out.2.2.2 (by omega) _ _⟩
  · subst h
    go_wp2_with fail
    generalize (w2.setCell ⟨w.heap.size + 1, 0, none⟩ (.int .i64 (wr c))).setCell ⟨w.heap.size + 1, 1, none⟩ (.int .i64 (wr d)) = W3 at *
    clear a0 a1 a2 a3 b0 b1 b2 b3 c0 c1 c2 c3
    refine (rof_any _ _ _).mono ?_
    rintro e w4 ⟨rfl, hB4⟩
    have s4 := S3.out.keep hB4
    obtain ⟨c0, c1, c2, c3⟩ := s4.2.2.1
    have HB := Lib.hid s4.2.2.2
    clear hB4 s4 S3
    go_wp2_with fail
    exact bodyPost_ret (v := .tuple #[.agg #[.int .i64 (wr (wr a + wr c)), .int .i64 (wr (wr b + wr d))], .bool true]) (by simp [results, Try.results94, go_sem, c0, c1]) rfl ⟨(Hres.out _ _ _ (by simp [gop]) rfl).symm, bel_set2 HB.out (by omega) _ _⟩
  · subst h
    go_wp2_with fail
    generalize (w2.setCell ⟨w.heap.size + 1, 0, none⟩ (.int .i64 (wr c))).setCell ⟨w.heap.size + 1, 1, none⟩ (.int .i64 (wr d)) = W3 at *
    clear a0 a1 a2 a3 b0 b1 b2 b3 c0 c1 c2 c3
    refine (rof_any _ _ _).mono ?_
    rintro e w4 ⟨rfl, hB4⟩
    have s4 := S3.out.keep hB4
    obtain ⟨c0, c1, c2, c3⟩ := s4.2.2.1
    have HB := Lib.hid s4.2.2.2
    clear hB4 s4 S3
    go_wp2_with fail
    exact bodyPost_ret (v := .tuple #[.agg #[.int .i64 (wr (wr a - wr c)), .int .i64 (wr (wr b - wr d))], .bool true]) (by simp [results, Try.results94, go_sem, c0, c1]) rfl ⟨(Hres.out _ _ _ (by simp [gop]) rfl).symm, bel_set2 HB.out (by omega) _ _⟩
  · subst h
    have mac := mul_bd ba bc
    have mbd := mul_bd bb bd
    have mad := mul_bd ba bd
    have mbc := mul_bd bb bc
    go_wp2_with fail
    generalize (w2.setCell ⟨w.heap.size + 1, 0, none⟩ (.int .i64 (wr c))).setCell ⟨w.heap.size + 1, 1, none⟩ (.int .i64 (wr d)) = W3 at *
    clear a0 a1 a2 a3 b0 b1 b2 b3 c0 c1 c2 c3
    refine (rof_any _ _ _).mono ?_
    rintro e w4 ⟨rfl, hB4⟩
    have s4 := S3.out.keep hB4
    obtain ⟨c0, c1, c2, c3⟩ := s4.2.2.1
    have HB := Lib.hid s4.2.2.2
    clear hB4 s4 S3
    go_wp2_with fail
    exact bodyPost_ret (v := .tuple #[.agg #[.int .i64 (wr (wr a * wr c - wr b * wr d)), .int .i64 (wr (wr a * wr d + wr b * wr c))], .bool true]) (by simp [results, Try.results94, go_sem, c0, c1]) rfl ⟨(Hres.out _ _ _ (by simp [gop]) rfl).symm, bel_set2 HB.out (by omega) _ _⟩
  · subst h
    go_wp2_with fail
    generalize (w2.setCell ⟨w.heap.size + 1, 0, none⟩ (.int .i64 (wr c))).setCell ⟨w.heap.size + 1, 1, none⟩ (.int .i64 (wr d)) = W3 at *
    clear a0 a1 a2 a3 b0 b1 b2 b3 c0 c1 c2 c3
    refine (rof_any _ _ _).mono ?_
    rintro e w4 ⟨rfl, hB4⟩
    have s4 := S3.out.keep hB4
    obtain ⟨c0, c1, c2, c3⟩ := s4.2.2.1
    have HB := Lib.hid s4.2.2.2
    clear hB4 s4 S3
    go_wp2_with fail
    exact bodyPost_ret (v := .tuple #[.agg #[.int .i64 (wr (wr a)), .int .i64 (wr (-(wr b)))], .bool true]) (by simp [results, Try.results94, go_sem, c0, c1]) rfl ⟨(Hres.out _ _ _ (by simp [gop]) rfl).symm, bel_set2 HB.out (by omega) _ _⟩
  · have e0 : (op == 0) = false := by simp; omega
    have e1 : (op == 1) = false := by simp; omega
    have e2 : (op == 2) = false := by simp; omega
    have e3 : (op == 3) = false := by simp; omega
    have e4 : (op == 4) = false := by simp; omega
    have hE : ropE op = false := by simp [ropE]; omega
    have Hr := Lib.hid (Hres.out _ _ _ (gop_none h) hE)
    clear h ba bb bc bd hE
    go_wp2_with fail
    exact bodyPost_ret (v := .tuple #[.agg #[.int .i64 0, .int .i64 0], .bool false]) (by simp [results, Try.results94, go_sem, c0, c1]) rfl ⟨Hr.out.symm, bel_set2 S3.out.2.2.2 (by omega) _ _⟩

end Go.Proofs.Ytflkelnfdoihlaa
