/-
  soughlaw31.move at any kind; begin: contracts. Written by wip/gen/mktp5.py.
-/
import Derived.Test.YteheckcflnogbaaTp4
namespace Go.Proofs.Yteheckcflnogbaa
open Go.RowKit


set_option maxHeartbeats 3200000 in
set_option maxRecDepth 100000 in
theorem move_any (x : OpS) (pb rb b g bw gw : Nat) (zs : List Int) (w : World) (hok : OkS x) (hz : w64 zs) (hp : pbk w pb x) (hr : RB w rb 1 6 x) (hm : Pm w b g zs) (hw : Rm w bw gw zs) (hgg : g ≠ gw) :
    Calls Try.prog 91 #[.agg (opc x.k pb rb).toArray, .pointer (some ⟨b, 0, none⟩), .pointer (some ⟨bw, 0, none⟩)] w fun e w' => e = .returned (.bool true) ∧ pbk w' pb (opX (adr x.v) 6 x zs) ∧ RB w' rb 1 6 (opX (adr x.v) 6 x zs) ∧ Pm w' b g (opZ (adr x.v) 6 x zs) ∧ Rm w' bw gw (opZ (adr x.v) 6 x zs) ∧ Fr [pb, rb, g, gw] w w' := by
  have hkv := (opX_kv (adr x.v) 6 x zs).1
  unfold pbk at hp ⊢
  rw [hkv]
  by_cases k1 : x.k = 1
  · simp only [if_pos k1] at hp ⊢
    rw [show opc x.k pb rb = [.pointer (some ⟨pb, 0, none⟩), .pointer none, .pointer none, .pointer none, .pointer (some ⟨rb, 0, none⟩)] by rw [k1]; rfl]
    exact move1 x _ pb rb b g bw gw zs _ w rfl rfl k1 hok hz hp hr hm hw hgg
  by_cases k2 : x.k = 2
  · simp only [if_neg k1, if_pos k2] at hp ⊢
    rw [show opc x.k pb rb = [.pointer none, .pointer (some ⟨pb, 0, none⟩), .pointer none, .pointer none, .pointer (some ⟨rb, 0, none⟩)] by rw [k2]; rfl]
    exact move2 x _ pb rb b g bw gw zs _ w rfl rfl k2 hok hz hp hr hm hw hgg
  by_cases k3 : x.k = 3
  · simp only [if_neg k1, if_neg k2, if_pos k3] at hp ⊢
    rw [show opc x.k pb rb = [.pointer none, .pointer none, .pointer (some ⟨pb, 0, none⟩), .pointer none, .pointer (some ⟨rb, 0, none⟩)] by rw [k3]; rfl]
    exact move3 x _ pb rb b g bw gw zs _ w rfl rfl k3 hok hz hp hr hm hw hgg
  · simp only [if_neg k1, if_neg k2, if_neg k3] at hp ⊢
    rw [show opc x.k pb rb = [.pointer none, .pointer none, .pointer none, .pointer (some ⟨pb, 0, none⟩), .pointer (some ⟨rb, 0, none⟩)] by unfold opc ptr; rw [if_neg k1, if_neg k2, if_neg k3, if_neg (fun h => h.elim k1 (fun h => h.elim k2 k3))]]
    exact move4 x _ pb rb b g bw gw zs _ w rfl rfl ⟨k1, k2, k3⟩ hok hz hp hr hm hw hgg

theorem begin_ret {Q : Ending → World → Prop} {tm : Array Value} {W : World} {n : Nat} {a b c d e : Value} (hp : tm[4]?.getD undef = .pointer (some ⟨n, 0, none⟩)) (hb : Bk W n 153 [a, b, c, d, e])
    (h : Q (.returned (.agg #[a, b, c, d, e])) W) : bodyPost Try.prog Try.f90 Q Exit.ret { tmps := tm, defers := [] } W := by
  have c0 : W.cell? ⟨n, 0, none⟩ = some a := hb.cell 0
  have c1 : W.cell? ⟨n, 1, none⟩ = some b := hb.cell 1
  have c2 : W.cell? ⟨n, 2, none⟩ = some c := hb.cell 2
  have c3 : W.cell? ⟨n, 3, none⟩ = some d := hb.cell 3
  have c4 : W.cell? ⟨n, 4, none⟩ = some e := hb.cell 4
  exact bodyPost_ret (v := .agg #[a, b, c, d, e]) (by simp [results, Try.results90, go_sem, hp, c0, c1, c2, c3, c4]) rfl h

set_option maxHeartbeats 3200000 in
set_option maxRecDepth 100000 in
theorem begin1 (v : Int) (w : World) :
    Calls Try.prog 90 #[.agg #[.int .i64 1, .int .i64 v], .agg #[.int .i64 1, .int .i64 6]] w fun e w' => e = .returned (.agg #[.pointer (some ⟨w.heap.size + 5, 0, none⟩), .pointer none, .pointer none, .pointer none, .pointer (some ⟨w.heap.size + 3, 0, none⟩)]) ∧ Bk w' (w.heap.size + 5) 225 [.int .i64 1, .int .i64 6, .int .i64 v, .bool false, .bool false, .int .i64 0, .bool false] ∧ RB w' (w.heap.size + 3) 1 6 ⟨1, v, 0, false, false, false, 0⟩ ∧ Below w.heap.size w w' := by
  go_enter Try.func90, Try.ntmps90
  go_wp2_with fail
  refine begin_ret (n := w.heap.size + 1 + 1) (by rfl) ((((Bk.new' _ 153 [_, _, _, _, _] (by simp)).alloc _).alloc _).alloc _) ⟨rfl, Bk.new' _ 225 [_, _, _, _, _, _, _] (by simp), ((Bk.new' _ 227 [_, _, _, _, _, _, _, _, _] (by simp)).alloc _).alloc _, ?_⟩
  exact ((((((Below.refl _ _).alloc (Nat.le_refl _) _).alloc (by simp) _).alloc (by simp <;> omega) _).alloc (by simp <;> omega) _).alloc (by simp <;> omega) _).alloc (by simp <;> omega) _

set_option maxHeartbeats 3200000 in
set_option maxRecDepth 100000 in
theorem begin2 (v : Int) (w : World) :
    Calls Try.prog 90 #[.agg #[.int .i64 2, .int .i64 v], .agg #[.int .i64 1, .int .i64 6]] w fun e w' => e = .returned (.agg #[.pointer none, .pointer (some ⟨w.heap.size + 5, 0, none⟩), .pointer none, .pointer none, .pointer (some ⟨w.heap.size + 3, 0, none⟩)]) ∧ Bk w' (w.heap.size + 5) 229 [.int .i64 1, .int .i64 6, .int .i64 v, .bool false] ∧ RB w' (w.heap.size + 3) 1 6 ⟨2, v, 0, false, false, false, 0⟩ ∧ Below w.heap.size w w' := by
  go_enter Try.func90, Try.ntmps90
  go_wp2_with fail
  refine begin_ret (n := w.heap.size + 1 + 1) (by rfl) ((((Bk.new' _ 153 [_, _, _, _, _] (by simp)).alloc _).alloc _).alloc _) ⟨rfl, Bk.new' _ 229 [_, _, _, _] (by simp), ((Bk.new' _ 227 [_, _, _, _, _, _, _, _, _] (by simp)).alloc _).alloc _, ?_⟩
  exact ((((((Below.refl _ _).alloc (Nat.le_refl _) _).alloc (by simp) _).alloc (by simp <;> omega) _).alloc (by simp <;> omega) _).alloc (by simp <;> omega) _).alloc (by simp <;> omega) _

set_option maxHeartbeats 3200000 in
set_option maxRecDepth 100000 in
theorem begin3 (v : Int) (w : World) :
    Calls Try.prog 90 #[.agg #[.int .i64 3, .int .i64 v], .agg #[.int .i64 1, .int .i64 6]] w fun e w' => e = .returned (.agg #[.pointer none, .pointer none, .pointer (some ⟨w.heap.size + 5, 0, none⟩), .pointer none, .pointer (some ⟨w.heap.size + 3, 0, none⟩)]) ∧ Bk w' (w.heap.size + 5) 231 [.int .i64 1, .int .i64 6, .int .i64 0, .bool false] ∧ RB w' (w.heap.size + 3) 1 6 ⟨3, v, 0, false, false, false, 0⟩ ∧ Below w.heap.size w w' := by
  go_enter Try.func90, Try.ntmps90
  go_wp2_with fail
  refine begin_ret (n := w.heap.size + 1 + 1) (by rfl) ((((Bk.new' _ 153 [_, _, _, _, _] (by simp)).alloc _).alloc _).alloc _) ⟨rfl, Bk.new' _ 231 [_, _, _, _] (by simp), ((Bk.new' _ 227 [_, _, _, _, _, _, _, _, _] (by simp)).alloc _).alloc _, ?_⟩
  exact ((((((Below.refl _ _).alloc (Nat.le_refl _) _).alloc (by simp) _).alloc (by simp <;> omega) _).alloc (by simp <;> omega) _).alloc (by simp <;> omega) _).alloc (by simp <;> omega) _

set_option maxHeartbeats 3200000 in
set_option maxRecDepth 100000 in
theorem begin4 (k v : Int) (w : World) (h1 : k ≠ 1) (h2 : k ≠ 2) (h3 : k ≠ 3)  :
    Calls Try.prog 90 #[.agg #[.int .i64 k, .int .i64 v], .agg #[.int .i64 1, .int .i64 6]] w fun e w' => e = .returned (.agg #[.pointer none, .pointer none, .pointer none, .pointer (some ⟨w.heap.size + 5, 0, none⟩), .pointer (some ⟨w.heap.size + 3, 0, none⟩)]) ∧ Bk w' (w.heap.size + 5) 233 [.int .i64 1, .int .i64 6, .bool false, .bool false] ∧ RB w' (w.heap.size + 3) 1 6 ⟨k, v, 0, false, false, false, 0⟩ ∧ Below w.heap.size w w' := by
  have b1 : (k == 1) = false := by simpa using h1
  have b2 : (k == 2) = false := by simpa using h2
  have b3 : (k == 3) = false := by simpa using h3

  go_enter Try.func90, Try.ntmps90
  go_wp2_with fail
  refine begin_ret (n := w.heap.size + 1 + 1) (by rfl) ((((Bk.new' _ 153 [_, _, _, _, _] (by simp)).alloc _).alloc _).alloc _) ⟨rfl, Bk.new' _ 233 [_, _, _, _] (by simp), ((Bk.new' _ 227 [_, _, _, _, _, _, _, _, _] (by simp)).alloc _).alloc _, ?_⟩
  exact ((((((Below.refl _ _).alloc (Nat.le_refl _) _).alloc (by simp) _).alloc (by simp <;> omega) _).alloc (by simp <;> omega) _).alloc (by simp <;> omega) _).alloc (by simp <;> omega) _


end Go.Proofs.Yteheckcflnogbaa
