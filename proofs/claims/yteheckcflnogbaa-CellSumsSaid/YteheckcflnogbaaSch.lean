/-
  Machines behind an interface, run by a script: sched.Who, Each, Run: contracts. Written by wip/gen/mksch1.py.
-/
import Derived.Test.YteheckcflnogbaaMemJ
import Derived.Test.YteheckcflnogbaaMemAll
import Derived.Test.YteheckcflnogbaaPicks
import Derived.Test.YteheckcflnogbaaWho
import Derived.Test.YteheckcflnogbaaGoto
import Derived.Test.YteheckcflnogbaaTake
import Derived.RegionTactic
import Derived.BigRegion
import Derived.Deep.CutRange
import Derived.Deep.DeepCutAuto
import Derived.Outline
import Derived.WalkSpells
namespace Go.Proofs.Yteheckcflnogbaa
open Go.RowKit

/-! ### A scope with labels whose passes are walked once -/
section
variable {P : Program}
theorem wp_mono {c : Code} {Q R : Exit → Act → World → Prop} {a : Act} {w : World} (h : c.wp P Q a w) (hm : ∀ e a w, Q e a w → R e a w) : c.wp P R a w := fun b k cs => by
  obtain ⟨e, a1, w1, hq, harr⟩ := h b k cs
  exact ⟨e, a1, w1, hm _ _ _ hq, harr⟩
theorem jumps_mono {J K : Nat → Act → World → Prop} {Q : Exit → Act → World → Prop} (h : ∀ l a w, J l a w → K l a w) : ∀ e a w, jumps J Q e a w → jumps K Q e a w := fun e a w hq => by
  cases e <;> first | exact h _ _ _ hq | exact hq
theorem wp_scope_once {c : Code} {Q : Exit → Act → World → Prop} {a : Act} {w : World} (J : Nat → Act → World → Prop) (μ : Nat → Act → World → Nat)
    (pass : ∀ l a w, J l a w → ∃ rest, findLabel c l = some (.seq .skip rest) ∧ rest.wp P (jumps (fun l' a' w' => J l' a' w' ∧ μ l' a' w' < μ l a w) Q) a w)
    (first : (∀ l a w, J l a w → ∃ rest, findLabel c l = some (.seq .skip rest) ∧ rest.wp P (jumps J Q) a w) → c.wp P (jumps J Q) a w) : (Code.scope c).wp P Q a w :=
  wp_scope_inv J μ (first fun l a w h => by
    obtain ⟨rest, h1, h2⟩ := pass l a w h
    exact ⟨rest, h1, wp_mono h2 (jumps_mono fun _ _ _ h => h.1)⟩) fun l a w h => by
    obtain ⟨rest, h1, h2⟩ := pass l a w h
    exact ⟨_, h1, wp_seq (wp_skip h2)⟩
theorem some_wp {c rest : Code} {l : Nat} {Q : Exit → Act → World → Prop} {a : Act} {w : World} (hf : findLabel c l = some (.seq .skip rest)) (h : ∃ r, findLabel c l = some (.seq .skip r) ∧ r.wp P Q a w) : rest.wp P Q a w := by
  obtain ⟨r, h1, h2⟩ := h
  rw [hf] at h1
  injection h1 with h1
  injection h1 with _ h1
  exact h1 ▸ h2
end

/-! ### What a run does -/
def whoN (n : Nat) (x : Int) : Nat := (whoE x n).toNat
theorem whoN_lt {n : Nat} (h : 0 < n) (x : Int) : whoN n x < n := by unfold whoN; have := whoE_lt x n h; omega
theorem whoN_int {n : Nat} (h : 0 < n) (x : Int) : whoE x n = (whoN n x : Nat) := by unfold whoN; have := whoE_lt x n h; omega
/-- A run's state: the machines' and the memory's, how many Steps each did, which are done. -/
structure RunT (σ : Type) where
  s : σ
  st : List Int
  dn : List Bool
def dnAt (l : List Bool) (i : Nat) : Bool := l[i]?.getD true
section
variable {σ : Type}
def pickE (n : Nat) (stp : σ → Nat → Int → σ × Bool) (x : RunT σ) (p : Int × Int) : RunT σ :=
  if dnAt x.dn (whoN n p.1) = true then x else ⟨(stp x.s (whoN n p.1) p.2).1, x.st.set (whoN n p.1) (wd x.st (whoN n p.1) + 1), x.dn.set (whoN n p.1) (stp x.s (whoN n p.1) p.2).2⟩
def runE (n : Nat) (stp : σ → Nat → Int → σ × Bool) (x : RunT σ) (L : List (Int × Int)) : RunT σ := L.foldl (pickE n stp) x
def startE' (n : Nat) (nil : Nat → Bool) (s : σ) : RunT σ := ⟨s, List.replicate n 0, (List.range n).map nil⟩
def leftE (l : List Bool) : Nat := l.count false
theorem runE_snoc (n : Nat) (stp : σ → Nat → Int → σ × Bool) (x : RunT σ) (L : List (Int × Int)) (p : Int × Int) : runE n stp x (L ++ [p]) = pickE n stp (runE n stp x L) p := by unfold runE; rw [List.foldl_append]; rfl
theorem pickE_len {n : Nat} {stp : σ → Nat → Int → σ × Bool} {x : RunT σ} {p : Int × Int} (h : x.st.length = n ∧ x.dn.length = n) : (pickE n stp x p).st.length = n ∧ (pickE n stp x p).dn.length = n := by
  unfold pickE
  split
  · exact h
  · simpa using h
theorem runE_len {n : Nat} {stp : σ → Nat → Int → σ × Bool} (L : List (Int × Int)) : ∀ {x : RunT σ}, x.st.length = n ∧ x.dn.length = n → (runE n stp x L).st.length = n ∧ (runE n stp x L).dn.length = n := by
  induction L with
  | nil => exact fun h => h
  | cons p L ih => exact fun h => ih (pickE_len h)
/-- Behind how many picks a run ends. -/
structure Stops (n : Nat) (stp : σ → Nat → Int → σ × Bool) (x : RunT σ) (L : List (Int × Int)) (k : Nat) : Prop where
  le : k ≤ L.length
  last : leftE (runE n stp x (L.take k)).dn = 0 ∨ k = L.length
  on : ∀ j, j < k → leftE (runE n stp x (L.take j)).dn ≠ 0
end
theorem take_picks (L : List (Int × Int)) (k : Nat) (h : k < L.length) : L.take (k + 1) = L.take k ++ [pickAt L k] := by
  rw [List.take_succ_eq_append_getElem h]
  simp [pickAt, h]
theorem count_set {l : List Bool} {i : Nat} (h : i < l.length) (hf : dnAt l i = false) (b : Bool) : leftE (l.set i b) + (if b = true then 1 else 0) = leftE l := by
  induction l generalizing i with
  | nil => simp at h
  | cons x t ih =>
    cases i with
    | zero =>
      have : x = false := by simpa [dnAt] using hf
      subst this
      cases b <;> simp [leftE]
    | succ i =>
      have := ih (i := i) (by simpa using h) (by simpa [dnAt] using hf)
      simp only [leftE, List.set_cons_succ, List.count_cons] at this ⊢
      omega
theorem left_pos {l : List Bool} {i : Nat} (h : i < l.length) (hf : dnAt l i = false) : 0 < leftE l := by
  unfold leftE
  rw [List.count_pos_iff]
  have : l[i] = false := by simpa [dnAt, h] using hf
  rw [← this]
  exact List.getElem_mem h

/-! ### Machines -/
def MvS {σ : Type} (J : World → σ → List Nat → Prop) (w w' : World) (s : σ) (S : List Nat) : Prop := ∃ S', J w' s S' ∧ Fr S w w' ∧ ∀ k, k ∈ S' → k ∈ S ∨ w.heap.size ≤ k
/-- n machines behind an interface, and the memory (t, p) that they ask: their state s lies in the blocks S. -/
structure Mach {σ : Type} (Wb : World) (n : Nat) (J : World → σ → List Nat → Prop) (stp : σ → Nat → Int → σ × Bool) (t : TypeId) (p : Value) (nil : Nat → Bool) (ts : Nat → TypeId) (ps rs : Nat → Value) (fs : Nat → FuncId) : Prop where
  step : ∀ S s i d w, i < n → nil i = false → J w s S → Fr [] Wb w → Calls Try.prog (fs i) #[rs i, .iface t p, .int .i64 d] w fun e w' => e = .returned (.bool (stp s i d).2) ∧ MvS J w w' (stp s i d).1 S
  enter : ∀ i args w, (callFunc (fs i) args).run Try.prog w = .ok (.enter (fs i) args) w
  nila : ∀ i w, i < n → nil i = false → (nilAhead 394 (ts i) (ps i) "Step").run Try.prog w = .ok (some false) w
  meth : ∀ i w, i < n → nil i = false → (method 394 (ts i) (ps i) "Step").run Try.prog w = .ok (fs i, rs i) w
  keep : ∀ T S s w w', J w s S → Fr T w w' → (∀ x ∈ S, x ∉ T) → J w' s S
  lt : ∀ S s w, J w s S → ∀ x ∈ S, x < w.heap.size
def machV (nil : Nat → Bool) (ts : Nat → TypeId) (ps : Nat → Value) (i : Nat) : Value := if nil i = true then Value.nilIface else .iface (ts i) (ps i)
/-- A slice of machines. -/
def Machs (w : World) (v : Value) (n : Nat) (nil : Nat → Bool) (ts : Nat → TypeId) (ps : Nat → Value) (b : Nat) : Prop :=
  ∃ o c, v = .slice o n c ∧ (0 < n → ∃ off, o = some ⟨b, off, none⟩ ∧ ∀ i, i < n → w.cell? ⟨b, off + i, none⟩ = some (machV nil ts ps i))
theorem Machs.fr {S : List Nat} {w w' : World} {v : Value} {n b : Nat} {nil : Nat → Bool} {ts : Nat → TypeId} {ps : Nat → Value} (h : Machs w v n nil ts ps b) (k : Fr S w w') (hb : 0 < n → b ∉ S) : Machs w' v n nil ts ps b := by
  obtain ⟨o, c, rfl, hc⟩ := h
  refine ⟨o, c, rfl, fun h0 => ?_⟩
  obtain ⟨off, rfl, hd⟩ := hc h0
  exact ⟨off, rfl, fun i hi => cell_fr (hd i hi) k (hb h0)⟩
/-- A slice of picks in block b. -/
def PicksB (w : World) (v : Value) (L : List (Int × Int)) (b : Nat) : Prop :=
  ∃ o c, v = .slice o L.length c ∧ (0 < L.length → ∃ off, o = some ⟨b, off, none⟩ ∧ ∀ j, j < L.length →
    w.cell? ⟨b, off + j * 2, none⟩ = some (.int .i64 (pickAt L j).1) ∧ w.cell? ⟨b, off + j * 2 + 1, none⟩ = some (.int .i64 (pickAt L j).2))
theorem PicksB.fr {S : List Nat} {w w' : World} {v : Value} {L : List (Int × Int)} {b : Nat} (h : PicksB w v L b) (k : Fr S w w') (hb : 0 < L.length → b ∉ S) : PicksB w' v L b := by
  obtain ⟨o, c, rfl, hc⟩ := h
  refine ⟨o, c, rfl, fun h0 => ?_⟩
  obtain ⟨off, rfl, hd⟩ := hc h0
  exact ⟨off, rfl, fun j hj => ⟨cell_fr (hd j hj).1 k (hb h0), cell_fr (hd j hj).2 k (hb h0)⟩⟩
theorem Picks.b {w : World} {v : Value} {L : List (Int × Int)} (h : Picks w v L) : ∃ b, PicksB w v L b ∧ (0 < L.length → b < w.heap.size) := by
  obtain ⟨o, c, rfl, _, hc⟩ := h
  by_cases h0 : 0 < L.length
  · obtain ⟨b, off, rfl, hd⟩ := hc h0
    exact ⟨b, ⟨_, c, rfl, fun _ => ⟨off, rfl, hd⟩⟩, fun _ => cell_lt (hd 0 h0).1⟩
  · exact ⟨0, ⟨o, c, rfl, fun h => absurd h h0⟩, fun h => absurd h h0⟩
theorem make_ints (n : Nat) (hn : n ≤ 1048576) (w : World) :
    (Instr.makeSlice 46 (.int .i64 n) (.int .i64 n)).run Try.prog w = .ok (.slice (some ⟨w.heap.size, 0, none⟩) n n) (w.alloc (.cells (List.replicate n (Value.int .i64 0)).toArray 3)) := by
  have e : madeCells #[Value.int .i64 0] n = (List.replicate n (Value.int .i64 0)).toArray := by rw [← Array.toList_inj, toList_madeCells_one]
  have hinf : (Try.prog.info? 3).map (fun i => (i.zero, i.size, i.bytes)) = some (some (.int .i64 0), 1, 8) := by kernel_rfl
  rw [← e]
  exact run_make_row' (P := Try.prog) 46 3 (.int .i64 0) 8 Try.underlying46 hinf rfl .i64 .i64 n (by omega) (by omega) w
theorem make_bools (n : Nat) (hn : n ≤ 1048576) (w : World) :
    (Instr.makeSlice 82 (.int .i64 n) (.int .i64 n)).run Try.prog w = .ok (.slice (some ⟨w.heap.size, 0, none⟩) n n) (w.alloc (.cells (List.replicate n (Value.bool false)).toArray 4)) := by
  have e : madeCells #[Value.bool false] n = (List.replicate n (Value.bool false)).toArray := by rw [← Array.toList_inj, toList_madeCells_one]
  have hinf : (Try.prog.info? 4).map (fun i => (i.zero, i.size, i.bytes)) = some (some (.bool false), 1, 1) := by kernel_rfl
  rw [← e]
  exact run_make_row' (P := Try.prog) 82 4 (.bool false) 1 Try.underlying82 hinf rfl .i64 .i64 n (by omega) (by omega) w


end Go.Proofs.Yteheckcflnogbaa
