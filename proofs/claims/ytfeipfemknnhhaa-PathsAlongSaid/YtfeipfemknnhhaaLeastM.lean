/-
  The Steps made of the values of which most is known: they rise, and come to rest soon enough; plain mathematics.
-/
import Derived.Test.YtfeipfemknnhhaaPk2
namespace Go.Proofs.Ytfeipfemknnhhaa
open Go.RowKit

/-- k Steps. -/
def iterE (s : SysT) : Nat → List (List Nat)
  | 0 => bottomS s
  | k + 1 => stepE s (iterE s k)
theorem bottomS_at (s : SysT) {v : Nat} (h : v < s.nodes.toNat) : lsAt (bottomS s) v = bottomE s.what s.width := by
  unfold lsAt bottomS
  simp [h]
theorem bottomS_len (s : SysT) : (bottomS s).length = s.nodes.toNat := by simp [bottomS]
theorem bottomS_ok {s : SysT} (h : OkS s) : valuesE s (bottomS s) = true ∧ LtA (bottomS s) := by
  constructor
  · unfold valuesE
    rw [Bool.and_eq_true, decide_eq_true_eq, bottomS_len]
    refine ⟨by have := h.n1; omega, all_of_get [] fun j hj => ?_⟩
    rw [bottomS_len] at hj
    show valueE s.what s.width (lsAt (bottomS s) j) = true
    rw [bottomS_at s hj]
    exact bottom_value h.is
  · intro j hj
    rw [bottomS_len] at hj
    rw [bottomS_at s hj]
    exact bottom_lt _ _
theorem iter_ok {s : SysT} (h : OkS s) (hs : LtS s) : ∀ k, valuesE s (iterE s k) = true ∧ LtA (iterE s k)
  | 0 => bottomS_ok h
  | k + 1 => step_values h hs (iter_ok h hs k).2 (iter_ok h hs k).1
theorem belowS_of {s : SysT} {a b : List (List Nat)} (hl : a.length = b.length) (h : ∀ v, v < a.length → belowE s.what (lsAt a v) (lsAt b v) = true) : belowS s a b = true := by
  unfold belowS
  rw [decide_eq_true hl, Bool.true_and, List.all_eq_true]
  exact fun v hv => h v (List.mem_range.1 hv)
theorem bottomS_below {s : SysT} (_h : OkS s) {a : List (List Nat)} (ha : LtA a) (va : valuesE s a = true) : belowS s (bottomS s) a = true := by
  have la := values_len va
  refine belowS_of (by rw [bottomS_len, la]) fun v hv => ?_
  rw [bottomS_len] at hv
  rw [bottomS_at s hv]
  exact bottom_below (ha v (by omega)) (values_at va v hv)
theorem iter_rise {s : SysT} (h : OkS s) (hs : LtS s) : ∀ k, belowS s (iterE s k) (iterE s (k + 1)) = true
  | 0 => bottomS_below h (iter_ok h hs 1).2 (iter_ok h hs 1).1
  | k + 1 => step_up_s h hs (iter_ok h hs k).2 (iter_ok h hs (k + 1)).2 (iter_ok h hs k).1 (iter_ok h hs (k + 1)).1 (iter_rise h hs k)
/-- What a Step makes no greater is above all of them. -/
theorem iter_below {s : SysT} (h : OkS s) (hs : LtS s) {a : List (List Nat)} (ha : LtA a) (va : valuesE s a = true) (hst : belowS s (stepE s a) a = true) : ∀ k, belowS s (iterE s k) a = true
  | 0 => bottomS_below h ha va
  | k + 1 => by
    have ih := iter_below h hs ha va hst k
    have up := step_up_s h hs (iter_ok h hs k).2 ha (iter_ok h hs k).1 va ih
    have s1 := step_values h hs ha va
    have s2 := iter_ok h hs (k + 1)
    refine belowS_of (by rw [values_len s2.1, values_len va]) fun v hv => ?_
    have hv' : v < s.nodes.toNat := by rw [← values_len s2.1]; exact hv
    exact below_trans (s2.2 v hv) (s1.2 v (by rw [values_len s1.1]; exact hv')) (ha v (by rw [values_len va]; exact hv')) (values_at s2.1 v hv') (values_at s1.1 v hv') (values_at va v hv')
      (belowS_at up v hv) (belowS_at hst v (by rw [values_len s1.1]; exact hv'))

/-! ### Ranks -/
def rankS (s : SysT) (a : List (List Nat)) (k : Nat) : Int := match k with
  | 0 => 0
  | k + 1 => rankS s a k + rankE s.what s.width (lsAt a k)
theorem rank_nonneg {what width : Int} {a : List Nat} (hw : width ≤ 200) (ha : Lt64 a) (va : valueE what width a = true) : 0 ≤ rankE what width a := by
  have hL := value_is va
  have hn := isL_near hL
  rcases isL_what hL with rfl | rfl | rfl
  · show (0 : Int) ≤ ((lenE a : Nat) : Int)
    omega
  · have hr := rank_join (bottom_lt 2 width) ha (bottom_value hL) va
    rw [below_eq (bottom_below ha va)] at hr
    have hb : bottomE 2 width = fullE width := by unfold bottomE; rw [if_pos ⟨rfl, hL⟩]
    have hf := full_len width (by omega)
    have e : rankE 2 width (bottomE 2 width) = width - ((lenE (fullE width) : Nat) : Int) := by rw [hb]; rfl
    have := hr.1
    omega
  · show (0 : Int) ≤ (((a.map crankN).sum : Nat) : Int)
    omega
theorem rankS_le {s : SysT} (hw : s.width ≤ 200) {a : List (List Nat)} (ha : LtA a) (va : valuesE s a = true) : ∀ k, k ≤ s.nodes.toNat → rankS s a k ≤ k * heightE s.what s.width
  | 0, _ => by simp [rankS]
  | k + 1, hk => by
    have ih := rankS_le hw ha va k (by omega)
    have := rank_height (ha k (by rw [values_len va]; omega)) (values_at va k (by omega)) (by omega)
    unfold rankS
    rw [show ((k + 1 : Nat) : Int) * heightE s.what s.width = k * heightE s.what s.width + heightE s.what s.width by rw [Int.natCast_add, Int.add_mul]; simp]
    omega
theorem rankS_rise {s : SysT} {a b : List (List Nat)} (ha : LtA a) (hb : LtA b) (va : valuesE s a = true) (vb : valuesE s b = true) (h : belowS s a b = true) : ∀ k, k ≤ s.nodes.toNat →
    rankS s a k ≤ rankS s b k ∧ (rankS s a k = rankS s b k → ∀ v, v < k → lsAt a v = lsAt b v)
  | 0, _ => ⟨by simp [rankS], fun _ v hv => by omega⟩
  | k + 1, hk => by
    have ih := rankS_rise ha hb va vb h k (by omega)
    have hka : k < a.length := by rw [values_len va]; omega
    have hkb : k < b.length := by rw [values_len vb]; omega
    have hr := rank_join (ha k hka) (hb k hkb) (values_at va k (by omega)) (values_at vb k (by omega))
    rw [below_eq (belowS_at h k hka)] at hr
    unfold rankS
    refine ⟨by have := hr.1; omega, fun e v hv => ?_⟩
    have e1 : rankS s a k = rankS s b k := by have := hr.1; have := ih.1; omega
    have e2 : rankE s.what s.width (lsAt a k) = rankE s.what s.width (lsAt b k) := by omega
    rcases (show v < k ∨ v = k by omega) with hv | rfl
    · exact ih.2 e1 v hv
    · exact hr.2.1 e2
theorem rankS_nonneg {s : SysT} (hw : s.width ≤ 200) {a : List (List Nat)} (ha : LtA a) (va : valuesE s a = true) : ∀ k, k ≤ s.nodes.toNat → 0 ≤ rankS s a k
  | 0, _ => by simp [rankS]
  | k + 1, hk => by
    have ih := rankS_nonneg hw ha va k (by omega)
    have := rank_nonneg hw (ha k (by rw [values_len va]; omega)) (values_at va k (by omega))
    unfold rankS
    omega
theorem lists_ext {a b : List (List Nat)} (hl : a.length = b.length) (h : ∀ v, v < a.length → lsAt a v = lsAt b v) : a = b := by
  refine List.ext_getElem hl fun i h1 h2 => ?_
  have := h i h1
  unfold lsAt at this
  rw [List.getElem?_eq_getElem h1, List.getElem?_eq_getElem h2] at this
  exact this
/-- As long as each Step changes something, ranks are as many as Steps. -/
theorem rank_steps {s : SysT} (h : OkS s) (hs : LtS s) (hw : s.width ≤ 200) : ∀ k, (∀ j, j < k → iterE s j ≠ iterE s (j + 1)) → (k : Int) ≤ rankS s (iterE s k) s.nodes.toNat
  | 0, _ => by have := rankS_nonneg hw (iter_ok h hs 0).2 (iter_ok h hs 0).1 _ (Nat.le_refl _); omega
  | k + 1, hk => by
    have ih := rank_steps h hs hw k (fun j hj => hk j (by omega))
    have hr := rankS_rise (iter_ok h hs k).2 (iter_ok h hs (k + 1)).2 (iter_ok h hs k).1 (iter_ok h hs (k + 1)).1 (iter_rise h hs k) _ (Nat.le_refl s.nodes.toNat)
    have hne : rankS s (iterE s k) s.nodes.toNat ≠ rankS s (iterE s (k + 1)) s.nodes.toNat := fun e => hk k (by omega) (lists_ext (by rw [values_len (iter_ok h hs k).1, values_len (iter_ok h hs (k + 1)).1]) (fun v hv => hr.2 e v (by rw [← values_len (iter_ok h hs k).1]; exact hv)))
    omega
theorem steps_bound {s : SysT} (h : OkS s) (hs : LtS s) (hw : s.width ≤ 200) (k : Nat) (hk : ∀ j, j < k → iterE s j ≠ iterE s (j + 1)) : (k : Int) ≤ s.nodes * heightE s.what s.width := by
  have h1 := rank_steps h hs hw k hk
  have h2 := rankS_le hw (iter_ok h hs k).2 (iter_ok h hs k).1 _ (Nat.le_refl s.nodes.toNat)
  have e : ((s.nodes.toNat : Nat) : Int) = s.nodes := by have := h.n1; omega
  rw [e] at h2
  omega

end Go.Proofs.Ytfeipfemknnhhaa
