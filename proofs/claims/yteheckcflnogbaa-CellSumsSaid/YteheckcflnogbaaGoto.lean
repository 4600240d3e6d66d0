/-
  A scope through which the run goes by gotos to whatever labels: each jump is walked on with from its label.
-/
import Derived.Scope
import Derived.WalkMore
import Derived.WalkKit
namespace Go.Proofs.Yteheckcflnogbaa
open Go

/-- As Q; by a goto: what stands behind that label is walked, with at most n gotos more. -/
def via (P : Program) (c : Code) (Q : Exit → Act → World → Prop) : Nat → Exit → Act → World → Prop
  | 0, e, a, w => Exit.noGoto Q e a w
  | n + 1, .goto l, a, w => ∃ rest, findLabel c l = some rest ∧ rest.wp P (via P c Q n) a w
  | _ + 1, e, a, w => Q e a w

section
variable {P : Program} {c : Code} {Q : Exit → Act → World → Prop}
@[go_sem] theorem via_normal (n : Nat) (a : Act) (w : World) : via P c Q n .normal a w = Q .normal a w := by cases n <;> rfl
@[go_sem] theorem via_exit (n id : Nat) (a : Act) (w : World) : via P c Q n (.exit id) a w = Q (.exit id) a w := by cases n <;> rfl
@[go_sem] theorem via_ret (n : Nat) (a : Act) (w : World) : via P c Q n .ret a w = Q .ret a w := by cases n <;> rfl
@[go_sem] theorem via_panic (n : Nat) (ch : List PanicEntry) (a : Act) (w : World) : via P c Q n (.panic ch) a w = Q (.panic ch) a w := by cases n <;> rfl
theorem via_goto (n l : Nat) (a : Act) (w : World) : via P c Q (n + 1) (.goto l) a w = ∃ rest, findLabel c l = some rest ∧ rest.wp P (via P c Q n) a w := rfl

theorem via_out (b : Frame) (k : List Item) (cs : List Frame) (n : Nat) : ∀ {s : Machine} {e : Exit} {a : Act} {w : World}, Arrives P s b (.inScope c :: k) cs e a w → via P c Q n e a w →
    ∃ e' a' w', Q e' a' w' ∧ Arrives P s b k cs e' a' w' := by
  have plain : ∀ {s : Machine} {e : Exit} {a : Act} {w : World}, Arrives P s b (.inScope c :: k) cs e a w → Exit.noGoto Q e a w → ∃ e' a' w', Q e' a' w' ∧ Arrives P s b k cs e' a' w' := by
    intro s e a w harr hq
    cases e with
    | normal => exact ⟨.normal, a, w, hq, Steps.trans harr (.one step_inScope)⟩
    | exit id => exact ⟨.exit id, a, w, hq, fun k' hk => harr k' (by simp [exitTo, hk])⟩
    | goto l => exact hq.elim
    | ret => exact ⟨_, a, w, hq, harr⟩
    | panic ch => exact ⟨_, a, w, hq, harr⟩
    | outgrown => exact ⟨_, a, w, hq, harr⟩
  induction n with
  | zero => intro s e a w harr hq; exact plain harr hq
  | succ n ih =>
    intro s e a w harr hq
    cases e with
    | goto l =>
      obtain ⟨rest, hf, hw⟩ := hq
      have hg : gotoIn l (.inScope c :: k) = some (.code rest :: .inScope c :: k) := by simp [gotoIn, hf]
      obtain ⟨e2, a2, w2, hq2, harr2⟩ := hw b (.inScope c :: k) cs
      exact ih (.of_steps (harr _ hg) harr2) hq2
    | normal => exact plain harr hq
    | exit id => exact plain harr hq
    | ret => exact plain harr hq
    | panic ch => exact plain harr hq
    | outgrown => exact plain harr hq

theorem wp_scope_via (n : Nat) {a : Act} {w : World} (h : c.wp P (via P c Q n) a w) : (Code.scope c).wp P Q a w := by
  intro b k cs
  obtain ⟨e, a1, w1, hq, harr⟩ := h b (.inScope c :: k) cs
  exact via_out b k cs n (.of_steps (.one step_scope) harr) hq
end

/-- As Q; by a goto: what is said of that label. -/
def jumps (J : Nat → Act → World → Prop) (Q : Exit → Act → World → Prop) : Exit → Act → World → Prop
  | .goto l, a, w => J l a w
  | e, a, w => Q e a w

section
variable {P : Program} {J : Nat → Act → World → Prop} {Q : Exit → Act → World → Prop}
@[go_sem] theorem jumps_normal (a : Act) (w : World) : jumps J Q .normal a w = Q .normal a w := rfl
@[go_sem] theorem jumps_exit (id : Nat) (a : Act) (w : World) : jumps J Q (.exit id) a w = Q (.exit id) a w := rfl
@[go_sem] theorem jumps_ret (a : Act) (w : World) : jumps J Q .ret a w = Q .ret a w := rfl
@[go_sem] theorem jumps_panic (ch : List PanicEntry) (a : Act) (w : World) : jumps J Q (.panic ch) a w = Q (.panic ch) a w := rfl
@[go_sem] theorem jumps_goto (l : Nat) (a : Act) (w : World) : jumps J Q (.goto l) a w = J l a w := rfl

/-- A scope in which the run jumps to whatever labels: what holds at each jump, and a measure that every pass lowers. -/
theorem wp_scope_inv {c : Code} {a : Act} {w : World} (J : Nat → Act → World → Prop) (μ : Nat → Act → World → Nat)
    (first : c.wp P (jumps J Q) a w)
    (pass : ∀ l a w, J l a w → ∃ rest, findLabel c l = some rest ∧ rest.wp P (jumps (fun l' a' w' => J l' a' w' ∧ μ l' a' w' < μ l a w) Q) a w) : (Code.scope c).wp P Q a w := by
  intro b k cs
  have key : ∀ n l a w, μ l a w = n → J l a w → ∃ rest, findLabel c l = some rest ∧ ∃ e a' w', Q e a' w' ∧ Arrives P (lone (b.at a (.code rest :: .inScope c :: k)) cs w) b k cs e a' w' := by
    intro n
    induction n using Nat.strongRecOn with
    | _ n ih =>
      intro l a w hn hJ
      obtain ⟨rest, hf, hp⟩ := pass l a w hJ
      refine ⟨rest, hf, ?_⟩
      obtain ⟨e, a1, w1, hq, harr⟩ := hp b (.inScope c :: k) cs
      cases e with
      | normal => exact ⟨.normal, a1, w1, hq, Steps.trans harr (.one step_inScope)⟩
      | exit id => exact ⟨.exit id, a1, w1, hq, fun k' hk => harr k' (by simp [exitTo, hk])⟩
      | goto l' =>
        obtain ⟨hJ', hlt⟩ := hq
        obtain ⟨rest', hf', e2, a2, w2, hq2, harr2⟩ := ih _ (by omega) l' a1 w1 rfl hJ'
        have hg : gotoIn l' (.inScope c :: k) = some (.code rest' :: .inScope c :: k) := by simp [gotoIn, hf']
        exact ⟨e2, a2, w2, hq2, .of_steps (harr _ hg) harr2⟩
      | ret => exact ⟨_, a1, w1, hq, harr⟩
      | panic ch => exact ⟨_, a1, w1, hq, harr⟩
      | outgrown => exact ⟨_, a1, w1, hq, harr⟩
  obtain ⟨e, a1, w1, hq, harr⟩ := first b (.inScope c :: k) cs
  cases e with
  | normal => exact ⟨.normal, a1, w1, hq, .head step_scope (Steps.trans harr (.one step_inScope))⟩
  | exit id => exact ⟨.exit id, a1, w1, hq, fun k' hk => .head step_scope (harr k' (by simp [exitTo, hk]))⟩
  | goto l' =>
    obtain ⟨rest', hf', e2, a2, w2, hq2, harr2⟩ := key _ l' a1 w1 rfl hq
    have hg : gotoIn l' (.inScope c :: k) = some (.code rest' :: .inScope c :: k) := by simp [gotoIn, hf']
    exact ⟨e2, a2, w2, hq2, .of_steps (.head step_scope (harr _ hg)) harr2⟩
  | ret => exact ⟨_, a1, w1, hq, .of_steps (.one step_scope) harr⟩
  | panic ch => exact ⟨_, a1, w1, hq, .of_steps (.one step_scope) harr⟩
  | outgrown => exact ⟨_, a1, w1, hq, .of_steps (.one step_scope) harr⟩
end

end Go.Proofs.Yteheckcflnogbaa
