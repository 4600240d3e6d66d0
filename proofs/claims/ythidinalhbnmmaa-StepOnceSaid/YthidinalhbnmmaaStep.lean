/-
  step.Prog: what an instruction does: contracts.
-/
import Derived.Test.YthidinalhbnmmaaMemI
import Derived.Test.YthidinalhbnmmaaGoto
import Derived.RegionTactic
import Derived.BigQuiet
import Derived.Deep.QuietTactic
import Derived.Outline
import Derived.Deep.CutRange
import Derived.Deep.DeepCutAuto
import Derived.Laws.BitsLemmas
namespace Go.Proofs.Ythidinalhbnmmaa
open Go.RowKit

/-- An instruction. -/
structure InsT where
  op : Int
  r : Int
  a : Int
  n : Int
def ins0 : InsT := ⟨0, 0, 0, 0⟩
def insAt (L : List InsT) (j : Nat) : InsT := L[j]?.getD ins0

/-- A machine at block b: its instructions' slice, its registers, the next instruction's number. -/
def Pg (w : World) (b : Nat) (sl : Value) (rs : List Int) (at' : Int) : Prop := Bk w b 60 (sl :: (rs.map (Value.int .u64) ++ [.int .i64 at'])) ∧ rs.length = 4
theorem Pg.reg {w : World} {b : Nat} {sl : Value} {rs : List Int} {at' : Int} (h : Pg w b sl rs at') (k : Nat) (hk : k < 4) : w.cell? ⟨b, 1 + k, none⟩ = some (.int .u64 (wd rs k)) := by
  rw [h.1.cell, Nat.add_comm, List.getElem?_cons_succ, List.getElem?_append_left (by simp [h.2]; exact hk)]
  simp [wd, h.2, hk]
theorem Pg.at' {w : World} {b : Nat} {sl : Value} {rs : List Int} {at' : Int} (h : Pg w b sl rs at') : w.cell? ⟨b, 5, none⟩ = some (.int .i64 at') := by
  rw [h.1.cell, List.getElem?_cons_succ, List.getElem?_append_right (by simp [h.2])]
  simp [h.2]
theorem Pg.setr {w : World} {b : Nat} {sl : Value} {rs : List Int} {at' : Int} (h : Pg w b sl rs at') (k : Nat) (hk : k < 4) (u : Int) : Pg (w.setCell ⟨b, 1 + k, none⟩ (.int .u64 u)) b sl (rs.set k u) at' := by
  have h1 := h.1.set (1 + k) (.int .u64 u)
  rw [Nat.add_comm 1 k, List.set_cons_succ, List.set_append_left _ _ (by simp [h.2]; exact hk), ← List.map_set] at h1
  rw [Nat.add_comm 1 k]
  exact ⟨h1, by simpa using h.2⟩
theorem Pg.seta {w : World} {b : Nat} {sl : Value} {rs : List Int} {at' : Int} (h : Pg w b sl rs at') (u : Int) : Pg (w.setCell ⟨b, 5, none⟩ (.int .i64 u)) b sl rs u := by
  have h1 := h.1.set 5 (.int .i64 u)
  rw [List.set_cons_succ, List.set_append_right _ _ (by simp [h.2])] at h1
  simp [h.2] at h1
  exact ⟨h1, h.2⟩
theorem Pg.fr {S : List Nat} {w w' : World} {b : Nat} {sl : Value} {rs : List Int} {at' : Int} (h : Pg w b sl rs at') (k : Fr S w w') (hb : b ∉ S) : Pg w' b sl rs at' := ⟨h.1.fr k hb, h.2⟩
/-- Which register. -/
def rix (r : Int) : Nat := (r % 4).toNat
theorem rix_lt (r : Int) : rix r < 4 := by unfold rix; omega
theorem and3 (r : Int) : bits .and .i64 r 3 = (rix r : Int) := by
  have e3 : (BitVec.ofInt 64 3).toNat = 2 ^ 2 - 1 := by decide
  have hx : (BitVec.ofInt 64 r).toNat = (r % 18446744073709551616).toNat := by rw [BitVec.toNat_ofInt]; rfl
  show IntKind.i64.wrap ((BitVec.ofInt 64 r &&& BitVec.ofInt 64 3).toNat : Int) = _
  rw [BitVec.toNat_and, e3, Nat.and_two_pow_sub_one_eq_mod, hx, IntKind.wrap_i64]
  unfold rix
  omega
theorem rix_wrap (r : Int) : rix (IntKind.i64.wrap r) = rix r := by
  rw [IntKind.wrap_i64]
  unfold rix
  omega

/-- What an instruction leaves: the registers, the next instruction's number, the words; how often it asked. -/
def doR (x : InsT) (d : Int) (rs zs : List Int) : List Int :=
  if x.op = 1 then rs.set (rix x.r) (ldv zs x.a)
  else if x.op = 3 then rs.set (rix x.r) (if casb zs x.a (wd rs (rix x.r)) = true then 1 else 0)
  else if x.op = 4 then rs.set (rix x.r) (addw zs x.a x.n)
  else if x.op = 5 then rs.set (rix x.r) x.n
  else if x.op = 6 then rs.set (rix x.r) (IntKind.u64.wrap (wd rs (rix x.r) + x.n))
  else if x.op = 9 then rs.set (rix x.r) (IntKind.u64.wrap d)
  else rs
def doA (x : InsT) (rs : List Int) (at' : Int) : Int := if x.op = 7 ∨ x.op = 8 ∧ wd rs (rix x.r) = 0 then x.a else at' + 1
def doZ (x : InsT) (rs zs : List Int) : List Int :=
  if x.op = 2 then stv zs x.a (wd rs (rix x.r))
  else if x.op = 3 then casv zs x.a (wd rs (rix x.r)) (wd rs (rix (x.r + 1)))
  else if x.op = 4 then addv zs x.a x.n
  else zs
def doN (x : InsT) (n : Nat) : Nat := if x.op = 1 ∨ x.op = 2 ∨ x.op = 3 ∨ x.op = 4 then n + 1 else n


end Go.Proofs.Ythidinalhbnmmaa
