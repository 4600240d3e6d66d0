/-
  A memory behind an interface: what its methods do to a list of words, and how often it was asked.
-/
import Derived.Test.YteheckcflnogbaaFr
import Derived.Test.YteheckcflnogbaaMemRef
import Derived.Deep.RegionWith
import Derived.Shelf.Abstract
namespace Go.Proofs.Yteheckcflnogbaa
open Go.RowKit

/-- A memory of dynamic type t at p: in a world w it holds the words zs, and was asked n times; it lies in the blocks S. -/
structure MemI (t : TypeId) (p : Value) (S : List Nat) (I : World → List Int → Nat → Prop) (fl fs fc fa fn : FuncId) (rl rs rc ra rn : Value) : Prop where
  load : ∀ a zs n w, I w zs n → Calls Try.prog fl #[rl, .int .i64 a] w fun e w' => e = .returned (.int .u64 (ldv zs a)) ∧ I w' zs (n + 1) ∧ Fr S w w'
  store : ∀ a u zs n w, I w zs n → Calls Try.prog fs #[rs, .int .i64 a, .int .u64 u] w fun e w' => e = .returned (.tuple #[]) ∧ I w' (stv zs a u) (n + 1) ∧ Fr S w w'
  cas : ∀ a o u zs n w, I w zs n → Calls Try.prog fc #[rc, .int .i64 a, .int .u64 o, .int .u64 u] w fun e w' => e = .returned (.bool (casb zs a o)) ∧ I w' (casv zs a o u) (n + 1) ∧ Fr S w w'
  add : ∀ a d zs n w, I w zs n → Calls Try.prog fa #[ra, .int .i64 a, .int .u64 d] w fun e w' => e = .returned (.int .u64 (addw zs a d)) ∧ I w' (addv zs a d) (n + 1) ∧ Fr S w w'
  len : ∀ zs n w, I w zs n → Calls Try.prog fn #[rn] w fun e w' => e = .returned (.int .i64 zs.length) ∧ I w' zs (n + 1) ∧ Fr S w w'
  el : ∀ args w, (callFunc fl args).run Try.prog w = .ok (.enter fl args) w
  nl : ∀ w, (nilAhead 394 t p "Load").run Try.prog w = .ok (some false) w
  ml : ∀ w, (method 394 t p "Load").run Try.prog w = .ok (fl, rl) w
  es : ∀ args w, (callFunc fs args).run Try.prog w = .ok (.enter fs args) w
  ns : ∀ w, (nilAhead 394 t p "Store").run Try.prog w = .ok (some false) w
  ms : ∀ w, (method 394 t p "Store").run Try.prog w = .ok (fs, rs) w
  ec : ∀ args w, (callFunc fc args).run Try.prog w = .ok (.enter fc args) w
  nc : ∀ w, (nilAhead 394 t p "CAS").run Try.prog w = .ok (some false) w
  mc : ∀ w, (method 394 t p "CAS").run Try.prog w = .ok (fc, rc) w
  ea : ∀ args w, (callFunc fa args).run Try.prog w = .ok (.enter fa args) w
  na : ∀ w, (nilAhead 394 t p "Add").run Try.prog w = .ok (some false) w
  ma : ∀ w, (method 394 t p "Add").run Try.prog w = .ok (fa, ra) w
  en : ∀ args w, (callFunc fn args).run Try.prog w = .ok (.enter fn args) w
  nn : ∀ w, (nilAhead 394 t p "Len").run Try.prog w = .ok (some false) w
  mn : ∀ w, (method 394 t p "Len").run Try.prog w = .ok (fn, rn) w
  keep : ∀ T zs n w w', I w zs n → Fr T w w' → (∀ s ∈ S, s ∉ T) → I w' zs n
  lt : ∀ zs n w, I w zs n → ∀ s ∈ S, s < w.heap.size

/-- A world is forgotten but for what is said of it. -/
theorem wp_gen {P : Program} {c : Code} {Q : Exit → Act → World → Prop} {a : Act} {w : World} (R : World → Prop) (hR : R w) (h : ∀ W, R W → c.wp P Q a W) : c.wp P Q a w := h w hR

section
variable {t : TypeId} {p : Value} {S : List Nat} {I : World → List Int → Nat → Prop} {fl fs fc fa fn : FuncId} {rl rs' rc ra rn : Value}
theorem MemI.drewN (M : MemI t p S I fl fs fc fa fn rl rs' rc ra rn) {w : World} {zs : List Int} {n : Nat} (h : I w zs n) (k : Nat) : I (w.drewN k) zs n := M.keep [] _ _ _ _ h ((Fr.refl [] w).drewN k) (by simp)

end

/-- A Plain: nobody counts how often it is asked. -/
theorem plainI (b g : Nat) : MemI 64 (.pointer (some ⟨b, 0, none⟩)) [b, g] (fun w zs _ => Pm w b g zs) 87 68 226 225 227
    (.pointer (some ⟨b, 0, none⟩)) (.pointer (some ⟨b, 0, none⟩)) (.pointer (some ⟨b, 0, none⟩)) (.pointer (some ⟨b, 0, none⟩)) (.pointer (some ⟨b, 0, none⟩)) where
  load a zs _ w h := (load_any a b g zs w h).mono fun e w' ⟨he, k⟩ => ⟨he, h.below k, .of k⟩
  store a u zs _ w h := (store_any a u b g zs w h).mono fun e w' ⟨he, hp, k⟩ => ⟨he, hp, .gb k (by simp)⟩
  cas a o u zs _ w h := (cas_any a o u b g zs w h).mono fun e w' ⟨he, hp, k⟩ => ⟨he, hp, .gb k (by simp)⟩
  add a d zs _ w h := (add_any a d b g zs w h).mono fun e w' ⟨he, hp, k⟩ => ⟨he, hp, .gb k (by simp)⟩
  len zs _ w h := (plen_any b g zs w h).mono fun e w' ⟨he, k⟩ => ⟨he, k ▸ h, k ▸ .refl _ _⟩
  el := enters_of Try.func87 (by kernel_rfl) rfl
  nl w := by kernel_rfl
  ml w := by kernel_rfl
  es := enters_of Try.func68 (by kernel_rfl) rfl
  ns w := by kernel_rfl
  ms w := by kernel_rfl
  ec := enters_of Try.func226 (by kernel_rfl) rfl
  nc w := by kernel_rfl
  mc w := by kernel_rfl
  ea := enters_of Try.func225 (by kernel_rfl) rfl
  na w := by kernel_rfl
  ma w := by kernel_rfl
  en := enters_of Try.func227 (by kernel_rfl) rfl
  nn w := by kernel_rfl
  mn w := by kernel_rfl
  keep T zs n w w' h k hs := ⟨h.1.fr k (hs b (by simp)), h.2.1.fr k (hs g (by simp)), h.2.2⟩
  lt zs n w h s hs := by
    simp only [List.mem_cons, List.not_mem_nil, or_false] at hs
    rcases hs with rfl | rfl
    · exact h.1.lt
    · exact h.2.1.lt

end Go.Proofs.Yteheckcflnogbaa
