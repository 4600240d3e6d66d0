/-
  A memory behind an interface whose blocks may be new ones each time that it was asked.
-/
import Derived.Test.YteheckcflnogbaaMemI
namespace Go.Proofs.Yteheckcflnogbaa
open Go.RowKit

/-- What a memory is behind an operation: the words zs, asked n times; of elder blocks those of S alone turned; it lies in these, and in new ones. -/
def Mvd (I : World → List Int → Nat → List Nat → Prop) (w w' : World) (zs : List Int) (n : Nat) (S : List Nat) : Prop :=
  ∃ S', I w' zs n S' ∧ Fr S w w' ∧ ∀ k, k ∈ S' → k ∈ S ∨ w.heap.size ≤ k

/-- Likewise, where a machine at block b turned beside it. -/
def Svd (I : World → List Int → Nat → List Nat → Prop) (b : Nat) (w w' : World) (zs : List Int) (n : Nat) (S : List Nat) : Prop :=
  ∃ S', I w' zs n S' ∧ Fr (b :: S) w w' ∧ ∀ k, k ∈ S' → k ∈ S ∨ w.heap.size ≤ k

/-- A memory of dynamic type t at p: in a world w it holds the words zs, and was asked n times; it lies in the blocks S, and in new ones when it was asked. -/
structure MemJ (t : TypeId) (p : Value) (I : World → List Int → Nat → List Nat → Prop) (fl fs fc fa fn : FuncId) (rl rs rc ra rn : Value) : Prop where
  load : ∀ S a zs n w, n ≤ 100000 → I w zs n S → Calls Try.prog fl #[rl, .int .i64 a] w fun e w' => e = .returned (.int .u64 (ldv zs a)) ∧ Mvd I w w' zs (n + 1) S
  store : ∀ S a u zs n w, n ≤ 100000 → I w zs n S → Calls Try.prog fs #[rs, .int .i64 a, .int .u64 u] w fun e w' => e = .returned (.tuple #[]) ∧ Mvd I w w' (stv zs a u) (n + 1) S
  cas : ∀ S a o u zs n w, n ≤ 100000 → I w zs n S → Calls Try.prog fc #[rc, .int .i64 a, .int .u64 o, .int .u64 u] w fun e w' => e = .returned (.bool (casb zs a o)) ∧ Mvd I w w' (casv zs a o u) (n + 1) S
  add : ∀ S a d zs n w, n ≤ 100000 → I w zs n S → Calls Try.prog fa #[ra, .int .i64 a, .int .u64 d] w fun e w' => e = .returned (.int .u64 (addw zs a d)) ∧ Mvd I w w' (addv zs a d) (n + 1) S
  len : ∀ S zs n w, n ≤ 100000 → I w zs n S → Calls Try.prog fn #[rn] w fun e w' => e = .returned (.int .i64 zs.length) ∧ Mvd I w w' zs n S
  el : ∀ args w, (callFunc fl args).run Try.prog w = .ok (.enter fl args) w
  nl : ∀ w, (nilAhead 394 t p "Load").run Try.prog w = .ok (some false) w
  ml : ∀ w, (method 394 t p "Load").run Try.prog w = .ok (fl, rl) w
  es : ∀ args w, (callFunc fs args).run Try.prog w = .ok (.enter fs args) w
  ns : ∀ w, (nilAhead 394 t p "Store").run Try.prog w = .ok (some false) w
  ms : ∀ w, (method 394 t p "Store").run Try.prog w = .ok (fs, rs) w
  ec : ∀ args w, (callFunc fc args).run Try.prog w = .ok (.enter fc args) w
  nc : ∀ w, (nilAhead 394 t p "CAS").run Try.prog w = .ok (some false) w
  mc : ∀ w, (method 394 t p "CAS").run Try.prog w = .ok (fc, rc) w
  ea : ∀ args w, (callFunc fa args).run Try.prog w = .ok (.enter fa args) w
  na : ∀ w, (nilAhead 394 t p "Add").run Try.prog w = .ok (some false) w
  ma : ∀ w, (method 394 t p "Add").run Try.prog w = .ok (fa, ra) w
  en : ∀ args w, (callFunc fn args).run Try.prog w = .ok (.enter fn args) w
  nn : ∀ w, (nilAhead 394 t p "Len").run Try.prog w = .ok (some false) w
  mn : ∀ w, (method 394 t p "Len").run Try.prog w = .ok (fn, rn) w
  keep : ∀ T S zs n w w', I w zs n S → Fr T w w' → (∀ s ∈ S, s ∉ T) → I w' zs n S
  lt : ∀ S zs n w, I w zs n S → ∀ s ∈ S, s < w.heap.size

section
variable {t : TypeId} {p : Value} {I : World → List Int → Nat → List Nat → Prop} {fl fs fc fa fn : FuncId} {rl rs' rc ra rn : Value}
theorem MemJ.drewN (M : MemJ t p I fl fs fc fa fn rl rs' rc ra rn) {w : World} {zs : List Int} {n : Nat} {S : List Nat} (h : I w zs n S) (k : Nat) : I (w.drewN k) zs n S := M.keep [] _ _ _ _ _ h ((Fr.refl [] w).drewN k) (by simp)
theorem Mvd.not {w w' : World} {zs : List Int} {n : Nat} {S : List Nat} (h : Mvd I w w' zs n S) (b : Nat) (hb : b ∉ S) (hl : b < w.heap.size) : ∃ S', I w' zs n S' ∧ Fr S w w' ∧ (∀ k, k ∈ S' → k ∈ S ∨ w.heap.size ≤ k) ∧ b ∉ S' := by
  obtain ⟨S', h1, h2, h3⟩ := h
  exact ⟨S', h1, h2, h3, fun hm => by rcases h3 b hm with h | h; exact hb h; omega⟩
end

/-- A Plain: nobody counts how often it is asked. -/
theorem plainJ (b g : Nat) : MemJ 64 (.pointer (some ⟨b, 0, none⟩)) (fun w zs _ S => Pm w b g zs ∧ S = [b, g]) 87 68 226 225 227
    (.pointer (some ⟨b, 0, none⟩)) (.pointer (some ⟨b, 0, none⟩)) (.pointer (some ⟨b, 0, none⟩)) (.pointer (some ⟨b, 0, none⟩)) (.pointer (some ⟨b, 0, none⟩)) where
  load S a zs _ w _ h := by obtain ⟨h, rfl⟩ := h; exact (load_any a b g zs w h).mono fun e w' ⟨he, k⟩ => ⟨he, [b, g], ⟨h.below k, rfl⟩, .of k, fun _ hk => .inl hk⟩
  store S a u zs _ w _ h := by obtain ⟨h, rfl⟩ := h; exact (store_any a u b g zs w h).mono fun e w' ⟨he, hp, k⟩ => ⟨he, [b, g], ⟨hp, rfl⟩, .gb k (by simp), fun _ hk => .inl hk⟩
  cas S a o u zs _ w _ h := by obtain ⟨h, rfl⟩ := h; exact (cas_any a o u b g zs w h).mono fun e w' ⟨he, hp, k⟩ => ⟨he, [b, g], ⟨hp, rfl⟩, .gb k (by simp), fun _ hk => .inl hk⟩
  add S a d zs _ w _ h := by obtain ⟨h, rfl⟩ := h; exact (add_any a d b g zs w h).mono fun e w' ⟨he, hp, k⟩ => ⟨he, [b, g], ⟨hp, rfl⟩, .gb k (by simp), fun _ hk => .inl hk⟩
  len S zs _ w _ h := by obtain ⟨h, rfl⟩ := h; exact (plen_any b g zs w h).mono fun e w' ⟨he, k⟩ => ⟨he, [b, g], ⟨k ▸ h, rfl⟩, k ▸ .refl _ _, fun _ hk => .inl hk⟩
  el := enters_of Try.func87 (by kernel_rfl) rfl
  nl w := by kernel_rfl
  ml w := by kernel_rfl
  es := enters_of Try.func68 (by kernel_rfl) rfl
  ns w := by kernel_rfl
  ms w := by kernel_rfl
  ec := enters_of Try.func226 (by kernel_rfl) rfl
  nc w := by kernel_rfl
  mc w := by kernel_rfl
  ea := enters_of Try.func225 (by kernel_rfl) rfl
  na w := by kernel_rfl
  ma w := by kernel_rfl
  en := enters_of Try.func227 (by kernel_rfl) rfl
  nn w := by kernel_rfl
  mn w := by kernel_rfl
  keep T S zs n w w' h k hs := by
    obtain ⟨h, rfl⟩ := h
    exact ⟨⟨h.1.fr k (hs b (by simp)), h.2.1.fr k (hs g (by simp)), h.2.2⟩, rfl⟩
  lt S zs n w h s hs := by
    obtain ⟨h, rfl⟩ := h
    simp only [List.mem_cons, List.not_mem_nil, or_false] at hs
    rcases hs with rfl | rfl
    · exact h.1.lt
    · exact h.2.1.lt

end Go.Proofs.Yteheckcflnogbaa
