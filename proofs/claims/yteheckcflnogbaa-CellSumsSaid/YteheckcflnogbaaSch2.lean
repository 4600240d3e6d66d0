/-
  sched.Each, Run: contracts. Written by wip/gen/mksch2.py.
-/
import Derived.Test.YteheckcflnogbaaSch
namespace Go.Proofs.Yteheckcflnogbaa
open Go.RowKit



def startR {σ : Type} (n : Nat) (nil : Nat → Bool) (s : σ) : RunT σ := ⟨s, List.replicate n 0, (List.range n).map nil⟩
theorem startR_len {σ : Type} (n : Nat) (nil : Nat → Bool) (s : σ) : (startR n nil s).st.length = n ∧ (startR n nil s).dn.length = n := by simp [startR]
/-- What holds at each pick: the own blocks, and the machines' state. -/
structure EachS {σ : Type} (J : World → σ → List Nat → Prop) (w W : World) (n r0 sb db : Nat) (x : RunT σ) (k : Nat) (S S' : List Nat) : Prop where
  rb : ∃ a b c, Bk W w.heap.size 84 [a, b, c]
  r : Bk W r0 84 [.slice (some ⟨sb, 0, none⟩) n n, .slice (some ⟨db, 0, none⟩) n n, .int .i64 k]
  s : Bk W sb 3 (x.st.map (Value.int .i64))
  d : Bk W db 4 (x.dn.map Value.bool)
  len : x.st.length = n ∧ x.dn.length = n
  j : J W x.s S'
  new : ∀ y ∈ S', (y ∈ S ∨ w.heap.size ≤ y) ∧ y ≠ w.heap.size ∧ y ≠ r0 ∧ y ≠ sb ∧ y ≠ db
  own : w.heap.size < r0 ∧ w.heap.size < sb ∧ w.heap.size < db ∧ r0 ≠ sb ∧ r0 ≠ db ∧ sb ≠ db
  fr : Fr S w W
theorem EachS.size {σ : Type} {J : World → σ → List Nat → Prop} {w W : World} {n r0 sb db : Nat} {x : RunT σ} {k : Nat} {S S' : List Nat} (h : EachS J w W n r0 sb db x k S S') : r0 < W.heap.size ∧ sb < W.heap.size ∧ db < W.heap.size ∧ w.heap.size < W.heap.size := by
  obtain ⟨a, b, c, hr⟩ := h.rb
  exact ⟨h.r.lt, h.s.lt, h.d.lt, hr.lt⟩
theorem fr_own {S T : List Nat} {w a b : World} (h : Fr S w a) (k : Fr T a b) (hT : ∀ i ∈ T, i ∈ S ∨ w.heap.size ≤ i) : Fr S w b := h.from k (fun i hi hl => by rcases hT i hi with h | h; exact h; omega)

/-- What a run tells. -/
def EachR {σ : Type} (J : World → σ → List Nat → Prop) (n : Nat) (stp : σ → Nat → Int → σ × Bool) (x : RunT σ) (L : List (Int × Int)) (w : World) (e : Ending) (w' : World) (S : List Nat) : Prop :=
  ∃ k sb db S', Stops n stp x L k ∧ e = .returned (.agg #[.slice (some ⟨sb, 0, none⟩) n n, .slice (some ⟨db, 0, none⟩) n n, .int .i64 (k : Nat)]) ∧ Bk w' sb 3 ((runE n stp x (L.take k)).st.map (Value.int .i64)) ∧ Bk w' db 4 ((runE n stp x (L.take k)).dn.map Value.bool) ∧
    (runE n stp x (L.take k)).st.length = n ∧ (runE n stp x (L.take k)).dn.length = n ∧ J w' (runE n stp x (L.take k)).s S' ∧ Fr S w w' ∧ (∀ y ∈ S', (y ∈ S ∨ w.heap.size ≤ y) ∧ y ≠ sb ∧ y ≠ db) ∧ w.heap.size ≤ sb ∧ w.heap.size ≤ db ∧ sb ≠ db


section
variable {σ : Type} {n : Nat} {stp : σ → Nat → Int → σ × Bool}
theorem dn_keep {x : RunT σ} {p : Int × Int} {i : Nat} (h : dnAt x.dn i = true) : dnAt (pickE n stp x p).dn i = true := by
  unfold pickE
  split
  · exact h
  · rename_i hd
    unfold dnAt at h hd ⊢
    rw [List.getElem?_set]
    split
    · rename_i he
      subst he
      exact absurd h hd
    · exact h
theorem dn_kept (L : List (Int × Int)) : ∀ {x : RunT σ} {i : Nat}, dnAt x.dn i = true → dnAt (runE n stp x L).dn i = true := by
  induction L with
  | nil => exact fun h => h
  | cons p L ih => exact fun h => ih (dn_keep h)
theorem dn_nil (nil : Nat → Bool) (s : σ) (L : List (Int × Int)) {i : Nat} (hi : i < n) (h : nil i = true) : dnAt (runE n stp (startR n nil s) L).dn i = true := by
  refine dn_kept L ?_
  unfold dnAt startR
  simp [hi, h]
theorem st_bd (L : List (Int × Int)) : ∀ {x : RunT σ} {c : Int}, (∀ i, 0 ≤ wd x.st i ∧ wd x.st i ≤ c) → ∀ i, 0 ≤ wd (runE n stp x L).st i ∧ wd (runE n stp x L).st i ≤ c + L.length := by
  induction L with
  | nil => intro x c h i; have := h i; simp [runE]; exact this
  | cons p L ih =>
    intro x c h i
    have h1 : ∀ i, 0 ≤ wd (pickE n stp x p).st i ∧ wd (pickE n stp x p).st i ≤ c + 1 := fun i => by
      have hc := h i
      unfold pickE
      split
      · omega
      · show 0 ≤ wd (x.st.set (whoN n p.1) (wd x.st (whoN n p.1) + 1)) i ∧ wd (x.st.set (whoN n p.1) (wd x.st (whoN n p.1) + 1)) i ≤ c + 1
        have h2 := h (whoN n p.1)
        unfold wd at h2 hc ⊢
        rw [List.getElem?_set]
        split
        · split
          · rename_i he hl
            simp only [Option.getD_some]
            omega
          · simp only [Option.getD_none]
            omega
        · omega
    have := ih h1 i
    rw [List.length_cons]
    show 0 ≤ wd (runE n stp (pickE n stp x p) L).st i ∧ wd (runE n stp (pickE n stp x p) L).st i ≤ c + (L.length + 1 : Nat)
    omega
theorem st_start (nil : Nat → Bool) (s : σ) (i : Nat) : 0 ≤ wd (startR n nil s).st i ∧ wd (startR n nil s).st i ≤ 0 := by
  unfold startR wd
  simp only [List.getElem?_replicate]
  split <;> simp
end
theorem bools_at {W : World} {g : Nat} {l : List Bool} (h : Bk W g 4 (l.map Value.bool)) (i : Nat) (hi : i < l.length) : W.cell? ⟨g, i, none⟩ = some (.bool (dnAt l i)) := by
  rw [h.cell]; simp [dnAt, hi]
theorem ints_at' {W : World} {g : Nat} {l : List Int} (h : Bk W g 3 (l.map (Value.int .i64))) (i : Nat) (hi : i < l.length) : W.cell? ⟨g, i, none⟩ = some (.int .i64 (wd l i)) := by
  rw [h.cell]; simp [wd, hi]
theorem EachS.pick {Wb : World} {σ : Type} {n : Nat} {J : World → σ → List Nat → Prop} {stp : σ → Nat → Int → σ × Bool} {t : TypeId} {p : Value} {nil : Nat → Bool} {ts : Nat → TypeId} {ps rs : Nat → Value} {fs : Nat → FuncId} (M : Mach Wb n J stp t p nil ts ps rs fs) {w W v1 : World} {r0 sb db : Nat} {x : RunT σ} {k : Nat} {S S' S2 : List Nat}
    (h : EachS J w W n r0 sb db x k S S') {s2 : σ} (hJ : J v1 s2 S2) (hF : Fr S' W v1) (hN : ∀ y, y ∈ S2 → y ∈ S' ∨ W.heap.size ≤ y) (i : Nat) (c : Int) (b : Bool) :
    EachS J w (((v1.setCell ⟨db, i, none⟩ (.bool b)).setCell ⟨sb, i, none⟩ (.int .i64 c)).setCell ⟨r0, 2, none⟩ (.int .i64 ((k : Nat) + 1))) n r0 sb db ⟨s2, x.st.set i c, x.dn.set i b⟩ (k + 1) S S2 := by
  have hs := h.size
  have ho := h.own
  have hnr : w.heap.size ∉ S' := fun hm => (h.new _ hm).2.1 rfl
  have hn0 : r0 ∉ S' := fun hm => (h.new _ hm).2.2.1 rfl
  have hns : sb ∉ S' := fun hm => (h.new _ hm).2.2.2.1 rfl
  have hnd : db ∉ S' := fun hm => (h.new _ hm).2.2.2.2 rfl
  have hnew : ∀ y ∈ S2, (y ∈ S ∨ w.heap.size ≤ y) ∧ y ≠ w.heap.size ∧ y ≠ r0 ∧ y ≠ sb ∧ y ≠ db := fun y hy => by
    rcases hN y hy with h1 | h1
    · exact h.new y h1
    · omega
  have f2 : Fr [db, sb, r0] v1 (((v1.setCell ⟨db, i, none⟩ (.bool b)).setCell ⟨sb, i, none⟩ (.int .i64 c)).setCell ⟨r0, 2, none⟩ (.int .i64 ((k : Nat) + 1))) := (((Fr.refl _ _).set (by simp) _).set (by simp) _).set (by simp) _
  have b1 := (h.r.fr hF hn0)
  have b2 := (h.s.fr hF hns)
  have b3 := (h.d.fr hF hnd)
  obtain ⟨a1, a2, a3, hr⟩ := h.rb
  refine ⟨⟨a1, a2, a3, (hr.fr hF hnr).fr f2 (by simp; omega)⟩, ?_, ?_, ?_, by simpa using h.len, M.keep [db, sb, r0] _ _ _ _ hJ f2 (fun y hy hm => by have := hnew y hy; simp at hm; omega), hnew, ho, ?_⟩
  · have := ((b1.far (p := ⟨db, i, none⟩) (by show r0 ≠ db; omega) (.bool b)).far (p := ⟨sb, i, none⟩) (by show r0 ≠ sb; omega) (.int .i64 c)).set 2 (.int .i64 ((k : Nat) + 1))
    simpa using this
  · have := (((b2.far (p := ⟨db, i, none⟩) (by show sb ≠ db; omega) (.bool b)).set i (.int .i64 c)).far (p := ⟨r0, 2, none⟩) (by show sb ≠ r0; omega) (.int .i64 ((k : Nat) + 1)))
    simpa [List.map_set] using this
  · have := (((b3.set i (.bool b)).far (p := ⟨sb, i, none⟩) (by show db ≠ sb; omega) (.int .i64 c)).far (p := ⟨r0, 2, none⟩) (by show db ≠ r0; omega) (.int .i64 ((k : Nat) + 1)))
    simpa [List.map_set] using this
  · exact fr_own (fr_own h.fr hF (fun y hy => (h.new y hy).1)) f2 (fun y hy => by simp at hy; omega)
theorem EachS.skip {Wb : World} {σ : Type} {n : Nat} {J : World → σ → List Nat → Prop} {stp : σ → Nat → Int → σ × Bool} {t : TypeId} {p : Value} {nil : Nat → Bool} {ts : Nat → TypeId} {ps rs : Nat → Value} {fs : Nat → FuncId} (M : Mach Wb n J stp t p nil ts ps rs fs) {w W : World} {r0 sb db : Nat} {x : RunT σ} {k : Nat} {S S' : List Nat}
    (h : EachS J w W n r0 sb db x k S S') : EachS J w (W.setCell ⟨r0, 2, none⟩ (.int .i64 ((k : Nat) + 1))) n r0 sb db x (k + 1) S S' := by
  have hs := h.size
  have ho := h.own
  have f2 : Fr [r0] W (W.setCell ⟨r0, 2, none⟩ (.int .i64 ((k : Nat) + 1))) := (Fr.refl _ _).set (by simp) _
  obtain ⟨a1, a2, a3, hr⟩ := h.rb
  refine ⟨⟨a1, a2, a3, hr.fr f2 (by simp; omega)⟩, ?_, h.s.fr f2 (by simp; omega), h.d.fr f2 (by simp; omega), h.len, M.keep [r0] _ _ _ _ h.j f2 (fun y hy hm => by have := h.new y hy; simp at hm; omega), h.new, ho, fr_own h.fr f2 (fun y hy => by simp at hy; omega)⟩
  have := h.r.set 2 (.int .i64 ((k : Nat) + 1))
  simpa using this
theorem EachS.below {Wb : World} {σ : Type} {n : Nat} {J : World → σ → List Nat → Prop} {stp : σ → Nat → Int → σ × Bool} {t : TypeId} {p : Value} {nil : Nat → Bool} {ts : Nat → TypeId} {ps rs : Nat → Value} {fs : Nat → FuncId} (M : Mach Wb n J stp t p nil ts ps rs fs) {w W W' : World} {r0 sb db : Nat} {x : RunT σ} {k : Nat} {S S' : List Nat}
    (h : EachS J w W n r0 sb db x k S S') (hB : Below W.heap.size W W') : EachS J w W' n r0 sb db x k S S' := by
  have f2 : Fr [] W W' := .of hB
  obtain ⟨a1, a2, a3, hr⟩ := h.rb
  exact ⟨⟨a1, a2, a3, hr.below hB⟩, h.r.below hB, h.s.below hB, h.d.below hB, h.len, M.keep [] _ _ _ _ h.j f2 (by simp), h.new, h.own, fr_own h.fr f2 (fun y hy => by simp at hy)⟩
theorem dn_set (n k : Nat) (nil : Nat → Bool) (h : k < n) : (((List.range k).map nil ++ List.replicate (n - k) false).map Value.bool).set k (.bool (nil k)) = ((List.range (k + 1)).map nil ++ List.replicate (n - (k + 1)) false).map Value.bool := by
  obtain ⟨m, hm⟩ : ∃ m, n - k = m + 1 := ⟨n - k - 1, by omega⟩
  rw [hm, show n - (k + 1) = m by omega, List.replicate_succ, ← List.map_set, List.set_append_right _ _ (by simp), List.range_succ]
  simp
theorem dn_at (n k : Nat) (nil : Nat → Bool) (h : k < n) : (((List.range k).map nil ++ List.replicate (n - k) false).map Value.bool)[k]? = some (.bool false) := by
  rw [List.getElem?_map, List.getElem?_append_right (by simp), List.length_map, List.length_range, Nat.sub_self, List.getElem?_replicate, if_pos (by omega)]
  rfl
theorem left_snoc (l : List Bool) (b : Bool) : leftE (l ++ [b]) = leftE l + if b = true then 0 else 1 := by
  unfold leftE
  rw [List.count_append]
  cases b <;> rfl
theorem three (w : World) (c1 c2 c3 : List Value) (t1 t2 t3 : TypeId) : Bk (((w.alloc (.cells c1.toArray t1)).alloc (.cells c2.toArray t2)).alloc (.cells c3.toArray t3)).drew w.heap.size t1 c1 ∧ Bk (((w.alloc (.cells c1.toArray t1)).alloc (.cells c2.toArray t2)).alloc (.cells c3.toArray t3)).drew (w.heap.size + 1) t2 c2 ∧
    Bk (((w.alloc (.cells c1.toArray t1)).alloc (.cells c2.toArray t2)).alloc (.cells c3.toArray t3)).drew (w.heap.size + 1 + 1) t3 c3 ∧ Below w.heap.size w (((w.alloc (.cells c1.toArray t1)).alloc (.cells c2.toArray t2)).alloc (.cells c3.toArray t3)).drew :=
  ⟨(((Bk.new w t1 c1).alloc _).alloc _).drew, ((Bk.new' _ t2 c2 (by simp)).alloc _).drew, (Bk.new' _ t3 c3 (by simp)).drew, ((((Below.refl _ _).alloc (Nat.le_refl _) _).alloc (by simp) _).alloc (by simp <;> omega) _).drew⟩
theorem each_ret {Q : Ending → World → Prop} {tm : Array Value} {W : World} {n : Nat} {a b : Addr} {n1 n2 c1 c2 : Nat} {k : Int} (hp : tm[8]?.getD undef = .pointer (some ⟨n, 0, none⟩)) (hb : Bk W n 84 [.slice (some a) n1 c1, .slice (some b) n2 c2, .int .i64 k])
    (h : Q (.returned (.agg #[.slice (some a) n1 c1, .slice (some b) n2 c2, .int .i64 k])) W) : bodyPost Try.prog Try.f149 Q Exit.ret { tmps := tm, defers := [] } W := by
  have c0 : W.cell? ⟨n, 0, none⟩ = some (.slice (some a) n1 c1) := hb.cell 0
  have c1 : W.cell? ⟨n, 1, none⟩ = some (.slice (some b) n2 c2) := hb.cell 1
  have c2 : W.cell? ⟨n, 2, none⟩ = some (.int .i64 k) := hb.cell 2
  exact bodyPost_ret (v := .agg #[.slice (some a) n1 _, .slice (some b) n2 _, .int .i64 k]) (by simp [results, Try.results149, go_sem, hp, c0, c1, c2]) rfl h


/-- What holds at the label. -/
def EachJ {σ : Type} (n : Nat) (J : World → σ → List Nat → Prop) (stp : σ → Nat → Int → σ × Bool) (nil : Nat → Bool) (s : σ) (S : List Nat) (L : List (Int × Int)) (t : TypeId) (p : Value) (po so : Option Addr) (cl cs : Nat) (w : World) (l : Nat) (a : Act) (W : World) : Prop :=
  l = 0 ∧ ∃ (k r0 sb db : Nat) (S' : List Nat), a = { tmps := #[.iface t p, .slice po n cl, .slice so L.length cs, Value.nilFunc, a.tmps.getD 4 undef, a.tmps.getD 5 undef, a.tmps.getD 6 undef, a.tmps.getD 7 undef, .pointer (some ⟨w.heap.size, 0, none⟩), .pointer (some ⟨r0, 0, none⟩), .int .i64 (leftE (runE n stp (startR n nil s) (L.take k)).dn : Nat), a.tmps.getD 11 undef, a.tmps.getD 12 undef, a.tmps.getD 13 undef, a.tmps.getD 14 undef, a.tmps.getD 15 undef, a.tmps.getD 16 undef, a.tmps.getD 17 undef, a.tmps.getD 18 undef, a.tmps.getD 19 undef, a.tmps.getD 20 undef, a.tmps.getD 21 undef, a.tmps.getD 22 undef, a.tmps.getD 23 undef, a.tmps.getD 24 undef, a.tmps.getD 25 undef, a.tmps.getD 26 undef, a.tmps.getD 27 undef, a.tmps.getD 28 undef, a.tmps.getD 29 undef, a.tmps.getD 30 undef, a.tmps.getD 31 undef, a.tmps.getD 32 undef, a.tmps.getD 33 undef, a.tmps.getD 34 undef, a.tmps.getD 35 undef, a.tmps.getD 36 undef, a.tmps.getD 37 undef, a.tmps.getD 38 undef, a.tmps.getD 39 undef, a.tmps.getD 40 undef, a.tmps.getD 41 undef, a.tmps.getD 42 undef, a.tmps.getD 43 undef, a.tmps.getD 44 undef, a.tmps.getD 45 undef, a.tmps.getD 46 undef, a.tmps.getD 47 undef, a.tmps.getD 48 undef, a.tmps.getD 49 undef, a.tmps.getD 50 undef, a.tmps.getD 51 undef, a.tmps.getD 52 undef, a.tmps.getD 53 undef, a.tmps.getD 54 undef, a.tmps.getD 55 undef, a.tmps.getD 56 undef, a.tmps.getD 57 undef, a.tmps.getD 58 undef, a.tmps.getD 59 undef, a.tmps.getD 60 undef, a.tmps.getD 61 undef, a.tmps.getD 62 undef, a.tmps.getD 63 undef, a.tmps.getD 64 undef, a.tmps.getD 65 undef, a.tmps.getD 66 undef, a.tmps.getD 67 undef, a.tmps.getD 68 undef, a.tmps.getD 69 undef, a.tmps.getD 70 undef, a.tmps.getD 71 undef, a.tmps.getD 72 undef, a.tmps.getD 73 undef, a.tmps.getD 74 undef, a.tmps.getD 75 undef, a.tmps.getD 76 undef, a.tmps.getD 77 undef, a.tmps.getD 78 undef, a.tmps.getD 79 undef, a.tmps.getD 80 undef, a.tmps.getD 81 undef, a.tmps.getD 82 undef, a.tmps.getD 83 undef, a.tmps.getD 84 undef, a.tmps.getD 85 undef, a.tmps.getD 86 undef, a.tmps.getD 87 undef, a.tmps.getD 88 undef, a.tmps.getD 89 undef, a.tmps.getD 90 undef, a.tmps.getD 91 undef, a.tmps.getD 92 undef, a.tmps.getD 93 undef, a.tmps.getD 94 undef, a.tmps.getD 95 undef, a.tmps.getD 96 undef, a.tmps.getD 97 undef, a.tmps.getD 98 undef, a.tmps.getD 99 undef, a.tmps.getD 100 undef, a.tmps.getD 101 undef, a.tmps.getD 102 undef, a.tmps.getD 103 undef, a.tmps.getD 104 undef, a.tmps.getD 105 undef, a.tmps.getD 106 undef], defers := [] } ∧ k ≤ L.length ∧ (∀ j, j < k → leftE (runE n stp (startR n nil s) (L.take j)).dn ≠ 0) ∧ EachS J w W n r0 sb db (runE n stp (startR n nil s) (L.take k)) k S S' 
def EachU (L : List (Int × Int)) (_ : Nat) (a : Act) (W : World) : Nat := L.length + 1 - (intOf ((W.cell? ⟨(match a.tmps.getD 9 undef with | .pointer (some q) => q.block | _ => 0), 2, none⟩).getD undef)).toNat

set_option maxHeartbeats 3200000 in
set_option maxRecDepth 100000 in
theorem each_any {Wb : World} {σ : Type} {n : Nat} {J : World → σ → List Nat → Prop} {stp : σ → Nat → Int → σ × Bool} {t : TypeId} {p : Value} {nil : Nat → Bool} {ts : Nat → TypeId} {ps rs : Nat → Value} {fs : Nat → FuncId} (M : Mach Wb n J stp t p nil ts ps rs fs) (s : σ) (S : List Nat) (L : List (Int × Int)) (vl vp : Value) (lb pb : Nat) (w : World) (hJ : J w s S) (hl : Machs w vl n nil ts ps lb) (hp : PicksB w vp L pb) (hlb : 0 < n → lb ∉ S) (hpb : 0 < L.length → pb ∉ S) (hn : n ≤ 1000) (hL : L.length ≤ 1000000) (hfb : Fr [] Wb w) (hsb0 : ∀ y ∈ S, Wb.heap.size ≤ y) :
    Calls Try.prog 149 #[.iface t p, vl, vp, Value.nilFunc] w fun e w' => EachR J n stp (startR n nil s) L w e w' S := by
  have HJ := Lib.hid hJ
  have HML := Lib.hid hl
  have HPL := Lib.hid hp
  obtain ⟨po, cl, rfl, _⟩ := hl
  obtain ⟨so, cs, rfl, _⟩ := hp
  have HLB := Lib.hid hlb
  have HPB := Lib.hid hpb
  have HM := Lib.hid M
  have HFB := Lib.hid hfb
  have HSB0 := Lib.hid hsb0
  have hmi := make_ints n (by omega)
  have hmb := make_bools n (by omega)
  have hnf : ∀ w, (binOp .neq 246 Value.nilFunc Value.nilFunc).run Try.prog w = .ok (.bool false) w := fun w => by kernel_rfl
  clear hJ hlb hpb M hfb hsb0
  go_enter Try.func149, Try.ntmps149
  go_wp2_with fail
  refine wp_scope_once (EachJ n J stp nil s S L t p po so cl cs w) (EachU L) ?pass ?first
  case pass =>
    rintro l a wr ⟨rfl, k, r0, sb, db, S', ha, hk, hon, hE⟩
    obtain ⟨u, hu⟩ : ∃ u : Nat → Value, a = { tmps := #[.iface t p, .slice po n cl, .slice so L.length cs, Value.nilFunc, u 4, u 5, u 6, u 7, .pointer (some ⟨w.heap.size, 0, none⟩), .pointer (some ⟨r0, 0, none⟩), .int .i64 (leftE (runE n stp (startR n nil s) (L.take k)).dn : Nat), u 11, u 12, u 13, u 14, u 15, u 16, u 17, u 18, u 19, u 20, u 21, u 22, u 23, u 24, u 25, u 26, u 27, u 28, u 29, u 30, u 31, u 32, u 33, u 34, u 35, u 36, u 37, u 38, u 39, u 40, u 41, u 42, u 43, u 44, u 45, u 46, u 47, u 48, u 49, u 50, u 51, u 52, u 53, u 54, u 55, u 56, u 57, u 58, u 59, u 60, u 61, u 62, u 63, u 64, u 65, u 66, u 67, u 68, u 69, u 70, u 71, u 72, u 73, u 74, u 75, u 76, u 77, u 78, u 79, u 80, u 81, u 82, u 83, u 84, u 85, u 86, u 87, u 88, u 89, u 90, u 91, u 92, u 93, u 94, u 95, u 96, u 97, u 98, u 99, u 100, u 101, u 102, u 103, u 104, u 105, u 106], defers := [] } := ⟨fun i => a.tmps.getD i undef, ha⟩
    clear ha
    subst hu
    refine ⟨_, rfl, ?_⟩
    have HE := Lib.hid hE
    have HON := Lib.hid hon
    have HSTB := Lib.hid (st_bd (n := n) (stp := stp) (L.take k) (st_start (n := n) nil s))
    have HNIL := Lib.hid (show ∀ i, i < n → nil i = true → dnAt (runE n stp (startR n nil s) (L.take k)).dn i = true from fun i hi h => dn_nil nil s (L.take k) hi h)
    have HNXT := Lib.hid (show k < L.length → runE n stp (startR n nil s) (L.take (k + 1)) = pickE n stp (runE n stp (startR n nil s) (L.take k)) (pickAt L k) from fun h => by rw [take_picks L k h, runE_snoc])
    have HRET := Lib.hid (show leftE (runE n stp (startR n nil s) (L.take k)).dn = 0 ∨ k = L.length → ∀ w3, Bk w3 sb 3 ((runE n stp (startR n nil s) (L.take k)).st.map (Value.int .i64)) → Bk w3 db 4 ((runE n stp (startR n nil s) (L.take k)).dn.map Value.bool) → J w3 (runE n stp (startR n nil s) (L.take k)).s S' → Fr S w w3 → EachR J n stp (startR n nil s) L w (.returned (.agg #[.slice (some ⟨sb, 0, none⟩) n n, .slice (some ⟨db, 0, none⟩) n n, .int .i64 (k : Nat)])) w3 S from fun hs w3 b1 b2 j f => ⟨k, sb, db, S', ⟨hk, hs, hon⟩, rfl, b1, b2, hE.len.1, hE.len.2, j, f, fun y hy => by have := hE.new y hy; exact ⟨this.1, this.2.2.2.1, this.2.2.2.2⟩, by have := hE.own; omega, by have := hE.own; omega, by have := hE.own; omega⟩)
    have HON2 := Lib.hid (show leftE (runE n stp (startR n nil s) (L.take k)).dn ≠ 0 → ∀ j, j < k + 1 → leftE (runE n stp (startR n nil s) (L.take j)).dn ≠ 0 from fun h0 j hj => by
      rcases (show j < k ∨ j = k by omega) with h | rfl
      · exact hon j h
      · exact h0)
    generalize (runE n stp (startR n nil s) (L.take k)) = x at *
    obtain ⟨c0, c1, c2⟩ : wr.cell? ⟨r0, 0, none⟩ = some (.slice (some ⟨sb, 0, none⟩) n n) ∧ wr.cell? ⟨r0, 1, none⟩ = some (.slice (some ⟨db, 0, none⟩) n n) ∧ wr.cell? ⟨r0, 2, none⟩ = some (.int .i64 (k : Nat)) := ⟨hE.r.cell 0, hE.r.cell 1, hE.r.cell 2⟩
    obtain ⟨z0, z1, z2, hz⟩ := hE.rb
    have e0 : wr.cell? ⟨w.heap.size, 0, none⟩ = some z0 := hz.cell 0
    have e1 : wr.cell? ⟨w.heap.size, 1, none⟩ = some z1 := hz.cell 1
    have e2 : wr.cell? ⟨w.heap.size, 2, none⟩ = some z2 := hz.cell 2
    have g0 := hz.free 0
    have g1 := hz.free 1
    have g2 := hz.free 2
    have HZ := Lib.hid hz
    clear hE hon hz
    have hlx : leftE x.dn ≤ 1000 := by unfold leftE; have h1 := List.count_le_length (a := false) (l := x.dn); rw [HE.out.len.2] at h1; omega
    by_cases h0 : leftE x.dn = 0 ∨ k = L.length
    · have HR := Lib.hid (HRET.out h0)
      have HFIN := Lib.hid (show ∀ w3, w3 = ((wr.setCell ⟨w.heap.size, 0, none⟩ (.slice (some ⟨sb, 0, none⟩) n n)).setCell ⟨w.heap.size, 1, none⟩ (.slice (some ⟨db, 0, none⟩) n n)).setCell ⟨w.heap.size, 2, none⟩ (.int .i64 (k : Nat)) → Bk w3 w.heap.size 84 [.slice (some ⟨sb, 0, none⟩) n n, .slice (some ⟨db, 0, none⟩) n n, .int .i64 (k : Nat)] ∧ EachR J n stp (startR n nil s) L w (.returned (.agg #[.slice (some ⟨sb, 0, none⟩) n n, .slice (some ⟨db, 0, none⟩) n n, .int .i64 (k : Nat)])) w3 S from fun w3 hw3 => by
        subst hw3
        have f2 : Fr [w.heap.size] wr (((wr.setCell ⟨w.heap.size, 0, none⟩ (.slice (some ⟨sb, 0, none⟩) n n)).setCell ⟨w.heap.size, 1, none⟩ (.slice (some ⟨db, 0, none⟩) n n)).setCell ⟨w.heap.size, 2, none⟩ (.int .i64 (k : Nat))) := (((Fr.refl _ _).set (by simp) _).set (by simp) _).set (by simp) _
        have ho := HE.out.own
        refine ⟨by simpa using ((HZ.out.set 0 _).set 1 _).set 2 _, HR.out _ (HE.out.s.fr f2 (by simp; omega)) (HE.out.d.fr f2 (by simp; omega)) (HM.out.keep _ _ _ _ _ HE.out.j f2 (fun y hy hm => (HE.out.new y hy).2.1 (List.mem_singleton.1 hm))) (fr_own HE.out.fr f2 (fun i hi => .inr (by rw [List.mem_singleton.1 hi]; exact Nat.le_refl _)))⟩)
      by_cases h1 : leftE x.dn = 0
      · have hb0 : (((leftE x.dn : Nat) : Int) == 0) = true := by simp [h1]
        clear h0 h1
        go_wp2_with fail
        first | rw [jumps_ret] | skip
        exact each_ret (by rfl) (HFIN.out _ rfl).1 (HFIN.out _ rfl).2
      · have hb0 : (((leftE x.dn : Nat) : Int) == 0) = false := by simpa using h1
        have hb1 : ((k : Int) == (L.length : Int)) = true := by simp; omega
        clear h0 h1
        go_wp2_with fail
        first | rw [jumps_ret] | skip
        exact each_ret (by rfl) (HFIN.out _ rfl).1 (HFIN.out _ rfl).2
    have h1 : leftE x.dn ≠ 0 := fun h => h0 (.inl h)
    have hkL : k < L.length := by
      have : k ≠ L.length := fun h => h0 (.inr h)
      omega
    have hb0 : (((leftE x.dn : Nat) : Int) == 0) = false := by simpa using h1
    have hb1 : ((k : Int) == (L.length : Int)) = false := by simp; omega
    have HON3 := Lib.hid (HON2.out h1)
    have HNX := Lib.hid (HNXT.out hkL)
    have hn0 : 0 < n := by
      have hl := HE.out.len.2
      rcases Nat.eq_zero_or_pos n with h | h
      · exfalso
        rw [h] at hl
        rw [List.eq_nil_of_length_eq_zero hl] at h1
        exact h1 rfl
      · exact h
    have hki : (k : Int) < L.length := by omega
    obtain ⟨_, _, e3, hp0⟩ := HPL.out.fr HE.out.fr HPB.out
    simp only [Value.slice.injEq, true_and] at e3
    obtain ⟨rfl, rfl⟩ := e3
    obtain ⟨offp, rfl, hp1⟩ := hp0 (by omega)
    obtain ⟨d0, d1⟩ := hp1 k hkL
    clear h0 h1 hp0 hp1 e0 e1 e2 g0 g1 g2
    generalize pickAt L k = pk at *
    obtain ⟨px, pd⟩ := pk
    dsimp only at d0 d1
    go_wp2_with fail
    refine (who_any px pd n _ (by omega)).mono ?_
    rintro e w2 ⟨rfl, hB⟩
    rw [whoN_int hn0]
    have HE2 := Lib.hid (HE.out.below HM.out hB)
    have HIN := Lib.hid (whoN_lt hn0 px)
    obtain ⟨i, hi⟩ : ∃ i, i = whoN n px := ⟨_, rfl⟩
    have HI := Lib.hid hi
    rw [← hi] at HIN
    rw [← hi]
    have b0 : w2.cell? ⟨r0, 0, none⟩ = some (.slice (some ⟨sb, 0, none⟩) n n) := HE2.out.r.cell 0
    have b1 : w2.cell? ⟨r0, 1, none⟩ = some (.slice (some ⟨db, 0, none⟩) n n) := HE2.out.r.cell 1
    have b2 : w2.cell? ⟨r0, 2, none⟩ = some (.int .i64 (k : Nat)) := HE2.out.r.cell 2
    have b3 := HE2.out.r.free 2
    have b4 := bools_at HE2.out.d i (by rw [HE2.out.len.2]; exact HIN.out)
    have hii : (i : Int) < n := by have := HIN.out; omega
    have d2 := keepc d1 hB
    clear hi hB c0 c1 c2 d0 d1
    cases hd : dnAt x.dn i with
    | true =>
      rw [hd] at b4
      have HX1 := Lib.hid (show runE n stp (startR n nil s) (L.take (k + 1)) = x by rw [HNX.out]; unfold pickE; rw [← HI.out, hd, if_pos rfl])
      have HE3 := Lib.hid (HE2.out.skip HM.out)
      rw [← HX1.out] at HE3
      clear hd
      go_wp2_with fail
      go_step3
      refine ⟨⟨rfl, k + 1, r0, sb, db, S', by rw [HX1.out]; rfl, by omega, HON3.out, HE3.out⟩, ?_⟩
      have q1 := HE3.out.r.cell 2
      have q2 := HE.out.r.cell 2
      show L.length + 1 - (intOf ((World.cell? _ ⟨r0, 2, none⟩).getD undef)).toNat < L.length + 1 - (intOf ((World.cell? _ ⟨r0, 2, none⟩).getD undef)).toNat
      rw [q1, q2]
      simp [intOf]
      omega
    | false =>
      rw [hd] at b4
      have hnil : nil i = false := by
        cases hn2 : nil i with
        | false => rfl
        | true => rw [HNIL.out i HIN.out hn2] at hd; cases hd
      obtain ⟨_, _, e3, hm0⟩ := HML.out.fr HE2.out.fr HLB.out
      simp only [Value.slice.injEq, true_and] at e3
      obtain ⟨rfl, rfl⟩ := e3
      obtain ⟨offm, rfl, hm1⟩ := hm0 hn0
      have m0 := hm1 i HIN.out
      rw [show machV nil ts ps i = .iface (ts i) (ps i) by unfold machV; rw [if_neg (by rw [hnil]; decide)]] at m0
      have hme := fun w => HM.out.meth i w HIN.out hnil
      have hni := fun w => HM.out.nila i w HIN.out hnil
      have hen := HM.out.enter i
      have HST := Lib.hid (fun w S s d h hfw => HM.out.step S s i d w HIN.out hnil h hfw)
      have HFBW := Lib.hid (show Fr [] Wb w2.drew from (HFB.out.from HE2.out.fr (fun y hy hl => by have := HSB0.out y hy; omega)).drew)
      have HJ2 := Lib.hid (HM.out.keep [] _ _ _ _ HE2.out.j ((Fr.refl [] w2).drew) (by simp))
      have HNS := Lib.hid (show r0 ∉ S' ∧ db ∉ S' ∧ sb ∉ S' from ⟨fun hm => (HE2.out.new _ hm).2.2.1 rfl, fun hm => (HE2.out.new _ hm).2.2.2.2 rfl, fun hm => (HE2.out.new _ hm).2.2.2.1 rfl⟩)
      have HNM := Lib.hid (show lb ∉ S' ∧ pb ∉ S' ∧ db ≠ lb ∧ db ≠ pb from by
        obtain ⟨o1, c1', e1', h1'⟩ := HML.out
        obtain ⟨o2, c2', e2', h2'⟩ := HPL.out
        obtain ⟨of1, _, q1⟩ := h1' hn0
        obtain ⟨of2, _, q2⟩ := h2' (by omega)
        have l1 := cell_lt (q1 0 hn0)
        have l2 := cell_lt (q2 0 (by omega)).1
        exact ⟨fun hm => by
          rcases (HE2.out.new _ hm).1 with h | h
          · exact HLB.out hn0 h
          · exact absurd l1 (by simp; omega), fun hm => by
          rcases (HE2.out.new _ hm).1 with h | h
          · exact HPB.out (by omega) h
          · exact absurd l2 (by simp; omega), fun he => by
          have := HE2.out.own
          subst he
          exact absurd l1 (by simp; omega), fun he => by
          have := HE2.out.own
          subst he
          exact absurd l2 (by simp; omega)⟩)
      have HCT := Lib.hid (fun b => count_set (i := i) (by rw [HE2.out.len.2]; exact HIN.out) hd b)
      have hsb := HSTB.out i
      have hlt2 : (L.take k).length ≤ L.length := by rw [List.length_take]; omega
      obtain ⟨y, hy⟩ : ∃ y, y = wd x.st i := ⟨_, rfl⟩
      have HYY := Lib.hid hy
      rw [← hy] at hsb
      have hy0 : 0 ≤ y := hsb.1
      have hy1 : y ≤ 1000000 := by omega
      clear hm0 hm1 hnil hsb hlt2 hy
      obtain ⟨s2, bb, hst⟩ : ∃ s2 bb, stp x.s i pd = (s2, bb) := ⟨_, _, rfl⟩
      have HS2 := Lib.hid hst
      have HX1 := Lib.hid (show runE n stp (startR n nil s) (L.take (k + 1)) = ⟨s2, x.st.set i (y + 1), x.dn.set i bb⟩ by rw [HNX.out]; unfold pickE; rw [← HI.out, hd, if_neg (by decide), hst, ← HYY.out])
      clear hst hd
      go_wp2_with fail
      refine wp_region_held_drew (S := (fun w' => w'.cell? ⟨r0, 1, none⟩ = some (.slice (some ⟨db, 0, none⟩) n n) ∧ w'.cell? ⟨r0, 2, none⟩ = some (.int .i64 (k : Nat)) ∧ w'.cell? ⟨lb, offm + i, none⟩ = some (.iface (ts i) (ps i)) ∧ w'.cell? ⟨pb, offp + k * 2 + 1, none⟩ = some (.int .i64 pd))) (by kernel_rfl) ?_ (fun hHeld => ?_)
      · exact ⟨b1, b2, m0, d2⟩
      refine take_at 0 (v := ?_) (some 65) rfl rfl (by kernel_rfl) (by kernel_rfl) (by kernel_rfl) (fun _ _ _ h => h) (Or.inl ⟨by rfl, ?_⟩) hHeld ?_
      rotate_left
      · (intro w hSw; (try dsimp only at hSw); go_simp; (try with_reducible rfl))
      simp only [Act.put, List.setIfInBounds_toArray, List.set_cons_zero, List.set_cons_succ]
      refine take_at 1 (v := ?_) (some 66) rfl rfl (by kernel_rfl) (by kernel_rfl) (by kernel_rfl) (fun _ _ _ h => h) (Or.inl ⟨by rfl, ?_⟩) hHeld ?_
      rotate_left
      · (intro w hSw; (try dsimp only at hSw); go_simp; (try with_reducible rfl))
      simp only [Act.put, List.setIfInBounds_toArray, List.set_cons_zero, List.set_cons_succ]
      refine take_at 2 (v := ?_) (some 67) rfl rfl (by kernel_rfl) (by kernel_rfl) (by kernel_rfl) (fun _ _ _ h => h) (Or.inl ⟨by rfl, ?_⟩) hHeld ?_
      rotate_left
      · (intro w hSw; (try dsimp only at hSw); go_simp; (try with_reducible rfl))
      simp only [Act.put, List.setIfInBounds_toArray, List.set_cons_zero, List.set_cons_succ]
      refine take_at 3 (v := ?_) (some 68) rfl rfl (by kernel_rfl) (by kernel_rfl) (by kernel_rfl) (fun _ _ _ h => h) (Or.inl ⟨by rfl, ?_⟩) hHeld ?_
      rotate_left
      · (intro w hSw; (try dsimp only at hSw); go_simp; (try with_reducible rfl))
      simp only [Act.put, List.setIfInBounds_toArray, List.set_cons_zero, List.set_cons_succ]
      refine take_at 4 (v := ?_) (some 69) rfl rfl (by kernel_rfl) (by kernel_rfl) (by kernel_rfl) (fun _ _ _ h => h) (Or.inl ⟨by rfl, ?_⟩) hHeld ?_
      rotate_left
      · (intro w hSw; (try dsimp only at hSw); go_simp; (try with_reducible rfl))
      simp only [Act.put, List.setIfInBounds_toArray, List.set_cons_zero, List.set_cons_succ]
      refine take_at 5 (v := ?_) (some 70) rfl rfl (by kernel_rfl) (by kernel_rfl) (by kernel_rfl) (fun _ _ _ h => h) (Or.inl ⟨by rfl, ?_⟩) hHeld ?_
      rotate_left
      · (intro w hSw; (try dsimp only at hSw); go_simp; (try with_reducible rfl))
      simp only [Act.put, List.setIfInBounds_toArray, List.set_cons_zero, List.set_cons_succ]
      refine take_at 6 (v := ?_) (some 71) rfl rfl (by kernel_rfl) (by kernel_rfl) (by kernel_rfl) (fun _ _ _ h => h) (Or.inl ⟨by rfl, ?_⟩) hHeld ?_
      rotate_left
      · (intro w hSw; (try dsimp only at hSw); go_simp; (try with_reducible rfl))
      simp only [Act.put, List.setIfInBounds_toArray, List.set_cons_zero, List.set_cons_succ]
      refine take_at 7 (v := ?_) (some 72) rfl rfl (by kernel_rfl) (by kernel_rfl) (by kernel_rfl) (fun _ _ _ h => h) (Or.inl ⟨by rfl, ?_⟩) hHeld ?_
      rotate_left
      · (intro w hSw; (try dsimp only at hSw); go_simp; (try with_reducible rfl))
      simp only [Act.put, List.setIfInBounds_toArray, List.set_cons_zero, List.set_cons_succ]
      refine take_at 8 (v := ?_) (some 73) rfl rfl (by kernel_rfl) (by kernel_rfl) (by kernel_rfl) (fun _ _ _ h => h) (Or.inl ⟨by rfl, ?_⟩) hHeld ?_
      rotate_left
      · (intro w hSw; (try dsimp only at hSw); go_simp; (try with_reducible rfl))
      simp only [Act.put, List.setIfInBounds_toArray, List.set_cons_zero, List.set_cons_succ]
      refine take_at 9 (v := ?_) (some 74) rfl rfl (by kernel_rfl) (by kernel_rfl) (by kernel_rfl) (fun _ _ _ h => h) (Or.inl ⟨by rfl, ?_⟩) hHeld ?_
      rotate_left
      · (intro w hSw; (try dsimp only at hSw); go_simp; (try with_reducible rfl))
      simp only [Act.put, List.setIfInBounds_toArray, List.set_cons_zero, List.set_cons_succ]
      refine take_at 10 (v := ?_) (some 75) rfl rfl (by kernel_rfl) (by kernel_rfl) (by kernel_rfl) (fun _ _ _ h => h) (Or.inl ⟨by rfl, ?_⟩) hHeld ?_
      rotate_left
      · (intro w hSw; (try dsimp only at hSw); go_simp; (try with_reducible rfl))
      simp only [Act.put, List.setIfInBounds_toArray, List.set_cons_zero, List.set_cons_succ]
      refine take_at 11 (v := ?_) (some 76) rfl rfl (by kernel_rfl) (by kernel_rfl) (by kernel_rfl) (fun _ _ _ h => h) (Or.inl ⟨by rfl, ?_⟩) hHeld ?_
      rotate_left
      · (intro w hSw; (try dsimp only at hSw); go_simp; (try with_reducible rfl))
      simp only [Act.put, List.setIfInBounds_toArray, List.set_cons_zero, List.set_cons_succ]
      refine take_at 12 (v := ?_) (some 77) rfl rfl (by kernel_rfl) (by kernel_rfl) (by kernel_rfl) (fun _ _ _ h => h) (Or.inl ⟨by rfl, ?_⟩) hHeld ?_
      rotate_left
      · (intro w hSw; (try dsimp only at hSw); go_simp; (try with_reducible rfl))
      simp only [Act.put, List.setIfInBounds_toArray, List.set_cons_zero, List.set_cons_succ]
      refine take_at 13 (v := ?_) (some 78) rfl rfl (by kernel_rfl) (by kernel_rfl) (by kernel_rfl) (fun _ _ _ h => h) (Or.inl ⟨by rfl, ?_⟩) hHeld ?_
      rotate_left
      · (intro w hSw; (try dsimp only at hSw); go_simp; (try with_reducible rfl))
      simp only [Act.put, List.setIfInBounds_toArray, List.set_cons_zero, List.set_cons_succ]
      refine take_at 14 (v := ?_) (some 79) rfl rfl (by kernel_rfl) (by kernel_rfl) (by kernel_rfl) (fun _ _ _ h => h) (Or.inl ⟨by rfl, ?_⟩) hHeld ?_
      rotate_left
      · (intro w hSw; (try dsimp only at hSw); go_simp; (try with_reducible rfl))
      simp only [Act.put, List.setIfInBounds_toArray, List.set_cons_zero, List.set_cons_succ]
      refine take_at 15 (v := ?_) (some 80) rfl rfl (by kernel_rfl) (by kernel_rfl) (by kernel_rfl) (fun _ _ _ h => h) (Or.inl ⟨by rfl, ?_⟩) hHeld ?_
      rotate_left
      · (intro w hSw; (try dsimp only at hSw); go_simp; (try with_reducible rfl))
      simp only [Act.put, List.setIfInBounds_toArray, List.set_cons_zero, List.set_cons_succ]
      refine wpAnyH_ready (rs := [16]) (by kernel_rfl) (by simp) ?_
      refine AllReadyH.cons rfl (fun K hK => ?_) AllReadyH.nil
      go_simp
      refine (HST.out _ _ _ _ HJ2.out HFBW.out).mono ?_; rintro e v1 ⟨rfl, hV⟩; rw [HS2.out] at hV ⊢; obtain ⟨S2, hJ3, hF3, hN3⟩ := hV; have HJ3 := Lib.hid hJ3; have HF3 := Lib.hid hF3; have HN3 := Lib.hid hN3; clear hJ3 hF3 hN3
      go_wp2_with fail
      refine hK.out _ _ ?_ (fun hHeld => ?_)
      · (try dsimp only at hHeld ⊢)
        go_split_ands
        exact ⟨cell_fr (by assumption) HF3.out HNS.out.1, cell_fr (by assumption) HF3.out HNS.out.1, cell_fr (by assumption) HF3.out HNM.out.1, cell_fr (by assumption) HF3.out HNM.out.2.1⟩
      clear hK K
      try simp only [Act.put, List.setIfInBounds_toArray, List.set_cons_zero, List.set_cons_succ]
      refine take_at 17 (v := ?_) (some 82) rfl rfl (by kernel_rfl) (by kernel_rfl) (by kernel_rfl) (fun _ _ _ h => h) (Or.inl ⟨by rfl, ?_⟩) hHeld ?_
      rotate_left
      · (intro w hSw; (try dsimp only at hSw); go_simp; (try with_reducible rfl))
      simp only [Act.put, List.setIfInBounds_toArray, List.set_cons_zero, List.set_cons_succ]
      have HF4 := Lib.hid (show Fr S' w2 v1 from ((Fr.refl _ w2).drew).trans HF3.out)
      have HN4 := Lib.hid (show ∀ y, y ∈ S2 → y ∈ S' ∨ w2.heap.size ≤ y from HN3.out)
      have HE5 := Lib.hid (HE2.out.pick HM.out HJ3.out HF4.out HN4.out i (y + 1) bb)
      have HLN := HE2.out.len
      rw [← HX1.out] at HE5
      have k0 := bools_at (HE2.out.d.fr HF4.out HNS.out.2.1) i (by rw [HLN.2]; exact HIN.out)
      have k1 := (HE2.out.d.fr HF4.out HNS.out.2.1).free i
      have k2 : v1.cell? ⟨r0, 0, none⟩ = some (.slice (some ⟨sb, 0, none⟩) n n) := (HE2.out.r.fr HF4.out HNS.out.1).cell 0
      have k3 : v1.cell? ⟨r0, 1, none⟩ = some (.slice (some ⟨db, 0, none⟩) n n) := (HE2.out.r.fr HF4.out HNS.out.1).cell 1
      have k4 : v1.cell? ⟨r0, 2, none⟩ = some (.int .i64 (k : Nat)) := (HE2.out.r.fr HF4.out HNS.out.1).cell 2
      have k5 := (HE2.out.r.fr HF4.out HNS.out.1).free 2
      have k6 := ints_at' (HE2.out.s.fr HF4.out HNS.out.2.2) i (by rw [HLN.1]; exact HIN.out)
      have k7 := (HE2.out.s.fr HF4.out HNS.out.2.2).free i
      rw [← HYY.out] at k6
      obtain ⟨o1, o2, o3, o4, o5, o6⟩ := HE2.out.own
      have t0 : (v1.setCell ⟨db, i, none⟩ (.bool bb)).cell? ⟨r0, 0, none⟩ = some (.slice (some ⟨sb, 0, none⟩) n n) := set_other k2 (.inl (by show db ≠ r0; omega))
      have t1 : (v1.setCell ⟨db, i, none⟩ (.bool bb)).cell? ⟨sb, i, none⟩ = some (.int .i64 y) := set_other k6 (.inl (by show db ≠ sb; omega))
      have t2 : ((v1.setCell ⟨db, i, none⟩ (.bool bb)).setCell ⟨sb, i, none⟩ (.int .i64 (y + 1))).cell? ⟨r0, 1, none⟩ = some (.slice (some ⟨db, 0, none⟩) n n) := set_other (set_other k3 (.inl (by show db ≠ r0; omega))) (.inl (by show sb ≠ r0; omega))
      have t3 : ((v1.setCell ⟨db, i, none⟩ (.bool bb)).setCell ⟨sb, i, none⟩ (.int .i64 (y + 1))).cell? ⟨db, i, none⟩ = some (.bool bb) := set_other (set_same k0) (.inl (by show sb ≠ db; omega))
      have t4 : ((v1.setCell ⟨db, i, none⟩ (.bool bb)).setCell ⟨sb, i, none⟩ (.int .i64 (y + 1))).cell? ⟨r0, 2, none⟩ = some (.int .i64 (k : Nat)) := set_other (set_other k4 (.inl (by show db ≠ r0; omega))) (.inl (by show sb ≠ r0; omega))
      clear HLN
      refine wpAnyH_ready (rs := [18]) (by kernel_rfl) (by simp) ?_
      refine AllReadyH.cons rfl (fun K hK => ?_) AllReadyH.nil
      go_simp
      refine hK.out _ _ ?_ (fun hHeld => ?_)
      · (try dsimp only at hHeld ⊢)
        go_split_ands
        exact ⟨set_other (by assumption) (.inl (by show db ≠ r0; omega)), set_other (by assumption) (.inl (by show db ≠ r0; omega)), set_other (by assumption) (.inl HNM.out.2.2.1), set_other (by assumption) (.inl HNM.out.2.2.2)⟩
      clear hK K hHeld
      try simp only [Act.put, List.setIfInBounds_toArray, List.set_cons_zero, List.set_cons_succ]
      refine wpAnyH_done (by kernel_rfl) ?_ _
      have hcb := HCT.out bb
      have HDN := Lib.hid (show (runE n stp (startR n nil s) (L.take (k + 1))).dn = x.dn.set i bb by rw [HX1.out])
      cases bb with
      | true =>
        have hl1 : 1 ≤ leftE x.dn := by rw [if_pos rfl] at hcb; omega
        have H10 := Lib.hid (show ((leftE (runE n stp (startR n nil s) (L.take (k + 1))).dn : Nat) : Int) = (leftE x.dn : Nat) - 1 by rw [HDN.out]; rw [if_pos rfl] at hcb; omega)
        clear hcb
        go_wp2_with fail
        go_step3
        refine ⟨⟨rfl, k + 1, r0, sb, db, S2, by rw [H10.out]; rfl, by omega, HON3.out, HE5.out⟩, ?_⟩
        have q1 := HE5.out.r.cell 2
        have q2 := HE.out.r.cell 2
        show L.length + 1 - (intOf ((World.cell? _ ⟨r0, 2, none⟩).getD undef)).toNat < L.length + 1 - (intOf ((World.cell? _ ⟨r0, 2, none⟩).getD undef)).toNat
        rw [q1, q2]
        simp [intOf]
        omega
      | false =>
        have H10 := Lib.hid (show leftE (runE n stp (startR n nil s) (L.take (k + 1))).dn = leftE x.dn by rw [HDN.out]; rw [if_neg (by decide)] at hcb; omega)
        clear hcb
        go_wp2_with fail
        go_step3
        refine ⟨⟨rfl, k + 1, r0, sb, db, S2, by rw [H10.out]; rfl, by omega, HON3.out, HE5.out⟩, ?_⟩
        have q1 := HE5.out.r.cell 2
        have q2 := HE.out.r.cell 2
        show L.length + 1 - (intOf ((World.cell? _ ⟨r0, 2, none⟩).getD undef)).toNat < L.length + 1 - (intOf ((World.cell? _ ⟨r0, 2, none⟩).getD undef)).toNat
        rw [q1, q2]
        simp [intOf]
        omega
  case first =>
    intro hlab
    have HLAB := Lib.hid hlab
    clear hlab
    go_wp2_with fail
    refine (or_some _ _ _).mono ?_
    rintro e w1 ⟨rfl, hww⟩
    subst w1
    have KR := Lib.hid (Bk.new w 84 [.slice none 0 0, .slice none 0 0, .int .i64 0])
    have B0 := Lib.hid ((Below.refl w.heap.size w).alloc (Nat.le_refl _) (.cells #[.slice none 0 0, .slice none 0 0, .int .i64 0] 84))
    have hsz : (w.alloc (.cells #[.slice none 0 0, .slice none 0 0, .int .i64 0] 84)).heap.size = w.heap.size + 1 := by simp
    have HSZ := Lib.hid hsz
    clear hsz
    generalize w.alloc (.cells #[.slice none 0 0, .slice none 0 0, .int .i64 0] 84) = w1 at *
    go_wp2_with fail
    go_cut [9] (fun r wx => ∃ r0 sb db, r = .pointer (some ⟨r0, 0, none⟩) ∧ Bk wx r0 84 [.slice (some ⟨sb, 0, none⟩) n n, .slice (some ⟨db, 0, none⟩) n n, .int .i64 0] ∧ Bk wx sb 3 (List.replicate n (Value.int .i64 0)) ∧ Bk wx db 4 (List.replicate n (Value.bool false)) ∧ w1.heap.size ≤ r0 ∧ w1.heap.size ≤ sb ∧ w1.heap.size ≤ db ∧ r0 ≠ sb ∧ r0 ≠ db ∧ sb ≠ db ∧ Below w1.heap.size w1 wx)
    case first =>
      go_region
      all_goals
        go_wp2_with fail
        go_meet
        first
        | (have T3 := three w1 (List.replicate n (Value.int .i64 0)) (List.replicate n (Value.bool false)) [.slice (some ⟨w1.heap.size, 0, none⟩) n n, .slice (some ⟨(w1.heap.size + 1), 0, none⟩) n n, .int .i64 0] 3 4 84; exact ⟨(w1.heap.size + 1 + 1), w1.heap.size, (w1.heap.size + 1), rfl, by simpa using T3.2.2.1, by simpa using T3.1, by simpa using T3.2.1, by omega, by omega, by omega, by omega, by omega, by omega, by simpa using T3.2.2.2⟩)
        | (have T3 := three w1 (List.replicate n (Value.int .i64 0)) [.slice (some ⟨w1.heap.size, 0, none⟩) n n, .slice (some ⟨(w1.heap.size + 1 + 1), 0, none⟩) n n, .int .i64 0] (List.replicate n (Value.bool false)) 3 84 4; exact ⟨(w1.heap.size + 1), w1.heap.size, (w1.heap.size + 1 + 1), rfl, by simpa using T3.2.1, by simpa using T3.1, by simpa using T3.2.2.1, by omega, by omega, by omega, by omega, by omega, by omega, by simpa using T3.2.2.2⟩)
        | (have T3 := three w1 (List.replicate n (Value.bool false)) (List.replicate n (Value.int .i64 0)) [.slice (some ⟨(w1.heap.size + 1), 0, none⟩) n n, .slice (some ⟨w1.heap.size, 0, none⟩) n n, .int .i64 0] 4 3 84; exact ⟨(w1.heap.size + 1 + 1), (w1.heap.size + 1), w1.heap.size, rfl, by simpa using T3.2.2.1, by simpa using T3.2.1, by simpa using T3.1, by omega, by omega, by omega, by omega, by omega, by omega, by simpa using T3.2.2.2⟩)
        | (have T3 := three w1 (List.replicate n (Value.bool false)) [.slice (some ⟨(w1.heap.size + 1 + 1), 0, none⟩) n n, .slice (some ⟨w1.heap.size, 0, none⟩) n n, .int .i64 0] (List.replicate n (Value.int .i64 0)) 4 84 3; exact ⟨(w1.heap.size + 1), (w1.heap.size + 1 + 1), w1.heap.size, rfl, by simpa using T3.2.1, by simpa using T3.2.2.1, by simpa using T3.1, by omega, by omega, by omega, by omega, by omega, by omega, by simpa using T3.2.2.2⟩)
        | (have T3 := three w1 [.slice (some ⟨(w1.heap.size + 1), 0, none⟩) n n, .slice (some ⟨(w1.heap.size + 1 + 1), 0, none⟩) n n, .int .i64 0] (List.replicate n (Value.int .i64 0)) (List.replicate n (Value.bool false)) 84 3 4; exact ⟨w1.heap.size, (w1.heap.size + 1), (w1.heap.size + 1 + 1), rfl, by simpa using T3.1, by simpa using T3.2.1, by simpa using T3.2.2.1, by omega, by omega, by omega, by omega, by omega, by omega, by simpa using T3.2.2.2⟩)
        | (have T3 := three w1 [.slice (some ⟨(w1.heap.size + 1 + 1), 0, none⟩) n n, .slice (some ⟨(w1.heap.size + 1), 0, none⟩) n n, .int .i64 0] (List.replicate n (Value.bool false)) (List.replicate n (Value.int .i64 0)) 84 4 3; exact ⟨w1.heap.size, (w1.heap.size + 1 + 1), (w1.heap.size + 1), rfl, by simpa using T3.1, by simpa using T3.2.2.1, by simpa using T3.2.1, by omega, by omega, by omega, by omega, by omega, by omega, by simpa using T3.2.2.2⟩)
    case rest =>
      obtain ⟨r0, sb, db, rfl, hbr, hbs, hbd, hr0, hsb, hdb, hne1, hne2, hne3, hB⟩ := hcut
      have HJ1 := Lib.hid (HM.out.keep [] _ _ _ _ (HM.out.keep [] _ _ _ _ HJ.out (.of B0.out) (by simp)) (.of hB) (by simp))
      have HBR := Lib.hid hbr
      have HBS := Lib.hid hbs
      have HBD := Lib.hid hbd
      have HRB := Lib.hid (KR.out.below hB)
      have HFR := Lib.hid (show Fr [] w _ from (Fr.of B0.out).trans (.of hB))
      have HOW := Lib.hid (show w.heap.size < r0 ∧ w.heap.size < sb ∧ w.heap.size < db ∧ r0 ≠ sb ∧ r0 ≠ db ∧ sb ≠ db by have := HSZ.out; omega)
      clear hbr hbs hbd hB hr0 hsb hdb hne1 hne2 hne3
      go_wp2_with fail
      go_loopw [10, 25] (fun lf i wx => ∃ k : Nat, k ≤ n ∧ i = .int .i64 k ∧ lf = .int .i64 (leftE ((List.range k).map nil) : Nat) ∧ Bk wx w.heap.size 84 [.slice none 0 0, .slice none 0 0, .int .i64 0] ∧ Bk wx r0 84 [.slice (some ⟨sb, 0, none⟩) n n, .slice (some ⟨db, 0, none⟩) n n, .int .i64 0] ∧ Bk wx sb 3 (List.replicate n (Value.int .i64 0)) ∧ Bk wx db 4 (((List.range k).map nil ++ List.replicate (n - k) false).map Value.bool) ∧ J wx s S ∧ Fr [] w wx)
        (fun _ i _ => n - (intOf i).toNat)
      case atStart => exact ⟨0, Nat.zero_le _, rfl, rfl, HRB.out, HBR.out, HBS.out, by simpa using HBD.out, HJ1.out, HFR.out⟩
      case round =>
        obtain ⟨k, hk, rfl, rfl, hRB, hBR, hBS, hBD, hJ, hF⟩ := hrel
        have HRBk := Lib.hid hRB
        have HBRk := Lib.hid hBR
        have HBSk := Lib.hid hBS
        have HBDk := Lib.hid hBD
        have HJk := Lib.hid hJ
        have HFk := Lib.hid hF
        clear hRB hBR hBS hBD hJ hF HJ1 HBR HBS HBD HRB HFR
        by_cases hlt : k < n
        · obtain ⟨_, _, e3, hd0⟩ := HML.out.fr HFk.out (by simp)
          simp only [Value.slice.injEq, true_and] at e3
          obtain ⟨rfl, rfl⟩ := e3
          obtain ⟨off, rfl, hd1⟩ := hd0 (by omega)
          have hm := hd1 k hlt
          have hki : (k : Int) < n := by omega
          have c1 : wr.cell? ⟨r0, 1, none⟩ = some (.slice (some ⟨db, 0, none⟩) n n) := HBRk.out.cell 1
          have ce : wr.cell? ⟨db, k, none⟩ = some (.bool false) := by rw [HBDk.out.cell]; exact dn_at n k nil hlt
          have cf := HBDk.out.free k
          have HST := Lib.hid (dn_set n k nil hlt)
          have HCT := Lib.hid (show leftE ((List.range (k + 1)).map nil) = leftE ((List.range k).map nil) + if nil k = true then 0 else 1 by rw [List.range_succ, List.map_append]; exact left_snoc _ _)
          have hlc : leftE ((List.range k).map nil) ≤ 1000 := by unfold leftE; have := List.count_le_length (a := false) (l := (List.range k).map nil); simp at this; omega
          have HOWk := HOW
          obtain ⟨o1, o2, o3, o4, o5, o6⟩ := HOW.out
          have HNJ := Lib.hid (show ∀ y ∈ S, y ∉ [db] from fun y hy hm => by have := HM.out.lt _ _ _ HJ.out y hy; simp at hm; omega)
          clear hd0 hd1
          cases hnk : nil k with
          | true =>
            rw [show machV nil ts ps k = Value.nilIface by unfold machV; rw [if_pos hnk]] at hm
            rw [hnk] at HST HCT
            clear hnk
            go_wp2_with fail
            go_region
            go_wp2_with fail
            go_roundw
            case rel =>
              have F := ((Fr.refl [db] wr).set (p := ⟨db, k, none⟩) (by simp) (.bool true)).drew
              exact ⟨k + 1, by omega, by go_num, by rw [HCT.out]; rfl, HRBk.out.fr F (by simp; omega), HBRk.out.fr F (by simp; omega), HBSk.out.fr F (by simp; omega), by rw [← HST.out]; exact (HBDk.out.set k _).drew, HM.out.keep [db] _ _ _ _ HJk.out F HNJ.out, fr_own HFk.out F (fun y hy => by simp at hy; omega)⟩
            case measure => simp [intOf]; omega
          | false =>
            rw [show machV nil ts ps k = .iface (ts k) (ps k) by unfold machV; rw [if_neg (by rw [hnk]; decide)]] at hm
            rw [hnk] at HST HCT
            clear hnk
            go_wp2_with fail
            go_region
            go_wp2_with fail
            go_roundw
            case rel =>
              have F := ((Fr.refl [db] wr).set (p := ⟨db, k, none⟩) (by simp) (.bool false)).drew
              exact ⟨k + 1, by omega, by go_num, by rw [HCT.out]; rfl, HRBk.out.fr F (by simp; omega), HBRk.out.fr F (by simp; omega), HBSk.out.fr F (by simp; omega), by rw [← HST.out]; exact (HBDk.out.set k _).drew, HM.out.keep [db] _ _ _ _ HJk.out F HNJ.out, fr_own HFk.out F (fun y hy => by simp at hy; omega)⟩
            case measure => simp [intOf]; omega
        · obtain rfl : k = n := by omega
          have HES := Lib.hid (show EachS J w wr k r0 sb db (startR k nil s) 0 S S from ⟨⟨_, _, _, HRBk.out⟩, HBRk.out, by unfold startR; simpa using HBSk.out, by unfold startR; simpa using HBDk.out, startR_len _ _ _, HJk.out, fun y hy => by
            have h1 := HM.out.lt _ _ _ HJ.out y hy
            have h2 := HOW.out
            exact ⟨.inl hy, by omega, by omega, by omega, by omega⟩, HOW.out, HFk.out.mono (by simp)⟩)
          go_wp2_with fail
          go_step3
          refine (‹∀ (a : Act) (w : World), _ → _› _ _ ?_)
          refine some_wp (l := 0) rfl (HLAB.out 0 _ _ ⟨rfl, ?_⟩)
          exact ⟨0, r0, sb, db, S, rfl, Nat.zero_le _, fun j hj => by omega, HES.out⟩


end Go.Proofs.Yteheckcflnogbaa
