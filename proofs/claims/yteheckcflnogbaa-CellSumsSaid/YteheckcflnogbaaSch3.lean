/-
  sched.Run, Finished: contracts. Written by wip/gen/mksch3.py.
-/
import Derived.Test.YteheckcflnogbaaSch2
namespace Go.Proofs.Yteheckcflnogbaa
open Go.RowKit


theorem run_ret {Q : Ending → World → Prop} {tm : Array Value} {W : World} {n : Nat} {a b : Addr} {n1 n2 c1 c2 : Nat} {k : Int} (hp : tm[6]?.getD undef = .pointer (some ⟨n, 0, none⟩)) (hb : Bk W n 84 [.slice (some a) n1 c1, .slice (some b) n2 c2, .int .i64 k])
    (h : Q (.returned (.agg #[.slice (some a) n1 c1, .slice (some b) n2 c2, .int .i64 k])) W) : bodyPost Try.prog Try.f88 Q Exit.ret { tmps := tm, defers := [] } W := by
  have c0 : W.cell? ⟨n, 0, none⟩ = some (.slice (some a) n1 c1) := hb.cell 0
  have c1 : W.cell? ⟨n, 1, none⟩ = some (.slice (some b) n2 c2) := hb.cell 1
  have c2 : W.cell? ⟨n, 2, none⟩ = some (.int .i64 k) := hb.cell 2
  exact bodyPost_ret (v := .agg #[.slice (some a) n1 _, .slice (some b) n2 _, .int .i64 k]) (by simp [results, Try.results88, go_sem, hp, c0, c1, c2]) rfl h
theorem EachR.wide {σ : Type} {J : World → σ → List Nat → Prop} {n : Nat} {stp : σ → Nat → Int → σ × Bool} {x : RunT σ} {L : List (Int × Int)} {w w1 : World} {e : Ending} {w' : World} {S : List Nat} (hB : Below w.heap.size w w1) (h : EachR J n stp x L w1 e w' S) : EachR J n stp x L w e w' S := by
  obtain ⟨k, sb, db, S', h1, h2, h3, h4, h5, h6, h7, h8, h9, h10, h11, h12⟩ := h
  have hs := hB.size
  exact ⟨k, sb, db, S', h1, h2, h3, h4, h5, h6, h7, (Fr.of hB).trans h8, fun y hy => by
    obtain ⟨q1, q2⟩ := h9 y hy
    exact ⟨by rcases q1 with h | h; exact .inl h; right; omega, q2⟩, by omega, by omega, h12⟩

set_option maxHeartbeats 3200000 in
set_option maxRecDepth 100000 in
theorem run_any {Wb : World} {σ : Type} {n : Nat} {J : World → σ → List Nat → Prop} {stp : σ → Nat → Int → σ × Bool} {t : TypeId} {p : Value} {nil : Nat → Bool} {ts : Nat → TypeId} {ps rs : Nat → Value} {fs : Nat → FuncId} (M : Mach Wb n J stp t p nil ts ps rs fs) (s : σ) (S : List Nat) (L : List (Int × Int)) (vl vp : Value) (lb pb : Nat) (w : World) (hJ : J w s S) (hl : Machs w vl n nil ts ps lb) (hp : PicksB w vp L pb) (hlb : 0 < n → lb ∉ S) (hpb : 0 < L.length → pb ∉ S) (hn : n ≤ 1000) (hL : L.length ≤ 1000000) (hfb : Fr [] Wb w) (hsb0 : ∀ y ∈ S, Wb.heap.size ≤ y) :
    Calls Try.prog 88 #[.iface t p, vl, vp] w fun e w' => EachR J n stp (startR n nil s) L w e w' S := by
  have B0 := Lib.hid ((Below.refl w.heap.size w).alloc (Nat.le_refl _) (.cells #[.slice none 0 0, .slice none 0 0, .int .i64 0] 84))
  have KR := Lib.hid (Bk.new w 84 [.slice none 0 0, .slice none 0 0, .int .i64 0])
  have HJ := Lib.hid (M.keep [] _ _ _ _ hJ (.of B0.out) (by simp))
  have HL := Lib.hid (hl.fr (S := []) (.of B0.out) (by simp))
  have HP := Lib.hid (hp.fr (S := []) (.of B0.out) (by simp))
  have HLT := Lib.hid (M.lt _ _ _ hJ)
  have HM := Lib.hid M
  clear hJ hl hp M
  go_enter Try.func88, Try.ntmps88
  go_wp2_with fail
  refine (each_any HM.out s S L vl vp lb pb _ HJ.out HL.out HP.out hlb hpb hn hL (hfb.trans (.of B0.out)) hsb0).mono ?_
  rintro e w2 ⟨k, sb, db, S', hst, rfl, hbs, hbd, hl1, hl2, hj, hf, hnw, hs1, hs2, hne⟩
  have hws : (w.alloc (.cells #[.slice none 0 0, .slice none 0 0, .int .i64 0] 84)).heap.size = w.heap.size + 1 := by simp
  have hsS : w.heap.size ∉ S := fun hm => by have := HLT.out _ hm; omega
  have hsS' : w.heap.size ∉ S' := fun hm => by
    rcases (hnw _ hm).1 with h | h
    · exact hsS h
    · omega
  have HR := Lib.hid (KR.out.fr hf hsS)
  have f2 : ∀ a b c : Value, Fr [w.heap.size] w2 (((w2.setCell ⟨w.heap.size, 0, none⟩ a).setCell ⟨w.heap.size, 1, none⟩ b).setCell ⟨w.heap.size, 2, none⟩ c) := fun a b c => (((Fr.refl _ _).set (by simp) _).set (by simp) _).set (by simp) _
  have HFIN := Lib.hid (show ∀ a b c : Value, EachR J n stp (startR n nil s) L w (.returned (.agg #[.slice (some ⟨sb, 0, none⟩) n n, .slice (some ⟨db, 0, none⟩) n n, .int .i64 (k : Nat)])) (((w2.setCell ⟨w.heap.size, 0, none⟩ a).setCell ⟨w.heap.size, 1, none⟩ b).setCell ⟨w.heap.size, 2, none⟩ c) S from fun a b c =>
    ⟨k, sb, db, S', hst, rfl, hbs.fr (f2 a b c) (by simp; omega), hbd.fr (f2 a b c) (by simp; omega), hl1, hl2, HM.out.keep _ _ _ _ _ hj (f2 a b c) (fun y hy hm => hsS' (List.mem_singleton.1 hm ▸ hy)), ((Fr.of B0.out).trans hf).from (f2 a b c) (fun i hi hl => by rw [List.mem_singleton.1 hi] at hl; omega), fun y hy => by
      obtain ⟨q1, q2⟩ := hnw y hy
      exact ⟨by rcases q1 with h | h; exact .inl h; right; omega, q2⟩, by omega, by omega, hne⟩)
  have e0 : w2.cell? ⟨w.heap.size, 0, none⟩ = some (.slice none 0 0) := HR.out.cell 0
  have e1 : w2.cell? ⟨w.heap.size, 1, none⟩ = some (.slice none 0 0) := HR.out.cell 1
  have e2 : w2.cell? ⟨w.heap.size, 2, none⟩ = some (.int .i64 0) := HR.out.cell 2
  have g0 := HR.out.free 0
  have g1 := HR.out.free 1
  have g2 := HR.out.free 2
  clear hst hbs hbd hl1 hl2 hj hf hnw hs1 hs2 hne hws hsS hsS' f2
  go_wp2_with fail
  exact run_ret (by rfl) (by simpa using ((HR.out.set 0 _).set 1 _).set 2 _) (HFIN.out _ _ _)

theorem left_zero {l : List Bool} : leftE l = 0 ↔ ∀ i, i < l.length → dnAt l i = true := by
  unfold leftE
  rw [List.count_eq_zero]
  constructor
  · intro h i hi
    unfold dnAt
    rw [List.getElem?_eq_getElem hi]
    cases hb : l[i] with
    | true => rfl
    | false => exact absurd (hb ▸ List.getElem_mem hi) h
  · intro h hm
    obtain ⟨i, hi, he⟩ := List.getElem_of_mem hm
    have := h i hi
    unfold dnAt at this
    rw [List.getElem?_eq_getElem hi, he] at this
    cases this

set_option maxHeartbeats 3200000 in
set_option maxRecDepth 100000 in
theorem bindex_any (g : Nat) (l : List Bool) (n : Nat) (w : World) (h : Bk w g 4 (l.map Value.bool)) (hl : l.length = n) (hn : n ≤ 1000000) :
    Calls Try.prog 170 #[.slice (some ⟨g, 0, none⟩) n n, .bool false] w fun e w' => (∃ r : Int, e = .returned (.int .i64 r) ∧ decide (0 ≤ r) = !(decide (leftE l = 0))) ∧ w' = w := by
  have HB := Lib.hid h
  have HLN := Lib.hid hl
  clear h hl
  go_enter Try.func170, Try.ntmps170
  go_wp2_with fail
  go_loopw [8] (fun i wr => ∃ k : Nat, k ≤ n ∧ i = .int .i64 k ∧ Hid (∀ j, j < k → dnAt l j = true) ∧ wr = w)
    (fun i _ => n - (intOf i).toNat)
  case atStart => exact ⟨0, Nat.zero_le _, rfl, Lib.hid (fun i h => by omega), rfl⟩
  case round =>
    obtain ⟨k, hk, rfl, HA, rfl⟩ := hrel
    by_cases hlt : k < n
    · have c0 := bools_at HB.out k (by rw [HLN.out]; exact hlt)
      have hki : (k : Int) < n := by omega
      cases hd : dnAt l k with
      | true =>
        rw [hd] at c0
        have HS := Lib.hid (show ∀ j, j < k + 1 → dnAt l j = true from fun j hj => by
          rcases (show j < k ∨ j = k by omega) with h | rfl
          · exact HA.out j h
          · exact hd)
        clear hd
        go_wp2_with fail
        go_roundw
        case rel => exact ⟨k + 1, by omega, by go_num, HS, trivial⟩
        case measure => simp [intOf]; omega
      | false =>
        rw [hd] at c0
        have HV := Lib.hid (show decide (leftE l = 0) = false by
          rw [decide_eq_false_iff_not]
          intro h
          have := left_zero.1 h k (by rw [HLN.out]; exact hlt)
          rw [hd] at this
          cases this)
        clear hd
        go_wp2_with fail
        go_ret
        exact ⟨⟨_, rfl, by rw [HV.out]; simp⟩, rfl⟩
    · obtain rfl : k = n := by omega
      have HV := Lib.hid (show decide (leftE l = 0) = true from decide_eq_true (left_zero.2 (fun i hi => HA.out i (by rw [← HLN.out]; exact hi))))
      go_wp2_with fail
      go_ret
      exact ⟨⟨_, rfl, by rw [HV.out]; rfl⟩, rfl⟩

set_option maxHeartbeats 3200000 in
set_option maxRecDepth 100000 in
theorem bcontains_any (g : Nat) (l : List Bool) (n : Nat) (w : World) (h : Bk w g 4 (l.map Value.bool)) (hl : l.length = n) (hn : n ≤ 1000000) :
    Calls Try.prog 134 #[.slice (some ⟨g, 0, none⟩) n n, .bool false] w fun e w' => e = .returned (.bool (!(decide (leftE l = 0)))) ∧ w' = w := by
  go_enter Try.func134, Try.ntmps134
  go_wp2_with fail
  refine (bindex_any g l n _ h hl hn).mono ?_
  rintro e w1 ⟨⟨r, rfl, hr⟩, hww⟩
  subst w1
  have HR := Lib.hid hr
  clear hr
  go_wp2_with fail
  go_ret
  exact ⟨ret_bool HR.out, rfl⟩

set_option maxHeartbeats 3200000 in
set_option maxRecDepth 100000 in
theorem fin_any (g : Nat) (l : List Bool) (n : Nat) (v k : Value) (o : Option Addr) (m c : Nat) (w : World) (h : Bk w g 4 (l.map Value.bool)) (hl : l.length = n) (hn : n ≤ 1000000) (hv : v = .slice o m c) (hk : ∃ z, k = .int .i64 z) :
    Calls Try.prog 63 #[.agg #[v, .slice (some ⟨g, 0, none⟩) n n, k]] w fun e w' => e = .returned (.bool (decide (leftE l = 0))) ∧ Below w.heap.size w w' := by
  obtain ⟨z, rfl⟩ := hk
  subst hv
  have HB := Lib.hid (h.alloc (.cells #[.slice o m c, .slice (some ⟨g, 0, none⟩) n n, .int .i64 z] 84))
  clear h
  go_enter Try.func63, Try.ntmps63
  go_wp2_with fail
  refine (bcontains_any g l n _ HB.out hl hn).mono ?_
  rintro e w1 ⟨rfl, hww⟩
  subst w1
  go_wp2_with fail
  go_ret
  exact ⟨ret_bool (by simp), (Below.refl _ _).alloc (Nat.le_refl _) _⟩


end Go.Proofs.Yteheckcflnogbaa
