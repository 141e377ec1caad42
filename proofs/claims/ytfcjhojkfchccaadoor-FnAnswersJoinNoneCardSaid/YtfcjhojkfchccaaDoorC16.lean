/- Texts laid together. -/
import Derived.Test.YtfcjhojkfchccaaDoorC01
import Derived.Deep.RegionWith
/- ballotFits of the program. -/
namespace Go.Proofs.YtfcjhojkfchccaaDoor
open Go.RowKit
set_option linter.unusedVariables false

set_option maxRecDepth 100000 in
theorem ibf_any (n : Int) (w : World) :
    Calls Tryd.prog 69 #[.int .i64 n] w fun e w' => e = .returned (.bool (decide (0 ≤ n ∧ n ≤ 999))) ∧ w = w' := by
  by_cases h1 : 0 ≤ n
  · by_cases h2 : n ≤ 999
    · rw [decide_eq_true ⟨h1, h2⟩]
      go_enter Tryd.func69, Tryd.ntmps69
      go_wp2_with fail
      go_ret
      exact ⟨rfl, rfl⟩
    · rw [decide_eq_false (fun h => h2 h.2)]
      go_enter Tryd.func69, Tryd.ntmps69
      go_wp2_with fail
      go_ret
      exact ⟨rfl, rfl⟩
  · rw [decide_eq_false (fun h => h1 h.1)]
    go_enter Tryd.func69, Tryd.ntmps69
    go_wp2_with fail
    go_ret
    exact ⟨rfl, rfl⟩

end Go.Proofs.YtfcjhojkfchccaaDoor

/- slices.Index and slices.Contains at ids. -/
namespace Go.Proofs.YtfcjhojkfchccaaDoor
open Go.RowKit
set_option linter.unusedVariables false

set_option maxRecDepth 100000 in
set_option maxHeartbeats 2000000 in
theorem idx_at (b off ca : Nat) (L : List Pid) (x y : Int) (w : World) (hb : b < w.heap.size) (hm : L.length ≤ 2000000) (h : ∀ i, i < L.length → w.cell? ⟨b, off + i * 2, none⟩ = some (.int .i64 (L.getD i nop).1) ∧ w.cell? ⟨b, off + i * 2 + 1, none⟩ = some (.int .i64 (L.getD i nop).2)) :
    Calls Tryd.prog 90 #[.slice (some ⟨b, off, none⟩) L.length ca, .agg #[.int .i64 x, .int .i64 y]] w fun e w' => (∃ z : Int, e = .returned (.int .i64 z) ∧ decide (0 ≤ z) = hasP L (x, y)) ∧ Below w.heap.size w w' := by
  have h := Lib.hid h
  obtain ⟨n, hn⟩ : ∃ n, Hid (L.length = n) := ⟨_, Lib.hid rfl⟩
  obtain ⟨q, hq⟩ : ∃ q, Hid (hasP L (x, y) = q) := ⟨_, Lib.hid rfl⟩
  rw [hn.out] at hm ⊢
  rw [hq.out]
  go_enter Tryd.func90, Tryd.ntmps90
  go_wp2_with fail
  go_loopw [8] (fun i wr => ∃ k : Nat, k ≤ n ∧ i = .int .i64 k ∧ Hid (∀ j, j < k → ¬ L.getD j nop = (x, y)) ∧ wr.cell? ⟨w.heap.size, 0, none⟩ = some (.int .i64 x) ∧ wr.cell? ⟨w.heap.size, 1, none⟩ = some (.int .i64 y) ∧ Below w.heap.size w wr) (fun i _ => n - (intOf i).toNat)
  case atStart => exact ⟨0, Nat.zero_le _, rfl, Lib.hid (fun j hj => absurd hj (Nat.not_lt_zero _)), by go_simp, by go_simp, (Below.refl _ _).alloc (Nat.le_refl _) _⟩
  case round =>
    obtain ⟨k, hk, rfl, hno, x0, x1, hnx⟩ := hrel
    by_cases hlt : k < n
    · obtain ⟨h0, h1⟩ := h.out k (by rw [hn.out]; exact hlt)
      have q0 := (hnx.cell (p := ⟨b, off + k * 2, none⟩) hb).trans h0
      have q1 := (hnx.cell (p := ⟨b, off + k * 2 + 1, none⟩) hb).trans h1
      clear h0 h1
      obtain ⟨c, hc⟩ : ∃ c, Hid (L.getD k nop = c) := ⟨_, Lib.hid rfl⟩
      rw [hc.out] at q0 q1
      obtain ⟨p, r⟩ := c
      dsimp only at q0 q1
      have hnx := Lib.hid hnx
      clear h
      by_cases e1 : p = x
      · subst e1
        by_cases e2 : r = y
        · subst e2
          have hqt := hq.out
          rw [has_t (by rw [hn.out]; exact hlt) hc.out] at hqt
          subst hqt
          go_wp2_with fail
          go_quiet (fail)
          go_wp2_with fail
          go_ret
          exact ⟨⟨_, rfl, by simp⟩, bdrewN hnx.out _⟩
        · have R := Lib.hid (up_to hno.out (show ¬ L.getD k nop = (p, y) by rw [hc.out]; intro e; exact e2 (congrArg Prod.snd e)))
          go_wp2_with fail
          go_quiet (fail)
          go_wp2_with fail
          go_roundw
          case rel => exact ⟨k + 1, by omega, by go_num, R, by go_simp, by go_simp, bdrewN hnx.out _⟩
          case measure => simp [intOf]; omega
      · have R := Lib.hid (up_to hno.out (show ¬ L.getD k nop = (x, y) by rw [hc.out]; intro e; exact e1 (congrArg Prod.fst e)))
        go_wp2_with fail
        go_quiet (fail)
        go_wp2_with fail
        go_roundw
        case rel => exact ⟨k + 1, by omega, by go_num, R, by go_simp, by go_simp, bdrewN hnx.out _⟩
        case measure => simp [intOf]; omega
    · obtain rfl : k = n := by omega
      have hqf := hq.out
      rw [has_f (fun j hj => hno.out j (by rw [← hn.out]; exact hj))] at hqf
      subst hqf
      have hnx := Lib.hid hnx
      clear h
      go_wp2_with fail
      go_ret
      exact ⟨⟨_, rfl, by simp⟩, hnx.out⟩

theorem idx_nil (a : Option Addr) (ca : Nat) (x y : Int) (w : World) :
    Calls Tryd.prog 90 #[.slice a 0 ca, .agg #[.int .i64 x, .int .i64 y]] w fun e w' => (∃ z : Int, e = .returned (.int .i64 z) ∧ decide (0 ≤ z) = hasP [] (x, y)) ∧ Below w.heap.size w w' := by
  rw [show hasP [] (x, y) = false from rfl]
  go_enter Tryd.func90, Tryd.ntmps90
  go_wp2_with fail
  refine wp_loop_rounds 1 ?_
  rw [rounds_succ]
  go_wp2_with fail
  go_ret
  exact ⟨⟨_, rfl, by simp⟩, (Below.refl _ _).alloc (Nat.le_refl _) _⟩

theorem idx_any (u : Value) (L : List Pid) (x y : Int) (w : World) (h : Ids w u L) :
    Calls Tryd.prog 90 #[u, .agg #[.int .i64 x, .int .i64 y]] w fun e w' => (∃ z : Int, e = .returned (.int .i64 z) ∧ decide (0 ≤ z) = hasP L (x, y)) ∧ Below w.heap.size w w' := by
  obtain ⟨a, cap, rfl, h1, h2, h3⟩ := h
  rcases h3 with h3 | ⟨b, off, rfl, h4, h5⟩
  · obtain rfl : L = [] := List.length_eq_zero_iff.1 h3
    exact idx_nil a cap x y w
  · exact idx_at b off cap L x y w h4 h2 h5

theorem cont_any (u : Value) (L : List Pid) (x y : Int) (w : World) (h : Ids w u L) :
    Calls Tryd.prog 84 #[u, .agg #[.int .i64 x, .int .i64 y]] w fun e w' => e = .returned (.bool (hasP L (x, y))) ∧ Below w.heap.size w w' := by
  have h := Lib.hid h
  obtain ⟨q, hq⟩ : ∃ q, Hid (hasP L (x, y) = q) := ⟨_, Lib.hid rfl⟩
  rw [hq.out]
  go_enter Tryd.func84, Tryd.ntmps84
  go_wp2_with fail
  refine (idx_any u L x y _ (h.out.up ((Below.refl _ _).alloc (Nat.le_refl _) _) (Nat.le_refl _))).mono ?_
  rintro e w1 ⟨⟨z, rfl, hz⟩, hb⟩
  have D := Lib.hid (((Below.refl w.heap.size w).alloc (Nat.le_refl _) _).trans (hb.mono (by simp)))
  rw [hq.out] at hz
  clear hb hq h
  go_wp2_with fail
  go_ret
  exact ⟨rfl, D.out⟩
end Go.Proofs.YtfcjhojkfchccaaDoor

/- What actOf answers, by kinds. -/
namespace Go.Proofs.YtfcjhojkfchccaaDoor
open Go.RowKit
set_option linter.unusedVariables false

theorem cv_r {key : Int} (h1 : 0 ≤ key) (h2 : key ≤ 5) : cvB 0 key 0 = true := by simp [cvB]; omega
theorem cv_p {key v : Int} (h1 : 0 ≤ key) (h2 : key ≤ 5) (h3 : 0 ≤ v) (h4 : v ≤ 99) : cvB 1 key v = true := by simp [cvB]; omega
theorem cv_a {key v : Int} (h1 : 0 ≤ key) (h2 : key ≤ 5) (h3 : 0 ≤ v) (h4 : v ≤ 99) : cvB 2 key v = true := by simp [cvB]; omega
theorem cv_n : cvB 3 0 0 = true := by simp [cvB]
theorem act_r (key : Int) (w : World) (h1 : 0 ≤ key) (h2 : key ≤ 5) :
    Calls Tryd.prog 85 #[.agg #[.int .i64 0, .int .i64 key, .int .i64 0]] w fun e w' => e = .returned (.tuple #[.iface 131 (.agg #[.int .i64 key]), .bool true]) ∧ Below w.heap.size w w' := by
  have h := act_yes 0 key 0 w (cv_r h1 h2)
  unfold actV at h
  rw [if_pos (cv_r h1 h2), cv_r h1 h2] at h
  exact h
theorem act_p (key v : Int) (w : World) (h1 : 0 ≤ key) (h2 : key ≤ 5) (h3 : 0 ≤ v) (h4 : v ≤ 99) :
    Calls Tryd.prog 85 #[.agg #[.int .i64 1, .int .i64 key, .int .i64 v]] w fun e w' => e = .returned (.tuple #[.iface 133 (.agg #[.int .i64 key, .int .i64 v]), .bool true]) ∧ Below w.heap.size w w' := by
  have h := act_yes 1 key v w (cv_p h1 h2 h3 h4)
  unfold actV at h
  rw [if_pos (cv_p h1 h2 h3 h4), cv_p h1 h2 h3 h4] at h
  exact h
theorem act_a (key v : Int) (w : World) (h1 : 0 ≤ key) (h2 : key ≤ 5) (h3 : 0 ≤ v) (h4 : v ≤ 99) :
    Calls Tryd.prog 85 #[.agg #[.int .i64 2, .int .i64 key, .int .i64 v]] w fun e w' => e = .returned (.tuple #[.iface 134 (.agg #[.int .i64 key, .int .i64 v]), .bool true]) ∧ Below w.heap.size w w' := by
  have h := act_yes 2 key v w (cv_a h1 h2 h3 h4)
  unfold actV at h
  rw [if_pos (cv_a h1 h2 h3 h4), cv_a h1 h2 h3 h4] at h
  exact h
theorem act_n (w : World)  :
    Calls Tryd.prog 85 #[.agg #[.int .i64 3, .int .i64 0, .int .i64 0]] w fun e w' => e = .returned (.tuple #[.iface 136 (.agg #[]), .bool true]) ∧ Below w.heap.size w w' := by
  have h := act_yes 3 0 0 w (cv_n )
  unfold actV at h
  rw [if_pos (cv_n ), cv_n ] at h
  exact h

theorem act_any (k key v : Int) (w : World) :
    Calls Tryd.prog 85 #[.agg #[.int .i64 k, .int .i64 key, .int .i64 v]] w fun e w' => e = .returned (.tuple #[actV k key v, .bool (cvB k key v)]) ∧ Below w.heap.size w w' := by
  by_cases h : cvB k key v = true
  · exact act_yes k key v w h
  · exact act_no k key v w (by simpa using h)

theorem cv_of {k key v : Int} (h : cvB k key v = true) : (k = 0 ∧ 0 ≤ key ∧ key ≤ 5 ∧ v = 0) ∨ (k = 1 ∧ 0 ≤ key ∧ key ≤ 5 ∧ 0 ≤ v ∧ v ≤ 99) ∨ (k = 2 ∧ 0 ≤ key ∧ key ≤ 5 ∧ 0 ≤ v ∧ v ≤ 99) ∨ (k = 3 ∧ key = 0 ∧ v = 0) := by
  unfold cvB at h; exact of_decide_eq_true h
end Go.Proofs.YtfcjhojkfchccaaDoor

/- CommandValid of the program. -/
namespace Go.Proofs.YtfcjhojkfchccaaDoor
open Go.RowKit
set_option linter.unusedVariables false

theorem ivalid_any (k key v : Int) (w : World) :
    Calls Tryd.prog 70 #[.agg #[.int .i64 k, .int .i64 key, .int .i64 v]] w fun e w' => e = .returned (.bool (cvB k key v)) ∧ Below w.heap.size w w' := by
  have s1 := act_any k key v
  generalize actV k key v = x1 at s1
  generalize cvB k key v = q1 at s1
  go_enter Tryd.func70, Tryd.ntmps70
  go_wp2_with fail
  refine (s1 _).mono ?_
  rintro e w1 ⟨rfl, hb1⟩
  have D1 := Lib.hid (((Below.refl _ _).alloc (Nat.le_refl _) _).trans (hb1.mono (by simp)))
  clear hb1
  go_wp2_with fail
  go_ret
  exact ⟨rfl, D1.out⟩
end Go.Proofs.YtfcjhojkfchccaaDoor

/- Which commands clash, as a sum of tests; two boxes of a call with two commands. -/
namespace Go.Proofs.YtfcjhojkfchccaaDoor
open Go.RowKit
set_option linter.unusedVariables false

def kcB (k key k' key' : Int) : Bool := decide (k ≠ 3 ∧ k' ≠ 3 ∧ key = key' ∧ (k ≠ k' ∨ k = 1))
theorem kc1 {k key k' key' : Int} (h : k = 3) : false = kcB k key k' key' := by rw [Bool.eq_iff_iff]; simp [kcB] at *; omega
theorem kc2 {k key k' key' : Int} (h : k' = 3) : false = kcB k key k' key' := by rw [Bool.eq_iff_iff]; simp [kcB] at *; omega
theorem kc3 {k key k' key' : Int} (h : ((k == 3) = true ∨ (k' == 3) = true) ∨ (key != key') = true) : false = kcB k key k' key' := by rw [Bool.eq_iff_iff]; simp [kcB] at *; omega
theorem kc4 {k key k' key' : Int} (h : ((k == 3) = false ∧ (k' == 3) = false) ∧ (key != key') = false) (h2 : k = k') : (k' == 1) = kcB k key k' key' := by rw [Bool.eq_iff_iff]; simp [kcB] at *; omega
theorem kc5 {k key k' key' : Int} (h : ((k == 3) = false ∧ (k' == 3) = false) ∧ (key != key') = false) (h2 : ¬k = k') : true = kcB k key k' key' := by rw [Bool.eq_iff_iff]; simp [kcB] at *; omega
/-- What CommandsClash answers. -/
def clB (k key v k' key' v' : Int) : Bool := cvB k key v && cvB k' key' v' && kcB k key k' key'
/-- The two boxes of a call with two commands, behind a callee that only makes memory. -/
theorem boxes2 {w w1 : World} {xs ys : Array Value} {t u : TypeId} (hb : Below ((w.alloc (.cells xs t)).alloc (.cells ys u)).heap.size ((w.alloc (.cells xs t)).alloc (.cells ys u)) w1) :
    w1.heap[w.heap.size]? = some (.cells xs t (0, 0)) ∧ w1.heap[w.heap.size + 1]? = some (.cells ys u (0, 0)) ∧ w.heap.size + 2 ≤ w1.heap.size ∧ Below w.heap.size w w1 :=
  ⟨(hb.block _ (by simp; omega)).trans ((Below.heap_alloc _ _ _ (by simp)).trans (heap_alloc_new w _)), (hb.block _ (by simp)).trans (heap_alloc_at _ _ _ (by simp)), by simpa using hb.size, (((Below.refl _ _).alloc (Nat.le_refl _) _).alloc (by simp) _).trans (hb.mono (by simp; omega))⟩
end Go.Proofs.YtfcjhojkfchccaaDoor

/- Plain facts: an entry put into a log, found there, and what a command depends on by a log. -/
namespace Go.Proofs.YtfcjhojkfchccaaDoor
set_option linter.unusedVariables false

theorem pw_ext {α : Type} {R : α → α → Prop} (hsy : ∀ a b, R a b → ¬ R b a) : ∀ {A B : List α}, A.Pairwise R → B.Pairwise R → (∀ x, x ∈ A ↔ x ∈ B) → A = B
  | [], [], _, _, _ => rfl
  | [], b :: s, _, _, h => absurd ((h b).2 List.mem_cons_self) (by simp)
  | a :: r, [], _, _, h => absurd ((h a).1 List.mem_cons_self) (by simp)
  | a :: r, b :: s, hA, hB, h => by
    have hA' := List.pairwise_cons.1 hA
    have hB' := List.pairwise_cons.1 hB
    have e : a = b := by
      rcases List.mem_cons.1 ((h a).1 List.mem_cons_self) with e | ha
      · exact e
      · rcases List.mem_cons.1 ((h b).2 List.mem_cons_self) with e | hb
        · exact e.symm
        · exact absurd (hB'.1 a ha) (hsy _ _ (hA'.1 b hb))
    subst e
    have nr : ¬ a ∈ r := fun hx => hsy _ _ (hA'.1 a hx) (hA'.1 a hx)
    have ns : ¬ a ∈ s := fun hx => hsy _ _ (hB'.1 a hx) (hB'.1 a hx)
    rw [pw_ext hsy hA'.2 hB'.2 (fun x => ?_)]
    constructor
    · intro hx
      rcases List.mem_cons.1 ((h x).1 (List.mem_cons_of_mem _ hx)) with e | hx'
      · subst e; exact absurd hx nr
      · exact hx'
    · intro hx
      rcases List.mem_cons.1 ((h x).2 (List.mem_cons_of_mem _ hx)) with e | hx'
      · subst e; exact absurd hx ns
      · exact hx'
/-- Entries with ascending ids. -/
theorem ascE_iff {E : List En} : Asc (idsE E) ↔ E.Pairwise fun x y => ltP x.id y.id = true := by unfold Asc idsE; exact List.pairwise_map
theorem ens_ext {A B : List En} (hA : Asc (idsE A)) (hB : Asc (idsE B)) (h : ∀ x, x ∈ A ↔ x ∈ B) : A = B :=
  pw_ext (R := fun x y : En => ltP x.id y.id = true) (fun a b h g => by rw [ltP_asym h] at g; cases g) (ascE_iff.1 hA) (ascE_iff.1 hB) h

/-- An entry put at its place, instead of the one with its id. -/
def putE (e : En) (E : List En) : List En := E.filter (fun x => ltP x.id e.id) ++ e :: E.filter (fun x => ltP e.id x.id)
theorem mem_putE {e x : En} {E : List En} : x ∈ putE e E ↔ x = e ∨ x ∈ E ∧ ¬ x.id = e.id := by
  unfold putE
  rw [List.mem_append, List.mem_cons, List.mem_filter, List.mem_filter]
  constructor
  · rintro (⟨h1, h2⟩ | h | ⟨h1, h2⟩)
    · exact .inr ⟨h1, fun e' => by rw [e', ltP_irr] at h2; cases h2⟩
    · exact .inl h
    · exact .inr ⟨h1, fun e' => by rw [e', ltP_irr] at h2; cases h2⟩
  · rintro (h | ⟨h1, h2⟩)
    · exact .inr (.inl h)
    · cases h3 : ltP x.id e.id with
      | true => exact .inl ⟨h1, rfl⟩
      | false =>
        cases h4 : ltP e.id x.id with
        | true => exact .inr (.inr ⟨h1, rfl⟩)
        | false => exact absurd (ltP_tri h3 h4) h2
theorem putE_asc {e : En} {E : List En} (h : Asc (idsE E)) : Asc (idsE (putE e E)) := by
  rw [ascE_iff] at h ⊢
  unfold putE
  refine List.pairwise_append.2 ⟨h.filter _, List.pairwise_cons.2 ⟨fun y hy => (List.mem_filter.1 hy).2, h.filter _⟩, fun x hx y hy => ?_⟩
  have hx2 := (List.mem_filter.1 hx).2
  rcases List.mem_cons.1 hy with rfl | hy
  · exact hx2
  · exact ltP_trans hx2 (List.mem_filter.1 hy).2
theorem putE_len {e : En} {E : List En} (h : Asc (idsE E)) : (putE e E).length = if e.id ∈ idsE E then E.length else E.length + 1 := by
  have hN : ∀ {A : List En}, Asc (idsE A) → (idsE A).Nodup := fun {A} hA => List.Pairwise.imp (fun {a b} hab e => by subst e; rw [ltP_irr] at hab; cases hab) hA
  have key : ∀ {A B : List Pid}, A.Nodup → (∀ x ∈ A, x ∈ B) → A.length ≤ B.length := by
    intro A
    induction A with
    | nil => intro B _ _; exact Nat.zero_le _
    | cons a r ih =>
      intro B hA hB
      obtain ⟨h1, h2⟩ := List.nodup_cons.1 hA
      have hb := hB a List.mem_cons_self
      have := ih (B := B.erase a) h2 (fun x hx => (List.mem_erase_of_ne (fun e : x = a => h1 (by rw [← e]; exact hx))).2 (hB x (List.mem_cons_of_mem _ hx)))
      rw [List.length_erase_of_mem hb] at this
      have : 0 < B.length := List.length_pos_of_mem hb
      simp only [List.length_cons]; omega
  have hm : ∀ a, a ∈ idsE (putE e E) ↔ a = e.id ∨ a ∈ idsE E := by
    intro a
    unfold idsE
    simp only [List.mem_map, mem_putE]
    constructor
    · rintro ⟨x, rfl | ⟨h1, h2⟩, rfl⟩
      · exact .inl rfl
      · exact .inr ⟨x, h1, rfl⟩
    · rintro (rfl | ⟨x, h1, rfl⟩)
      · exact ⟨e, .inl rfl, rfl⟩
      · by_cases h2 : x.id = e.id
        · exact ⟨e, .inl rfl, h2.symm⟩
        · exact ⟨x, .inr ⟨h1, h2⟩, rfl⟩
  have n1 := hN (putE_asc (e := e) h)
  have n2 := hN h
  rw [← idsE_len (putE e E), ← idsE_len E]
  split
  · rename_i hin
    refine Nat.le_antisymm (key n1 fun x hx => ?_) (key n2 fun x hx => (hm x).2 (.inr hx))
    rcases (hm x).1 hx with rfl | hx
    · exact hin
    · exact hx
  · rename_i hin
    have n3 : (e.id :: idsE E).Nodup := List.nodup_cons.2 ⟨hin, n2⟩
    exact Nat.le_antisymm (key (B := e.id :: idsE E) n1 fun x hx => List.mem_cons.2 ((hm x).1 hx)) (key (A := e.id :: idsE E) n3 fun x hx => (hm x).2 (List.mem_cons.1 hx))
theorem putE_valid {e : En} {E : List En} (hv : logB E = true) (he : enB e = true) (hl : (putE e E).length ≤ 12) : logB (putE e E) = true := by
  obtain ⟨_, h2, h3⟩ := log_of hv
  refine log_to hl (fun x hx => ?_) (putE_asc h3)
  rcases mem_putE.1 hx with rfl | ⟨hx, _⟩
  · exact he
  · exact h2 x hx
/-- What LogPut answers. -/
def lputR (E : List En) (e : En) : List En × Bool := if logB E = true ∧ enB e = true ∧ (putE e E).length ≤ 12 then (putE e E, true) else ([], false)
/-- What LogFind answers. -/
def lfindR (E : List En) (a : Pid) : En × Bool := if logB E = true then (match E.find? fun x => decide (x.id = a) with | some x => (x, true) | none => (en0, false)) else (en0, false)
/-- What a command clashes with, by a log. -/
def clsE (E : List En) (a : Pid) (k key : Int) : List En := E.filter fun x => !decide (x.id = a) && kcB x.k x.key k key
/-- The greatest rank. -/
def topE : List En → Int
  | [] => 0
  | x :: r => max x.seq (topE r)
/-- What LogAttrs answers. -/
def lattR (E : List En) (a : Pid) (k key v : Int) : Int × List Pid × Bool :=
  if logB E = true ∧ okP a = true ∧ cvB k key v = true ∧ topE (clsE E a k key) + 1 ≤ 99 then (topE (clsE E a k key) + 1, idsE (clsE E a k key), true) else (0, [], false)
theorem clsE_asc {E : List En} (h : Asc (idsE E)) (a : Pid) (k key : Int) : Asc (idsE (clsE E a k key)) := by
  rw [ascE_iff] at h ⊢; exact h.filter _
end Go.Proofs.YtfcjhojkfchccaaDoor

/- Plain facts: entries found in a log and in a book; an entry put at its place by going through the log; what a command clashes with, entry by entry. -/
namespace Go.Proofs.YtfcjhojkfchccaaDoor
set_option linter.unusedVariables false

theorem lfindR_bad {E : List En} (h : logB E = false) (a : Pid) : lfindR E a = (en0, false) := by
  unfold lfindR; rw [h, if_neg (by simp)]
theorem lfindR_none {E : List En} {a : Pid} (h : ∀ k, k < E.length → ¬ (E.getD k en0).id = a) : lfindR E a = (en0, false) := by
  unfold lfindR
  split
  · have e : E.find? (fun x => decide (x.id = a)) = none := by
      rw [List.find?_eq_none]
      intro x hx
      obtain ⟨k, hk, rfl⟩ := mem_enD hx
      simpa using h k hk
    rw [e]
  · rfl
theorem lfindR_some {E : List En} {a : Pid} (hv : logB E = true) {k : Nat} (hk : k < E.length) (e : (E.getD k en0).id = a) : lfindR E a = (E.getD k en0, true) := by
  unfold lfindR
  rw [if_pos hv]
  cases hf : E.find? (fun x => decide (x.id = a)) with
  | none =>
    rw [List.find?_eq_none] at hf
    have := hf _ (enD_mem hk)
    rw [e] at this; simp at this
  | some x =>
    have h1 := List.find?_some hf
    obtain ⟨j, hj, rfl⟩ := mem_enD (List.mem_of_find?_eq_some hf)
    have h1 : (E.getD j en0).id = a := by simpa using h1
    rw [log_inj hv hj hk (h1.trans e.symm)]

/-- One step of putting: what is there so far, and whether the entry is among it. -/
def stpE (e : En) (s : List En × Bool) (x : En) : List En × Bool :=
  let t := if s.2 = false ∧ ltP x.id e.id = false then (s.1 ++ [e], true) else s
  if x.id = e.id then t else (t.1 ++ [x], t.2)
def runE (e : En) (E : List En) : List En × Bool := E.foldl (stpE e) ([], false)
theorem runE_next (e : En) {E : List En} {k : Nat} (hk : k < E.length) : runE e (E.take (k + 1)) = stpE e (runE e (E.take k)) (E.getD k en0) := by
  unfold runE
  have : E.take (k + 1) = E.take k ++ [E.getD k en0] := by
    rw [List.take_add_one, List.getElem?_eq_getElem hk, List.getD_eq_getElem?_getD, List.getElem?_eq_getElem hk]; rfl
  rw [this, List.foldl_append]; rfl
def endE (e : En) (s : List En × Bool) : List En := if s.2 = true then s.1 else s.1 ++ [e]
theorem runE_at (e : En) : ∀ (R A : List En), Asc (idsE (A ++ R)) → (∀ x ∈ A, ltP x.id e.id = true) → endE e (R.foldl (stpE e) (A, false)) = A ++ putE e R := by
  intro R
  induction R with
  | nil => intro A _ _; simp [endE, putE]
  | cons x r ih =>
    intro A hA hl
    rw [ascE_iff] at hA
    have hA2 := (List.pairwise_append.1 hA).2.1
    have hx := List.pairwise_cons.1 hA2
    cases h : ltP x.id e.id with
    | true =>
      have hne : ¬ x.id = e.id := fun e' => by rw [e', ltP_irr] at h; cases h
      have s1 : stpE e (A, false) x = (A ++ [x], false) := by unfold stpE; simp [h, hne]
      rw [List.foldl_cons, s1, ih (A ++ [x]) (by rw [ascE_iff]; simpa using hA) (fun y hy => by
        rcases List.mem_append.1 hy with hy | hy
        · exact hl y hy
        · rw [List.mem_singleton] at hy; rw [hy]; exact h)]
      have hf : ltP e.id x.id = false := ltP_asym h
      simp [putE, h, hf]
    | false =>
      have rest : ∀ (B : List En), (∀ y ∈ r, ltP e.id y.id = true) → r.foldl (stpE e) (B, true) = (B ++ r, true) := by
        intro B
        clear ih hA hA2 hx
        induction r generalizing B with
        | nil => intro _; simp
        | cons y s ih =>
          intro hy
          have h1 := hy y List.mem_cons_self
          have hne : ¬ y.id = e.id := fun e' => by rw [e', ltP_irr] at h1; cases h1
          have s1 : stpE e (B, true) y = (B ++ [y], true) := by unfold stpE; simp [hne]
          rw [List.foldl_cons, s1, ih _ (fun z hz => hy z (List.mem_cons_of_mem _ hz))]
          simp
      have low : ∀ y ∈ r, ltP e.id y.id = true := fun y hy => by
        have g := hx.1 y hy
        cases h2 : ltP e.id x.id with
        | true => exact ltP_trans h2 g
        | false => rw [← ltP_tri h h2]; exact g
      have f1 : r.filter (fun y => ltP y.id e.id) = [] := List.filter_eq_nil_iff.2 fun y hy => by rw [ltP_asym (low y hy)]; simp
      have f2 : r.filter (fun y => ltP e.id y.id) = r := List.filter_eq_self.2 low
      by_cases hid : x.id = e.id
      · have s1 : stpE e (A, false) x = (A ++ [e], true) := by unfold stpE; simp [hid, ltP_irr]
        have h2 : ltP e.id x.id = false := by rw [hid]; exact ltP_irr _
        rw [List.foldl_cons, s1, rest _ low]
        simp [endE, putE, f1, f2, hid, ltP_irr]
      · have s1 : stpE e (A, false) x = (A ++ [e] ++ [x], true) := by unfold stpE; simp [h, hid]
        have h2 : ltP e.id x.id = true := by
          cases h2 : ltP e.id x.id with
          | true => rfl
          | false => exact absurd (ltP_tri h h2) hid
        rw [List.foldl_cons, s1, rest _ low]
        simp [endE, putE, h, h2, f1, f2]
/-- Going through the log puts the entry at its place. -/
theorem runE_put {e : En} {E : List En} (h : Asc (idsE E)) : endE e (runE e E) = putE e E := by
  have := runE_at e E [] (by simpa using h) (fun _ hx => nomatch hx)
  simpa [runE] using this
theorem runE_len (e : En) : ∀ (R : List En) (s : List En × Bool), (R.foldl (stpE e) s).1.length ≤ s.1.length + 2 * R.length := by
  intro R
  induction R with
  | nil => intro s; simp
  | cons x r ih =>
    intro s
    rw [List.foldl_cons]
    refine Nat.le_trans (ih _) ?_
    have : (stpE e s x).1.length ≤ s.1.length + 2 := by
      unfold stpE
      dsimp only
      split <;> split <;> simp <;> omega
    simp only [List.length_cons]; omega

theorem lputR_bad {E : List En} {e : En} (h : logB E = false) : lputR E e = ([], false) := by unfold lputR; rw [h, if_neg (by simp)]
theorem lputR_bad2 {E : List En} {e : En} (h : enB e = false) : lputR E e = ([], false) := by unfold lputR; rw [h, if_neg (by simp)]
theorem lputR_long {E : List En} {e : En} (h : ¬ (putE e E).length ≤ 12) : lputR E e = ([], false) := by unfold lputR; rw [if_neg (fun x => h x.2.2)]
theorem lputR_good {E : List En} {e : En} (h1 : logB E = true) (h2 : enB e = true) (h3 : (putE e E).length ≤ 12) : lputR E e = (putE e E, true) := by unfold lputR; rw [if_pos ⟨h1, h2, h3⟩]
theorem lputR_len (E : List En) (e : En) : (lputR E e).1.length ≤ 12 := by
  unfold lputR; split
  · rename_i h; exact h.2.2
  · exact Nat.zero_le _
theorem lputR_log {E : List En} {e : En} (h : (lputR E e).2 = true) : logB (lputR E e).1 = true := by
  unfold lputR at h ⊢
  split at h
  · rename_i g; rw [if_pos g]; exact putE_valid g.1 g.2.1 g.2.2
  · cases h

/-- What is gathered so far: 1 more than the greatest rank, and the ids. -/
def attE (E : List En) (a : Pid) (k key : Int) : Int × List Pid := (topE (clsE E a k key) + 1, idsE (clsE E a k key))
theorem topE_app : ∀ (A : List En) (x : En), topE (A ++ [x]) = max (topE A) (max x.seq 0)
  | [], x => by simp [topE]; omega
  | y :: r, x => by simp only [List.cons_append, topE, topE_app r x]; omega
theorem topE_nn : ∀ A : List En, 0 ≤ topE A
  | [] => Int.le_refl _
  | x :: r => by have := topE_nn r; simp only [topE]; omega
theorem clsE_next {E : List En} {n : Nat} (hn : n < E.length) (a : Pid) (k key : Int) : clsE (E.take (n + 1)) a k key = clsE (E.take n) a k key ++ (if ¬ (E.getD n en0).id = a ∧ kcB (E.getD n en0).k (E.getD n en0).key k key = true then [E.getD n en0] else []) := by
  have : E.take (n + 1) = E.take n ++ [E.getD n en0] := by
    rw [List.take_add_one, List.getElem?_eq_getElem hn, List.getD_eq_getElem?_getD, List.getElem?_eq_getElem hn]; rfl
  unfold clsE
  rw [this, List.filter_append]
  congr 1
  generalize E.getD n en0 = x
  by_cases h1 : x.id = a <;> cases h2 : kcB x.k x.key k key <;> simp [h1, h2]
end Go.Proofs.YtfcjhojkfchccaaDoor

/- What a valid entry is, part by part. -/
namespace Go.Proofs.YtfcjhojkfchccaaDoor
set_option linter.unusedVariables false

theorem enB_of {X : En} (h : enB X = true) : okP X.id = true ∧ (1 ≤ X.seq ∧ X.seq ≤ 99) ∧ srtB X.deps = true ∧ hasP X.deps X.id = false ∧ (0 ≤ X.bal ∧ X.bal ≤ 999) ∧ (1 ≤ X.st ∧ X.st ≤ 3) ∧ cvB X.k X.key X.v = true := by
  simp only [enB, ndB, En.nd, Bool.and_eq_true, decide_eq_true_eq, Bool.not_eq_true'] at h
  exact ⟨h.1.1, of_decide_eq_true h.1.2.1, h.1.2.2.1, h.1.2.2.2, by simpa using h.2.1, by simpa using h.2.2.1, h.2.2.2⟩
theorem enB_to {X : En} (h1 : okP X.id = true) (h2 : 1 ≤ X.seq ∧ X.seq ≤ 99) (h3 : srtB X.deps = true) (h4 : hasP X.deps X.id = false) (h5 : 0 ≤ X.bal ∧ X.bal ≤ 999) (h6 : 1 ≤ X.st ∧ X.st ≤ 3) (h7 : cvB X.k X.key X.v = true) : enB X = true := by
  simp only [enB, ndB, En.nd, Bool.and_eq_true, decide_eq_true_eq, Bool.not_eq_true']
  exact ⟨⟨h1, decide_eq_true h2, h3, h4⟩, by simpa using h5, by simpa using h6, h7⟩
end Go.Proofs.YtfcjhojkfchccaaDoor
