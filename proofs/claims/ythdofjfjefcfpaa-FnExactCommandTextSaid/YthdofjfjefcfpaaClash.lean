/- CommandsClash, of the model and of the program. -/
import Derived.Test.YthdofjfjefcfpaaCmd
namespace Go.Proofs.Ythdofjfjefcfpaa
open Go.RowKit
set_option linter.unusedVariables false

def kcB (k key k' key' : Int) : Bool := decide (k ≠ 3 ∧ k' ≠ 3 ∧ key = key' ∧ (k ≠ k' ∨ k = 1))

theorem kc1 {k key k' key' : Int} (h : k = 3) : false = kcB k key k' key' := by rw [Bool.eq_iff_iff]; simp [kcB] at *; omega
theorem kc2 {k key k' key' : Int} (h : k' = 3) : false = kcB k key k' key' := by rw [Bool.eq_iff_iff]; simp [kcB] at *; omega
theorem kc3 {k key k' key' : Int} (h : ((k == 3) = true ∨ (k' == 3) = true) ∨ (key != key') = true) : false = kcB k key k' key' := by rw [Bool.eq_iff_iff]; simp [kcB] at *; omega
theorem kc4 {k key k' key' : Int} (h : ((k == 3) = false ∧ (k' == 3) = false) ∧ (key != key') = false) (h2 : k = k') : (k' == 1) = kcB k key k' key' := by rw [Bool.eq_iff_iff]; simp [kcB] at *; omega
theorem kc5 {k key k' key' : Int} (h : ((k == 3) = false ∧ (k' == 3) = false) ∧ (key != key') = false) (h2 : ¬k = k') : true = kcB k key k' key' := by rw [Bool.eq_iff_iff]; simp [kcB] at *; omega

theorem kclash_any (k key v k' key' v' : Int) (w : World) :
    Calls Try.prog 23 #[.agg #[.int .i64 k, .int .i64 key, .int .i64 v], .agg #[.int .i64 k', .int .i64 key', .int .i64 v']] w fun e w' => e = .returned (.bool (kcB k key k' key')) ∧ Below w.heap.size w w' := by
  go_enter Try.func23, Try.ntmps23
  go_wp2_with fail
  all_goals
    go_ret
    refine ⟨ret_bool ?_, ((Below.refl _ _).alloc (Nat.le_refl _) _).alloc (by simp) _⟩
    first | exact kc1 ‹_› | exact kc2 ‹_› | exact kc3 ‹_› | exact kc4 ‹_› ‹_› | exact kc5 ‹_› ‹_›

/-- What CommandsClash answers. -/
def clB (k key v k' key' v' : Int) : Bool := cvB k key v && cvB k' key' v' && kcB k key k' key'

/-- The two boxes of a call with two commands, behind a callee that only makes memory. -/
theorem boxes2 {w w1 : World} {xs ys : Array Value} {t u : TypeId} (hb : Below ((w.alloc (.cells xs t)).alloc (.cells ys u)).heap.size ((w.alloc (.cells xs t)).alloc (.cells ys u)) w1) :
    w1.heap[w.heap.size]? = some (.cells xs t (0, 0)) ∧ w1.heap[w.heap.size + 1]? = some (.cells ys u (0, 0)) ∧ w.heap.size + 2 ≤ w1.heap.size ∧ Below w.heap.size w w1 :=
  ⟨(hb.block _ (by simp; omega)).trans ((Below.heap_alloc _ _ _ (by simp)).trans (heap_alloc_new w _)), (hb.block _ (by simp)).trans (heap_alloc_at _ _ _ (by simp)), by simpa using hb.size, (((Below.refl _ _).alloc (Nat.le_refl _) _).alloc (by simp) _).trans (hb.mono (by simp; omega))⟩

set_option maxHeartbeats 1000000 in
theorem sclash_any (k key v k' key' v' : Int) (w : World) :
    Calls Try.prog 12 #[.agg #[.int .i64 k, .int .i64 key, .int .i64 v], .agg #[.int .i64 k', .int .i64 key', .int .i64 v']] w fun e w' => e = .returned (.bool (clB k key v k' key' v')) ∧ Below w.heap.size w w' := by
  have s1 := svalid_any k key v
  have s2 := svalid_any k' key' v'
  by_cases ha : cvB k key v = true
  · rw [ha] at s1
    by_cases hb : cvB k' key' v' = true
    · rw [hb] at s2
      have e : clB k key v k' key' v' = kcB k key k' key' := by unfold clB; rw [ha, hb]; rfl
      rw [e]; clear e ha hb
      go_enter Try.func12, Try.ntmps12
      go_wp2_with fail
      refine (s1 _).mono ?_
      rintro e w1 ⟨rfl, hb1⟩
      obtain ⟨A1, B1, z1, D1⟩ := boxes2 hb1
      obtain ⟨a1, a2, a3, _, _, _⟩ := blk3 A1
      obtain ⟨b1, b2, b3, _, _, _⟩ := blk3 B1
      have A1 := Lib.hid A1; have B1 := Lib.hid B1; have D1 := Lib.hid D1; clear hb1
      go_wp2_with fail
      refine (s2 _).mono ?_
      rintro e w2 ⟨rfl, hb2⟩
      have A2 := (hb2.block w.heap.size (by omega)).trans A1.out
      have B2 := (hb2.block (w.heap.size + 1) (by omega)).trans B1.out
      obtain ⟨c1, c2, c3, _, _, _⟩ := blk3 A2
      obtain ⟨d1, d2, d3, _, _, _⟩ := blk3 B2
      have D2 := Lib.hid (D1.out.trans (hb2.mono (by omega)))
      have z2 := hb2.size
      clear hb2 A2 B2 a1 a2 a3 b1 b2 b3
      go_wp2_with fail
      refine (kclash_any _ _ _ _ _ _ _).mono ?_
      rintro e w3 ⟨rfl, hb3⟩
      have D3 := Lib.hid (D2.out.trans (hb3.mono (by omega)))
      clear hb3
      go_wp2_with fail
      go_ret
      exact ⟨rfl, D3.out⟩
    · have hb : cvB k' key' v' = false := by simpa using hb
      rw [hb] at s2
      have e : clB k key v k' key' v' = false := by unfold clB; rw [ha, hb]; rfl
      rw [e]; clear e ha hb
      go_enter Try.func12, Try.ntmps12
      go_wp2_with fail
      refine (s1 _).mono ?_
      rintro e w1 ⟨rfl, hb1⟩
      obtain ⟨A1, B1, z1, D1⟩ := boxes2 hb1
      obtain ⟨a1, a2, a3, _, _, _⟩ := blk3 A1
      obtain ⟨b1, b2, b3, _, _, _⟩ := blk3 B1
      have D1 := Lib.hid D1; clear hb1 A1 B1
      go_wp2_with fail
      refine (s2 _).mono ?_
      rintro e w2 ⟨rfl, hb2⟩
      have D2 := Lib.hid (D1.out.trans (hb2.mono (by omega)))
      clear hb2
      go_wp2_with fail
      go_ret
      exact ⟨rfl, D2.out⟩
  · have ha : cvB k key v = false := by simpa using ha
    rw [ha] at s1
    have e : clB k key v k' key' v' = false := by unfold clB; rw [ha]; rfl
    rw [e]; clear e ha s2
    go_enter Try.func12, Try.ntmps12
    go_wp2_with fail
    refine (s1 _).mono ?_
    rintro e w1 ⟨rfl, hb1⟩
    obtain ⟨A1, B1, z1, D1⟩ := boxes2 hb1
    have D1 := Lib.hid D1; clear hb1 A1 B1
    go_wp2_with fail
    go_ret
    exact ⟨rfl, D1.out⟩


theorem cv_r {key : Int} (h1 : 0 ≤ key) (h2 : key ≤ 5) : cvB 0 key 0 = true := by simp [cvB]; omega
theorem cv_p {key v : Int} (h1 : 0 ≤ key) (h2 : key ≤ 5) (h3 : 0 ≤ v) (h4 : v ≤ 99) : cvB 1 key v = true := by simp [cvB]; omega
theorem cv_a {key v : Int} (h1 : 0 ≤ key) (h2 : key ≤ 5) (h3 : 0 ≤ v) (h4 : v ≤ 99) : cvB 2 key v = true := by simp [cvB]; omega
theorem cv_n : cvB 3 0 0 = true := by simp [cvB]
theorem act_r (key : Int) (w : World) (h1 : 0 ≤ key) (h2 : key ≤ 5) :
    Calls Try.prog 22 #[.agg #[.int .i64 0, .int .i64 key, .int .i64 0]] w fun e w' => e = .returned (.tuple #[.iface 51 (.agg #[.int .i64 key]), .bool true]) ∧ Below w.heap.size w w' := by
  have h := act_yes 0 key 0 w (cv_r h1 h2)
  unfold actV at h
  rw [if_pos (cv_r h1 h2), cv_r h1 h2] at h
  exact h
theorem act_p (key v : Int) (w : World) (h1 : 0 ≤ key) (h2 : key ≤ 5) (h3 : 0 ≤ v) (h4 : v ≤ 99) :
    Calls Try.prog 22 #[.agg #[.int .i64 1, .int .i64 key, .int .i64 v]] w fun e w' => e = .returned (.tuple #[.iface 53 (.agg #[.int .i64 key, .int .i64 v]), .bool true]) ∧ Below w.heap.size w w' := by
  have h := act_yes 1 key v w (cv_p h1 h2 h3 h4)
  unfold actV at h
  rw [if_pos (cv_p h1 h2 h3 h4), cv_p h1 h2 h3 h4] at h
  exact h
theorem act_a (key v : Int) (w : World) (h1 : 0 ≤ key) (h2 : key ≤ 5) (h3 : 0 ≤ v) (h4 : v ≤ 99) :
    Calls Try.prog 22 #[.agg #[.int .i64 2, .int .i64 key, .int .i64 v]] w fun e w' => e = .returned (.tuple #[.iface 54 (.agg #[.int .i64 key, .int .i64 v]), .bool true]) ∧ Below w.heap.size w w' := by
  have h := act_yes 2 key v w (cv_a h1 h2 h3 h4)
  unfold actV at h
  rw [if_pos (cv_a h1 h2 h3 h4), cv_a h1 h2 h3 h4] at h
  exact h
theorem act_n (w : World)  :
    Calls Try.prog 22 #[.agg #[.int .i64 3, .int .i64 0, .int .i64 0]] w fun e w' => e = .returned (.tuple #[.iface 56 (.agg #[]), .bool true]) ∧ Below w.heap.size w w' := by
  have h := act_yes 3 0 0 w (cv_n )
  unfold actV at h
  rw [if_pos (cv_n ), cv_n ] at h
  exact h

theorem act_any (k key v : Int) (w : World) :
    Calls Try.prog 22 #[.agg #[.int .i64 k, .int .i64 key, .int .i64 v]] w fun e w' => e = .returned (.tuple #[actV k key v, .bool (cvB k key v)]) ∧ Below w.heap.size w w' := by
  by_cases h : cvB k key v = true
  · exact act_yes k key v w h
  · exact act_no k key v w (by simpa using h)

set_option maxHeartbeats 4000000 in
theorem iclash_no (k key v k' key' v' : Int) (w : World) (h : ¬ (cvB k key v = true ∧ cvB k' key' v' = true ∧ key = key')) :
    Calls Try.prog 11 #[.agg #[.int .i64 k, .int .i64 key, .int .i64 v], .agg #[.int .i64 k', .int .i64 key', .int .i64 v']] w fun e w' => e = .returned (.bool (clB k key v k' key' v')) ∧ Below w.heap.size w w' := by
  have s1 := act_any k key v
  have s2 := act_any k' key' v'
  have e : clB k key v k' key' v' = false := by
    unfold clB kcB
    by_cases h1 : cvB k key v = true
    · by_cases h2 : cvB k' key' v' = true
      · have h3 : ¬ key = key' := fun h3 => h ⟨h1, h2, h3⟩
        simp [h3]
      · simp [h2]
    · simp [h1]
  rw [e]; clear e
  have main : (cvB k key v = false) ∨ (cvB k key v = true ∧ cvB k' key' v' = false) ∨ (cvB k key v = true ∧ cvB k' key' v' = true ∧ (key == key') = false) := by
    by_cases h1 : cvB k key v = true
    · by_cases h2 : cvB k' key' v' = true
      · exact .inr (.inr ⟨h1, h2, by simpa using fun h3 => h ⟨h1, h2, h3⟩⟩)
      · exact .inr (.inl ⟨h1, by simpa using h2⟩)
    · exact .inl (by simpa using h1)
  clear h
  generalize actV k key v = x1 at s1
  generalize actV k' key' v' = x2 at s2
  generalize hq1 : cvB k key v = q1 at s1 main
  generalize hq2 : cvB k' key' v' = q2 at s2 main
  clear hq1 hq2
  rcases main with rfl | ⟨rfl, rfl⟩ | ⟨rfl, rfl, hkk⟩
  all_goals
    go_enter Try.func11, Try.ntmps11
    go_wp2_with fail
    refine (s1 _).mono ?_
    rintro e w1 ⟨rfl, hb1⟩
    obtain ⟨A1, B1, z1, D1⟩ := boxes2 hb1
    obtain ⟨a1, a2, a3, _, _, _⟩ := blk3 A1
    obtain ⟨b1, b2, b3, _, _, _⟩ := blk3 B1
    have A1 := Lib.hid A1; have B1 := Lib.hid B1; have D1 := Lib.hid D1; clear hb1
    go_wp2_with fail
    refine (s2 _).mono ?_
    rintro e w2 ⟨rfl, hb2⟩
    have A2 := (hb2.block w.heap.size (by omega)).trans A1.out
    have B2 := (hb2.block (w.heap.size + 1) (by omega)).trans B1.out
    obtain ⟨c1, c2, c3, _, _, _⟩ := blk3 A2
    obtain ⟨d1, d2, d3, _, _, _⟩ := blk3 B2
    have D2 := Lib.hid (D1.out.trans (hb2.mono (by omega)))
    have z2 := hb2.size
    clear hb2 A2 B2 a1 a2 a3 b1 b2 b3
    go_wp2_with fail
    go_ret
    exact ⟨rfl, D2.out⟩

theorem cv_of {k key v : Int} (h : cvB k key v = true) : (k = 0 ∧ 0 ≤ key ∧ key ≤ 5 ∧ v = 0) ∨ (k = 1 ∧ 0 ≤ key ∧ key ≤ 5 ∧ 0 ≤ v ∧ v ≤ 99) ∨ (k = 2 ∧ 0 ≤ key ∧ key ≤ 5 ∧ 0 ≤ v ∧ v ≤ 99) ∨ (k = 3 ∧ key = 0 ∧ v = 0) := by
  unfold cvB at h; exact of_decide_eq_true h
end Go.Proofs.Ythdofjfjefcfpaa
