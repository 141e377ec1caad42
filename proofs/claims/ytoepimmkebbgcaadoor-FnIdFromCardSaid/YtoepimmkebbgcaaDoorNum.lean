/- The library's variables, and the program's numberFrom. -/
import Derived.Test.YtoepimmkebbgcaaDoorNumi
import Derived.Test.YtoepimmkebbgcaaDoorShelf
namespace Go.Proofs.YtoepimmkebbgcaaDoor
open Go.RowKit
set_option linter.unusedVariables false

/-- What the library's own variables hold while a law runs. -/
structure Gl (w : World) : Prop where
  mx : ∃ m, w.cell? ⟨0, 0, none⟩ = some (.int .i64 m)
  syn : ∃ ev, w.cell? ⟨1, 0, none⟩ = some ev ∧ (ev = .nilIface ∨ ∃ te pe, ev = .iface te pe)
  rng : ∃ ev, w.cell? ⟨2, 0, none⟩ = some ev ∧ (ev = .nilIface ∨ ∃ te pe, ev = .iface te pe)
  tab : Lib.TabIs Tryd.prog w "internal/strconv.uint64pow10" .u64 Lib.pow10Tab

theorem g_pow : Tryd.prog.globalNamed "internal/strconv.uint64pow10" = some 3 := by kernel_rfl

theorem tab_up {w w' : World} (h : Lib.TabIs Tryd.prog w "internal/strconv.uint64pow10" .u64 Lib.pow10Tab) (hb : Below w.heap.size w w') : Lib.TabIs Tryd.prog w' "internal/strconv.uint64pow10" .u64 Lib.pow10Tab := by
  unfold Lib.TabIs World.var? at h ⊢
  rw [g_pow] at h ⊢
  simp only [Option.bind_some] at h ⊢
  have hlt : 3 < w.heap.size := by
    rcases Nat.lt_or_ge 3 w.heap.size with h' | h'
    · exact h'
    · rw [Array.getElem?_eq_none h'] at h; cases h
  rw [hb.block 3 hlt]
  exact h

theorem Gl.up {w w' : World} (h : Gl w) (hb : Below w.heap.size w w') : Gl w' := by
  obtain ⟨⟨m, hm⟩, ⟨e1, h1, k1⟩, ⟨e2, h2, k2⟩, ht⟩ := h
  exact ⟨⟨m, cell_later hb hm⟩, ⟨e1, cell_later hb h1, k1⟩, ⟨e2, cell_later hb h2, k2⟩, tab_up ht hb⟩

theorem bytes_ne {a b : ByteArray} (h : ¬ a = b) : (a.toList == b.toList) = false := by
  rw [ByteArray.toList_eq, ByteArray.toList_eq]; simpa using fun h2 => h (bytes_ext (by simpa using h2))
theorem bytes_ne' {a b : ByteArray} (h : ¬ a = b) : (!a.toList == b.toList) = true := by rw [bytes_ne h]; rfl

theorem below_bytes (w : World) (e : TypeId) (s : ByteArray) : Below w.heap.size w (Lib.bytesWorld w e s) :=
  ⟨rfl, rfl, rfl, by rw [Lib.bytesWorld_size]; omega, fun k hk => Lib.bytesWorld_at_old w e s k hk⟩
theorem below_grow (w : World) (n : Nat) (os : Array Obj) : Below w.heap.size w (Go.Sort.grow (w.drewN n) os) :=
  ⟨rfl, rfl, rfl, by simp [Go.Sort.grow], fun k hk => by
    show (w.heap ++ os)[k]? = _
    rw [Array.getElem?_append_left hk]⟩

theorem atoi_le {l : List UInt8} {v : Int} (h : Lib.atoiAll l = .ok v) (h0 : 0 ≤ v) : v ≤ 9223372036854775807 := by
  unfold Lib.atoiAll at h
  cases l with
  | nil => cases h
  | cons c r =>
    simp only at h
    split at h
    · cases h
    · cases h
    · split at h
      · cases h
      · split at h
        · cases h
        · cases h
          split at h0 <;> split <;> omega

theorem atoi_ok (s : ByteArray) (hs : s.size ≤ 2000000) (v : Int) (h : Lib.atoiAll s.data.toList = .ok v) (w : World) :
    Calls Tryd.prog 32 #[.string s] w fun e w' => e = .returned (.tuple #[.int .i64 v, .nilIface]) ∧ Below w.heap.size w w' :=
  (Tryd.strconv_Atoi_ok s (by omega) v h w).mono fun e w' ⟨he, hw⟩ => ⟨he, by rcases hw with rfl | ⟨t, rfl⟩; exact Below.refl _ _; exact below_bytes _ _ _⟩

/-- An end with an error that is not nil. -/
def AtoiBad (w : World) (e : Ending) (w' : World) : Prop := ∃ (v : Int) (t : TypeId) (x : Value), e = .returned (.tuple #[.int .i64 v, .iface t x]) ∧ Below w.heap.size w w'

theorem atoi_bad (s : ByteArray) (hs : s.size ≤ 2000000) (h : ∀ v, Lib.atoiAll s.data.toList ≠ .ok v) (w : World) (hg : Gl w) :
    Calls Tryd.prog 32 #[.string s] w (AtoiBad w) := by
  obtain ⟨_, ⟨e1, h1, k1⟩, ⟨e2, h2, k2⟩, _⟩ := hg
  by_cases he : Lib.atoiAll s.data.toList = Lib.NumEnd.syntax
  · exact (Tryd.strconv_Atoi_syntax s (by omega) he e1 w h1 k1).mono fun e w' ⟨N, a, _, _, b⟩ => ⟨0, _, _, a, b⟩
  · have hr : Lib.atoiAll s.data.toList = Lib.NumEnd.range := by
      generalize Lib.atoiAll s.data.toList = x at h he
      cases x
      · exact absurd rfl (h _)
      · exact absurd rfl he
      · rfl
    exact (Tryd.strconv_Atoi_range s (by omega) hr e2 w h2 k2).mono fun e w' ⟨N, a, _, _, b⟩ => ⟨_, _, _, a, b⟩

theorem itoa_all (n : Int) (h0 : 0 ≤ n) (h1 : n ≤ 9223372036854775807) (w : World) (hg : Gl w) :
    Calls Tryd.prog 28 #[.int .i64 n] w fun e w' => e = .returned (.string ⟨(Lib.itoa n).toArray⟩) ∧ Below w.heap.size w w' :=
  (Tryd.strconv_Itoa n (by omega) h1 w hg.tab).mono fun e w' ⟨he, k, os, hw⟩ => ⟨he, by subst hw; exact below_grow _ _ _⟩

theorem numI_bad {s : ByteArray} (h : ∀ v, Lib.atoiAll s.data.toList ≠ .ok v) : numI s = -1 := by
  unfold numI
  split
  · rename_i v hv; exact absurd hv (h v)
  · rfl

set_option maxHeartbeats 1000000 in
theorem numberFrom_any (s : ByteArray) (hs : s.size ≤ 2000000) (w : World) (hg : Gl w) :
    Calls Tryd.prog 25 #[.string s] w fun e w' => e = .returned (.int .i64 (numI s)) ∧ Below w.heap.size w w' := by
  by_cases hb : ∃ v, Lib.atoiAll s.data.toList = .ok v
  · obtain ⟨v, hv⟩ := hb
    have s1 := atoi_ok s hs v hv
    by_cases h0 : 0 ≤ v
    · have s2 := fun w => itoa_all v h0 (atoi_le hv h0) w
      have hg := Lib.hid hg
      by_cases h1 : (⟨(Lib.itoa v).toArray⟩ : ByteArray) = s
      · have e : numI s = v := by
          unfold numI; rw [hv]; show (if _ then _ else _) = _; rw [if_pos ⟨h0, h1⟩]
        rw [e]
        rw [h1] at s2
        clear h1 e hv
        go_enter Tryd.func25, Tryd.ntmps25
        go_wp2_with fail
        refine (s1 _).mono ?_
        rintro e w1 ⟨rfl, h1⟩
        have hg1 := Lib.hid (hg.out.up h1)
        have D1 := Lib.hid h1
        clear h1 hg s1
        go_wp2_with fail
        refine (s2 _ hg1.out).mono ?_
        rintro e w2 ⟨rfl, h2⟩
        have D2 := Lib.hid (D1.out.trans (h2.mono D1.out.size))
        clear h2 s2
        go_wp2_with fail
        go_ret
        exact ⟨rfl, D2.out⟩
      · have e : numI s = -1 := by
          unfold numI; rw [hv]; show (if _ then _ else _) = _; rw [if_neg (fun h => h1 h.2)]
        rw [e]
        have h1' := bytes_ne' h1
        have h1'' := bytes_ne h1
        clear e hv
        generalize (⟨(Lib.itoa v).toArray⟩ : ByteArray) = t at s2 h1 h1' h1''
        go_enter Tryd.func25, Tryd.ntmps25
        go_wp2_with fail
        refine (s1 _).mono ?_
        rintro e w1 ⟨rfl, h2⟩
        have hg1 := Lib.hid (hg.out.up h2)
        have D1 := Lib.hid h2
        clear h2 hg s1
        go_wp2_with fail
        refine (s2 _ hg1.out).mono ?_
        rintro e w2 ⟨rfl, h2⟩
        have D2 := Lib.hid (D1.out.trans (h2.mono D1.out.size))
        clear h2 s2
        go_wp2_with fail
        go_ret
        exact ⟨rfl, D2.out⟩
    · have e : numI s = -1 := by
        unfold numI; rw [hv]; show (if _ then _ else _) = _; rw [if_neg (fun h => h0 h.1)]
      rw [e]
      have h0' : v < 0 := by omega
      clear e hv h0 hg
      go_enter Tryd.func25, Tryd.ntmps25
      go_wp2_with fail
      refine (s1 _).mono ?_
      rintro e w1 ⟨rfl, h2⟩
      have D1 := Lib.hid h2
      clear h2 s1
      go_wp2_with fail
      go_ret
      exact ⟨rfl, D1.out⟩
  · have hb' : ∀ v, Lib.atoiAll s.data.toList ≠ .ok v := fun v h => hb ⟨v, h⟩
    rw [numI_bad hb']
    have s1 := atoi_bad s hs hb' w hg
    clear hb hb' hg
    go_enter Tryd.func25, Tryd.ntmps25
    go_wp2_with fail
    refine s1.mono ?_
    rintro e w1 ⟨v, t, x, rfl, h2⟩
    have D1 := Lib.hid h2
    clear h2 s1
    go_wp2_with fail
    go_ret
    exact ⟨rfl, D1.out⟩
end Go.Proofs.YtoepimmkebbgcaaDoor
