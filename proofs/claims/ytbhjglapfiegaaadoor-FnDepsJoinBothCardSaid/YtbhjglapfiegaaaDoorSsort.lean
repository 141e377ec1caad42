/- The model's IdsSort. -/
import Derived.Test.YtbhjglapfiegaaaDoorSput
namespace Go.Proofs.YtbhjglapfiegaaaDoor
open Go.RowKit
set_option linter.unusedVariables false

theorem all_ok {L : List Pid} (h : ∀ j, j < L.length → okP (L.getD j nop) = true) : L.all okP = true := by
  rw [List.all_eq_true]
  intro x hx
  obtain ⟨i, hi, e⟩ := List.getElem_of_mem hx
  have := h i hi
  rw [List.getD_eq_getElem?_getD, List.getElem?_eq_getElem hi, Option.getD_some, e] at this
  exact this
theorem ownP_nil (w : World) (t : TypeId) : OwnP (w.alloc (.cells #[] t)) w.heap.size (.slice (some ⟨w.heap.size, 0, none⟩) 0 0) [] :=
  ⟨0, #[], t, rfl, heap_alloc_new w _, Nat.le_refl _, by simp, fun i hi => absurd hi (by simp)⟩
theorem OwnP.at0 {w : World} {b : Nat} {u : Value} {C : List Pid} (h : OwnP w b u C) : ∀ i, i < C.length → w.cell? ⟨b, 0 + i * 2, none⟩ = some (.int .i64 (C.getD i nop).1) ∧ w.cell? ⟨b, 0 + i * 2 + 1, none⟩ = some (.int .i64 (C.getD i nop).2) := fun i hi => by
  rw [Nat.zero_add]; exact h.cell i hi
theorem sortP_take_len (L : List Pid) (k : Nat) : (sortP (L.take k)).length ≤ k := Nat.le_trans (sortP_len _) (by rw [List.length_take]; omega)

/-- What IdsSort leaves. -/
def SortPost (L : List Pid) (w : World) (e : Ending) (w' : World) : Prop :=
  ∃ b u, w.heap.size ≤ b ∧ e = .returned (.tuple #[u, .bool (sortR L).2]) ∧ OwnP w' b u (sortR L).1 ∧ Below w.heap.size w w'

set_option maxHeartbeats 2000000 in
theorem ssort_at (b off ca : Nat) (L : List Pid) (w : World) (hb : b < w.heap.size) (hm : L.length ≤ 1800000) (h : ∀ i, i < L.length → w.cell? ⟨b, off + i * 2, none⟩ = some (.int .i64 (L.getD i nop).1) ∧ w.cell? ⟨b, off + i * 2 + 1, none⟩ = some (.int .i64 (L.getD i nop).2)) :
    Calls Tryd.prog 44 #[.slice (some ⟨b, off, none⟩) L.length ca] w (SortPost L w) := by
  have h := Lib.hid h
  obtain ⟨n, hn⟩ : ∃ n, Hid (L.length = n) := ⟨_, Lib.hid rfl⟩
  rw [hn.out] at hm ⊢
  have R0 := Lib.hid (ownP_nil w 31)
  go_enter Tryd.func44, Tryd.ntmps44
  go_wp2_with fail
  go_loopw [4, 5] (fun v i wr => ∃ k : Nat, k ≤ n ∧ i = .int .i64 k ∧ ∃ g, w.heap.size ≤ g ∧ Hid (OwnP wr g v (sortP (L.take k)) ∧ (∀ j, j < k → okP (L.getD j nop) = true)) ∧ Below w.heap.size w wr) (fun _ i _ => n - (intOf i).toNat)
  case atStart => exact ⟨0, Nat.zero_le _, rfl, w.heap.size, Nat.le_refl _, Lib.hid ⟨R0.out, fun j hj => absurd hj (Nat.not_lt_zero _)⟩, (Below.refl _ _).alloc (Nat.le_refl _) _⟩
  case round =>
    obtain ⟨k, hk, rfl, g, hg, hO, hnx⟩ := hrel
    clear R0
    obtain ⟨cap, hv, hcap⟩ := hO.out.1.shape
    have hsl := sortP_take_len L k
    by_cases hlt : k < n
    · obtain ⟨h0, h1⟩ := h.out k (by rw [hn.out]; exact hlt)
      have q0 := (hnx.cell (p := ⟨b, off + k * 2, none⟩) hb).trans h0
      have q1 := (hnx.cell (p := ⟨b, off + k * 2 + 1, none⟩) hb).trans h1
      clear h0 h1
      obtain ⟨c, hc⟩ : ∃ c, Hid (L.getD k nop = c) := ⟨_, Lib.hid rfl⟩
      rw [hc.out] at q0 q1
      obtain ⟨p, r⟩ := c
      dsimp only at q0 q1
      have hnx := Lib.hid hnx
      have sv := svid_any p r
      obtain ⟨q, hq⟩ : ∃ q, Hid (idB p r = q) := ⟨_, Lib.hid rfl⟩
      rw [hq.out] at sv
      cases q
      · have hR := Lib.hid (sortR_bad (by rw [hn.out]; exact hlt) (show okP (L.getD k nop) = false by rw [hc.out]; exact hq.out))
        clear h
        go_wp2_with fail
        refine (sv _).mono ?_
        rintro e w1 ⟨rfl, B⟩
        have D1 := Lib.hid (bstep hnx.out B)
        have N1 := Lib.hid (ownP_nil w1 31)
        clear B hnx hO
        go_wp2_with fail
        go_ret2
        refine ⟨w1.heap.size, .slice (some ⟨w1.heap.size, 0, none⟩) 0 0, D1.out.size, ?_, ?_, D1.out.alloc D1.out.size _⟩
        · rw [hR.out]; rfl
        · rw [hR.out]; exact N1.out
      · have hnext := Lib.hid (sortP_next (L := L) (k := k) (by rw [hn.out]; exact hlt))
        have hok := Lib.hid (up_to hO.out.2 (show okP (L.getD k nop) = true by rw [hc.out]; exact hq.out))
        rw [hc.out] at hnext
        have hO := hO.out.1
        clear hq hc
        generalize sortP (L.take k) = S at hO hsl hnext hv hcap
        subst hv
        have hO := Lib.hid hO
        clear h
        go_wp2_with fail
        refine (sv _).mono ?_
        rintro e w1 ⟨rfl, B⟩
        have D1 := Lib.hid (bstep hnx.out B)
        have O1 := hO.out.up B hO.out.lt
        have q0 := cell_later B q0
        have q1 := cell_later B q1
        have hl1 := O1.lt
        have O1 := Lib.hid O1
        clear B hnx hO
        go_wp2_with fail
        refine (sput_at g 0 cap S p r _ hl1 (by omega) O1.out.at0).mono ?_
        rintro e w2 ⟨b', u, hb', rfl, hO2, B⟩
        have D2 := Lib.hid (bstep D1.out B)
        have D1s := D1.out.size
        have hO2 := Lib.hid hO2
        clear B D1 O1
        go_wp2_with fail
        go_roundw
        case rel => exact ⟨k + 1, by omega, by go_num, b', by omega, Lib.hid ⟨by rw [hnext.out]; exact hO2.out, hok.out⟩, D2.out⟩
        case measure => simp [intOf]; omega
    · obtain rfl : k = n := by omega
      have ht : L.take k = L := List.take_of_length_le (by rw [hn.out]; exact Nat.le_refl _)
      have hall := all_ok (fun j hj => hO.out.2 j (by rw [← hn.out]; exact hj))
      have hO := hO.out.1
      rw [ht] at hO hsl hv hcap
      have hnx := Lib.hid hnx
      clear h ht
      by_cases hle : (sortP L).length ≤ 12
      · have hR := Lib.hid (sortR_t hall hle)
        generalize sortP L = S at hO hsl hle hv hcap hR
        subst hv
        have hO := Lib.hid hO
        clear hall
        go_wp2_with fail
        go_ret2
        refine ⟨g, .slice (some ⟨g, 0, none⟩) S.length cap, hg, ?_, ?_, hnx.out⟩
        · rw [hR.out]; rfl
        · rw [hR.out]; exact hO.out
      · have hR := Lib.hid (sortR_long hle)
        generalize sortP L = S at hO hsl hle hv hcap
        subst hv
        have N1 := Lib.hid (ownP_nil wr 31)
        clear hall hO
        go_wp2_with fail
        go_ret2
        refine ⟨wr.heap.size, .slice (some ⟨wr.heap.size, 0, none⟩) 0 0, hnx.out.size, ?_, ?_, hnx.out.alloc hnx.out.size _⟩
        · rw [hR.out]; rfl
        · rw [hR.out]; exact N1.out

theorem ssort_nil (a : Option Addr) (ca : Nat) (w : World) :
    Calls Tryd.prog 44 #[.slice a 0 ca] w (SortPost [] w) := by
  have R0 := Lib.hid (ownP_nil w 31)
  go_enter Tryd.func44, Tryd.ntmps44
  go_wp2_with fail
  refine wp_loop_rounds 1 ?_
  rw [rounds_succ]
  go_wp2_with fail
  go_ret2
  exact ⟨w.heap.size, _, Nat.le_refl _, rfl, R0.out, (Below.refl _ _).alloc (Nat.le_refl _) _⟩

theorem ssort_any (u : Value) (L : List Pid) (w : World) (h : Ids w u L) (hm : L.length ≤ 1800000) :
    Calls Tryd.prog 44 #[u] w (SortPost L w) := by
  obtain ⟨a, cap, rfl, h1, h2, h3⟩ := h
  rcases h3 with h3 | ⟨b, off, rfl, h4, h5⟩
  · obtain rfl : L = [] := List.length_eq_zero_iff.1 h3
    exact ssort_nil a cap w
  · exact ssort_at b off cap L w h4 hm h5
end Go.Proofs.YtbhjglapfiegaaaDoor
