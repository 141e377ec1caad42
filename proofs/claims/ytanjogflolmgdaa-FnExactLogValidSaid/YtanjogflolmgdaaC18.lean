/- Texts laid together. -/
import Derived.Test.YtanjogflolmgdaaC08
/- The laws' copies of slices of entries. -/
namespace Go.Proofs.Ytanjogflolmgdaa
open Go.RowKit
set_option linter.unusedVariables false

/-- The cells of one entry in a row. -/
def EnC (cur : Array Value) (i : Nat) (e : En) (u : Value) : Prop := ∀ j, j < 9 → cur[i * 9 + j]? = (enc9 e u)[j]?
/-- A slice of entries in a block of its own, with lists in blocks of their own, all from B on. -/
def EnO (w : World) (B : Nat) (v : Value) (E : List En) : Prop :=
  ∃ g cap cur t, v = .slice (some ⟨g, 0, none⟩) E.length cap ∧ B ≤ g ∧ w.heap[g]? = some (.cells cur t (0, 0)) ∧ E.length ≤ cap ∧ E.length ≤ 2000000 ∧
    ∀ i, i < E.length → ∃ b u, B ≤ b ∧ b ≠ g ∧ EnC cur i (E.getD i en0) u ∧ OwnP w b u (E.getD i en0).deps
theorem enc_at {w : World} {g : Nat} {cur : Array Value} {t : TypeId} {i : Nat} {e : En} {u : Value} (hg : w.heap[g]? = some (.cells cur t (0, 0))) (hc : EnC cur i e u) (hI : Ids w u e.deps) : EnAt w g (0 + i * 9) e u := by
  have c := fun j hj => hc j hj
  rw [Nat.zero_add]
  refine ⟨?_, ?_, ?_, ?_, ?_, ?_, ?_, ?_, ?_, hI⟩ <;> rw [cell_of_cells hg]
  · exact c 0 (by omega)
  · exact c 1 (by omega)
  · exact c 2 (by omega)
  · exact c 3 (by omega)
  · exact c 4 (by omega)
  · exact c 5 (by omega)
  · exact c 6 (by omega)
  · exact c 7 (by omega)
  · exact c 8 (by omega)
theorem EnO.read {w : World} {B : Nat} {v : Value} {E : List En} (h : EnO w B v E) : Ens w v E := by
  obtain ⟨g, cap, cur, t, rfl, _, hg, h1, h2, h3⟩ := h
  have h' : ∀ i, ∃ u, i < E.length → EnC cur i (E.getD i en0) u ∧ Ids w u (E.getD i en0).deps := fun i => by
    by_cases hi : i < E.length
    · obtain ⟨b, u, _, _, hc, hO⟩ := h3 i hi
      exact ⟨u, fun _ => ⟨hc, hO.read⟩⟩
    · exact ⟨.slice none 0 0, fun hh => absurd hh hi⟩
  refine ⟨_, cap, rfl, h1, h2, .inr ⟨g, 0, fun i => Classical.choose (h' i), rfl, lt_of_heap hg, fun i hi => ?_⟩⟩
  obtain ⟨hc, hI⟩ := Classical.choose_spec (h' i) hi
  exact enc_at hg hc hI
theorem EnO.up {w w' : World} {B : Nat} {v : Value} {E : List En} (h : EnO w B v E) (hb : Below w.heap.size w w') : EnO w' B v E := by
  obtain ⟨g, cap, cur, t, rfl, h0, hg, h1, h2, h3⟩ := h
  refine ⟨g, cap, cur, t, rfl, h0, (hb.block g (lt_of_heap hg)).trans hg, h1, h2, fun i hi => ?_⟩
  obtain ⟨b, u, q1, q2, hc, ho⟩ := h3 i hi
  exact ⟨b, u, q1, q2, hc, ho.up hb ho.lt⟩

theorem info_en : (Try.prog.info? 30).map (fun i => (i.zero, i.size, i.bytes)) = some (some (.agg #[.int .i64 0, .int .i64 0, .int .i64 0, .int .i64 0, .int .i64 0, .int .i64 0, .int .i64 0, .int .i64 0, .slice none 0 0]), 9, 88) := by kernel_rfl
theorem made_ens (n : Nat) (hn : n ≤ 2000000) (w : World) : (Instr.makeSlice 23 (.int .i64 n) (.int .i64 n)).run Try.prog w = .ok (.slice (some ⟨w.heap.size, 0, none⟩) n n) (w.alloc (.cells (madeCells #[.int .i64 0, .int .i64 0, .int .i64 0, .int .i64 0, .int .i64 0, .int .i64 0, .int .i64 0, .int .i64 0, .slice none 0 0] (n * 9)) 30)) := by
  obtain ⟨i, hi, hz, hs, hb⟩ := info_parts info_en
  have hr := run_make (P := Try.prog) w 23 30 i _ Try.underlying23 hi hz .i64 .i64 n n (by omega) (Int.le_refl _) (by rw [hb]; omega) (by omega)
  simp only [Int.toNat_natCast, hs] at hr
  exact hr

/-- Copies so far. -/
def EnK (w : World) (B g n k : Nat) (E : List En) : Prop :=
  ∃ cur t, w.heap[g]? = some (.cells cur t (0, 0)) ∧ cur.size = n * 9 ∧ ∀ i, i < k → ∃ b u, B ≤ b ∧ b ≠ g ∧ EnC cur i (E.getD i en0) u ∧ OwnP w b u (E.getD i en0).deps
theorem EnK.lt {w : World} {B g n k : Nat} {E : List En} (h : EnK w B g n k E) : g < w.heap.size := by obtain ⟨cur, t, h, _⟩ := h; exact lt_of_heap h
theorem EnK.up {w w' : World} {B g n k : Nat} {E : List En} (h : EnK w B g n k E) (hb : Below w.heap.size w w') : EnK w' B g n k E := by
  obtain ⟨cur, t, h1, h2, h3⟩ := h
  refine ⟨cur, t, (hb.block g (lt_of_heap h1)).trans h1, h2, fun i hi => ?_⟩
  obtain ⟨b, u, q1, q2, hc, ho⟩ := h3 i hi
  exact ⟨b, u, q1, q2, hc, ho.up hb ho.lt⟩
theorem EnK.old {w : World} {B g n k : Nat} {E : List En} (h : EnK w B g n k E) {j : Nat} (hj : j < n * 9) : (∃ y, w.cell? ⟨g, j, none⟩ = some y) ∧ w.frozen? ⟨g, j, none⟩ = false := by
  obtain ⟨cur, t, h1, h2, _⟩ := h
  exact ⟨⟨cur[j]'(by omega), by rw [cell_of_cells h1]; simp [show j < cur.size by omega]⟩, by simp [World.frozen?, h1]⟩
theorem EnK.put {w : World} {B g n k : Nat} {E : List En} (h : EnK w B g n k E) (hk : k < n) {b : Nat} {u : Value} {e : En} (he : E.getD k en0 = e) (hB : B ≤ b) (hbg : b ≠ g) (ho : OwnP w b u e.deps) :
    EnK (((((((((w.setCell ⟨g, k * 9, none⟩ (.int .i64 e.id.1)).setCell ⟨g, k * 9 + 1, none⟩ (.int .i64 e.id.2)).setCell ⟨g, k * 9 + 2, none⟩ (.int .i64 e.bal)).setCell ⟨g, k * 9 + 3, none⟩ (.int .i64 e.st)).setCell ⟨g, k * 9 + 4, none⟩ (.int .i64 e.k)).setCell ⟨g, k * 9 + 5, none⟩ (.int .i64 e.key)).setCell ⟨g, k * 9 + 6, none⟩ (.int .i64 e.v)).setCell ⟨g, k * 9 + 7, none⟩ (.int .i64 e.seq)).setCell ⟨g, k * 9 + 8, none⟩ (u)) B g n (k + 1) E := by
  obtain ⟨cur, t, h1, h2, h3⟩ := h
  have oth : ∀ c, c ≠ g → (((((((((w.setCell ⟨g, k * 9, none⟩ (.int .i64 e.id.1)).setCell ⟨g, k * 9 + 1, none⟩ (.int .i64 e.id.2)).setCell ⟨g, k * 9 + 2, none⟩ (.int .i64 e.bal)).setCell ⟨g, k * 9 + 3, none⟩ (.int .i64 e.st)).setCell ⟨g, k * 9 + 4, none⟩ (.int .i64 e.k)).setCell ⟨g, k * 9 + 5, none⟩ (.int .i64 e.key)).setCell ⟨g, k * 9 + 6, none⟩ (.int .i64 e.v)).setCell ⟨g, k * 9 + 7, none⟩ (.int .i64 e.seq)).setCell ⟨g, k * 9 + 8, none⟩ (u)).heap[c]? = w.heap[c]? := fun c hc => by
    rw [heap_setCell_other _ _ _ _ hc, heap_setCell_other _ _ _ _ hc, heap_setCell_other _ _ _ _ hc, heap_setCell_other _ _ _ _ hc, heap_setCell_other _ _ _ _ hc, heap_setCell_other _ _ _ _ hc, heap_setCell_other _ _ _ _ hc, heap_setCell_other _ _ _ _ hc, heap_setCell_other _ _ _ _ hc]
  have e0 := heap_setCell_same _ g (k * 9 + 8) _ _ (u) (heap_setCell_same _ g (k * 9 + 7) _ _ (.int .i64 e.seq) (heap_setCell_same _ g (k * 9 + 6) _ _ (.int .i64 e.v) (heap_setCell_same _ g (k * 9 + 5) _ _ (.int .i64 e.key) (heap_setCell_same _ g (k * 9 + 4) _ _ (.int .i64 e.k) (heap_setCell_same _ g (k * 9 + 3) _ _ (.int .i64 e.st) (heap_setCell_same _ g (k * 9 + 2) _ _ (.int .i64 e.bal) (heap_setCell_same _ g (k * 9 + 1) _ _ (.int .i64 e.id.2) (heap_setCell_same _ g (k * 9) _ _ (.int .i64 e.id.1) (h1)))))))))
  refine ⟨_, t, e0, by simpa using h2, fun i hi => ?_⟩
  rcases Nat.lt_or_ge i k with hlt | hge
  · obtain ⟨b', u', q1, q2, hc, hO⟩ := h3 i hlt
    refine ⟨b', u', q1, q2, fun j hj => ?_, hO.same (oth b' q2)⟩
    rw [← hc j hj]
    repeat rw [Array.getElem?_setIfInBounds_ne (by omega)]
  · obtain rfl : i = k := by omega
    rw [he]
    refine ⟨b, u, hB, hbg, fun j hj => ?_, ho.same (oth b hbg)⟩
    have hsz : i * 9 + 8 < cur.size := by omega
    rcases (show j = 0 ∨ j = 1 ∨ j = 2 ∨ j = 3 ∨ j = 4 ∨ j = 5 ∨ j = 6 ∨ j = 7 ∨ j = 8 by omega) with rfl | rfl | rfl | rfl | rfl | rfl | rfl | rfl | rfl <;> simp [Array.getElem?_setIfInBounds, enc9] <;> omega
theorem enK_made (w : World) (n : Nat) (E : List En) (t : TypeId) : EnK (w.alloc (.cells (madeCells #[.int .i64 0, .int .i64 0, .int .i64 0, .int .i64 0, .int .i64 0, .int .i64 0, .int .i64 0, .int .i64 0, .slice none 0 0] (n * 9)) t)) w.heap.size w.heap.size n 0 E :=
  ⟨_, t, heap_alloc_new w _, by simp [madeCells], fun i hi => absurd hi (Nat.not_lt_zero _)⟩
end Go.Proofs.Ytanjogflolmgdaa

/- The laws' copies of slices of entries: toEntryS. -/
namespace Go.Proofs.Ytanjogflolmgdaa
open Go.RowKit
set_option linter.unusedVariables false

/-- What toEntryS leaves. -/
def EnsCPost (E : List En) (w : World) (e : Ending) (w' : World) : Prop := ∃ v, e = .returned v ∧ EnO w' w.heap.size v E ∧ Below w.heap.size w w'

set_option maxRecDepth 100000 in
set_option maxHeartbeats 4000000 in
theorem toEs_at (b off ca : Nat) (E : List En) (U : Nat → Value) (w : World) (hm : E.length ≤ 2000000) (h : EnsAt w b off E U) :
    Calls Try.prog 31 #[.slice (some ⟨b, off, none⟩) E.length ca] w (EnsCPost E w) := by
  have hmk := made_ens E.length hm
  have h := Lib.hid h
  have hO := Lib.hid (enK_made w E.length E 30)
  obtain ⟨n, hn⟩ : ∃ n, Hid (E.length = n) := ⟨_, Lib.hid rfl⟩
  rw [hn.out] at hmk hm hO ⊢
  have B0 := Lib.hid ((Below.refl w.heap.size w).alloc (Nat.le_refl _) (.cells (madeCells #[.int .i64 0, .int .i64 0, .int .i64 0, .int .i64 0, .int .i64 0, .int .i64 0, .int .i64 0, .int .i64 0, .slice none 0 0] (n * 9)) 30))
  go_enter Try.func31, Try.ntmps31
  go_wp2_with fail
  clear hmk
  go_loopw [4] (fun i wr => ∃ k : Nat, k ≤ n ∧ i = .int .i64 k ∧ Hid (EnK wr w.heap.size w.heap.size n k E) ∧ Hid (Below w.heap.size w wr)) (fun i _ => n - (intOf i).toNat)
  case atStart => exact ⟨0, Nat.zero_le _, rfl, hO, B0⟩
  case round =>
    obtain ⟨k, hk, rfl, hM, hnx⟩ := hrel
    clear hO B0
    by_cases hlt : k < n
    · have hkE : k < E.length := by rw [hn.out]; exact hlt
      have hA := h.out.up hnx.out (Nat.le_refl _)
      have hbl := hA.lt
      obtain ⟨x, hx⟩ : ∃ x, Hid (E.getD k en0 = x) := ⟨_, Lib.hid rfl⟩
      have hX := hA.at_ k hkE
      rw [hx.out] at hX
      obtain ⟨ua, un, uc, hu⟩ : ∃ ua un uc, U k = .slice ua un uc := by obtain ⟨a, c, e, _⟩ := hX.ids; exact ⟨a, _, c, e⟩
      rw [hu] at hX
      have sc := toE_any x (.slice ua un uc) wr hX.ids
      obtain ⟨q0, q1, q2, q3, q4, q5, q6, q7, q8, _⟩ := hX
      clear hu hA
      have put := Lib.hid (fun (W : World) (H : EnK W w.heap.size w.heap.size n k E) (b : Nat) (u : Value) => EnK.put (b := b) (u := u) H hlt hx.out)
      unfold EnCPost env at sc
      obtain ⟨⟨p, r⟩, bal, st, ck, ckey, cv, s, C⟩ := x
      dsimp only at q0 q1 q2 q3 q4 q5 q6 q7 sc
      have hs := Lib.hid hM.out.lt
      go_wp2_with fail
      refine sc.mono ?_
      rintro e w1 ⟨b1, u1, hb1, rfl, hO1, B⟩
      obtain ⟨cap, rfl, _⟩ := hO1.shape
      have hK := hM.out.up B
      obtain ⟨⟨y0, d0⟩, f0⟩ := hK.old (j := k * 9) (by omega)
      obtain ⟨⟨y1, d1⟩, f1⟩ := hK.old (j := k * 9 + 1) (by omega)
      obtain ⟨⟨y2, d2⟩, f2⟩ := hK.old (j := k * 9 + 2) (by omega)
      obtain ⟨⟨y3, d3⟩, f3⟩ := hK.old (j := k * 9 + 3) (by omega)
      obtain ⟨⟨y4, d4⟩, f4⟩ := hK.old (j := k * 9 + 4) (by omega)
      obtain ⟨⟨y5, d5⟩, f5⟩ := hK.old (j := k * 9 + 5) (by omega)
      obtain ⟨⟨y6, d6⟩, f6⟩ := hK.old (j := k * 9 + 6) (by omega)
      obtain ⟨⟨y7, d7⟩, f7⟩ := hK.old (j := k * 9 + 7) (by omega)
      obtain ⟨⟨y8, d8⟩, f8⟩ := hK.old (j := k * 9 + 8) (by omega)
      have hs1 := hK.lt
      have R := Lib.hid (put.out w1 hK b1 _ (Nat.le_trans hnx.out.size hb1) (by have := hs.out; omega) hO1)
      have D1 := Lib.hid (hnx.out.trans (B.mono hnx.out.size))
      clear hM h hO1 B hnx q0 q1 q2 q3 q4 q5 q6 q7 q8 hs hK sc put hb1 hx
      go_wp2_with fail
      refine ⟨⟨k + 1, by omega, by go_num, Lib.hid R.out, Lib.hid (((((((((D1.out.setCell (p := ⟨w.heap.size, k * 9, none⟩) (Nat.le_refl _) _).setCell (p := ⟨w.heap.size, k * 9 + 1, none⟩) (Nat.le_refl _) _).setCell (p := ⟨w.heap.size, k * 9 + 2, none⟩) (Nat.le_refl _) _).setCell (p := ⟨w.heap.size, k * 9 + 3, none⟩) (Nat.le_refl _) _).setCell (p := ⟨w.heap.size, k * 9 + 4, none⟩) (Nat.le_refl _) _).setCell (p := ⟨w.heap.size, k * 9 + 5, none⟩) (Nat.le_refl _) _).setCell (p := ⟨w.heap.size, k * 9 + 6, none⟩) (Nat.le_refl _) _).setCell (p := ⟨w.heap.size, k * 9 + 7, none⟩) (Nat.le_refl _) _).setCell (p := ⟨w.heap.size, k * 9 + 8, none⟩) (Nat.le_refl _) _)⟩, ?_⟩
      simp [intOf]; omega
    · obtain rfl : k = n := by omega
      clear h
      go_wp2_with fail
      go_ret
      refine ⟨_, rfl, ?_, hnx.out⟩
      obtain ⟨cur, t, h1, h2, h3⟩ := hM.out
      exact ⟨w.heap.size, k, cur, t, by have e := hn.out; subst e; rfl, Nat.le_refl _, h1, by rw [hn.out]; exact Nat.le_refl _, by rw [hn.out]; exact hm, fun i hi => h3 i (by rw [← hn.out]; exact hi)⟩

set_option maxRecDepth 100000 in
theorem toEs_nil (a : Option Addr) (ca : Nat) (w : World) :
    Calls Try.prog 31 #[.slice a 0 ca] w (EnsCPost [] w) := by
  have hmk : ∀ w : World, (Instr.makeSlice 23 (.int .i64 0) (.int .i64 0)).run Try.prog w = .ok (.slice (some ⟨w.heap.size, 0, none⟩) 0 0) (w.alloc (.cells (madeCells #[.int .i64 0, .int .i64 0, .int .i64 0, .int .i64 0, .int .i64 0, .int .i64 0, .int .i64 0, .int .i64 0, .slice none 0 0] (0 * 9)) 30)) := made_ens 0 (by omega)
  have hO := Lib.hid (enK_made w 0 [] 30)
  go_enter Try.func31, Try.ntmps31
  go_wp2_with fail
  refine wp_loop_rounds 1 ?_
  rw [rounds_succ]
  go_wp2_with fail
  go_ret
  obtain ⟨cur, t, h1, h2, h3⟩ := hO.out
  exact ⟨_, rfl, ⟨_, 0, cur, t, rfl, Nat.le_refl _, h1, Nat.le_refl _, Nat.zero_le _, h3⟩, (Below.refl _ _).alloc (Nat.le_refl _) _⟩

/-- A COPY OF ENTRIES. -/
theorem toEs_any (u : Value) (E : List En) (w : World) (h : Ens w u E) :
    Calls Try.prog 31 #[u] w (EnsCPost E w) := by
  obtain ⟨a, cap, rfl, h1, h2, h3⟩ := h
  rcases h3 with h3 | ⟨b, off, U, rfl, h4⟩
  · obtain rfl : E = [] := List.length_eq_zero_iff.1 h3
    exact toEs_nil a cap w
  · exact toEs_at b off cap E U w h2 h4
end Go.Proofs.Ytanjogflolmgdaa
