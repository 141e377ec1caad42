/- The program's IdsSort. -/
import Derived.Test.YtoepimmkebbgcaaBin
import Derived.Test.YtoepimmkebbgcaaIns
namespace Go.Proofs.Ytoepimmkebbgcaa
open Go.RowKit
set_option linter.unusedVariables false

theorem Row.cells {w : World} {B g cap : Nat} {O : List Pid} (h : Row w B (.slice (some ⟨g, 0, none⟩) O.length cap) O) : ∀ i, i < O.length → w.cell? ⟨g, i * 2, none⟩ = some (.int .i64 (O.getD i nop).1) ∧ w.cell? ⟨g, i * 2 + 1, none⟩ = some (.int .i64 (O.getD i nop).2) := by
  obtain ⟨cur, _, _, _, _, _, hcs⟩ := h.parts
  intro i hi
  rw [hcs _ (by omega), hcs _ (by omega)]
  exact flatP_get O i hi

theorem ins_any (B vb g cap i : Nat) (O : List Pid) (x y : Int) (w : World) (hR : Row w B (.slice (some ⟨g, 0, none⟩) O.length cap) O) (hB : B ≤ w.heap.size) (hl : O.length ≤ 1900000) (hi : i ≤ O.length) (hgv : vb ≠ g) (hvb : w.heap[vb]? = some (.cells #[.int .i64 x, .int .i64 y] 24 (0, 0))) :
    Calls Try.prog 36 #[.slice (some ⟨g, 0, none⟩) O.length cap, .int .i64 i, .slice (some ⟨vb, 0, none⟩) 1 1] w (InsPost B (O.take i ++ (x, y) :: O.drop i) w) := by
  obtain ⟨g', cap', e, hBg, _, hlc, hcm⟩ := hR.shape
  injection e with e1 _ e3
  injection e1 with e1
  injection e1 with e1
  subst e1 e3
  by_cases h : i = O.length
  · subst h
    have := ins_end B vb _ O x y w hR hB hl hvb
    rw [List.take_of_length_le (Nat.le_refl _), List.drop_eq_nil_of_le (Nat.le_refl _)]
    exact this
  · by_cases h2 : O.length + 1 ≤ cap
    · exact ins_shift B vb g cap i O x y w hR hBg h2 hcm hl (by omega) hgv hvb
    · exact ins_grow B vb g cap i O x y w hR hB hlc (by omega) hl (by omega) hvb

theorem putP_in' {S : List Pid} {a : Pid} (h : hasP S a = true) : putP S a = S := len_putP_in (by simpa [hasP] using h)
theorem putP_ins' {S : List Pid} {a : Pid} (hA : Asc S) (h : hasP S a = false) : putP S a = S.take (posP S a) ++ a :: S.drop (posP S a) := by
  have hn : ¬ a ∈ S := by simpa [hasP] using h
  rw [putP_out hn, posP_ins hA hn]
theorem not_has {S : List Pid} {a : Pid} (h : hasP S a = false) : ¬ a ∈ S := by simpa [hasP] using h

set_option maxHeartbeats 4000000 in
theorem isort_at (b off ca : Nat) (L : List Pid) (w : World) (hb : b < w.heap.size) (hm : L.length ≤ 1800000) (h : ∀ i, i < L.length → w.cell? ⟨b, off + i * 2, none⟩ = some (.int .i64 (L.getD i nop).1) ∧ w.cell? ⟨b, off + i * 2 + 1, none⟩ = some (.int .i64 (L.getD i nop).2)) :
    Calls Try.prog 16 #[.slice (some ⟨b, off, none⟩) L.length ca] w (SortPost L w) := by
  have h := Lib.hid h
  obtain ⟨n, hn⟩ : ∃ n, Hid (L.length = n) := ⟨_, Lib.hid rfl⟩
  rw [hn.out] at hm ⊢
  have R0 := Lib.hid (row_new w w.heap.size (Nat.le_refl _))
  go_enter Try.func16, Try.ntmps16
  go_wp2_with fail
  go_loopw [4, 12] (fun v i wr => ∃ k : Nat, k ≤ n ∧ i = .int .i64 k ∧ Hid (Row wr w.heap.size v (sortP (L.take k)) ∧ (sortP (L.take k)).length ≤ 12 ∧ (∀ j, j < k → okP (L.getD j nop) = true)) ∧ Below w.heap.size w wr) (fun _ i _ => n - (intOf i).toNat)
  case atStart => exact ⟨0, Nat.zero_le _, rfl, Lib.hid ⟨R0.out, Nat.zero_le _, fun j hj => absurd hj (Nat.not_lt_zero _)⟩, (Below.refl _ _).alloc (Nat.le_refl _) _⟩
  case round =>
    obtain ⟨k, hk, rfl, hO, hnx⟩ := hrel
    clear R0
    obtain ⟨g, cap, hv, hBg, hgs, hlc, hcm⟩ := hO.out.1.shape
    unfold maxLen at hcm
    by_cases hlt : k < n
    · obtain ⟨h0, h1⟩ := h.out k (by rw [hn.out]; exact hlt)
      have q0 := (hnx.cell (p := ⟨b, off + k * 2, none⟩) hb).trans h0
      have q1 := (hnx.cell (p := ⟨b, off + k * 2 + 1, none⟩) hb).trans h1
      clear h0 h1
      obtain ⟨c, hc⟩ : ∃ c, Hid (L.getD k nop = c) := ⟨_, Lib.hid rfl⟩
      rw [hc.out] at q0 q1
      obtain ⟨p, r⟩ := c
      dsimp only at q0 q1
      have hnx := Lib.hid hnx
      have sv := ivid_any p r
      obtain ⟨q, hq⟩ : ∃ q, Hid (idB p r = q) := ⟨_, Lib.hid rfl⟩
      rw [hq.out] at sv
      have hnext := Lib.hid (sortP_next (L := L) (k := k) (by rw [hn.out]; exact hlt))
      rw [hc.out] at hnext
      have hfull : Hid ((sortP (L.take k)).length = 12 → ¬ (p, r) ∈ sortP (L.take k) → sortR L = ([], false)) := Lib.hid fun e1 e2 => sortR_full (by rw [hn.out]; exact hlt) e1 (by rw [hc.out]; exact e2)
      have hasc := sortP_asc (L.take k)
      have hok := hO.out.2.2
      have hSl := hO.out.2.1
      have hO := hO.out.1
      have hok := Lib.hid hok
      generalize sortP (L.take k) = S at hO hSl hnext hv hlc hfull hasc
      subst hv
      have R1 := hO.up ((Below.refl _ _).alloc (Nat.le_refl _) (.cells #[.int .i64 p, .int .i64 r] 24))
      have sb := bin_at g cap S p r (wr.alloc (.cells #[.int .i64 p, .int .i64 r] 24)) hasc (by simp; omega) (by omega) R1.cells
      obtain ⟨fo, hfo⟩ : ∃ q, Hid (hasP S (p, r) = q) := ⟨_, Lib.hid rfl⟩
      obtain ⟨ps, hps⟩ : ∃ q, Hid (posP S (p, r) = q) := ⟨_, Lib.hid rfl⟩
      have hpl := posP_le S (p, r)
      rw [hfo.out, hps.out] at sb
      rw [hps.out] at hpl
      have R1 := Lib.hid R1
      have hasc := Lib.hid hasc
      clear hO h
      go_wp2_with fail
      refine sb.mono ?_
      rintro e w1 ⟨rfl, B⟩
      have D1 := Lib.hid ((hnx.out.alloc hnx.out.size (.cells #[.int .i64 p, .int .i64 r] 24)).trans (B.mono (by simp; have := hnx.out.size; omega)))
      have R2 := Lib.hid (R1.out.up B)
      have A1 := (B.block wr.heap.size (by simp)).trans (heap_alloc_new wr _)
      obtain ⟨a0, a1, _, _⟩ := blk2 A1
      have A1 := Lib.hid A1
      have z1 : wr.heap.size + 1 ≤ w1.heap.size := by simpa using B.size
      clear B R1 sb q0 q1
      go_wp2_with fail
      refine (sv _).mono ?_
      rintro e w2 ⟨rfl, B⟩
      have D2 := Lib.hid (bstep D1.out B)
      have R3 := Lib.hid (R2.out.up B)
      have A2 := (B.block wr.heap.size (by omega)).trans A1.out
      have z2 : wr.heap.size + 1 ≤ w2.heap.size := Nat.le_trans z1 B.size
      clear B R2 A1 a0 a1 D1 sv
      obtain ⟨a0, a1, _, _⟩ := blk2 A2
      have A2 := Lib.hid A2
      have hokk : okP (L.getD k nop) = q := by rw [hc.out]; exact hq.out
      have hbad : q = false → Hid (sortR L = ([], false)) := fun e => Lib.hid (sortR_bad (by rw [hn.out]; exact hlt) (by rw [hokk, e]))
      have hokk := Lib.hid hokk
      have N1 := Lib.hid (ownP_nil w2 24)
      cases q
      · have hR := hbad rfl
        clear hbad R3
        go_wp2_with fail
        go_ret2
        refine ⟨w2.heap.size, .slice (some ⟨w2.heap.size, 0, none⟩) 0 0, D2.out.size, ?_, ?_, D2.out.alloc D2.out.size _⟩
        · rw [hR.out]; rfl
        · rw [hR.out]; exact N1.out
      · clear hbad
        cases fo
        · by_cases e12 : S.length = 12
          · have hR := Lib.hid (hfull.out e12 (not_has hfo.out))
            clear R3
            go_wp2_with fail
            go_ret2
            refine ⟨w2.heap.size, .slice (some ⟨w2.heap.size, 0, none⟩) 0 0, D2.out.size, ?_, ?_, D2.out.alloc D2.out.size _⟩
            · rw [hR.out]; rfl
            · rw [hR.out]; exact N1.out
          · have hput := putP_ins' hasc.out hfo.out
            rw [hps.out] at hput
            rw [hput] at hnext
            clear hput hfull N1
            go_wp2_with fail
            refine (ins_any w.heap.size w2.heap.size g cap ps S p r _ (R3.out.up ((Below.refl _ _).alloc (Nat.le_refl _) _)) (by have := D2.out.size; simp; omega) (by omega) hpl (by omega) (heap_alloc_new w2 _)).mono ?_
            rintro e w3 ⟨v', rfl, R4, B⟩
            have D3 := Lib.hid ((D2.out.alloc D2.out.size (.cells #[.int .i64 p, .int .i64 r] 24)).trans B)
            have R4 := Lib.hid R4
            have hlen := ins_len (O := S) (a := (p, r)) hpl
            have hok' := Lib.hid (up_to hok.out hokk.out)
            clear B R3 A2 a0 a1 D2 hok
            go_wp2_with fail
            go_roundw
            case rel => exact ⟨k + 1, by omega, by go_num, Lib.hid ⟨by rw [hnext.out]; exact R4.out, by rw [hnext.out, hlen]; omega, hok'.out⟩, D3.out⟩
            case measure => simp [intOf]; omega
        · rw [putP_in' hfo.out] at hnext
          have hok' := Lib.hid (up_to hok.out hokk.out)
          clear hfull N1 hok
          go_wp2_with fail
          go_roundw
          case rel => exact ⟨k + 1, by omega, by go_num, Lib.hid ⟨by rw [hnext.out]; exact R3.out, by rw [hnext.out]; exact hSl, hok'.out⟩, D2.out⟩
          case measure => simp [intOf]; omega
    · obtain rfl : k = n := by omega
      have ht : L.take k = L := List.take_of_length_le (by rw [hn.out]; exact Nat.le_refl _)
      have hall := all_ok (fun j hj => hO.out.2.2 j (by rw [← hn.out]; exact hj))
      have hle := hO.out.2.1
      have hO := hO.out.1
      rw [ht] at hO hv hlc hle
      obtain ⟨o, ho, hown⟩ := hO.own (by omega)
      have hR := Lib.hid (sortR_t hall hle)
      have hown := Lib.hid hown
      have hnx := Lib.hid hnx
      clear h ht hall hO
      generalize sortP L = S at hv hlc hle hown hR
      subst hv
      go_wp2_with fail
      go_ret2
      refine ⟨o, .slice (some ⟨g, 0, none⟩) S.length cap, ho, ?_, ?_, hnx.out⟩
      · rw [hR.out]; rfl
      · rw [hR.out]; exact hown.out

theorem isort_nil (a : Option Addr) (ca : Nat) (w : World) :
    Calls Try.prog 16 #[.slice a 0 ca] w (SortPost [] w) := by
  have R0 := Lib.hid (ownP_nil w 24)
  go_enter Try.func16, Try.ntmps16
  go_wp2_with fail
  refine wp_loop_rounds 1 ?_
  rw [rounds_succ]
  go_wp2_with fail
  go_ret2
  exact ⟨w.heap.size, _, Nat.le_refl _, rfl, R0.out, (Below.refl _ _).alloc (Nat.le_refl _) _⟩

theorem isort_any (u : Value) (L : List Pid) (w : World) (h : Ids w u L) (hm : L.length ≤ 1800000) :
    Calls Try.prog 16 #[u] w (SortPost L w) := by
  obtain ⟨a, cap, rfl, h1, h2, h3⟩ := h
  rcases h3 with h3 | ⟨b, off, rfl, h4, h5⟩
  · obtain rfl : L = [] := List.length_eq_zero_iff.1 h3
    exact isort_nil a cap w
  · exact isort_at b off cap L w h4 hm h5
end Go.Proofs.Ytoepimmkebbgcaa
