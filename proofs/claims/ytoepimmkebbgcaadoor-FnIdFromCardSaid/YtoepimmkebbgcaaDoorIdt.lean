/- Texts of ids: of the program and of the model. -/
import Derived.Test.YtoepimmkebbgcaaDoorSl
import Derived.Test.YtoepimmkebbgcaaDoorIdd
import Derived.Test.YtoepimmkebbgcaaDoorNumi
import Derived.Lib.CutLaws
namespace Go.Proofs.YtoepimmkebbgcaaDoor
open Go.RowKit
set_option linter.unusedVariables false
set_option maxRecDepth 100000

def dot : ByteArray := ⟨#[46]⟩
/-- The text of an id of numbers from 0 to 99. -/
def txI (r n : Nat) : ByteArray := decB r ++ dot ++ decB n
/-- What IdText answers. -/
def idTx (r n : Int) : ByteArray := if idB r n = true then txI r.toNat n.toNat else ⟨#[]⟩

theorem idTx_yes {r n : Int} (h : idB r n = true) : idTx r n = txI r.toNat n.toNat := if_pos h
theorem idTx_no {r n : Int} (h : idB r n = false) : idTx r n = ⟨#[]⟩ := by unfold idTx; rw [h]; rfl
theorem txI_ne : ∀ r, r < 5 → ∀ n, n < 51 → 3 ≤ (txI r n).size ∧ (txI r n).size ≤ 4 := by decide +kernel
theorem txI_cut : ∀ r, r < 5 → ∀ n, n < 51 → Lib.cut (txI r n).data.toList [46] = ((decB r).data.toList, (decB n).data.toList, true) := by decide +kernel

set_option maxHeartbeats 1000000 in
theorem itext_any (r n : Nat) (hr : r < 100) (hn : n < 100) (w : World) :
    Calls Tryd.prog 21 #[.agg #[.int .i64 r, .int .i64 n]] w fun e w' => e = .returned (.string (txI r n)) ∧ Below w.heap.size w w' := by
  have s1 := itoa_q r hr
  have s2 := itoa_q n hn
  have hs1 : ¬ 9223372036854775807 < (decB r).size + 1 := by have := decB_size r; omega
  have hs2 : ¬ 9223372036854775807 < (decB r).size + 1 + (decB n).size := by have := decB_size r; have := decB_size n; omega
  unfold txI dot
  generalize decB r = x at s1 hs1 hs2 ⊢
  generalize decB n = y at s2 hs2 ⊢
  go_enter Tryd.func21, Tryd.ntmps21
  go_upto_region 1 with fail
  go_quiet ((first | (go_at_call 28; with_reducible exact Calls.quiet_of_same (s1 _)) | (go_at_call 28; with_reducible exact Calls.quiet_of_same (s2 _))))
  go_wp2_with fail
  go_ret
  exact ⟨rfl, bdrewN ((Below.refl w.heap.size w).alloc (Nat.le_refl _) _) _⟩

theorem keepT {w wc w' : World} {r n : Int} (hb : Below wc.heap.size wc w') (h : (wc.cell? ⟨w.heap.size, 0, none⟩ = some (.int .i64 r) ∧ wc.cell? ⟨w.heap.size, 1, none⟩ = some (.int .i64 n)) ∧ Below w.heap.size w wc) :
    (w'.cell? ⟨w.heap.size, 0, none⟩ = some (.int .i64 r) ∧ w'.cell? ⟨w.heap.size, 1, none⟩ = some (.int .i64 n)) ∧ Below w.heap.size w w' :=
  ⟨⟨cell_later hb h.1.1, cell_later hb h.1.2⟩, bstep h.2 hb⟩
theorem startT {w w' : World} {r n : Int} {t : TypeId} (h : w' = (w.alloc (.cells #[.int .i64 r, .int .i64 n] t)).drew) : (w'.cell? ⟨w.heap.size, 0, none⟩ = some (.int .i64 r) ∧ w'.cell? ⟨w.heap.size, 1, none⟩ = some (.int .i64 n)) ∧ Below w.heap.size w w' := by
  subst h
  refine ⟨⟨?_, ?_⟩, ((Below.refl _ _).alloc (Nat.le_refl _) _).drew⟩ <;> go_simp

set_option maxHeartbeats 1000000 in
theorem stext3_any (r n : Nat) (hr : r < 100) (hn : n < 100) (w : World) :
    Calls Tryd.prog 23 #[.agg #[.int .i64 r, .int .i64 n]] w fun e w' => e = .returned (.string (txI r n)) ∧ Below w.heap.size w w' := by
  have s1 := dec_any r hr
  have s2 := dec_any n hn
  have hs1 : ¬ 9223372036854775807 < (decB r).size + 1 := by have := decB_size r; omega
  have hs2 : ¬ 9223372036854775807 < (decB r).size + 1 + (decB n).size := by have := decB_size r; have := decB_size n; omega
  unfold txI dot
  generalize decB r = x at s1 hs1 hs2 ⊢
  generalize decB n = y at s2 hs2 ⊢
  go_enter Tryd.func23, Tryd.ntmps23
  go_upto_region 1 with fail
  go_region_held3 (fun w' => (w'.cell? ⟨w.heap.size, 0, none⟩ = some (.int .i64 r) ∧ w'.cell? ⟨w.heap.size, 1, none⟩ = some (.int .i64 n)) ∧ Below w.heap.size w w') (first | exact startT rfl | exact keepT (by assumption) (by assumption))
    (first | (go_at_call 30; (with_reducible refine (s1 _).mono ?_); rintro e w' ⟨rfl, hb⟩) | (go_at_call 30; (with_reducible refine (s2 _).mono ?_); rintro e w' ⟨rfl, hb⟩))
  go_wp2_with fail
  go_ret
  exact ⟨rfl, (by assumption : _ ∧ Below w.heap.size w _).2⟩

theorem idB_nat {r n : Int} (h : idB r n = true) : ∃ p q : Nat, r = p ∧ n = q ∧ p < 5 ∧ 1 ≤ q ∧ q < 51 := by
  have h : 0 ≤ r ∧ r ≤ 4 ∧ 1 ≤ n ∧ n ≤ 50 := by simpa [idB] using h
  exact ⟨r.toNat, n.toNat, by omega, by omega, by omega, by omega, by omega⟩

/-- IdText of the program. -/
theorem iidt_any (r n : Int) (w : World) :
    Calls Tryd.prog 9 #[.agg #[.int .i64 r, .int .i64 n]] w fun e w' => e = .returned (.string (idTx r n)) ∧ Below w.heap.size w w' := by
  have s1 := ivid_any r n
  have T0 := Lib.hid (One.start w r n)
  by_cases h : idB r n = true
  · rw [idTx_yes h]
    rw [h] at s1
    obtain ⟨p, q, rfl, rfl, hp, hq1, hq⟩ := idB_nat h
    have s2 := itext_any p q (by omega) (by omega)
    simp only [Int.toNat_natCast]
    generalize txI p q = t at s2 ⊢
    clear h
    go_enter Tryd.func9, Tryd.ntmps9
    go_wp2_with fail
    refine (s1 _).mono ?_
    rintro e w1 ⟨rfl, hb⟩
    have T1 := T0.out.up hb
    obtain ⟨a0, a1, _, _⟩ := blk2 T1.a
    have z1 := T1.z
    have T1 := Lib.hid T1
    clear hb T0
    go_wp2_with fail
    refine (s2 _).mono ?_
    rintro e w2 ⟨rfl, hb⟩
    have T2 := Lib.hid (T1.out.up hb)
    clear hb T1
    go_wp2_with fail
    go_ret
    exact ⟨rfl, T2.out.d⟩
  · have h : idB r n = false := by simpa using h
    rw [idTx_no h]
    rw [h] at s1
    clear h
    go_enter Tryd.func9, Tryd.ntmps9
    go_wp2_with fail
    refine (s1 _).mono ?_
    rintro e w1 ⟨rfl, hb⟩
    have T1 := Lib.hid (T0.out.up hb)
    clear hb T0
    go_wp2_with fail
    go_ret
    exact ⟨rfl, T1.out.d⟩

/-- IdText of the model. -/
theorem sidt_any (r n : Int) (w : World) :
    Calls Tryd.prog 10 #[.agg #[.int .i64 r, .int .i64 n]] w fun e w' => e = .returned (.string (idTx r n)) ∧ Below w.heap.size w w' := by
  have s1 := svid_any r n
  have T0 := Lib.hid (One.start w r n)
  by_cases h : idB r n = true
  · rw [idTx_yes h]
    rw [h] at s1
    obtain ⟨p, q, rfl, rfl, hp, hq1, hq⟩ := idB_nat h
    have s2 := stext3_any p q (by omega) (by omega)
    simp only [Int.toNat_natCast]
    generalize txI p q = t at s2 ⊢
    clear h
    go_enter Tryd.func10, Tryd.ntmps10
    go_wp2_with fail
    refine (s1 _).mono ?_
    rintro e w1 ⟨rfl, hb⟩
    have T1 := T0.out.up hb
    obtain ⟨a0, a1, _, _⟩ := blk2 T1.a
    have z1 := T1.z
    have T1 := Lib.hid T1
    clear hb T0
    go_wp2_with fail
    refine (s2 _).mono ?_
    rintro e w2 ⟨rfl, hb⟩
    have T2 := Lib.hid (T1.out.up hb)
    clear hb T1
    go_wp2_with fail
    go_ret
    exact ⟨rfl, T2.out.d⟩
  · have h : idB r n = false := by simpa using h
    rw [idTx_no h]
    rw [h] at s1
    clear h
    go_enter Tryd.func10, Tryd.ntmps10
    go_wp2_with fail
    refine (s1 _).mono ?_
    rintro e w1 ⟨rfl, hb⟩
    have T1 := Lib.hid (T0.out.up hb)
    clear hb T0
    go_wp2_with fail
    go_ret
    exact ⟨rfl, T1.out.d⟩
end Go.Proofs.YtoepimmkebbgcaaDoor
