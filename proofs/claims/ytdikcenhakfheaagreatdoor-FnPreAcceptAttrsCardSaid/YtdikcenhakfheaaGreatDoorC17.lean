/- Texts laid together. -/
import Derived.Test.YtdikcenhakfheaaGreatDoorC12
import Derived.Test.YtdikcenhakfheaaGreatDoorC16
import Derived.Test.YtdikcenhakfheaaGreatDoorC01
/- slices.Collect and slices.SortedFunc at the keys of a book. -/
namespace Go.Proofs.YtdikcenhakfheaaGreatDoor
open Go.RowKit Go.Shelf
set_option linter.unusedVariables false

/-- What collecting a book's keys leaves. -/
def CollP (Ks : List Pid) (w : World) (e : Ending) (w' : World) : Prop :=
  ∃ v, ∃ L : List Pid, e = .returned v ∧ L.Nodup ∧ (∀ a, a ∈ L ↔ a ∈ Ks) ∧ w'.ownsRow w.heap.size 25 2 v L.length (flatP L) ∧ Below w.heap.size w w'

theorem iappseq_any (Bm bb nn : Nat) (M : Pid → Option Value) (Ks : List Pid) (hKs : KeysOf M Ks) (hl : Ks.length ≤ 2000000) (w : World) (hBm : Bm < w.heap.size) (hm : w.cell? ⟨Bm, 0, none⟩ = some (.map (some bb))) (hown : Book w bb nn M) :
    Calls Tryz.prog 107 #[.slice none 0 0, .func (.func 105) #[] #[.pointer (some ⟨Bm, 0, none⟩)]] w (CollP Ks w) :=
  (callsIn_wide.1 (iappseq_in Fence.wide 3 trivial trivial rfl (Nat.le_refl _) Bm bb nn M Ks hKs hl w hBm hm hown)).mono fun e w' ⟨v, L, h1, h2, h3, h4, h5⟩ => ⟨v, kvs L, h1, h2.1, h2.2, h3, h5⟩

set_option maxRecDepth 100000 in
set_option maxHeartbeats 2000000 in
theorem icoll_any (Bm bb nn : Nat) (M : Pid → Option Value) (Ks : List Pid) (hKs : KeysOf M Ks) (hl : Ks.length ≤ 2000000) (w : World) (hBm : Bm < w.heap.size) (hm : w.cell? ⟨Bm, 0, none⟩ = some (.map (some bb))) (hown : Book w bb nn M) :
    Calls Tryz.prog 103 #[.func (.func 105) #[] #[.pointer (some ⟨Bm, 0, none⟩)]] w (CollP Ks w) := by
  have ap := iappseq_any Bm bb nn M Ks hKs hl w hBm hm hown
  clear hown hKs hm
  go_enter Tryz.func103, Tryz.ntmps103
  go_wp2_with fail
  refine ap.mono ?_
  rintro e w1 ⟨v, L, rfl, h1, h2, h3, B⟩
  have h1 := Lib.hid h1
  have h2 := Lib.hid h2
  have h3 := Lib.hid h3
  have B := Lib.hid B
  clear ap
  go_wp2_with fail
  go_ret
  exact ⟨v, L, rfl, h1.out, h2.out, h3.out, B.out⟩

theorem srI_asc {Q0 Q : List Pid} (h : SrI Q0 Q Q.length) : Asc Q := by
  unfold Asc
  rw [List.pairwise_iff_getElem]
  intro i j hi hj hij
  have := h.ord i j hij hj
  rw [List.getD_eq_getElem?_getD, List.getD_eq_getElem?_getD, List.getElem?_eq_getElem hi, List.getElem?_eq_getElem hj] at this
  exact this

set_option maxRecDepth 100000 in
set_option maxHeartbeats 2000000 in
theorem isorted_any (Bm bb nn : Nat) (M : Pid → Option Value) (Ks : List Pid) (hKs : KeysOf M Ks) (ha : Asc Ks) (h0 : 1 ≤ Ks.length) (hl : Ks.length ≤ 12) (w : World) (hBm : Bm < w.heap.size) (hm : w.cell? ⟨Bm, 0, none⟩ = some (.map (some bb))) (hown : Book w bb nn M) :
    Calls Tryz.prog 98 #[.func (.func 105) #[] #[.pointer (some ⟨Bm, 0, none⟩)], .func (.func 72) #[] #[]] w fun e w' => ∃ v b, e = .returned v ∧ w.heap.size ≤ b ∧ OwnP w' b v Ks ∧ Below w.heap.size w w' := by
  have ap := icoll_any Bm bb nn M Ks hKs (by omega) w hBm hm hown
  have hnd := Lib.hid hKs.1
  have ha := Lib.hid ha
  clear hown hKs hm
  go_enter Tryz.func98, Tryz.ntmps98
  go_wp2_with fail
  refine ap.mono ?_
  rintro e w1 ⟨v, L, rfl, h1, h2, h3, B⟩
  have hlen := Lib.hid (show L.length = Ks.length from ((List.perm_ext_iff_of_nodup h1 hnd.out).2 h2).length_eq)
  obtain ⟨n, hn⟩ : ∃ n, Hid (Ks.length = n) := ⟨_, Lib.hid rfl⟩
  rw [hn.out] at h0 hl hlen
  rw [hlen.out] at h3
  obtain ⟨m, hm1⟩ : ∃ m, n = m + 1 := ⟨n - 1, by omega⟩
  subst hm1
  obtain ⟨g, cap, rfl⟩ := ownsRow_succ h3
  obtain ⟨b, hb, O⟩ := OwnP.of_row h3 hlen.out.symm (by rw [hlen.out]; omega) (by simp)
  obtain ⟨cap', e', _⟩ := O.shape
  obtain rfl : g = b := by injection e' with e1; injection e1 with e1; injection e1
  have so := isort2_at g cap (m + 1) L w1 hlen.out h1 h0 hl O
  unfold SortI at so
  replace h2 := Lib.hid h2
  have hB := Lib.hid B
  clear e' h3 O ap h1 B
  go_wp2_with fail
  refine so.mono ?_
  rintro e w2 ⟨rfl, Q, hS, OQ, XX⟩
  have hq : Q.length = m + 1 := hS.perm.length_eq.trans hlen.out
  have hQ : Q = Ks := asc_ext (srI_asc (by rw [hq]; exact hS)) ha.out (fun x => (hS.perm.mem_iff).trans (h2.out x))
  rw [hQ] at OQ
  have OQ := Lib.hid OQ
  have D := Lib.hid (hB.out.trans (XX.to hB.out.size (fun c e => by omega)))
  clear hS XX so hq hQ
  go_wp2_with fail
  go_ret
  exact ⟨_, g, rfl, hb, OQ.out, D.out⟩
end Go.Proofs.YtdikcenhakfheaaGreatDoor
