/- Texts laid together. -/
import Derived.Test.YtdikcenhakfheaaC02
import Derived.Test.YtdikcenhakfheaaC01
import Derived.Deep.DeepCutAuto
import Derived.OwnWalk
import Derived.Test.YtdikcenhakfheaaRows
import Derived.ProofKit
import Derived.OpenShut
import Derived.ChangeOld
import Derived.Lib.SmallJoins
/- A reader is opened; codes that came in. -/
namespace Go.Proofs.Ytdikcenhakfheaa
open Go.RowKit
set_option linter.unusedVariables false

/-- A code that came in: its bytes lie in old memory. -/
def CodeIn (w : World) (a : Option Addr) (len cap : Nat) : Prop := len ≤ cap ∧ Bytes w w.heap.size a len

/-- What l6Open leaves. -/
def OpenPost (w : World) (e : Ending) (w' : World) : Prop :=
  ∃ r : Nat, e = .returned (.pointer (some ⟨r, 0, none⟩)) ∧ w.heap.size ≤ r ∧ Rd w' r 0 ∧ Below w.heap.size w w'

theorem rd_new (w : World) (a : Option Addr) (len cap : Nat) (hl : len ≤ 2000) (hb : Bytes w w.heap.size a len) (t : TypeId) : Rd (w.alloc (.cells #[.slice a len cap, .int .i64 0] t)) w.heap.size 0 :=
  ⟨a, len, cap, 0, by go_simp, by go_simp, by go_simp, Int.le_refl _, by omega, hl, by simp, hb.kept (fun k hk => Below.heap_alloc _ _ _ hk)⟩

theorem open_any (a : Option Addr) (len cap : Nat) (w : World) (hc : CodeIn w a len cap) (hcap : cap ≤ maxLen) :
    Calls Try.prog 14 #[.slice a len cap] w (OpenPost w) := by
  unfold maxLen at hcap
  obtain ⟨hlc, hb⟩ := hc
  by_cases hl : 2000 < len
  · have hb2 : Bytes w w.heap.size a 2000 := by
      rcases hb with rfl | ⟨b, off, e, hb, hc⟩
      · omega
      · exact .inr ⟨b, off, e, hb, fun i hi => hc i (by omega)⟩
    obtain ⟨b, off, rfl, _⟩ : ∃ b off, a = some ⟨b, off, none⟩ ∧ True := by
      rcases hb with rfl | ⟨b, off, e, hb, hc⟩
      · omega
      · exact ⟨b, off, e, trivial⟩
    have hn := Lib.hid (rd_new w (some ⟨b, off, none⟩) 2000 cap (Nat.le_refl _) hb2 35)
    clear hb hb2
    go_enter Try.func14, Try.ntmps14
    go_wp2_with fail
    go_ret
    exact ⟨_, rfl, Nat.le_refl _, hn.out, (Below.refl _ _).alloc (Nat.le_refl _) _⟩
  · have hn := Lib.hid (rd_new w a len cap (by omega) hb 35)
    clear hb
    go_enter Try.func14, Try.ntmps14
    go_wp2_with fail
    go_ret
    exact ⟨_, rfl, Nat.le_refl _, hn.out, (Below.refl _ _).alloc (Nat.le_refl _) _⟩

theorem Bytes.up {w w' : World} {r r' : Nat} {a : Option Addr} {len : Nat} (h : Bytes w r a len) (hr : r ≤ r') (hb : Below r w w') : Bytes w' r' a len := by
  rcases h.kept (w' := w') (fun k hk => hb.block k hk) with h | ⟨b, off, e, hb, hc⟩
  · exact .inl h
  · exact .inr ⟨b, off, e, by omega, hc⟩

/-- A code is a code still where elder memory is as it was. -/
theorem CodeIn.up {w w' : World} {a : Option Addr} {len cap : Nat} (h : CodeIn w a len cap) (hb : Below w.heap.size w w') : CodeIn w' a len cap :=
  ⟨h.1, h.2.up hb.size hb⟩
theorem row_keep {w w' : World} {r base n size : Nat} {t : TypeId} {v : Value} {xs : List Value} (h : w.ownsRow base t size v n xs) (hk : Keep w.heap.size r w w') (hr : r < base) : w'.ownsRow base t size v n xs :=
  h.kept (row := some r) ⟨hk.os, hk.tape, hk.output, hk.size, fun k h1 h2 => hk.block k h1 (fun e => h2 (by rw [e]))⟩ (by
    cases hv : v.ownBlock with
    | none => exact .inl rfl
    | some k =>
      have := (h.lt k hv).1
      exact .inr (by intro e; injection e with e; omega))
end Go.Proofs.Ytdikcenhakfheaa

/- What the frames of all proofs use: the program's own knob, the layout, a code that came in. -/
namespace Go.Proofs.Ytdikcenhakfheaa
open Go.ChangeShapes Go.WideShapes Go.ChangeAt Go.RowKit Go.Joins
set_option linter.unusedVariables false

theorem own : ownKnob Try.prog.godebug = none := by kernel_rfl
theorem laidOut : laidOutB Try.prog = true := by kernel_rfl

theorem code_of_row {w : World} {x : Addr} {len cap : Nat} {zs : List Int} (hl : len ≤ cap) (hz : zs.length = cap) (hcell : ∀ i, i < zs.length → w.cell? (x.add i) = some (.int .u8 (zs.getD i 0))) (hwz : ∀ n ∈ zs, (Lit.int .u8 n).wf = true) :
    CodeIn w (some x) len cap := by
  refine ⟨hl, ?_⟩
  by_cases h0 : len = 0
  · exact .inl h0
  · obtain ⟨b, off, spot⟩ := x
    have hc := hcell 0 (by omega)
    have hspot : spot = none := by simpa [Addr.add] using World.cell?_spot hc
    subst hspot
    refine .inr ⟨b, off, rfl, ?_, fun i hi => ?_⟩
    · have := World.block_lt_of_cell? w _ hc
      simpa [Addr.add] using this
    · have h1 := hcell i (by omega)
      have h2 : (Lit.int .u8 (zs.getD i 0)).wf = true := by
        rw [List.getD_eq_getElem?_getD, List.getElem?_eq_getElem (by omega)]
        exact hwz _ (List.getElem_mem _)
      have h3 : 0 ≤ zs.getD i 0 ∧ zs.getD i 0 ≤ 255 := by simpa [Lit.wf, IntKind.min, IntKind.max, IntKind.signed, IntKind.bits] using h2
      exact ⟨zs.getD i 0, h3.1, h3.2, by
        have e : (⟨b, off, none⟩ : Addr).add i = ⟨b, off + i, none⟩ := by unfold Addr.add; split <;> simp_all
        rw [e] at h1; exact h1⟩
end Go.Proofs.Ytdikcenhakfheaa
