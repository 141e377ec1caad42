/- What the frames of laws over slices of numbers use. -/
import Derived.Test.YtmekkjnegmeogaaFrame
import Derived.Test.YtmekkjnegmeogaaInts
namespace Go.Proofs.Ytmekkjnegmeogaa
open Go.ChangeShapes Go.WideShapes Go.ChangeAt Go.RowKit Go.Joins
set_option linter.unusedVariables false

theorem intsIn_nil (w : World) : IntsIn w none 0 0 := .inr ⟨[], none, 0, rfl, Nat.le_refl _, Nat.zero_le _, .inl rfl⟩

theorem ints_of_row {w : World} {x : Addr} {len cap : Nat} {zs : List Int} (hl : len ≤ cap) (hz : zs.length = cap) (hcell : ∀ i, i < zs.length → w.cell? (x.add i) = some (.int .i64 (zs.getD i 0))) :
    IntsIn w (some x) len cap := by
  by_cases hb : 1048576 < len
  · exact .inl hb
  · have hlen : (zs.take len).length = len := by rw [List.length_take]; omega
    refine .inr ⟨zs.take len, some x, cap, by rw [hlen], by omega, by omega, ?_⟩
    by_cases h0 : len = 0
    · exact .inl (by omega)
    · obtain ⟨b, off, spot⟩ := x
      have hc := hcell 0 (by omega)
      have hspot : spot = none := by simpa [Addr.add] using World.cell?_spot hc
      subst hspot
      refine .inr ⟨b, off, rfl, ?_, fun i hi => ?_⟩
      · have := World.block_lt_of_cell? w _ hc
        simpa [Addr.add] using this
      · have h1 := hcell i (by omega)
        have e : (⟨b, off, none⟩ : Addr).add i = ⟨b, off + i, none⟩ := by unfold Addr.add; split <;> simp_all
        rw [e, List.getD_eq_getElem?_getD, List.getElem?_eq_getElem (by omega)] at h1
        rw [List.getElem_take]
        exact h1
end Go.Proofs.Ytmekkjnegmeogaa
