/- What the frames of laws over slices of ids use. -/
import Derived.Test.YtbklkhndjckckaaFrame
import Derived.Test.YtbklkhndjckckaaIds
import Derived.Deep.Slices
namespace Go.Proofs.Ytbklkhndjckckaa
open Go.ChangeShapes Go.WideShapes Go.ChangeAt Go.RowKit Go.Joins Go.Deep
set_option linter.unusedVariables false

/-- What a law is told of a slice of ids that came in. -/
def IdsIn (w : World) (a : Option Addr) (len cap : Nat) : Prop := len ≤ maxLen ∧ (1048576 < len ∨ ∃ C, Ids w (.slice a len cap) C)

theorem ids_of_fn {w : World} {x : Addr} {len cap : Nat} (f : Nat → Pid) (hl : len ≤ cap) (hm : cap ≤ maxLen)
    (h : ∀ i, i < len → w.cell? (x.add (i * 2)) = some (.int .i64 (f i).1) ∧ w.cell? (x.add (i * 2 + 1)) = some (.int .i64 (f i).2)) :
    IdsIn w (some x) len cap := by
  refine ⟨Nat.le_trans hl hm, ?_⟩
  by_cases hb : 1048576 < len
  · exact .inl hb
  · have hlen : ((List.range len).map f).length = len := by simp
    refine .inr ⟨(List.range len).map f, some x, cap, by rw [hlen], by omega, by omega, ?_⟩
    rw [hlen]
    by_cases h0 : len = 0
    · exact .inl h0
    · obtain ⟨b, off, spot⟩ := x
      have hc := (h 0 (by omega)).1
      have hspot : spot = none := by simpa [Addr.add] using World.cell?_spot hc
      subst hspot
      have ea : ∀ j, (⟨b, off, none⟩ : Addr).add j = ⟨b, off + j, none⟩ := fun j => by unfold Addr.add; split <;> simp_all
      refine .inr ⟨b, off, rfl, ?_, fun i hi => ?_⟩
      · have := World.block_lt_of_cell? w _ hc
        simpa [Addr.add] using this
      · have h1 := h i hi
        rw [ea, ea] at h1
        have hg : ((List.range len).map f).getD i nop = f i := by
          rw [List.getD_eq_getElem?_getD, List.getElem?_map, List.getElem?_range hi]; rfl
        rw [hg, Nat.add_assoc]
        exact h1

theorem int_of_trodP {H : Type} {enc : TypeId × Value → H} {w : World} {base : Nat} {spare : Nat → Bool} {held : Bool} {n : Nat} {v : Value} {y : DataW H × List MemPlace} (h : DataW.trod enc Try.prog w base spare held n 3 [v] = some y) : ∃ z, v = .int .i64 z := by obtain ⟨z, e, _, _⟩ := DataW.trod_int Try.underlying3 h; simp at e; exact ⟨z, e⟩

set_option maxRecDepth 100000 in
theorem ids_of_trod {H : Type} {enc : TypeId × Value → H} {w : World} {fuel : Nat} {a : Option Addr} {len cap : Nat} {x : DataW H × List MemPlace} (h : DataW.trod enc Try.prog w 0 (fun _ => true) true fuel 76 [.slice a len cap] = some x) : IdsIn w a len cap := by
  rcases open_slice Try.underlying76 h with ⟨hcs, _⟩ | ⟨a', len', cap', m, n, D, Pl, hcs, _, hl, hm, hmm, _, hx⟩
  · simp at hcs
    obtain ⟨rfl, rfl, rfl⟩ := hcs
    exact ⟨Nat.zero_le _, .inr ⟨[], none, 0, rfl, Nat.le_refl _, Nat.zero_le _, .inl rfl⟩⟩
  · simp at hcs
    obtain ⟨rfl, rfl, rfl⟩ := hcs
    simp at hmm
    subst hmm
    have each : ∀ i, i < len → ∃ c : Pid, w.cell? (a'.add (i * 2)) = some (.int .i64 c.1) ∧ w.cell? (a'.add (i * 2 + 1)) = some (.int .i64 c.2) := by
      intro i hi
      obtain ⟨cs', h1, h2⟩ := hx i (by omega)
      rw [cells_lawsId] at h1
      obtain ⟨_, hlen, hcell⟩ := World.cells?_some h1
      obtain ⟨xs, k, hk, hxy, _, hxl, hf⟩ := DataW.trod_struct Try.underlying44 h2
      match xs, hxl, cs', hlen with
      | [y0, y1], _, [v0, v1], _ =>
        have g0 := hf 0 _ rfl
        have g1 := hf 1 _ rfl
        have ci : Try.prog.cellsOf 3 = 1 := by kernel_rfl
        simp [ci] at g0 g1
        obtain ⟨z0, rfl⟩ := int_of_trodP g0
        obtain ⟨z1, rfl⟩ := int_of_trodP g1
        have e0 := hcell 0 (by omega)
        have e1 := hcell 1 (by omega)
        rw [add_add] at e0 e1
        exact ⟨(z0, z1), by simpa using e0, by simpa using e1⟩
    haveI : Inhabited Pid := ⟨nop⟩
    obtain ⟨f, hf⟩ := choose_lt (α := Pid) each
    exact ids_of_fn f hl hm hf
end Go.Proofs.Ytbklkhndjckckaa
