/- What the frames of laws over slices of nodes use. -/
import Derived.Test.YtbklkhndjckckaaFrameP
import Derived.Test.YtbklkhndjckckaaNdz
namespace Go.Proofs.Ytbklkhndjckckaa
open Go.ChangeShapes Go.WideShapes Go.ChangeAt Go.RowKit Go.Joins Go.Deep
set_option linter.unusedVariables false

theorem lns_of_fn {w : World} {x : Addr} {len cap : Nat} (hl : len ≤ cap) (hm : cap ≤ maxLen)
    (h : ∀ i, i < len → ∃ (p r s : Int) (ua : Option Addr) (un uc : Nat), w.cell? (x.add (i * 4)) = some (.int .i64 p) ∧ w.cell? (x.add (i * 4 + 1)) = some (.int .i64 r) ∧ w.cell? (x.add (i * 4 + 2)) = some (.int .i64 s) ∧ w.cell? (x.add (i * 4 + 3)) = some (.slice ua un uc) ∧ un ≤ maxLen ∧ (1048576 < un ∨ ∃ C, Ids w (.slice ua un uc) C)) :
    LNs w (some x) len cap := by
  refine ⟨Nat.le_trans hl hm, hl, ?_⟩
  by_cases h0 : len = 0
  · exact .inl h0
  · obtain ⟨b, off, spot⟩ := x
    obtain ⟨_, _, _, _, _, _, hc, _⟩ := h 0 (by omega)
    have hspot : spot = none := by simpa [Addr.add] using World.cell?_spot hc
    subst hspot
    have ea : ∀ j, (⟨b, off, none⟩ : Addr).add j = ⟨b, off + j, none⟩ := fun j => by unfold Addr.add; split <;> simp_all
    refine .inr ⟨b, off, rfl, ?_, fun i hi => ?_⟩
    · have := World.block_lt_of_cell? w _ hc
      simpa [Addr.add] using this
    · have h1 := h i hi
      rw [ea, ea, ea, ea] at h1
      exact h1

set_option maxRecDepth 100000 in
theorem id_of_trod {H : Type} {enc : TypeId × Value → H} {w : World} {base : Nat} {spare : Nat → Bool} {held : Bool} {n : Nat} {v0 v1 : Value} {y : DataW H × List MemPlace} (h : DataW.trod enc Try.prog w base spare held n 44 [v0, v1] = some y) : ∃ p r, v0 = .int .i64 p ∧ v1 = .int .i64 r := by
  obtain ⟨xs, k, hk, hxy, _, hxl, hf⟩ := DataW.trod_struct Try.underlying44 h
  match xs, hxl with
  | [y0, y1], _ =>
    have g0 := hf 0 _ rfl
    have g1 := hf 1 _ rfl
    have ci : Try.prog.cellsOf 3 = 1 := by kernel_rfl
    simp [ci] at g0 g1
    obtain ⟨z0, rfl⟩ := int_of_trodP g0
    obtain ⟨z1, rfl⟩ := int_of_trodP g1
    exact ⟨z0, z1, rfl, rfl⟩

theorem idsv_of_trod {H : Type} {enc : TypeId × Value → H} {w : World} {fuel : Nat} {v : Value} {x : DataW H × List MemPlace} (h : DataW.trod enc Try.prog w 0 (fun _ => true) true fuel 76 [v] = some x) : ∃ ua un uc, v = .slice ua un uc ∧ IdsIn w ua un uc := by
  rcases open_slice Try.underlying76 h with ⟨hcs, _⟩ | ⟨a', len', cap', m, n, D, Pl, hcs, _⟩
  · simp at hcs
    subst hcs
    exact ⟨_, _, _, rfl, ids_of_trod h⟩
  · simp at hcs
    subst hcs
    exact ⟨_, _, _, rfl, ids_of_trod h⟩

set_option maxRecDepth 100000 in
theorem lns_of_trod {H : Type} {enc : TypeId × Value → H} {w : World} {fuel : Nat} {a : Option Addr} {len cap : Nat} {x : DataW H × List MemPlace} (h : DataW.trod enc Try.prog w 0 (fun _ => true) true fuel 39 [.slice a len cap] = some x) : LNs w a len cap := by
  rcases open_slice Try.underlying39 h with ⟨hcs, _⟩ | ⟨a', len', cap', m, n, D, Pl, hcs, _, hl, hm, hmm, _, hx⟩
  · simp at hcs
    obtain ⟨rfl, rfl, rfl⟩ := hcs
    exact ⟨Nat.zero_le _, Nat.le_refl _, .inl rfl⟩
  · simp at hcs
    obtain ⟨rfl, rfl, rfl⟩ := hcs
    simp at hmm
    subst hmm
    refine lns_of_fn hl hm fun i hi => ?_
    obtain ⟨cs', h1, h2⟩ := hx i (by omega)
    have cn : Try.prog.cellsOf 78 = 4 := by kernel_rfl
    rw [cn] at h1
    obtain ⟨_, hlen, hcell⟩ := World.cells?_some h1
    obtain ⟨xs, k, hk, hxy, _, hxl, hf⟩ := DataW.trod_struct Try.underlying78 h2
    match xs, hxl, cs', hlen with
    | [y0, y1, y2], _, [v0, v1, v2, v3], _ =>
      have g0 := hf 0 _ rfl
      have g1 := hf 1 _ rfl
      have g2 := hf 2 _ rfl
      have ci : Try.prog.cellsOf 3 = 1 := by kernel_rfl
      have cs : Try.prog.cellsOf 76 = 1 := by kernel_rfl
      simp [ci, cs, cells_lawsId] at g0 g1 g2
      obtain ⟨p, r, rfl, rfl⟩ := id_of_trod g0
      obtain ⟨s, rfl⟩ := int_of_trodP g1
      obtain ⟨ua, un, uc, rfl, hu1, hu2⟩ := idsv_of_trod g2
      have e0 := hcell 0 (by omega)
      have e1 := hcell 1 (by omega)
      have e2 := hcell 2 (by omega)
      have e3 := hcell 3 (by omega)
      rw [add_add] at e0 e1 e2 e3
      exact ⟨p, r, s, ua, un, uc, by simpa using e0, by simpa using e1, by simpa using e2, by simpa using e3, hu1, hu2⟩
end Go.Proofs.Ytbklkhndjckckaa
