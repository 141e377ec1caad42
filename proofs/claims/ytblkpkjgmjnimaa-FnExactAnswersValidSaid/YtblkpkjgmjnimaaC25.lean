/- Texts laid together. -/
import Derived.Test.YtblkpkjgmjnimaaC07
import Derived.Test.YtblkpkjgmjnimaaC01
import Derived.Deep.Slices
import Derived.Lib.SmallJoins
/- What the frames of laws over slices of ids use. -/
namespace Go.Proofs.Ytblkpkjgmjnimaa
open Go.ChangeShapes Go.WideShapes Go.ChangeAt Go.RowKit Go.Joins Go.Deep
set_option linter.unusedVariables false

/-- What a law is told of a slice of ids that came in. -/
def IdsIn (w : World) (a : Option Addr) (len cap : Nat) : Prop := len ≤ maxLen ∧ (1048576 < len ∨ ∃ C, Ids w (.slice a len cap) C)

theorem ids_of_fn {w : World} {x : Addr} {len cap : Nat} (f : Nat → Pid) (hl : len ≤ cap) (hm : cap ≤ maxLen)
    (h : ∀ i, i < len → w.cell? (x.add (i * 2)) = some (.int .i64 (f i).1) ∧ w.cell? (x.add (i * 2 + 1)) = some (.int .i64 (f i).2)) :
    IdsIn w (some x) len cap := by
  refine ⟨Nat.le_trans hl hm, ?_⟩
  by_cases hb : 1048576 < len
  · exact .inl hb
  · have hlen : ((List.range len).map f).length = len := by simp
    refine .inr ⟨(List.range len).map f, some x, cap, by rw [hlen], by omega, by omega, ?_⟩
    rw [hlen]
    by_cases h0 : len = 0
    · exact .inl h0
    · obtain ⟨b, off, spot⟩ := x
      have hc := (h 0 (by omega)).1
      have hspot : spot = none := by simpa [Addr.add] using World.cell?_spot hc
      subst hspot
      have ea : ∀ j, (⟨b, off, none⟩ : Addr).add j = ⟨b, off + j, none⟩ := fun j => by unfold Addr.add; split <;> simp_all
      refine .inr ⟨b, off, rfl, ?_, fun i hi => ?_⟩
      · have := World.block_lt_of_cell? w _ hc
        simpa [Addr.add] using this
      · have h1 := h i hi
        rw [ea, ea] at h1
        have hg : ((List.range len).map f).getD i nop = f i := by
          rw [List.getD_eq_getElem?_getD, List.getElem?_map, List.getElem?_range hi]; rfl
        rw [hg, Nat.add_assoc]
        exact h1

theorem int_of_trodP {H : Type} {enc : TypeId × Value → H} {w : World} {base : Nat} {spare : Nat → Bool} {held : Bool} {n : Nat} {v : Value} {y : DataW H × List MemPlace} (h : DataW.trod enc Try.prog w base spare held n 3 [v] = some y) : ∃ z, v = .int .i64 z := by obtain ⟨z, e, _, _⟩ := DataW.trod_int Try.underlying3 h; simp at e; exact ⟨z, e⟩

set_option maxRecDepth 100000 in
theorem ids_of_trod {H : Type} {enc : TypeId × Value → H} {w : World} {fuel : Nat} {a : Option Addr} {len cap : Nat} {x : DataW H × List MemPlace} (h : DataW.trod enc Try.prog w 0 (fun _ => true) true fuel 57 [.slice a len cap] = some x) : IdsIn w a len cap := by
  rcases open_slice Try.underlying57 h with ⟨hcs, _⟩ | ⟨a', len', cap', m, n, D, Pl, hcs, _, hl, hm, hmm, _, hx⟩
  · simp at hcs
    obtain ⟨rfl, rfl, rfl⟩ := hcs
    exact ⟨Nat.zero_le _, .inr ⟨[], none, 0, rfl, Nat.le_refl _, Nat.zero_le _, .inl rfl⟩⟩
  · simp at hcs
    obtain ⟨rfl, rfl, rfl⟩ := hcs
    simp at hmm
    subst hmm
    have each : ∀ i, i < len → ∃ c : Pid, w.cell? (a'.add (i * 2)) = some (.int .i64 c.1) ∧ w.cell? (a'.add (i * 2 + 1)) = some (.int .i64 c.2) := by
      intro i hi
      obtain ⟨cs', h1, h2⟩ := hx i (by omega)
      rw [cells_lawsId] at h1
      obtain ⟨_, hlen, hcell⟩ := World.cells?_some h1
      obtain ⟨xs, k, hk, hxy, _, hxl, hf⟩ := DataW.trod_struct Try.underlying30 h2
      match xs, hxl, cs', hlen with
      | [y0, y1], _, [v0, v1], _ =>
        have g0 := hf 0 _ rfl
        have g1 := hf 1 _ rfl
        have ci : Try.prog.cellsOf 3 = 1 := by kernel_rfl
        simp [ci] at g0 g1
        obtain ⟨z0, rfl⟩ := int_of_trodP g0
        obtain ⟨z1, rfl⟩ := int_of_trodP g1
        have e0 := hcell 0 (by omega)
        have e1 := hcell 1 (by omega)
        rw [add_add] at e0 e1
        exact ⟨(z0, z1), by simpa using e0, by simpa using e1⟩
    haveI : Inhabited Pid := ⟨nop⟩
    obtain ⟨f, hf⟩ := choose_lt (α := Pid) each
    exact ids_of_fn f hl hm hf
end Go.Proofs.Ytblkpkjgmjnimaa

/- What the frames of laws over entries use. -/
namespace Go.Proofs.Ytblkpkjgmjnimaa
open Go.ChangeShapes Go.WideShapes Go.ChangeAt Go.RowKit Go.Joins Go.Deep
set_option linter.unusedVariables false

theorem cells_lawsIdR : Try.prog.cellsOf 30 = 2 := by kernel_rfl
theorem cells_lawsCmdR : Try.prog.cellsOf 56 = 3 := by kernel_rfl
theorem cells_lawsEnR : Try.prog.cellsOf 59 = 9 := by kernel_rfl

set_option maxRecDepth 100000 in
theorem idR_of_trod {H : Type} {enc : TypeId × Value → H} {w : World} {base : Nat} {spare : Nat → Bool} {held : Bool} {n : Nat} {v0 v1 : Value} {y : DataW H × List MemPlace} (h : DataW.trod enc Try.prog w base spare held n 30 [v0, v1] = some y) : ∃ p r, v0 = .int .i64 p ∧ v1 = .int .i64 r := by
  obtain ⟨xs, k, hk, hxy, _, hxl, hf⟩ := DataW.trod_struct Try.underlying30 h
  match xs, hxl with
  | [y0, y1], _ =>
    have g0 := hf 0 _ rfl
    have g1 := hf 1 _ rfl
    have ci : Try.prog.cellsOf 3 = 1 := by kernel_rfl
    simp [ci] at g0 g1
    obtain ⟨z0, rfl⟩ := int_of_trodP g0
    obtain ⟨z1, rfl⟩ := int_of_trodP g1
    exact ⟨z0, z1, rfl, rfl⟩

set_option maxRecDepth 100000 in
theorem cmdR_of_trod {H : Type} {enc : TypeId × Value → H} {w : World} {base : Nat} {spare : Nat → Bool} {held : Bool} {n : Nat} {v0 v1 v2 : Value} {y : DataW H × List MemPlace} (h : DataW.trod enc Try.prog w base spare held n 56 [v0, v1, v2] = some y) : ∃ p r s, v0 = .int .i64 p ∧ v1 = .int .i64 r ∧ v2 = .int .i64 s := by
  obtain ⟨xs, k, hk, hxy, _, hxl, hf⟩ := DataW.trod_struct Try.underlying56 h
  match xs, hxl with
  | [y0, y1, y2], _ =>
    have g0 := hf 0 _ rfl
    have g1 := hf 1 _ rfl
    have g2 := hf 2 _ rfl
    have ci : Try.prog.cellsOf 3 = 1 := by kernel_rfl
    simp [ci] at g0 g1 g2
    obtain ⟨z0, rfl⟩ := int_of_trodP g0
    obtain ⟨z1, rfl⟩ := int_of_trodP g1
    obtain ⟨z2, rfl⟩ := int_of_trodP g2
    exact ⟨z0, z1, z2, rfl, rfl, rfl⟩

theorem idsvR_of_trod {H : Type} {enc : TypeId × Value → H} {w : World} {fuel : Nat} {v : Value} {x : DataW H × List MemPlace} (h : DataW.trod enc Try.prog w 0 (fun _ => true) true fuel 57 [v] = some x) : ∃ ua un uc, v = .slice ua un uc ∧ IdsIn w ua un uc := by
  rcases open_slice Try.underlying57 h with ⟨hcs, _⟩ | ⟨a', len', cap', m, n, D, Pl, hcs, _⟩
  · simp at hcs
    subst hcs
    exact ⟨_, _, _, rfl, ids_of_trod h⟩
  · simp at hcs
    subst hcs
    exact ⟨_, _, _, rfl, ids_of_trod h⟩

set_option maxRecDepth 100000 in
theorem en_of_trod {H : Type} {enc : TypeId × Value → H} {w : World} {fuel : Nat} {l : List Value} {x : DataW H × List MemPlace} (hlen : l.length = 9) (h : DataW.trod enc Try.prog w 0 (fun _ => true) true fuel 59 l = some x) :
    ∃ (p r bal st k key v s : Int) (ua : Option Addr) (un uc : Nat), l = [.int .i64 p, .int .i64 r, .int .i64 bal, .int .i64 st, .int .i64 k, .int .i64 key, .int .i64 v, .int .i64 s, .slice ua un uc] ∧ IdsIn w ua un uc := by
  obtain ⟨xs, k, hk, hxy, _, hxl, hf⟩ := DataW.trod_struct Try.underlying59 h
  match xs, hxl, l, hlen with
  | [y0, y1, y2, y3, y4, y5], _, [v0, v1, v2, v3, v4, v5, v6, v7, v8], _ =>
    have g0 := hf 0 _ rfl
    have g1 := hf 1 _ rfl
    have g2 := hf 2 _ rfl
    have g3 := hf 3 _ rfl
    have g4 := hf 4 _ rfl
    have g5 := hf 5 _ rfl
    have ci : Try.prog.cellsOf 3 = 1 := by kernel_rfl
    have cs : Try.prog.cellsOf 57 = 1 := by kernel_rfl
    simp [ci, cs, cells_lawsIdR, cells_lawsCmdR] at g0 g1 g2 g3 g4 g5
    obtain ⟨p, r, rfl, rfl⟩ := idR_of_trod g0
    obtain ⟨b, rfl⟩ := int_of_trodP g1
    obtain ⟨st, rfl⟩ := int_of_trodP g2
    obtain ⟨z0, z1, z2, rfl, rfl, rfl⟩ := cmdR_of_trod g3
    obtain ⟨s, rfl⟩ := int_of_trodP g4
    obtain ⟨ua, un, uc, rfl, hu⟩ := idsvR_of_trod g5
    exact ⟨p, r, b, st, z0, z1, z2, s, ua, un, uc, rfl, hu⟩
end Go.Proofs.Ytblkpkjgmjnimaa
