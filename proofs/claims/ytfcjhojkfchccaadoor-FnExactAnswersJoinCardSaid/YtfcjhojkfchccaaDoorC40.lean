/- Texts laid together. -/
import Derived.Test.YtfcjhojkfchccaaDoorC39
import Derived.Test.YtfcjhojkfchccaaDoorC35
/- What the frames of laws over slices of entries use. -/
namespace Go.Proofs.YtfcjhojkfchccaaDoor
open Go.ChangeShapes Go.WideShapes Go.ChangeAt Go.RowKit Go.Joins Go.Deep
set_option linter.unusedVariables false

theorem les_of_fn {w : World} {x : Addr} {len cap : Nat} (hl : len ≤ cap) (hm : cap ≤ maxLen)
    (h : ∀ i, i < len → ∃ (e : En) (ua : Option Addr) (un uc : Nat), (∀ j u, [Value.int .i64 e.id.1, .int .i64 e.id.2, .int .i64 e.bal, .int .i64 e.st, .int .i64 e.k, .int .i64 e.key, .int .i64 e.v, .int .i64 e.seq, .slice ua un uc][j]? = some u → w.cell? (x.add (i * 9 + j)) = some u) ∧ IdsIn w ua un uc) :
    LEs w (some x) len cap := by
  refine ⟨Nat.le_trans hl hm, hl, ?_⟩
  by_cases h0 : len = 0
  · exact .inl h0
  · obtain ⟨b, off, spot⟩ := x
    obtain ⟨e, ua, un, uc, hc, _⟩ := h 0 (by omega)
    have hc0 := hc 0 _ rfl
    have hspot : spot = none := by simpa [Addr.add] using World.cell?_spot hc0
    subst hspot
    have ea : ∀ j, (⟨b, off, none⟩ : Addr).add j = ⟨b, off + j, none⟩ := fun j => by unfold Addr.add; split <;> simp_all
    refine .inr ⟨b, off, rfl, ?_, fun i hi => ?_⟩
    · have := World.block_lt_of_cell? w _ hc0
      simpa [Addr.add] using this
    · obtain ⟨e, ua, un, uc, hc, hI⟩ := h i hi
      have c := fun j u (hj : [Value.int .i64 e.id.1, .int .i64 e.id.2, .int .i64 e.bal, .int .i64 e.st, .int .i64 e.k, .int .i64 e.key, .int .i64 e.v, .int .i64 e.seq, .slice ua un uc][j]? = some u) => by
        have := hc j u hj
        rw [ea, ← Nat.add_assoc] at this
        exact this
      exact ⟨e, ua, un, uc, c 0 _ rfl, c 1 _ rfl, c 2 _ rfl, c 3 _ rfl, c 4 _ rfl, c 5 _ rfl, c 6 _ rfl, c 7 _ rfl, c 8 _ rfl, hI.1, hI.2⟩

set_option maxRecDepth 100000 in
theorem les_of_trod {H : Type} {enc : TypeId × Value → H} {w : World} {fuel : Nat} {a : Option Addr} {len cap : Nat} {x : DataW H × List MemPlace} (h : DataW.trod enc Tryd.prog w 0 (fun _ => true) true fuel 49 [.slice a len cap] = some x) : LEs w a len cap := by
  rcases open_slice Tryd.underlying49 h with ⟨hcs, _⟩ | ⟨a', len', cap', m, n, D, Pl, hcs, _, hl, hm, hmm, _, hx⟩
  · simp at hcs
    obtain ⟨rfl, rfl, rfl⟩ := hcs
    exact ⟨Nat.zero_le _, Nat.le_refl _, .inl rfl⟩
  · simp at hcs
    obtain ⟨rfl, rfl, rfl⟩ := hcs
    simp at hmm
    subst hmm
    refine les_of_fn hl hm fun i hi => ?_
    obtain ⟨cs', h1, h2⟩ := hx i (by omega)
    rw [cells_lawsEnR] at h1
    obtain ⟨_, hlen, hcell⟩ := World.cells?_some h1
    obtain ⟨p, r, bal, st, k, key, v, s, ua, un, uc, rfl, hI⟩ := en_of_trod hlen h2
    refine ⟨⟨(p, r), bal, st, k, key, v, s, []⟩, ua, un, uc, fun j u hj => ?_, hI⟩
    have hj9 : j < 9 := by
      rcases Nat.lt_or_ge j 9 with hlt | hge
      · exact hlt
      · rw [List.getElem?_eq_none (by simpa using hge)] at hj; cases hj
    have e0 := hcell j (by simpa using hj9)
    rw [add_add] at e0
    rw [e0]
    exact hj
end Go.Proofs.YtfcjhojkfchccaaDoor
