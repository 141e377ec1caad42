/- Cells that are set in a row; copies of elements of two cells. -/
import Derived.Test.YtoepimmkebbgcaaSput
import Derived.Laws.IdiomCopy
import Derived.Laws.Externs
import Derived.Lib.Overlaps
import Derived.Lib.AppendZerosOnto
import Derived.Laws.NewBlocks
namespace Go.Proofs.Ytoepimmkebbgcaa
open Go.RowKit
set_option linter.unusedVariables false

theorem sc_heap (b : Nat) : ∀ (vs : List Value) (o : Nat) (w : World) (cur : Array Value) (t : TypeId), w.heap[b]? = some (.cells cur t (0, 0)) → ∃ cur', (w.setCells b o vs).heap[b]? = some (.cells cur' t (0, 0)) ∧ cur'.size = cur.size
  | [], _, _, cur, _, h => ⟨cur, h, rfl⟩
  | v :: r, o, w, cur, t, h => by
    obtain ⟨cur', h1, h2⟩ := sc_heap b r (o + 1) (w.setCell ⟨b, o, none⟩ v) _ t (heap_setCell_same w b o cur t v h)
    exact ⟨cur', h1, by simpa using h2⟩
theorem sc_below (b B : Nat) (hB : B ≤ b) : ∀ (vs : List Value) (o : Nat) (w : World), Below B w (w.setCells b o vs)
  | [], _, w => Below.refl _ _
  | v :: r, o, w => ((Below.refl _ _).setCell (by simpa using hB) v).trans (sc_below b B hB r (o + 1) _)

/-- What two copies leave, the front cells being known. -/
theorem two_sets (W : World) (b i n : Nat) (hi : i ≤ n) (cs : List Value) (x y : Value) (hcl : cs.length = n * 2) (hsome : ∀ j, j < (n + 1) * 2 → (W.cell? ⟨b, j, none⟩).isSome = true) (hfront : ∀ j, j < i * 2 → W.cell? ⟨b, j, none⟩ = cs[j]?) :
    (∀ j, j < (n + 1) * 2 → ((W.setCells b ((i + 1) * 2) (cs.drop (i * 2))).setCells b (i * 2) [x, y]).cell? ⟨b, j, none⟩ = (cs.take (i * 2) ++ x :: y :: cs.drop (i * 2))[j]?) ∧
    (∀ j, j < (n + 1) * 2 → ((W.setCells b (i * 2) [x, y]).setCells b ((i + 1) * 2) (cs.drop (i * 2))).cell? ⟨b, j, none⟩ = (cs.take (i * 2) ++ x :: y :: cs.drop (i * 2))[j]?) := by
  have hdl : (cs.drop (i * 2)).length = (n - i) * 2 := by rw [List.length_drop, hcl]; omega
  have htl : (cs.take (i * 2)).length = i * 2 := by rw [List.length_take, hcl]; omega
  have s1 : ∀ (V : World), (∀ j, j < (n + 1) * 2 → (V.cell? ⟨b, j, none⟩).isSome = true) → ∀ (vs : List Value) (o : Nat), o + vs.length ≤ (n + 1) * 2 → ∀ j, j < vs.length → (V.setCells b o vs).cell? ⟨b, o + j, none⟩ = vs[j]? := by
    intro V hV vs o ho j hj
    rw [World.cell?_setCells_in b vs o V (fun k hk => hV _ (by omega)) j hj, List.getElem?_eq_getElem hj]
  have s2 : ∀ (V : World) (vs : List Value) (o j : Nat), (j < o ∨ o + vs.length ≤ j) → (V.setCells b o vs).cell? ⟨b, j, none⟩ = V.cell? ⟨b, j, none⟩ := fun V vs o j h => World.cell?_setCells_out b vs o V ⟨b, j, none⟩ (fun _ _ => h)
  have s3 : ∀ (V : World), (∀ j, j < (n + 1) * 2 → (V.cell? ⟨b, j, none⟩).isSome = true) → ∀ (vs : List Value) (o : Nat), o + vs.length ≤ (n + 1) * 2 → ∀ j, j < (n + 1) * 2 → ((V.setCells b o vs).cell? ⟨b, j, none⟩).isSome = true := by
    intro V hV vs o ho j hj
    by_cases hin : o ≤ j ∧ j < o + vs.length
    · rw [show j = o + (j - o) by omega, s1 V hV vs o ho _ (by omega), List.getElem?_eq_getElem (by omega)]; rfl
    · rw [s2 V vs o j (by omega)]; exact hV j hj
  have L1 : ∀ j, j < i * 2 → (cs.take (i * 2) ++ x :: y :: cs.drop (i * 2))[j]? = cs[j]? := fun j hj => by
    rw [List.getElem?_append_left (by omega), List.getElem?_take, if_pos hj]
  have L2 : ∀ j, j < 2 → (cs.take (i * 2) ++ x :: y :: cs.drop (i * 2))[i * 2 + j]? = [x, y][j]? := fun j hj => by
    rw [List.getElem?_append_right (by omega), htl, show i * 2 + j - i * 2 = j by omega]
    match j, hj with
    | 0, _ => rfl
    | 1, _ => rfl
  have L3 : ∀ j, (cs.take (i * 2) ++ x :: y :: cs.drop (i * 2))[(i + 1) * 2 + j]? = (cs.drop (i * 2))[j]? := fun j => by
    rw [List.getElem?_append_right (by omega), htl, show (i + 1) * 2 + j - i * 2 = j + 2 by omega]; rfl
  constructor
  · intro j hj
    rcases (show j < i * 2 ∨ (i * 2 ≤ j ∧ j < i * 2 + 2) ∨ (i + 1) * 2 ≤ j by omega) with h | h | h
    · rw [s2 _ _ _ _ (by left; exact h), s2 _ _ _ _ (by omega), hfront j h, L1 j h]
    · obtain ⟨q, rfl⟩ : ∃ q, j = i * 2 + q := ⟨j - i * 2, by omega⟩
      rw [L2 q (by omega), s1 _ (s3 _ hsome _ _ (by omega)) _ _ (by simp; omega) q (by simp; omega)]
    · obtain ⟨q, rfl⟩ : ∃ q, j = (i + 1) * 2 + q := ⟨j - (i + 1) * 2, by omega⟩
      rw [L3 q, s2 _ _ _ _ (by simp; omega), s1 _ hsome _ _ (by omega) q (by omega)]
  · intro j hj
    rcases (show j < i * 2 ∨ (i * 2 ≤ j ∧ j < i * 2 + 2) ∨ (i + 1) * 2 ≤ j by omega) with h | h | h
    · rw [s2 _ _ _ _ (by omega), s2 _ _ _ _ (by left; exact h), hfront j h, L1 j h]
    · obtain ⟨q, rfl⟩ : ∃ q, j = i * 2 + q := ⟨j - i * 2, by omega⟩
      rw [L2 q (by omega), s2 _ _ _ _ (by omega), s1 _ hsome _ _ (by simp; omega) q (by simp; omega)]
    · obtain ⟨q, rfl⟩ : ∃ q, j = (i + 1) * 2 + q := ⟨j - (i + 1) * 2, by omega⟩
      rw [L3 q, s1 _ (s3 _ hsome _ _ (by simp; omega)) _ _ (by omega) q (by omega)]

theorem flatP_take : ∀ (O : List Pid) (i : Nat), flatP (O.take i) = (flatP O).take (i * 2)
  | [], i => by simp [flatP]
  | c :: r, 0 => by simp [flatP]
  | c :: r, i + 1 => by
    rw [List.take_succ_cons, flatP, flatP_take r i, flatP, show (i + 1) * 2 = i * 2 + 2 by omega]; rfl
theorem flatP_drop : ∀ (O : List Pid) (i : Nat), flatP (O.drop i) = (flatP O).drop (i * 2)
  | [], i => by simp [flatP]
  | c :: r, 0 => by simp [flatP]
  | c :: r, i + 1 => by
    rw [List.drop_succ_cons, flatP_drop r i, flatP, show (i + 1) * 2 = i * 2 + 2 by omega]; rfl
theorem flatP_ins (O : List Pid) (i : Nat) (x y : Int) : flatP (O.take i ++ (x, y) :: O.drop i) = (flatP O).take (i * 2) ++ .int .i64 x :: .int .i64 y :: (flatP O).drop (i * 2) := by
  rw [flatP_app, flatP_take, flatP, flatP_drop]; rfl
theorem ins_len {O : List Pid} {i : Nat} {a : Pid} (h : i ≤ O.length) : (O.take i ++ a :: O.drop i).length = O.length + 1 := by
  rw [List.length_append, List.length_take, List.length_cons, List.length_drop]; omega

/-- A row by its cells. -/
theorem row_of {w' : World} {B b cap : Nat} {O' : List Pid} {cur' : Array Value} (hB : B ≤ b) (hblk : w'.heap[b]? = some (.cells cur' 24 (0, 0))) (hsz : cur'.size = cap * 2) (hl : O'.length ≤ cap) (hm : cap ≤ maxLen)
    (hcells : ∀ j, j < O'.length * 2 → w'.cell? ⟨b, j, none⟩ = (flatP O')[j]?) : Row w' B (.slice (some ⟨b, 0, none⟩) O'.length cap) O' := by
  refine ⟨⟨flatP_len O', .inr ⟨b, cap, cur', rfl, hB, hblk, hl, hm, hsz, ?_⟩⟩, by simp⟩
  apply List.ext_getElem?
  intro j
  by_cases hj : j < O'.length * 2
  · rw [List.getElem?_take, if_pos hj, ← hcells j hj, cell_of_cells hblk]; simp
  · rw [List.getElem?_eq_none (by rw [List.length_take]; omega), List.getElem?_eq_none (by rw [flatP_len]; omega)]

/-- ALL IS READ BEFORE ANYTHING IS WRITTEN: elements of two cells. -/
theorem run_copy2 {P : Program} (w : World) (dT sT ty elem : TypeId) (b o dLen dCap : Nat) (a : Addr) (sLen sCap k : Nat) (cs : List Value)
    (hu : P.underlying dT = some (.slice elem)) (hs : (P.info? elem).map (·.size) = some 2) (hk : Nat.min sLen dLen = k) (hn : cs.length = k * 2)
    (hsrc : ∀ j v, cs[j]? = some v → w.cell? (a.add j) = some v) (hc : ∀ j, j < cs.length → (w.cell? ⟨b, o + j, none⟩).isSome = true) (hf : ∀ j, j < cs.length → w.frozen? ⟨b, o + j, none⟩ = false) (h1 : ∀ v ∈ cs, v.oneCell' = true) :
    (Builtin.copy_ #[dT, sT] ty #[.slice (some ⟨b, o, none⟩) dLen dCap, .slice (some a) sLen sCap]).run P w = .ok (goInt k) (w.setCells b o cs) := by
  have hl := run_loadCells_list (P := P) w a cs hsrc
  rw [hn] at hl
  have hst := run_storeCells_cells (P := P) b o cs 0 w (by simpa using hc) (by simpa using hf) h1
  cases hq : P.info? elem with
  | none => simp [hq] at hs
  | some i =>
    have hi : i.size = 2 := by simpa [hq] using hs
    simp [Builtin.copy_, run_underlying hu, Builtin.lenOf, Builtin.firstCells, sizeOf, typeInfo, hq, hi, hk, hl, hst]

theorem wpList_copy2 {P : Program} (w : World) {ops : Array Oper} {rest : List Oper} {o : Oper} {a : Act} {Q : Exit → Act → World → Prop} (hgd : o.guard = none) (d s : Operand) (t t' : TypeId)
    (ho : o.op = .call { callee := .builtin .copy, args := #[d, s], argTypes := #[t, t'] }) (v u : Value) (hd : a.eval d = v) (hs : a.eval s = u) {v' : Value} {w' : World}
    (hr : (Builtin.copy_ #[t, t'] o.type #[v, u]).run P w = .ok v' w') (h : wpList P ops Q rest (a.put o.dst v') w') : wpList P ops Q (o :: rest) a w :=
  wpList_plain hgd fun _ hK => by
    have hK' := hK _ _ h
    unfold Oper.wp execOp
    simp only [ho, resolve, invoke, builtin, Sem.run_bind, Sem.run_pure, Result.andThen_ok, List.map_toArray, List.map_cons, List.map_nil, hd, hs, hr]
    exact hK'

theorem step_copy2 {P : Program} {ops : Array Oper} {o : Oper} {a : Act} {w : World} {K : Act → World → Prop} {Q : Exit → Act → World → Prop} {E : Prop}
    (hg : o.guard = none) (d x : Operand) (dT sT : TypeId) (hop : o.op = Op.call { callee := Callee.builtin Builtin.copy, args := #[d, x], argTypes := #[dT, sT] })
    (v u : Value) (hd : a.eval d = v) (hx : a.eval x = u) {v' : Value} {w' : World} (hr : (Builtin.copy_ #[dT, sT] o.type #[v, u]).run P w = .ok v' w') (hK : K (a.put o.dst v') w') :
    if Region.wanted o (yielded ops a.tmps) = true then Oper.wp P o a w K Q else E := by
  have hw : Region.wanted o (yielded ops a.tmps) = true := by simp [Region.wanted, hg]
  rw [if_pos hw]
  unfold Oper.wp
  simp [execOp, hop, resolve, invoke, builtin, hd, hx, hr, Result.andThen]
  exact hK
end Go.Proofs.Ytoepimmkebbgcaa
